/-
  The law HullOrder, under what package hull owes.
-/
import Derived.Test.YthcfbfgfpophmaaHullOwn
import Derived.Test.YthcfbfgfpophmaaHullSm
namespace Go.Proofs.Ythcfbfgfpophmaa
open Go.RowKit
namespace Hl

def nth (l : List Int) (k : Nat) : Int := l.getD k 0
/-- Bytes in memory. -/
def SbF (w : World) (A : Option Addr) (bs : List Int) : Prop := ∀ k, k < bs.length → ∃ b o, A = some ⟨b, o, none⟩ ∧ b < w.heap.size ∧ w.cell? ⟨b, o + k, none⟩ = some (.int .u8 (nth bs k)) ∧ 0 ≤ nth bs k ∧ nth bs k ≤ 255
/-- The last k of the list, turned round. -/
def RevB (l po : List Pt) (k : Nat) : Prop := po.length = k ∧ (∀ x, x ∈ po → x ∈ l) ∧ ∀ m, m < l.length → l.length ≤ k + m → at' l m ∈ po
theorem RevB.zero (l : List Pt) : RevB l [] 0 := ⟨rfl, (fun x h => by cases h), (fun m h1 h2 => by omega)⟩
theorem RevB.step {l po : List Pt} {k m : Nat} (h : RevB l po k) (e : l.length = k + 1 + m) : RevB l (po ++ [at' l m]) (k + 1) := by
  refine ⟨by rw [List.length_append, h.1]; rfl, fun x hx => ?_, fun j h1 h2 => ?_⟩
  · rcases List.mem_append.1 hx with hx | hx
    · exact h.2.1 x hx
    · rw [List.mem_singleton.1 hx]; exact at_mem (by omega)
  · by_cases ej : j = m
    · rw [ej]; exact List.mem_append.2 (Or.inr (List.mem_singleton.2 rfl))
    · exact List.mem_append.2 (Or.inl (h.2.2 j h1 (by omega)))
/-- The same points, at most k more of them. -/
def MemB (l po : List Pt) (k : Nat) : Prop := (∀ x, x ∈ po → x ∈ l) ∧ (∀ x, x ∈ l → x ∈ po) ∧ po.length ≤ l.length + k
theorem RevB.all {l po : List Pt} {k : Nat} (h : RevB l po k) (hk : l.length = k) : MemB l po 0 := ⟨h.2.1, fun x hx => by
  obtain ⟨i, hi, e⟩ := mem_at hx
  rw [← e]; exact h.2.2 i hi (by omega), by rw [h.1]; omega⟩
theorem MemB.step {l po : List Pt} {k m : Nat} (h : MemB l po k) (hm : m < l.length) : MemB l (po ++ [at' l m]) (k + 1) := ⟨fun x hx => by
  rcases List.mem_append.1 hx with hx | hx
  · exact h.1 x hx
  · rw [List.mem_singleton.1 hx]; exact at_mem hm, fun x hx => List.mem_append.2 (Or.inl (h.2.1 x hx)), by have := h.2.2; simp; omega⟩
theorem MemB.hull {l po q : List Pt} {k : Nat} (h : MemB l po k) (hq : IsHull po q) : IsHull l q := ⟨hq.1, fun x hx => h.1 x (hq.2.1 x hx), fun x hx => hq.2.2 x (h.2.1 x hx)⟩
theorem MemB.ne {l po : List Pt} {k : Nat} (h : MemB l po k) (hn : l ≠ []) : po ≠ [] := fun e => by
  obtain ⟨x, hx⟩ := List.exists_mem_of_ne_nil l hn
  have := h.2.1 x hx
  rw [e] at this
  cases this
theorem MemB.plcs {l po : List Pt} {k : Nat} (h : MemB l po k) (hp : Plcs l) : Plcs po := fun i hi => by
  obtain ⟨j, hj, e⟩ := mem_at (h.1 _ (at_mem hi))
  rw [← e]; exact hp j hj
theorem MemB.bad {l po : List Pt} {k : Nat} (h : MemB l po k) (hp : ¬ Plcs l) : ¬ Plcs po := fun t => hp (fun i hi => by
  obtain ⟨j, hj, e⟩ := mem_at (h.2.1 _ (at_mem hi))
  rw [← e]; exact t j hj)
theorem hull_plcs {l q : List Pt} (h : IsHull l q) (hp : Plcs l) : Plcs q := fun i hi => by
  obtain ⟨j, hj, e⟩ := mem_at (h.2.1 _ (at_mem hi))
  rw [← e]; exact hp j hj
theorem hs_corner {p : List Pt} (h : Pg p) {i : Nat} (hi : i < p.length) : Hs p (at' p i) := by
  by_cases h1 : p.length = 1
  · obtain rfl : i = 0 := by omega
    exact (hs1 h1).2 rfl
  · by_cases h2 : p.length = 2
    · rw [hs2 h2]
      by_cases e : i = 0
      · subst e; exact ⟨cr_self _ _, by unfold btw; omega⟩
      · obtain rfl : i = 1 := by omega
        exact ⟨cr_self' _ _, by unfold btw; omega⟩
    · have h3 : 3 ≤ p.length := by have := h.1; omega
      rw [hs3 h3]
      intro j hj
      by_cases e1 : i = j
      · rw [e1, cr_self]; exact Int.le_refl _
      · by_cases e2 : i = (j + 1) % p.length
        · rw [← e2, cr_self']; exact Int.le_refl _
        · exact Int.le_of_lt (h.2.2 (by omega) j i hj hi e1 e2)
theorem hull_self {q : List Pt} (h : Pg q) : IsHull q q := ⟨h, fun _ hx => hx, fun x hx => by
  obtain ⟨i, hi, e⟩ := mem_at hx
  rw [← e]; exact hs_corner h hi⟩
set_option maxRecDepth 100000 in
set_option maxHeartbeats 4000000 in
theorem order_bad (K : Code) (l : List Pt) (bs : List Int) (A : Option Addr) (b o c cb : Nat) (w : World) (L40 : (l.length : Int) ≤ 40) (B40 : (bs.length : Int) ≤ 40) (HR : Hid (Row w b o l)) (BY : Hid (SbF w A bs)) (NE : Hid (l ≠ [])) (BAD : Hid (¬ Plcs l)) : Calls Try.prog 5 #[.slice (some ⟨b, o, none⟩) l.length c, .slice A bs.length cb] w fun e w' => e = .returned (.bool true) ∧ Grew w w' := by
  go_enter Try.func5, Try.ntmps5
  go_wp2_with fail
  refine (head_true K _).mono ?_
  rintro e w1 ⟨rfl, g1⟩
  obtain ⟨c1, f1, z1⟩ := laid g1
  try simp at z1
  have G1 : Grew w w1 := Grew.trans (by (repeat' (first | (with_reducible exact Grew.refl _) | (with_reducible assumption) | (with_reducible refine Grew.alloc ?_ _ _) | (with_reducible refine Grew.drew ?_) | (with_reducible refine Grew.drewN ?_ _) | (with_reducible refine Grew.setCell ?_ ?_ _) | go_size))) g1
  clear g1
  go_wp2_with fail
  refine (K.hull_bad l _ _ ((Sl.of (c := c) HR.out).grown (by (repeat' (first | (with_reducible exact Grew.refl _) | (with_reducible assumption) | (with_reducible refine Grew.alloc ?_ _ _) | (with_reducible refine Grew.drew ?_) | (with_reducible refine Grew.drewN ?_ _) | (with_reducible refine Grew.setCell ?_ ?_ _) | go_size)))) (by omega) (Or.inr BAD.out)).mono ?_
  rintro e w2 ⟨v2, rfl, hs2, g2⟩
  have E2 := Lib.hid hs2
  have G2 : Grew w w2 := Grew.trans (by (repeat' (first | (with_reducible exact Grew.refl _) | (with_reducible assumption) | (with_reducible refine Grew.alloc ?_ _ _) | (with_reducible refine Grew.drew ?_) | (with_reducible refine Grew.drewN ?_ _) | (with_reducible refine Grew.setCell ?_ ?_ _) | go_size))) g2
  clear g2 hs2 c1 f1 z1 G1
  go_wp2_with fail
  go_loopw [8, 33] (fun o8 i wr => ∃ (k : Nat) (po : List Pt), k ≤ l.length ∧ i = .int .i64 k ∧ Grew w2 wr ∧ Own w2.heap.size wr o8 po ∧ RevB l po k) (fun _ i _ => l.length - (intOf i).toNat)
  case atStart => exact ⟨0, [], Nat.zero_le _, rfl, Grew.refl _, Own.nil _ _, RevB.zero l⟩
  case round =>
    obtain ⟨k, po, hk, rfl, G, OW, RB⟩ := hrel
    by_cases hlt : k < l.length
    · obtain ⟨m, hm⟩ : ∃ m, l.length = k + 1 + m := ⟨l.length - (k + 1), by omega⟩
      have EM : Hid (l.length = k + 1 + m) := Lib.hid hm
      have hml : m < l.length := by omega
      obtain ⟨s0, s1⟩ := (HR.out.grown (Grew.trans G2 G)).2 m hml
      have hb := (HR.out.grown (Grew.trans G2 G)).1
      have e1 : ((l.length : Int) - 1 - (k : Int)).toNat = m := by omega
      have e2 : (0 : Int) ≤ (l.length : Int) - 1 - (k : Int) := by omega
      have e3 : (l.length : Int) - 1 - (k : Int) < (l.length : Int) := by omega
      have e4 : (l.length : Int) - 1 - (k : Int) = (m : Int) := by omega
      clear hm
      go_wp2_with (at_builtin; refine append_pt _ rfl _ _ rfl w2.heap.size _ po (at' l m) wr.heap.size 1 rfl (OW.alloc _) rfl (by simp [go_sem]) (by simp [go_sem]) (by have := RB.1; omega) (by have := G.size; simp; omega) ?_; intro v' w' own' gr'; have G' : Grew w2 w' := gr' w2 (Nat.le_refl _) (by (repeat' (first | (with_reducible exact Grew.refl _) | (with_reducible assumption) | (with_reducible refine Grew.alloc ?_ _ _) | (with_reducible refine Grew.drew ?_) | (with_reducible refine Grew.drewN ?_ _) | (with_reducible refine Grew.setCell ?_ ?_ _) | go_size))); clear gr')
      go_roundw
      case rel => exact ⟨k + 1, po ++ [at' l m], by omega, by go_num, G', own', RB.step EM.out⟩
      case measure => simp [intOf]; omega
    · have MB : MemB l po 0 := RB.all (by omega)
      clear RB
      go_wp2_with fail
      obtain ⟨wo, rfl⟩ : ∃ wo : World, wo = wr := ⟨_, rfl⟩
      have Go := G
      have Oo := OW
      clear G OW
      go_loopw [8, 50] (fun o8 i wr => ∃ (k : Nat) (po : List Pt), k ≤ bs.length ∧ i = .int .i64 k ∧ Grew w2 wr ∧ Own w2.heap.size wr o8 po ∧ MemB l po k) (fun _ i _ => bs.length - (intOf i).toNat)
      case atStart => exact ⟨0, po, Nat.zero_le _, rfl, Go, Oo, MB⟩
      case round =>
        clear Go Oo MB
        obtain ⟨k, po, hk, rfl, G, OW, MB⟩ := hrel
        by_cases hlt : k < bs.length
        · obtain ⟨b', o', rfl, hb', hc', n0, n1⟩ := BY.out k hlt
          have hc'' := (Grew.cell (Grew.trans G2 G) hb').trans hc'
          clear hc'
          obtain ⟨n, hn⟩ : ∃ n, nth bs k = n := ⟨_, rfl⟩
          rw [hn] at hc'' n0 n1
          clear hn
          obtain ⟨m, hm⟩ : ∃ m : Nat, n.toNat % l.length = m := ⟨_, rfl⟩
          have lp : 0 < l.length := List.length_pos_iff.2 NE.out
          have hml : m < l.length := by rw [← hm]; exact Nat.mod_lt _ lp
          have TM' : n.tmod (l.length : Int) = (m : Int) := by
            rw [← hm, Int.natCast_emod, Int.toNat_of_nonneg n0]
            exact Int.tmod_eq_emod_of_nonneg n0
          have TM2 : n % (l.length : Int) = (m : Int) := by rw [← TM']; exact (Int.tmod_eq_emod_of_nonneg n0).symm
          clear hm
          have nz : (l.length : Int) ≠ 0 := by omega
          have nz2 : ((l.length : Int) == 0) = false := by rw [beq_eq_false_iff_ne]; omega
          have nz3 : (0 : Int) < (l.length : Int) := by omega
          have nz4 : 0 < l.length := by omega
          obtain ⟨s0, s1⟩ := (HR.out.grown (Grew.trans G2 G)).2 m hml
          have hb := (HR.out.grown (Grew.trans G2 G)).1
          have i0 : (0 : Int) ≤ (k : Int) := by omega
          have i1 : (k : Int) < (bs.length : Int) := by omega
          have i2 : (m : Int) < (l.length : Int) := by omega
          go_wp2_with (at_builtin; refine append_pt _ rfl _ _ rfl w2.heap.size _ po (at' l m) wr.heap.size 1 rfl (OW.alloc _) rfl (by simp [go_sem]) (by simp [go_sem]) (by have := MB.2.2; omega) (by have := G.size; simp; omega) ?_; intro v' w' own' gr'; have G' : Grew w2 w' := gr' w2 (Nat.le_refl _) (by (repeat' (first | (with_reducible exact Grew.refl _) | (with_reducible assumption) | (with_reducible refine Grew.alloc ?_ _ _) | (with_reducible refine Grew.drew ?_) | (with_reducible refine Grew.drewN ?_ _) | (with_reducible refine Grew.setCell ?_ ?_ _) | go_size))); clear gr')
          go_roundw
          case rel => exact ⟨k + 1, po ++ [at' l m], by omega, by go_num, G', own', MB.step hml⟩
          case measure => simp [intOf]; omega
        · have ek : k = bs.length := by omega
          subst ek
          go_wp2_with fail
          refine (K.hull_bad po _ _ OW.sl (by have := MB.2.2; omega) (Or.inr (MB.bad BAD.out))).mono ?_
          rintro e w3 ⟨v3, rfl, hs3, g3⟩
          have G3 : Grew w2 w3 := Grew.trans (by (repeat' (first | (with_reducible exact Grew.refl _) | (with_reducible assumption) | (with_reducible refine Grew.alloc ?_ _ _) | (with_reducible refine Grew.drew ?_) | (with_reducible refine Grew.drewN ?_ _) | (with_reducible refine Grew.setCell ?_ ?_ _) | go_size))) g3
          go_wp2_with fail
          refine ((same_any [] [] _ _ _ ((E2.out.grown G).grown g3) hs3 (by decide)).mono fun _ _ t => t.to rfl).mono ?_
          rintro e w4 ⟨rfl, g4⟩
          have G4 : Grew w2 w4 := Grew.trans (by (repeat' (first | (with_reducible exact Grew.refl _) | (with_reducible assumption) | (with_reducible refine Grew.alloc ?_ _ _) | (with_reducible refine Grew.drew ?_) | (with_reducible refine Grew.drewN ?_ _) | (with_reducible refine Grew.setCell ?_ ?_ _) | go_size))) g4
          clear g3 g4
          go_wp2_with fail
          go_ret
          exact ⟨rfl, Grew.trans G2 G4⟩

set_option maxRecDepth 100000 in
set_option maxHeartbeats 4000000 in
theorem order_good (K : Code) (l : List Pt) (bs : List Int) (A : Option Addr) (b o c cb : Nat) (w : World) (L40 : (l.length : Int) ≤ 40) (B40 : (bs.length : Int) ≤ 40) (HR : Hid (Row w b o l)) (BY : Hid (SbF w A bs)) (NE : Hid (l ≠ [])) (PL : Hid (Plcs l)) : Calls Try.prog 5 #[.slice (some ⟨b, o, none⟩) l.length c, .slice A bs.length cb] w fun e w' => e = .returned (.bool true) ∧ Grew w w' := by
  go_enter Try.func5, Try.ntmps5
  go_wp2_with fail
  refine (head_true K _).mono ?_
  rintro e w1 ⟨rfl, g1⟩
  obtain ⟨c1, f1, z1⟩ := laid g1
  try simp at z1
  have G1 : Grew w w1 := Grew.trans (by (repeat' (first | (with_reducible exact Grew.refl _) | (with_reducible assumption) | (with_reducible refine Grew.alloc ?_ _ _) | (with_reducible refine Grew.drew ?_) | (with_reducible refine Grew.drewN ?_ _) | (with_reducible refine Grew.setCell ?_ ?_ _) | go_size))) g1
  clear g1
  go_wp2_with fail
  refine (K.hull_ok l _ _ ((Sl.of (c := c) HR.out).grown (by (repeat' (first | (with_reducible exact Grew.refl _) | (with_reducible assumption) | (with_reducible refine Grew.alloc ?_ _ _) | (with_reducible refine Grew.drew ?_) | (with_reducible refine Grew.drewN ?_ _) | (with_reducible refine Grew.setCell ?_ ?_ _) | go_size)))) (by omega) NE.out PL.out).mono ?_
  rintro e w2 ⟨q, hq, ⟨h64, v2, rfl, hs2, g2⟩ | ⟨h64, v2, rfl, hs2, g2⟩⟩
  · have E2 := Lib.hid hs2
    have HQ := Lib.hid hq
    have SM : Hid (q.length ≤ 64) := Lib.hid h64
    have G2 : Grew w w2 := Grew.trans (by (repeat' (first | (with_reducible exact Grew.refl _) | (with_reducible assumption) | (with_reducible refine Grew.alloc ?_ _ _) | (with_reducible refine Grew.drew ?_) | (with_reducible refine Grew.drewN ?_ _) | (with_reducible refine Grew.setCell ?_ ?_ _) | go_size))) g2
    clear g2 hs2 c1 f1 z1 G1 hq h64
    go_wp2_with fail
    go_loopw [8, 33] (fun o8 i wr => ∃ (k : Nat) (po : List Pt), k ≤ l.length ∧ i = .int .i64 k ∧ Grew w2 wr ∧ Own w2.heap.size wr o8 po ∧ RevB l po k) (fun _ i _ => l.length - (intOf i).toNat)
    case atStart => exact ⟨0, [], Nat.zero_le _, rfl, Grew.refl _, Own.nil _ _, RevB.zero l⟩
    case round =>
      obtain ⟨k, po, hk, rfl, G, OW, RB⟩ := hrel
      by_cases hlt : k < l.length
      · obtain ⟨m, hm⟩ : ∃ m, l.length = k + 1 + m := ⟨l.length - (k + 1), by omega⟩
        have EM : Hid (l.length = k + 1 + m) := Lib.hid hm
        have hml : m < l.length := by omega
        obtain ⟨s0, s1⟩ := (HR.out.grown (Grew.trans G2 G)).2 m hml
        have hb := (HR.out.grown (Grew.trans G2 G)).1
        have e1 : ((l.length : Int) - 1 - (k : Int)).toNat = m := by omega
        have e2 : (0 : Int) ≤ (l.length : Int) - 1 - (k : Int) := by omega
        have e3 : (l.length : Int) - 1 - (k : Int) < (l.length : Int) := by omega
        have e4 : (l.length : Int) - 1 - (k : Int) = (m : Int) := by omega
        clear hm
        go_wp2_with (at_builtin; refine append_pt _ rfl _ _ rfl w2.heap.size _ po (at' l m) wr.heap.size 1 rfl (OW.alloc _) rfl (by simp [go_sem]) (by simp [go_sem]) (by have := RB.1; omega) (by have := G.size; simp; omega) ?_; intro v' w' own' gr'; have G' : Grew w2 w' := gr' w2 (Nat.le_refl _) (by (repeat' (first | (with_reducible exact Grew.refl _) | (with_reducible assumption) | (with_reducible refine Grew.alloc ?_ _ _) | (with_reducible refine Grew.drew ?_) | (with_reducible refine Grew.drewN ?_ _) | (with_reducible refine Grew.setCell ?_ ?_ _) | go_size))); clear gr')
        go_roundw
        case rel => exact ⟨k + 1, po ++ [at' l m], by omega, by go_num, G', own', RB.step EM.out⟩
        case measure => simp [intOf]; omega
      · have MB : MemB l po 0 := RB.all (by omega)
        clear RB
        go_wp2_with fail
        obtain ⟨wo, rfl⟩ : ∃ wo : World, wo = wr := ⟨_, rfl⟩
        have Go := G
        have Oo := OW
        clear G OW
        go_loopw [8, 50] (fun o8 i wr => ∃ (k : Nat) (po : List Pt), k ≤ bs.length ∧ i = .int .i64 k ∧ Grew w2 wr ∧ Own w2.heap.size wr o8 po ∧ MemB l po k) (fun _ i _ => bs.length - (intOf i).toNat)
        case atStart => exact ⟨0, po, Nat.zero_le _, rfl, Go, Oo, MB⟩
        case round =>
          clear Go Oo MB
          obtain ⟨k, po, hk, rfl, G, OW, MB⟩ := hrel
          by_cases hlt : k < bs.length
          · obtain ⟨b', o', rfl, hb', hc', n0, n1⟩ := BY.out k hlt
            have hc'' := (Grew.cell (Grew.trans G2 G) hb').trans hc'
            clear hc'
            obtain ⟨n, hn⟩ : ∃ n, nth bs k = n := ⟨_, rfl⟩
            rw [hn] at hc'' n0 n1
            clear hn
            obtain ⟨m, hm⟩ : ∃ m : Nat, n.toNat % l.length = m := ⟨_, rfl⟩
            have lp : 0 < l.length := List.length_pos_iff.2 NE.out
            have hml : m < l.length := by rw [← hm]; exact Nat.mod_lt _ lp
            have TM' : n.tmod (l.length : Int) = (m : Int) := by
              rw [← hm, Int.natCast_emod, Int.toNat_of_nonneg n0]
              exact Int.tmod_eq_emod_of_nonneg n0
            have TM2 : n % (l.length : Int) = (m : Int) := by rw [← TM']; exact (Int.tmod_eq_emod_of_nonneg n0).symm
            clear hm
            have nz : (l.length : Int) ≠ 0 := by omega
            have nz2 : ((l.length : Int) == 0) = false := by rw [beq_eq_false_iff_ne]; omega
            have nz3 : (0 : Int) < (l.length : Int) := by omega
            have nz4 : 0 < l.length := by omega
            obtain ⟨s0, s1⟩ := (HR.out.grown (Grew.trans G2 G)).2 m hml
            have hb := (HR.out.grown (Grew.trans G2 G)).1
            have i0 : (0 : Int) ≤ (k : Int) := by omega
            have i1 : (k : Int) < (bs.length : Int) := by omega
            have i2 : (m : Int) < (l.length : Int) := by omega
            go_wp2_with (at_builtin; refine append_pt _ rfl _ _ rfl w2.heap.size _ po (at' l m) wr.heap.size 1 rfl (OW.alloc _) rfl (by simp [go_sem]) (by simp [go_sem]) (by have := MB.2.2; omega) (by have := G.size; simp; omega) ?_; intro v' w' own' gr'; have G' : Grew w2 w' := gr' w2 (Nat.le_refl _) (by (repeat' (first | (with_reducible exact Grew.refl _) | (with_reducible assumption) | (with_reducible refine Grew.alloc ?_ _ _) | (with_reducible refine Grew.drew ?_) | (with_reducible refine Grew.drewN ?_ _) | (with_reducible refine Grew.setCell ?_ ?_ _) | go_size))); clear gr')
            go_roundw
            case rel => exact ⟨k + 1, po ++ [at' l m], by omega, by go_num, G', own', MB.step hml⟩
            case measure => simp [intOf]; omega
          · have ek : k = bs.length := by omega
            subst ek
            go_wp2_with fail
            refine (K.hull_ok po _ _ OW.sl (by have := MB.2.2; omega) (MB.ne NE.out) (MB.plcs PL.out)).mono ?_
            rintro e w3 ⟨q', hq', ⟨h', v3, rfl, hs3, g3⟩ | ⟨h', v3, rfl, hs3, g3⟩⟩
            · obtain rfl := hull_unique (MB.hull hq') HQ.out
              have G3 : Grew w2 w3 := Grew.trans (by (repeat' (first | (with_reducible exact Grew.refl _) | (with_reducible assumption) | (with_reducible refine Grew.alloc ?_ _ _) | (with_reducible refine Grew.drew ?_) | (with_reducible refine Grew.drewN ?_ _) | (with_reducible refine Grew.setCell ?_ ?_ _) | go_size))) g3
              go_wp2_with fail
              refine ((same_any q' q' _ _ _ ((E2.out.grown G).grown g3) hs3 (by have := SM.out; omega)).mono fun _ _ t => t.to rfl).mono ?_
              rintro e w4 ⟨rfl, g4⟩
              have G4 : Grew w2 w4 := Grew.trans (by (repeat' (first | (with_reducible exact Grew.refl _) | (with_reducible assumption) | (with_reducible refine Grew.alloc ?_ _ _) | (with_reducible refine Grew.drew ?_) | (with_reducible refine Grew.drewN ?_ _) | (with_reducible refine Grew.setCell ?_ ?_ _) | go_size))) g4
              clear g3 g4
              go_wp2_with fail
              refine (K.hull_ok q' _ _ (E2.out.grown G4) (by have := SM.out; omega) (fun e => by have := HQ.out.1.1; rw [e] at this; exact absurd this (by decide)) (hull_plcs HQ.out PL.out)).mono ?_
              rintro e w5 ⟨r, hr, ⟨h5, v5, rfl, hs5, g5⟩ | ⟨h5, v5, rfl, hs5, g5⟩⟩
              · obtain rfl := hull_unique hr (hull_self HQ.out.1)
                have G5 : Grew w2 w5 := Grew.trans (by (repeat' (first | (with_reducible exact Grew.refl _) | (with_reducible assumption) | (with_reducible refine Grew.alloc ?_ _ _) | (with_reducible refine Grew.drew ?_) | (with_reducible refine Grew.drewN ?_ _) | (with_reducible refine Grew.setCell ?_ ?_ _) | go_size))) g5
                go_wp2_with fail
                refine ((same_any r r _ _ _ hs5 (E2.out.grown G5) (by have := SM.out; omega)).mono fun _ _ t => t.to rfl).mono ?_
                rintro e w6 ⟨rfl, g6⟩
                have G6 : Grew w2 w6 := Grew.trans (by (repeat' (first | (with_reducible exact Grew.refl _) | (with_reducible assumption) | (with_reducible refine Grew.alloc ?_ _ _) | (with_reducible refine Grew.drew ?_) | (with_reducible refine Grew.drewN ?_ _) | (with_reducible refine Grew.setCell ?_ ?_ _) | go_size))) g6
                clear g5 g6
                go_wp2_with fail
                go_ret
                exact ⟨rfl, Grew.trans G2 G6⟩
              · have eq := hull_unique hr (hull_self HQ.out.1)
                rw [eq] at h5
                exact absurd h5 (by have := SM.out; omega)
            · have eq := hull_unique (MB.hull hq') HQ.out
              rw [eq] at h'
              exact absurd h' (by have := SM.out; omega)
  · have E2 := Lib.hid hs2
    have HQ := Lib.hid hq
    have BIG : Hid (¬ q.length ≤ 64) := Lib.hid (by omega)
    have G2 : Grew w w2 := Grew.trans (by (repeat' (first | (with_reducible exact Grew.refl _) | (with_reducible assumption) | (with_reducible refine Grew.alloc ?_ _ _) | (with_reducible refine Grew.drew ?_) | (with_reducible refine Grew.drewN ?_ _) | (with_reducible refine Grew.setCell ?_ ?_ _) | go_size))) g2
    clear g2 hs2 c1 f1 z1 G1 hq h64
    go_wp2_with fail
    go_loopw [8, 33] (fun o8 i wr => ∃ (k : Nat) (po : List Pt), k ≤ l.length ∧ i = .int .i64 k ∧ Grew w2 wr ∧ Own w2.heap.size wr o8 po ∧ RevB l po k) (fun _ i _ => l.length - (intOf i).toNat)
    case atStart => exact ⟨0, [], Nat.zero_le _, rfl, Grew.refl _, Own.nil _ _, RevB.zero l⟩
    case round =>
      obtain ⟨k, po, hk, rfl, G, OW, RB⟩ := hrel
      by_cases hlt : k < l.length
      · obtain ⟨m, hm⟩ : ∃ m, l.length = k + 1 + m := ⟨l.length - (k + 1), by omega⟩
        have EM : Hid (l.length = k + 1 + m) := Lib.hid hm
        have hml : m < l.length := by omega
        obtain ⟨s0, s1⟩ := (HR.out.grown (Grew.trans G2 G)).2 m hml
        have hb := (HR.out.grown (Grew.trans G2 G)).1
        have e1 : ((l.length : Int) - 1 - (k : Int)).toNat = m := by omega
        have e2 : (0 : Int) ≤ (l.length : Int) - 1 - (k : Int) := by omega
        have e3 : (l.length : Int) - 1 - (k : Int) < (l.length : Int) := by omega
        have e4 : (l.length : Int) - 1 - (k : Int) = (m : Int) := by omega
        clear hm
        go_wp2_with (at_builtin; refine append_pt _ rfl _ _ rfl w2.heap.size _ po (at' l m) wr.heap.size 1 rfl (OW.alloc _) rfl (by simp [go_sem]) (by simp [go_sem]) (by have := RB.1; omega) (by have := G.size; simp; omega) ?_; intro v' w' own' gr'; have G' : Grew w2 w' := gr' w2 (Nat.le_refl _) (by (repeat' (first | (with_reducible exact Grew.refl _) | (with_reducible assumption) | (with_reducible refine Grew.alloc ?_ _ _) | (with_reducible refine Grew.drew ?_) | (with_reducible refine Grew.drewN ?_ _) | (with_reducible refine Grew.setCell ?_ ?_ _) | go_size))); clear gr')
        go_roundw
        case rel => exact ⟨k + 1, po ++ [at' l m], by omega, by go_num, G', own', RB.step EM.out⟩
        case measure => simp [intOf]; omega
      · have MB : MemB l po 0 := RB.all (by omega)
        clear RB
        go_wp2_with fail
        obtain ⟨wo, rfl⟩ : ∃ wo : World, wo = wr := ⟨_, rfl⟩
        have Go := G
        have Oo := OW
        clear G OW
        go_loopw [8, 50] (fun o8 i wr => ∃ (k : Nat) (po : List Pt), k ≤ bs.length ∧ i = .int .i64 k ∧ Grew w2 wr ∧ Own w2.heap.size wr o8 po ∧ MemB l po k) (fun _ i _ => bs.length - (intOf i).toNat)
        case atStart => exact ⟨0, po, Nat.zero_le _, rfl, Go, Oo, MB⟩
        case round =>
          clear Go Oo MB
          obtain ⟨k, po, hk, rfl, G, OW, MB⟩ := hrel
          by_cases hlt : k < bs.length
          · obtain ⟨b', o', rfl, hb', hc', n0, n1⟩ := BY.out k hlt
            have hc'' := (Grew.cell (Grew.trans G2 G) hb').trans hc'
            clear hc'
            obtain ⟨n, hn⟩ : ∃ n, nth bs k = n := ⟨_, rfl⟩
            rw [hn] at hc'' n0 n1
            clear hn
            obtain ⟨m, hm⟩ : ∃ m : Nat, n.toNat % l.length = m := ⟨_, rfl⟩
            have lp : 0 < l.length := List.length_pos_iff.2 NE.out
            have hml : m < l.length := by rw [← hm]; exact Nat.mod_lt _ lp
            have TM' : n.tmod (l.length : Int) = (m : Int) := by
              rw [← hm, Int.natCast_emod, Int.toNat_of_nonneg n0]
              exact Int.tmod_eq_emod_of_nonneg n0
            have TM2 : n % (l.length : Int) = (m : Int) := by rw [← TM']; exact (Int.tmod_eq_emod_of_nonneg n0).symm
            clear hm
            have nz : (l.length : Int) ≠ 0 := by omega
            have nz2 : ((l.length : Int) == 0) = false := by rw [beq_eq_false_iff_ne]; omega
            have nz3 : (0 : Int) < (l.length : Int) := by omega
            have nz4 : 0 < l.length := by omega
            obtain ⟨s0, s1⟩ := (HR.out.grown (Grew.trans G2 G)).2 m hml
            have hb := (HR.out.grown (Grew.trans G2 G)).1
            have i0 : (0 : Int) ≤ (k : Int) := by omega
            have i1 : (k : Int) < (bs.length : Int) := by omega
            have i2 : (m : Int) < (l.length : Int) := by omega
            go_wp2_with (at_builtin; refine append_pt _ rfl _ _ rfl w2.heap.size _ po (at' l m) wr.heap.size 1 rfl (OW.alloc _) rfl (by simp [go_sem]) (by simp [go_sem]) (by have := MB.2.2; omega) (by have := G.size; simp; omega) ?_; intro v' w' own' gr'; have G' : Grew w2 w' := gr' w2 (Nat.le_refl _) (by (repeat' (first | (with_reducible exact Grew.refl _) | (with_reducible assumption) | (with_reducible refine Grew.alloc ?_ _ _) | (with_reducible refine Grew.drew ?_) | (with_reducible refine Grew.drewN ?_ _) | (with_reducible refine Grew.setCell ?_ ?_ _) | go_size))); clear gr')
            go_roundw
            case rel => exact ⟨k + 1, po ++ [at' l m], by omega, by go_num, G', own', MB.step hml⟩
            case measure => simp [intOf]; omega
          · have ek : k = bs.length := by omega
            subst ek
            go_wp2_with fail
            refine (K.hull_ok po _ _ OW.sl (by have := MB.2.2; omega) (MB.ne NE.out) (MB.plcs PL.out)).mono ?_
            rintro e w3 ⟨q', hq', ⟨h', v3, rfl, hs3, g3⟩ | ⟨h', v3, rfl, hs3, g3⟩⟩
            · have eq := hull_unique (MB.hull hq') HQ.out
              rw [eq] at h'
              exact absurd h' BIG.out
            · have G3 : Grew w2 w3 := Grew.trans (by (repeat' (first | (with_reducible exact Grew.refl _) | (with_reducible assumption) | (with_reducible refine Grew.alloc ?_ _ _) | (with_reducible refine Grew.drew ?_) | (with_reducible refine Grew.drewN ?_ _) | (with_reducible refine Grew.setCell ?_ ?_ _) | go_size))) g3
              go_wp2_with fail
              refine ((same_any [] [] _ _ _ ((E2.out.grown G).grown g3) hs3 (by decide)).mono fun _ _ t => t.to rfl).mono ?_
              rintro e w4 ⟨rfl, g4⟩
              have G4 : Grew w2 w4 := Grew.trans (by (repeat' (first | (with_reducible exact Grew.refl _) | (with_reducible assumption) | (with_reducible refine Grew.alloc ?_ _ _) | (with_reducible refine Grew.drew ?_) | (with_reducible refine Grew.drewN ?_ _) | (with_reducible refine Grew.setCell ?_ ?_ _) | go_size))) g4
              clear g3 g4 hq' h'
              go_wp2_with fail
              go_ret
              exact ⟨rfl, Grew.trans G2 G4⟩

set_option maxRecDepth 100000 in
set_option maxHeartbeats 4000000 in
theorem order_nil (K : Code) (bs : List Int) (A A0 : Option Addr) (c0 cb : Nat) (w : World) (B40 : (bs.length : Int) ≤ 40) (HS : Hid (Sl w (.slice A0 0 c0) [])) (BY : Hid (SbF w A bs)) : Calls Try.prog 5 #[.slice A0 0 c0, .slice A bs.length cb] w fun e w' => e = .returned (.bool true) ∧ Grew w w' := by
  go_enter Try.func5, Try.ntmps5
  go_wp2_with fail
  refine (head_true K _).mono ?_
  rintro e w1 ⟨rfl, g1⟩
  obtain ⟨c1, f1, z1⟩ := laid g1
  try simp at z1
  have G1 : Grew w w1 := Grew.trans (by (repeat' (first | (with_reducible exact Grew.refl _) | (with_reducible assumption) | (with_reducible refine Grew.alloc ?_ _ _) | (with_reducible refine Grew.drew ?_) | (with_reducible refine Grew.drewN ?_ _) | (with_reducible refine Grew.setCell ?_ ?_ _) | go_size))) g1
  clear g1
  go_wp2_with fail
  refine (K.hull_bad [] _ _ (HS.out.grown (by (repeat' (first | (with_reducible exact Grew.refl _) | (with_reducible assumption) | (with_reducible refine Grew.alloc ?_ _ _) | (with_reducible refine Grew.drew ?_) | (with_reducible refine Grew.drewN ?_ _) | (with_reducible refine Grew.setCell ?_ ?_ _) | go_size)))) (by decide) (Or.inl rfl)).mono ?_
  rintro e w2 ⟨v2, rfl, hs2, g2⟩
  have E2 := Lib.hid hs2
  have G2 : Grew w w2 := Grew.trans (by (repeat' (first | (with_reducible exact Grew.refl _) | (with_reducible assumption) | (with_reducible refine Grew.alloc ?_ _ _) | (with_reducible refine Grew.drew ?_) | (with_reducible refine Grew.drewN ?_ _) | (with_reducible refine Grew.setCell ?_ ?_ _) | go_size))) g2
  clear g2 hs2 c1 f1 z1 G1
  go_wp2_with fail
  refine wp_loop_rounds 1 ?_
  rw [rounds_succ]
  go_wp2_with fail
  go_loopw [8, 50] (fun o8 i wr => ∃ (k : Nat), k ≤ bs.length ∧ o8 = .slice none 0 0 ∧ i = .int .i64 k ∧ Grew w2 wr) (fun _ i _ => bs.length - (intOf i).toNat)
  case atStart => exact ⟨0, Nat.zero_le _, rfl, rfl, Grew.refl _⟩
  case round =>
    obtain ⟨k, hk, rfl, rfl, G⟩ := hrel
    by_cases hlt : k < bs.length
    · obtain ⟨b', o', rfl, hb', hc', n0, n1⟩ := BY.out k hlt
      have hc'' := (Grew.cell (Grew.trans G2 G) hb').trans hc'
      clear hc'
      have i0 : (0 : Int) ≤ (k : Int) := by omega
      have i1 : (k : Int) < (bs.length : Int) := by omega
      go_wp2_with fail
      go_roundw
      case rel => exact ⟨k + 1, by omega, rfl, by go_num, G⟩
      case measure => simp [intOf]; omega
    · go_wp2_with fail
      refine (K.hull_bad [] _ _ (Or.inl ⟨rfl, none, 0, rfl⟩) (by decide) (Or.inl rfl)).mono ?_
      rintro e w3 ⟨v3, rfl, hs3, g3⟩
      go_wp2_with fail
      refine ((same_any [] [] _ _ _ ((E2.out.grown G).grown g3) hs3 (by decide)).mono fun _ _ t => t.to rfl).mono ?_
      rintro e w4 ⟨rfl, g4⟩
      have G4 : Grew w w4 := Grew.trans (Grew.trans G2 (Grew.trans G g3)) g4
      clear g3 g4
      go_wp2_with fail
      go_ret
      exact ⟨rfl, G4⟩

set_option maxRecDepth 100000 in
set_option maxHeartbeats 4000000 in
theorem order_many (K : Code) (n m : Nat) (A A0 : Option Addr) (c0 cb : Nat) (w : World) (h : (40 : Int) < (n : Int) ∨ ((n : Int) ≤ 40 ∧ (40 : Int) < (m : Int))) : Calls Try.prog 5 #[.slice A0 n c0, .slice A m cb] w fun e w' => e = .returned (.bool true) ∧ Grew w w' := by
  rcases h with h | ⟨h, h'⟩
  · skip
    go_enter Try.func5, Try.ntmps5
    go_wp2_with fail
    refine (head_true K _).mono ?_
    rintro e w1 ⟨rfl, g1⟩
    obtain ⟨c1, f1, z1⟩ := laid g1
    try simp at z1
    have G1 : Grew w w1 := Grew.trans (by (repeat' (first | (with_reducible exact Grew.refl _) | (with_reducible assumption) | (with_reducible refine Grew.alloc ?_ _ _) | (with_reducible refine Grew.drew ?_) | (with_reducible refine Grew.drewN ?_ _) | (with_reducible refine Grew.setCell ?_ ?_ _) | go_size))) g1
    clear g1
    go_wp2_with fail
    go_ret
    exact ⟨rfl, by (repeat' (first | (with_reducible exact Grew.refl _) | (with_reducible assumption) | (with_reducible refine Grew.alloc ?_ _ _) | (with_reducible refine Grew.drew ?_) | (with_reducible refine Grew.drewN ?_ _) | (with_reducible refine Grew.setCell ?_ ?_ _) | go_size))⟩
  · skip
    go_enter Try.func5, Try.ntmps5
    go_wp2_with fail
    refine (head_true K _).mono ?_
    rintro e w1 ⟨rfl, g1⟩
    obtain ⟨c1, f1, z1⟩ := laid g1
    try simp at z1
    have G1 : Grew w w1 := Grew.trans (by (repeat' (first | (with_reducible exact Grew.refl _) | (with_reducible assumption) | (with_reducible refine Grew.alloc ?_ _ _) | (with_reducible refine Grew.drew ?_) | (with_reducible refine Grew.drewN ?_ _) | (with_reducible refine Grew.setCell ?_ ?_ _) | go_size))) g1
    clear g1
    go_wp2_with fail
    go_ret
    exact ⟨rfl, by (repeat' (first | (with_reducible exact Grew.refl _) | (with_reducible assumption) | (with_reducible refine Grew.alloc ?_ _ _) | (with_reducible refine Grew.drew ?_) | (with_reducible refine Grew.drewN ?_ _) | (with_reducible refine Grew.setCell ?_ ?_ _) | go_size))⟩

theorem order_true (K : Code) (l : List Pt) (bs : List Int) (v : Value) (A : Option Addr) (cb : Nat) (w : World) (hs : Sl w v l) (hb : SbF w A bs) : Calls Try.prog 5 #[v, .slice A bs.length cb] w fun e w' => e = .returned (.bool true) ∧ Grew w w' := by
  by_cases h1 : l.length ≤ 40
  · by_cases h2 : bs.length ≤ 40
    · by_cases h0 : l = []
      · subst h0
        obtain ⟨A0, c0, e⟩ := hs.shape
        subst e
        exact order_nil K bs A A0 c0 cb w (by omega) (Lib.hid hs) (Lib.hid hb)
      · obtain ⟨b, o, c, rfl, hr⟩ := hs.row h0
        by_cases hp : Plcs l
        · exact order_good K l bs A b o c cb w (by omega) (by omega) (Lib.hid hr) (Lib.hid hb) (Lib.hid h0) (Lib.hid hp)
        · exact order_bad K l bs A b o c cb w (by omega) (by omega) (Lib.hid hr) (Lib.hid hb) (Lib.hid h0) (Lib.hid hp)
    · obtain ⟨A0, c0, e⟩ := hs.shape
      subst e
      exact order_many K l.length bs.length A A0 c0 cb w (Or.inr ⟨by omega, by omega⟩)
  · obtain ⟨A0, c0, e⟩ := hs.shape
    subst e
    exact order_many K l.length bs.length A A0 c0 cb w (Or.inl (by omega))
end Hl
end Go.Proofs.Ythcfbfgfpophmaa
