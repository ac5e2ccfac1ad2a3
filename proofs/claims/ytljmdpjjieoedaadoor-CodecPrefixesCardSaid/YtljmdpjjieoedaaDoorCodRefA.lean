/-
  The reference functions of layer 8: the bytes of integers and of lists; comparisons.
-/
import Derived.Test.YtljmdpjjieoedaaDoorCodA
import Derived.Laws.Bits64
namespace Go.Proofs.YtljmdpjjieoedaaDoor
open Go.RowKit Wd
namespace Co
set_option maxRecDepth 100000

set_option maxHeartbeats 4000000 in
theorem r_one (n : Int) (w : World) (hn : I64 n) : Calls Tryd.prog 24 #[.int .i64 n] w fun e w' => ∃ v', e = .returned v' ∧ Dg.Bw w.heap.size w' v' (ib n) ∧ Grew w w' := by
  have NL := Lib.hid (num_lt hn)
  have BE : Hid (ib n = vb (num n)) := Lib.hid rfl
  have h1 : -9223372036854775808 ≤ n := hn.1
  have h2 : n ≤ 9223372036854775807 := hn.2
  by_cases h0 : n < 0
  · have NB := Lib.hid (num_neg h0)
    clear hn
    go_enter Tryd.func24, Tryd.ntmps24
    go_wp2_with fail
    rw [show 2 * -(n + 1) + 1 = (num n : Int) from by have := NB.out; omega]
    clear NB
    go_loopw [3, 4] (fun s o wr => ∃ (u : Nat) (m : List UInt8), s = .int .u64 u ∧ u < 18446744073709551616 ∧ Grew w wr ∧ Hid (Dg.Bw w.heap.size wr o m ∧ m ++ vb u = ib n)) (fun s _ _ => (intOf s).toNat)
    case atStart => exact ⟨num n, [], rfl, NL.out, Grew.refl _, Lib.hid ⟨Dg.Bw.nil _ _, by rw [List.nil_append, BE.out]⟩⟩
    case round =>
      obtain ⟨u, m, rfl, ul, G, OW⟩ := hrel
      have ml : Hid (m.length ≤ 1000010) := Lib.hid (by
        have := congrArg List.length OW.out.2
        rw [List.length_append] at this
        have h10 := vb_ten NL.out
        rw [← BE.out] at h10
        omega)
      by_cases hu : 128 ≤ u
      · have BT : Hid (((UInt8.ofNat (u % 128 + 128)).toNat : Int) = (u : Int) % 128 + 128) := Lib.hid (by rw [byte_nat (by omega)]; omega)
        have VA := Lib.hid (vb_at hu m)
        have u0 : (128 : Int) ≤ (u : Int) := by omega
        go_wp2_with (at_builtin; go_must (refine Dg.wpl_byte _ rfl _ _ rfl w.heap.size _ m _ 1 (UInt8.ofNat (u % 128 + 128)) rfl (Dg.Bw.alloc OW.out.1 _) rfl (by rw [BT.out]; simp [go_sem, *]) (by have := ml.out; omega) (by have := G.size; simp; omega) ?_; intro v' w' own' gr'; have GG2 := Lib.hid (Grew.grown (G.alloc _ _) gr' (fun k hk => (Dg.Bw.lt OW.out.1 k hk).1)); have OW2 := Lib.hid own'; clear own' gr'))
        go_roundw
        case rel => exact ⟨u / 128, m ++ [UInt8.ofNat (u % 128 + 128)], by go_num, by omega, GG2.out, Lib.hid ⟨OW2.out, by rw [← VA.out]; exact OW.out.2⟩⟩
        case measure => simp [intOf]; omega
      · have BT : Hid (((UInt8.ofNat u).toNat : Int) = (u : Int)) := Lib.hid (by rw [byte_nat (by omega)])
        have u0 : ¬ (128 : Int) ≤ (u : Int) := by omega
        have VA : Hid (m ++ [UInt8.ofNat u] = ib n) := Lib.hid (by rw [← OW.out.2, vb_low (by omega)])
        go_wp2_with (at_builtin; go_must (refine Dg.wpl_byte _ rfl _ _ rfl w.heap.size _ m _ 1 (UInt8.ofNat u) rfl (Dg.Bw.alloc OW.out.1 _) rfl (by rw [BT.out]; simp [go_sem, *]) (by have := ml.out; omega) (by have := G.size; simp; omega) ?_; intro v' w' own' gr'; have GG2 := Lib.hid (Grew.grown (G.alloc _ _) gr' (fun k hk => (Dg.Bw.lt OW.out.1 k hk).1)); have OW2 := Lib.hid own'; clear own' gr'))
        go_ret
        exact ⟨_, rfl, by rw [← VA.out]; exact OW2.out, GG2.out⟩
  · have NB := Lib.hid (num_pos h0)
    clear hn
    go_enter Tryd.func24, Tryd.ntmps24
    go_wp2_with fail
    rw [show 2 * n = (num n : Int) from NB.out.symm]
    clear NB
    go_loopw [3, 4] (fun s o wr => ∃ (u : Nat) (m : List UInt8), s = .int .u64 u ∧ u < 18446744073709551616 ∧ Grew w wr ∧ Hid (Dg.Bw w.heap.size wr o m ∧ m ++ vb u = ib n)) (fun s _ _ => (intOf s).toNat)
    case atStart => exact ⟨num n, [], rfl, NL.out, Grew.refl _, Lib.hid ⟨Dg.Bw.nil _ _, by rw [List.nil_append, BE.out]⟩⟩
    case round =>
      obtain ⟨u, m, rfl, ul, G, OW⟩ := hrel
      have ml : Hid (m.length ≤ 1000010) := Lib.hid (by
        have := congrArg List.length OW.out.2
        rw [List.length_append] at this
        have h10 := vb_ten NL.out
        rw [← BE.out] at h10
        omega)
      by_cases hu : 128 ≤ u
      · have BT : Hid (((UInt8.ofNat (u % 128 + 128)).toNat : Int) = (u : Int) % 128 + 128) := Lib.hid (by rw [byte_nat (by omega)]; omega)
        have VA := Lib.hid (vb_at hu m)
        have u0 : (128 : Int) ≤ (u : Int) := by omega
        go_wp2_with (at_builtin; go_must (refine Dg.wpl_byte _ rfl _ _ rfl w.heap.size _ m _ 1 (UInt8.ofNat (u % 128 + 128)) rfl (Dg.Bw.alloc OW.out.1 _) rfl (by rw [BT.out]; simp [go_sem, *]) (by have := ml.out; omega) (by have := G.size; simp; omega) ?_; intro v' w' own' gr'; have GG2 := Lib.hid (Grew.grown (G.alloc _ _) gr' (fun k hk => (Dg.Bw.lt OW.out.1 k hk).1)); have OW2 := Lib.hid own'; clear own' gr'))
        go_roundw
        case rel => exact ⟨u / 128, m ++ [UInt8.ofNat (u % 128 + 128)], by go_num, by omega, GG2.out, Lib.hid ⟨OW2.out, by rw [← VA.out]; exact OW.out.2⟩⟩
        case measure => simp [intOf]; omega
      · have BT : Hid (((UInt8.ofNat u).toNat : Int) = (u : Int)) := Lib.hid (by rw [byte_nat (by omega)])
        have u0 : ¬ (128 : Int) ≤ (u : Int) := by omega
        have VA : Hid (m ++ [UInt8.ofNat u] = ib n) := Lib.hid (by rw [← OW.out.2, vb_low (by omega)])
        go_wp2_with (at_builtin; go_must (refine Dg.wpl_byte _ rfl _ _ rfl w.heap.size _ m _ 1 (UInt8.ofNat u) rfl (Dg.Bw.alloc OW.out.1 _) rfl (by rw [BT.out]; simp [go_sem, *]) (by have := ml.out; omega) (by have := G.size; simp; omega) ?_; intro v' w' own' gr'; have GG2 := Lib.hid (Grew.grown (G.alloc _ _) gr' (fun k hk => (Dg.Bw.lt OW.out.1 k hk).1)); have OW2 := Lib.hid own'; clear own' gr'))
        go_ret
        exact ⟨_, rfl, by rw [← VA.out]; exact OW2.out, GG2.out⟩
theorem bw_up {B B' : Nat} {w : World} {v : Value} {l : List UInt8} (h : Dg.Bw B w v l) (hb : B' ≤ B) : Dg.Bw B' w v l := by
  refine ⟨h.1, ?_⟩
  rcases h.2 with h2 | ⟨g, cap, cur, e, hg, r⟩
  · exact Or.inl h2
  · exact Or.inr ⟨g, cap, cur, e, Nat.le_trans hb hg, r⟩
set_option maxHeartbeats 4000000 in
theorem r_put (l : List Int) (v : Value) (w : World) (hs : Is w v l) (hl : l.length ≤ 4000) : Calls Tryd.prog 11 #[v] w (PutSays l w) := by
  obtain ⟨a, c, rfl, hlc⟩ := hs.shape
  have HS := Lib.hid hs
  have LO : Hid (Lok l) := Lib.hid ⟨hl, hs.2⟩
  have ON := Lib.hid (fun n W (hn : I64 n) => r_one n W hn)
  have LP := Lib.hid (lb_part l ⟨hl, hs.2⟩)
  clear hs hlc
  have l4 : ¬ (4000 : Int) < (l.length : Int) := by omega
  go_enter Tryd.func11, Tryd.ntmps11
  go_wp2_with fail
  refine (ON.out _ _ (len_ok LO.out)).mono ?_
  rintro e w1 ⟨v1, rfl, OW1', G1⟩
  have OW1 := Lib.hid OW1'
  clear OW1'
  go_wp2_with fail
  go_loopw [4, 5] (fun s i wr => ∃ k : Nat, k ≤ l.length ∧ i = .int .i64 k ∧ Grew w wr ∧ Hid (Dg.Bw w.heap.size wr s (ib (l.length : Int) ++ il (l.take k)))) (fun _ i _ => l.length - (intOf i).toNat)
  case atStart => exact ⟨0, Nat.zero_le _, rfl, G1, Lib.hid (by rw [List.take_zero, il_nil, List.append_nil]; exact OW1.out)⟩
  case round =>
    obtain ⟨k, hk, rfl, G, OW⟩ := hrel
    by_cases hlt : k < l.length
    · obtain ⟨b, o, rfl, hb, hc⟩ := (HS.out.grew G).row (Nat.lt_of_le_of_lt (Nat.zero_le _) hlt)
      have q0 := hc k hlt
      clear hc
      have i0 : (0 : Int) ≤ (k : Int) := by omega
      have i1 : (k : Int) < (l.length : Int) := by omega
      have NX := Lib.hid (il_next hlt)
      have ON1 := Lib.hid (ON.out l[k] wr (HS.out.i64 hlt))
      have IL : Hid ((ib l[k]).length ≤ 10) := Lib.hid (ib_ten (HS.out.i64 hlt))
      go_wp2_with fail
      refine (ON1.out).mono ?_
      rintro e w3 ⟨v3, rfl, OW3', G3⟩
      have OW3 := Lib.hid OW3'
      have O4 := Lib.hid (OW.out.grew G3)
      have G4 := Grew.trans G G3
      clear OW3' OW G3 ON1
      go_wp2_with (at_builtin; go_must (refine wpl_bytes _ rfl _ _ rfl w.heap.size _ _ (ib (l.length : Int) ++ il (l.take k)) (ib l[k]) rfl (by exact O4.out) rfl (by exact own_bs OW3.out) (by have := LP.out k; have := IL.out; omega) (by have := G4.size; omega) ?_; intro v5 w5 own5 gr5; have OW5 := Lib.hid own5; have G5 := Lib.hid (Grew.grown G4 gr5 (fun k hk => (Dg.Bw.lt O4.out k hk).1)); clear own5 gr5))
      go_roundw
      case rel => exact ⟨k + 1, by omega, by go_num, G5.out, Lib.hid (by rw [NX.out, ← List.append_assoc]; exact OW5.out)⟩
      case measure => simp [intOf]; omega
    · obtain rfl : k = l.length := by omega
      go_wp2_with fail
      go_ret2
      exact ⟨_, rfl, by have := OW.out; rwa [List.take_length] at this, G⟩
set_option maxHeartbeats 4000000 in
theorem r_put_long (l : List Int) (v : Value) (w : World) (hs : Is w v l) (hl : 4000 < l.length) : Calls Tryd.prog 11 #[v] w fun e w' => e = .returned (.tuple #[.slice none 0 0, .int .i64 2]) ∧ Grew w w' := by
  obtain ⟨a, c, rfl, _⟩ := hs.shape
  have l4 : (4000 : Int) < (l.length : Int) := by omega
  go_enter Tryd.func11, Tryd.ntmps11
  go_wp2_with fail
  go_ret2
  exact ⟨rfl, Grew.refl _⟩
/-! ### Comparisons -/
set_option maxHeartbeats 4000000 in
theorem r_bytes_same (k l : List UInt8) (v u : Value) (w : World) (hv : Bs w v k) (hu : Bs w u l) : Calls Tryd.prog 12 #[v, u] w fun e w' => e = .returned (.bool (decide (k = l))) ∧ w' = w := by
  have C1 := conv_bs hv
  have C2 := conv_bs hu
  go_enter Tryd.func12, Tryd.ntmps12
  go_wp2_with fail
  go_ret
  exact ⟨by by_cases h : k = l <;> simp [h], rfl⟩
theorem take_more {k l : List Int} {j : Nat} (h1 : j < k.length) (h2 : j < l.length) (h : k.take j = l.take j) (e : k[j] = l[j]) : k.take (j + 1) = l.take (j + 1) := by
  rw [List.take_succ_eq_append_getElem h1, List.take_succ_eq_append_getElem h2, h, e]
set_option maxHeartbeats 4000000 in
theorem r_ints_same (k l : List Int) (v u : Value) (w : World) (hv : Is w v k) (hu : Is w u l) (hk : k.length ≤ 1000000) : Calls Tryd.prog 17 #[v, u] w fun e w' => e = .returned (.bool (decide (k = l))) ∧ Grew w w' := by
  obtain ⟨a, c, rfl, _⟩ := hv.shape
  obtain ⟨a2, c2, rfl, _⟩ := hu.shape
  have HV := Lib.hid hv
  have HU := Lib.hid hu
  clear hv hu
  by_cases hl : k.length = l.length
  · have HL := Lib.hid hl
    rw [← hl]
    clear hl
    go_enter Tryd.func17, Tryd.ntmps17
    go_wp2_with fail
    go_loopw [5] (fun i wr => ∃ j : Nat, j ≤ k.length ∧ i = .int .i64 j ∧ Grew w wr ∧ Hid (k.take j = l.take j)) (fun i _ => k.length - (intOf i).toNat)
    case atStart => exact ⟨0, Nat.zero_le _, rfl, Grew.refl _, Lib.hid rfl⟩
    case round =>
      obtain ⟨j, hj, rfl, G, TK⟩ := hrel
      by_cases hlt : j < k.length
      · have hlt2 : j < l.length := by have := HL.out; omega
        obtain ⟨b, o, rfl, hb, hc⟩ := (HV.out.grew G).row (Nat.lt_of_le_of_lt (Nat.zero_le _) hlt)
        obtain ⟨b2, o2, rfl, hb2, hc2⟩ := (HU.out.grew G).row (Nat.lt_of_le_of_lt (Nat.zero_le _) hlt2)
        have q0 := hc j hlt
        have q1 := hc2 j hlt2
        clear hc hc2
        have i0 : (0 : Int) ≤ (j : Int) := by omega
        have i1 : (j : Int) < (k.length : Int) := by omega
        by_cases he : k[j] = l[j]
        · have e0 : (k[j] == l[j]) = true := by rw [beq_iff_eq]; exact he
          have e1 : (k[j] != l[j]) = false := by rw [bne, e0]; rfl
          have NX := Lib.hid (take_more hlt hlt2 TK.out he)
          clear he
          go_wp2_with fail
          go_quiet (fail)
          go_wp2_with fail
          go_roundw
          case rel => exact ⟨j + 1, by omega, by go_num, G.drewN _, NX⟩
          case measure => simp [intOf]; omega
        · have e0 : (k[j] == l[j]) = false := by rw [beq_eq_false_iff_ne]; exact he
          have e1 : (k[j] != l[j]) = true := by rw [bne, e0]; rfl
          have NE : Hid (decide (k = l) = false) := Lib.hid (by rw [decide_eq_false_iff_not]; intro e; subst e; exact he rfl)
          clear he
          go_wp2_with fail
          go_quiet (fail)
          go_wp2_with fail
          go_ret
          exact ⟨by rw [NE.out]; rfl, G.drewN _⟩
      · obtain rfl : j = k.length := by omega
        have EQ : Hid (decide (k = l) = true) := Lib.hid (by
          have h := TK.out
          rw [List.take_length, HL.out, List.take_length] at h
          rw [decide_eq_true_iff]
          exact h)
        go_wp2_with fail
        go_ret
        exact ⟨by rw [EQ.out]; rfl, G⟩
  · have NE : Hid (decide (k = l) = false) := Lib.hid (by rw [decide_eq_false_iff_not]; intro e; subst e; exact hl rfl)
    have n0 : ((k.length : Int) == (l.length : Int)) = false := by rw [beq_eq_false_iff_ne]; omega
    have n1 : ((k.length : Int) != (l.length : Int)) = true := by rw [bne, n0]; rfl
    clear hl
    go_enter Tryd.func17, Tryd.ntmps17
    go_wp2_with fail
    go_ret
    exact ⟨by rw [NE.out]; rfl, Grew.refl _⟩
theorem take_mores {k l : List (List Int)} {j : Nat} (h1 : j < k.length) (h2 : j < l.length) (h : k.take j = l.take j) (e : k[j] = l[j]) : k.take (j + 1) = l.take (j + 1) := by
  rw [List.take_succ_eq_append_getElem h1, List.take_succ_eq_append_getElem h2, h, e]
set_option maxHeartbeats 4000000 in
theorem r_lists_same (k l : List (List Int)) (v u : Value) (w : World) (hv : Ls w v k) (hu : Ls w u l) (hk : k.length ≤ 1000000) (hs : ∀ x, x ∈ k → x.length ≤ 1000000) : Calls Tryd.prog 20 #[v, u] w fun e w' => e = .returned (.bool (decide (k = l))) ∧ Grew w w' := by
  obtain ⟨a, c, rfl, _⟩ := hv.shape
  obtain ⟨a2, c2, rfl, _⟩ := hu.shape
  have HV := Lib.hid hv
  have HU := Lib.hid hu
  have HS := Lib.hid hs
  clear hv hu hs
  by_cases hl : k.length = l.length
  · have HL := Lib.hid hl
    rw [← hl]
    clear hl
    go_enter Tryd.func20, Tryd.ntmps20
    go_wp2_with fail
    go_loopw [5] (fun i wr => ∃ j : Nat, j ≤ k.length ∧ i = .int .i64 j ∧ Grew w wr ∧ Hid (k.take j = l.take j)) (fun i _ => k.length - (intOf i).toNat)
    case atStart => exact ⟨0, Nat.zero_le _, rfl, Grew.refl _, Lib.hid rfl⟩
    case round =>
      obtain ⟨j, hj, rfl, G, TK⟩ := hrel
      by_cases hlt : j < k.length
      · have hlt2 : j < l.length := by have := HL.out; omega
        obtain ⟨b, o, rfl, hb, hc⟩ := (HV.out.grew G).row (Nat.lt_of_le_of_lt (Nat.zero_le _) hlt)
        obtain ⟨b2, o2, rfl, hb2, hc2⟩ := (HU.out.grew G).row (Nat.lt_of_le_of_lt (Nat.zero_le _) hlt2)
        obtain ⟨x, q0, ix⟩ := hc j hlt
        obtain ⟨y, q1, iy⟩ := hc2 j hlt2
        clear hc hc2
        have i0 : (0 : Int) ≤ (j : Int) := by omega
        have i1 : (j : Int) < (k.length : Int) := by omega
        obtain ⟨r, hr⟩ : ∃ r, r = decide (k[j] = l[j]) := ⟨_, rfl⟩
        have SI : Hid (∀ W, Grew wr W → Calls Tryd.prog 17 #[x, y] W fun e w' => e = .returned (.bool r) ∧ Grew W w') := Lib.hid (fun W g => by
          have := r_ints_same k[j] l[j] x y W (ix.grew g) (iy.grew g) (HS.out _ (List.getElem_mem hlt))
          rwa [← hr] at this)
        have HR := Lib.hid hr
        clear hr ix iy
        obtain ⟨W0, hW0⟩ : ∃ W0, W0 = wr := ⟨wr, rfl⟩
        subst hW0
        go_wp2_with fail
        go_region_held3 (fun W => W.cell? ⟨b, o + j, none⟩ = some x ∧ W.cell? ⟨b2, o2 + j, none⟩ = some y) (simp [go_sem, *])
          (first | (go_at_call 17; refine (SI.out _ (by (repeat' (first | (with_reducible exact Grew.refl _) | (with_reducible assumption) | (with_reducible refine Grew.alloc ?_ _ _) | (with_reducible refine Grew.drew ?_) | (with_reducible refine Grew.drewN ?_ _))))).mono ?_; rintro e w1 ⟨rfl, g1⟩; have GX : Grew W0 w1 := Grew.trans (by (repeat' (first | (with_reducible exact Grew.refl _) | (with_reducible assumption) | (with_reducible refine Grew.alloc ?_ _ _) | (with_reducible refine Grew.drew ?_) | (with_reducible refine Grew.drewN ?_ _)))) g1; have y0 := (Grew.cell (o := o + j) GX hb).trans q0; have y1 := (Grew.cell (o := o2 + j) GX hb2).trans q1))
        have G1 := Grew.trans G GX
        cases r
        · have NE : Hid (decide (k = l) = false) := Lib.hid (by
            rw [decide_eq_false_iff_not]
            intro e
            subst e
            exact (of_decide_eq_false HR.out.symm) rfl)
          clear HR SI
          go_wp2_with fail
          go_ret
          exact ⟨by rw [NE.out]; rfl, G1⟩
        · have NX := Lib.hid (take_mores hlt hlt2 TK.out (of_decide_eq_true HR.out.symm))
          clear HR SI
          go_wp2_with fail
          go_roundw
          case rel => exact ⟨j + 1, by omega, by go_num, G1, NX⟩
          case measure => simp [intOf]; omega
      · obtain rfl : j = k.length := by omega
        have EQ : Hid (decide (k = l) = true) := Lib.hid (by
          have h := TK.out
          rw [List.take_length, HL.out, List.take_length] at h
          rw [decide_eq_true_iff]
          exact h)
        go_wp2_with fail
        go_ret
        exact ⟨by rw [EQ.out]; rfl, G⟩
  · have NE : Hid (decide (k = l) = false) := Lib.hid (by rw [decide_eq_false_iff_not]; intro e; subst e; exact hl rfl)
    have n0 : ((k.length : Int) == (l.length : Int)) = false := by rw [beq_eq_false_iff_ne]; omega
    have n1 : ((k.length : Int) != (l.length : Int)) = true := by rw [bne, n0]; rfl
    clear hl
    go_enter Tryd.func20, Tryd.ntmps20
    go_wp2_with fail
    go_ret
    exact ⟨by rw [NE.out]; rfl, Grew.refl _⟩
end Co
end Go.Proofs.YtljmdpjjieoedaaDoor
