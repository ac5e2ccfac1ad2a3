/-
  The laws CutCommon and CutMeets, under what packages hull and cut owe.
-/
import Derived.Test.YtmijlfbmmegfbaaCutLs
namespace Go.Proofs.Ytmijlfbmmegfbaa
open Go.RowKit Hl
namespace Ct
theorem sel_both {p q : List Pt} {y : Pt} (h : Sel p q y) : BothS p q y := by
  rcases h with ⟨h1, h2⟩ | ⟨_, h1, h2⟩ | ⟨_, _, ⟨i, k, h⟩, _⟩
  · obtain ⟨i, hi, e⟩ := mem_at h1
    exact Or.inl ⟨i, hi, e, h2⟩
  · obtain ⟨i, hi, e⟩ := mem_at h1
    exact Or.inr (Or.inl ⟨i, hi, e, h2⟩)
  · exact Or.inr (Or.inr ⟨i, k, h⟩)
theorem sel_has {p q : List Pt} (hp : Pg p) (hq : Pg q) {y : Pt} (h : Sel p q y) : Hs p y ∧ Hs q y := by
  rcases h with ⟨h1, h2⟩ | ⟨_, h1, h2⟩ | ⟨_, _, _, h⟩
  · obtain ⟨i, hi, e⟩ := mem_at h1
    rw [← e] at h2 ⊢
    exact ⟨hs_corner hp hi, h2⟩
  · obtain ⟨i, hi, e⟩ := mem_at h1
    rw [← e] at h2 ⊢
    exact ⟨h2, hs_corner hq hi⟩
  · exact h
theorem both_plc {p q : List Pt} (hp : Plcs p) (hq : Plcs q) {y : Pt} (h : BothS p q y) : Plc y := by
  rcases h with ⟨i, hi, rfl, _⟩ | ⟨k, hk, rfl, _⟩ | ⟨i, k, ⟨hi, hk⟩, g⟩
  · exact hp i hi
  · exact hq k hk
  · exact fr_plc2 (hq k hk) (hq _ (Nat.mod_lt _ (by omega))) g.2
theorem sel_first {p q : List Pt} {k : Nat} (hk : k < p.length) (h : Hs q (at' p k)) : ∃ z, Sel p q z := ⟨_, Or.inl ⟨at_mem hk, h⟩⟩
theorem sel_second {p q : List Pt} {k : Nat} (hk : k < q.length) (h : Hs p (at' q k)) : ∃ z, Sel p q z := by
  by_cases ex : ∃ z, C1 p q z
  · obtain ⟨z, hz⟩ := ex
    exact ⟨z, Or.inl hz⟩
  · exact ⟨_, Or.inr (Or.inl ⟨ex, at_mem hk, h⟩)⟩
set_option maxRecDepth 100000 in
set_option maxHeartbeats 16000000 in
theorem common_walk (C : Code) (p q : List Pt) (b o c b' o' c' : Nat) (w : World) (hr : Row w b o p) (hr' : Row w b' o' q) (a is : Bool) (hai : is = true → a = false) (hm : p.length ≤ 64) (hm' : q.length ≤ 64) (FW : Hid (∀ W, Calls Try.prog 17 #[.slice (some ⟨b, o, none⟩) p.length c, .slice (some ⟨b', o', none⟩) q.length c'] W fun e w' => e = .returned (.bool true) ∧ W = w'))
    (CC : Hid (∀ W, Grew w W → Calls Try.prog 22 #[.slice (some ⟨b, o, none⟩) p.length c, .slice (some ⟨b', o', none⟩) q.length c'] W fun e w1 => ∃ m : Pt, e = .returned (.tuple #[.agg #[.int .i64 m.1, .int .i64 m.2], .bool is, .int .i64 0]) ∧ Hid (is = false → m = (0, 0)) ∧ Hid (is = true → (∀ W, Grew w W → Calls Try.prog 15 #[.slice (some ⟨b, o, none⟩) p.length c, .agg #[.int .i64 m.1, .int .i64 m.2]] W fun e w' => e = .returned (.tuple #[.bool true, .int .i64 0]) ∧ Grew W w') ∧ ∀ W, Grew w W → Calls Try.prog 15 #[.slice (some ⟨b', o', none⟩) q.length c', .agg #[.int .i64 m.1, .int .i64 m.2]] W fun e w' => e = .returned (.tuple #[.bool true, .int .i64 0]) ∧ Grew W w') ∧ Grew W w1))
    (CA : Hid (∀ W, Grew w W → Calls Try.prog 20 #[.slice (some ⟨b, o, none⟩) p.length c, .slice (some ⟨b', o', none⟩) q.length c'] W fun e w' => e = .returned (.tuple #[.bool a, .int .i64 0]) ∧ Grew W w'))
    (HL : Hid (∀ k W, k < p.length → Grew w W → Calls Try.prog 15 #[.slice (some ⟨b', o', none⟩) q.length c', .agg #[.int .i64 (at' p k).1, .int .i64 (at' p k).2]] W fun e w' => ∃ r : Bool, e = .returned (.tuple #[.bool r, .int .i64 0]) ∧ Hid (r = true → is = true) ∧ Grew W w'))
    (HL' : Hid (∀ k W, k < q.length → Grew w W → Calls Try.prog 15 #[.slice (some ⟨b, o, none⟩) p.length c, .agg #[.int .i64 (at' q k).1, .int .i64 (at' q k).2]] W fun e w' => ∃ r : Bool, e = .returned (.tuple #[.bool r, .int .i64 0]) ∧ Hid (r = true → is = true) ∧ Grew W w')) :
    Calls Try.prog 8 #[.slice (some ⟨b, o, none⟩) p.length c, .slice (some ⟨b', o', none⟩) q.length c'] w fun e w' => e = .returned (.bool true) ∧ Grew w w' := by
  have AI := Lib.hid hai
  have HR := Lib.hid hr
  have HR' := Lib.hid hr'
  clear hai hr hr'
  go_enter Try.func8, Try.ntmps8
  go_wp2_with fail
  refine (head_true C _).mono ?_
  rintro e v1 ⟨rfl, g1⟩
  have G1 : Grew w v1 := g1
  clear g1
  go_wp2_with fail
  refine (FW.out _).mono ?_
  rintro e w' ⟨rfl, rfl⟩
  go_wp2_with fail
  refine (CC.out _ G1).mono ?_
  rintro e v2 ⟨m, rfl, HN, HM, g2⟩
  have HX := Lib.hid (Blk.new v2 #[.int .i64 m.1, .int .i64 m.2] 26)
  have G2 : Grew w v2 := Grew.trans G1 g2
  clear g2 G1
  go_wp2_with fail
  refine (CA.out _ (by (repeat' (first | (with_reducible exact Grew.refl _) | (with_reducible assumption) | (with_reducible refine Grew.alloc ?_ _ _) | (with_reducible refine Grew.drew ?_) | (with_reducible refine Grew.drewN ?_ _) | (with_reducible refine Grew.setCell ?_ ?_ _) | go_size)))).mono ?_
  rintro e v3 ⟨rfl, g3⟩
  have HX := Lib.hid (HX.out.grown g3)
  have G3 : Grew w v3 := Grew.trans (by (repeat' (first | (with_reducible exact Grew.refl _) | (with_reducible assumption) | (with_reducible refine Grew.alloc ?_ _ _) | (with_reducible refine Grew.drew ?_) | (with_reducible refine Grew.drewN ?_ _) | (with_reducible refine Grew.setCell ?_ ?_ _) | go_size))) g3
  clear g3 G2 CA CC FW
  go_wp2_with fail
  go_loopw [11, 13, 14, 15, 66] (fun cr _ _ _ i wr => ∃ (k : Nat) (cc : Bool), k ≤ p.length ∧ i = .int .i64 k ∧ cr = .bool cc ∧ Hid (cc = true → is = true) ∧ Grew w wr ∧ Hid (Blk wr v2.heap.size #[.int .i64 m.1, .int .i64 m.2] 26)) (fun _ _ _ _ i _ => p.length - (intOf i).toNat)
  case atStart => exact ⟨0, false, Nat.zero_le _, rfl, rfl, Lib.hid (fun e => by cases e), G3, HX⟩
  case round =>
    clear G3 HX
    obtain ⟨k, cc, hk, rfl, rfl, CK, G, HW⟩ := hrel
    by_cases hlt : k < p.length
    · obtain ⟨q0, q1⟩ := (HR.out.grown G).2 k hlt
      have i0 : (0 : Int) ≤ (k : Int) := by omega
      have i1 : (k : Int) < (p.length : Int) := by omega
      have HLk := Lib.hid (fun W g => HL.out k W hlt g)
      cases cc
      · go_wp2_with fail
        refine (HLk.out _ (by (repeat' (first | (with_reducible exact Grew.refl _) | (with_reducible assumption) | (with_reducible refine Grew.alloc ?_ _ _) | (with_reducible refine Grew.drew ?_) | (with_reducible refine Grew.drewN ?_ _) | (with_reducible refine Grew.setCell ?_ ?_ _) | go_size)))).mono ?_
        rintro e w3 ⟨r, rfl, hr, g3⟩
        have D3 := Lib.hid (Grew.trans ((Grew.refl wr).alloc _ _) g3)
        have G3 : Grew w w3 := Grew.trans G D3.out
        clear g3 q0 q1
        cases r
        · go_wp2_with fail
          go_roundw
          case rel => exact ⟨k + 1, false, by omega, by go_num, rfl, Lib.hid (fun e => by cases e), G3, Lib.hid (HW.out.grown D3.out)⟩
          case measure => simp [intOf]; omega
        · go_wp2_with fail
          go_roundw
          case rel => exact ⟨k + 1, true, by omega, by go_num, rfl, Lib.hid (fun _ => hr.out trivial), G3, Lib.hid (HW.out.grown D3.out)⟩
          case measure => simp [intOf]; omega
      · go_wp2_with fail
        refine (HLk.out _ (by (repeat' (first | (with_reducible exact Grew.refl _) | (with_reducible assumption) | (with_reducible refine Grew.alloc ?_ _ _) | (with_reducible refine Grew.drew ?_) | (with_reducible refine Grew.drewN ?_ _) | (with_reducible refine Grew.setCell ?_ ?_ _) | go_size)))).mono ?_
        rintro e w3 ⟨r, rfl, hr, g3⟩
        have D3 := Lib.hid (Grew.trans ((Grew.refl wr).alloc _ _) g3)
        have G3 : Grew w w3 := Grew.trans G D3.out
        clear g3 q0 q1 hr
        go_wp2_with fail
        go_roundw
        case rel => exact ⟨k + 1, true, by omega, by go_num, rfl, Lib.hid (fun _ => CK.out trivial), G3, Lib.hid (HW.out.grown D3.out)⟩
        case measure => simp [intOf]; omega
    · obtain rfl : k = p.length := by omega
      go_wp2_with fail
      go_loopw [11, 17, 18, 19, 87] (fun cr _ _ _ i wr => ∃ (k : Nat) (cc : Bool), k ≤ q.length ∧ i = .int .i64 k ∧ cr = .bool cc ∧ Hid (cc = true → is = true) ∧ Grew w wr ∧ Hid (Blk wr v2.heap.size #[.int .i64 m.1, .int .i64 m.2] 26)) (fun _ _ _ _ i _ => q.length - (intOf i).toNat)
      case atStart => exact ⟨0, cc, Nat.zero_le _, rfl, rfl, CK, G, HW⟩
      case round =>
        clear G HW CK hlt hk
        obtain ⟨j, cd, hj, rfl, rfl, CJ, H, HY⟩ := hrel
        by_cases hlu : j < q.length
        · obtain ⟨q0, q1⟩ := (HR'.out.grown H).2 j hlu
          have i0 : (0 : Int) ≤ (j : Int) := by omega
          have i1 : (j : Int) < (q.length : Int) := by omega
          have HLk := Lib.hid (fun W g => HL'.out j W hlu g)
          cases cd
          · go_wp2_with fail
            refine (HLk.out _ (by (repeat' (first | (with_reducible exact Grew.refl _) | (with_reducible assumption) | (with_reducible refine Grew.alloc ?_ _ _) | (with_reducible refine Grew.drew ?_) | (with_reducible refine Grew.drewN ?_ _) | (with_reducible refine Grew.setCell ?_ ?_ _) | go_size)))).mono ?_
            rintro e w3 ⟨r, rfl, hr, g3⟩
            have D3 := Lib.hid (Grew.trans ((Grew.refl wr).alloc _ _) g3)
            have G3 : Grew w w3 := Grew.trans H D3.out
            clear g3 q0 q1
            cases r
            · go_wp2_with fail
              go_roundw
              case rel => exact ⟨j + 1, false, by omega, by go_num, rfl, Lib.hid (fun e => by cases e), G3, Lib.hid (HY.out.grown D3.out)⟩
              case measure => simp [intOf]; omega
            · go_wp2_with fail
              go_roundw
              case rel => exact ⟨j + 1, true, by omega, by go_num, rfl, Lib.hid (fun _ => hr.out trivial), G3, Lib.hid (HY.out.grown D3.out)⟩
              case measure => simp [intOf]; omega
          · go_wp2_with fail
            refine (HLk.out _ (by (repeat' (first | (with_reducible exact Grew.refl _) | (with_reducible assumption) | (with_reducible refine Grew.alloc ?_ _ _) | (with_reducible refine Grew.drew ?_) | (with_reducible refine Grew.drewN ?_ _) | (with_reducible refine Grew.setCell ?_ ?_ _) | go_size)))).mono ?_
            rintro e w3 ⟨r, rfl, hr, g3⟩
            have D3 := Lib.hid (Grew.trans ((Grew.refl wr).alloc _ _) g3)
            have G3 : Grew w w3 := Grew.trans H D3.out
            clear g3 q0 q1 hr
            go_wp2_with fail
            go_roundw
            case rel => exact ⟨j + 1, true, by omega, by go_num, rfl, Lib.hid (fun _ => CJ.out trivial), G3, Lib.hid (HY.out.grown D3.out)⟩
            case measure => simp [intOf]; omega
        · obtain rfl : j = q.length := by omega
          obtain ⟨x0, x1⟩ := blk2 HY.out
          have lx := HY.out.lt
          cases is
          · obtain rfl : cd = false := by
              cases cd
              · rfl
              · exact absurd (CJ.out rfl) (by decide)
            obtain rfl := HN.out rfl
            clear HN HM AI
            go_wp2_with fail
            go_ret
            exact ⟨rfl, H⟩
          · obtain rfl := AI.out rfl
            have HM1 := Lib.hid (HM.out rfl).1
            have HM2 := Lib.hid (HM.out rfl).2
            clear HM HN AI
            go_wp2_with fail
            refine (HM1.out _ (by (repeat' (first | (with_reducible exact Grew.refl _) | (with_reducible assumption) | (with_reducible refine Grew.alloc ?_ _ _) | (with_reducible refine Grew.drew ?_) | (with_reducible refine Grew.drewN ?_ _) | (with_reducible refine Grew.setCell ?_ ?_ _) | go_size)))).mono ?_
            rintro e w5 ⟨rfl, g5⟩
            have H5 : Grew w w5 := Grew.trans H g5
            have HY := Lib.hid (HY.out.grown g5)
            clear g5 x0 x1 lx HM1
            obtain ⟨x0, x1⟩ := blk2 HY.out
            have lx := HY.out.lt
            go_wp2_with fail
            refine (HM2.out _ (by (repeat' (first | (with_reducible exact Grew.refl _) | (with_reducible assumption) | (with_reducible refine Grew.alloc ?_ _ _) | (with_reducible refine Grew.drew ?_) | (with_reducible refine Grew.drewN ?_ _) | (with_reducible refine Grew.setCell ?_ ?_ _) | go_size)))).mono ?_
            rintro e w6 ⟨rfl, g6⟩
            have H6 : Grew w w6 := Grew.trans H5 g6
            clear g6 x0 x1 lx HM2
            go_wp2_with fail
            go_ret
            exact ⟨rfl, H6⟩
set_option maxRecDepth 100000 in
theorem common_bad' (C : Code) (p q : List Pt) (sa : Option Addr) (sc : Nat) (ta : Option Addr) (tc : Nat) (w : World) (fw : Bool) (FW : Hid (∀ W, Calls Try.prog 17 #[.slice sa p.length sc, .slice ta q.length tc] W fun e w' => e = .returned (.bool fw) ∧ W = w'))
    (CC : Hid (fw = true → ∀ W, Grew w W → Calls Try.prog 22 #[.slice sa p.length sc, .slice ta q.length tc] W fun e w' => e = .returned (.tuple #[.agg #[.int .i64 0, .int .i64 0], .bool false, .int .i64 1]) ∧ Grew W w'))
    (CA : Hid (fw = true → ∀ W, Grew w W → Calls Try.prog 20 #[.slice sa p.length sc, .slice ta q.length tc] W fun e w' => e = .returned (.tuple #[.bool false, .int .i64 1]) ∧ Grew W w')) :
    Calls Try.prog 8 #[.slice sa p.length sc, .slice ta q.length tc] w fun e w' => e = .returned (.bool true) ∧ Grew w w' := by
  generalize p.length = n at *
  generalize q.length = m at *
  go_enter Try.func8, Try.ntmps8
  go_wp2_with fail
  refine (head_true C _).mono ?_
  rintro e v1 ⟨rfl, g1⟩
  have G1 : Grew w v1 := g1
  clear g1
  go_wp2_with fail
  refine (FW.out _).mono ?_
  rintro e w' ⟨rfl, rfl⟩
  cases fw
  · go_wp2_with fail
    go_ret
    exact ⟨rfl, G1⟩
  · have CC1 := Lib.hid (CC.out rfl)
    have CA1 := Lib.hid (CA.out rfl)
    clear CC CA
    go_wp2_with fail
    refine (CC1.out _ G1).mono ?_
    rintro e v2 ⟨rfl, g2⟩
    have HX := Lib.hid (Blk.new v2 #[.int .i64 0, .int .i64 0] 26)
    have G2 : Grew w v2 := Grew.trans G1 g2
    clear g2 G1
    go_wp2_with fail
    refine (CA1.out _ (by (repeat' (first | (with_reducible exact Grew.refl _) | (with_reducible assumption) | (with_reducible refine Grew.alloc ?_ _ _) | (with_reducible refine Grew.drew ?_) | (with_reducible refine Grew.drewN ?_ _) | (with_reducible refine Grew.setCell ?_ ?_ _) | go_size)))).mono ?_
    rintro e v3 ⟨rfl, g3⟩
    obtain ⟨x0, x1⟩ := blk2 (HX.out.grown g3)
    have lx := (HX.out.grown g3).lt
    have G3 : Grew w v3 := Grew.trans (by (repeat' (first | (with_reducible exact Grew.refl _) | (with_reducible assumption) | (with_reducible refine Grew.alloc ?_ _ _) | (with_reducible refine Grew.drew ?_) | (with_reducible refine Grew.drewN ?_ _) | (with_reducible refine Grew.setCell ?_ ?_ _) | go_size))) g3
    clear g3 G2 HX CC1 CA1 FW
    go_wp2_with fail
    go_ret
    exact ⟨rfl, G3⟩
theorem common_true (K : Hl.Code) (C : Code) (p q : List Pt) (v v' : Value) (w : World) (hs : Sl w v p) (hs' : Sl w v' q) (hm : p.length ≤ 9223372036854775807) (hm' : q.length ≤ 9223372036854775807) : Calls Try.prog 8 #[v, v'] w fun e w' => e = .returned (.bool true) ∧ Grew w w' := by
  by_cases ok : Vl p ∧ Vl q
  · obtain ⟨hp, hq⟩ := ok
    obtain ⟨b, o, c, rfl, hr⟩ := hs.row (fun e => by have := hp.1.1; rw [e] at this; cases this)
    obtain ⟨b', o', c', rfl, hr'⟩ := hs'.row (fun e => by have := hq.1.1; rw [e] at this; cases this)
    have FW : Hid (∀ W, Calls Try.prog 17 #[.slice (some ⟨b, o, none⟩) p.length c, .slice (some ⟨b', o', none⟩) q.length c'] W fun e w' => e = .returned (.bool (decide (p.length ≤ 80 ∧ q.length ≤ 80))) ∧ W = w') := Lib.hid (fun W => few_c p q _ _ W ⟨_, _, rfl⟩ ⟨_, _, rfl⟩)
    rw [decide_eq_true (show p.length ≤ 80 ∧ q.length ≤ 80 from ⟨by have := hp.1.2; omega, by have := hq.1.2; omega⟩)] at FW
    obtain ⟨a, ha⟩ : ∃ a : Bool, a = true ↔ ¬ ∃ y, BothS p q y := by
      by_cases h : ∃ y, BothS p q y
      · exact ⟨false, by simp [h]⟩
      · exact ⟨true, by simp [h]⟩
    obtain ⟨is, hi⟩ : ∃ a : Bool, a = true ↔ ∃ z, Sel p q z := by
      by_cases h : ∃ z, Sel p q z
      · exact ⟨true, by simp [h]⟩
      · exact ⟨false, by simp [h]⟩
    refine common_walk C p q b o c b' o' c' w hr hr' a is (fun h => ?_) hp.1.2 hq.1.2 FW (Lib.hid fun W g => (C.common_ok p q _ _ W (hs.grown g) (hs'.grown g) hp hq).mono ?_) (Lib.hid fun W g => (C.apart_ok p q _ _ W (hs.grown g) (hs'.grown g) hp hq).mono ?_) (Lib.hid fun k W hk g => (K.has_ok q (at' p k) _ W (hs'.grown g) hq (hp.2.1 k hk)).mono ?_) (Lib.hid fun k W hk g => (K.has_ok p (at' q k) _ W (hs.grown g) hp (hq.2.1 k hk)).mono ?_)
    · obtain ⟨z, hz⟩ := hi.1 h
      cases a
      · rfl
      · exact absurd ⟨z, sel_both hz⟩ (ha.1 rfl)
    · rintro e w' (⟨m, ⟨hm, _⟩, rfl, g1⟩ | ⟨hn, rfl, g1⟩)
      · have ei : is = true := hi.2 ⟨m, hm⟩
        have hp2 := both_plc hp.2.1 hq.2.1 (sel_both hm)
        have hh := sel_has hp.pg hq.pg hm
        rw [ei]
        refine ⟨m, rfl, Lib.hid (fun h => by cases h), Lib.hid fun _ => ⟨fun W g => (K.has_ok p m _ W (hs.grown g) hp hp2).mono ?_, fun W g => (K.has_ok q m _ W (hs'.grown g) hq hp2).mono ?_⟩, g1⟩
        · rintro e w' ⟨r, rfl, h, g⟩
          rw [h.2 hh.1]
          exact ⟨rfl, g⟩
        · rintro e w' ⟨r, rfl, h, g⟩
          rw [h.2 hh.2]
          exact ⟨rfl, g⟩
      · have ei : is = false := by
          cases is
          · rfl
          · exact absurd (hi.1 rfl) hn
        rw [ei]
        exact ⟨(0, 0), rfl, Lib.hid fun _ => rfl, Lib.hid fun h => (by cases h), g1⟩
    · rintro e w' ⟨r, rfl, h, g⟩
      have : r = a := by rw [Bool.eq_iff_iff, h, ha]
      rw [this]
      exact ⟨rfl, g⟩
    · rintro e w' ⟨r, rfl, h, g⟩
      exact ⟨r, rfl, Lib.hid fun e => hi.2 (sel_first hk (h.1 e)), g⟩
    · rintro e w' ⟨r, rfl, h, g⟩
      exact ⟨r, rfl, Lib.hid fun e => hi.2 (sel_second hk (h.1 e)), g⟩
  · obtain ⟨sa, sc, rfl⟩ := hs.shape
    obtain ⟨ta, tc, rfl⟩ := hs'.shape
    have FW : Hid (∀ W, Calls Try.prog 17 #[.slice sa p.length sc, .slice ta q.length tc] W fun e w' => e = .returned (.bool (decide (p.length ≤ 80 ∧ q.length ≤ 80))) ∧ W = w') := Lib.hid (fun W => few_c p q _ _ W ⟨_, _, rfl⟩ ⟨_, _, rfl⟩)
    exact common_bad' C p q sa sc ta tc w _ FW (Lib.hid fun _ W g => C.common_bad p q _ _ W (hs.grown g) (hs'.grown g) hm hm' ok) (Lib.hid fun _ W g => C.apart_bad p q _ _ W (hs.grown g) (hs'.grown g) hm hm' ok)
end Ct
end Go.Proofs.Ytmijlfbmmegfbaa
namespace Go.Proofs.Ytmijlfbmmegfbaa
open Go.RowKit Hl
namespace Ct
def Got3 (sm h1 h2 : Bool) : Prop := h1 = true → h2 = true → sm = true
def Both2 (h1 h2 : Bool) : Prop := h1 = true ∧ h2 = true
def Err3 (ee : Int) (h1 h2 : Bool) : Prop := ee = 0 ∨ (ee = 1 ∧ h1 = false ∧ h2 = false)
theorem sl_some {W : World} {a : Option Addr} {n c : Nat} {l : List Pt} (h : Sl W (.slice a n c) l) (h0 : 0 < l.length) : ∃ b o, a = some ⟨b, o, none⟩ ∧ Row W b o l := by
  obtain ⟨b, o, c', e, r⟩ := h.row (fun e => by rw [e] at h0; cases h0)
  injection e with e1 e2 e3
  exact ⟨b, o, e1, r⟩
set_option maxRecDepth 100000 in
set_option maxHeartbeats 16000000 in
theorem meets_walk (C : Code) (p q m : List Pt) (x : Pt) (b o c b' o' c' : Nat) (w : World) (sm h1 h2 : Bool) (ee : Int) (hsome : Got3 sm h1 h2) (hee : Err3 ee h1 h2) (hm : m.length ≤ 64) (FW : Hid (∀ W, Calls Try.prog 17 #[.slice (some ⟨b, o, none⟩) p.length c, .slice (some ⟨b', o', none⟩) q.length c'] W fun e w' => e = .returned (.bool true) ∧ W = w'))
    (CM : Hid (∀ W, Grew w W → Calls Try.prog 19 #[.slice (some ⟨b, o, none⟩) p.length c, .slice (some ⟨b', o', none⟩) q.length c'] W fun e w1 => ∃ vl, e = .returned (.tuple #[vl, .bool sm, .int .i64 0]) ∧ Hid (Sl w1 vl m) ∧ Grew W w1)) (CN : Hid (∀ W, Grew w W → Calls Try.prog 19 #[.slice (some ⟨b', o', none⟩) q.length c', .slice (some ⟨b, o, none⟩) p.length c] W fun e w1 => ∃ vl, e = .returned (.tuple #[vl, .bool sm, .int .i64 0]) ∧ Hid (Sl w1 vl m) ∧ Grew W w1))
    (BP : Hid (∀ W, Grew w W → Calls Try.prog 11 #[.slice (some ⟨b, o, none⟩) p.length c] W fun e w' => ∃ lo hi : Pt, e = .returned (.tuple #[.agg #[.int .i64 lo.1, .int .i64 lo.2], .agg #[.int .i64 hi.1, .int .i64 hi.2], .int .i64 0]) ∧ (Plc lo ∧ Plc hi) ∧ Hid (∀ k, k < m.length → (lo.1 - 1 ≤ (at' m k).1 ∧ (at' m k).1 ≤ hi.1 + 1) ∧ lo.2 - 1 ≤ (at' m k).2 ∧ (at' m k).2 ≤ hi.2 + 1) ∧ Grew W w')) (BQ : Hid (∀ W, Grew w W → Calls Try.prog 11 #[.slice (some ⟨b', o', none⟩) q.length c'] W fun e w' => ∃ lo hi : Pt, e = .returned (.tuple #[.agg #[.int .i64 lo.1, .int .i64 lo.2], .agg #[.int .i64 hi.1, .int .i64 hi.2], .int .i64 0]) ∧ (Plc lo ∧ Plc hi) ∧ Hid (∀ k, k < m.length → (lo.1 - 1 ≤ (at' m k).1 ∧ (at' m k).1 ≤ hi.1 + 1) ∧ lo.2 - 1 ≤ (at' m k).2 ∧ (at' m k).2 ≤ hi.2 + 1) ∧ Grew W w'))
    (HP : Hid (∀ W, Grew w W → Calls Try.prog 15 #[.slice (some ⟨b, o, none⟩) p.length c, .agg #[.int .i64 x.1, .int .i64 x.2]] W fun e w' => e = .returned (.tuple #[.bool h1, .int .i64 ee]) ∧ Grew W w'))
    (HQ : Hid (∀ W, Grew w W → Calls Try.prog 15 #[.slice (some ⟨b', o', none⟩) q.length c', .agg #[.int .i64 x.1, .int .i64 x.2]] W fun e w' => e = .returned (.tuple #[.bool h2, .int .i64 ee]) ∧ Grew W w'))
    (HM : Hid (Both2 h1 h2 → ∀ W vl, Grew w W → Sl W vl m → Calls Try.prog 15 #[vl, .agg #[.int .i64 x.1, .int .i64 x.2]] W fun e w' => e = .returned (.tuple #[.bool true, .int .i64 0]) ∧ Grew W w')) :
    Calls Try.prog 6 #[.slice (some ⟨b, o, none⟩) p.length c, .slice (some ⟨b', o', none⟩) q.length c', .agg #[.int .i64 x.1, .int .i64 x.2]] w fun e w' => e = .returned (.bool true) ∧ Grew w w' := by
  have SO := Lib.hid hsome
  have EE := Lib.hid hee
  have SA : Hid (∀ W vl vl', Sl W vl m → Sl W vl' m → Calls Try.prog 18 #[vl, vl'] W fun e w' => e = .returned (.bool true) ∧ Grew W w') := Lib.hid (fun W vl vl' g g' => (same_any m m _ _ W g g' (by omega)).mono fun _ _ t => t.to rfl)
  have HX := Lib.hid (Blk.new w #[.int .i64 x.1, .int .i64 x.2] 26)
  clear hsome hee
  go_enter Try.func6, Try.ntmps6
  go_wp2_with fail
  refine (head_true C _).mono ?_
  rintro e v1 ⟨rfl, g1⟩
  have G1 : Grew w v1 := Grew.trans ((Grew.refl _).alloc _ _) g1
  have HX := Lib.hid (HX.out.grown g1)
  clear g1
  go_wp2_with fail
  refine (FW.out _).mono ?_
  rintro e w' ⟨rfl, rfl⟩
  go_wp2_with fail
  refine (CM.out _ G1).mono ?_
  rintro e v2 ⟨vl, rfl, S2, g2⟩
  have G2 : Grew w v2 := Grew.trans G1 g2
  have HX := Lib.hid (HX.out.grown g2)
  clear g2 G1
  go_wp2_with fail
  refine (CN.out _ G2).mono ?_
  rintro e v3 ⟨vn, rfl, S3, g3⟩
  have SL := Lib.hid (S2.out.grown g3)
  have G3 : Grew w v3 := Grew.trans G2 g3
  have HX := Lib.hid (HX.out.grown g3)
  obtain ⟨ma, mc, rfl⟩ := SL.out.shape
  obtain ⟨na, nc, rfl⟩ := S3.out.shape
  clear g3 G2 S2
  cases sm
  · go_wp2_with fail
    refine (SA.out _ _ _ SL.out S3.out).mono ?_
    rintro e v4 ⟨rfl, g4⟩
    have HX := Lib.hid (HX.out.grown g4)
    have SL := Lib.hid (SL.out.grown g4)
    have G4 : Grew w v4 := Grew.trans G3 g4
    have HB := Lib.hid (Blk.new v4 #[.slice (some ⟨b, o, none⟩) p.length c, .slice (some ⟨b', o', none⟩) q.length c'] 22)
    clear g4 G3 SA S3 CM CN FW
    go_wp2_with fail
    go_loopw [7, 75] (fun u i wr => ∃ j : Nat, j ≤ 2 ∧ u = .bool true ∧ i = .int .i64 j ∧ Grew w wr ∧ Hid (Sl wr (.slice ma m.length mc) m ∧ Blk wr w.heap.size #[.int .i64 x.1, .int .i64 x.2] 26 ∧ Blk wr v4.heap.size #[.slice (some ⟨b, o, none⟩) p.length c, .slice (some ⟨b', o', none⟩) q.length c'] 22)) (fun _ i _ => 2 - (intOf i).toNat)
    case atStart => exact ⟨0, Nat.zero_le _, rfl, rfl, G4.alloc _ _, Lib.hid ⟨SL.out.grown ((Grew.refl _).alloc _ _), HX.out.alloc _, HB.out⟩⟩
    case round =>
      clear G4 SL HX HB
      obtain ⟨j, hj, rfl, rfl, G, HW⟩ := hrel
      have jj : j = 0 ∨ j = 1 ∨ j = 2 := by omega
      rcases jj with rfl | rfl | rfl
      · obtain ⟨z0, z1⟩ := blk2 HW.out.2.2
        have lz := HW.out.2.2.lt
        go_wp2_with fail
        refine (BP.out _ G).mono ?_
        rintro e v5 ⟨lo, hi, rfl, ⟨⟨⟨a0, a1⟩, a2, a3⟩, ⟨b0, b1⟩, b2, b3⟩, WN, g5⟩
        have G5 : Grew w v5 := Grew.trans G g5
        have XL := Lib.hid ((Blk.new v5 #[.int .i64 lo.1, .int .i64 lo.2] 26).alloc (.cells #[.int .i64 hi.1, .int .i64 hi.2] 26))
        have XH := Lib.hid (show Blk ((v5.alloc (.cells #[.int .i64 lo.1, .int .i64 lo.2] 26)).alloc (.cells #[.int .i64 hi.1, .int .i64 hi.2] 26)) (v5.heap.size + 1) #[.int .i64 hi.1, .int .i64 hi.2] 26 from by have g := Blk.new (v5.alloc (.cells #[.int .i64 lo.1, .int .i64 lo.2] 26)) #[.int .i64 hi.1, .int .i64 hi.2] 26; rw [World.size_alloc] at g; exact g)
        have HV := Lib.hid (And.intro (HW.out.1.grown g5) (And.intro (HW.out.2.1.grown g5) (HW.out.2.2.grown g5)))
        clear g5 G z0 z1 lz HW
        go_wp2_with fail
        go_loopw [7, 89] (fun u i wz => ∃ k : Nat, k ≤ m.length ∧ u = .bool true ∧ i = .int .i64 k ∧ Grew w wz ∧ Hid ((Sl wz (.slice ma m.length mc) m ∧ Blk wz w.heap.size #[.int .i64 x.1, .int .i64 x.2] 26 ∧ Blk wz v4.heap.size #[.slice (some ⟨b, o, none⟩) p.length c, .slice (some ⟨b', o', none⟩) q.length c'] 22) ∧ Blk wz v5.heap.size #[.int .i64 lo.1, .int .i64 lo.2] 26 ∧ Blk wz (v5.heap.size + 1) #[.int .i64 hi.1, .int .i64 hi.2] 26)) (fun _ i _ => m.length - (intOf i).toNat)
        case atStart => exact ⟨0, Nat.zero_le _, rfl, rfl, (G5.alloc _ _).alloc _ _, Lib.hid ⟨⟨HV.out.1.grown (((Grew.refl _).alloc _ _).alloc _ _), (HV.out.2.1.alloc _).alloc _, (HV.out.2.2.alloc _).alloc _⟩, XL.out, XH.out⟩⟩
        case round =>
          clear G5 HV XL XH
          obtain ⟨k, hk, rfl, rfl, H, HY⟩ := hrel
          by_cases hlt : k < m.length
          · obtain ⟨mb, mo, rfl, row⟩ := sl_some HY.out.1.1 (by omega)
            obtain ⟨q0, q1⟩ := row.2 k hlt
            obtain ⟨⟨n0, n1⟩, n2, n3⟩ := WN.out k hlt
            obtain ⟨l0, l1⟩ := blk2 HY.out.2.1
            obtain ⟨u0, u1⟩ := blk2 HY.out.2.2
            have ll := HY.out.2.1.lt
            have lu := HY.out.2.2.lt
            have ll1 : v5.heap.size < wr.heap.size + 1 := by omega
            have lu1 : v5.heap.size + 1 < wr.heap.size + 1 := by omega
            have i0 : (0 : Int) ≤ (k : Int) := by omega
            have i1 : (k : Int) < (m.length : Int) := by omega
            clear row
            go_wp2_with fail
            go_roundw
            case rel => exact ⟨k + 1, by omega, rfl, by go_num, H.alloc _ _, Lib.hid ⟨⟨HY.out.1.1.grown ((Grew.refl _).alloc _ _), HY.out.1.2.1.alloc _, HY.out.1.2.2.alloc _⟩, HY.out.2.1.alloc _, HY.out.2.2.alloc _⟩⟩
            case measure => simp [intOf]; omega
          · obtain rfl : k = m.length := by omega
            go_wp2_with fail
            go_roundw
            case rel => exact ⟨1, by omega, rfl, by go_num, H, Lib.hid HY.out.1⟩
            case measure => simp [intOf]
      · obtain ⟨z0, z1⟩ := blk2 HW.out.2.2
        have lz := HW.out.2.2.lt
        go_wp2_with fail
        refine (BQ.out _ G).mono ?_
        rintro e v5 ⟨lo, hi, rfl, ⟨⟨⟨a0, a1⟩, a2, a3⟩, ⟨b0, b1⟩, b2, b3⟩, WN, g5⟩
        have G5 : Grew w v5 := Grew.trans G g5
        have XL := Lib.hid ((Blk.new v5 #[.int .i64 lo.1, .int .i64 lo.2] 26).alloc (.cells #[.int .i64 hi.1, .int .i64 hi.2] 26))
        have XH := Lib.hid (show Blk ((v5.alloc (.cells #[.int .i64 lo.1, .int .i64 lo.2] 26)).alloc (.cells #[.int .i64 hi.1, .int .i64 hi.2] 26)) (v5.heap.size + 1) #[.int .i64 hi.1, .int .i64 hi.2] 26 from by have g := Blk.new (v5.alloc (.cells #[.int .i64 lo.1, .int .i64 lo.2] 26)) #[.int .i64 hi.1, .int .i64 hi.2] 26; rw [World.size_alloc] at g; exact g)
        have HV := Lib.hid (And.intro (HW.out.1.grown g5) (And.intro (HW.out.2.1.grown g5) (HW.out.2.2.grown g5)))
        clear g5 G z0 z1 lz HW
        go_wp2_with fail
        go_loopw [7, 89] (fun u i wz => ∃ k : Nat, k ≤ m.length ∧ u = .bool true ∧ i = .int .i64 k ∧ Grew w wz ∧ Hid ((Sl wz (.slice ma m.length mc) m ∧ Blk wz w.heap.size #[.int .i64 x.1, .int .i64 x.2] 26 ∧ Blk wz v4.heap.size #[.slice (some ⟨b, o, none⟩) p.length c, .slice (some ⟨b', o', none⟩) q.length c'] 22) ∧ Blk wz v5.heap.size #[.int .i64 lo.1, .int .i64 lo.2] 26 ∧ Blk wz (v5.heap.size + 1) #[.int .i64 hi.1, .int .i64 hi.2] 26)) (fun _ i _ => m.length - (intOf i).toNat)
        case atStart => exact ⟨0, Nat.zero_le _, rfl, rfl, (G5.alloc _ _).alloc _ _, Lib.hid ⟨⟨HV.out.1.grown (((Grew.refl _).alloc _ _).alloc _ _), (HV.out.2.1.alloc _).alloc _, (HV.out.2.2.alloc _).alloc _⟩, XL.out, XH.out⟩⟩
        case round =>
          clear G5 HV XL XH
          obtain ⟨k, hk, rfl, rfl, H, HY⟩ := hrel
          by_cases hlt : k < m.length
          · obtain ⟨mb, mo, rfl, row⟩ := sl_some HY.out.1.1 (by omega)
            obtain ⟨q0, q1⟩ := row.2 k hlt
            obtain ⟨⟨n0, n1⟩, n2, n3⟩ := WN.out k hlt
            obtain ⟨l0, l1⟩ := blk2 HY.out.2.1
            obtain ⟨u0, u1⟩ := blk2 HY.out.2.2
            have ll := HY.out.2.1.lt
            have lu := HY.out.2.2.lt
            have ll1 : v5.heap.size < wr.heap.size + 1 := by omega
            have lu1 : v5.heap.size + 1 < wr.heap.size + 1 := by omega
            have i0 : (0 : Int) ≤ (k : Int) := by omega
            have i1 : (k : Int) < (m.length : Int) := by omega
            clear row
            go_wp2_with fail
            go_roundw
            case rel => exact ⟨k + 1, by omega, rfl, by go_num, H.alloc _ _, Lib.hid ⟨⟨HY.out.1.1.grown ((Grew.refl _).alloc _ _), HY.out.1.2.1.alloc _, HY.out.1.2.2.alloc _⟩, HY.out.2.1.alloc _, HY.out.2.2.alloc _⟩⟩
            case measure => simp [intOf]; omega
          · obtain rfl : k = m.length := by omega
            go_wp2_with fail
            go_roundw
            case rel => exact ⟨2, by omega, rfl, by go_num, H, Lib.hid HY.out.1⟩
            case measure => simp [intOf]
      · obtain ⟨x0, x1⟩ := blk2 HW.out.2.1
        have lx := HW.out.2.1.lt
        go_wp2_with fail
        refine (HP.out _ G).mono ?_
        rintro e v6 ⟨rfl, g6⟩
        have G6 : Grew w v6 := Grew.trans G g6
        have HV := Lib.hid (And.intro (HW.out.1.grown g6) (HW.out.2.1.grown g6))
        clear g6 G x0 x1 lx HW
        obtain ⟨x0, x1⟩ := blk2 HV.out.2
        have lx := HV.out.2.lt
        go_wp2_with fail
        refine (HQ.out _ G6).mono ?_
        rintro e v7 ⟨rfl, g7⟩
        have G7 : Grew w v7 := Grew.trans G6 g7
        have HY := Lib.hid (And.intro (HV.out.1.grown g7) (HV.out.2.grown g7))
        clear g7 G6 x0 x1 lx HV HP HQ BP BQ
        obtain ⟨x0, x1⟩ := blk2 HY.out.2
        have lx := HY.out.2.lt
        rcases EE.out with rfl | ⟨rfl, rfl, rfl⟩
        · cases h1
          · go_wp2_with fail
            go_ret
            exact ⟨rfl, G7⟩
          · cases h2
            · go_wp2_with fail
              go_ret
              exact ⟨rfl, G7⟩
            · exact absurd ((show Got3 false true true from SO.out) rfl rfl) (by decide)
        · go_wp2_with fail
          go_ret
          exact ⟨rfl, G7⟩
  · go_wp2_with fail
    refine (SA.out _ _ _ SL.out S3.out).mono ?_
    rintro e v4 ⟨rfl, g4⟩
    have HX := Lib.hid (HX.out.grown g4)
    have SL := Lib.hid (SL.out.grown g4)
    have G4 : Grew w v4 := Grew.trans G3 g4
    have HB := Lib.hid (Blk.new v4 #[.slice (some ⟨b, o, none⟩) p.length c, .slice (some ⟨b', o', none⟩) q.length c'] 22)
    clear g4 G3 SA S3 CM CN FW
    go_wp2_with fail
    go_loopw [7, 75] (fun u i wr => ∃ j : Nat, j ≤ 2 ∧ u = .bool true ∧ i = .int .i64 j ∧ Grew w wr ∧ Hid (Sl wr (.slice ma m.length mc) m ∧ Blk wr w.heap.size #[.int .i64 x.1, .int .i64 x.2] 26 ∧ Blk wr v4.heap.size #[.slice (some ⟨b, o, none⟩) p.length c, .slice (some ⟨b', o', none⟩) q.length c'] 22)) (fun _ i _ => 2 - (intOf i).toNat)
    case atStart => exact ⟨0, Nat.zero_le _, rfl, rfl, G4.alloc _ _, Lib.hid ⟨SL.out.grown ((Grew.refl _).alloc _ _), HX.out.alloc _, HB.out⟩⟩
    case round =>
      clear G4 SL HX HB
      obtain ⟨j, hj, rfl, rfl, G, HW⟩ := hrel
      have jj : j = 0 ∨ j = 1 ∨ j = 2 := by omega
      rcases jj with rfl | rfl | rfl
      · obtain ⟨z0, z1⟩ := blk2 HW.out.2.2
        have lz := HW.out.2.2.lt
        go_wp2_with fail
        refine (BP.out _ G).mono ?_
        rintro e v5 ⟨lo, hi, rfl, ⟨⟨⟨a0, a1⟩, a2, a3⟩, ⟨b0, b1⟩, b2, b3⟩, WN, g5⟩
        have G5 : Grew w v5 := Grew.trans G g5
        have XL := Lib.hid ((Blk.new v5 #[.int .i64 lo.1, .int .i64 lo.2] 26).alloc (.cells #[.int .i64 hi.1, .int .i64 hi.2] 26))
        have XH := Lib.hid (show Blk ((v5.alloc (.cells #[.int .i64 lo.1, .int .i64 lo.2] 26)).alloc (.cells #[.int .i64 hi.1, .int .i64 hi.2] 26)) (v5.heap.size + 1) #[.int .i64 hi.1, .int .i64 hi.2] 26 from by have g := Blk.new (v5.alloc (.cells #[.int .i64 lo.1, .int .i64 lo.2] 26)) #[.int .i64 hi.1, .int .i64 hi.2] 26; rw [World.size_alloc] at g; exact g)
        have HV := Lib.hid (And.intro (HW.out.1.grown g5) (And.intro (HW.out.2.1.grown g5) (HW.out.2.2.grown g5)))
        clear g5 G z0 z1 lz HW
        go_wp2_with fail
        go_loopw [7, 89] (fun u i wz => ∃ k : Nat, k ≤ m.length ∧ u = .bool true ∧ i = .int .i64 k ∧ Grew w wz ∧ Hid ((Sl wz (.slice ma m.length mc) m ∧ Blk wz w.heap.size #[.int .i64 x.1, .int .i64 x.2] 26 ∧ Blk wz v4.heap.size #[.slice (some ⟨b, o, none⟩) p.length c, .slice (some ⟨b', o', none⟩) q.length c'] 22) ∧ Blk wz v5.heap.size #[.int .i64 lo.1, .int .i64 lo.2] 26 ∧ Blk wz (v5.heap.size + 1) #[.int .i64 hi.1, .int .i64 hi.2] 26)) (fun _ i _ => m.length - (intOf i).toNat)
        case atStart => exact ⟨0, Nat.zero_le _, rfl, rfl, (G5.alloc _ _).alloc _ _, Lib.hid ⟨⟨HV.out.1.grown (((Grew.refl _).alloc _ _).alloc _ _), (HV.out.2.1.alloc _).alloc _, (HV.out.2.2.alloc _).alloc _⟩, XL.out, XH.out⟩⟩
        case round =>
          clear G5 HV XL XH
          obtain ⟨k, hk, rfl, rfl, H, HY⟩ := hrel
          by_cases hlt : k < m.length
          · obtain ⟨mb, mo, rfl, row⟩ := sl_some HY.out.1.1 (by omega)
            obtain ⟨q0, q1⟩ := row.2 k hlt
            obtain ⟨⟨n0, n1⟩, n2, n3⟩ := WN.out k hlt
            obtain ⟨l0, l1⟩ := blk2 HY.out.2.1
            obtain ⟨u0, u1⟩ := blk2 HY.out.2.2
            have ll := HY.out.2.1.lt
            have lu := HY.out.2.2.lt
            have ll1 : v5.heap.size < wr.heap.size + 1 := by omega
            have lu1 : v5.heap.size + 1 < wr.heap.size + 1 := by omega
            have i0 : (0 : Int) ≤ (k : Int) := by omega
            have i1 : (k : Int) < (m.length : Int) := by omega
            clear row
            go_wp2_with fail
            go_roundw
            case rel => exact ⟨k + 1, by omega, rfl, by go_num, H.alloc _ _, Lib.hid ⟨⟨HY.out.1.1.grown ((Grew.refl _).alloc _ _), HY.out.1.2.1.alloc _, HY.out.1.2.2.alloc _⟩, HY.out.2.1.alloc _, HY.out.2.2.alloc _⟩⟩
            case measure => simp [intOf]; omega
          · obtain rfl : k = m.length := by omega
            go_wp2_with fail
            go_roundw
            case rel => exact ⟨1, by omega, rfl, by go_num, H, Lib.hid HY.out.1⟩
            case measure => simp [intOf]
      · obtain ⟨z0, z1⟩ := blk2 HW.out.2.2
        have lz := HW.out.2.2.lt
        go_wp2_with fail
        refine (BQ.out _ G).mono ?_
        rintro e v5 ⟨lo, hi, rfl, ⟨⟨⟨a0, a1⟩, a2, a3⟩, ⟨b0, b1⟩, b2, b3⟩, WN, g5⟩
        have G5 : Grew w v5 := Grew.trans G g5
        have XL := Lib.hid ((Blk.new v5 #[.int .i64 lo.1, .int .i64 lo.2] 26).alloc (.cells #[.int .i64 hi.1, .int .i64 hi.2] 26))
        have XH := Lib.hid (show Blk ((v5.alloc (.cells #[.int .i64 lo.1, .int .i64 lo.2] 26)).alloc (.cells #[.int .i64 hi.1, .int .i64 hi.2] 26)) (v5.heap.size + 1) #[.int .i64 hi.1, .int .i64 hi.2] 26 from by have g := Blk.new (v5.alloc (.cells #[.int .i64 lo.1, .int .i64 lo.2] 26)) #[.int .i64 hi.1, .int .i64 hi.2] 26; rw [World.size_alloc] at g; exact g)
        have HV := Lib.hid (And.intro (HW.out.1.grown g5) (And.intro (HW.out.2.1.grown g5) (HW.out.2.2.grown g5)))
        clear g5 G z0 z1 lz HW
        go_wp2_with fail
        go_loopw [7, 89] (fun u i wz => ∃ k : Nat, k ≤ m.length ∧ u = .bool true ∧ i = .int .i64 k ∧ Grew w wz ∧ Hid ((Sl wz (.slice ma m.length mc) m ∧ Blk wz w.heap.size #[.int .i64 x.1, .int .i64 x.2] 26 ∧ Blk wz v4.heap.size #[.slice (some ⟨b, o, none⟩) p.length c, .slice (some ⟨b', o', none⟩) q.length c'] 22) ∧ Blk wz v5.heap.size #[.int .i64 lo.1, .int .i64 lo.2] 26 ∧ Blk wz (v5.heap.size + 1) #[.int .i64 hi.1, .int .i64 hi.2] 26)) (fun _ i _ => m.length - (intOf i).toNat)
        case atStart => exact ⟨0, Nat.zero_le _, rfl, rfl, (G5.alloc _ _).alloc _ _, Lib.hid ⟨⟨HV.out.1.grown (((Grew.refl _).alloc _ _).alloc _ _), (HV.out.2.1.alloc _).alloc _, (HV.out.2.2.alloc _).alloc _⟩, XL.out, XH.out⟩⟩
        case round =>
          clear G5 HV XL XH
          obtain ⟨k, hk, rfl, rfl, H, HY⟩ := hrel
          by_cases hlt : k < m.length
          · obtain ⟨mb, mo, rfl, row⟩ := sl_some HY.out.1.1 (by omega)
            obtain ⟨q0, q1⟩ := row.2 k hlt
            obtain ⟨⟨n0, n1⟩, n2, n3⟩ := WN.out k hlt
            obtain ⟨l0, l1⟩ := blk2 HY.out.2.1
            obtain ⟨u0, u1⟩ := blk2 HY.out.2.2
            have ll := HY.out.2.1.lt
            have lu := HY.out.2.2.lt
            have ll1 : v5.heap.size < wr.heap.size + 1 := by omega
            have lu1 : v5.heap.size + 1 < wr.heap.size + 1 := by omega
            have i0 : (0 : Int) ≤ (k : Int) := by omega
            have i1 : (k : Int) < (m.length : Int) := by omega
            clear row
            go_wp2_with fail
            go_roundw
            case rel => exact ⟨k + 1, by omega, rfl, by go_num, H.alloc _ _, Lib.hid ⟨⟨HY.out.1.1.grown ((Grew.refl _).alloc _ _), HY.out.1.2.1.alloc _, HY.out.1.2.2.alloc _⟩, HY.out.2.1.alloc _, HY.out.2.2.alloc _⟩⟩
            case measure => simp [intOf]; omega
          · obtain rfl : k = m.length := by omega
            go_wp2_with fail
            go_roundw
            case rel => exact ⟨2, by omega, rfl, by go_num, H, Lib.hid HY.out.1⟩
            case measure => simp [intOf]
      · obtain ⟨x0, x1⟩ := blk2 HW.out.2.1
        have lx := HW.out.2.1.lt
        go_wp2_with fail
        refine (HP.out _ G).mono ?_
        rintro e v6 ⟨rfl, g6⟩
        have G6 : Grew w v6 := Grew.trans G g6
        have HV := Lib.hid (And.intro (HW.out.1.grown g6) (HW.out.2.1.grown g6))
        clear g6 G x0 x1 lx HW
        obtain ⟨x0, x1⟩ := blk2 HV.out.2
        have lx := HV.out.2.lt
        go_wp2_with fail
        refine (HQ.out _ G6).mono ?_
        rintro e v7 ⟨rfl, g7⟩
        have G7 : Grew w v7 := Grew.trans G6 g7
        have HY := Lib.hid (And.intro (HV.out.1.grown g7) (HV.out.2.grown g7))
        clear g7 G6 x0 x1 lx HV HP HQ BP BQ
        obtain ⟨x0, x1⟩ := blk2 HY.out.2
        have lx := HY.out.2.lt
        rcases EE.out with rfl | ⟨rfl, rfl, rfl⟩
        · cases h1
          · go_wp2_with fail
            go_ret
            exact ⟨rfl, G7⟩
          · cases h2
            · go_wp2_with fail
              go_ret
              exact ⟨rfl, G7⟩
            · have HM1 := Lib.hid (HM.out ⟨rfl, rfl⟩)
              clear HM
              go_wp2_with fail
              refine (HM1.out _ _ G7 HY.out.1).mono ?_
              rintro e v8 ⟨rfl, g8⟩
              have G8 : Grew w v8 := Grew.trans G7 g8
              clear g8 G7 x0 x1 lx HY HM1
              go_wp2_with fail
              go_ret
              exact ⟨rfl, G8⟩
        · go_wp2_with fail
          go_ret
          exact ⟨rfl, G7⟩
set_option maxRecDepth 100000 in
theorem meets_bad (C : Code) (p q : List Pt) (x : Pt) (sa : Option Addr) (sc : Nat) (ta : Option Addr) (tc : Nat) (w : World) (fw : Bool) (FW : Hid (∀ W, Calls Try.prog 17 #[.slice sa p.length sc, .slice ta q.length tc] W fun e w' => e = .returned (.bool fw) ∧ W = w'))
    (CM : Hid (fw = true → ∀ W, Grew w W → Calls Try.prog 19 #[.slice sa p.length sc, .slice ta q.length tc] W fun e w1 => ∃ vl, e = .returned (.tuple #[vl, .bool false, .int .i64 1]) ∧ Grew W w1))
    (CN : Hid (fw = true → ∀ W, Grew w W → Calls Try.prog 19 #[.slice ta q.length tc, .slice sa p.length sc] W fun e w1 => ∃ vl, e = .returned (.tuple #[vl, .bool false, .int .i64 1]) ∧ Grew W w1)) :
    Calls Try.prog 6 #[.slice sa p.length sc, .slice ta q.length tc, .agg #[.int .i64 x.1, .int .i64 x.2]] w fun e w' => e = .returned (.bool true) ∧ Grew w w' := by
  generalize p.length = n at *
  generalize q.length = m at *
  go_enter Try.func6, Try.ntmps6
  go_wp2_with fail
  refine (head_true C _).mono ?_
  rintro e v1 ⟨rfl, g1⟩
  have G1 : Grew w v1 := Grew.trans ((Grew.refl _).alloc _ _) g1
  clear g1
  go_wp2_with fail
  refine (FW.out _).mono ?_
  rintro e w' ⟨rfl, rfl⟩
  cases fw
  · go_wp2_with fail
    go_ret
    exact ⟨rfl, G1⟩
  · have CM1 := Lib.hid (CM.out rfl)
    have CN1 := Lib.hid (CN.out rfl)
    clear CM CN
    go_wp2_with fail
    refine (CM1.out _ G1).mono ?_
    rintro e v2 ⟨vl, rfl, g2⟩
    have G2 : Grew w v2 := Grew.trans G1 g2
    clear g2 G1
    go_wp2_with fail
    refine (CN1.out _ G2).mono ?_
    rintro e v3 ⟨vn, rfl, g3⟩
    have G3 : Grew w v3 := Grew.trans G2 g3
    clear g3 G2
    go_wp2_with fail
    go_ret
    exact ⟨rfl, G3⟩
set_option maxRecDepth 100000 in
theorem meets_none (C : Code) (p q : List Pt) (x : Pt) (b o c b' o' c' : Nat) (w : World) (hp : Vl p) (hq : Vl q)
    (CM : Hid (∀ W, Grew w W → Calls Try.prog 19 #[.slice (some ⟨b, o, none⟩) p.length c, .slice (some ⟨b', o', none⟩) q.length c'] W fun _ _ => False)) :
    Calls Try.prog 6 #[.slice (some ⟨b, o, none⟩) p.length c, .slice (some ⟨b', o', none⟩) q.length c', .agg #[.int .i64 x.1, .int .i64 x.2]] w fun e w' => e = .returned (.bool true) ∧ Grew w w' := by
  have FW : Hid (∀ W, Calls Try.prog 17 #[.slice (some ⟨b, o, none⟩) p.length c, .slice (some ⟨b', o', none⟩) q.length c'] W fun e w' => e = .returned (.bool (decide (p.length ≤ 80 ∧ q.length ≤ 80))) ∧ W = w') := Lib.hid (fun W => few_c p q _ _ W ⟨_, _, rfl⟩ ⟨_, _, rfl⟩)
  rw [decide_eq_true (show p.length ≤ 80 ∧ q.length ≤ 80 from ⟨by have := hp.1.2; omega, by have := hq.1.2; omega⟩)] at FW
  clear hp hq
  go_enter Try.func6, Try.ntmps6
  go_wp2_with fail
  refine (head_true C _).mono ?_
  rintro e v1 ⟨rfl, g1⟩
  have G1 : Grew w v1 := Grew.trans ((Grew.refl _).alloc _ _) g1
  clear g1
  go_wp2_with fail
  refine (FW.out _).mono ?_
  rintro e w' ⟨rfl, rfl⟩
  go_wp2_with fail
  refine (CM.out _ G1).mono ?_
  exact fun _ _ h => h.elim
theorem box_plc {p : List Pt} (hp : Plcs p) {lo hi : Pt} (h : IsBox p lo hi) : Plc lo ∧ Plc hi := by
  obtain ⟨y1, g1, e1⟩ := h.1.1
  obtain ⟨y2, g2, e2⟩ := h.2.1.1
  obtain ⟨y3, g3, e3⟩ := h.2.2.1.1
  obtain ⟨y4, g4, e4⟩ := h.2.2.2.1
  obtain ⟨i1, k1, f1⟩ := mem_at g1
  obtain ⟨i2, k2, f2⟩ := mem_at g2
  obtain ⟨i3, k3, f3⟩ := mem_at g3
  obtain ⟨i4, k4, f4⟩ := mem_at g4
  have p1 := hp _ k1
  have p2 := hp _ k2
  have p3 := hp _ k3
  have p4 := hp _ k4
  rw [f1] at p1
  rw [f2] at p2
  rw [f3] at p3
  rw [f4] at p4
  unfold Plc at *
  omega
/-- A frame of a crossing lies in the rectangle of a polygon whose side it is on. -/
theorem frame_box {p : List Pt} {lo hi : Pt} (hp : Pg p) (h : IsBox p lo hi) {i : Nat} (hi' : i < p.length) {s t : Int} {y : Pt} (g : Fr (at' p i) (at' p ((i + 1) % p.length)) s t y) : (lo.1 ≤ y.1 ∧ y.1 ≤ hi.1) ∧ lo.2 ≤ y.2 ∧ y.2 ≤ hi.2 := by
  obtain ⟨m, n, hw, h1, h2⟩ := g
  have a := box_has hp h (hs_corner hp hi')
  have b := box_has hp h (hs_corner hp (show (i + 1) % p.length < p.length from Nat.mod_lt _ (by omega)))
  exact ⟨wr_bounds hw.1 hw.2.1 ⟨a.1, a.2.1⟩ ⟨b.1, b.2.1⟩ h1, wr_bounds hw.1 hw.2.1 a.2.2 b.2.2 h2⟩
theorem both_box {p q : List Pt} (hp : Pg p) (_hq : Pg q) {lo hi : Pt} (h : IsBox p lo hi) {y : Pt} (g : BothS p q y) : (lo.1 ≤ y.1 ∧ y.1 ≤ hi.1) ∧ lo.2 ≤ y.2 ∧ y.2 ≤ hi.2 := by
  rcases g with ⟨i, hi', rfl, _⟩ | ⟨k, hk, rfl, g⟩ | ⟨i, k, ⟨hi', hk⟩, g⟩
  · have a := box_has hp h (hs_corner hp hi')
    omega
  · have a := box_has hp h g
    omega
  · exact frame_box hp h hi' g.turn.2
theorem meet_near {p q m : List Pt} (hp : Vl p) (hq : Vl q) (h : Poly (BothS p q) m) {lo hi : Pt} (b : IsBox p lo hi) : ∀ k, k < m.length → (lo.1 - 1 ≤ (at' m k).1 ∧ (at' m k).1 ≤ hi.1 + 1) ∧ lo.2 - 1 ≤ (at' m k).2 ∧ (at' m k).2 ≤ hi.2 + 1 := by
  intro k hk
  have := h.within (fun y hy => both_plc hp.2.1 hq.2.1 hy) (fun y hy => both_box hp.pg hq.pg b hy) _ (at_mem hk)
  omega
theorem meets_fine (K : Hl.Code) (C : Code) (p q m : List Pt) (x : Pt) (b o c b' o' c' : Nat) (w : World) (sm : Bool) (hr : Row w b o p) (hr' : Row w b' o' q) (hp : Vl p) (hq : Vl q) (hm : m.length ≤ 64)
    (hsm : sm = true → Vl m)
    (hsome : Hs p x → Hs q x → sm = true ∧ (Plc x → Hs m x))
    (near : ∀ lo hi, IsBox p lo hi → ∀ k, k < m.length → (lo.1 - 1 ≤ (at' m k).1 ∧ (at' m k).1 ≤ hi.1 + 1) ∧ lo.2 - 1 ≤ (at' m k).2 ∧ (at' m k).2 ≤ hi.2 + 1)
    (near' : ∀ lo hi, IsBox q lo hi → ∀ k, k < m.length → (lo.1 - 1 ≤ (at' m k).1 ∧ (at' m k).1 ≤ hi.1 + 1) ∧ lo.2 - 1 ≤ (at' m k).2 ∧ (at' m k).2 ≤ hi.2 + 1)
    (CM : Hid (∀ W, Grew w W → Calls Try.prog 19 #[.slice (some ⟨b, o, none⟩) p.length c, .slice (some ⟨b', o', none⟩) q.length c'] W fun e w1 => ∃ vl, e = .returned (.tuple #[vl, .bool sm, .int .i64 0]) ∧ Hid (Sl w1 vl m) ∧ Grew W w1))
    (CN : Hid (∀ W, Grew w W → Calls Try.prog 19 #[.slice (some ⟨b', o', none⟩) q.length c', .slice (some ⟨b, o, none⟩) p.length c] W fun e w1 => ∃ vl, e = .returned (.tuple #[vl, .bool sm, .int .i64 0]) ∧ Hid (Sl w1 vl m) ∧ Grew W w1)) :
    Calls Try.prog 6 #[.slice (some ⟨b, o, none⟩) p.length c, .slice (some ⟨b', o', none⟩) q.length c', .agg #[.int .i64 x.1, .int .i64 x.2]] w fun e w' => e = .returned (.bool true) ∧ Grew w w' := by
  have FW : Hid (∀ W, Calls Try.prog 17 #[.slice (some ⟨b, o, none⟩) p.length c, .slice (some ⟨b', o', none⟩) q.length c'] W fun e w' => e = .returned (.bool (decide (p.length ≤ 80 ∧ q.length ≤ 80))) ∧ W = w') := Lib.hid (fun W => few_c p q _ _ W ⟨_, _, rfl⟩ ⟨_, _, rfl⟩)
  rw [decide_eq_true (show p.length ≤ 80 ∧ q.length ≤ 80 from ⟨by have := hp.1.2; omega, by have := hq.1.2; omega⟩)] at FW
  have hs : ∀ W, Grew w W → Sl W (.slice (some ⟨b, o, none⟩) p.length c) p := fun W g => Or.inr ⟨b, o, c, rfl, hr.grown g⟩
  have hs' : ∀ W, Grew w W → Sl W (.slice (some ⟨b', o', none⟩) q.length c') q := fun W g => Or.inr ⟨b', o', c', rfl, hr'.grown g⟩
  have BX : ∀ {l : List Pt} {v : Value} {W : World}, Vl l → (∀ lo hi, IsBox l lo hi → ∀ k, k < m.length → (lo.1 - 1 ≤ (at' m k).1 ∧ (at' m k).1 ≤ hi.1 + 1) ∧ lo.2 - 1 ≤ (at' m k).2 ∧ (at' m k).2 ≤ hi.2 + 1) → ∀ e w', BoxSays l W e w' → ∃ lo hi : Pt, e = .returned (.tuple #[.agg #[.int .i64 lo.1, .int .i64 lo.2], .agg #[.int .i64 hi.1, .int .i64 hi.2], .int .i64 0]) ∧ (Plc lo ∧ Plc hi) ∧ Hid (∀ k, k < m.length → (lo.1 - 1 ≤ (at' m k).1 ∧ (at' m k).1 ≤ hi.1 + 1) ∧ lo.2 - 1 ≤ (at' m k).2 ∧ (at' m k).2 ≤ hi.2 + 1) ∧ Grew W w' := by
    rintro l v W hl hn e w' ⟨lo, hi, hb, he, g⟩
    exact ⟨lo, hi, he, box_plc hl.2.1 hb, Lib.hid (hn _ _ hb), g⟩
  have BP : Hid (∀ W, Grew w W → Calls Try.prog 11 #[.slice (some ⟨b, o, none⟩) p.length c] W fun e w' => ∃ lo hi : Pt, e = .returned (.tuple #[.agg #[.int .i64 lo.1, .int .i64 lo.2], .agg #[.int .i64 hi.1, .int .i64 hi.2], .int .i64 0]) ∧ (Plc lo ∧ Plc hi) ∧ Hid (∀ k, k < m.length → (lo.1 - 1 ≤ (at' m k).1 ∧ (at' m k).1 ≤ hi.1 + 1) ∧ lo.2 - 1 ≤ (at' m k).2 ∧ (at' m k).2 ≤ hi.2 + 1) ∧ Grew W w') := Lib.hid fun W g => (K.box_ok p _ W (hs W g) hp).mono fun e w' h => BX (v := .slice none 0 0) hp near e w' h
  have BQ : Hid (∀ W, Grew w W → Calls Try.prog 11 #[.slice (some ⟨b', o', none⟩) q.length c'] W fun e w' => ∃ lo hi : Pt, e = .returned (.tuple #[.agg #[.int .i64 lo.1, .int .i64 lo.2], .agg #[.int .i64 hi.1, .int .i64 hi.2], .int .i64 0]) ∧ (Plc lo ∧ Plc hi) ∧ Hid (∀ k, k < m.length → (lo.1 - 1 ≤ (at' m k).1 ∧ (at' m k).1 ≤ hi.1 + 1) ∧ lo.2 - 1 ≤ (at' m k).2 ∧ (at' m k).2 ≤ hi.2 + 1) ∧ Grew W w') := Lib.hid fun W g => (K.box_ok q _ W (hs' W g) hq).mono fun e w' h => BX (v := .slice none 0 0) hq near' e w' h
  by_cases px : Plc x
  · obtain ⟨h1, e1⟩ : ∃ a : Bool, a = true ↔ Hs p x := by
      by_cases h : Hs p x
      · exact ⟨true, by simp [h]⟩
      · exact ⟨false, by simp [h]⟩
    obtain ⟨h2, e2⟩ : ∃ a : Bool, a = true ↔ Hs q x := by
      by_cases h : Hs q x
      · exact ⟨true, by simp [h]⟩
      · exact ⟨false, by simp [h]⟩
    refine meets_walk C p q m x b o c b' o' c' w sm h1 h2 0 (fun a b => (hsome (e1.1 a) (e2.1 b)).1) (Or.inl rfl) hm FW CM CN BP BQ (Lib.hid fun W g => (K.has_ok p x _ W (hs W g) hp px).mono ?_) (Lib.hid fun W g => (K.has_ok q x _ W (hs' W g) hq px).mono ?_) (Lib.hid fun ⟨a, b⟩ W vl g s => (K.has_ok m x _ W s (hsm (hsome (e1.1 a) (e2.1 b)).1) px).mono ?_)
    · rintro e w' ⟨r, rfl, h, g⟩
      have : r = h1 := by rw [Bool.eq_iff_iff, h, e1]
      rw [this]
      exact ⟨rfl, g⟩
    · rintro e w' ⟨r, rfl, h, g⟩
      have : r = h2 := by rw [Bool.eq_iff_iff, h, e2]
      rw [this]
      exact ⟨rfl, g⟩
    · rintro e w' ⟨r, rfl, h, g⟩
      rw [h.2 ((hsome (e1.1 a) (e2.1 b)).2 px)]
      exact ⟨rfl, g⟩
  · exact meets_walk C p q m x b o c b' o' c' w sm false false 1 (fun a => by cases a) (Or.inr ⟨rfl, rfl, rfl⟩) hm FW CM CN BP BQ (Lib.hid fun W g => (K.has_bad p x _ W (hs W g) (by have := hp.1.2; omega) (fun h => px h.2)).mono (by
      rintro e w' ⟨rfl, g⟩
      exact ⟨rfl, g⟩)) (Lib.hid fun W g => (K.has_bad q x _ W (hs' W g) (by have := hq.1.2; omega) (fun h => px h.2)).mono (by
      rintro e w' ⟨rfl, g⟩
      exact ⟨rfl, g⟩)) (Lib.hid fun h => by cases h.1)
theorem meets_true (K : Hl.Code) (C : Code) (p q : List Pt) (x : Pt) (v v' : Value) (w : World) (hs : Sl w v p) (hs' : Sl w v' q) (hm : p.length ≤ 9223372036854775807) (hm' : q.length ≤ 9223372036854775807) : Calls Try.prog 6 #[v, v', .agg #[.int .i64 x.1, .int .i64 x.2]] w fun e w' => e = .returned (.bool true) ∧ Grew w w' := by
  by_cases ok : Vl p ∧ Vl q
  · obtain ⟨hp, hq⟩ := ok
    obtain ⟨b, o, c, rfl, hr⟩ := hs.row (fun e => by have := hp.1.1; rw [e] at this; cases this)
    obtain ⟨b', o', c', rfl, hr'⟩ := hs'.row (fun e => by have := hq.1.1; rw [e] at this; cases this)
    by_cases ex : ∃ y, BothS p q y
    · by_cases pq : ∃ m, Poly (BothS p q) m
      · obtain ⟨m, hm1⟩ := pq
        have hv := hm1.vl (fun _ hy => both_plc hp.2.1 hq.2.1 hy)
        have hm2 : Poly (BothS q p) m := hm1.same (fun y => ⟨fun h => h.swap, fun h => h.swap⟩)
        refine meets_fine K C p q m x b o c b' o' c' w true hr hr' hp hq hv.1.2 (fun _ => hv) (fun a b => ⟨rfl, fun _ => hm1.has (fun _ hy => both_plc hp.2.1 hq.2.1 hy) (fun u v k => both_least hp.pg hq.pg a b u v k)⟩) (fun lo hi b => meet_near hp hq hm1 b) (fun lo hi b => meet_near hq hp hm2 b) (Lib.hid fun W g => (C.meet_ok p q _ _ W (hs.grown g) (hs'.grown g) hp hq).mono ?_) (Lib.hid fun W g => (C.meet_ok q p _ _ W (hs'.grown g) (hs.grown g) hq hp).mono ?_)
        · rintro e w' (⟨q', v', hq', rfl, hs', g'⟩ | ⟨hn, _⟩)
          · obtain rfl := poly_one hq' hm1
            exact ⟨v', rfl, Lib.hid hs', g'⟩
          · exact absurd ex hn
        · rintro e w' (⟨q', v', hq', rfl, hs', g'⟩ | ⟨hn, _⟩)
          · obtain rfl := poly_one hq' hm2
            exact ⟨v', rfl, Lib.hid hs', g'⟩
          · exact absurd (ex.elim fun y h => ⟨y, h.swap⟩) hn
      · refine meets_none C p q x b o c b' o' c' w hp hq (Lib.hid fun W g => (C.meet_ok p q _ _ W (hs.grown g) (hs'.grown g) hp hq).mono ?_)
        rintro e w' (⟨q', v', hq', _⟩ | ⟨hn, _⟩)
        · exact pq ⟨q', hq'⟩
        · exact hn ex
    · have hx : ¬ ∃ y, BothS q p y := fun ⟨y, h⟩ => ex ⟨y, h.swap⟩
      refine meets_fine K C p q [] x b o c b' o' c' w false hr hr' hp hq (by decide) (fun e => by cases e) (fun a b => ?_) (fun _ _ _ k hk => absurd hk (Nat.not_lt_zero _)) (fun _ _ _ k hk => absurd hk (Nat.not_lt_zero _)) (Lib.hid fun W g => (C.meet_ok p q _ _ W (hs.grown g) (hs'.grown g) hp hq).mono ?_) (Lib.hid fun W g => (C.meet_ok q p _ _ W (hs'.grown g) (hs.grown g) hq hp).mono ?_)
      · obtain ⟨y, hy, _⟩ := both_least hp.pg hq.pg a b 0 0 0
        exact absurd ⟨y, hy⟩ ex
      · rintro e w' (⟨q', v', hq', _⟩ | ⟨hn, v', rfl, hs', g'⟩)
        · exact absurd hq'.some ex
        · exact ⟨v', rfl, Lib.hid hs', g'⟩
      · rintro e w' (⟨q', v', hq', _⟩ | ⟨hn, v', rfl, hs', g'⟩)
        · exact absurd hq'.some hx
        · exact ⟨v', rfl, Lib.hid hs', g'⟩
  · obtain ⟨sa, sc, rfl⟩ := hs.shape
    obtain ⟨ta, tc, rfl⟩ := hs'.shape
    have FW : Hid (∀ W, Calls Try.prog 17 #[.slice sa p.length sc, .slice ta q.length tc] W fun e w' => e = .returned (.bool (decide (p.length ≤ 80 ∧ q.length ≤ 80))) ∧ W = w') := Lib.hid (fun W => few_c p q _ _ W ⟨_, _, rfl⟩ ⟨_, _, rfl⟩)
    exact meets_bad C p q x sa sc ta tc w _ FW (Lib.hid fun _ W g => (C.meet_bad p q _ _ W (hs.grown g) (hs'.grown g) hm hm' ok).mono (by
      rintro e w' ⟨v, rfl, _, g⟩
      exact ⟨v, rfl, g⟩)) (Lib.hid fun _ W g => (C.meet_bad q p _ _ W (hs'.grown g) (hs.grown g) hm' hm (fun t => ok ⟨t.2, t.1⟩)).mono (by
      rintro e w' ⟨v, rfl, _, g⟩
      exact ⟨v, rfl, g⟩))
end Ct
end Go.Proofs.Ytmijlfbmmegfbaa
