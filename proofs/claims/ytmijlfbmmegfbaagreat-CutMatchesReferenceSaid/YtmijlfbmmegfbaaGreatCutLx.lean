/-
  The law CutMatchesReference, under what package cut and the reference owe.
-/
import Derived.Test.YtmijlfbmmegfbaaGreatCutRg
import Derived.Test.YtmijlfbmmegfbaaGreatCutHe
import Derived.Test.YtmijlfbmmegfbaaGreatCutCo
namespace Go.Proofs.YtmijlfbmmegfbaaGreat
open Go.RowKit Hl
namespace Ct
set_option maxRecDepth 100000
set_option maxHeartbeats 16000000 in
theorem match_walk (C : Code) (p q : List Pt) (h : Hf) (x : Pt) (sa : Option Addr) (sc : Nat) (ta : Option Addr) (tc : Nat) (w : World) (r1 r2 r3 r4 r5 r6 : Bool) (e1 e2 e3 e4 e5 e6 : Int) (mc mm : List Pt) (y : Pt) (hmc : mc.length ≤ 64) (hmm : mm.length ≤ 64) (FW : Hid (∀ W, Calls Tryz.prog 5 #[.slice sa p.length sc, .slice ta q.length tc] W fun e w' => e = .returned (.bool true) ∧ W = w'))
    (I1 : Hid (∀ W, Grew w W → Calls Tryz.prog 6 #[.agg #[.int .i64 h.1, .int .i64 h.2.1, .int .i64 h.2.2], .agg #[.int .i64 x.1, .int .i64 x.2]] W fun e w' => e = .returned (.tuple #[.bool r1, .int .i64 e1]) ∧ Grew W w'))
    (I2 : Hid (∀ W, Grew w W → Calls Tryz.prog 7 #[.agg #[.int .i64 h.1, .int .i64 h.2.1, .int .i64 h.2.2], .agg #[.int .i64 x.1, .int .i64 x.2]] W fun e w' => e = .returned (.tuple #[.bool r1, .int .i64 e1]) ∧ Grew W w'))
    (C1 : Hid (∀ W, Grew w W → Calls Tryz.prog 8 #[.slice sa p.length sc, .agg #[.int .i64 h.1, .int .i64 h.2.1, .int .i64 h.2.2]] W fun e w' => ∃ vl, e = .returned (.tuple #[vl, .bool r2, .int .i64 e2]) ∧ Hid (Sl w' vl mc) ∧ Grew W w'))
    (C2 : Hid (∀ W, Grew w W → Calls Tryz.prog 9 #[.slice sa p.length sc, .agg #[.int .i64 h.1, .int .i64 h.2.1, .int .i64 h.2.2]] W fun e w' => ∃ vl, e = .returned (.tuple #[vl, .bool r2, .int .i64 e2]) ∧ Hid (Sl w' vl mc) ∧ Grew W w'))
    (M1 : Hid (∀ W, Grew w W → Calls Tryz.prog 11 #[.slice sa p.length sc, .slice ta q.length tc] W fun e w' => ∃ vl, e = .returned (.tuple #[vl, .bool r3, .int .i64 e3]) ∧ Hid (Sl w' vl mm) ∧ Grew W w'))
    (M2 : Hid (∀ W, Grew w W → Calls Tryz.prog 12 #[.slice sa p.length sc, .slice ta q.length tc] W fun e w' => ∃ vl, e = .returned (.tuple #[vl, .bool r3, .int .i64 e3]) ∧ Hid (Sl w' vl mm) ∧ Grew W w'))
    (A1 : Hid (∀ W, Grew w W → Calls Tryz.prog 13 #[.slice sa p.length sc, .slice ta q.length tc] W fun e w' => e = .returned (.tuple #[.bool r4, .int .i64 e4]) ∧ Grew W w'))
    (A2 : Hid (∀ W, Grew w W → Calls Tryz.prog 14 #[.slice sa p.length sc, .slice ta q.length tc] W fun e w' => e = .returned (.tuple #[.bool r4, .int .i64 e4]) ∧ Grew W w'))
    (W1 : Hid (∀ W, Grew w W → Calls Tryz.prog 15 #[.slice sa p.length sc, .slice ta q.length tc] W fun e w' => e = .returned (.tuple #[.bool r5, .int .i64 e5]) ∧ Grew W w'))
    (W2 : Hid (∀ W, Grew w W → Calls Tryz.prog 16 #[.slice sa p.length sc, .slice ta q.length tc] W fun e w' => e = .returned (.tuple #[.bool r5, .int .i64 e5]) ∧ Grew W w'))
    (X1 : Hid (∀ W, Grew w W → Calls Tryz.prog 17 #[.slice sa p.length sc, .slice ta q.length tc] W fun e w' => e = .returned (.tuple #[.agg #[.int .i64 y.1, .int .i64 y.2], .bool r6, .int .i64 e6]) ∧ Grew W w'))
    (X2 : Hid (∀ W, Grew w W → Calls Tryz.prog 18 #[.slice sa p.length sc, .slice ta q.length tc] W fun e w' => e = .returned (.tuple #[.agg #[.int .i64 y.1, .int .i64 y.2], .bool r6, .int .i64 e6]) ∧ Grew W w')) :
    Calls Tryz.prog 3 #[.slice sa p.length sc, .slice ta q.length tc, .agg #[.int .i64 h.1, .int .i64 h.2.1, .int .i64 h.2.2], .agg #[.int .i64 x.1, .int .i64 x.2]] w fun e w' => e = .returned (.bool true) ∧ Grew w w' := by
  have SC : Hid (∀ W vl vl', Sl W vl mc → Sl W vl' mc → Calls Tryz.prog 10 #[vl, vl'] W fun e w' => e = .returned (.bool true) ∧ Grew W w') := Lib.hid (fun W vl vl' g g' => (same_any mc mc _ _ W g g' (by omega)).mono fun _ _ t => t.to rfl)
  have SM : Hid (∀ W vl vl', Sl W vl mm → Sl W vl' mm → Calls Tryz.prog 10 #[vl, vl'] W fun e w' => e = .returned (.bool true) ∧ Grew W w') := Lib.hid (fun W vl vl' g g' => (same_any mm mm _ _ W g g' (by omega)).mono fun _ _ t => t.to rfl)
  have HH := Lib.hid (((Blk.new w #[.int .i64 h.1, .int .i64 h.2.1, .int .i64 h.2.2] 24)).alloc (.cells #[.int .i64 x.1, .int .i64 x.2] 26))
  have HX := Lib.hid (by have g := Blk.new (w.alloc (.cells #[.int .i64 h.1, .int .i64 h.2.1, .int .i64 h.2.2] 24)) #[.int .i64 x.1, .int .i64 x.2] 26; rw [World.size_alloc] at g; exact g)
  clear hmc hmm
  generalize p.length = n at *
  generalize q.length = m at *
  go_enter Tryz.func3, Tryz.ntmps3
  go_wp2_with fail
  refine (head_true C _).mono ?_
  rintro e v1 ⟨rfl, g1⟩
  have G1 : Grew w v1 := Grew.trans (((Grew.refl _).alloc _ _).alloc _ _) g1
  have HH := Lib.hid (HH.out.grown g1)
  have HX := Lib.hid (HX.out.grown g1)
  clear g1
  obtain ⟨h0, h1, h2⟩ := blk3 HH.out
  obtain ⟨x0, x1⟩ := rblk2 HX.out
  have lh := HH.out.lt
  have lx := HX.out.lt
  go_wp2_with fail
  refine (FW.out _).mono ?_
  rintro e w' ⟨rfl, rfl⟩
  go_wp2_with fail
  refine (I1.out _ G1).mono ?_
  rintro e v2 ⟨rfl, g2⟩
  have G2 : Grew w v2 := Grew.trans G1 g2
  have HH := Lib.hid (HH.out.grown g2)
  have HX := Lib.hid (HX.out.grown g2)
  clear g2 G1
  clear h0 h1 h2 x0 x1 lh lx
  obtain ⟨h0, h1, h2⟩ := blk3 HH.out
  obtain ⟨x0, x1⟩ := rblk2 HX.out
  have lh := HH.out.lt
  have lx := HX.out.lt
  go_wp2_with fail
  refine (I2.out _ G2).mono ?_
  rintro e v3 ⟨rfl, g3⟩
  have G3 : Grew w v3 := Grew.trans G2 g3
  have HH := Lib.hid (HH.out.grown g3)
  have HX := Lib.hid (HX.out.grown g3)
  clear g3 G2
  clear h0 h1 h2 x0 x1 lh lx
  obtain ⟨h0, h1, h2⟩ := blk3 HH.out
  obtain ⟨x0, x1⟩ := rblk2 HX.out
  have lh := HH.out.lt
  have lx := HX.out.lt
  go_wp2_with fail
  refine (C1.out _ G3).mono ?_
  rintro e v4 ⟨u1, rfl, s1, g4⟩
  have G4 : Grew w v4 := Grew.trans G3 g4
  have HH := Lib.hid (HH.out.grown g4)
  have HX := Lib.hid (HX.out.grown g4)
  clear g4 G3
  clear h0 h1 h2 x0 x1 lh lx
  obtain ⟨h0, h1, h2⟩ := blk3 HH.out
  obtain ⟨x0, x1⟩ := rblk2 HX.out
  have lh := HH.out.lt
  have lx := HX.out.lt
  go_wp2_with fail
  refine (C2.out _ G4).mono ?_
  rintro e v5 ⟨u2, rfl, s2, g5⟩
  have G5 : Grew w v5 := Grew.trans G4 g5
  have s1 := Lib.hid (s1.out.grown g5)
  have HH := Lib.hid (HH.out.grown g5)
  have HX := Lib.hid (HX.out.grown g5)
  clear g5 G4
  clear h0 h1 h2 x0 x1 lh lx
  obtain ⟨h0, h1, h2⟩ := blk3 HH.out
  obtain ⟨x0, x1⟩ := rblk2 HX.out
  have lh := HH.out.lt
  have lx := HX.out.lt
  go_wp2_with fail
  refine (SC.out _ _ _ s1.out s2.out).mono ?_
  rintro e v6 ⟨rfl, g6⟩
  have G6 : Grew w v6 := Grew.trans G5 g6
  have HH := Lib.hid (HH.out.grown g6)
  have HX := Lib.hid (HX.out.grown g6)
  clear g6 G5
  clear h0 h1 h2 x0 x1 lh lx
  obtain ⟨h0, h1, h2⟩ := blk3 HH.out
  obtain ⟨x0, x1⟩ := rblk2 HX.out
  have lh := HH.out.lt
  have lx := HX.out.lt
  go_wp2_with fail
  refine (M1.out _ G6).mono ?_
  rintro e v7 ⟨u3, rfl, s3, g7⟩
  have G7 : Grew w v7 := Grew.trans G6 g7
  have HH := Lib.hid (HH.out.grown g7)
  have HX := Lib.hid (HX.out.grown g7)
  clear g7 G6
  clear h0 h1 h2 x0 x1 lh lx
  obtain ⟨h0, h1, h2⟩ := blk3 HH.out
  obtain ⟨x0, x1⟩ := rblk2 HX.out
  have lh := HH.out.lt
  have lx := HX.out.lt
  go_wp2_with fail
  refine (M2.out _ G7).mono ?_
  rintro e v8 ⟨u4, rfl, s4, g8⟩
  have G8 : Grew w v8 := Grew.trans G7 g8
  have s3 := Lib.hid (s3.out.grown g8)
  have HH := Lib.hid (HH.out.grown g8)
  have HX := Lib.hid (HX.out.grown g8)
  clear g8 G7
  clear h0 h1 h2 x0 x1 lh lx
  obtain ⟨h0, h1, h2⟩ := blk3 HH.out
  obtain ⟨x0, x1⟩ := rblk2 HX.out
  have lh := HH.out.lt
  have lx := HX.out.lt
  go_wp2_with fail
  refine (SM.out _ _ _ s3.out s4.out).mono ?_
  rintro e v9 ⟨rfl, g9⟩
  have G9 : Grew w v9 := Grew.trans G8 g9
  have HH := Lib.hid (HH.out.grown g9)
  have HX := Lib.hid (HX.out.grown g9)
  clear g9 G8
  clear h0 h1 h2 x0 x1 lh lx
  obtain ⟨h0, h1, h2⟩ := blk3 HH.out
  obtain ⟨x0, x1⟩ := rblk2 HX.out
  have lh := HH.out.lt
  have lx := HX.out.lt
  go_wp2_with fail
  refine (A1.out _ G9).mono ?_
  rintro e v10 ⟨rfl, g10⟩
  have G10 : Grew w v10 := Grew.trans G9 g10
  have HH := Lib.hid (HH.out.grown g10)
  have HX := Lib.hid (HX.out.grown g10)
  clear g10 G9
  clear h0 h1 h2 x0 x1 lh lx
  obtain ⟨h0, h1, h2⟩ := blk3 HH.out
  obtain ⟨x0, x1⟩ := rblk2 HX.out
  have lh := HH.out.lt
  have lx := HX.out.lt
  go_wp2_with fail
  refine (A2.out _ G10).mono ?_
  rintro e v11 ⟨rfl, g11⟩
  have G11 : Grew w v11 := Grew.trans G10 g11
  have HH := Lib.hid (HH.out.grown g11)
  have HX := Lib.hid (HX.out.grown g11)
  clear g11 G10
  clear h0 h1 h2 x0 x1 lh lx
  obtain ⟨h0, h1, h2⟩ := blk3 HH.out
  obtain ⟨x0, x1⟩ := rblk2 HX.out
  have lh := HH.out.lt
  have lx := HX.out.lt
  go_wp2_with fail
  refine (W1.out _ G11).mono ?_
  rintro e v12 ⟨rfl, g12⟩
  have G12 : Grew w v12 := Grew.trans G11 g12
  have HH := Lib.hid (HH.out.grown g12)
  have HX := Lib.hid (HX.out.grown g12)
  clear g12 G11
  clear h0 h1 h2 x0 x1 lh lx
  obtain ⟨h0, h1, h2⟩ := blk3 HH.out
  obtain ⟨x0, x1⟩ := rblk2 HX.out
  have lh := HH.out.lt
  have lx := HX.out.lt
  go_wp2_with fail
  refine (W2.out _ G12).mono ?_
  rintro e v13 ⟨rfl, g13⟩
  have G13 : Grew w v13 := Grew.trans G12 g13
  have HH := Lib.hid (HH.out.grown g13)
  have HX := Lib.hid (HX.out.grown g13)
  clear g13 G12
  clear h0 h1 h2 x0 x1 lh lx
  obtain ⟨h0, h1, h2⟩ := blk3 HH.out
  obtain ⟨x0, x1⟩ := rblk2 HX.out
  have lh := HH.out.lt
  have lx := HX.out.lt
  go_wp2_with fail
  refine (X1.out _ G13).mono ?_
  rintro e v14 ⟨rfl, g14⟩
  have G14 : Grew w v14 := Grew.trans G13 g14
  have YY := Lib.hid (Blk.new v14 #[.int .i64 y.1, .int .i64 y.2] 26)
  clear g14 G13
  clear h0 h1 h2 x0 x1 lh lx
  go_wp2_with fail
  refine (X2.out _ (by (repeat' (first | (with_reducible exact Grew.refl _) | (with_reducible assumption) | (with_reducible refine Grew.alloc ?_ _ _) | (with_reducible refine Grew.drew ?_) | (with_reducible refine Grew.drewN ?_ _) | (with_reducible refine Grew.setCell ?_ ?_ _) | go_size)))).mono ?_
  rintro e v15 ⟨rfl, g15⟩
  have G15 : Grew w v15 := Grew.trans (by (repeat' (first | (with_reducible exact Grew.refl _) | (with_reducible assumption) | (with_reducible refine Grew.alloc ?_ _ _) | (with_reducible refine Grew.drew ?_) | (with_reducible refine Grew.drewN ?_ _) | (with_reducible refine Grew.setCell ?_ ?_ _) | go_size))) g15
  obtain ⟨y0, y1⟩ := rblk2 (YY.out.grown g15)
  have ly := (YY.out.grown g15).lt
  clear g15 G14
  go_wp2_with fail
  go_ret
  exact ⟨by first | rfl | simp, (by (repeat' (first | (with_reducible exact Grew.refl _) | (with_reducible assumption) | (with_reducible refine Grew.alloc ?_ _ _) | (with_reducible refine Grew.drew ?_) | (with_reducible refine Grew.drewN ?_ _) | (with_reducible refine Grew.setCell ?_ ?_ _) | go_size)))⟩
set_option maxRecDepth 100000 in
theorem match_early (C : Code) (p q : List Pt) (h : Hf) (x : Pt) (sa : Option Addr) (sc : Nat) (ta : Option Addr) (tc : Nat) (w : World) (FW : Hid (∀ W, Calls Tryz.prog 5 #[.slice sa p.length sc, .slice ta q.length tc] W fun e w' => e = .returned (.bool false) ∧ W = w')) :
    Calls Tryz.prog 3 #[.slice sa p.length sc, .slice ta q.length tc, .agg #[.int .i64 h.1, .int .i64 h.2.1, .int .i64 h.2.2], .agg #[.int .i64 x.1, .int .i64 x.2]] w fun e w' => e = .returned (.bool true) ∧ Grew w w' := by
  generalize p.length = n at *
  generalize q.length = m at *
  go_enter Tryz.func3, Tryz.ntmps3
  go_wp2_with fail
  refine (head_true C _).mono ?_
  rintro e v1 ⟨rfl, g1⟩
  have G1 : Grew w v1 := Grew.trans (((Grew.refl _).alloc _ _).alloc _ _) g1
  clear g1
  go_wp2_with fail
  refine (FW.out _).mono ?_
  rintro e w' ⟨rfl, rfl⟩
  go_wp2_with fail
  go_ret
  exact ⟨rfl, G1⟩
theorem bool_of (Q : Prop) : ∃ b : Bool, b = true ↔ Q := by
  by_cases h : Q
  · exact ⟨true, fun _ => h, fun _ => rfl⟩
  · exact ⟨false, fun e => (by cases e), fun g => absurd g h⟩
theorem YesNo.fix {Q : Prop} {b : Bool} (hb : b = true ↔ Q) {W w' : World} {e : Ending} (h : YesNo Q W e w') : e = .returned (.tuple #[.bool b, .int .i64 0]) ∧ Grew W w' := by
  obtain ⟨r, rfl, hr, g⟩ := h
  have : r = b := by rw [Bool.eq_iff_iff, hr, hb]
  rw [this]
  exact ⟨rfl, g⟩
theorem pol_fix (S : Pt → Prop) (hS : ∀ y, S y → Plc y) : ∃ (m : List Pt) (s : Bool), m.length ≤ 64 ∧ ∀ W e w', PolySays S W e w' → ∃ vl, e = .returned (.tuple #[vl, .bool s, .int .i64 0]) ∧ Hid (Sl w' vl m) ∧ Grew W w' := by
  by_cases ex : ∃ y, S y
  · by_cases pq : ∃ q, Poly S q
    · obtain ⟨q, hq⟩ := pq
      refine ⟨q, true, (hq.vl hS).1.2, ?_⟩
      rintro W e w' (⟨q', v, hq', rfl, hs, g⟩ | ⟨hn, _⟩)
      · obtain rfl := poly_one hq' hq
        exact ⟨v, rfl, Lib.hid hs, g⟩
      · exact absurd ex hn
    · refine ⟨[], true, by decide, ?_⟩
      rintro W e w' (⟨q', v, hq', _⟩ | ⟨hn, _⟩)
      · exact absurd ⟨q', hq'⟩ pq
      · exact absurd ex hn
  · refine ⟨[], false, by decide, ?_⟩
    rintro W e w' (⟨q', v, hq', _⟩ | ⟨_, v, rfl, hs, g⟩)
    · exact absurd hq'.some ex
    · exact ⟨v, rfl, Lib.hid hs, g⟩
theorem com_fix (p q : List Pt) : ∃ (y : Pt) (s : Bool), ∀ W e w', CommonSays p q W e w' → e = .returned (.tuple #[.agg #[.int .i64 y.1, .int .i64 y.2], .bool s, .int .i64 0]) ∧ Grew W w' := by
  by_cases ex : ∃ m, Sel p q m ∧ ∀ z, Sel p q z → z ≠ m → ls m z
  · obtain ⟨m, hm, hl⟩ := ex
    refine ⟨m, true, ?_⟩
    rintro W e w' (⟨m', ⟨hm', hl'⟩, rfl, g⟩ | ⟨hn, _⟩)
    · by_cases e : m' = m
      · rw [e]; exact ⟨rfl, g⟩
      · have a := hl m' hm' e
        have b := hl' m hm (fun h => e h.symm)
        unfold ls at a b
        omega
    · exact absurd ⟨m, hm⟩ hn
  · refine ⟨(0, 0), false, ?_⟩
    rintro W e w' (⟨m', h, _⟩ | ⟨_, rfl, g⟩)
    · exact absurd ⟨m', h⟩ ex
    · exact ⟨rfl, g⟩
theorem left_plcs {p : List Pt} (hp : Plcs p) {h : Hf} {y : Pt} (hy : LeftS p h y) : Plc y := by
  rcases hy with ⟨i, hi, rfl, _⟩ | ⟨i, hi, m, n, hw, h1, h2⟩
  · exact hp i hi
  · have ha := hp i hi
    have hb := hp _ (Nat.mod_lt (i + 1) (show 0 < p.length by omega))
    exact ⟨wr_bounds hw.1 hw.2.1 ha.1 hb.1 h1, wr_bounds hw.1 hw.2.1 ha.2 hb.2 h2⟩
theorem match_true (C : Code) (p q : List Pt) (h : Hf) (x : Pt) (v v' : Value) (w : World) (hs : Sl w v p) (hs' : Sl w v' q) (hm : p.length ≤ 9223372036854775807) (hm' : q.length ≤ 9223372036854775807) : Calls Tryz.prog 3 #[v, v', .agg #[.int .i64 h.1, .int .i64 h.2.1, .int .i64 h.2.2], .agg #[.int .i64 x.1, .int .i64 x.2]] w fun e w' => e = .returned (.bool true) ∧ Grew w w' := by
  obtain ⟨sa, sc, rfl⟩ := hs.shape
  obtain ⟨ta, tc, rfl⟩ := hs'.shape
  have FW : Hid (∀ W, Calls Tryz.prog 5 #[.slice sa p.length sc, .slice ta q.length tc] W fun e w' => e = .returned (.bool (decide (p.length ≤ 80 ∧ q.length ≤ 80))) ∧ W = w') := Lib.hid (fun W => few_c p q _ _ W ⟨_, _, rfl⟩ ⟨_, _, rfl⟩)
  by_cases fw : p.length ≤ 80 ∧ q.length ≤ 80
  · rw [decide_eq_true fw] at FW
    have IN : ∃ (r1 : Bool) (e1 : Int), Hid (∀ W, Grew w W → Calls Tryz.prog 6 #[.agg #[.int .i64 h.1, .int .i64 h.2.1, .int .i64 h.2.2], .agg #[.int .i64 x.1, .int .i64 x.2]] W fun e w' => e = .returned (.tuple #[.bool r1, .int .i64 e1]) ∧ Grew W w') ∧ Hid (∀ W, Grew w W → Calls Tryz.prog 7 #[.agg #[.int .i64 h.1, .int .i64 h.2.1, .int .i64 h.2.2], .agg #[.int .i64 x.1, .int .i64 x.2]] W fun e w' => e = .returned (.tuple #[.bool r1, .int .i64 e1]) ∧ Grew W w') := by
      by_cases ok : WF h ∧ Plc x
      · obtain ⟨r, hr⟩ := bool_of (ov h x ≤ 0)
        exact ⟨r, 0, Lib.hid fun W _ => (C.in_ok h x W ok.1 ok.2).mono fun _ _ t => YesNo.fix hr t, Lib.hid fun W _ => (in_ok_r h x W ok.1 ok.2).mono fun _ _ t => YesNo.fix hr t⟩
      · exact ⟨false, 1, Lib.hid fun W _ => C.in_bad h x W ok, Lib.hid fun W _ => in_bad_r h x W ok⟩
    have CU : ∃ (mc : List Pt) (r2 : Bool) (e2 : Int), mc.length ≤ 64 ∧ Hid (∀ W, Grew w W → Calls Tryz.prog 8 #[.slice sa p.length sc, .agg #[.int .i64 h.1, .int .i64 h.2.1, .int .i64 h.2.2]] W fun e w' => ∃ vl, e = .returned (.tuple #[vl, .bool r2, .int .i64 e2]) ∧ Hid (Sl w' vl mc) ∧ Grew W w') ∧ Hid (∀ W, Grew w W → Calls Tryz.prog 9 #[.slice sa p.length sc, .agg #[.int .i64 h.1, .int .i64 h.2.1, .int .i64 h.2.2]] W fun e w' => ∃ vl, e = .returned (.tuple #[vl, .bool r2, .int .i64 e2]) ∧ Hid (Sl w' vl mc) ∧ Grew W w') := by
      by_cases ok : Vl p ∧ WF h
      · obtain ⟨m, s, hl, hf⟩ := pol_fix (LeftS p h) (fun y hy => left_plcs ok.1.2.1 hy)
        exact ⟨m, s, 0, hl, Lib.hid fun W g => (C.cut_ok p h _ W (hs.grown g) ok.1 ok.2).mono fun _ _ t => hf _ _ _ t, Lib.hid fun W g => (cut_ok_r p h _ W (hs.grown g) ok.1 ok.2).mono fun _ _ t => hf _ _ _ t⟩
      · exact ⟨[], false, 1, by decide, Lib.hid fun W g => (C.cut_bad p h _ W (hs.grown g) hm ok).mono (by
          rintro e w' ⟨v, rfl, s, g⟩
          exact ⟨v, rfl, Lib.hid s, g⟩), Lib.hid fun W g => (cut_bad_r p h _ W (hs.grown g) hm ok).mono (by
          rintro e w' ⟨v, rfl, s, g⟩
          exact ⟨v, rfl, Lib.hid s, g⟩)⟩
    have ME : ∃ (mm : List Pt) (r3 : Bool) (e3 : Int), mm.length ≤ 64 ∧ Hid (∀ W, Grew w W → Calls Tryz.prog 11 #[.slice sa p.length sc, .slice ta q.length tc] W fun e w' => ∃ vl, e = .returned (.tuple #[vl, .bool r3, .int .i64 e3]) ∧ Hid (Sl w' vl mm) ∧ Grew W w') ∧ Hid (∀ W, Grew w W → Calls Tryz.prog 12 #[.slice sa p.length sc, .slice ta q.length tc] W fun e w' => ∃ vl, e = .returned (.tuple #[vl, .bool r3, .int .i64 e3]) ∧ Hid (Sl w' vl mm) ∧ Grew W w') := by
      by_cases ok : Vl p ∧ Vl q
      · obtain ⟨m, s, hl, hf⟩ := pol_fix (BothS p q) (fun y hy => bothS_plc ok.1.2.1 ok.2.2.1 hy)
        exact ⟨m, s, 0, hl, Lib.hid fun W g => (C.meet_ok p q _ _ W (hs.grown g) (hs'.grown g) ok.1 ok.2).mono fun _ _ t => hf _ _ _ t, Lib.hid fun W g => (meet_ok_r p q _ _ W (hs.grown g) (hs'.grown g) ok.1 ok.2).mono fun _ _ t => hf _ _ _ t⟩
      · exact ⟨[], false, 1, by decide, Lib.hid fun W g => (C.meet_bad p q _ _ W (hs.grown g) (hs'.grown g) hm hm' ok).mono (by
          rintro e w' ⟨v, rfl, s, g⟩
          exact ⟨v, rfl, Lib.hid s, g⟩), Lib.hid fun W g => (meet_bad0 p q _ _ W (hs.grown g) (hs'.grown g) hm hm' ok).mono (by
          rintro e w' ⟨rfl, g⟩
          exact ⟨_, rfl, Lib.hid (sl_none _ _ _), g⟩)⟩
    have AP : ∃ (r4 : Bool) (e4 : Int), Hid (∀ W, Grew w W → Calls Tryz.prog 13 #[.slice sa p.length sc, .slice ta q.length tc] W fun e w' => e = .returned (.tuple #[.bool r4, .int .i64 e4]) ∧ Grew W w') ∧ Hid (∀ W, Grew w W → Calls Tryz.prog 14 #[.slice sa p.length sc, .slice ta q.length tc] W fun e w' => e = .returned (.tuple #[.bool r4, .int .i64 e4]) ∧ Grew W w') := by
      by_cases ok : Vl p ∧ Vl q
      · obtain ⟨r, hr⟩ := bool_of (¬ ∃ y, BothS p q y)
        exact ⟨r, 0, Lib.hid fun W g => (C.apart_ok p q _ _ W (hs.grown g) (hs'.grown g) ok.1 ok.2).mono fun _ _ t => YesNo.fix hr t, Lib.hid fun W g => (apart_ok_r p q _ _ W (hs.grown g) (hs'.grown g) ok.1 ok.2).mono fun _ _ t => YesNo.fix hr t⟩
      · exact ⟨false, 1, Lib.hid fun W g => C.apart_bad p q _ _ W (hs.grown g) (hs'.grown g) hm hm' ok, Lib.hid fun W g => apart_bad_r p q _ _ W (hs.grown g) (hs'.grown g) hm hm' ok⟩
    have WI : ∃ (r5 : Bool) (e5 : Int), Hid (∀ W, Grew w W → Calls Tryz.prog 15 #[.slice sa p.length sc, .slice ta q.length tc] W fun e w' => e = .returned (.tuple #[.bool r5, .int .i64 e5]) ∧ Grew W w') ∧ Hid (∀ W, Grew w W → Calls Tryz.prog 16 #[.slice sa p.length sc, .slice ta q.length tc] W fun e w' => e = .returned (.tuple #[.bool r5, .int .i64 e5]) ∧ Grew W w') := by
      by_cases ok : Vl p ∧ Vl q
      · obtain ⟨r, hr⟩ := bool_of (∀ y, y ∈ p → Hs q y)
        exact ⟨r, 0, Lib.hid fun W g => (C.within_ok p q _ _ W (hs.grown g) (hs'.grown g) ok.1 ok.2).mono fun _ _ t => YesNo.fix hr t, Lib.hid fun W g => (within_ok_r p q _ _ W (hs.grown g) (hs'.grown g) ok.1 ok.2).mono fun _ _ t => YesNo.fix hr t⟩
      · exact ⟨false, 1, Lib.hid fun W g => C.within_bad p q _ _ W (hs.grown g) (hs'.grown g) hm hm' ok, Lib.hid fun W g => within_bad_r p q _ _ W (hs.grown g) (hs'.grown g) hm hm' ok⟩
    have CO : ∃ (y : Pt) (r6 : Bool) (e6 : Int), Hid (∀ W, Grew w W → Calls Tryz.prog 17 #[.slice sa p.length sc, .slice ta q.length tc] W fun e w' => e = .returned (.tuple #[.agg #[.int .i64 y.1, .int .i64 y.2], .bool r6, .int .i64 e6]) ∧ Grew W w') ∧ Hid (∀ W, Grew w W → Calls Tryz.prog 18 #[.slice sa p.length sc, .slice ta q.length tc] W fun e w' => e = .returned (.tuple #[.agg #[.int .i64 y.1, .int .i64 y.2], .bool r6, .int .i64 e6]) ∧ Grew W w') := by
      by_cases ok : Vl p ∧ Vl q
      · obtain ⟨y, s, hf⟩ := com_fix p q
        exact ⟨y, s, 0, Lib.hid fun W g => (C.common_ok p q _ _ W (hs.grown g) (hs'.grown g) ok.1 ok.2).mono fun _ _ t => hf _ _ _ t, Lib.hid fun W g => (common_ok_r p q _ _ W (hs.grown g) (hs'.grown g) ok.1 ok.2).mono fun _ _ t => hf _ _ _ t⟩
      · exact ⟨(0, 0), false, 1, Lib.hid fun W g => C.common_bad p q _ _ W (hs.grown g) (hs'.grown g) hm hm' ok, Lib.hid fun W g => common_bad_r p q _ _ W (hs.grown g) (hs'.grown g) hm hm' ok⟩
    obtain ⟨r1, e1, I1, I2⟩ := IN
    obtain ⟨mc, r2, e2, hmc, C1, C2⟩ := CU
    obtain ⟨mm, r3, e3, hmm, M1, M2⟩ := ME
    obtain ⟨r4, e4, A1, A2⟩ := AP
    obtain ⟨r5, e5, W1, W2⟩ := WI
    obtain ⟨y, r6, e6, X1, X2⟩ := CO
    exact match_walk C p q h x sa sc ta tc w r1 r2 r3 r4 r5 r6 e1 e2 e3 e4 e5 e6 mc mm y hmc hmm FW I1 I2 C1 C2 M1 M2 A1 A2 W1 W2 X1 X2
  · rw [decide_eq_false fw] at FW
    exact match_early C p q h x sa sc ta tc w FW
end Ct
end Go.Proofs.YtmijlfbmmegfbaaGreat
