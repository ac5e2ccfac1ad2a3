/-
  The laws CutSides and CutApart, under what packages hull and cut owe.
-/
import Derived.Test.YtmijlfbmmegfbaaCutHe
import Derived.Test.YtmijlfbmmegfbaaHullOct
namespace Go.Proofs.Ytmijlfbmmegfbaa
open Go.RowKit Hl
namespace Ct
theorem fr_plc2 {a b y : Pt} {s t : Int} (ha : Plc a) (hb : Plc b) (h : Fr a b s t y) : Plc y := by
  obtain ⟨m, n, hw, h1, h2⟩ := h
  exact ⟨wr_bounds hw.1 hw.2.1 ha.1 hb.1 h1, wr_bounds hw.1 hw.2.1 ha.2 hb.2 h2⟩
theorem left_plc2 {p : List Pt} (hp : Plcs p) {h : Hf} {y : Pt} (hy : LeftS p h y) : Plc y := by
  rcases hy with ⟨i, hi, rfl, _⟩ | ⟨i, hi, hf⟩
  · exact hp i hi
  · exact fr_plc2 (hp i hi) (hp _ (Nat.mod_lt _ (by omega))) hf
theorem ov_small {h : Hf} {x : Pt} (hh : WF h) (hx : Plc x) : (-500000000000 ≤ h.1 * x.1 ∧ h.1 * x.1 ≤ 500000000000) ∧ (-500000000000 ≤ h.2.1 * x.2 ∧ h.2.1 * x.2 ≤ 500000000000) ∧ -2000000000000 ≤ ov h x ∧ ov h x ≤ 2000000000000 := by
  have mb : ∀ {u v a b : Int}, -a ≤ u ∧ u ≤ a → -b ≤ v ∧ v ≤ b → -(a * b) ≤ u * v ∧ u * v ≤ a * b := by
    intro x y a b hx hy
    have p1 := Int.mul_nonneg (show 0 ≤ a - x by omega) (show 0 ≤ b + y by omega)
    have p2 := Int.mul_nonneg (show 0 ≤ a + x by omega) (show 0 ≤ b - y by omega)
    have p3 := Int.mul_nonneg (show 0 ≤ a - x by omega) (show 0 ≤ b - y by omega)
    have p4 := Int.mul_nonneg (show 0 ≤ a + x by omega) (show 0 ≤ b + y by omega)
    have e1 : (a - x) * (b + y) + (a + x) * (b - y) = 2 * (a * b) - 2 * (x * y) := by grind
    have e2 : (a - x) * (b - y) + (a + x) * (b + y) = 2 * (a * b) + 2 * (x * y) := by grind
    omega
  have h1 := mb (a := 1000000) (b := 500000) hh.1.1 hx.1
  have h2 := mb (a := 1000000) (b := 500000) hh.1.2.1 hx.2
  have h3 := hh.1.2.2
  unfold ov
  omega
theorem over_c (h : Hf) (x : Pt) (w : World) (hh : WF h) (hx : Plc x) : Calls Try.prog 13 #[.agg #[.int .i64 h.1, .int .i64 h.2.1, .int .i64 h.2.2], .agg #[.int .i64 x.1, .int .i64 x.2]] w fun e w' => e = .returned (.int .i64 (ov h x)) ∧ (w.alloc (.cells #[.int .i64 h.1, .int .i64 h.2.1, .int .i64 h.2.2] 24)).alloc (.cells #[.int .i64 x.1, .int .i64 x.2] 26) = w' := by
  obtain ⟨⟨b0, b1⟩, ⟨b2, b3⟩, b4, b5⟩ := ov_small hh hx
  obtain ⟨-, -, b6, b7⟩ := hh.1
  clear hh
  rcases h with ⟨A, B, C⟩
  rcases x with ⟨x, y⟩
  unfold ov at *
  simp only at *
  go_enter Try.func13, Try.ntmps13
  go_wp2_with fail
  go_ret
  exact ⟨rfl, rfl⟩
/-- The opposite half-plane. -/
def ng (h : Hf) : Hf := (-h.1, -h.2.1, -h.2.2)
theorem ng_wf {h : Hf} (hh : WF h) : WF (ng h) := by unfold WF ng at *; simp only; omega
theorem ng_ov (h : Hf) (x : Pt) : ov (ng h) x = -ov h x := by unfold ov ng; grind
def In64 (n : Int) : Prop := -9223372036854775808 ≤ n ∧ n ≤ 9223372036854775807
theorem wrap_neg {n : Int} (h : In64 n) : (n = -9223372036854775808 ∧ RowKit.wrap64 (-n) = -9223372036854775808) ∨ RowKit.wrap64 (-n) = -n := by
  by_cases e : n = -9223372036854775808
  · subst e; exact Or.inl ⟨rfl, by unfold RowKit.wrap64; decide⟩
  · exact Or.inr (IntWalk.wrap64_in _ ⟨by unfold In64 at h; omega, by unfold In64 at h; omega⟩)
theorem wrap_wf {h : Hf} (hr : In64 h.1 ∧ In64 h.2.1 ∧ In64 h.2.2) (hh : ¬ WF h) : ¬ WF (RowKit.wrap64 (-h.1), RowKit.wrap64 (-h.2.1), RowKit.wrap64 (-h.2.2)) := by
  intro g
  apply hh
  unfold WF at *
  simp only at g
  rcases wrap_neg hr.1 with ⟨a, b⟩ | a <;> rcases wrap_neg hr.2.1 with ⟨c, d⟩ | c <;> rcases wrap_neg hr.2.2 with ⟨e, f⟩ | e <;> omega
theorem left_has {p q : List Pt} (hp : Vl p) {h : Hf} (hq : Poly (LeftS p h) q) {x : Pt} (hx : Hs p x) (hs : ov h x ≤ 0) : Hs q x :=
  hq.has (fun _ hy => left_plc2 hp.2.1 hy) (fun u v k => clip_least hp.pg hx hs u v k)
/-- What is asked of a part: whether it has a place. -/
theorem part_has (K : Hl.Code) {p : List Pt} (hp : Vl p) {h : Hf} {x : Pt} (hpx : Hs p x) (hx : Plc x) {w w' : World} {e : Ending} (hc : PolySays (LeftS p h) w e w') : ∃ vl sm, e = .returned (.tuple #[vl, .bool sm, .int .i64 0]) ∧ Grew w w' ∧ Hid (∀ W, Grew w' W → Calls Try.prog 15 #[vl, .agg #[.int .i64 x.1, .int .i64 x.2]] W fun e w' => ∃ (ra : Bool) (ea : Int), e = .returned (.tuple #[.bool ra, .int .i64 ea]) ∧ Hid (ov h x ≤ 0 → ra = true) ∧ Grew W w') := by
  rcases hc with ⟨q, v, hq, rfl, hs, g⟩ | ⟨hn, v, rfl, hs, g⟩
  · refine ⟨v, true, rfl, g, Lib.hid fun W gw => (K.has_ok q x v W (hs.grown gw) (hq.vl (fun _ hy => left_plc2 hp.2.1 hy)) hx).mono ?_⟩
    rintro e w' ⟨r, rfl, hr, gr⟩
    exact ⟨r, 0, rfl, Lib.hid fun h0 => hr.2 (left_has hp hq hpx h0), gr⟩
  · refine ⟨v, false, rfl, g, Lib.hid fun W gw => (K.has_bad [] x v W (hs.grown gw) (by decide) (fun h => by have := h.1.1.1; cases this)).mono ?_⟩
    rintro e w' ⟨rfl, gr⟩
    refine ⟨false, 1, rfl, Lib.hid fun h0 => ?_, gr⟩
    obtain ⟨y, hy, _⟩ := clip_least hp.pg hpx h0 0 0 0
    exact absurd ⟨y, hy⟩ hn
set_option maxRecDepth 100000 in
set_option maxHeartbeats 4000000 in
theorem sides_walk (C : Code) (p : List Pt) (h : Hf) (x : Pt) (sa : Option Addr) (sc : Nat) (w : World) (hp : Vl p) (hh : WF h) (hx : Plc x)
    (HC : Hid (∀ W, Grew w W → Calls Try.prog 15 #[.slice sa p.length sc, .agg #[.int .i64 x.1, .int .i64 x.2]] W fun e w' => e = .returned (.tuple #[.bool true, .int .i64 0]) ∧ Grew W w'))
    (C1 : Hid (∀ W, Grew w W → Calls Try.prog 10 #[.slice sa p.length sc, .agg #[.int .i64 h.1, .int .i64 h.2.1, .int .i64 h.2.2]] W fun e w1 => ∃ vl sm, e = .returned (.tuple #[vl, .bool sm, .int .i64 0]) ∧ Grew W w1 ∧ Hid (∀ W, Grew w1 W → Calls Try.prog 15 #[vl, .agg #[.int .i64 x.1, .int .i64 x.2]] W fun e w' => ∃ (ra : Bool) (ea : Int), e = .returned (.tuple #[.bool ra, .int .i64 ea]) ∧ Hid (ov h x ≤ 0 → ra = true) ∧ Grew W w')))
    (C2 : Hid (∀ W, Grew w W → Calls Try.prog 10 #[.slice sa p.length sc, .agg #[.int .i64 (-h.1), .int .i64 (-h.2.1), .int .i64 (-h.2.2)]] W fun e w1 => ∃ vl sm, e = .returned (.tuple #[vl, .bool sm, .int .i64 0]) ∧ Grew W w1 ∧ Hid (∀ W, Grew w1 W → Calls Try.prog 15 #[vl, .agg #[.int .i64 x.1, .int .i64 x.2]] W fun e w' => ∃ (ra : Bool) (ea : Int), e = .returned (.tuple #[.bool ra, .int .i64 ea]) ∧ Hid (ov (ng h) x ≤ 0 → ra = true) ∧ Grew W w'))) :
    Calls Try.prog 5 #[.slice sa p.length sc, .agg #[.int .i64 h.1, .int .i64 h.2.1, .int .i64 h.2.2], .agg #[.int .i64 x.1, .int .i64 x.2]] w fun e w' => e = .returned (.bool true) ∧ Grew w w' := by
  have FW : Hid (∀ W, Calls Try.prog 17 #[.slice sa p.length sc, .slice none 0 0] W fun e w' => e = .returned (.bool true) ∧ W = w') := Lib.hid (fun W => by
    have g := few_c p [] (.slice sa p.length sc) (.slice none 0 0) W ⟨_, _, rfl⟩ ⟨none, 0, rfl⟩
    rwa [decide_eq_true (show p.length ≤ 80 ∧ ([] : List Pt).length ≤ 80 from ⟨by have := hp.1.2; omega, by decide⟩)] at g)
  have OC : Hid (∀ W, Calls Try.prog 13 #[.agg #[.int .i64 h.1, .int .i64 h.2.1, .int .i64 h.2.2], .agg #[.int .i64 x.1, .int .i64 x.2]] W fun e w' => e = .returned (.int .i64 (ov h x)) ∧ Grew W w') := Lib.hid (fun W => (over_c h x W hh hx).mono (by
    rintro e w' ⟨rfl, rfl⟩
    exact ⟨rfl, ((Grew.refl _).alloc _ _).alloc _ _⟩))
  have HH := Lib.hid (((Blk.new w #[.int .i64 h.1, .int .i64 h.2.1, .int .i64 h.2.2] 24)).alloc (.cells #[.int .i64 x.1, .int .i64 x.2] 26))
  have HX := Lib.hid (by have g := Blk.new (w.alloc (.cells #[.int .i64 h.1, .int .i64 h.2.1, .int .i64 h.2.2] 24)) #[.int .i64 x.1, .int .i64 x.2] 26; rw [World.size_alloc] at g; exact g)
  have NG : Hid (∀ x, ov (ng h) x = -ov h x) := Lib.hid (ng_ov h)
  obtain ⟨⟨w0, w1⟩, ⟨w2, w3⟩, w4, w5⟩ := hh.1
  clear hp hh hx
  generalize p.length = n at *
  go_enter Try.func5, Try.ntmps5
  go_wp2_with fail
  refine (head_true C _).mono ?_
  rintro e v1 ⟨rfl, g1⟩
  have G1 : Grew w v1 := Grew.trans (((Grew.refl _).alloc _ _).alloc _ _) g1
  have HH := Lib.hid (HH.out.grown g1)
  have HX := Lib.hid (HX.out.grown g1)
  clear g1
  obtain ⟨h0, h1, h2⟩ := blk3 HH.out
  have lh := HH.out.lt
  obtain ⟨⟨x0, x1⟩, _, _⟩ := HX.out.two
  have lx := HX.out.lt
  go_wp2_with fail
  refine (FW.out _).mono ?_
  rintro e w' ⟨rfl, rfl⟩
  go_wp2_with fail
  refine (HC.out _ G1).mono ?_
  rintro e v2 ⟨rfl, g2⟩
  have G2 : Grew w v2 := Grew.trans G1 g2
  have HH := Lib.hid (HH.out.grown g2)
  have HX := Lib.hid (HX.out.grown g2)
  clear g2
  clear h0 h1 h2 lh x0 x1 lx
  obtain ⟨h0, h1, h2⟩ := blk3 HH.out
  have lh := HH.out.lt
  obtain ⟨⟨x0, x1⟩, _, _⟩ := HX.out.two
  have lx := HX.out.lt
  clear G1
  go_wp2_with fail
  refine (C1.out _ G2).mono ?_
  rintro e v3 ⟨l1, s1, rfl, g3, P1⟩
  have G3 : Grew w v3 := Grew.trans G2 g3
  have HH := Lib.hid (HH.out.grown g3)
  have HX := Lib.hid (HX.out.grown g3)
  clear g3
  clear h0 h1 h2 lh x0 x1 lx
  obtain ⟨h0, h1, h2⟩ := blk3 HH.out
  have lh := HH.out.lt
  obtain ⟨⟨x0, x1⟩, _, _⟩ := HX.out.two
  have lx := HX.out.lt
  clear G2
  have D3 : Grew v3 v3 := Grew.refl _
  go_wp2_with fail
  refine (C2.out _ G3).mono ?_
  rintro e v4 ⟨l2, s2, rfl, g4, P2⟩
  have G4 : Grew w v4 := Grew.trans G3 g4
  have D4 : Grew v3 v4 := g4
  have HH := Lib.hid (HH.out.grown g4)
  have HX := Lib.hid (HX.out.grown g4)
  clear g4 G3 D3 h0 h1 h2 lh x0 x1 lx
  obtain ⟨h0, h1, h2⟩ := blk3 HH.out
  have lh := HH.out.lt
  obtain ⟨⟨x0, x1⟩, _, _⟩ := HX.out.two
  have lx := HX.out.lt
  go_wp2_with fail
  refine (P1.out _ D4).mono ?_
  rintro e v5 ⟨ra, ea, rfl, ha, g5⟩
  have G5 : Grew w v5 := Grew.trans G4 g5
  have D5 : Grew v4 v5 := g5
  have HH := Lib.hid (HH.out.grown g5)
  have HX := Lib.hid (HX.out.grown g5)
  clear g5 G4 D4 h0 h1 h2 lh x0 x1 lx
  obtain ⟨h0, h1, h2⟩ := blk3 HH.out
  have lh := HH.out.lt
  obtain ⟨⟨x0, x1⟩, _, _⟩ := HX.out.two
  have lx := HX.out.lt
  go_wp2_with fail
  refine (P2.out _ D5).mono ?_
  rintro e v6 ⟨rb, eb, rfl, hb, g6⟩
  have G6 : Grew w v6 := Grew.trans G5 g6
  have HH := Lib.hid (HH.out.grown g6)
  have HX := Lib.hid (HX.out.grown g6)
  clear g6 G5 D5 h0 h1 h2 lh x0 x1 lx
  obtain ⟨h0, h1, h2⟩ := blk3 HH.out
  have lh := HH.out.lt
  obtain ⟨⟨x0, x1⟩, _, _⟩ := HX.out.two
  have lx := HX.out.lt
  go_wp2_with fail
  refine (OC.out _).mono ?_
  rintro e v7 ⟨rfl, g7⟩
  have G7 : Grew w v7 := Grew.trans G6 g7
  have FA : Hid (ov h x ≤ 0 → ra = true) := ha
  have FB : Hid (0 ≤ ov h x → rb = true) := Lib.hid (fun g => hb.out (by rw [NG.out]; omega))
  clear g7 G6 h0 h1 h2 lh x0 x1 lx ha hb NG OC
  generalize ov h x = s at *
  by_cases c1 : s > 0
  · have B1 := FB.out (by omega)
    subst B1
    have c2 : ¬ s < 0 := by omega
    clear FA FB
    go_wp2_with fail
    go_ret
    exact ⟨rfl, G7⟩
  · have A1 := FA.out (by omega)
    subst A1
    by_cases c2 : s < 0
    · clear FA FB
      go_wp2_with fail
      go_ret
      exact ⟨rfl, G7⟩
    · have B1 := FB.out (by omega)
      subst B1
      clear FA FB
      go_wp2_with fail
      go_ret
      exact ⟨rfl, G7⟩
set_option maxRecDepth 100000 in
set_option maxHeartbeats 4000000 in
theorem sides_wrong (C : Code) (p : List Pt) (h : Hf) (x : Pt) (sa : Option Addr) (sc : Nat) (w : World) (hp : Vl p)
    (HC : Hid (∀ W, Grew w W → Calls Try.prog 15 #[.slice sa p.length sc, .agg #[.int .i64 x.1, .int .i64 x.2]] W fun e w' => e = .returned (.tuple #[.bool true, .int .i64 0]) ∧ Grew W w'))
    (C1 : Hid (∀ W, Grew w W → Calls Try.prog 10 #[.slice sa p.length sc, .agg #[.int .i64 h.1, .int .i64 h.2.1, .int .i64 h.2.2]] W fun e w1 => ∃ vl, e = .returned (.tuple #[vl, .bool false, .int .i64 1]) ∧ Grew W w1))
    (C2 : Hid (∀ W, Grew w W → Calls Try.prog 10 #[.slice sa p.length sc, .agg #[.int .i64 (RowKit.wrap64 (-h.1)), .int .i64 (RowKit.wrap64 (-h.2.1)), .int .i64 (RowKit.wrap64 (-h.2.2))]] W fun e w1 => ∃ vl, e = .returned (.tuple #[vl, .bool false, .int .i64 1]) ∧ Grew W w1)) :
    Calls Try.prog 5 #[.slice sa p.length sc, .agg #[.int .i64 h.1, .int .i64 h.2.1, .int .i64 h.2.2], .agg #[.int .i64 x.1, .int .i64 x.2]] w fun e w' => e = .returned (.bool true) ∧ Grew w w' := by
  have FW : Hid (∀ W, Calls Try.prog 17 #[.slice sa p.length sc, .slice none 0 0] W fun e w' => e = .returned (.bool true) ∧ W = w') := Lib.hid (fun W => by
    have g := few_c p [] (.slice sa p.length sc) (.slice none 0 0) W ⟨_, _, rfl⟩ ⟨none, 0, rfl⟩
    rwa [decide_eq_true (show p.length ≤ 80 ∧ ([] : List Pt).length ≤ 80 from ⟨by have := hp.1.2; omega, by decide⟩)] at g)
  have HH := Lib.hid (((Blk.new w #[.int .i64 h.1, .int .i64 h.2.1, .int .i64 h.2.2] 24)).alloc (.cells #[.int .i64 x.1, .int .i64 x.2] 26))
  have HX := Lib.hid (by have g := Blk.new (w.alloc (.cells #[.int .i64 h.1, .int .i64 h.2.1, .int .i64 h.2.2] 24)) #[.int .i64 x.1, .int .i64 x.2] 26; rw [World.size_alloc] at g; exact g)
  clear hp
  generalize p.length = n at *
  go_enter Try.func5, Try.ntmps5
  go_wp2_with fail
  refine (head_true C _).mono ?_
  rintro e v1 ⟨rfl, g1⟩
  have G1 : Grew w v1 := Grew.trans (((Grew.refl _).alloc _ _).alloc _ _) g1
  have HH := Lib.hid (HH.out.grown g1)
  have HX := Lib.hid (HX.out.grown g1)
  clear g1
  obtain ⟨h0, h1, h2⟩ := blk3 HH.out
  have lh := HH.out.lt
  obtain ⟨⟨x0, x1⟩, _, _⟩ := HX.out.two
  have lx := HX.out.lt
  go_wp2_with fail
  refine (FW.out _).mono ?_
  rintro e w' ⟨rfl, rfl⟩
  go_wp2_with fail
  refine (HC.out _ G1).mono ?_
  rintro e v2 ⟨rfl, g2⟩
  have G2 : Grew w v2 := Grew.trans G1 g2
  have HH := Lib.hid (HH.out.grown g2)
  have HX := Lib.hid (HX.out.grown g2)
  clear g2
  clear h0 h1 h2 lh x0 x1 lx
  obtain ⟨h0, h1, h2⟩ := blk3 HH.out
  have lh := HH.out.lt
  obtain ⟨⟨x0, x1⟩, _, _⟩ := HX.out.two
  have lx := HX.out.lt
  clear G1
  go_wp2_with fail
  refine (C1.out _ G2).mono ?_
  rintro e v3 ⟨l1, rfl, g3⟩
  have G3 : Grew w v3 := Grew.trans G2 g3
  have HH := Lib.hid (HH.out.grown g3)
  have HX := Lib.hid (HX.out.grown g3)
  clear g3
  clear h0 h1 h2 lh x0 x1 lx
  obtain ⟨h0, h1, h2⟩ := blk3 HH.out
  have lh := HH.out.lt
  obtain ⟨⟨x0, x1⟩, _, _⟩ := HX.out.two
  have lx := HX.out.lt
  clear G2
  go_wp2_with fail
  refine (C2.out _ G3).mono ?_
  rintro e v4 ⟨l2, rfl, g4⟩
  have G4 : Grew w v4 := Grew.trans G3 g4
  clear g4 G3 h0 h1 h2 lh x0 x1 lx
  go_wp2_with fail
  go_ret
  exact ⟨rfl, G4⟩
set_option maxRecDepth 100000 in
theorem sides_early (C : Code) (p : List Pt) (h : Hf) (x : Pt) (sa : Option Addr) (sc : Nat) (w : World) (fw : Bool) (FW : Hid (∀ W, Calls Try.prog 17 #[.slice sa p.length sc, .slice none 0 0] W fun e w' => e = .returned (.bool fw) ∧ W = w'))
    (HC : Hid (fw = true → ∀ W, Grew w W → Calls Try.prog 15 #[.slice sa p.length sc, .agg #[.int .i64 x.1, .int .i64 x.2]] W fun e w' => ∃ ee : Int, e = .returned (.tuple #[.bool false, .int .i64 ee]) ∧ (ee = 0 ∨ ee = 1) ∧ Grew W w')) :
    Calls Try.prog 5 #[.slice sa p.length sc, .agg #[.int .i64 h.1, .int .i64 h.2.1, .int .i64 h.2.2], .agg #[.int .i64 x.1, .int .i64 x.2]] w fun e w' => e = .returned (.bool true) ∧ Grew w w' := by
  have HH := Lib.hid (((Blk.new w #[.int .i64 h.1, .int .i64 h.2.1, .int .i64 h.2.2] 24)).alloc (.cells #[.int .i64 x.1, .int .i64 x.2] 26))
  have HX := Lib.hid (by have g := Blk.new (w.alloc (.cells #[.int .i64 h.1, .int .i64 h.2.1, .int .i64 h.2.2] 24)) #[.int .i64 x.1, .int .i64 x.2] 26; rw [World.size_alloc] at g; exact g)
  generalize p.length = n at *
  go_enter Try.func5, Try.ntmps5
  go_wp2_with fail
  refine (head_true C _).mono ?_
  rintro e v1 ⟨rfl, g1⟩
  have G1 : Grew w v1 := Grew.trans (((Grew.refl _).alloc _ _).alloc _ _) g1
  have HH := Lib.hid (HH.out.grown g1)
  have HX := Lib.hid (HX.out.grown g1)
  clear g1
  obtain ⟨h0, h1, h2⟩ := blk3 HH.out
  have lh := HH.out.lt
  obtain ⟨⟨x0, x1⟩, _, _⟩ := HX.out.two
  have lx := HX.out.lt
  go_wp2_with fail
  refine (FW.out _).mono ?_
  rintro e w' ⟨rfl, rfl⟩
  cases fw
  · go_wp2_with fail
    go_ret
    exact ⟨rfl, G1⟩
  · have HC1 := Lib.hid (HC.out rfl)
    clear HC
    go_wp2_with fail
    refine (HC1.out _ G1).mono ?_
    rintro e v2 ⟨ee, rfl, he, g2⟩
    have G2 : Grew w v2 := Grew.trans G1 g2
    clear g2 h0 h1 h2 lh x0 x1 lx
    rcases he with rfl | rfl
    · go_wp2_with fail
      go_ret
      exact ⟨rfl, G2⟩
    · go_wp2_with fail
      go_ret
      exact ⟨rfl, G2⟩
theorem sides_true (K : Hl.Code) (C : Code) (p : List Pt) (h : Hf) (x : Pt) (v : Value) (w : World) (hs : Sl w v p) (hm : p.length ≤ 9223372036854775807) (hr : In64 h.1 ∧ In64 h.2.1 ∧ In64 h.2.2) : Calls Try.prog 5 #[v, .agg #[.int .i64 h.1, .int .i64 h.2.1, .int .i64 h.2.2], .agg #[.int .i64 x.1, .int .i64 x.2]] w fun e w' => e = .returned (.bool true) ∧ Grew w w' := by
  obtain ⟨sa, sc, rfl⟩ := hs.shape
  have FW : Hid (∀ W, Calls Try.prog 17 #[.slice sa p.length sc, .slice none 0 0] W fun e w' => e = .returned (.bool (decide (p.length ≤ 80 ∧ ([] : List Pt).length ≤ 80))) ∧ W = w') := Lib.hid (fun W => few_c p [] (.slice sa p.length sc) (.slice none 0 0) W ⟨_, _, rfl⟩ ⟨none, 0, rfl⟩)
  by_cases ok : Vl p ∧ Plc x
  · by_cases hx : Hs p x
    · have HC : Hid (∀ W, Grew w W → Calls Try.prog 15 #[.slice sa p.length sc, .agg #[.int .i64 x.1, .int .i64 x.2]] W fun e w' => e = .returned (.tuple #[.bool true, .int .i64 0]) ∧ Grew W w') := Lib.hid (fun W g => (K.has_ok p x _ W (hs.grown g) ok.1 ok.2).mono (by
        rintro e w' ⟨r, rfl, h, g⟩
        rw [h.2 hx]
        exact ⟨rfl, g⟩))
      by_cases hh : WF h
      · exact sides_walk C p h x sa sc w ok.1 hh ok.2 HC (Lib.hid fun W g => (C.cut_ok p h _ W (hs.grown g) ok.1 hh).mono fun _ _ hc => by
          obtain ⟨vl, sm, e, gw, hl⟩ := part_has K ok.1 hx ok.2 hc
          exact ⟨vl, sm, e, gw, hl⟩) (Lib.hid fun W g => (C.cut_ok p (ng h) _ W (hs.grown g) ok.1 (ng_wf hh)).mono fun _ _ hc => by
          obtain ⟨vl, sm, e, gw, hl⟩ := part_has K ok.1 hx ok.2 hc
          exact ⟨vl, sm, e, gw, hl⟩)
      · exact sides_wrong C p h x sa sc w ok.1 HC (Lib.hid fun W g => (C.cut_bad p h _ W (hs.grown g) hm (fun t => hh t.2)).mono (by
          rintro e w' ⟨v, rfl, _, g⟩
          exact ⟨v, rfl, g⟩)) (Lib.hid fun W g => (C.cut_bad p (RowKit.wrap64 (-h.1), RowKit.wrap64 (-h.2.1), RowKit.wrap64 (-h.2.2)) _ W (hs.grown g) hm (fun t => wrap_wf hr hh t.2)).mono (by
          rintro e w' ⟨v, rfl, _, g⟩
          exact ⟨v, rfl, g⟩))
    · exact sides_early C p h x sa sc w _ FW (Lib.hid fun _ W g => (K.has_ok p x _ W (hs.grown g) ok.1 ok.2).mono (by
        rintro e w' ⟨r, rfl, h, g⟩
        cases r
        · exact ⟨0, rfl, Or.inl rfl, g⟩
        · exact absurd (h.1 rfl) hx))
  · exact sides_early C p h x sa sc w _ FW (Lib.hid fun _ W g => (K.has_bad p x _ W (hs.grown g) hm ok).mono (by
      rintro e w' ⟨rfl, g⟩
      exact ⟨1, rfl, Or.inr rfl, g⟩))
end Ct
end Go.Proofs.Ytmijlfbmmegfbaa
namespace Go.Proofs.Ytmijlfbmmegfbaa
open Go.RowKit Hl
namespace Ct
theorem box_in {p q : List Pt} (_hp : Pg p) (hq : Pg q) {lo hi low high : Pt} (b : IsBox p lo hi) (c : IsBox q low high) (h : ∀ y, y ∈ p → Hs q y) : low.1 ≤ lo.1 ∧ low.2 ≤ lo.2 ∧ hi.1 ≤ high.1 ∧ hi.2 ≤ high.2 := by
  obtain ⟨y1, g1, e1⟩ := b.1.1
  obtain ⟨y2, g2, e2⟩ := b.2.1.1
  obtain ⟨y3, g3, e3⟩ := b.2.2.1.1
  obtain ⟨y4, g4, e4⟩ := b.2.2.2.1
  have a1 := box_has hq c (h _ g1)
  have a2 := box_has hq c (h _ g2)
  have a3 := box_has hq c (h _ g3)
  have a4 := box_has hq c (h _ g4)
  omega
/-- A polygon that lies in another one has no sides that cross its sides. -/
theorem no_cross {p q : List Pt} (_hp : Pg p) (hq : Pg q) (h : ∀ y, y ∈ p → Hs q y) {i k : Nat} (hi : i < p.length) (hk : k < q.length) (y : Pt) : ¬ XF (at' p i) (at' p ((i + 1) % p.length)) (at' q k) (at' q ((k + 1) % q.length)) y := by
  intro g
  have ha := h _ (at_mem hi)
  have hb := h _ (at_mem (show (i + 1) % p.length < p.length from Nat.mod_lt _ (by omega)))
  have hd := g.1
  generalize at' p i = a at *
  generalize at' p ((i + 1) % p.length) = b at *
  clear g
  unfold Df at hd
  by_cases c3 : 3 ≤ q.length
  · rw [hs_three c3] at ha hb
    have := ha k hk
    have := hb k hk
    omega
  · have c0 := hq.1
    by_cases c1 : q.length = 1
    · have z : (k + 1) % q.length = k := by rw [c1]; omega
      rw [z] at hd
      unfold cr at hd
      have e1 : ((at' q k).1 - (at' q k).1) * (a.2 - (at' q k).2) - ((at' q k).2 - (at' q k).2) * (a.1 - (at' q k).1) = 0 := by grind
      omega
    · have c2 : q.length = 2 := by omega
      have hz := ((hs_two c2 _).1 ha).1
      rw [c2] at hd
      have kk : k = 0 ∨ k = 1 := by omega
      rcases kk with rfl | rfl
      · have z : cr (at' q 0) (at' q ((0 + 1) % 2)) a = 0 := hz
        omega
      · have z : cr (at' q 1) (at' q ((1 + 1) % 2)) a = 0 := by
          show cr (at' q 1) (at' q 0) a = 0
          rw [cr_neg, hz]
          rfl
        omega
theorem within_same {p q m : List Pt} (hp : Vl p) (hq : Vl q) (h : ∀ y, y ∈ p → Hs q y) (hm : Poly (BothS p q) m) : m = p :=
  hm.own hp.pg hp.1.2 (fun y hy => by
    obtain ⟨i, hi, e⟩ := mem_at hy
    exact Or.inl ⟨i, hi, e, h y hy⟩) (fun y hy => by
    rcases hy with ⟨i, hi, rfl, _⟩ | ⟨k, hk, _, g⟩ | ⟨i, k, ⟨hi, hk⟩, g⟩
    · exact hs_corner hp.pg hi
    · exact g
    · exact absurd g (no_cross hp.pg hq.pg h hi hk y))
theorem within_some {p q : List Pt} (hp : Vl p) (h : ∀ y, y ∈ p → Hs q y) : ∃ y, BothS p q y := by
  have h0 : 0 < p.length := by have := hp.1.1; omega
  exact ⟨at' p 0, Or.inl ⟨0, h0, rfl, h _ (at_mem h0)⟩⟩
theorem blk2 {W : World} {B : Nat} {x y : Value} {t : TypeId} (h : Blk W B #[x, y] t) : W.cell? ⟨B, 0, none⟩ = some x ∧ W.cell? ⟨B, 1, none⟩ = some y := by simp [World.cell?, show W.heap[B]? = _ from h]
set_option maxRecDepth 100000 in
set_option maxHeartbeats 8000000 in
theorem apart_walk (C : Code) (p q : List Pt) (sa : Option Addr) (sc : Nat) (ta : Option Addr) (tc : Nat) (w : World) (a inn : Bool) (hai : inn = true → a = false) (FW : Hid (∀ W, Calls Try.prog 17 #[.slice sa p.length sc, .slice ta q.length tc] W fun e w' => e = .returned (.bool true) ∧ W = w'))
    (CA : Hid (∀ W, Grew w W → Calls Try.prog 20 #[.slice sa p.length sc, .slice ta q.length tc] W fun e w' => e = .returned (.tuple #[.bool a, .int .i64 0]) ∧ Grew W w'))
    (CM : Hid (∀ W, Grew w W → Calls Try.prog 19 #[.slice sa p.length sc, .slice ta q.length tc] W fun e w1 => ∃ vl, e = .returned (.tuple #[vl, .bool (!a), .int .i64 0]) ∧ Hid (inn = true → ∀ W, Grew w1 W → Calls Try.prog 18 #[vl, .slice sa p.length sc] W fun e w' => e = .returned (.bool true) ∧ Grew W w') ∧ Grew W w1))
    (CI : Hid (∀ W, Grew w W → Calls Try.prog 21 #[.slice sa p.length sc, .slice ta q.length tc] W fun e w' => e = .returned (.tuple #[.bool inn, .int .i64 0]) ∧ Grew W w'))
    (BP : Hid (∀ W, Grew w W → Calls Try.prog 11 #[.slice sa p.length sc] W (BoxSays p W)))
    (BQ : Hid (∀ W, Grew w W → Calls Try.prog 11 #[.slice ta q.length tc] W (BoxSays q W)))
    (HB : Hid (inn = true → ∀ lo hi low high, IsBox p lo hi → IsBox q low high → low.1 ≤ lo.1 ∧ low.2 ≤ lo.2 ∧ hi.1 ≤ high.1 ∧ hi.2 ≤ high.2)) :
    Calls Try.prog 7 #[.slice sa p.length sc, .slice ta q.length tc] w fun e w' => e = .returned (.bool true) ∧ Grew w w' := by
  have AI := Lib.hid hai
  clear hai
  generalize p.length = n at *
  generalize q.length = m at *
  go_enter Try.func7, Try.ntmps7
  go_wp2_with fail
  refine (head_true C _).mono ?_
  rintro e v1 ⟨rfl, g1⟩
  have G1 : Grew w v1 := g1
  clear g1
  go_wp2_with fail
  refine (FW.out _).mono ?_
  rintro e w' ⟨rfl, rfl⟩
  go_wp2_with fail
  refine (CA.out _ G1).mono ?_
  rintro e v2 ⟨rfl, g2⟩
  have G2 : Grew w v2 := Grew.trans G1 g2
  clear g2 G1
  go_wp2_with fail
  refine (CM.out _ G2).mono ?_
  rintro e v3 ⟨vl, rfl, SM, g3⟩
  have G3 : Grew w v3 := Grew.trans G2 g3
  have D3 : Grew v3 v3 := Grew.refl _
  clear g3 G2
  go_wp2_with fail
  refine (CI.out _ G3).mono ?_
  rintro e v4 ⟨rfl, g4⟩
  have G4 : Grew w v4 := Grew.trans G3 g4
  have D4 : Grew v3 v4 := g4
  clear g4 G3 D3
  clear CA CM CI FW
  cases inn
  · clear SM HB BP BQ
    cases a
    · go_wp2_with fail
      go_ret
      exact ⟨rfl, G4⟩
    · go_wp2_with fail
      go_ret
      exact ⟨rfl, G4⟩
  · obtain rfl := AI.out rfl
    have SM1 := Lib.hid (SM.out rfl)
    clear SM
    have HB1 := Lib.hid (HB.out rfl)
    clear HB
    clear AI
    go_wp2_with fail
    refine (BP.out _ G4).mono ?_
    rintro e v5 ⟨lo, hi, hb, rfl, g5⟩
    have B5 := Lib.hid hb
    have G5 : Grew w v5 := Grew.trans G4 g5
    have D5 : Grew v3 v5 := Grew.trans D4 g5
    clear hb g5 G4 D4 BP
    go_wp2_with fail
    refine (BQ.out _ (by (repeat' (first | (with_reducible exact Grew.refl _) | (with_reducible assumption) | (with_reducible refine Grew.alloc ?_ _ _) | (with_reducible refine Grew.drew ?_) | (with_reducible refine Grew.drewN ?_ _) | (with_reducible refine Grew.setCell ?_ ?_ _) | go_size)))).mono ?_
    rintro e v6 ⟨low, high, hb, rfl, g6⟩
    obtain ⟨le1, le2, le3, le4⟩ := HB1.out _ _ _ _ B5.out hb
    have XL := Lib.hid (((Blk.new v5 #[.int .i64 lo.1, .int .i64 lo.2] 26).alloc (.cells #[.int .i64 hi.1, .int .i64 hi.2] 26)).grown g6)
    have XH := Lib.hid ((show Blk ((v5.alloc (.cells #[.int .i64 lo.1, .int .i64 lo.2] 26)).alloc (.cells #[.int .i64 hi.1, .int .i64 hi.2] 26)) (v5.heap.size + 1) #[.int .i64 hi.1, .int .i64 hi.2] 26 from by have g := Blk.new (v5.alloc (.cells #[.int .i64 lo.1, .int .i64 lo.2] 26)) #[.int .i64 hi.1, .int .i64 hi.2] 26; rw [World.size_alloc] at g; exact g).grown g6)
    have G6 : Grew w v6 := Grew.trans (by (repeat' (first | (with_reducible exact Grew.refl _) | (with_reducible assumption) | (with_reducible refine Grew.alloc ?_ _ _) | (with_reducible refine Grew.drew ?_) | (with_reducible refine Grew.drewN ?_ _) | (with_reducible refine Grew.setCell ?_ ?_ _) | go_size))) g6
    have D6 : Grew v3 v6 := Grew.trans (by (repeat' (first | (with_reducible exact Grew.refl _) | (with_reducible assumption) | (with_reducible refine Grew.alloc ?_ _ _) | (with_reducible refine Grew.drew ?_) | (with_reducible refine Grew.drewN ?_ _) | (with_reducible refine Grew.setCell ?_ ?_ _) | go_size))) g6
    clear hb g6 BQ HB1 B5 G5 D5
    go_wp2_with fail
    refine (SM1.out _ (by (repeat' (first | (with_reducible exact Grew.refl _) | (with_reducible assumption) | (with_reducible refine Grew.alloc ?_ _ _) | (with_reducible refine Grew.drew ?_) | (with_reducible refine Grew.drewN ?_ _) | (with_reducible refine Grew.setCell ?_ ?_ _) | go_size)))).mono ?_
    rintro e v7 ⟨rfl, g7⟩
    have YL := Lib.hid (((Blk.new v6 #[.int .i64 low.1, .int .i64 low.2] 26).alloc (.cells #[.int .i64 high.1, .int .i64 high.2] 26)).grown g7)
    have YH := Lib.hid ((show Blk ((v6.alloc (.cells #[.int .i64 low.1, .int .i64 low.2] 26)).alloc (.cells #[.int .i64 high.1, .int .i64 high.2] 26)) (v6.heap.size + 1) #[.int .i64 high.1, .int .i64 high.2] 26 from by have g := Blk.new (v6.alloc (.cells #[.int .i64 low.1, .int .i64 low.2] 26)) #[.int .i64 high.1, .int .i64 high.2] 26; rw [World.size_alloc] at g; exact g).grown g7)
    have XL := Lib.hid (((XL.out.alloc (.cells #[.int .i64 low.1, .int .i64 low.2] 26)).alloc (.cells #[.int .i64 high.1, .int .i64 high.2] 26)).grown g7)
    have XH := Lib.hid (((XH.out.alloc (.cells #[.int .i64 low.1, .int .i64 low.2] 26)).alloc (.cells #[.int .i64 high.1, .int .i64 high.2] 26)).grown g7)
    have G7 : Grew w v7 := Grew.trans (by (repeat' (first | (with_reducible exact Grew.refl _) | (with_reducible assumption) | (with_reducible refine Grew.alloc ?_ _ _) | (with_reducible refine Grew.drew ?_) | (with_reducible refine Grew.drewN ?_ _) | (with_reducible refine Grew.setCell ?_ ?_ _) | go_size))) g7
    clear g7 G6 D6 SM1
    obtain ⟨a0, a1⟩ := blk2 XL.out
    obtain ⟨b0, b1⟩ := blk2 XH.out
    obtain ⟨d0, d1⟩ := blk2 YL.out
    obtain ⟨e0, e1⟩ := blk2 YH.out
    have la := XL.out.lt
    have lb := XH.out.lt
    have ld := YL.out.lt
    have le := YH.out.lt
    go_wp2_with fail
    go_ret
    exact ⟨rfl, G7⟩
set_option maxRecDepth 100000 in
theorem apart_bad (C : Code) (p q : List Pt) (sa : Option Addr) (sc : Nat) (ta : Option Addr) (tc : Nat) (w : World) (fw : Bool) (FW : Hid (∀ W, Calls Try.prog 17 #[.slice sa p.length sc, .slice ta q.length tc] W fun e w' => e = .returned (.bool fw) ∧ W = w'))
    (CA : Hid (fw = true → ∀ W, Grew w W → Calls Try.prog 20 #[.slice sa p.length sc, .slice ta q.length tc] W fun e w' => e = .returned (.tuple #[.bool false, .int .i64 1]) ∧ Grew W w'))
    (CM : Hid (fw = true → ∀ W, Grew w W → Calls Try.prog 19 #[.slice sa p.length sc, .slice ta q.length tc] W fun e w1 => ∃ vl, e = .returned (.tuple #[vl, .bool false, .int .i64 1]) ∧ Grew W w1))
    (CI : Hid (fw = true → ∀ W, Grew w W → Calls Try.prog 21 #[.slice sa p.length sc, .slice ta q.length tc] W fun e w' => e = .returned (.tuple #[.bool false, .int .i64 1]) ∧ Grew W w')) :
    Calls Try.prog 7 #[.slice sa p.length sc, .slice ta q.length tc] w fun e w' => e = .returned (.bool true) ∧ Grew w w' := by
  generalize p.length = n at *
  generalize q.length = m at *
  go_enter Try.func7, Try.ntmps7
  go_wp2_with fail
  refine (head_true C _).mono ?_
  rintro e v1 ⟨rfl, g1⟩
  have G1 : Grew w v1 := g1
  clear g1
  go_wp2_with fail
  refine (FW.out _).mono ?_
  rintro e w' ⟨rfl, rfl⟩
  cases fw
  · go_wp2_with fail
    go_ret
    exact ⟨rfl, G1⟩
  · have CA1 := Lib.hid (CA.out rfl)
    clear CA
    have CM1 := Lib.hid (CM.out rfl)
    clear CM
    have CI1 := Lib.hid (CI.out rfl)
    clear CI
    go_wp2_with fail
    refine (CA1.out _ G1).mono ?_
    rintro e v2 ⟨rfl, g2⟩
    have G2 : Grew w v2 := Grew.trans G1 g2
    clear g2 G1
    go_wp2_with fail
    refine (CM1.out _ G2).mono ?_
    rintro e v3 ⟨vl, rfl, g3⟩
    have G3 : Grew w v3 := Grew.trans G2 g3
    clear g3 G2
    go_wp2_with fail
    refine (CI1.out _ G3).mono ?_
    rintro e v4 ⟨rfl, g4⟩
    have G4 : Grew w v4 := Grew.trans G3 g4
    clear g4 G3
    go_wp2_with fail
    go_ret
    exact ⟨rfl, G4⟩
theorem apart_true (K : Hl.Code) (C : Code) (p q : List Pt) (v v' : Value) (w : World) (hs : Sl w v p) (hs' : Sl w v' q) (hm : p.length ≤ 9223372036854775807) (hm' : q.length ≤ 9223372036854775807) : Calls Try.prog 7 #[v, v'] w fun e w' => e = .returned (.bool true) ∧ Grew w w' := by
  obtain ⟨sa, sc, rfl⟩ := hs.shape
  obtain ⟨ta, tc, rfl⟩ := hs'.shape
  have FW : Hid (∀ W, Calls Try.prog 17 #[.slice sa p.length sc, .slice ta q.length tc] W fun e w' => e = .returned (.bool (decide (p.length ≤ 80 ∧ q.length ≤ 80))) ∧ W = w') := Lib.hid (fun W => few_c p q _ _ W ⟨_, _, rfl⟩ ⟨_, _, rfl⟩)
  by_cases ok : Vl p ∧ Vl q
  · obtain ⟨hp, hq⟩ := ok
    rw [decide_eq_true (show p.length ≤ 80 ∧ q.length ≤ 80 from ⟨by have := hp.1.2; omega, by have := hq.1.2; omega⟩)] at FW
    obtain ⟨a, ha⟩ : ∃ a : Bool, a = true ↔ ¬ ∃ y, BothS p q y := by
      by_cases h : ∃ y, BothS p q y
      · exact ⟨false, by simp [h]⟩
      · exact ⟨true, by simp [h]⟩
    obtain ⟨inn, hin⟩ : ∃ a : Bool, a = true ↔ ∀ y, y ∈ p → Hs q y := by
      by_cases h : ∀ y, y ∈ p → Hs q y
      · exact ⟨true, fun _ => h, fun _ => rfl⟩
      · exact ⟨false, fun e => (by cases e), fun g => absurd g h⟩
    refine apart_walk C p q sa sc ta tc w a inn (fun h => ?_) FW (Lib.hid fun W g => (C.apart_ok p q _ _ W (hs.grown g) (hs'.grown g) hp hq).mono ?_) (Lib.hid fun W g => (C.meet_ok p q _ _ W (hs.grown g) (hs'.grown g) hp hq).mono ?_) (Lib.hid fun W g => (C.within_ok p q _ _ W (hs.grown g) (hs'.grown g) hp hq).mono ?_) (Lib.hid fun W g => K.box_ok p _ W (hs.grown g) hp) (Lib.hid fun W g => K.box_ok q _ W (hs'.grown g) hq) (Lib.hid fun h lo hi low high b c => box_in hp.pg hq.pg b c (hin.1 h))
    · cases a
      · rfl
      · exact absurd (within_some hp (hin.1 h)) (ha.1 rfl)
    · rintro e w' ⟨r, rfl, h, g⟩
      have : r = a := by rw [Bool.eq_iff_iff, h, ha]
      rw [this]
      exact ⟨rfl, g⟩
    · rintro e w' (⟨m, v, hm1, rfl, hv, g1⟩ | ⟨hn, v, rfl, hv, g1⟩)
      · have ea : a = false := by
          cases a
          · rfl
          · exact absurd hm1.some (ha.1 rfl)
        rw [ea]
        refine ⟨v, rfl, Lib.hid fun h W g2 => ?_, g1⟩
        have e := within_same hp hq (hin.1 h) hm1
        exact (same_any m p _ _ W (hv.grown g2) (hs.grown (Grew.trans g (Grew.trans g1 g2))) (by rw [e]; exact hm)).mono fun _ _ t => t.to e
      · have ea : a = true := ha.2 hn
        rw [ea]
        exact ⟨v, rfl, Lib.hid fun h => absurd (within_some hp (hin.1 h)) hn, g1⟩
    · rintro e w' ⟨r, rfl, h, g⟩
      have : r = inn := by rw [Bool.eq_iff_iff, h, hin]
      rw [this]
      exact ⟨rfl, g⟩
  · exact apart_bad C p q sa sc ta tc w _ FW (Lib.hid fun _ W g => C.apart_bad p q _ _ W (hs.grown g) (hs'.grown g) hm hm' ok) (Lib.hid fun _ W g => (C.meet_bad p q _ _ W (hs.grown g) (hs'.grown g) hm hm' ok).mono (by
      rintro e w' ⟨v, rfl, _, g⟩
      exact ⟨v, rfl, g⟩)) (Lib.hid fun _ W g => C.within_bad p q _ _ W (hs.grown g) (hs'.grown g) hm hm' ok)
end Ct
end Go.Proofs.Ytmijlfbmmegfbaa
