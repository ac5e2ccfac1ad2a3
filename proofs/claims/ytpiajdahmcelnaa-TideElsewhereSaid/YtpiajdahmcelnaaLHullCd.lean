/-
  The landed Has.
-/
import Derived.Test.YtpiajdahmcelnaaLHullCv
import Derived.Test.YtpiajdahmcelnaaLHullCl
import Derived.Test.YtpiajdahmcelnaaLHullCon
namespace Go.Proofs.Ytpiajdahmcelnaa
open Go.RowKit Go.Shelf
attribute [local go_sem] Oper.semAt_some
namespace Hl
theorem has_iff {p : List Pt} (hv : Vl p) {lo hi : Pt} (hb : IsBox p lo hi) {x : Pt} : Hs p x ↔ (lo.1 ≤ x.1 ∧ x.1 ≤ hi.1 ∧ lo.2 ≤ x.2 ∧ x.2 ≤ hi.2) ∧ ∀ i, i < p.length → 0 ≤ cr (at' p i) (at' p ((i + 1) % p.length)) x := by
  have hp : Pg p := ⟨hv.1.1, hv.2.2.1, hv.2.2.2⟩
  have hb0 := hb
  obtain ⟨b1, b2, b3, b4⟩ := hb
  have q1 : ∀ y, y ∈ p → lo.1 ≤ y.1 := fun y hy => by have := b1.2 y hy; omega
  have q2 : ∀ y, y ∈ p → y.1 ≤ hi.1 := fun y hy => by have := b2.2 y hy; omega
  have q3 : ∀ y, y ∈ p → lo.2 ≤ y.2 := fun y hy => by have := b3.2 y hy; omega
  have q4 : ∀ y, y ∈ p → y.2 ≤ hi.2 := fun y hy => by have := b4.2 y hy; omega
  obtain ⟨⟨y1, m1, e1⟩, _⟩ := b1
  obtain ⟨⟨y2, m2, e2⟩, _⟩ := b2
  obtain ⟨⟨y3, m3, e3⟩, _⟩ := b3
  obtain ⟨⟨y4, m4, e4⟩, _⟩ := b4
  constructor
  · intro hx
    refine ⟨box_has hp hb0 hx, fun i hi => ?_⟩
    unfold Hs at hx
    by_cases l1 : p.length = 1
    · rw [if_pos l1] at hx
      obtain rfl : i = 0 := by omega
      rw [l1, ← hx, cr_self]
      exact Int.le_refl _
    · rw [if_neg l1] at hx
      by_cases l2 : p.length = 2
      · rw [if_pos l2] at hx
        rw [l2]
        rcases (show i = 0 ∨ i = 1 by omega) with rfl | rfl
        · rw [show (0 + 1) % 2 = 1 from rfl, hx.1]; exact Int.le_refl _
        · rw [show (1 + 1) % 2 = 0 from rfl, cr_swap2, hx.1]; exact Int.le_refl _
      · rw [if_neg l2] at hx
        exact hx i hi
  · rintro ⟨⟨h1, h2, h3, h4⟩, hc⟩
    unfold Hs
    by_cases l1 : p.length = 1
    · rw [if_pos l1]
      have one : ∀ y, y ∈ p → y = at' p 0 := fun y hy => by
        obtain ⟨j, hj, ej⟩ := mem_at hy
        obtain rfl : j = 0 := by omega
        exact ej.symm
      rw [one _ m1] at e1
      rw [one _ m2] at e2
      rw [one _ m3] at e3
      rw [one _ m4] at e4
      exact Prod.ext (by omega) (by omega)
    · rw [if_neg l1]
      by_cases l2 : p.length = 2
      · rw [if_pos l2]
        have c0 := hc 0 (by omega)
        have c1 := hc 1 (by omega)
        rw [l2, show (0 + 1) % 2 = 1 from rfl] at c0
        rw [l2, show (1 + 1) % 2 = 0 from rfl, cr_swap2] at c1
        refine ⟨by omega, ?_⟩
        have two : ∀ y, y ∈ p → y = at' p 0 ∨ y = at' p 1 := fun y hy => by
          obtain ⟨j, hj, ej⟩ := mem_at hy
          rcases (show j = 0 ∨ j = 1 by omega) with rfl | rfl
          · exact Or.inl ej.symm
          · exact Or.inr ej.symm
        unfold btw
        rcases two _ m1 with k1 | k1 <;> rw [k1] at e1 <;> rcases two _ m2 with k2 | k2 <;> rw [k2] at e2 <;> rcases two _ m3 with k3 | k3 <;> rw [k3] at e3 <;> rcases two _ m4 with k4 | k4 <;> rw [k4] at e4 <;> omega
      · rw [if_neg l2]
        exact fun i hi => hc i hi

set_option maxRecDepth 100000 in
set_option maxHeartbeats 4000000 in
theorem has_c (p : List Pt) (x : Pt) (b o c : Nat) (w : World) (hr : Row w b o p) (hv : Vl p) (hx : Plc x) :
    Calls Try.prog 22 #[.slice (some ⟨b, o, none⟩) p.length c, .agg #[.int .i64 x.1, .int .i64 x.2]] w (HasSays p x w) := by
  have HR := Lib.hid hr
  have PL := Lib.hid hv.2.1
  have L64 : p.length ≤ 64 := hv.1.2
  have L1 : 1 ≤ p.length := hv.1.1
  have HI := Lib.hid (fun lo hi (hb : IsBox p lo hi) => has_iff hv hb (x := x))
  have VC : Hid (∀ n W, Grew w W → CallsIn Fence.wide n Try.prog 44 #[.slice (some ⟨b, o, none⟩) p.length c] W fun e w' => e = .returned (.bool true) ∧ Grew W w') := Lib.hid (fun n W g => callsIn_wide.2 ((valid_c p _ W (Or.inr ⟨b, o, c, rfl, hr.grown g⟩) (by omega)).mono (by
    rintro e w' ⟨r, rfl, h, g⟩
    rw [h.2 hv]
    exact ⟨rfl, g⟩)))
  have PC : Hid (∀ n W, CallsIn Fence.wide n Try.prog 45 #[.agg #[.int .i64 x.1, .int .i64 x.2]] W fun e w' => e = .returned (.bool true) ∧ W.alloc (.cells #[.int .i64 x.1, .int .i64 x.2] 30) = w') := Lib.hid (fun n W => callsIn_wide.2 (by
    have h := place_c x W
    rwa [decide_eq_true hx] at h))
  have BC : Hid (∀ n W, Grew w W → CallsIn Fence.wide n Try.prog 46 #[.slice (some ⟨b, o, none⟩) p.length c] W (Box2Says p W)) := Lib.hid (fun n W g => callsIn_wide.2 (box_c p b o c W (hr.grown g) hv.2.1 hv.1.1 (by omega)))
  have hb := hr.1
  clear hr hv
  have G0 : Grew w (((w.alloc (.cells #[.int .i64 x.1, .int .i64 x.2] 30)).alloc (.cells #[.bool false] 4)).alloc (.cells #[.int .i64 0] 34)) := (((Grew.refl w).alloc _ _).alloc _ _).alloc _ _
  have XB : Blk (((w.alloc (.cells #[.int .i64 x.1, .int .i64 x.2] 30)).alloc (.cells #[.bool false] 4)).alloc (.cells #[.int .i64 0] 34)) w.heap.size #[.int .i64 x.1, .int .i64 x.2] 30 := ((Blk.new w _ _).alloc _).alloc _
  have RB : Blk (((w.alloc (.cells #[.int .i64 x.1, .int .i64 x.2] 30)).alloc (.cells #[.bool false] 4)).alloc (.cells #[.int .i64 0] 34)) (w.heap.size + 1) #[.bool false] 4 := by
    have h := (Blk.new (w.alloc (.cells #[.int .i64 x.1, .int .i64 x.2] 30)) #[.bool false] 4).alloc (.cells #[.int .i64 0] 34)
    rwa [World.size_alloc] at h
  have RE : Blk (((w.alloc (.cells #[.int .i64 x.1, .int .i64 x.2] 30)).alloc (.cells #[.bool false] 4)).alloc (.cells #[.int .i64 0] 34)) (w.heap.size + 1 + 1) #[.int .i64 0] 34 := by
    have h := Blk.new ((w.alloc (.cells #[.int .i64 x.1, .int .i64 x.2] 30)).alloc (.cells #[.bool false] 4)) #[.int .i64 0] 34
    rwa [World.size_alloc, World.size_alloc] at h
  have XB := Lib.hid XB
  have RB := Lib.hid RB
  have RE := Lib.hid RE
  have G0 := Lib.hid G0
  refine (callsIn_wide (n := 5)).1 ?_
  refine callsIn_of_wp_marks Try.func22 rfl trivial ?_ rfl
  simp only [Try.ntmps22, List.size_toArray, List.length_cons, List.length_nil, Nat.reduceAdd, Nat.reduceSub, Array.replicate_succ, Array.replicate_zero, List.push_toArray, List.append_toArray, List.nil_append, List.cons_append]
  gi_wp2_with fail
  refine ⟨trivial, (VC.out _ _ G0.out).mono ?_⟩
  rintro e w1 ⟨rfl, g1⟩
  obtain ⟨⟨x0, x1⟩, x2, x3⟩ := (XB.out.grown g1).two
  have g1 := Lib.hid g1
  gi_wp2_with fail
  refine ⟨trivial, (PC.out _ _).mono ?_⟩
  rintro e w2 ⟨rfl, rfl⟩
  clear x0 x1 x2 x3
  gi_wp2_with fail
  refine ⟨trivial, (BC.out _ _ ((G0.out.trans g1.out).alloc _ _)).mono ?_⟩
  rintro e w3 ⟨lo, hi, hbx, rfl, g3⟩
  have HB := Lib.hid (HI.out lo hi hbx)
  have gg := g1.out.trans (((Grew.refl w1).alloc #[.int .i64 x.1, .int .i64 x.2] 30).trans g3)
  have kX := XB.out.grown gg
  have kB := RB.out.grown gg
  have kE := RE.out.grown gg
  have GW : Grew w w3 := G0.out.trans gg
  clear HI hbx g3 gg g1 XB RB RE G0 VC PC BC
  obtain ⟨⟨x0, x1⟩, x2, x3⟩ := kX.two
  obtain ⟨r0, r1⟩ := kB.one
  obtain ⟨e0, e1⟩ := kE.one
  have lX := kX.lt
  have lB := kB.lt
  have lE := kE.lt
  have lX1 : w.heap.size < w3.heap.size + 1 := by omega
  have lX2 : w.heap.size < w3.heap.size + 1 + 1 := by omega
  have lB1 : w.heap.size + 1 < w3.heap.size + 1 := by omega
  have lB2 : w.heap.size + 1 < w3.heap.size + 1 + 1 := by omega
  have lE1 : w.heap.size + 1 + 1 < w3.heap.size + 1 := by omega
  have lE2 : w.heap.size + 1 + 1 < w3.heap.size + 1 + 1 := by omega
  have OUT : ∀ wf : World, Grew w wf → ¬ Hs p x → HasSays p x w (.returned (.tuple #[.bool false, .int .i64 0])) wf := fun wf g h => ⟨false, rfl, ⟨fun h => (by cases h), fun h' => absurd h' h⟩, g⟩
  have OUT := Lib.hid OUT
  by_cases c1 : x.1 < lo.1
  · gi_wp2_with fail
    exact ⟨.tuple #[.bool false, .int .i64 0], by simp [results, Try.results22, go_sem, *], OUT.out _ (by (repeat' (first | (with_reducible exact Grew.refl _) | (with_reducible assumption) | (with_reducible refine Grew.alloc ?_ _ _) | (with_reducible refine Grew.drew ?_) | (with_reducible refine Grew.drewN ?_ _) | (with_reducible refine Grew.setCell ?_ ?_ _) | go_size))) (fun h => by have := (HB.out.1 h).1; omega)⟩
  by_cases c2 : hi.1 < x.1
  · gi_wp2_with fail
    exact ⟨.tuple #[.bool false, .int .i64 0], by simp [results, Try.results22, go_sem, *], OUT.out _ (by (repeat' (first | (with_reducible exact Grew.refl _) | (with_reducible assumption) | (with_reducible refine Grew.alloc ?_ _ _) | (with_reducible refine Grew.drew ?_) | (with_reducible refine Grew.drewN ?_ _) | (with_reducible refine Grew.setCell ?_ ?_ _) | go_size))) (fun h => by have := (HB.out.1 h).1; omega)⟩
  by_cases c3 : x.2 < lo.2
  · gi_wp2_with fail
    exact ⟨.tuple #[.bool false, .int .i64 0], by simp [results, Try.results22, go_sem, *], OUT.out _ (by (repeat' (first | (with_reducible exact Grew.refl _) | (with_reducible assumption) | (with_reducible refine Grew.alloc ?_ _ _) | (with_reducible refine Grew.drew ?_) | (with_reducible refine Grew.drewN ?_ _) | (with_reducible refine Grew.setCell ?_ ?_ _) | go_size))) (fun h => by have := (HB.out.1 h).1; omega)⟩
  by_cases c4 : hi.2 < x.2
  · gi_wp2_with fail
    exact ⟨.tuple #[.bool false, .int .i64 0], by simp [results, Try.results22, go_sem, *], OUT.out _ (by (repeat' (first | (with_reducible exact Grew.refl _) | (with_reducible assumption) | (with_reducible refine Grew.alloc ?_ _ _) | (with_reducible refine Grew.drew ?_) | (with_reducible refine Grew.drewN ?_ _) | (with_reducible refine Grew.setCell ?_ ?_ _) | go_size))) (fun h => by have := (HB.out.1 h).1; omega)⟩
  have INB := Lib.hid (show lo.1 ≤ x.1 ∧ x.1 ≤ hi.1 ∧ lo.2 ≤ x.2 ∧ x.2 ≤ hi.2 by omega)
  gi_wp2_with fail
  refine ⟨trivial, (sides_in 4 _ _ _ _).mono ?_⟩
  rintro e w4 ⟨rfl, rfl⟩
  gi_wp2_with fail
  clear c1 c2 c3 c4
  generalize Value.bool (decide (x.1 < lo.1)) = v1
  generalize Value.bool (decide (hi.1 < x.1)) = v2
  generalize Value.bool (decide (x.1 < lo.1) || decide (hi.1 < x.1)) = v3
  generalize Value.bool (decide (x.2 < lo.2)) = v4
  generalize Value.bool (decide (x.1 < lo.1) || decide (hi.1 < x.1) || decide (x.2 < lo.2)) = v5
  generalize Value.bool (decide (hi.2 < x.2)) = v6
  generalize Value.bool (decide (x.1 < lo.1) || decide (hi.1 < x.1) || decide (x.2 < lo.2) || decide (hi.2 < x.2)) = v7
  have kX := ((kX.alloc (.cells #[.int .i64 lo.1, .int .i64 lo.2] 30)).alloc (.cells #[.int .i64 hi.1, .int .i64 hi.2] 30)).alloc (.cells #[.slice (some ⟨b, o, none⟩) p.length c] 47)
  have kB := ((kB.alloc (.cells #[.int .i64 lo.1, .int .i64 lo.2] 30)).alloc (.cells #[.int .i64 hi.1, .int .i64 hi.2] 30)).alloc (.cells #[.slice (some ⟨b, o, none⟩) p.length c] 47)
  have kE := ((kE.alloc (.cells #[.int .i64 lo.1, .int .i64 lo.2] 30)).alloc (.cells #[.int .i64 hi.1, .int .i64 hi.2] 30)).alloc (.cells #[.slice (some ⟨b, o, none⟩) p.length c] 47)
  have G0 : Below w.heap.size w (((w3.alloc (.cells #[.int .i64 lo.1, .int .i64 lo.2] 30)).alloc (.cells #[.int .i64 hi.1, .int .i64 hi.2] 30)).alloc (.cells #[.slice (some ⟨b, o, none⟩) p.length c] 47)) := ((GW.alloc _ _).alloc _ _).alloc _ _
  have hsz : (((w3.alloc (.cells #[.int .i64 lo.1, .int .i64 lo.2] 30)).alloc (.cells #[.int .i64 hi.1, .int .i64 hi.2] 30)).alloc (.cells #[.slice (some ⟨b, o, none⟩) p.length c] 47)).heap.size = w3.heap.size + 1 + 1 + 1 := by simp
  have kS : (((w3.alloc (.cells #[.int .i64 lo.1, .int .i64 lo.2] 30)).alloc (.cells #[.int .i64 hi.1, .int .i64 hi.2] 30)).alloc (.cells #[.slice (some ⟨b, o, none⟩) p.length c] 47)).cell? ⟨w3.heap.size + 1 + 1, 0, none⟩ = some (.slice (some ⟨b, o, none⟩) p.length c) := by simp [go_sem]
  obtain ⟨W0, hW0⟩ : ∃ W0, ((w3.alloc (.cells #[.int .i64 lo.1, .int .i64 lo.2] 30)).alloc (.cells #[.int .i64 hi.1, .int .i64 hi.2] 30)).alloc (.cells #[.slice (some ⟨b, o, none⟩) p.length c] 47) = W0 := ⟨_, rfl⟩
  rw [hW0] at kX kB kE G0 hsz kS ⊢
  have hR0 := HR.out.grown G0
  clear hW0 x0 x1 x2 x3 r0 r1 e0 e1 lX lB lX1 lX2 lB1 lB2 lE1 lE2
  refine wpIn_rangeFunc_ownH rfl (by omega) (gf := 73) (lb := #[.pointer (some ⟨w3.heap.size + 1 + 1, 0, none⟩)]) rfl trivial (enters_of Try.func73 (by kernel_rfl) rfl)
    (sides_stops 4 (by omega) (w3.heap.size + 1 + 1) b o c p L1 (by omega) W0 (by omega) kS hR0) Kept.trans (kept_b (by omega) (by omega)) (Below.refl _ _) (fun _ => rfl)
    (fun pre W => ((∀ i, i ∈ pre → 0 ≤ cr (at' p i) (at' p ((i + 1) % p.length)) x) ∧ Blk W w.heap.size #[.int .i64 x.1, .int .i64 x.2] 30 ∧ Blk W (w.heap.size + 1) #[.bool false] 4 ∧ Blk W (w.heap.size + 1 + 1) #[.int .i64 0] 34 ∧ W0.heap.size ≤ W.heap.size) ∧ Below w.heap.size w W)
    (fun c pre W => (c = .ret ∧ (∃ i, i ∈ pre ∧ cr (at' p i) (at' p ((i + 1) % p.length)) x < 0) ∧ Blk W (w.heap.size + 1) #[.bool false] 4 ∧ Blk W (w.heap.size + 1 + 1) #[.int .i64 0] 34) ∧ Below w.heap.size w W)
    (OwnFrom.and (Own.from (fun s A B row hs hg hr => ⟨hs.1, blk_own _ _ (fun _ => #[.int .i64 x.1, .int .i64 x.2]) s A B row hs.2.1 hg hr, blk_own _ _ (fun _ => #[.bool false]) s A B row hs.2.2.1 hg hr, blk_own _ _ (fun _ => #[.int .i64 0]) s A B row hs.2.2.2.1 hg hr, Nat.le_trans hs.2.2.2.2 hg.size⟩) _) (ownFrom_below (Nat.le_refl _) (by omega)))
    (fun c => OwnFrom.and (Own.from (fun s A B row hs hg hr => ⟨hs.1, hs.2.1, blk_own _ _ (fun _ => #[.bool false]) s A B row hs.2.2.1 hg hr, blk_own _ _ (fun _ => #[.int .i64 0]) s A B row hs.2.2.2 hg hr⟩) _) (ownFrom_below (Nat.le_refl _) (by omega)))
    ⟨⟨fun i hi => (by cases hi), kX, kB, kE, Nat.le_refl _⟩, G0⟩
    (fun i a' W => ∃ Bx By, w.heap.size + 1 + 1 < Bx ∧ Bx < By ∧ Blk W Bx #[.int .i64 (at' p i).1, .int .i64 (at' p i).2] 30 ∧ Blk W By #[.int .i64 (at' p ((i + 1) % p.length)).1, .int .i64 (at' p ((i + 1) % p.length)).2] 30 ∧ a' = { tmps := #[.slice (some ⟨b, o, none⟩) p.length c, .agg #[.int .i64 x.1, .int .i64 x.2], undef, .pointer (some ⟨w.heap.size, 0, none⟩), .pointer (some ⟨w.heap.size + 1, 0, none⟩), .pointer (some ⟨w.heap.size + 1 + 1, 0, none⟩), .pointer (some ⟨w3.heap.size, 0, none⟩), .pointer (some ⟨w3.heap.size + 1, 0, none⟩), .pointer (some ⟨Bx, 0, none⟩), .pointer (some ⟨By, 0, none⟩), .slice (some ⟨b, o, none⟩) p.length c, .bool true, .bool false, .bool false, .agg #[.int .i64 x.1, .int .i64 x.2], .bool true, .bool false, .bool false, .tuple #[.agg #[.int .i64 lo.1, .int .i64 lo.2], .agg #[.int .i64 hi.1, .int .i64 hi.2]], .slice (some ⟨b, o, none⟩) p.length c, .tuple #[.agg #[.int .i64 lo.1, .int .i64 lo.2], .agg #[.int .i64 hi.1, .int .i64 hi.2]], .agg #[.int .i64 lo.1, .int .i64 lo.2], .agg #[.int .i64 hi.1, .int .i64 hi.2], .pointer (some ⟨w.heap.size, 0, none⟩), .int .i64 x.1, .pointer (some ⟨w3.heap.size, 0, none⟩), .int .i64 lo.1, v1, v1, .pointer (some ⟨w.heap.size, 0, none⟩), .int .i64 x.1, .pointer (some ⟨w3.heap.size + 1, 0, none⟩), .int .i64 hi.1, v2, v3, v3, .pointer (some ⟨w.heap.size, 1, none⟩), .int .i64 x.2, .pointer (some ⟨w3.heap.size, 1, none⟩), .int .i64 lo.2, v4, v5, v5, .pointer (some ⟨w.heap.size, 1, none⟩), .int .i64 x.2, .pointer (some ⟨w3.heap.size + 1, 1, none⟩), .int .i64 hi.2, v6, v7, .slice (some ⟨b, o, none⟩) p.length c, .func (.func 73) #[] #[.pointer (some ⟨w3.heap.size + 1 + 1, 0, none⟩)], .agg #[.int .i64 (at' p i).1, .int .i64 (at' p i).2], .agg #[.int .i64 (at' p ((i + 1) % p.length)).1, .int .i64 (at' p ((i + 1) % p.length)).2], undef, undef, undef, undef, undef], defers := [] })
    (fun i a' _ X Y row hs hg hr => by
      obtain ⟨Bx, By, g1, g2, g3, g4, g5⟩ := hs
      exact ⟨Bx, By, g1, g2, blk_own _ _ (fun _ : Unit => #[.int .i64 (at' p i).1, .int .i64 (at' p i).2]) () X Y row g3 hg (fun r e => (hr r e).2), blk_own _ _ (fun _ : Unit => #[.int .i64 (at' p ((i + 1) % p.length)).1, .int .i64 (at' p ((i + 1) % p.length)).2]) () X Y row g4 hg (fun r e => (hr r e).2), g5⟩)
    ?assign ?body ?done ?stop
  case assign =>
    rintro l pre i W K ⟨⟨g1, g2, g3, g4, g5⟩, gB⟩ hK
    have hz := gB.size
    unfold ends
    gi_wp2
    have bX := (Blk.new W #[.int .i64 (at' p i).1, .int .i64 (at' p i).2] 30).alloc (.cells #[.int .i64 (at' p ((i + 1) % p.length)).1, .int .i64 (at' p ((i + 1) % p.length)).2] 30)
    have bY := Blk.new (W.alloc (.cells #[.int .i64 (at' p i).1, .int .i64 (at' p i).2] 30)) #[.int .i64 (at' p ((i + 1) % p.length)).1, .int .i64 (at' p ((i + 1) % p.length)).2] 30
    rw [World.size_alloc] at bY
    exact hK _ _ (((KeepsOthers.alloc _ _).trans (KeepsOthers.alloc _ _)).from _)
      (((Kept.refl _ _ W).grown (World.grownBy_alloc W _ none) (by omega) (by omega) (by simp)).grown (World.grownBy_alloc _ _ none) (by simp; omega) (by simp; omega) (by simp))
      ⟨⟨g1, (g2.alloc _).alloc _, (g3.alloc _).alloc _, (g4.alloc _).alloc _, by simp; omega⟩, (gB.alloc (by omega) _).alloc (by simp; omega) _⟩ ⟨W.heap.size, W.heap.size + 1, by omega, by omega, bX, bY, rfl⟩
  case body =>
    rintro l pre i a' W hl ⟨r0, hr0⟩ ⟨⟨g1, g2, g3, g4, g5⟩, gB⟩ ⟨Bx, By, hBx, hBy, bX, bY, rfl⟩ hlt
    have hz := gB.size
    obtain ⟨m, hm⟩ : ∃ m, (i + 1) % p.length = m := ⟨_, rfl⟩
    obtain ⟨z, hz0⟩ : ∃ z, cr (at' p i) (at' p m) x = z := ⟨_, rfl⟩
    have CZ := Lib.hid (show cr (at' p i) (at' p ((i + 1) % p.length)) x = z by rw [hm]; exact hz0)
    rw [hm] at bY ⊢
    have TC : Hid (∀ W, CallsIn (Fence.wide.inRound l) 2 Try.prog 48 #[.agg #[.int .i64 (at' p i).1, .int .i64 (at' p i).2], .agg #[.int .i64 (at' p m).1, .int .i64 (at' p m).2], .agg #[.int .i64 (x).1, .int .i64 (x).2]] W fun e w' => e = .returned (.int .i64 z) ∧ ((W.alloc (.cells #[.int .i64 (at' p i).1, .int .i64 (at' p i).2] 30)).alloc (.cells #[.int .i64 (at' p m).1, .int .i64 (at' p m).2] 30)).alloc (.cells #[.int .i64 (x).1, .int .i64 (x).2] 30) = w') := Lib.hid (fun W => CallsIn.inRound l (callsIn_wide.2 (by
      have h := turn_c (at' p i) (at' p m) x W (at_plc PL.out _) (at_plc PL.out _) hx
      rwa [hz0] at h)))
    have G1 := Lib.hid g1
    clear hm hz0 g1
    obtain ⟨⟨x0, x1⟩, _, _⟩ := bX.two
    obtain ⟨⟨y0, y1⟩, _, _⟩ := bY.two
    obtain ⟨⟨p0, p1⟩, q0, q1⟩ := g2.two
    obtain ⟨f0, f1⟩ := g3.one
    obtain ⟨t0, t1⟩ := g4.one
    have lX := bX.lt
    have lY := bY.lt
    have l0 : w.heap.size < W.heap.size := by omega
    have l1 : w.heap.size + 1 < W.heap.size := by omega
    have l2 : w.heap.size + 1 + 1 < W.heap.size := by omega
    have lX_1 : Bx < W.heap.size + 1 := by omega
    have lX_2 : Bx < W.heap.size + 1 + 1 := by omega
    have lX_3 : Bx < W.heap.size + 1 + 1 + 1 := by omega
    have lY_1 : By < W.heap.size + 1 := by omega
    have lY_2 : By < W.heap.size + 1 + 1 := by omega
    have lY_3 : By < W.heap.size + 1 + 1 + 1 := by omega
    have l0_1 : w.heap.size < W.heap.size + 1 := by omega
    have l0_2 : w.heap.size < W.heap.size + 1 + 1 := by omega
    have l0_3 : w.heap.size < W.heap.size + 1 + 1 + 1 := by omega
    have l1_1 : w.heap.size + 1 < W.heap.size + 1 := by omega
    have l1_2 : w.heap.size + 1 < W.heap.size + 1 + 1 := by omega
    have l1_3 : w.heap.size + 1 < W.heap.size + 1 + 1 + 1 := by omega
    have l2_1 : w.heap.size + 1 + 1 < W.heap.size + 1 := by omega
    have l2_2 : w.heap.size + 1 + 1 < W.heap.size + 1 + 1 := by omega
    have l2_3 : w.heap.size + 1 + 1 < W.heap.size + 1 + 1 + 1 := by omega
    by_cases ht : z < 0
    · gi_wp2_with (refine ⟨trivial, ?_⟩; gi_at_call 48; refine (TC.out _).mono ?_; rintro e w' ⟨rfl, rfl⟩)
      refine ⟨KeepsOthers.from (by (repeat' (first | (with_reducible exact KeepsOthers.refl _) | (with_reducible refine KeepsOthers.trans ?_ (KeepsOthers.alloc _ _)) | (with_reducible refine KeepsOthers.trans ?_ (KeepsOthers.setCell _ _ _))))) _, ⟨rfl, ⟨i, List.mem_append.2 (Or.inr (List.mem_singleton.2 rfl)), by rw [CZ.out]; exact ht⟩, ?_, ?_⟩, ?_⟩
      · repeat' (first | (with_reducible assumption) | (with_reducible refine Blk.alloc ?_ _) | (with_reducible refine Blk.other ?_ (by omega) _) | (with_reducible exact Blk.put0 (by repeat' (first | (with_reducible assumption) | (with_reducible refine Blk.other ?_ (by omega) _)))))
      · repeat' (first | (with_reducible assumption) | (with_reducible refine Blk.alloc ?_ _) | (with_reducible refine Blk.other ?_ (by omega) _) | (with_reducible exact Blk.put0 (by repeat' (first | (with_reducible assumption) | (with_reducible refine Blk.other ?_ (by omega) _)))))
      · repeat' (first | (with_reducible assumption) | (with_reducible refine Below.alloc ?_ (by first | omega | (simp; omega)) _) | (with_reducible refine Below.setCell ?_ (by first | omega | (simp; done) | (simp; omega)) _))
    · gi_wp2_with (refine ⟨trivial, ?_⟩; gi_at_call 48; refine (TC.out _).mono ?_; rintro e w' ⟨rfl, rfl⟩)
      refine ⟨KeepsOthers.from (by (repeat' (first | (with_reducible exact KeepsOthers.refl _) | (with_reducible refine KeepsOthers.trans ?_ (KeepsOthers.alloc _ _)) | (with_reducible refine KeepsOthers.trans ?_ (KeepsOthers.setCell _ _ _))))) _, ?_, ⟨⟨fun j hj => ?_, ?_, ?_, ?_, ?_⟩, ?_⟩⟩
      · repeat' (first | (with_reducible exact Kept.refl _ _ _) | (with_reducible refine Kept.alloc ?_ ?_ ?_ _) | (with_reducible refine Kept.setCell ?_ ?_ ?_ _) | omega | (simp; omega))
      · rcases List.mem_append.1 hj with h | h
        · exact G1.out j h
        · rw [List.mem_singleton.1 h, CZ.out]; omega
      · repeat' (first | (with_reducible assumption) | (with_reducible refine Blk.alloc ?_ _) | (with_reducible refine Blk.other ?_ (by omega) _) | (with_reducible exact Blk.put0 (by repeat' (first | (with_reducible assumption) | (with_reducible refine Blk.other ?_ (by omega) _)))))
      · repeat' (first | (with_reducible assumption) | (with_reducible refine Blk.alloc ?_ _) | (with_reducible refine Blk.other ?_ (by omega) _) | (with_reducible exact Blk.put0 (by repeat' (first | (with_reducible assumption) | (with_reducible refine Blk.other ?_ (by omega) _)))))
      · repeat' (first | (with_reducible assumption) | (with_reducible refine Blk.alloc ?_ _) | (with_reducible refine Blk.other ?_ (by omega) _) | (with_reducible exact Blk.put0 (by repeat' (first | (with_reducible assumption) | (with_reducible refine Blk.other ?_ (by omega) _)))))
      · simp; omega
      · repeat' (first | (with_reducible assumption) | (with_reducible refine Below.alloc ?_ (by first | omega | (simp; omega)) _) | (with_reducible refine Below.setCell ?_ (by first | omega | (simp; done) | (simp; omega)) _))
  case done =>
    rintro D ys W hD rfl ⟨⟨g1, g2, g3, g4, g5⟩, gB⟩ hK
    have hH := HB.out.2 ⟨INB.out, fun i hi => g1 i (List.mem_range.2 hi)⟩
    obtain ⟨r0, r1⟩ := g3.one
    obtain ⟨e0, e1⟩ := g4.one
    gi_wp2
    have k3 : Blk ((W.setCell ⟨w.heap.size + 1, 0, none⟩ (.bool true)).setCell ⟨w.heap.size + 1 + 1, 0, none⟩ (.int .i64 0)) (w.heap.size + 1) #[.bool true] 4 := g3.put0.other (by omega) _
    have k4 : Blk ((W.setCell ⟨w.heap.size + 1, 0, none⟩ (.bool true)).setCell ⟨w.heap.size + 1 + 1, 0, none⟩ (.int .i64 0)) (w.heap.size + 1 + 1) #[.int .i64 0] 34 := (g4.other (by omega) _).put0
    have hK' := ((KeepsOthers.setCell W ⟨w.heap.size + 1, 0, none⟩ (.bool true)).trans (KeepsOthers.setCell _ ⟨w.heap.size + 1 + 1, 0, none⟩ (.int .i64 0))).same D _ hK rfl
    refine ⟨by simp, .inl ⟨_, _, rfl, run_takeDeferred hK', ?_⟩⟩
    have c3 := cell_kept k3.one.1 (grownBy_putObj' _ D (.deferred none)) (fun r e => by cases e; exact ⟨_, hK', rfl⟩)
    have c4 := cell_kept k4.one.1 (grownBy_putObj' _ D (.deferred none)) (fun r e => by cases e; exact ⟨_, hK', rfl⟩)
    refine ⟨.tuple #[.bool true, .int .i64 0], ?_, ⟨true, rfl, ⟨fun _ => hH, fun _ => rfl⟩, ((gB.setCell (p := ⟨w.heap.size + 1, 0, none⟩) (by simp) _).setCell (p := ⟨w.heap.size + 1 + 1, 0, none⟩) (by simp; omega) _).trans (belowK_b (w := w) (Nat.le_refl _) _ D _ _ (by have := G0.size; omega) hK' rfl rfl)⟩⟩
    simp [results, Try.results22, go_sem, c3, c4]
  case stop =>
    rintro D c pre W hD ⟨k, hk, rfl⟩ ⟨⟨rfl, ⟨i, hi, hz⟩, g3, g4⟩, gB⟩ hK
    have hH : ¬ Hs p x := fun h => by
      have := (HB.out.1 h).2 i (by have := List.mem_range.1 hi; omega)
      omega
    gi_wp2
    refine ⟨by simp, .inl ⟨_, _, rfl, run_takeDeferred hK, ?_⟩⟩
    have c3 := cell_kept g3.one.1 (grownBy_putObj' _ D (.deferred none)) (fun r e => by cases e; exact ⟨_, hK, rfl⟩)
    have c4 := cell_kept g4.one.1 (grownBy_putObj' _ D (.deferred none)) (fun r e => by cases e; exact ⟨_, hK, rfl⟩)
    refine ⟨.tuple #[.bool false, .int .i64 0], ?_, OUT.out _ (gB.trans (belowK_b (w := w) (Nat.le_refl _) W D _ _ (by have := G0.size; omega) hK rfl rfl)) hH⟩
    simp [results, Try.results22, go_sem, c3, c4]
end Hl
end Go.Proofs.Ytpiajdahmcelnaa
