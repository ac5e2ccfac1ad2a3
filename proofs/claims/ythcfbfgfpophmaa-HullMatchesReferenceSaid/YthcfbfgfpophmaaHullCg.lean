/-
  The landed Area.
-/
import Derived.Test.YthcfbfgfpophmaaHullCd
import Derived.Test.YthcfbfgfpophmaaHullBar
namespace Go.Proofs.Ythcfbfgfpophmaa
open Go.RowKit Go.Shelf
attribute [local go_sem] Oper.semAt_some
namespace Hl
def sumA (p : List Pt) (pre : List Nat) : Int := pre.foldl (fun s i => s + cr (at' p 0) (at' p i) (at' p ((i + 1) % p.length))) 0
theorem sumA_snoc (p : List Pt) (pre : List Nat) (i : Nat) : sumA p (pre ++ [i]) = sumA p pre + cr (at' p 0) (at' p i) (at' p ((i + 1) % p.length)) := by
  unfold sumA
  rw [List.foldl_append]
  rfl
theorem cr_small {x y z : Pt} (hx : Plc x) (hy : Plc y) (hz : Plc z) : -2000000000000 ≤ cr x y z ∧ cr x y z ≤ 2000000000000 := by
  obtain ⟨⟨m0, m1⟩, ⟨m2, m3⟩⟩ := cr_bd hx hy hz
  unfold cr
  omega
theorem sumA_bd {p : List Pt} (hp : Plcs p) (n : Nat) : ∀ pre : List Nat, pre.length ≤ n → -2000000000000 * (n : Int) ≤ sumA p pre ∧ sumA p pre ≤ 2000000000000 * (n : Int) := by
  induction n with
  | zero =>
    intro pre h
    obtain rfl : pre = [] := List.length_eq_zero_iff.1 (by omega)
    exact ⟨Int.le_refl _, Int.le_refl _⟩
  | succ n ih =>
    intro pre h
    rcases List.eq_nil_or_concat pre with rfl | ⟨a, i, rfl⟩
    · have e : sumA p [] = 0 := rfl
      rw [e]
      omega
    · rw [List.concat_eq_append] at h ⊢
      rw [sumA_snoc]
      have h1 := ih a (by simp at h; omega)
      have h2 := cr_small (at_plc hp 0) (at_plc hp i) (at_plc hp ((i + 1) % p.length))
      omega
theorem sumA_sum (p : List Pt) : ∀ k, sumA p (List.range k) = sumN (fun i => cr (at' p i) (at' p ((i + 1) % p.length)) (at' p 0)) k
  | 0 => rfl
  | k + 1 => by
    rw [List.range_succ, sumA_snoc, sumA_sum p k, cr_rot]
    rfl
theorem sumA_area {p : List Pt} (h1 : 1 ≤ p.length) : sumA p (List.range p.length) = area p.length (at' p) := by
  rw [sumA_sum]
  exact shoelace h1 (at' p) (at' p 0)
theorem Kept.drew {b B : Nat} {X Y : World} (h : Kept b B X Y) : Kept b B X Y.drew := h

set_option maxRecDepth 100000 in
set_option maxHeartbeats 4000000 in
theorem area_c (p : List Pt) (b o c : Nat) (w : World) (hr : Row w b o p) (hv : Vl p) :
    Calls Try.prog 23 #[.slice (some ⟨b, o, none⟩) p.length c] w fun e w' => e = .returned (.tuple #[.int .i64 (area p.length (at' p)), .int .i64 0]) ∧ Grew w w' := by
  have HR := Lib.hid hr
  have PL := Lib.hid hv.2.1
  have L64 : p.length ≤ 64 := hv.1.2
  have L1 : 1 ≤ p.length := hv.1.1
  have VC : Hid (∀ n W, Grew w W → CallsIn Fence.wide n Try.prog 15 #[.slice (some ⟨b, o, none⟩) p.length c] W fun e w' => e = .returned (.bool true) ∧ Grew W w') := Lib.hid (fun n W g => callsIn_wide.2 ((valid_c p _ W (Or.inr ⟨b, o, c, rfl, hr.grown g⟩) (by omega)).mono (by
    rintro e w' ⟨r, rfl, h, g⟩
    rw [h.2 hv]
    exact ⟨rfl, g⟩)))
  have hb := hr.1
  clear hr hv
  have G0 : Grew w (w.alloc (.cells #[.slice (some ⟨b, o, none⟩) p.length c] 22)) := (Grew.refl w).alloc _ _
  have PB := Lib.hid (Blk.new w #[.slice (some ⟨b, o, none⟩) p.length c] 22)
  have G0 := Lib.hid G0
  refine (callsIn_wide (n := 5)).1 ?_
  refine callsIn_of_wp_marks Try.func23 rfl trivial ?_ rfl
  simp only [Try.ntmps23, List.size_toArray, List.length_cons, List.length_nil, Nat.reduceAdd, Nat.reduceSub, Array.replicate_succ, Array.replicate_zero, List.push_toArray, List.append_toArray, List.nil_append, List.cons_append]
  gi_wp2_with fail
  refine ⟨trivial, (VC.out _ _ G0.out).mono ?_⟩
  rintro e w1 ⟨rfl, g1⟩
  have kP := PB.out.grown g1
  have GW : Grew w w1 := G0.out.trans g1
  clear g1 VC PB G0
  obtain ⟨x0, x1⟩ := kP.one
  have lP := kP.lt
  have lP1 : w.heap.size < w1.heap.size + 1 := by omega
  gi_wp2_with fail
  refine ⟨trivial, (sides_in 4 _ _ _ _).mono ?_⟩
  rintro e w2 ⟨rfl, rfl⟩
  gi_wp2_with fail
  have kP := (kP.alloc (.cells #[.int .i64 0] 3)).alloc (.cells #[.slice (some ⟨b, o, none⟩) p.length c] 22)
  have kA := (Blk.new w1 #[.int .i64 0] 3).alloc (.cells #[.slice (some ⟨b, o, none⟩) p.length c] 22)
  have G0 : Below w.heap.size w ((w1.alloc (.cells #[.int .i64 0] 3)).alloc (.cells #[.slice (some ⟨b, o, none⟩) p.length c] 22)) := (GW.alloc _ _).alloc _ _
  have hsz : ((w1.alloc (.cells #[.int .i64 0] 3)).alloc (.cells #[.slice (some ⟨b, o, none⟩) p.length c] 22)).heap.size = w1.heap.size + 1 + 1 := by simp
  have kS : ((w1.alloc (.cells #[.int .i64 0] 3)).alloc (.cells #[.slice (some ⟨b, o, none⟩) p.length c] 22)).cell? ⟨w1.heap.size + 1, 0, none⟩ = some (.slice (some ⟨b, o, none⟩) p.length c) := by simp [go_sem]
  obtain ⟨W0, hW0⟩ : ∃ W0, (w1.alloc (.cells #[.int .i64 0] 3)).alloc (.cells #[.slice (some ⟨b, o, none⟩) p.length c] 22) = W0 := ⟨_, rfl⟩
  rw [hW0] at kP kA G0 hsz kS ⊢
  have hR0 := HR.out.grown G0
  clear hW0 x0 x1 lP1
  refine wpIn_rangeFunc_ownH rfl (by omega) (gf := 57) (lb := #[.pointer (some ⟨w1.heap.size + 1, 0, none⟩)]) rfl trivial (enters_of Try.func57 (by kernel_rfl) rfl)
    (sides_stops 4 (by omega) (w1.heap.size + 1) b o c p L1 (by omega) W0 (by omega) kS hR0) Kept.trans (kept_b (by omega) (by omega)) (Below.refl _ _) (fun _ => rfl)
    (fun pre W => (Blk W w1.heap.size #[.int .i64 (sumA p pre)] 3 ∧ Blk W w.heap.size #[.slice (some ⟨b, o, none⟩) p.length c] 22 ∧ W0.heap.size ≤ W.heap.size) ∧ Below w.heap.size w W)
    (fun _ _ _ => False)
    (OwnFrom.and (Own.from (fun s A B row hs hg hr => ⟨blk_own _ _ (fun s => #[.int .i64 (sumA p s)]) s A B row hs.1 hg hr, blk_own _ _ (fun _ => #[.slice (some ⟨b, o, none⟩) p.length c]) s A B row hs.2.1 hg hr, Nat.le_trans hs.2.2 hg.size⟩) _) (ownFrom_below (Nat.le_refl _) (by omega)))
    (fun _ _ _ _ _ hs _ _ => hs)
    ⟨⟨kA, kP, Nat.le_refl _⟩, G0⟩
    (fun i a' W => ∃ Bx By, w1.heap.size < Bx ∧ Bx < By ∧ Blk W Bx #[.int .i64 (at' p i).1, .int .i64 (at' p i).2] 24 ∧ Blk W By #[.int .i64 (at' p ((i + 1) % p.length)).1, .int .i64 (at' p ((i + 1) % p.length)).2] 24 ∧ a' = { tmps := #[.slice (some ⟨b, o, none⟩) p.length c, .pointer (some ⟨w.heap.size, 0, none⟩), .int .i64 0, .int .i64 0, .pointer (some ⟨w1.heap.size, 0, none⟩), .pointer (some ⟨Bx, 0, none⟩), .pointer (some ⟨By, 0, none⟩), .slice (some ⟨b, o, none⟩) p.length c, .bool true, .bool false, .slice (some ⟨b, o, none⟩) p.length c, .func (.func 57) #[] #[.pointer (some ⟨w1.heap.size + 1, 0, none⟩)], .agg #[.int .i64 (at' p i).1, .int .i64 (at' p i).2], .agg #[.int .i64 (at' p ((i + 1) % p.length)).1, .int .i64 (at' p ((i + 1) % p.length)).2], undef, undef, undef, undef, undef, undef, undef, undef, undef], defers := [] })
    (fun i a' _ X Y row hs hg hr => by
      obtain ⟨Bx, By, g1, g2, g3, g4, g5⟩ := hs
      exact ⟨Bx, By, g1, g2, blk_own _ _ (fun _ : Unit => #[.int .i64 (at' p i).1, .int .i64 (at' p i).2]) () X Y row g3 hg (fun r e => (hr r e).2), blk_own _ _ (fun _ : Unit => #[.int .i64 (at' p ((i + 1) % p.length)).1, .int .i64 (at' p ((i + 1) % p.length)).2]) () X Y row g4 hg (fun r e => (hr r e).2), g5⟩)
    ?assign ?body ?done ?stop
  case assign =>
    rintro l pre i W K ⟨⟨g1, g2, g5⟩, gB⟩ hK
    have hz := gB.size
    unfold ends
    gi_wp2
    have bX := (Blk.new W #[.int .i64 (at' p i).1, .int .i64 (at' p i).2] 24).alloc (.cells #[.int .i64 (at' p ((i + 1) % p.length)).1, .int .i64 (at' p ((i + 1) % p.length)).2] 24)
    have bY := Blk.new (W.alloc (.cells #[.int .i64 (at' p i).1, .int .i64 (at' p i).2] 24)) #[.int .i64 (at' p ((i + 1) % p.length)).1, .int .i64 (at' p ((i + 1) % p.length)).2] 24
    rw [World.size_alloc] at bY
    exact hK _ _ (((KeepsOthers.alloc _ _).trans (KeepsOthers.alloc _ _)).from _)
      (((Kept.refl _ _ W).alloc (by omega) (by omega) _).alloc (by simp; omega) (by simp; omega) _)
      ⟨⟨(g1.alloc _).alloc _, (g2.alloc _).alloc _, by simp; omega⟩, (gB.alloc (by omega) _).alloc (by simp; omega) _⟩ ⟨W.heap.size, W.heap.size + 1, by omega, by omega, bX, bY, rfl⟩
  case body =>
    rintro l pre i a' W hl ⟨r0, hr0⟩ ⟨⟨g1, g2, g5⟩, gB⟩ ⟨Bx, By, hBx, hBy, bX, bY, rfl⟩ hlt
    have hz := gB.size
    obtain ⟨m, hm⟩ : ∃ m, (i + 1) % p.length = m := ⟨_, rfl⟩
    obtain ⟨z, hz0⟩ : ∃ z, cr (at' p 0) (at' p i) (at' p m) = z := ⟨_, rfl⟩
    obtain ⟨s, hs0⟩ : ∃ s, sumA p pre = s := ⟨_, rfl⟩
    have SN := Lib.hid (show sumA p (pre ++ [i]) = s + z by rw [sumA_snoc, hm, hz0, hs0])
    obtain ⟨z1, z2⟩ := cr_small (at_plc PL.out 0) (at_plc PL.out i) (at_plc PL.out m)
    obtain ⟨s1, s2⟩ := sumA_bd PL.out 64 pre (by omega)
    rw [hz0] at z1 z2
    rw [hs0] at s1 s2 g1
    rw [hm] at bY ⊢
    have TC : Hid (∀ W, Calls Try.prog 40 #[.agg #[.int .i64 (at' p 0).1, .int .i64 (at' p 0).2], .agg #[.int .i64 (at' p i).1, .int .i64 (at' p i).2], .agg #[.int .i64 (at' p m).1, .int .i64 (at' p m).2]] W fun e w' => e = .returned (.int .i64 z) ∧ ((W.alloc (.cells #[.int .i64 (at' p 0).1, .int .i64 (at' p 0).2] 24)).alloc (.cells #[.int .i64 (at' p i).1, .int .i64 (at' p i).2] 24)).alloc (.cells #[.int .i64 (at' p m).1, .int .i64 (at' p m).2] 24) = w') := Lib.hid (fun W => by
      have h := turn_c (at' p 0) (at' p i) (at' p m) W (at_plc PL.out _) (at_plc PL.out _) (at_plc PL.out _)
      rwa [hz0] at h)
    have W64 : IntKind.i64.wrap (s + z) = s + z := IntWalk.i64_in _ ⟨by omega, by omega⟩
    clear hm hz0 hs0
    have hRW := HR.out.grown gB
    obtain ⟨c0, c1⟩ := hRW.2 0 (by omega)
    rw [Nat.zero_mul, Nat.add_zero] at c0 c1
    obtain ⟨⟨x0, x1⟩, _, _⟩ := bX.two
    obtain ⟨⟨y0, y1⟩, _, _⟩ := bY.two
    obtain ⟨p0, p1⟩ := g1.one
    obtain ⟨f0, f1⟩ := g2.one
    have lX := bX.lt
    have lY := bY.lt
    have i0 : (0 : Int) < (p.length : Int) := by omega
    have i1 : 0 < p.length := by omega
    have z1n : ¬ w1.heap.size = w.heap.size := by omega
    have z2n : ¬ w.heap.size = w1.heap.size := by omega
    have lX_0 : Bx < W.heap.size := by omega
    have lX_1 : Bx < W.heap.size + 1 := by omega
    have lX_2 : Bx < W.heap.size + 1 + 1 := by omega
    have lX_3 : Bx < W.heap.size + 1 + 1 + 1 := by omega
    have lY_0 : By < W.heap.size := by omega
    have lY_1 : By < W.heap.size + 1 := by omega
    have lY_2 : By < W.heap.size + 1 + 1 := by omega
    have lY_3 : By < W.heap.size + 1 + 1 + 1 := by omega
    have l0_0 : w.heap.size < W.heap.size := by omega
    have l0_1 : w.heap.size < W.heap.size + 1 := by omega
    have l0_2 : w.heap.size < W.heap.size + 1 + 1 := by omega
    have l0_3 : w.heap.size < W.heap.size + 1 + 1 + 1 := by omega
    have l1_0 : w1.heap.size < W.heap.size := by omega
    have l1_1 : w1.heap.size < W.heap.size + 1 := by omega
    have l1_2 : w1.heap.size < W.heap.size + 1 + 1 := by omega
    have l1_3 : w1.heap.size < W.heap.size + 1 + 1 + 1 := by omega
    have lb_0 : b < W.heap.size := by omega
    have lb_1 : b < W.heap.size + 1 := by omega
    have lb_2 : b < W.heap.size + 1 + 1 := by omega
    have lb_3 : b < W.heap.size + 1 + 1 + 1 := by omega
    gi_wp2_with fail
    refine Bar.begin_round (S := (fun w' => (w'.cell? ⟨w1.heap.size, 0, none⟩ = some (.int .i64 s) ∧ w'.frozen? ⟨w1.heap.size, 0, none⟩ = false) ∧ w'.cell? ⟨w.heap.size, 0, none⟩ = some (.slice (some ⟨b, o, none⟩) p.length c) ∧ (w'.cell? ⟨b, o, none⟩ = some (.int .i64 (at' p 0).1) ∧ w'.cell? ⟨b, o + 1, none⟩ = some (.int .i64 (at' p 0).2)) ∧ (w'.cell? ⟨Bx, 0, none⟩ = some (.int .i64 (at' p i).1) ∧ w'.cell? ⟨Bx, 1, none⟩ = some (.int .i64 (at' p i).2)) ∧ (w'.cell? ⟨By, 0, none⟩ = some (.int .i64 (at' p m).1) ∧ w'.cell? ⟨By, 1, none⟩ = some (.int .i64 (at' p m).2)))) 8 (by kernel_rfl) (by kernel_rfl) (by simp [go_sem, *]) (fun hHeld => ?_)
    refine Bar.Walk.take [8] (i := 0) (oi := ⟨some 14, _, _, _, _, _⟩) (v := ?_) rfl (by kernel_rfl) (by kernel_rfl) (by kernel_rfl) (by kernel_rfl) (fun _ _ _ h => h) (Or.inl ⟨by rfl, ?_⟩) (by assumption) ?_
    rotate_left
    · intro w hSw; (try dsimp only at hSw); go_simp; (try with_reducible rfl)
    try simp only [Act.put, List.setIfInBounds_toArray, List.set_cons_zero, List.set_cons_succ]
    refine Bar.Walk.take [8] (i := 1) (oi := ⟨some 15, _, _, _, _, _⟩) (v := ?_) rfl (by kernel_rfl) (by kernel_rfl) (by kernel_rfl) (by kernel_rfl) (fun _ _ _ h => h) (Or.inl ⟨by rfl, ?_⟩) (by assumption) ?_
    rotate_left
    · intro w hSw; (try dsimp only at hSw); go_simp; (try with_reducible rfl)
    try simp only [Act.put, List.setIfInBounds_toArray, List.set_cons_zero, List.set_cons_succ]
    refine Bar.Walk.takeY (i := 2) (oi := ⟨some 16, _, _, _, _, _⟩) (v := ?_) rfl (by kernel_rfl) (by kernel_rfl) (by kernel_rfl) rfl (fun _ _ _ h => h) (Or.inl ⟨by rfl, ?_⟩) (by assumption) ?_
    rotate_left
    · intro w; go_simp; (try with_reducible rfl)
    try simp only [Act.put, List.setIfInBounds_toArray, List.set_cons_zero, List.set_cons_succ]
    refine Bar.Walk.take [8] (i := 3) (oi := ⟨some 17, _, _, _, _, _⟩) (v := ?_) rfl (by kernel_rfl) (by kernel_rfl) (by kernel_rfl) (by kernel_rfl) (fun _ _ _ h => h) (Or.inl ⟨by rfl, ?_⟩) (by assumption) ?_
    rotate_left
    · intro w hSw; (try dsimp only at hSw); go_simp; (try with_reducible rfl)
    try simp only [Act.put, List.setIfInBounds_toArray, List.set_cons_zero, List.set_cons_succ]
    refine Bar.Walk.take [8] (i := 4) (oi := ⟨some 18, _, _, _, _, _⟩) (v := ?_) rfl (by kernel_rfl) (by kernel_rfl) (by kernel_rfl) (by kernel_rfl) (fun _ _ _ h => h) (Or.inl ⟨by rfl, ?_⟩) (by assumption) ?_
    rotate_left
    · intro w hSw; (try dsimp only at hSw); go_simp; (try with_reducible rfl)
    try simp only [Act.put, List.setIfInBounds_toArray, List.set_cons_zero, List.set_cons_succ]
    refine Bar.Walk.take [8] (i := 5) (oi := ⟨some 19, _, _, _, _, _⟩) (v := ?_) rfl (by kernel_rfl) (by kernel_rfl) (by kernel_rfl) (by kernel_rfl) (fun _ _ _ h => h) (Or.inl ⟨by rfl, ?_⟩) (by assumption) ?_
    rotate_left
    · intro w hSw; (try dsimp only at hSw); go_simp; (try with_reducible rfl)
    try simp only [Act.put, List.setIfInBounds_toArray, List.set_cons_zero, List.set_cons_succ]
    refine Bar.Walk.step (i := 6) (o := ⟨some 20, _, _, _, _, _⟩) (by kernel_rfl) rfl (fun K hK => ?_)
    go_simp
    refine (TC.out _).mono ?_
    rintro e w' ⟨rfl, rfl⟩
    go_wp2_with fail
    refine hK.out _ _ (by (try dsimp only); simp [go_sem, *]) (fun h1 => ?_)
    clear hK K hHeld
    have hHeld := h1
    clear h1
    try simp only [Act.put, List.setIfInBounds_toArray, List.set_cons_zero, List.set_cons_succ]
    refine Bar.Walk.takeY (i := 7) (oi := ⟨some 21, _, _, _, _, _⟩) (v := ?_) rfl (by kernel_rfl) (by kernel_rfl) (by kernel_rfl) rfl (fun _ _ _ h => h) (Or.inl ⟨by rfl, ?_⟩) (by assumption) ?_
    rotate_left
    · intro w; go_simp; (try with_reducible rfl)
    try simp only [Act.put, List.setIfInBounds_toArray, List.set_cons_zero, List.set_cons_succ]
    refine Bar.Walk.pass (o := ⟨none, _, _, _, _, _⟩) (by kernel_rfl) rfl (by kernel_rfl) (fun K hK => ?_)
    go_simp
    refine hK.out _ _ ?_
    clear hK K hHeld
    try simp only [Act.put, List.setIfInBounds_toArray, List.set_cons_zero, List.set_cons_succ]
    refine wpAny_done (by kernel_rfl) ?_ _
    refine Bar.Only.out ?_
    gi_wp2_with fail
    refine ⟨KeepsOthers.from (by (repeat' (first | (with_reducible exact KeepsOthers.refl _) | (with_reducible exact KeepsOthers.drew _) | (with_reducible refine KeepsOthers.trans ?_ (KeepsOthers.drew _)) | (with_reducible refine KeepsOthers.trans ?_ (KeepsOthers.alloc _ _)) | (with_reducible refine KeepsOthers.trans ?_ (KeepsOthers.setCell _ _ _))))) _, ?_, ⟨⟨?_, ?_, ?_⟩, ?_⟩⟩
    · repeat' (first | (with_reducible exact Kept.refl _ _ _) | (with_reducible refine Kept.drew ?_) | (with_reducible refine Kept.alloc ?_ ?_ ?_ _) | (with_reducible refine Kept.setCell ?_ ?_ ?_ _) | omega | (simp; omega))
    · rw [SN.out]
      repeat' (first | (with_reducible assumption) | (with_reducible refine Blk.alloc ?_ _) | (with_reducible refine Blk.drew ?_) | (with_reducible refine Blk.other ?_ (by omega) _) | (with_reducible exact Blk.put0 (by repeat' (first | (with_reducible assumption) | (with_reducible refine Blk.other ?_ (by omega) _)))))
    · repeat' (first | (with_reducible assumption) | (with_reducible refine Blk.alloc ?_ _) | (with_reducible refine Blk.drew ?_) | (with_reducible refine Blk.other ?_ (by omega) _) | (with_reducible exact Blk.put0 (by repeat' (first | (with_reducible assumption) | (with_reducible refine Blk.other ?_ (by omega) _)))))
    · simp; omega
    · repeat' (first | (with_reducible assumption) | (with_reducible refine Below.alloc ?_ (by first | omega | (simp; omega)) _) | (with_reducible refine Below.drew ?_) | (with_reducible refine Below.setCell ?_ (by first | omega | (simp; done) | (simp; omega)) _))
  case done =>
    rintro D ys W hD rfl ⟨⟨g1, g2, g5⟩, gB⟩ hK
    rw [sumA_area L1] at g1
    obtain ⟨r0, r1⟩ := g1.one
    gi_wp2
    refine ⟨by simp, .inl ⟨_, _, rfl, run_takeDeferred hK, ?_⟩⟩
    refine ⟨.tuple #[.int .i64 (area p.length (at' p)), .int .i64 0], ?_, rfl, gB.trans (belowK_b (w := w) (Nat.le_refl _) W D _ _ (by have := G0.size; omega) hK rfl rfl)⟩
    simp [results, Try.results23, go_sem]
  case stop =>
    rintro D c pre W _ _ h _
    exact h.elim
end Hl
end Go.Proofs.Ythcfbfgfpophmaa
