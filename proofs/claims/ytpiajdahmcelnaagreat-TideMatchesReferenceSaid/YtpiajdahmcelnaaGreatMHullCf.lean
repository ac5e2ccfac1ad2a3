/-
  The landed goesAround.
-/
import Derived.Test.YtpiajdahmcelnaaGreatMHullCm
import Derived.Test.YtpiajdahmcelnaaGreatMHullCe
namespace Go.Proofs.YtpiajdahmcelnaaGreat
open Go.RowKit Go.Shelf
attribute [local go_sem] Oper.semAt_some
namespace Hl
/-- The corner before, whether the last side falls, whether all is well so far. -/
def stB (p : List Pt) (pre : List Nat) : Pt × Bool × Bool :=
  pre.foldl (fun s i => (at' p i, !decide (Rise p i), s.2.2 && (decide (0 < cr s.1 (at' p i) (at' p ((i + 1) % p.length))) && !(decide (Rise p i) && s.2.1)))) (at' p (p.length - 1), false, true)
theorem stB_snoc (p : List Pt) (pre : List Nat) (i : Nat) : stB p (pre ++ [i]) = (at' p i, !decide (Rise p i), (stB p pre).2.2 && (decide (0 < cr (stB p pre).1 (at' p i) (at' p ((i + 1) % p.length))) && !(decide (Rise p i) && (stB p pre).2.1))) := by
  unfold stB
  rw [List.foldl_append]
  rfl
theorem at_plc {p : List Pt} (h : Plcs p) (i : Nat) : Plc (at' p i) := by
  by_cases hi : i < p.length
  · exact h i hi
  · have e : at' p i = (0, 0) := by
      unfold at'
      simp [List.getD, List.getElem?_eq_none (show p.length ≤ i by omega)]
    rw [e]
    unfold Plc
    simp
theorem stB_plc {p : List Pt} (h : Plcs p) (pre : List Nat) : Plc (stB p pre).1 := by
  rcases List.eq_nil_or_concat pre with rfl | ⟨a, i, rfl⟩
  · exact at_plc h _
  · rw [List.concat_eq_append, stB_snoc]; exact at_plc h _
theorem stB_range {p : List Pt} (h3 : 3 ≤ p.length) : ∀ k, k ≤ p.length → (stB p (List.range k)).1 = at' p (pv p.length k) ∧ ((stB p (List.range k)).2.1 = true ↔ k ≠ 0 ∧ ¬ Rise p (k - 1)) ∧
    ((stB p (List.range k)).2.2 = true ↔ ∀ i, i < k → 0 < cr (at' p (pv p.length i)) (at' p i) (at' p ((i + 1) % p.length)) ∧ (Rise p i → i = 0 ∨ Rise p (i - 1))) := by
  intro k
  induction k with
  | zero =>
    intro _
    refine ⟨?_, ⟨fun h => (by cases h), fun h => absurd rfl h.1⟩, ⟨fun _ i hi => absurd hi (Nat.not_lt_zero _), fun _ => rfl⟩⟩
    show at' p (p.length - 1) = _
    unfold pv
    rw [Nat.zero_add, Nat.mod_eq_of_lt (by omega)]
  | succ k ih =>
    intro hk
    obtain ⟨h1, h2, h4⟩ := ih (by omega)
    rw [List.range_succ, stB_snoc]
    refine ⟨?_, ?_, ?_⟩
    · by_cases e : k + 1 < p.length
      · rw [pv_succ e]
      · obtain e : k + 1 = p.length := by omega
        unfold pv
        rw [e, show p.length + (p.length - 1) = p.length - 1 + p.length by omega, Nat.add_mod_right, Nat.mod_eq_of_lt (show p.length - 1 < p.length by omega)]
        rw [show k = p.length - 1 by omega]
    · simp
    · rw [h1]
      rw [Bool.and_eq_true, h4]
      constructor
      · rintro ⟨ha, hb⟩ i hi
        by_cases e : i = k
        · rw [e]
          rw [Bool.and_eq_true, decide_eq_true_eq] at hb
          refine ⟨hb.1, fun hr => ?_⟩
          by_cases hf : (stB p (List.range k)).2.1 = true
          · have := hb.2
            rw [hf, decide_eq_true hr] at this
            cases this
          · by_cases e0 : k = 0
            · exact Or.inl e0
            · refine Or.inr ?_
              by_cases hp : Rise p (k - 1)
              · exact hp
              · exact absurd (h2.2 ⟨e0, hp⟩) hf
        · exact ha i (by omega)
      · intro h
        refine ⟨fun i hi => h i (by omega), ?_⟩
        obtain ⟨ha, hb⟩ := h k (by omega)
        rw [Bool.and_eq_true, decide_eq_true_eq]
        refine ⟨ha, ?_⟩
        by_cases hr : Rise p k
        · have hf : (stB p (List.range k)).2.1 = false := by
            cases hf : (stB p (List.range k)).2.1
            · rfl
            · obtain ⟨c1, c2⟩ := h2.1 hf
              exact absurd ((hb hr).resolve_left c1) c2
          rw [hf, Bool.and_false]; rfl
        · rw [decide_eq_false hr]; rfl
theorem stB_false {p : List Pt} (h3 : 3 ≤ p.length) {k : Nat} (hk : k ≤ p.length) (h : (stB p (List.range k)).2.2 = false) : ¬ Goes p := fun hg => by
  have := (stB_range h3 k hk).2.2.2 (fun i hi => hg i (by omega))
  rw [h] at this
  cases this
theorem stB_goes {p : List Pt} (h3 : 3 ≤ p.length) : (stB p (List.range p.length)).2.2 = true ↔ Goes p := (stB_range h3 p.length (Nat.le_refl _)).2.2

set_option maxRecDepth 100000 in
set_option maxHeartbeats 4000000 in
theorem goes_c (p : List Pt) (b o c : Nat) (w : World) (hr : Row w b o p) (hp : Plcs p) (h3 : 3 ≤ p.length) (h2 : p.length ≤ 4000000) :
    Calls Tryz.prog 82 #[.slice (some ⟨b, o, none⟩) p.length c] w (Tells (Goes p) w) := by
  have HR := Lib.hid hr
  have PL := Lib.hid hp
  obtain ⟨s0, s1⟩ := hr.2 (p.length - 1) (by omega)
  have hb := hr.1
  clear hr hp
  have e1 : ((p.length : Int) - 1) = ((p.length - 1 : Nat) : Int) := by omega
  have e2 : (0 : Int) ≤ (p.length : Int) - 1 := by omega
  have e3 : (p.length : Int) - 1 < (p.length : Int) := by omega
  have e4 : ((p.length : Int) - 1).toNat = p.length - 1 := by omega
  have hmx : Tryz.prog.follows .mixedOrders = true := by kernel_rfl
  refine (callsIn_wide (n := 5)).1 ?_
  refine callsIn_of_wp_marks Tryz.func82 rfl trivial ?_ rfl
  simp only [Tryz.ntmps82, List.size_toArray, List.length_cons, List.length_nil, Nat.reduceAdd, Nat.reduceSub, Array.replicate_succ, Array.replicate_zero, List.push_toArray, List.append_toArray, List.nil_append, List.cons_append]
  gi_wp2_with (refine ⟨trivial, ?_⟩; gi_at_call 94; refine (sides_in 4 _ _ _ _).mono ?_; rintro e w' ⟨rfl, rfl⟩)
  have G0 : Below w.heap.size w ((((w.alloc (.cells #[.bool false] 4)).alloc (.cells #[.int .i64 (at' p (p.length - 1)).1, .int .i64 (at' p (p.length - 1)).2] 30)).alloc (.cells #[.bool false] 4)).alloc (.cells #[.slice (some ⟨b, o, none⟩) p.length c] 38)) := ((((Below.refl _ w).alloc (Nat.le_refl _) _).alloc (by simp) _).alloc (by simp; omega) _).alloc (by simp; omega) _
  have hsz : ((((w.alloc (.cells #[.bool false] 4)).alloc (.cells #[.int .i64 (at' p (p.length - 1)).1, .int .i64 (at' p (p.length - 1)).2] 30)).alloc (.cells #[.bool false] 4)).alloc (.cells #[.slice (some ⟨b, o, none⟩) p.length c] 38)).heap.size = w.heap.size + 1 + 1 + 1 + 1 := by simp
  have kR : Blk ((((w.alloc (.cells #[.bool false] 4)).alloc (.cells #[.int .i64 (at' p (p.length - 1)).1, .int .i64 (at' p (p.length - 1)).2] 30)).alloc (.cells #[.bool false] 4)).alloc (.cells #[.slice (some ⟨b, o, none⟩) p.length c] 38)) w.heap.size #[.bool false] 4 := (((Blk.new w _ _).alloc _).alloc _).alloc _
  have kP : Blk ((((w.alloc (.cells #[.bool false] 4)).alloc (.cells #[.int .i64 (at' p (p.length - 1)).1, .int .i64 (at' p (p.length - 1)).2] 30)).alloc (.cells #[.bool false] 4)).alloc (.cells #[.slice (some ⟨b, o, none⟩) p.length c] 38)) (w.heap.size + 1) #[.int .i64 (at' p (p.length - 1)).1, .int .i64 (at' p (p.length - 1)).2] 30 := by
    have h := ((Blk.new (w.alloc (.cells #[.bool false] 4)) #[.int .i64 (at' p (p.length - 1)).1, .int .i64 (at' p (p.length - 1)).2] 30).alloc (.cells #[.bool false] 4)).alloc (.cells #[.slice (some ⟨b, o, none⟩) p.length c] 38)
    rwa [World.size_alloc] at h
  have kF : Blk ((((w.alloc (.cells #[.bool false] 4)).alloc (.cells #[.int .i64 (at' p (p.length - 1)).1, .int .i64 (at' p (p.length - 1)).2] 30)).alloc (.cells #[.bool false] 4)).alloc (.cells #[.slice (some ⟨b, o, none⟩) p.length c] 38)) (w.heap.size + 1 + 1) #[.bool false] 4 := by
    have h := (Blk.new ((w.alloc (.cells #[.bool false] 4)).alloc (.cells #[.int .i64 (at' p (p.length - 1)).1, .int .i64 (at' p (p.length - 1)).2] 30)) #[.bool false] 4).alloc (.cells #[.slice (some ⟨b, o, none⟩) p.length c] 38)
    rwa [World.size_alloc, World.size_alloc] at h
  have kS : ((((w.alloc (.cells #[.bool false] 4)).alloc (.cells #[.int .i64 (at' p (p.length - 1)).1, .int .i64 (at' p (p.length - 1)).2] 30)).alloc (.cells #[.bool false] 4)).alloc (.cells #[.slice (some ⟨b, o, none⟩) p.length c] 38)).cell? ⟨w.heap.size + 1 + 1 + 1, 0, none⟩ = some (.slice (some ⟨b, o, none⟩) p.length c) := by simp [go_sem]
  obtain ⟨W0, hW0⟩ : ∃ W0, ((((w.alloc (.cells #[.bool false] 4)).alloc (.cells #[.int .i64 (at' p (p.length - 1)).1, .int .i64 (at' p (p.length - 1)).2] 30)).alloc (.cells #[.bool false] 4)).alloc (.cells #[.slice (some ⟨b, o, none⟩) p.length c] 38)) = W0 := ⟨_, rfl⟩
  rw [hW0] at G0 hsz kR kP kF kS ⊢
  have hR0 := HR.out.grown G0
  clear hW0 s0 s1 e1 e2 e3 e4
  refine wpIn_rangeFunc_ownH rfl (by omega) (gf := 99) (lb := #[.pointer (some ⟨w.heap.size + 1 + 1 + 1, 0, none⟩)]) rfl trivial (enters_of Tryz.func99 (by kernel_rfl) rfl)
    (sides_stops 4 (by omega) (w.heap.size + 1 + 1 + 1) b o c p (by omega) h2 W0 (by omega) kS hR0) Kept.trans (kept_b (by omega) (by omega)) (Below.refl _ _) (fun _ => rfl)
    (fun pre W => ((stB p pre).2.2 = true ∧ Blk W (w.heap.size + 1) #[.int .i64 ((stB p pre).1).1, .int .i64 ((stB p pre).1).2] 30 ∧ Blk W (w.heap.size + 1 + 1) #[.bool (stB p pre).2.1] 4 ∧ Blk W w.heap.size #[.bool false] 4 ∧ W0.heap.size ≤ W.heap.size) ∧ Below w.heap.size w W)
    (fun c pre W => (c = .ret ∧ (stB p pre).2.2 = false ∧ Blk W w.heap.size #[.bool false] 4) ∧ Below w.heap.size w W)
    (OwnFrom.and (Own.from (fun s A B row hs hg hr => ⟨hs.1, blk_own _ _ (fun s => #[.int .i64 ((stB p s).1).1, .int .i64 ((stB p s).1).2]) s A B row hs.2.1 hg hr, blk_own _ _ (fun s => #[.bool (stB p s).2.1]) s A B row hs.2.2.1 hg hr, blk_own _ _ (fun _ => #[.bool false]) s A B row hs.2.2.2.1 hg hr, Nat.le_trans hs.2.2.2.2 hg.size⟩) _) (ownFrom_below (Nat.le_refl _) (by omega)))
    (fun c => OwnFrom.and (Own.from (fun s A B row hs hg hr => ⟨hs.1, hs.2.1, blk_own _ _ (fun _ => #[.bool false]) s A B row hs.2.2 hg hr⟩) _) (ownFrom_below (Nat.le_refl _) (by omega)))
    ⟨⟨rfl, kP, kF, kR, Nat.le_refl _⟩, G0⟩
    (fun i a' W => ∃ Bx By, w.heap.size + 1 + 1 < Bx ∧ Bx < By ∧ Blk W Bx #[.int .i64 (at' p i).1, .int .i64 (at' p i).2] 30 ∧ Blk W By #[.int .i64 (at' p ((i + 1) % p.length)).1, .int .i64 (at' p ((i + 1) % p.length)).2] 30 ∧ a' = { tmps := #[.slice (some ⟨b, o, none⟩) p.length c, undef, .pointer (some ⟨w.heap.size, 0, none⟩), .pointer (some ⟨w.heap.size + 1, 0, none⟩), .pointer (some ⟨w.heap.size + 1 + 1, 0, none⟩), .pointer (some ⟨Bx, 0, none⟩), .pointer (some ⟨By, 0, none⟩), undef, .slice (some ⟨b, o, none⟩) p.length c, .slice (some ⟨b, o, none⟩) p.length c, .int .i64 p.length, .int .i64 ((p.length - 1 : Nat) : Int), .pointer (some ⟨b, o + (p.length - 1) * 2, none⟩), .agg #[.int .i64 (at' p (p.length - 1)).1, .int .i64 (at' p (p.length - 1)).2], .slice (some ⟨b, o, none⟩) p.length c, .func (.func 99) #[] #[.pointer (some ⟨w.heap.size + 1 + 1 + 1, 0, none⟩)], .agg #[.int .i64 (at' p i).1, .int .i64 (at' p i).2], .agg #[.int .i64 (at' p ((i + 1) % p.length)).1, .int .i64 (at' p ((i + 1) % p.length)).2], undef, undef, undef, undef, undef, undef, undef, undef, undef, undef, undef, undef, undef, undef, undef, undef, undef], defers := [] })
    (fun i a' _ X Y row hs hg hr => by
      obtain ⟨Bx, By, g1, g2, g3, g4, g5⟩ := hs
      exact ⟨Bx, By, g1, g2, blk_own _ _ (fun _ : Unit => #[.int .i64 (at' p i).1, .int .i64 (at' p i).2]) () X Y row g3 hg (fun r e => (hr r e).2), blk_own _ _ (fun _ : Unit => #[.int .i64 (at' p ((i + 1) % p.length)).1, .int .i64 (at' p ((i + 1) % p.length)).2]) () X Y row g4 hg (fun r e => (hr r e).2), g5⟩)
    ?assign ?body ?done ?stop
  case assign =>
    rintro l pre i W K ⟨⟨g1, g2, g3, g4, g5⟩, gB⟩ hK
    have hz := gB.size
    unfold ends
    gi_wp2
    have bX := (Blk.new W #[.int .i64 (at' p i).1, .int .i64 (at' p i).2] 30).alloc (.cells #[.int .i64 (at' p ((i + 1) % p.length)).1, .int .i64 (at' p ((i + 1) % p.length)).2] 30)
    have bY := Blk.new (W.alloc (.cells #[.int .i64 (at' p i).1, .int .i64 (at' p i).2] 30)) #[.int .i64 (at' p ((i + 1) % p.length)).1, .int .i64 (at' p ((i + 1) % p.length)).2] 30
    rw [World.size_alloc] at bY
    exact hK _ _ (((KeepsOthers.alloc _ _).trans (KeepsOthers.alloc _ _)).from _)
      (((Kept.refl _ _ W).grown (World.grownBy_alloc W _ none) (by omega) (by omega) (by simp)).grown (World.grownBy_alloc _ _ none) (by simp; omega) (by simp; omega) (by simp))
      ⟨⟨g1, (g2.alloc _).alloc _, (g3.alloc _).alloc _, (g4.alloc _).alloc _, by simp; omega⟩, (gB.alloc (by omega) _).alloc (by simp; omega) _⟩ ⟨W.heap.size, W.heap.size + 1, by omega, by omega, bX, bY, rfl⟩
  case body =>
    rintro l pre i a' W hl ⟨r0, hr0⟩ ⟨⟨g1, g2, g3, g4, g5⟩, gB⟩ ⟨Bx, By, hBx, hBy, bX, bY, rfl⟩ hlt
    have hz := gB.size
    have ST := Lib.hid (stB_snoc p pre i)
    have hbp := stB_plc PL.out pre
    obtain ⟨m, hm⟩ : ∃ m, (i + 1) % p.length = m := ⟨_, rfl⟩
    rw [hm] at bY ⊢
    obtain ⟨bef, hbef⟩ : ∃ x, (stB p pre).1 = x := ⟨_, rfl⟩
    obtain ⟨fal, hfal⟩ : ∃ x, (stB p pre).2.1 = x := ⟨_, rfl⟩
    rw [hbef] at hbp g2
    rw [hfal] at g3
    obtain ⟨z, hz0⟩ : ∃ z, cr bef (at' p i) (at' p m) = z := ⟨_, rfl⟩
    obtain ⟨r, hr1⟩ : ∃ r : Bool, decide (Rise p i) = r := ⟨_, rfl⟩
    have LC : Hid (∀ W, CallsIn (Fence.wide.inRound l) 2 Tryz.prog 81 #[.agg #[.int .i64 (at' p i).1, .int .i64 (at' p i).2], .agg #[.int .i64 (at' p m).1, .int .i64 (at' p m).2]] W fun e w' => e = .returned (.bool r) ∧ (W.alloc (.cells #[.int .i64 (at' p i).1, .int .i64 (at' p i).2] 30)).alloc (.cells #[.int .i64 (at' p m).1, .int .i64 (at' p m).2] 30) = w') := Lib.hid (fun W => CallsIn.inRound l (callsIn_wide.2 (by
      have h := less_c (at' p i) (at' p m) W
      have e : decide (ls (at' p i) (at' p m)) = r := by rw [← hr1]; exact decide_eq_decide.2 (by unfold Rise; rw [hm])
      rwa [e] at h)))
    have TC : Hid (∀ W, CallsIn (Fence.wide.inRound l) 2 Tryz.prog 92 #[.agg #[.int .i64 (bef).1, .int .i64 (bef).2], .agg #[.int .i64 (at' p i).1, .int .i64 (at' p i).2], .agg #[.int .i64 (at' p m).1, .int .i64 (at' p m).2]] W fun e w' => e = .returned (.int .i64 z) ∧ ((W.alloc (.cells #[.int .i64 (bef).1, .int .i64 (bef).2] 30)).alloc (.cells #[.int .i64 (at' p i).1, .int .i64 (at' p i).2] 30)).alloc (.cells #[.int .i64 (at' p m).1, .int .i64 (at' p m).2] 30) = w') := Lib.hid (fun W => CallsIn.inRound l (callsIn_wide.2 (by
      have h := turn_c bef (at' p i) (at' p m) W hbp (at_plc PL.out _) (at_plc PL.out _)
      rwa [hz0] at h)))
    have ST : Hid (stB p (pre ++ [i]) = (at' p i, !r, decide (0 < z) && !(r && fal))) := Lib.hid (by
      rw [ST.out, g1, hm, hbef, hz0, hr1, hfal, Bool.true_and])
    clear hm hbef hfal hz0 hr1 g1 hbp
    obtain ⟨⟨x0, x1⟩, _, _⟩ := bX.two
    obtain ⟨⟨y0, y1⟩, _, _⟩ := bY.two
    obtain ⟨⟨p0, p1⟩, q0, q1⟩ := g2.two
    obtain ⟨f0, f1⟩ := g3.one
    obtain ⟨t0, t1⟩ := g4.one
    have lX := bX.lt
    have lY := bY.lt
    have l0 : w.heap.size < W.heap.size := by omega
    have l1 : w.heap.size + 1 < W.heap.size := by omega
    have l2 : w.heap.size + 1 + 1 < W.heap.size := by omega
    have hd : 1 ≤ 5 - 1 - 1 := by omega
    have lX_1 : Bx < W.heap.size + 1 := by omega
    have lX_2 : Bx < W.heap.size + 1 + 1 := by omega
    have lX_3 : Bx < W.heap.size + 1 + 1 + 1 := by omega
    have lX_4 : Bx < W.heap.size + 1 + 1 + 1 + 1 := by omega
    have lX_5 : Bx < W.heap.size + 1 + 1 + 1 + 1 + 1 := by omega
    have lY_1 : By < W.heap.size + 1 := by omega
    have lY_2 : By < W.heap.size + 1 + 1 := by omega
    have lY_3 : By < W.heap.size + 1 + 1 + 1 := by omega
    have lY_4 : By < W.heap.size + 1 + 1 + 1 + 1 := by omega
    have lY_5 : By < W.heap.size + 1 + 1 + 1 + 1 + 1 := by omega
    have l0_1 : w.heap.size < W.heap.size + 1 := by omega
    have l0_2 : w.heap.size < W.heap.size + 1 + 1 := by omega
    have l0_3 : w.heap.size < W.heap.size + 1 + 1 + 1 := by omega
    have l0_4 : w.heap.size < W.heap.size + 1 + 1 + 1 + 1 := by omega
    have l0_5 : w.heap.size < W.heap.size + 1 + 1 + 1 + 1 + 1 := by omega
    have l1_1 : w.heap.size + 1 < W.heap.size + 1 := by omega
    have l1_2 : w.heap.size + 1 < W.heap.size + 1 + 1 := by omega
    have l1_3 : w.heap.size + 1 < W.heap.size + 1 + 1 + 1 := by omega
    have l1_4 : w.heap.size + 1 < W.heap.size + 1 + 1 + 1 + 1 := by omega
    have l1_5 : w.heap.size + 1 < W.heap.size + 1 + 1 + 1 + 1 + 1 := by omega
    have l2_1 : w.heap.size + 1 + 1 < W.heap.size + 1 := by omega
    have l2_2 : w.heap.size + 1 + 1 < W.heap.size + 1 + 1 := by omega
    have l2_3 : w.heap.size + 1 + 1 < W.heap.size + 1 + 1 + 1 := by omega
    have l2_4 : w.heap.size + 1 + 1 < W.heap.size + 1 + 1 + 1 + 1 := by omega
    have l2_5 : w.heap.size + 1 + 1 < W.heap.size + 1 + 1 + 1 + 1 + 1 := by omega
    have n1 : ¬ Bx = w.heap.size + 1 := by omega
    have n2 : ¬ Bx = w.heap.size + 1 + 1 := by omega
    have n3 : ¬ w.heap.size + 1 = Bx := by omega
    have n4 : ¬ w.heap.size + 1 + 1 = Bx := by omega
    by_cases ht : z ≤ 0
    · gi_wp2_with (first | (refine ⟨trivial, ?_⟩; gi_at_call 81; refine (LC.out _).mono ?_; rintro e w' ⟨rfl, rfl⟩) | (refine ⟨trivial, ?_⟩; gi_at_call 92; refine (TC.out _).mono ?_; rintro e w' ⟨rfl, rfl⟩))
      all_goals
        refine ⟨KeepsOthers.from (by (repeat' (first | (with_reducible exact KeepsOthers.refl _) | (with_reducible refine KeepsOthers.trans ?_ (KeepsOthers.alloc _ _)) | (with_reducible refine KeepsOthers.trans ?_ (KeepsOthers.setCell _ _ _))))) _, ⟨rfl, ?_, ?_⟩, ?_⟩
        · rw [ST.out]
          first | (simp; done) | (simp; omega)
        · repeat' (first | (with_reducible assumption) | (with_reducible refine Blk.alloc ?_ _) | (with_reducible exact Blk.put0 (by repeat' (first | (with_reducible assumption) | (with_reducible refine Blk.alloc ?_ _)))) | (with_reducible refine Blk.other ?_ (by omega) _))
        · repeat' (first | (with_reducible assumption) | (with_reducible refine Below.alloc ?_ (by first | omega | (simp; omega)) _) | (with_reducible refine Below.setCell ?_ (by first | omega | (simp; done) | (simp; omega)) _))
    · have hz1 : 0 < z := by omega
      cases r <;> cases fal
      all_goals gi_wp2_with (first | (refine ⟨trivial, ?_⟩; gi_at_call 81; refine (LC.out _).mono ?_; rintro e w' ⟨rfl, rfl⟩) | (refine ⟨trivial, ?_⟩; gi_at_call 92; refine (TC.out _).mono ?_; rintro e w' ⟨rfl, rfl⟩))
      rotate_right
      · refine ⟨KeepsOthers.from (by (repeat' (first | (with_reducible exact KeepsOthers.refl _) | (with_reducible refine KeepsOthers.trans ?_ (KeepsOthers.alloc _ _)) | (with_reducible refine KeepsOthers.trans ?_ (KeepsOthers.setCell _ _ _))))) _, ⟨rfl, ?_, ?_⟩, ?_⟩
        · rw [ST.out]
          first | (simp; done) | (simp; omega)
        · repeat' (first | (with_reducible assumption) | (with_reducible refine Blk.alloc ?_ _) | (with_reducible exact Blk.put0 (by repeat' (first | (with_reducible assumption) | (with_reducible refine Blk.alloc ?_ _)))) | (with_reducible refine Blk.other ?_ (by omega) _))
        · repeat' (first | (with_reducible assumption) | (with_reducible refine Below.alloc ?_ (by first | omega | (simp; omega)) _) | (with_reducible refine Below.setCell ?_ (by first | omega | (simp; done) | (simp; omega)) _))
      all_goals
        refine ⟨KeepsOthers.from (by (repeat' (first | (with_reducible exact KeepsOthers.refl _) | (with_reducible refine KeepsOthers.trans ?_ (KeepsOthers.alloc _ _)) | (with_reducible refine KeepsOthers.trans ?_ (KeepsOthers.setCell _ _ _))))) _, ?_, ⟨⟨?_, ?_, ?_, ?_, ?_⟩, ?_⟩⟩
        · repeat' (first | (with_reducible exact Kept.refl _ _ _) | (with_reducible refine Kept.alloc ?_ ?_ ?_ _) | (with_reducible refine Kept.setCell ?_ ?_ ?_ _) | omega | (simp; omega))
        · rw [ST.out]
          first | (simp; done) | (simp; omega)
        · rw [ST.out]
          dsimp only
          repeat' (first | (with_reducible assumption) | (with_reducible refine Blk.alloc ?_ _) | (with_reducible refine Blk.other ?_ (by omega) _) | (with_reducible exact Blk.put2 g2) | (with_reducible exact Blk.put0 ((g3.other (by omega) _).other (by omega) _)))
        · rw [ST.out]
          dsimp only
          simp only [Bool.not_false, Bool.not_true]
          repeat' (first | (with_reducible assumption) | (with_reducible refine Blk.alloc ?_ _) | (with_reducible refine Blk.other ?_ (by omega) _) | (with_reducible exact Blk.put2 g2) | (with_reducible exact Blk.put0 ((g3.other (by omega) _).other (by omega) _)))
        · repeat' (first | (with_reducible assumption) | (with_reducible refine Blk.alloc ?_ _) | (with_reducible refine Blk.other ?_ (by omega) _) | (with_reducible exact Blk.put2 g2) | (with_reducible exact Blk.put0 ((g3.other (by omega) _).other (by omega) _)))
        · simp; omega
        · repeat' (first | (with_reducible assumption) | (with_reducible refine Below.alloc ?_ (by first | omega | (simp; omega)) _) | (with_reducible refine Below.setCell ?_ (by first | omega | (simp; done) | (simp; omega)) _))
  case done =>
    rintro D ys W hD rfl ⟨⟨g1, g2, g3, g4, g5⟩, gB⟩ hK
    have hG := (stB_goes h3).1 g1
    obtain ⟨t0, t1⟩ := g4.one
    gi_wp2
    have hK' := (KeepsOthers.setCell W ⟨w.heap.size, 0, none⟩ (.bool true)).same D _ hK rfl
    refine ⟨by simp, .inl ⟨_, _, rfl, run_takeDeferred hK', ?_⟩⟩
    have hc5 := cell_kept (World.cell?_setCell_same' W ⟨w.heap.size, 0, none⟩ (.bool true) (by rw [t0]; rfl)) (grownBy_putObj' _ D (.deferred none)) (fun r e => by cases e; exact ⟨_, hK', rfl⟩)
    refine ⟨.bool true, ?_, Tells.yes hG rfl ((gB.setCell (p := ⟨w.heap.size, 0, none⟩) (Nat.le_refl _) _).trans (belowK_b (w := w) (Nat.le_refl _) _ D _ _ (by omega) hK' rfl rfl))⟩
    simp [results, Tryz.results82, go_sem, hc5]
  case stop =>
    rintro D c pre W hD ⟨k, hk, rfl⟩ ⟨⟨rfl, h1, g4⟩, gB⟩ hK
    have hG := stB_false h3 hk h1
    obtain ⟨t0, t1⟩ := g4.one
    gi_wp2
    refine ⟨by simp, .inl ⟨_, _, rfl, run_takeDeferred hK, ?_⟩⟩
    have hc5 := cell_kept t0 (grownBy_putObj' _ D (.deferred none)) (fun r e => by cases e; exact ⟨_, hK, rfl⟩)
    refine ⟨.bool false, ?_, Tells.no hG rfl (gB.trans (belowK_b (w := w) (Nat.le_refl _) W D _ _ (by omega) hK rfl rfl))⟩
    simp [results, Tryz.results82, go_sem, hc5]
end Hl
end Go.Proofs.YtpiajdahmcelnaaGreat
