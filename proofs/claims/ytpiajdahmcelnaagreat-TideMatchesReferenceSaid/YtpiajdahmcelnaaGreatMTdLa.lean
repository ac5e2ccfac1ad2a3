/-
  The reference's join of bounds; what is joined so far, block by block and slot by slot.
-/
import Derived.Test.YtpiajdahmcelnaaGreatMTdO
namespace Go.Proofs.YtpiajdahmcelnaaGreat
open Go.RowKit Hl
namespace Td
set_option maxRecDepth 100000
theorem R.join_w (a b c d m n : Int) (w : World) (h1 : (a < c ∧ m = a) ∨ (c < a ∧ m = c) ∨ (a = c ∧ m = a)) (h2 : (b < d ∧ n = d) ∨ (d < b ∧ n = b) ∨ (b = d ∧ n = b)) : Calls Tryz.prog 71 #[.agg #[.int .i64 a, .int .i64 b], .agg #[.int .i64 c, .int .i64 d]] w fun e w' => e = .returned (.agg #[.int .i64 m, .int .i64 n]) ∧ Grew w w' := by
  rcases h1 with ⟨h1, k1⟩ | ⟨h1, k1⟩ | ⟨rfl, k1⟩
  all_goals
    rcases h2 with ⟨h2, k2⟩ | ⟨h2, k2⟩ | ⟨rfl, k2⟩
    all_goals
      go_enter Tryz.func71, Tryz.ntmps71
      go_wp2_with fail
      refine bodyPost_ret (v := .agg #[.int .i64 m, .int .i64 n]) (by simp [results, Tryz.results71, go_sem, *]) rfl ⟨rfl, (by (repeat' (first | (with_reducible exact Grew.refl _) | (with_reducible assumption) | (with_reducible refine Grew.alloc ?_ _ _) | (with_reducible refine Grew.drew ?_) | (with_reducible refine Grew.drewN ?_ _) | (with_reducible refine Grew.setCell ?_ ?_ _) | go_size)))⟩
theorem R.join_c (a b c d : Int) (w : World) : Calls Tryz.prog 71 #[.agg #[.int .i64 a, .int .i64 b], .agg #[.int .i64 c, .int .i64 d]] w fun e w' => e = .returned (.agg #[.int .i64 (min a c), .int .i64 (max b d)]) ∧ Grew w w' := R.join_w a b c d _ _ w (by omega) (by omega)
set_option maxHeartbeats 16000000 in
theorem R.joined_c (k m : Bd) (w : World) : Calls Tryz.prog 53 #[.agg #[.int .i64 0, .int .i64 0, .int .i64 0, .int .i64 k.a, .int .i64 k.b, .int .i64 k.c, .int .i64 k.d, .int .i64 k.e, .int .i64 k.f], .agg #[.int .i64 0, .int .i64 0, .int .i64 0, .int .i64 m.a, .int .i64 m.b, .int .i64 m.c, .int .i64 m.d, .int .i64 m.e, .int .i64 m.f]] w fun e w' => e = .returned (.agg #[.int .i64 0, .int .i64 0, .int .i64 0, .int .i64 ((jn k m).a), .int .i64 ((jn k m).b), .int .i64 ((jn k m).c), .int .i64 ((jn k m).d), .int .i64 ((jn k m).e), .int .i64 ((jn k m).f)]) ∧ Grew w w' := by
  unfold jn
  obtain ⟨F, hF⟩ : ∃ F : Int → Int → Int, (fun a b => min a b) = F := ⟨_, rfl⟩
  obtain ⟨G, hG⟩ : ∃ G : Int → Int → Int, (fun a b => max a b) = G := ⟨_, rfl⟩
  have eF : ∀ a b : Int, min a b = F a b := fun a b => by rw [← hF]
  have eG : ∀ a b : Int, max a b = G a b := fun a b => by rw [← hG]
  have CJ : Hid (∀ (a b c d : Int) (W : World), Calls Tryz.prog 71 #[.agg #[.int .i64 a, .int .i64 b], .agg #[.int .i64 c, .int .i64 d]] W fun e w' => e = .returned (.agg #[.int .i64 (F a c), .int .i64 (G b d)]) ∧ Grew W w') := Lib.hid (fun a b c d W => by
    have h := R.join_c a b c d W
    rwa [eF, eG] at h)
  simp only [eF, eG]
  clear eF eG hF hG
  rcases k with ⟨a, b, c, d, p, q⟩
  rcases m with ⟨a', b', c', d', p', q'⟩
  simp only
  go_enter Tryz.func53, Tryz.ntmps53
  go_wp2_with fail
  obtain ⟨V2, hV2⟩ : ∃ V, (w.alloc (.cells #[.int .i64 0, .int .i64 0, .int .i64 0, .int .i64 a, .int .i64 b, .int .i64 c, .int .i64 d, .int .i64 p, .int .i64 q] 25)).alloc (.cells #[.int .i64 0, .int .i64 0, .int .i64 0, .int .i64 a', .int .i64 b', .int .i64 c', .int .i64 d', .int .i64 p', .int .i64 q'] 25) = V := ⟨_, rfl⟩
  have zv : V2.heap.size = w.heap.size + 1 + 1 := by rw [← hV2]; simp
  have KS : Hid (∀ W, Grew V2 W → (W.cell? ⟨w.heap.size, 3, none⟩ = some (.int .i64 a) ∧ W.cell? ⟨w.heap.size, 4, none⟩ = some (.int .i64 b) ∧ W.cell? ⟨w.heap.size, 5, none⟩ = some (.int .i64 c) ∧ W.cell? ⟨w.heap.size, 6, none⟩ = some (.int .i64 d) ∧ W.cell? ⟨w.heap.size, 7, none⟩ = some (.int .i64 p) ∧ W.cell? ⟨w.heap.size, 8, none⟩ = some (.int .i64 q) ∧ W.cell? ⟨w.heap.size + 1, 3, none⟩ = some (.int .i64 a') ∧ W.cell? ⟨w.heap.size + 1, 4, none⟩ = some (.int .i64 b') ∧ W.cell? ⟨w.heap.size + 1, 5, none⟩ = some (.int .i64 c') ∧ W.cell? ⟨w.heap.size + 1, 6, none⟩ = some (.int .i64 d') ∧ W.cell? ⟨w.heap.size + 1, 7, none⟩ = some (.int .i64 p') ∧ W.cell? ⟨w.heap.size + 1, 8, none⟩ = some (.int .i64 q'))) := Lib.hid (fun W g => by
    subst hV2
    have b0 := ((Blk.new w #[.int .i64 0, .int .i64 0, .int .i64 0, .int .i64 a, .int .i64 b, .int .i64 c, .int .i64 d, .int .i64 p, .int .i64 q] 25).alloc (.cells #[.int .i64 0, .int .i64 0, .int .i64 0, .int .i64 a', .int .i64 b', .int .i64 c', .int .i64 d', .int .i64 p', .int .i64 q'] 25)).grown g
    have b1 := (blkN (W := w.alloc (.cells #[.int .i64 0, .int .i64 0, .int .i64 0, .int .i64 a, .int .i64 b, .int .i64 c, .int .i64 d, .int .i64 p, .int .i64 q] 25)) (k := w.heap.size + 1) (cs := #[.int .i64 0, .int .i64 0, .int .i64 0, .int .i64 a', .int .i64 b', .int .i64 c', .int .i64 d', .int .i64 p', .int .i64 q']) (t := 25) (by simp)).grown g
    exact ⟨blkAt b0 rfl, blkAt b0 rfl, blkAt b0 rfl, blkAt b0 rfl, blkAt b0 rfl, blkAt b0 rfl, blkAt b1 rfl, blkAt b1 rfl, blkAt b1 rfl, blkAt b1 rfl, blkAt b1 rfl, blkAt b1 rfl⟩)
  have GV2 : Grew w V2 := by rw [← hV2]; exact ((Grew.refl _).alloc _ _).alloc _ _
  try rw [hV2]
  clear hV2
  obtain ⟨V, hV⟩ : ∃ V, V2.alloc (.cells #[.int .i64 0, .int .i64 0, .int .i64 0, .int .i64 0, .int .i64 0, .int .i64 0, .int .i64 0, .int .i64 0, .int .i64 0] 25) = V := ⟨_, rfl⟩
  have RB : Hid (∀ W, Grew V W → Blk W (w.heap.size + 1 + 1) #[.int .i64 0, .int .i64 0, .int .i64 0, .int .i64 0, .int .i64 0, .int .i64 0, .int .i64 0, .int .i64 0, .int .i64 0] 25) := Lib.hid (fun W g => by
    subst hV
    exact (blkN (W := V2) (k := w.heap.size + 1 + 1) (cs := #[.int .i64 0, .int .i64 0, .int .i64 0, .int .i64 0, .int .i64 0, .int .i64 0, .int .i64 0, .int .i64 0, .int .i64 0]) (t := 25) zv).grown g)
  have G2 : Grew V2 V := by rw [← hV]; exact (Grew.refl _).alloc _ _
  try rw [hV]
  clear hV
  have GA := Grew.refl V
  go_region_held3 (fun W => W.cell? ⟨w.heap.size, 3, none⟩ = some (.int .i64 a) ∧ W.cell? ⟨w.heap.size, 4, none⟩ = some (.int .i64 b) ∧ W.cell? ⟨w.heap.size, 5, none⟩ = some (.int .i64 c) ∧ W.cell? ⟨w.heap.size, 6, none⟩ = some (.int .i64 d) ∧ W.cell? ⟨w.heap.size, 7, none⟩ = some (.int .i64 p) ∧ W.cell? ⟨w.heap.size, 8, none⟩ = some (.int .i64 q) ∧ W.cell? ⟨w.heap.size + 1, 3, none⟩ = some (.int .i64 a') ∧ W.cell? ⟨w.heap.size + 1, 4, none⟩ = some (.int .i64 b') ∧ W.cell? ⟨w.heap.size + 1, 5, none⟩ = some (.int .i64 c') ∧ W.cell? ⟨w.heap.size + 1, 6, none⟩ = some (.int .i64 d') ∧ W.cell? ⟨w.heap.size + 1, 7, none⟩ = some (.int .i64 p') ∧ W.cell? ⟨w.heap.size + 1, 8, none⟩ = some (.int .i64 q')) (exact KS.out _ (by (repeat' (first | (with_reducible exact Grew.refl _) | (with_reducible assumption) | (with_reducible refine Grew.alloc ?_ _ _) | (with_reducible refine Grew.drew ?_) | (with_reducible refine Grew.drewN ?_ _) | (with_reducible refine Grew.setCell ?_ ?_ _) | go_size))))
    (first
      | (go_at_call 71; refine (CJ.out _ _ _ _ _).mono ?_; rintro e w1 ⟨rfl, gn⟩; have GA : Grew V w1 := Grew.trans (by (repeat' (first | (with_reducible exact Grew.refl _) | (with_reducible assumption) | (with_reducible refine Grew.alloc ?_ _ _) | (with_reducible refine Grew.drew ?_) | (with_reducible refine Grew.drewN ?_ _) | (with_reducible refine Grew.setCell ?_ ?_ _) | go_size))) gn; clear gn; have GB : Grew V2 w1 := G2.trans GA; have BK := RB.out _ GA; have yl := BK.lt; have y0 := blkAt BK (i := 0) (v := .int .i64 0) rfl; have v0 := blkFz BK (i := 0) (by simp); have y1 := blkAt BK (i := 1) (v := .int .i64 0) rfl; have v1 := blkFz BK (i := 1) (by simp); have y2 := blkAt BK (i := 2) (v := .int .i64 0) rfl; have v2 := blkFz BK (i := 2) (by simp); have y3 := blkAt BK (i := 3) (v := .int .i64 0) rfl; have v3 := blkFz BK (i := 3) (by simp); have y4 := blkAt BK (i := 4) (v := .int .i64 0) rfl; have v4 := blkFz BK (i := 4) (by simp); have y5 := blkAt BK (i := 5) (v := .int .i64 0) rfl; have v5 := blkFz BK (i := 5) (by simp); have y6 := blkAt BK (i := 6) (v := .int .i64 0) rfl; have v6 := blkFz BK (i := 6) (by simp); have y7 := blkAt BK (i := 7) (v := .int .i64 0) rfl; have v7 := blkFz BK (i := 7) (by simp); have y8 := blkAt BK (i := 8) (v := .int .i64 0) rfl; have v8 := blkFz BK (i := 8) (by simp)))
  go_wp2_with fail
  generalize hU : World.setCell (World.setCell _ _ _) _ _ = U
  have BU : Blk U (w.heap.size + 1 + 1) #[.int .i64 0, .int .i64 0, .int .i64 0, .int .i64 (F a a'), .int .i64 (G b b'), .int .i64 (F c c'), .int .i64 (G d d'), .int .i64 (F p p'), .int .i64 (G q q')] 25 := by rw [← hU]; exact Blk.put9 (RB.out _ (by (repeat' (first | (with_reducible exact Grew.refl _) | (with_reducible assumption) | (with_reducible refine Grew.alloc ?_ _ _) | (with_reducible refine Grew.drew ?_) | (with_reducible refine Grew.drewN ?_ _) | (with_reducible refine Grew.setCell ?_ ?_ _) | go_size))))
  have GU : Grew w U := by rw [← hU]; exact Grew.put9 ((GV2.trans G2).trans (by (repeat' (first | (with_reducible exact Grew.refl _) | (with_reducible assumption) | (with_reducible refine Grew.alloc ?_ _ _) | (with_reducible refine Grew.drew ?_) | (with_reducible refine Grew.drewN ?_ _) | (with_reducible refine Grew.setCell ?_ ?_ _) | go_size)))) (by omega)
  clear hU GA GV2 G2 RB KS y0 v0 y1 v1 y2 v2 y3 v3 y4 v4 y5 v5 y6 v6 y7 v7 y8 v8
  have u0 := blkAt BU (i := 0) rfl
  have u1 := blkAt BU (i := 1) rfl
  have u2 := blkAt BU (i := 2) rfl
  have u3 := blkAt BU (i := 3) rfl
  have u4 := blkAt BU (i := 4) rfl
  have u5 := blkAt BU (i := 5) rfl
  have u6 := blkAt BU (i := 6) rfl
  have u7 := blkAt BU (i := 7) rfl
  have u8 := blkAt BU (i := 8) rfl
  refine bodyPost_ret (v := .agg #[.int .i64 0, .int .i64 0, .int .i64 0, .int .i64 (F a a'), .int .i64 (G b b'), .int .i64 (F c c'), .int .i64 (G d d'), .int .i64 (F p p'), .int .i64 (G q q')]) (by simp [results, Tryz.results53, go_sem, u0, u1, u2, u3, u4, u5, u6, u7, u8]) rfl ⟨rfl, GU⟩
/-! ### What is joined so far -/
section
variable {t : Ed} {X X' Y Y' S S' : Int}
/-- What holds in the blocks and slots up to one. -/
def Vs (t : Ed) (X X' Y Y' S S' s i j : Int) (c : Bd) : Prop := ∃ x y q, Bx X X' Y Y' S S' x y q ∧ (q < s ∨ (q = s ∧ (x < i ∨ (x = i ∧ y < j)))) ∧ c = Hd t x y q
def Wt (t : Ed) (X X' Y Y' S S' : Int) (p : Bool) (k : Bd) (s i j : Int) : Prop := (p = true ∧ ∀ c, ¬ Vs t X X' Y Y' S S' s i j c) ∨ (p = false ∧ Lst (Vs t X X' Y Y' S S' s i j) k)
theorem Wt.of {p : Bool} {k : Bd} {s i j s' i' j' : Int} (h : Wt t X X' Y Y' S S' p k s i j) (e : ∀ x y q, Bx X X' Y Y' S S' x y q → ((q < s ∨ (q = s ∧ (x < i ∨ (x = i ∧ y < j)))) ↔ (q < s' ∨ (q = s' ∧ (x < i' ∨ (x = i' ∧ y < j')))))) : Wt t X X' Y Y' S S' p k s' i' j' := by
  have e' : ∀ c, Vs t X X' Y Y' S S' s i j c ↔ Vs t X X' Y Y' S S' s' i' j' c := fun c =>
    ⟨fun ⟨x, y, q, hb, hl, hc⟩ => ⟨x, y, q, hb, (e x y q hb).1 hl, hc⟩, fun ⟨x, y, q, hb, hl, hc⟩ => ⟨x, y, q, hb, (e x y q hb).2 hl, hc⟩⟩
  rcases h with ⟨hp, h⟩ | ⟨hp, h⟩
  · exact Or.inl ⟨hp, fun c hc => h c ((e' c).2 hc)⟩
  · exact Or.inr ⟨hp, h.of_iff e'⟩
theorem Wt.start (k : Bd) : Wt t X X' Y Y' S S' true k S X Y := Or.inl ⟨rfl, fun c ⟨x, y, q, hb, hl, _⟩ => by
  unfold Bx at hb
  omega⟩
theorem Wt.row {p : Bool} {k : Bd} {s i : Int} (h : Wt t X X' Y Y' S S' p k s i (Y' + 1)) : Wt t X X' Y Y' S S' p k s (i + 1) Y := h.of fun x y q hb => by
  unfold Bx at hb
  omega
theorem Wt.page {p : Bool} {k : Bd} {s : Int} (h : Wt t X X' Y Y' S S' p k s (X' + 1) Y) : Wt t X X' Y Y' S S' p k (s + 1) X Y := h.of fun x y q hb => by
  unfold Bx at hb
  omega
theorem Wt.step {p : Bool} {k : Bd} {s i j : Int} (h : Wt t X X' Y Y' S S' p k s i j) (hb : Bx X X' Y Y' S S' i j s) : Wt t X X' Y Y' S S' false (if p then Hd t i j s else jn k (Hd t i j s)) s i (j + 1) := by
  have e : ∀ c, Vs t X X' Y Y' S S' s i (j + 1) c ↔ (Vs t X X' Y Y' S S' s i j c ∨ c = Hd t i j s) := by
    intro c
    constructor
    · rintro ⟨x, y, q, hx, hl, rfl⟩
      by_cases g : q = s ∧ x = i ∧ y = j
      · obtain ⟨rfl, rfl, rfl⟩ := g
        exact Or.inr rfl
      · exact Or.inl ⟨x, y, q, hx, by omega, rfl⟩
    · rintro (⟨x, y, q, hx, hl, rfl⟩ | rfl)
      · exact ⟨x, y, q, hx, by omega, rfl⟩
      · exact ⟨i, j, s, hb, by omega, rfl⟩
  rcases h with ⟨rfl, h⟩ | ⟨rfl, h⟩
  · exact Or.inr ⟨rfl, (Lst.one (Hd t i j s)).of_iff fun c => ⟨fun g => (e c).2 (Or.inr g), fun g => ((e c).1 g).elim (fun v => absurd v (h c)) id⟩⟩
  · exact Or.inr ⟨rfl, (h.add (Hd t i j s)).of_iff fun c => (e c).symm⟩
theorem Wt.done {p : Bool} {k : Bd} (h : Wt t X X' Y Y' S S' p k (S' + 1) X Y) (hX : X ≤ X') (hY : Y ≤ Y') (hS : S ≤ S') : Ov t X X' Y Y' S S' = k := by
  rcases h with ⟨_, h⟩ | ⟨_, h⟩
  · exact absurd ⟨X, Y, S, by unfold Bx; omega, by omega, rfl⟩ (h (Hd t X Y S))
  · refine Ov_is (h.of_iff fun c => ⟨fun ⟨x, y, q, hb, _, e⟩ => ⟨x, y, q, hb, e⟩, fun ⟨x, y, q, hb, e⟩ => ⟨x, y, q, hb, ?_, e⟩⟩)
    unfold Bx at hb
    omega
end
end Td
end Go.Proofs.YtpiajdahmcelnaaGreat
