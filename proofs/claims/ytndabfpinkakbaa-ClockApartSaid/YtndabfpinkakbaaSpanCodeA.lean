/-
  Package span as it landed: isWithin, Valid, areValid, limited, Has, Add, Sub.
-/
import Derived.Test.YtndabfpinkakbaaSpanCode
namespace Go.Proofs.Ytndabfpinkakbaa
open Go.RowKit
namespace Sn
theorem ends1 (f x : Int) (b c : Nat) (w : World) (hb : b < w.heap.size) (q : w.cell? ⟨b, 0, none⟩ = some (.int .i64 x)) : Calls Try.prog 39 #[.int .i64 f, .slice (some ⟨b, 0, none⟩) 1 c] w fun e w' => e = .returned (.agg #[.int .i64 (mn f x), .int .i64 (mx f x)]) ∧ Grown w w' :=
  ends_any f [x] b 0 c w ⟨hb, fun i hi => by
    match i, hi with
    | 0, _ => exact q⟩ (by simp)
theorem ends3 (f x y z : Int) (b c : Nat) (w : World) (hb : b < w.heap.size) (q0 : w.cell? ⟨b, 0, none⟩ = some (.int .i64 x)) (q1 : w.cell? ⟨b, 1, none⟩ = some (.int .i64 y)) (q2 : w.cell? ⟨b, 2, none⟩ = some (.int .i64 z)) : Calls Try.prog 39 #[.int .i64 f, .slice (some ⟨b, 0, none⟩) 3 c] w fun e w' => e = .returned (.agg #[.int .i64 (mn (mn (mn f x) y) z), .int .i64 (mx (mx (mx f x) y) z)]) ∧ Grown w w' :=
  ends_any f [x, y, z] b 0 c w ⟨hb, fun i hi => by
    match i, hi with
    | 0, _ => exact q0
    | 1, _ => exact q1
    | 2, _ => exact q2⟩ (by simp)
def Wn (a b c d : Int) : Prop := mn (mn (mn a b) c) d = c ∧ mx (mx (mx a b) c) d = d
theorem mn_min (a b : Int) : mn a b = min a b := by unfold mn; split <;> omega
theorem mx_max (a b : Int) : mx a b = max a b := by unfold mx; split <;> omega
theorem wn_iff {a b c d : Int} : Wn a b c d ↔ c ≤ a ∧ c ≤ b ∧ c ≤ d ∧ a ≤ d ∧ b ≤ d := by
  unfold Wn
  simp only [mn_min, mx_max]
  omega
instance (a b c d : Int) : Decidable (Wn a b c d) := by unfold Wn; infer_instance

theorem wn_yes (a b c d : Int) (w : World) (h : Wn a b c d) : Calls Try.prog 40 #[.agg #[.int .i64 a, .int .i64 b], .agg #[.int .i64 c, .int .i64 d]] w fun e w' => e = .returned (.bool true) ∧ Grown w w' := by
  have EX : ∀ (bb cc : Nat) (w : World), bb < w.heap.size → w.cell? ⟨bb, 0, none⟩ = some (.int .i64 b) → w.cell? ⟨bb, 1, none⟩ = some (.int .i64 c) → w.cell? ⟨bb, 2, none⟩ = some (.int .i64 d) → Calls Try.prog 39 #[.int .i64 a, .slice (some ⟨bb, 0, none⟩) 3 cc] w fun e w' => e = .returned (.agg #[.int .i64 c, .int .i64 d]) ∧ Grown w w' := fun bb cc w hb q0 q1 q2 => by
    have := ends3 a b c d bb cc w hb q0 q1 q2
    rwa [h.1, h.2] at this
  have EH := Lib.hid EX
  clear EX h
  go_enter Try.func40, Try.ntmps40
  go_wp2_with fail
  go_region_held3 (fun w' => w'.cell? ⟨w.heap.size, 0, none⟩ = some (.int .i64 a) ∧ w'.cell? ⟨w.heap.size, 1, none⟩ = some (.int .i64 b) ∧ w'.cell? ⟨w.heap.size + 1, 0, none⟩ = some (.int .i64 c) ∧ w'.cell? ⟨w.heap.size + 1, 1, none⟩ = some (.int .i64 d)) (simp [go_sem, *])
    (first | (go_at_call 39; refine (EH.out _ _ _ (by simp) (by simp [go_sem]) (by simp [go_sem]) (by simp [go_sem])).mono ?_; rintro e w1 ⟨rfl, g1⟩; obtain ⟨c1, f1, z1⟩ := laid g1; (try simp at z1); (try simp only [World.size_drew, World.cell?_drew] at c1); have G1 : Grown w w1 := Grown.trans (by go_grown) g1; clear g1; have z1_0 : w.heap.size < w1.heap.size := (by omega); have z1_1 : w.heap.size + 1 < w1.heap.size := (by omega); have z1_2 : w.heap.size + 1 + 1 < w1.heap.size := (by omega)))
  go_wp2_with fail
  go_ret
  exact ⟨rfl, by go_grown⟩

theorem wn_no (a b c d : Int) (w : World) (h : ¬ Wn a b c d) : Calls Try.prog 40 #[.agg #[.int .i64 a, .int .i64 b], .agg #[.int .i64 c, .int .i64 d]] w fun e w' => e = .returned (.bool false) ∧ Grown w w' := by
  obtain ⟨u, hu⟩ : ∃ u, u = mn (mn (mn a b) c) d := ⟨_, rfl⟩
  obtain ⟨v, hv⟩ : ∃ v, v = mx (mx (mx a b) c) d := ⟨_, rfl⟩
  have EX : ∀ (bb cc : Nat) (w : World), bb < w.heap.size → w.cell? ⟨bb, 0, none⟩ = some (.int .i64 b) → w.cell? ⟨bb, 1, none⟩ = some (.int .i64 c) → w.cell? ⟨bb, 2, none⟩ = some (.int .i64 d) → Calls Try.prog 39 #[.int .i64 a, .slice (some ⟨bb, 0, none⟩) 3 cc] w fun e w' => e = .returned (.agg #[.int .i64 u, .int .i64 v]) ∧ Grown w w' := fun bb cc w hb q0 q1 q2 => by
    rw [hu, hv]
    exact ends3 a b c d bb cc w hb q0 q1 q2
  have EH := Lib.hid EX
  clear EX
  by_cases k : u = c
  · have k2 : (v == d) = false := by
      have : ¬ v = d := fun e => h ⟨hu ▸ k, hv ▸ e⟩
      simpa using this
    clear h hu hv
    have k' := k.symm
    clear k
    subst k'
    go_enter Try.func40, Try.ntmps40
    go_wp2_with fail
    go_region_held3 (fun w' => w'.cell? ⟨w.heap.size, 0, none⟩ = some (.int .i64 a) ∧ w'.cell? ⟨w.heap.size, 1, none⟩ = some (.int .i64 b) ∧ w'.cell? ⟨w.heap.size + 1, 0, none⟩ = some (.int .i64 c) ∧ w'.cell? ⟨w.heap.size + 1, 1, none⟩ = some (.int .i64 d)) (simp [go_sem, *])
    (first | (go_at_call 39; refine (EH.out _ _ _ (by simp) (by simp [go_sem]) (by simp [go_sem]) (by simp [go_sem])).mono ?_; rintro e w1 ⟨rfl, g1⟩; obtain ⟨c1, f1, z1⟩ := laid g1; (try simp at z1); (try simp only [World.size_drew, World.cell?_drew] at c1); have G1 : Grown w w1 := Grown.trans (by go_grown) g1; clear g1; have z1_0 : w.heap.size < w1.heap.size := (by omega); have z1_1 : w.heap.size + 1 < w1.heap.size := (by omega); have z1_2 : w.heap.size + 1 + 1 < w1.heap.size := (by omega)))
    go_wp2_with fail
    go_ret
    exact ⟨rfl, by go_grown⟩

  · have k2 : (u == c) = false := by simpa using k
    clear h hu hv k
    go_enter Try.func40, Try.ntmps40
    go_wp2_with fail
    go_region_held3 (fun w' => w'.cell? ⟨w.heap.size, 0, none⟩ = some (.int .i64 a) ∧ w'.cell? ⟨w.heap.size, 1, none⟩ = some (.int .i64 b) ∧ w'.cell? ⟨w.heap.size + 1, 0, none⟩ = some (.int .i64 c) ∧ w'.cell? ⟨w.heap.size + 1, 1, none⟩ = some (.int .i64 d)) (simp [go_sem, *])
    (first | (go_at_call 39; refine (EH.out _ _ _ (by simp) (by simp [go_sem]) (by simp [go_sem]) (by simp [go_sem])).mono ?_; rintro e w1 ⟨rfl, g1⟩; obtain ⟨c1, f1, z1⟩ := laid g1; (try simp at z1); (try simp only [World.size_drew, World.cell?_drew] at c1); have G1 : Grown w w1 := Grown.trans (by go_grown) g1; clear g1; have z1_0 : w.heap.size < w1.heap.size := (by omega); have z1_1 : w.heap.size + 1 < w1.heap.size := (by omega); have z1_2 : w.heap.size + 1 + 1 < w1.heap.size := (by omega)))
    go_wp2_with fail
    go_ret
    exact ⟨rfl, by go_grown⟩


theorem spValid_yes (lo hi : Int) (w : World) (h : Vd lo hi) : Calls Try.prog 24 #[.agg #[.int .i64 lo, .int .i64 hi]] w fun e w' => e = .returned (.bool true) ∧ Grown w w' := by
  have EX : ∀ (bb cc : Nat) (w : World), bb < w.heap.size → w.cell? ⟨bb, 0, none⟩ = some (.int .i64 hi) → Calls Try.prog 39 #[.int .i64 lo, .slice (some ⟨bb, 0, none⟩) 1 cc] w fun e w' => e = .returned (.agg #[.int .i64 lo, .int .i64 hi]) ∧ Grown w w' := fun bb cc w hb q => by
    have := ends1 lo hi bb cc w hb q
    rwa [mn_min, mx_max, Int.min_eq_left h.2.1, Int.max_eq_right h.2.1] at this
  have EH := Lib.hid EX
  have WH := Lib.hid (wn_yes lo hi (-1000000000000) 1000000000000 · (wn_iff.2 ⟨h.1, by have := h.1; have := h.2.1; omega, by omega, by have := h.2.2; have := h.2.1; omega, h.2.2⟩))
  clear EX h
  · skip
    go_enter Try.func24, Try.ntmps24
    go_wp2_with fail
    go_region_held3 (fun w' => w'.cell? ⟨w.heap.size, 0, none⟩ = some (.int .i64 lo) ∧ w'.cell? ⟨w.heap.size, 1, none⟩ = some (.int .i64 hi)) (simp [go_sem, *])
      (first | (go_at_call 39; refine (EH.out _ _ _ (by simp) (by simp [go_sem])).mono ?_; rintro e w1 ⟨rfl, g1⟩; obtain ⟨c1, f1, z1⟩ := laid g1; (try simp at z1); (try simp only [World.size_drew, World.cell?_drew] at c1); have G1 : Grown w w1 := Grown.trans (by go_grown) g1; clear g1; have z1_0 : w.heap.size < w1.heap.size := (by omega)) | (go_at_call 40; refine (WH.out _).mono ?_; rintro e w2 ⟨rfl, g2⟩; obtain ⟨c2, f2, z2⟩ := laid g2; (try simp at z2); (try simp only [World.size_drew, World.cell?_drew] at c2); have G2 : Grown w w2 := Grown.trans (by go_grown) g2; clear g2; have z2_0 : w.heap.size < w2.heap.size := (by omega)))
    go_wp2_with fail
    go_ret
    exact ⟨rfl, by go_grown⟩
theorem spValid_no (lo hi : Int) (w : World) (h : ¬ Vd lo hi) : Calls Try.prog 24 #[.agg #[.int .i64 lo, .int .i64 hi]] w fun e w' => e = .returned (.bool false) ∧ Grown w w' := by
  by_cases k : lo ≤ hi
  · have EX : ∀ (bb cc : Nat) (w : World), bb < w.heap.size → w.cell? ⟨bb, 0, none⟩ = some (.int .i64 hi) → Calls Try.prog 39 #[.int .i64 lo, .slice (some ⟨bb, 0, none⟩) 1 cc] w fun e w' => e = .returned (.agg #[.int .i64 lo, .int .i64 hi]) ∧ Grown w w' := fun bb cc w hb q => by
      have := ends1 lo hi bb cc w hb q
      rwa [mn_min, mx_max, Int.min_eq_left k, Int.max_eq_right k] at this
    have EH := Lib.hid EX
    have WH := Lib.hid (wn_no lo hi (-1000000000000) 1000000000000 · (fun t => h ⟨(wn_iff.1 t).1, k, (wn_iff.1 t).2.2.2.2⟩))
    clear EX h k
    go_enter Try.func24, Try.ntmps24
    go_wp2_with fail
    go_region_held3 (fun w' => w'.cell? ⟨w.heap.size, 0, none⟩ = some (.int .i64 lo) ∧ w'.cell? ⟨w.heap.size, 1, none⟩ = some (.int .i64 hi)) (simp [go_sem, *])
      (first | (go_at_call 39; refine (EH.out _ _ _ (by simp) (by simp [go_sem])).mono ?_; rintro e w1 ⟨rfl, g1⟩; obtain ⟨c1, f1, z1⟩ := laid g1; (try simp at z1); (try simp only [World.size_drew, World.cell?_drew] at c1); have G1 : Grown w w1 := Grown.trans (by go_grown) g1; clear g1; have z1_0 : w.heap.size < w1.heap.size := (by omega)) | (go_at_call 40; refine (WH.out _).mono ?_; rintro e w2 ⟨rfl, g2⟩; obtain ⟨c2, f2, z2⟩ := laid g2; (try simp at z2); (try simp only [World.size_drew, World.cell?_drew] at c2); have G2 : Grown w w2 := Grown.trans (by go_grown) g2; clear g2; have z2_0 : w.heap.size < w2.heap.size := (by omega)))
    go_wp2_with fail
    go_ret
    exact ⟨rfl, by go_grown⟩
  · have EX : ∀ (bb cc : Nat) (w : World), bb < w.heap.size → w.cell? ⟨bb, 0, none⟩ = some (.int .i64 hi) → Calls Try.prog 39 #[.int .i64 lo, .slice (some ⟨bb, 0, none⟩) 1 cc] w fun e w' => e = .returned (.agg #[.int .i64 hi, .int .i64 lo]) ∧ Grown w w' := fun bb cc w hb q => by
      have := ends1 lo hi bb cc w hb q
      rwa [mn_min, mx_max, Int.min_eq_right (by omega), Int.max_eq_left (by omega)] at this
    have EH := Lib.hid EX
    have k2 : (lo == hi) = false := by simp; omega
    clear EX h k
    go_enter Try.func24, Try.ntmps24
    go_wp2_with fail
    refine wp_region_held_drew (S := (fun w' => w'.cell? ⟨w.heap.size, 0, none⟩ = some (.int .i64 lo) ∧ w'.cell? ⟨w.heap.size, 1, none⟩ = some (.int .i64 hi))) (by kernel_rfl) (by simp [go_sem, *]) (fun hHeld => ?_)
    refine wpAnyH_take (i := 0) (oi := ⟨some 3, _, _, _, _, _⟩) (v := ?_) rfl (by kernel_rfl) (by kernel_rfl) (by kernel_rfl) (fun _ _ _ h => h) (Or.inl ⟨by rfl, ?_⟩) (by assumption) ?_
    rotate_left
    · intro w hSw; (try dsimp only at hSw); go_simp; (try with_reducible rfl)
    try simp only [Act.put, List.setIfInBounds_toArray, List.set_cons_zero, List.set_cons_succ]
    refine wpAnyH_take (i := 1) (oi := ⟨some 4, _, _, _, _, _⟩) (v := ?_) rfl (by kernel_rfl) (by kernel_rfl) (by kernel_rfl) (fun _ _ _ h => h) (Or.inl ⟨by rfl, ?_⟩) (by assumption) ?_
    rotate_left
    · intro w hSw; (try dsimp only at hSw); go_simp; (try with_reducible rfl)
    try simp only [Act.put, List.setIfInBounds_toArray, List.set_cons_zero, List.set_cons_succ]
    refine wpAnyH_take (i := 2) (oi := ⟨some 5, _, _, _, _, _⟩) (v := ?_) rfl (by kernel_rfl) (by kernel_rfl) (by kernel_rfl) (fun _ _ _ h => h) (Or.inl ⟨by rfl, ?_⟩) (by assumption) ?_
    rotate_left
    · intro w hSw; (try dsimp only at hSw); go_simp; (try with_reducible rfl)
    try simp only [Act.put, List.setIfInBounds_toArray, List.set_cons_zero, List.set_cons_succ]
    refine wpAnyH_take (i := 3) (oi := ⟨some 6, _, _, _, _, _⟩) (v := ?_) rfl (by kernel_rfl) (by kernel_rfl) (by kernel_rfl) (fun _ _ _ h => h) (Or.inl ⟨by rfl, ?_⟩) (by assumption) ?_
    rotate_left
    · intro w hSw; (try dsimp only at hSw); go_simp; (try with_reducible rfl)
    try simp only [Act.put, List.setIfInBounds_toArray, List.set_cons_zero, List.set_cons_succ]
    refine wpAnyH_take (i := 4) (oi := ⟨some 7, _, _, _, _, _⟩) (v := ?_) rfl (by kernel_rfl) (by kernel_rfl) (by kernel_rfl) (fun _ _ _ h => h) (Or.inl ⟨by rfl, ?_⟩) (by assumption) ?_
    rotate_left
    · intro w hSw; (try dsimp only at hSw); go_simp; (try with_reducible rfl)
    try simp only [Act.put, List.setIfInBounds_toArray, List.set_cons_zero, List.set_cons_succ]
    refine wpAnyH_ready (rs := [5]) (by kernel_rfl) (by simp) ?_
    refine AllReadyH.cons (o := ⟨some 8, _, _, _, _, _⟩) rfl (fun K hK => ?_) AllReadyH.nil
    go_simp
    refine hK.out _ _ (by (try dsimp only); simp [go_sem, *]) (fun h1 => ?_)
    clear hK K hHeld
    have hHeld := h1
    clear h1
    try simp only [Act.put, List.setIfInBounds_toArray, List.set_cons_zero, List.set_cons_succ]
    refine wpAnyH_ready (rs := [6]) (by kernel_rfl) (by simp) ?_
    refine AllReadyH.cons (o := ⟨some 9, _, _, _, _, _⟩) rfl (fun K hK => ?_) AllReadyH.nil
    go_simp
    (go_at_call 39; refine (EH.out _ _ _ (by simp) (by simp [go_sem])).mono ?_; rintro e w1 ⟨rfl, g1⟩; obtain ⟨c1, f1, z1⟩ := laid g1; (try simp at z1); (try simp only [World.size_drew, World.cell?_drew] at c1); have G1 : Grown w w1 := Grown.trans (by go_grown) g1; clear g1; have z1_0 : w.heap.size < w1.heap.size := (by omega))
    go_wp2_with fail
    refine hK.out _ _ (by (try dsimp only); simp [go_sem, *]) (fun h1 => ?_)
    clear hK K hHeld
    have hHeld := h1
    clear h1
    try simp only [Act.put, List.setIfInBounds_toArray, List.set_cons_zero, List.set_cons_succ]
    refine wpAnyH_take (i := 7) (oi := ⟨some 10, _, _, _, _, _⟩) (v := ?_) rfl (by kernel_rfl) (by kernel_rfl) (by kernel_rfl) (fun _ _ _ h => h) (Or.inl ⟨by rfl, ?_⟩) (by assumption) ?_
    rotate_left
    · intro w hSw; (try dsimp only at hSw); go_simp; (try with_reducible rfl)
    try simp only [Act.put, List.setIfInBounds_toArray, List.set_cons_zero, List.set_cons_succ]
    refine wpAnyH_take (i := 8) (oi := ⟨some 11, _, _, _, _, _⟩) (v := ?_) rfl (by kernel_rfl) (by kernel_rfl) (by kernel_rfl) (fun _ _ _ h => h) (Or.inl ⟨by rfl, ?_⟩) (by assumption) ?_
    rotate_left
    · intro w hSw; (try dsimp only at hSw); go_simp; (try with_reducible rfl)
    try simp only [Act.put, List.setIfInBounds_toArray, List.set_cons_zero, List.set_cons_succ]
    refine wpAnyH_take (i := 9) (oi := ⟨some 12, _, _, _, _, _⟩) (v := undef) rfl (by kernel_rfl) (by kernel_rfl) (by kernel_rfl) (fun _ _ _ h => h) (Or.inr ⟨by rfl, rfl⟩) (by assumption) ?_
    try simp only [Act.put, List.setIfInBounds_toArray, List.set_cons_zero, List.set_cons_succ]
    refine wpAnyH_take (i := 10) (oi := ⟨some 13, _, _, _, _, _⟩) (v := undef) rfl (by kernel_rfl) (by kernel_rfl) (by kernel_rfl) (fun _ _ _ h => h) (Or.inr ⟨by rfl, rfl⟩) (by assumption) ?_
    try simp only [Act.put, List.setIfInBounds_toArray, List.set_cons_zero, List.set_cons_succ]
    refine wpAnyH_take (i := 11) (oi := ⟨some 14, _, _, _, _, _⟩) (v := undef) rfl (by kernel_rfl) (by kernel_rfl) (by kernel_rfl) (fun _ _ _ h => h) (Or.inr ⟨by rfl, rfl⟩) (by assumption) ?_
    try simp only [Act.put, List.setIfInBounds_toArray, List.set_cons_zero, List.set_cons_succ]
    refine wpAnyH_take (i := 12) (oi := ⟨some 15, _, _, _, _, _⟩) (v := ?_) rfl (by kernel_rfl) (by kernel_rfl) (by kernel_rfl) (fun _ _ _ h => h) (Or.inl ⟨by rfl, ?_⟩) (by assumption) ?_
    rotate_left
    · intro w hSw; (try dsimp only at hSw); go_simp; (try with_reducible rfl)
    try simp only [Act.put, List.setIfInBounds_toArray, List.set_cons_zero, List.set_cons_succ]
    refine wpAnyH_take (i := 13) (oi := ⟨some 2, _, _, _, _, _⟩) (v := ?_) rfl (by kernel_rfl) (by kernel_rfl) (by kernel_rfl) (fun _ _ _ h => h) (Or.inl ⟨by rfl, ?_⟩) (by assumption) ?_
    rotate_left
    · intro w hSw; (try dsimp only at hSw); go_simp; (try with_reducible rfl)
    try simp only [Act.put, List.setIfInBounds_toArray, List.set_cons_zero, List.set_cons_succ]
    refine wpAnyH_done (by kernel_rfl) ?_ _
    go_wp2_with fail
    go_ret
    exact ⟨rfl, by go_grown⟩
end Sn
end Go.Proofs.Ytndabfpinkakbaa
