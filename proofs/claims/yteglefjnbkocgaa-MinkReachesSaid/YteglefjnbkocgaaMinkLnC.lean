/-
  The landed pull: the next side of two lists.
-/
import Derived.Test.YteglefjnbkocgaaMinkLnA
import Derived.Deep.RegionHeld3
namespace Go.Proofs.Yteglefjnbkocgaa
open Go.RowKit Go.Shelf Hl
namespace Mk
def TailOf (o n c oa ca : Nat) : Prop := (n = 0 ∨ oa = o + 2) ∧ n ≤ ca ∧ ca ≤ c
theorem row_tail {w : World} {g o : Nat} {x : Pt} {A : List Pt} (h : Row w g o (x :: A)) : Row w g (o + 2) A := ⟨h.1, fun i hi => by
  have := h.2 (i + 1) (by simpa using hi)
  rw [show o + 2 + i * 2 = o + (i + 1) * 2 by omega]
  exact this⟩
theorem row_head {w : World} {g o : Nat} {x : Pt} {A : List Pt} (h : Row w g o (x :: A)) : w.cell? ⟨g, o, none⟩ = some (.int .i64 x.1) ∧ w.cell? ⟨g, o + 1, none⟩ = some (.int .i64 x.2) := by
  have := h.2 0 (by simp)
  simp only [Nat.zero_mul, Nat.add_zero] at this
  exact this
set_option maxRecDepth 100000 in
set_option maxHeartbeats 8000000 in
theorem pull_a (x y : Pt) (n m g o c g' o' c' : Nat) (w : World) (hx : Wp x) (hy : Wp y) (hgl : g < w.heap.size) (hgl' : g' < w.heap.size) (h1 : w.cell? ⟨g, o, none⟩ = some (.int .i64 x.1) ∧ w.cell? ⟨g, o + 1, none⟩ = some (.int .i64 x.2)) (h2 : w.cell? ⟨g', o', none⟩ = some (.int .i64 y.1) ∧ w.cell? ⟨g', o' + 1, none⟩ = some (.int .i64 y.2)) (hn : n + 1 ≤ c) (hm : m + 1 ≤ c') (hc : c ≤ 9223372036854775807) (_hc' : c' ≤ 9223372036854775807) (hd : 0 < xp x y) :
    Calls Try.prog 72 #[.slice (some ⟨g, o, none⟩) (n + 1) c, .slice (some ⟨g', o', none⟩) (m + 1) c'] w fun e w' => ∃ oa ca , TailOf o n c oa ca ∧ e = .returned (.tuple #[.agg #[.int .i64 x.1, .int .i64 x.2], .slice (some ⟨g, oa, none⟩) n ca, .slice (some ⟨g', o', none⟩) (m + 1) c']) ∧ Grew w w' := by
  obtain ⟨x0, x1⟩ := h1
  obtain ⟨y0, y1⟩ := h2
  have OC := Lib.hid (fun W => order_m x y W hx hy)
  have PC := Lib.hid (fun W => plus_m x y W hx hy)
  obtain ⟨z, hz⟩ : ∃ z, -(xp x y) = z := ⟨_, rfl⟩
  have zn : z < 0 := by omega
  have zm : ¬ 0 < z := by omega
  rw [hz] at OC
  obtain ⟨s, hs⟩ : ∃ s, plus x y = s := ⟨_, rfl⟩
  rw [hs] at PC
  try rw [hs]
  have zd : decide (z < 0) = true := by simp; omega
  clear hz hd hx hy
  have q1 : ¬ ((m : Int) + 1 = 0) := by omega
  have q2 : (0 : Int) < (n : Int) + 1 := by omega
  have q3 : (0 : Int) < (m : Int) + 1 := by omega
  have q4 : ¬ ((n : Int) + 1 = 0) := by omega
  have q5 : (1 : Int) ≤ (n : Int) + 1 := by omega
  have q6 : (1 : Int) ≤ (m : Int) + 1 := by omega
  have q7 : (n : Int) + 1 ≤ (c : Int) := by omega
  have q8 : (m : Int) + 1 ≤ (c' : Int) := by omega
  have l1 : g < w.heap.size + 1 := by omega
  have l2 : g < w.heap.size + 1 + 1 := by omega
  have l3 : g < w.heap.size + 1 + 1 + 1 := by omega
  have l4 : g < w.heap.size + 1 + 1 + 1 + 1 := by omega
  have l5 : g < w.heap.size + 1 + 1 + 1 + 1 + 1 := by omega
  have l6 : g < w.heap.size + 1 + 1 + 1 + 1 + 1 + 1 := by omega
  have k1 : g' < w.heap.size + 1 := by omega
  have k2 : g' < w.heap.size + 1 + 1 := by omega
  have k3 : g' < w.heap.size + 1 + 1 + 1 := by omega
  have k4 : g' < w.heap.size + 1 + 1 + 1 + 1 := by omega
  have k5 : g' < w.heap.size + 1 + 1 + 1 + 1 + 1 := by omega
  have k6 : g' < w.heap.size + 1 + 1 + 1 + 1 + 1 + 1 := by omega
  have hmx : Try.prog.follows .mixedOrders = true := by kernel_rfl
  go_enter Try.func72, Try.ntmps72
  go_wp2_with fail
  go_region_held3 (fun W => (W.cell? ⟨g, o, none⟩ = some (.int .i64 x.1) ∧ W.cell? ⟨g, o + 1, none⟩ = some (.int .i64 x.2)) ∧ (W.cell? ⟨g', o', none⟩ = some (.int .i64 y.1) ∧ W.cell? ⟨g', o' + 1, none⟩ = some (.int .i64 y.2))) (simp [go_sem, *])
    ((first | (go_at_call 80; refine (OC.out _).mono ?_; rintro e w' ⟨rfl, rfl⟩) | (go_at_call 36; refine (PC.out _).mono ?_; rintro e w' ⟨rfl, rfl⟩)))
  go_wp2_with fail
  go_region_o
  all_goals go_wp2_with fail
  all_goals first
    | exact bodyPost_ret (v := .tuple #[.agg #[.int .i64 x.1, .int .i64 x.2], .slice (some ⟨g, o, none⟩) n 0, .slice (some ⟨g', o', none⟩) (m + 1) c']) (by simp [results, Try.results72, go_sem]) rfl ⟨o, 0, ⟨Or.inl (by omega), by omega, by omega⟩, rfl, (by (repeat' (first | (with_reducible exact Grew.refl _) | (with_reducible assumption) | (with_reducible refine Grew.alloc ?_ _ _) | (with_reducible refine Grew.drew ?_) | (with_reducible refine Grew.drewN ?_ _) | (with_reducible refine Grew.setCell ?_ ?_ _) | go_size)))⟩
    | exact bodyPost_ret (v := .tuple #[.agg #[.int .i64 x.1, .int .i64 x.2], .slice (some ⟨g, (o + 2), none⟩) n (c - 1), .slice (some ⟨g', o', none⟩) (m + 1) c']) (by simp [results, Try.results72, go_sem]) rfl ⟨(o + 2), (c - 1), ⟨Or.inr rfl, by omega, by omega⟩, rfl, (by (repeat' (first | (with_reducible exact Grew.refl _) | (with_reducible assumption) | (with_reducible refine Grew.alloc ?_ _ _) | (with_reducible refine Grew.drew ?_) | (with_reducible refine Grew.drewN ?_ _) | (with_reducible refine Grew.setCell ?_ ?_ _) | go_size)))⟩
set_option maxRecDepth 100000 in
set_option maxHeartbeats 8000000 in
theorem pull_b (x y : Pt) (n m g o c g' o' c' : Nat) (w : World) (hx : Wp x) (hy : Wp y) (hgl : g < w.heap.size) (hgl' : g' < w.heap.size) (h1 : w.cell? ⟨g, o, none⟩ = some (.int .i64 x.1) ∧ w.cell? ⟨g, o + 1, none⟩ = some (.int .i64 x.2)) (h2 : w.cell? ⟨g', o', none⟩ = some (.int .i64 y.1) ∧ w.cell? ⟨g', o' + 1, none⟩ = some (.int .i64 y.2)) (hn : n + 1 ≤ c) (hm : m + 1 ≤ c') (_hc : c ≤ 9223372036854775807) (hc' : c' ≤ 9223372036854775807) (hd : xp x y < 0) :
    Calls Try.prog 72 #[.slice (some ⟨g, o, none⟩) (n + 1) c, .slice (some ⟨g', o', none⟩) (m + 1) c'] w fun e w' => ∃ ob cb , TailOf o' m c' ob cb ∧ e = .returned (.tuple #[.agg #[.int .i64 y.1, .int .i64 y.2], .slice (some ⟨g, o, none⟩) (n + 1) c, .slice (some ⟨g', ob, none⟩) m cb]) ∧ Grew w w' := by
  obtain ⟨x0, x1⟩ := h1
  obtain ⟨y0, y1⟩ := h2
  have OC := Lib.hid (fun W => order_m x y W hx hy)
  have PC := Lib.hid (fun W => plus_m x y W hx hy)
  obtain ⟨z, hz⟩ : ∃ z, -(xp x y) = z := ⟨_, rfl⟩
  have zn : 0 < z := by omega
  have zm : ¬ z < 0 := by omega
  rw [hz] at OC
  obtain ⟨s, hs⟩ : ∃ s, plus x y = s := ⟨_, rfl⟩
  rw [hs] at PC
  try rw [hs]
  have zd : decide (z < 0) = false := by simp; omega
  clear hz hd hx hy
  have q1 : ¬ ((m : Int) + 1 = 0) := by omega
  have q2 : (0 : Int) < (n : Int) + 1 := by omega
  have q3 : (0 : Int) < (m : Int) + 1 := by omega
  have q4 : ¬ ((n : Int) + 1 = 0) := by omega
  have q5 : (1 : Int) ≤ (n : Int) + 1 := by omega
  have q6 : (1 : Int) ≤ (m : Int) + 1 := by omega
  have q7 : (n : Int) + 1 ≤ (c : Int) := by omega
  have q8 : (m : Int) + 1 ≤ (c' : Int) := by omega
  have l1 : g < w.heap.size + 1 := by omega
  have l2 : g < w.heap.size + 1 + 1 := by omega
  have l3 : g < w.heap.size + 1 + 1 + 1 := by omega
  have l4 : g < w.heap.size + 1 + 1 + 1 + 1 := by omega
  have l5 : g < w.heap.size + 1 + 1 + 1 + 1 + 1 := by omega
  have l6 : g < w.heap.size + 1 + 1 + 1 + 1 + 1 + 1 := by omega
  have k1 : g' < w.heap.size + 1 := by omega
  have k2 : g' < w.heap.size + 1 + 1 := by omega
  have k3 : g' < w.heap.size + 1 + 1 + 1 := by omega
  have k4 : g' < w.heap.size + 1 + 1 + 1 + 1 := by omega
  have k5 : g' < w.heap.size + 1 + 1 + 1 + 1 + 1 := by omega
  have k6 : g' < w.heap.size + 1 + 1 + 1 + 1 + 1 + 1 := by omega
  have hmx : Try.prog.follows .mixedOrders = true := by kernel_rfl
  go_enter Try.func72, Try.ntmps72
  go_wp2_with fail
  go_region_held3 (fun W => (W.cell? ⟨g, o, none⟩ = some (.int .i64 x.1) ∧ W.cell? ⟨g, o + 1, none⟩ = some (.int .i64 x.2)) ∧ (W.cell? ⟨g', o', none⟩ = some (.int .i64 y.1) ∧ W.cell? ⟨g', o' + 1, none⟩ = some (.int .i64 y.2))) (simp [go_sem, *])
    ((first | (go_at_call 80; refine (OC.out _).mono ?_; rintro e w' ⟨rfl, rfl⟩) | (go_at_call 36; refine (PC.out _).mono ?_; rintro e w' ⟨rfl, rfl⟩)))
  go_wp2_with fail
  go_region_held3 (fun W => (W.cell? ⟨g, o, none⟩ = some (.int .i64 x.1) ∧ W.cell? ⟨g, o + 1, none⟩ = some (.int .i64 x.2)) ∧ (W.cell? ⟨g', o', none⟩ = some (.int .i64 y.1) ∧ W.cell? ⟨g', o' + 1, none⟩ = some (.int .i64 y.2))) (simp [go_sem, *])
    ((first | (go_at_call 80; refine (OC.out _).mono ?_; rintro e w' ⟨rfl, rfl⟩) | (go_at_call 36; refine (PC.out _).mono ?_; rintro e w' ⟨rfl, rfl⟩)))
  go_wp2_with fail
  go_region_o
  all_goals go_wp2_with fail
  all_goals first
    | exact bodyPost_ret (v := .tuple #[.agg #[.int .i64 y.1, .int .i64 y.2], .slice (some ⟨g, o, none⟩) (n + 1) c, .slice (some ⟨g', o', none⟩) m 0]) (by simp [results, Try.results72, go_sem]) rfl ⟨o', 0, ⟨Or.inl (by omega), by omega, by omega⟩, rfl, (by (repeat' (first | (with_reducible exact Grew.refl _) | (with_reducible assumption) | (with_reducible refine Grew.alloc ?_ _ _) | (with_reducible refine Grew.drew ?_) | (with_reducible refine Grew.drewN ?_ _) | (with_reducible refine Grew.setCell ?_ ?_ _) | go_size)))⟩
    | exact bodyPost_ret (v := .tuple #[.agg #[.int .i64 y.1, .int .i64 y.2], .slice (some ⟨g, o, none⟩) (n + 1) c, .slice (some ⟨g', (o' + 2), none⟩) m (c' - 1)]) (by simp [results, Try.results72, go_sem]) rfl ⟨(o' + 2), (c' - 1), ⟨Or.inr rfl, by omega, by omega⟩, rfl, (by (repeat' (first | (with_reducible exact Grew.refl _) | (with_reducible assumption) | (with_reducible refine Grew.alloc ?_ _ _) | (with_reducible refine Grew.drew ?_) | (with_reducible refine Grew.drewN ?_ _) | (with_reducible refine Grew.setCell ?_ ?_ _) | go_size)))⟩
set_option maxRecDepth 100000 in
set_option maxHeartbeats 8000000 in
theorem pull_ab (x y : Pt) (n m g o c g' o' c' : Nat) (w : World) (hx : Wp x) (hy : Wp y) (hgl : g < w.heap.size) (hgl' : g' < w.heap.size) (h1 : w.cell? ⟨g, o, none⟩ = some (.int .i64 x.1) ∧ w.cell? ⟨g, o + 1, none⟩ = some (.int .i64 x.2)) (h2 : w.cell? ⟨g', o', none⟩ = some (.int .i64 y.1) ∧ w.cell? ⟨g', o' + 1, none⟩ = some (.int .i64 y.2)) (hn : n + 1 ≤ c) (hm : m + 1 ≤ c') (hc : c ≤ 9223372036854775807) (hc' : c' ≤ 9223372036854775807) (hd : xp x y = 0) :
    Calls Try.prog 72 #[.slice (some ⟨g, o, none⟩) (n + 1) c, .slice (some ⟨g', o', none⟩) (m + 1) c'] w fun e w' => ∃ oa ca ob cb , TailOf o n c oa ca ∧ TailOf o' m c' ob cb ∧ e = .returned (.tuple #[.agg #[.int .i64 (plus x y).1, .int .i64 (plus x y).2], .slice (some ⟨g, oa, none⟩) n ca, .slice (some ⟨g', ob, none⟩) m cb]) ∧ Grew w w' := by
  obtain ⟨x0, x1⟩ := h1
  obtain ⟨y0, y1⟩ := h2
  have OC := Lib.hid (fun W => order_m x y W hx hy)
  have PC := Lib.hid (fun W => plus_m x y W hx hy)
  obtain ⟨z, hz⟩ : ∃ z, -(xp x y) = z := ⟨_, rfl⟩
  have zn : z = 0 := by omega
  have zm : ¬ z < 0 := by omega
  rw [hz] at OC
  obtain ⟨s, hs⟩ : ∃ s, plus x y = s := ⟨_, rfl⟩
  rw [hs] at PC
  try rw [hs]
  have zd : decide (z < 0) = false := by simp; omega
  clear hz hd hx hy
  have q1 : ¬ ((m : Int) + 1 = 0) := by omega
  have q2 : (0 : Int) < (n : Int) + 1 := by omega
  have q3 : (0 : Int) < (m : Int) + 1 := by omega
  have q4 : ¬ ((n : Int) + 1 = 0) := by omega
  have q5 : (1 : Int) ≤ (n : Int) + 1 := by omega
  have q6 : (1 : Int) ≤ (m : Int) + 1 := by omega
  have q7 : (n : Int) + 1 ≤ (c : Int) := by omega
  have q8 : (m : Int) + 1 ≤ (c' : Int) := by omega
  have l1 : g < w.heap.size + 1 := by omega
  have l2 : g < w.heap.size + 1 + 1 := by omega
  have l3 : g < w.heap.size + 1 + 1 + 1 := by omega
  have l4 : g < w.heap.size + 1 + 1 + 1 + 1 := by omega
  have l5 : g < w.heap.size + 1 + 1 + 1 + 1 + 1 := by omega
  have l6 : g < w.heap.size + 1 + 1 + 1 + 1 + 1 + 1 := by omega
  have k1 : g' < w.heap.size + 1 := by omega
  have k2 : g' < w.heap.size + 1 + 1 := by omega
  have k3 : g' < w.heap.size + 1 + 1 + 1 := by omega
  have k4 : g' < w.heap.size + 1 + 1 + 1 + 1 := by omega
  have k5 : g' < w.heap.size + 1 + 1 + 1 + 1 + 1 := by omega
  have k6 : g' < w.heap.size + 1 + 1 + 1 + 1 + 1 + 1 := by omega
  have hmx : Try.prog.follows .mixedOrders = true := by kernel_rfl
  rcases (show c = 1 ∨ c ≠ 1 by omega) with hc1 | hc1 <;> rcases (show c' = 1 ∨ c' ≠ 1 by omega) with hc2 | hc2
  all_goals (first | (have hc3 : c - 1 ≠ 0 := by omega) | skip)
  all_goals (first | (have hc4 : c' - 1 ≠ 0 := by omega) | skip)
  all_goals go_enter Try.func72, Try.ntmps72
  all_goals go_wp2_with fail
  all_goals
    go_region_held3 (fun W => (W.cell? ⟨g, o, none⟩ = some (.int .i64 x.1) ∧ W.cell? ⟨g, o + 1, none⟩ = some (.int .i64 x.2)) ∧ (W.cell? ⟨g', o', none⟩ = some (.int .i64 y.1) ∧ W.cell? ⟨g', o' + 1, none⟩ = some (.int .i64 y.2))) (simp [go_sem, *])
    ((first | (go_at_call 80; refine (OC.out _).mono ?_; rintro e w' ⟨rfl, rfl⟩) | (go_at_call 36; refine (PC.out _).mono ?_; rintro e w' ⟨rfl, rfl⟩)))
  all_goals go_wp2_with fail
  all_goals
    go_region_held3 (fun W => (W.cell? ⟨g, o, none⟩ = some (.int .i64 x.1) ∧ W.cell? ⟨g, o + 1, none⟩ = some (.int .i64 x.2)) ∧ (W.cell? ⟨g', o', none⟩ = some (.int .i64 y.1) ∧ W.cell? ⟨g', o' + 1, none⟩ = some (.int .i64 y.2))) (simp [go_sem, *])
    ((first | (go_at_call 80; refine (OC.out _).mono ?_; rintro e w' ⟨rfl, rfl⟩) | (go_at_call 36; refine (PC.out _).mono ?_; rintro e w' ⟨rfl, rfl⟩)))
  all_goals go_wp2_with fail
  all_goals
    go_region_held3 (fun W => (W.cell? ⟨g, o, none⟩ = some (.int .i64 x.1) ∧ W.cell? ⟨g, o + 1, none⟩ = some (.int .i64 x.2)) ∧ (W.cell? ⟨g', o', none⟩ = some (.int .i64 y.1) ∧ W.cell? ⟨g', o' + 1, none⟩ = some (.int .i64 y.2))) (simp [go_sem, *])
    ((first | (go_at_call 80; refine (OC.out _).mono ?_; rintro e w' ⟨rfl, rfl⟩) | (go_at_call 36; refine (PC.out _).mono ?_; rintro e w' ⟨rfl, rfl⟩)))
  all_goals go_wp2_with fail
  all_goals go_wp2_with fail
  all_goals first
    | exact bodyPost_ret (v := .tuple #[.agg #[.int .i64 s.1, .int .i64 s.2], .slice (some ⟨g, o, none⟩) n 0, .slice (some ⟨g', o', none⟩) m 0]) (by simp [results, Try.results72, go_sem]) rfl ⟨o, 0, o', 0, ⟨Or.inl (by omega), by omega, by omega⟩, ⟨Or.inl (by omega), by omega, by omega⟩, rfl, (by (repeat' (first | (with_reducible exact Grew.refl _) | (with_reducible assumption) | (with_reducible refine Grew.alloc ?_ _ _) | (with_reducible refine Grew.drew ?_) | (with_reducible refine Grew.drewN ?_ _) | (with_reducible refine Grew.setCell ?_ ?_ _) | go_size)))⟩
    | exact bodyPost_ret (v := .tuple #[.agg #[.int .i64 s.1, .int .i64 s.2], .slice (some ⟨g, o, none⟩) n 0, .slice (some ⟨g', (o' + 2), none⟩) m (c' - 1)]) (by simp [results, Try.results72, go_sem]) rfl ⟨o, 0, (o' + 2), (c' - 1), ⟨Or.inl (by omega), by omega, by omega⟩, ⟨Or.inr rfl, by omega, by omega⟩, rfl, (by (repeat' (first | (with_reducible exact Grew.refl _) | (with_reducible assumption) | (with_reducible refine Grew.alloc ?_ _ _) | (with_reducible refine Grew.drew ?_) | (with_reducible refine Grew.drewN ?_ _) | (with_reducible refine Grew.setCell ?_ ?_ _) | go_size)))⟩
    | exact bodyPost_ret (v := .tuple #[.agg #[.int .i64 s.1, .int .i64 s.2], .slice (some ⟨g, (o + 2), none⟩) n (c - 1), .slice (some ⟨g', o', none⟩) m 0]) (by simp [results, Try.results72, go_sem]) rfl ⟨(o + 2), (c - 1), o', 0, ⟨Or.inr rfl, by omega, by omega⟩, ⟨Or.inl (by omega), by omega, by omega⟩, rfl, (by (repeat' (first | (with_reducible exact Grew.refl _) | (with_reducible assumption) | (with_reducible refine Grew.alloc ?_ _ _) | (with_reducible refine Grew.drew ?_) | (with_reducible refine Grew.drewN ?_ _) | (with_reducible refine Grew.setCell ?_ ?_ _) | go_size)))⟩
    | exact bodyPost_ret (v := .tuple #[.agg #[.int .i64 s.1, .int .i64 s.2], .slice (some ⟨g, (o + 2), none⟩) n (c - 1), .slice (some ⟨g', (o' + 2), none⟩) m (c' - 1)]) (by simp [results, Try.results72, go_sem]) rfl ⟨(o + 2), (c - 1), (o' + 2), (c' - 1), ⟨Or.inr rfl, by omega, by omega⟩, ⟨Or.inr rfl, by omega, by omega⟩, rfl, (by (repeat' (first | (with_reducible exact Grew.refl _) | (with_reducible assumption) | (with_reducible refine Grew.alloc ?_ _ _) | (with_reducible refine Grew.drew ?_) | (with_reducible refine Grew.drewN ?_ _) | (with_reducible refine Grew.setCell ?_ ?_ _) | go_size)))⟩
end Mk
end Go.Proofs.Yteglefjnbkocgaa
