/-
  Scale of package exact, and what it calls.
  The landed Scale, where its results are in range: what was there stays.
-/
import Derived.Deep.RegionHeld3
import Derived.Test.YtcihkpjdjenbjaaDoorExactPlain
import Derived.Test.YtcihkpjdjenbjaaDoorHullRef
namespace Go.Proofs.YtcihkpjdjenbjaaDoor
open Go.RowKit
namespace Ex

def lim (n : Int) : Int := if n < -1000000000000 then -1000000000000 else if 1000000000000 < n then 1000000000000 else n
theorem lim_in {n : Int} (h : -1000000000000 ≤ n ∧ n ≤ 1000000000000) : lim n = n := by unfold lim; rw [if_neg (by omega), if_neg (by omega)]
theorem limit_any (n : Int) (w : World) :
    Calls Tryd.prog 79 #[.int .i64 n] w fun e w' => e = .returned (.int .i64 (lim n)) ∧ w = w' := by
  by_cases h : n < -1000000000000
  · have H : Hid (lim n = -1000000000000) := Lib.hid (by unfold lim; rw [if_pos h])
    have h2 : n ≤ 1000000000000 := by omega
    have h3 : n ≤ -1000000000000 := by omega
    go_enter Tryd.func79, Tryd.ntmps79
    go_wp2
    all_goals (go_ret; exact ⟨by rw [H.out]; first | rfl | (simp; omega), rfl⟩)
  · by_cases h1 : 1000000000000 < n
    · have H : Hid (lim n = 1000000000000) := Lib.hid (by unfold lim; rw [if_neg h, if_pos h1])
      go_enter Tryd.func79, Tryd.ntmps79
      go_wp2
      all_goals (go_ret; exact ⟨by rw [H.out]; first | rfl | (simp; omega), rfl⟩)
    · have H : Hid (lim n = n) := Lib.hid (lim_in ⟨by omega, by omega⟩)
      have h2 : n ≤ 1000000000000 := by omega
      have h3 : -1000000000000 ≤ n := by omega
      go_enter Tryd.func79, Tryd.ntmps79
      go_wp2
      all_goals (go_ret; exact ⟨by rw [H.out]; first | rfl | (simp; omega), rfl⟩)

theorem Grown.cell {W w : World} (h : Grown W w) {b o : Nat} (hb : b < W.heap.size) : w.cell? ⟨b, o, none⟩ = W.cell? ⟨b, o, none⟩ :=
  World.keptBut.cell h.1 hb (fun f => f)

/-- What Scale takes. -/
def Sc (n a b : Int) : Prop := (-1000000000000 ≤ n ∧ n ≤ 1000000000000) ∧ (0 ≤ a ∧ a ≤ 1000000) ∧ (1 ≤ b ∧ b ≤ 1000000)
/-- Both results are within MaxSpan. -/
def Sp (n : Int) : Prop := -1000000000000 ≤ n ∧ n ≤ 1000000000000

theorem mul_bd {n a : Int} (hn : -1000000000000 ≤ n ∧ n ≤ 1000000000000) (ha : 0 ≤ a ∧ a ≤ 1000000) : -1000000000000000000 ≤ n * a ∧ n * a ≤ 1000000000000000000 := by
  have h1 : n * a ≤ 1000000000000 * a := Int.mul_le_mul_of_nonneg_right hn.2 ha.1
  have h2 : -1000000000000 * a ≤ n * a := Int.mul_le_mul_of_nonneg_right hn.1 ha.1
  omega

end Ex
end Go.Proofs.YtcihkpjdjenbjaaDoor
namespace Go.Proofs.YtcihkpjdjenbjaaDoor
open Go.RowKit Hl Ex
namespace Ry
theorem limited_g (lo hi : Int) (w : World) :
    Calls Tryd.prog 68 #[.agg #[.int .i64 lo, .int .i64 hi]] w fun e w' => e = .returned (.agg #[.int .i64 (lim lo), .int .i64 (lim hi)]) ∧ Grew w w' := by
  go_enter Tryd.func68, Tryd.ntmps68
  go_wp2_with fail
  go_region_held3 (fun w' => w'.cell? ⟨w.heap.size, 0, none⟩ = some (.int .i64 lo) ∧ w'.cell? ⟨w.heap.size, 1, none⟩ = some (.int .i64 hi)) (simp [go_sem, World.cell?_alloc_past])
    (first | (go_at_call 79; refine (limit_any _ _).mono ?_; rintro e w' ⟨rfl, rfl⟩))
  go_wp2_with fail
  refine bodyPost_ret (v := .agg #[.int .i64 (lim lo), .int .i64 (lim hi)]) (by simp [results, Tryd.results68, go_sem]) rfl ⟨rfl, ?_⟩
  repeat' (first | exact Grew.refl _ | apply Grew.drew | apply Grew.alloc)

theorem limited_keep_g (lo hi : Int) (b : Nat) (x y : Value) (w : World) (hb : b < w.heap.size) (h0 : w.cell? ⟨b, 0, none⟩ = some x) (h1 : w.cell? ⟨b, 1, none⟩ = some y) :
    Calls Tryd.prog 68 #[.agg #[.int .i64 lo, .int .i64 hi]] w fun e w' => e = .returned (.agg #[.int .i64 (lim lo), .int .i64 (lim hi)]) ∧ Grew w w' ∧ w'.cell? ⟨b, 0, none⟩ = some x ∧ w'.cell? ⟨b, 1, none⟩ = some y :=
  (limited_g lo hi w).mono fun _ _ ⟨he, hg⟩ => ⟨he, hg, (Grew.cell hg hb).trans h0, (Grew.cell hg hb).trans h1⟩

/-- Both are within MaxSpan: nothing is cut. -/
theorem limited_in_g (lo hi : Int) (h : (-1000000000000 ≤ lo ∧ lo ≤ 1000000000000) ∧ (-1000000000000 ≤ hi ∧ hi ≤ 1000000000000)) (b : Nat) (x y : Value) (w : World) (hb : b < w.heap.size) (h0 : w.cell? ⟨b, 0, none⟩ = some x) (h1 : w.cell? ⟨b, 1, none⟩ = some y) :
    Calls Tryd.prog 68 #[.agg #[.int .i64 lo, .int .i64 hi]] w fun e w' => e = .returned (.agg #[.int .i64 lo, .int .i64 hi]) ∧ Grew w w' ∧ w'.cell? ⟨b, 0, none⟩ = some x ∧ w'.cell? ⟨b, 1, none⟩ = some y := by
  have H := limited_keep_g lo hi b x y w hb h0 h1
  rw [lim_in h.1, lim_in h.2] at H
  exact H

set_option maxRecDepth 100000 in
set_option maxHeartbeats 400000 in
theorem scale_g (n a b : Int) (w : World) (h : Sc n a b) (h1 : Sp (fl (n * a) b)) (h2 : Sp (ce (n * a) b)) :
    Calls Tryd.prog 53 #[.int .i64 n, .int .i64 a, .int .i64 b] w fun e w' => e = .returned (.tuple #[.int .i64 (fl (n * a) b), .int .i64 (ce (n * a) b), .int .i64 0]) ∧ Grew w w' := by
  obtain ⟨⟨n0, n1⟩, ⟨a0, a1⟩, ⟨b0, b1⟩⟩ := h
  obtain ⟨m0, m1⟩ := mul_bd ⟨n0, n1⟩ ⟨a0, a1⟩
  have Hb : Hid (b ≠ 0) := Lib.hid (by omega)
  have HH : Hid ((-1000000000000 ≤ fl (n * a) b ∧ fl (n * a) b ≤ 1000000000000) ∧ (-1000000000000 ≤ ce (n * a) b ∧ ce (n * a) b ≤ 1000000000000)) := Lib.hid ⟨h1, h2⟩
  clear h1 h2
  go_enter Tryd.func53, Tryd.ntmps53
  go_wp2_with fail
  refine (isSpanned_yes _ n0 n1 _).mono ?_
  rintro e w' ⟨rfl, rfl⟩
  go_wp2_with fail
  refine (isFrom_yes _ _ _ a0 a1 _).mono ?_
  rintro e w' ⟨rfl, rfl⟩
  go_wp2_with fail
  refine (isFrom_yes _ _ _ b0 b1 _).mono ?_
  rintro e w' ⟨rfl, rfl⟩
  go_wp2_with fail
  refine (toward_any _ _).mono ?_
  rintro e w' ⟨rfl, rfl⟩
  go_wp2_with fail
  refine (quotDown _ _ _ _ (by simp [go_sem]) Hb.out ⟨m0, m1⟩).mono ?_
  rintro e w' ⟨rfl, k1, rfl⟩
  go_wp2_with fail
  refine (toward_any _ _).mono ?_
  rintro e w' ⟨rfl, rfl⟩
  go_wp2_with fail
  refine (quotUp _ _ _ _ (by simp [go_sem]) Hb.out ⟨m0, m1⟩).mono ?_
  rintro e w' ⟨rfl, k2, rfl⟩
  go_wp2_with fail
  go_region_held3 (fun w' => w'.cell? ⟨w.heap.size + 1 + 1, 0, none⟩ = some (.int .i64 (fl (n * a) b)) ∧ w'.cell? ⟨w.heap.size + 1 + 1, 1, none⟩ = some (.int .i64 (ce (n * a) b))) (first | (simp [go_sem]; done) | exact ⟨by assumption, by assumption⟩)
    (first | (go_at_call 68; refine (limited_in_g _ _ HH.out (w.heap.size + 1 + 1) (.int .i64 (fl (n * a) b)) (.int .i64 (ce (n * a) b)) _ ?_ ?_ ?_).mono ?_; (simp [go_sem]); (simp [go_sem]); (simp [go_sem]); rintro e w' ⟨rfl, hg, c0, c1⟩))
  have hG : Hid (Grew w w') := Lib.hid (Grew.trans (by repeat' (first | exact Grew.refl _ | apply Grew.drew | apply Grew.drewN | apply Grew.alloc)) hg)
  clear hg
  go_wp2_with fail
  go_quiet (fail)
  go_wp2_with fail
  go_ret3
  exact ⟨rfl, Grew.drewN hG.out _⟩

end Ry
end Go.Proofs.YtcihkpjdjenbjaaDoor
