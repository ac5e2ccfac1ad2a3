/-
  The least point; the point behind a corner; all corners.
-/
import Derived.Test.YtpiajdahmcelnaaGreatMHullWrap
namespace Go.Proofs.YtpiajdahmcelnaaGreat
open Go.RowKit
namespace Hl
def LeastB (l : List Pt) (k : Nat) (m : Pt) : Prop := m ∈ l ∧ ∀ j, j < k → at' l j ≠ m → ls m (at' l j)
theorem LeastB.yes {l : List Pt} {k : Nat} {m : Pt} (h : LeastB l k m) (hk : k < l.length) (hl : ls (at' l k) m) : LeastB l (k + 1) (at' l k) := ⟨at_mem hk, fun j hj hne => by
  by_cases e : j = k
  · rw [e] at hne; exact absurd rfl hne
  · by_cases em : at' l j = m
    · rw [em]; exact hl
    · exact ls_trans hl (h.2 j (by omega) em)⟩
theorem LeastB.no {l : List Pt} {k : Nat} {m : Pt} (h : LeastB l k m) (_hk : k < l.length) (hl : ¬ ls (at' l k) m) : LeastB l (k + 1) m := ⟨h.1, fun j hj hne => by
  by_cases e : j = k
  · rw [e] at hne ⊢
    rcases ls_total (at' l k) m with a | a | a
    · exact absurd a hl
    · exact absurd a hne
    · exact a
  · exact h.2 j (by omega) hne⟩
def LeastSays (l : List Pt) (w : World) (e : Ending) (w' : World) : Prop := ∃ m : Pt, e = .returned (.agg #[.int .i64 m.1, .int .i64 m.2]) ∧ (m ∈ l ∧ ∀ z, z ∈ l → z ≠ m → ls m z) ∧ Grew w w'
set_option maxRecDepth 100000 in
set_option maxHeartbeats 2000000 in
theorem least_any (l : List Pt) (b o c : Nat) (w : World) (hr : Row w b o l) (h1 : 1 ≤ l.length) (h2 : l.length ≤ 9223372036854775807) : Calls Tryz.prog 59 #[.slice (some ⟨b, o, none⟩) l.length c] w (LeastSays l w) := by
  have HR := Lib.hid hr
  obtain ⟨s0, s1⟩ := hr.2 0 (by omega)
  rw [Nat.zero_mul, Nat.add_zero] at s0 s1
  have hb := hr.1
  have hb1 : b < w.heap.size + 1 := by omega
  have p0 : (0 : Int) < (l.length : Int) := by omega
  have p1 : 0 < l.length := by omega
  clear hr
  go_enter Tryz.func59, Tryz.ntmps59
  go_wp2_with fail
  go_loopw [4] (fun i wr => ∃ (k : Nat) (m : Pt), 1 ≤ k ∧ k ≤ l.length ∧ i = .int .i64 k ∧ Grew w wr ∧ w.heap.size + 1 < wr.heap.size ∧ (((wr.frozen? ⟨w.heap.size, 0, none⟩ = false ∧ wr.frozen? ⟨w.heap.size, 1, none⟩ = false) ∧ wr.frozen? ⟨w.heap.size + 1, 0, none⟩ = false) ∧ wr.frozen? ⟨w.heap.size + 1, 1, none⟩ = false) ∧ LeastB l k m ∧ (wr.cell? ⟨w.heap.size, 0, none⟩ = some (.int .i64 0) ∧ wr.cell? ⟨w.heap.size, 1, none⟩ = some (.int .i64 0)) ∧ wr.cell? ⟨w.heap.size + 1, 0, none⟩ = some (.int .i64 m.1) ∧ wr.cell? ⟨w.heap.size + 1, 1, none⟩ = some (.int .i64 m.2)) (fun i _ => l.length - (intOf i).toNat)
  case atStart => exact ⟨1, at' l 0, Nat.le_refl _, h1, rfl, by (repeat' (first | (with_reducible exact Grew.refl _) | (with_reducible assumption) | (with_reducible refine Grew.alloc ?_ _ _) | (with_reducible refine Grew.drew ?_) | (with_reducible refine Grew.drewN ?_ _) | (with_reducible refine Grew.setCell ?_ ?_ _) | go_size)), by simp, ⟨⟨⟨by simp [go_sem], by simp [go_sem]⟩, by simp [go_sem]⟩, by simp [go_sem]⟩, ⟨at_mem (by omega), fun j hj hne => by
    obtain rfl : j = 0 := by omega
    exact absurd rfl hne⟩, ⟨by simp [go_sem], by simp [go_sem]⟩, by simp [go_sem], by simp [go_sem]⟩
  case round =>
    clear s0 s1 hb hb1
    obtain ⟨k, m, hk1, hk, rfl, G, y0, ⟨⟨⟨f0, f1⟩, f2⟩, f3⟩, LB, ⟨r0, r1⟩, x0, x1⟩ := hrel
    by_cases hlt : k < l.length
    · obtain ⟨s0, s1⟩ := (HR.out.grown G).2 k hlt
      have hb := (HR.out.grown G).1
      have hb1 : b < wr.heap.size + 1 := by omega
      have y1 : w.heap.size + 1 < wr.heap.size + 1 := by omega
      have yy : w.heap.size < wr.heap.size := by omega
      have y2 : w.heap.size < wr.heap.size + 1 := by omega
      have y3 : w.heap.size < wr.heap.size + 1 + 1 := by omega
      have i0 : (0 : Int) ≤ (k : Int) := by omega
      have i1 : (k : Int) < (l.length : Int) := by omega
      have LX0 := less_x (at' l k) m
      by_cases hp : ls (at' l k) m
      · rw [decide_eq_true hp] at LX0
        · have LX := Lib.hid LX0
          have HP := Lib.hid hp
          clear LX0 hp
          go_wp2_with fail
          go_region_held3 (fun w' => w'.cell? ⟨b, o + k * 2, none⟩ = some (.int .i64 (at' l k).1) ∧ w'.cell? ⟨b, o + k * 2 + 1, none⟩ = some (.int .i64 (at' l k).2) ∧ w'.cell? ⟨w.heap.size + 1, 0, none⟩ = some (.int .i64 m.1) ∧ w'.cell? ⟨w.heap.size + 1, 1, none⟩ = some (.int .i64 m.2)) (simp [go_sem, hb, hb1, s0, s1, x0, x1, y0, y1])
            (first | (go_at_call 78; refine (LX.out _).mono ?_; rintro e w' ⟨rfl, rfl⟩))
          go_wp2_with fail
          go_roundw
          case rel => exact ⟨k + 1, at' l k, by omega, by omega, by go_num, by (repeat' (first | (with_reducible exact Grew.refl _) | (with_reducible assumption) | (with_reducible refine Grew.alloc ?_ _ _) | (with_reducible refine Grew.drew ?_) | (with_reducible refine Grew.drewN ?_ _) | (with_reducible refine Grew.setCell ?_ ?_ _) | go_size)), by simp; omega, ⟨⟨⟨by simp [frozen?_alloc_cells, go_sem, f0], by simp [frozen?_alloc_cells, go_sem, f1]⟩, by simp [frozen?_alloc_cells, go_sem, f2]⟩, by simp [frozen?_alloc_cells, go_sem, f3]⟩, LB.yes hlt HP.out, ⟨by simp [go_sem, r0, yy, y2], by simp [go_sem, r1, yy, y2]⟩, by simp [go_sem, x0, y0, y1], by simp [go_sem, x1, y0, y1]⟩
          case measure => simp [intOf]; omega
      · rw [decide_eq_false hp] at LX0
        · have LX := Lib.hid LX0
          have HP := Lib.hid hp
          clear LX0 hp
          go_wp2_with fail
          go_region_held3 (fun w' => w'.cell? ⟨b, o + k * 2, none⟩ = some (.int .i64 (at' l k).1) ∧ w'.cell? ⟨b, o + k * 2 + 1, none⟩ = some (.int .i64 (at' l k).2) ∧ w'.cell? ⟨w.heap.size + 1, 0, none⟩ = some (.int .i64 m.1) ∧ w'.cell? ⟨w.heap.size + 1, 1, none⟩ = some (.int .i64 m.2)) (simp [go_sem, hb, hb1, s0, s1, x0, x1, y0, y1])
            (first | (go_at_call 78; refine (LX.out _).mono ?_; rintro e w' ⟨rfl, rfl⟩))
          go_wp2_with fail
          go_roundw
          case rel => exact ⟨k + 1, m, by omega, by omega, by go_num, by (repeat' (first | (with_reducible exact Grew.refl _) | (with_reducible assumption) | (with_reducible refine Grew.alloc ?_ _ _) | (with_reducible refine Grew.drew ?_) | (with_reducible refine Grew.drewN ?_ _) | (with_reducible refine Grew.setCell ?_ ?_ _) | go_size)), by simp; omega, ⟨⟨⟨by simp [frozen?_alloc_cells, go_sem, f0], by simp [frozen?_alloc_cells, go_sem, f1]⟩, by simp [frozen?_alloc_cells, go_sem, f2]⟩, by simp [frozen?_alloc_cells, go_sem, f3]⟩, LB.no hlt HP.out, ⟨by simp [go_sem, r0, yy, y2], by simp [go_sem, r1, yy, y2]⟩, by simp [go_sem, x0, y0, y1], by simp [go_sem, x1, y0, y1]⟩
          case measure => simp [intOf]; omega
    · go_wp2_with fail
      refine bodyPost_ret (v := .agg #[.int .i64 m.1, .int .i64 m.2]) (by simp [results, Tryz.results59, go_sem, *]) rfl (show LeastSays l w (.returned (.agg #[.int .i64 m.1, .int .i64 m.2])) _ from ⟨m, rfl, ⟨LB.1, fun z hz hne => by
        obtain ⟨j, hj, e⟩ := mem_at hz
        rw [← e] at hne ⊢
        exact LB.2 j (by omega) hne⟩, by (repeat' (first | (with_reducible exact Grew.refl _) | (with_reducible assumption) | (with_reducible refine Grew.alloc ?_ _ _) | (with_reducible refine Grew.drew ?_) | (with_reducible refine Grew.drewN ?_ _) | (with_reducible refine Grew.setCell ?_ ?_ _) | go_size))⟩)
end Hl
end Go.Proofs.YtpiajdahmcelnaaGreat
