/-
  The law's own search in a slice of points.
-/
import Derived.Test.YthcfbfgfpophmaaHullSm
namespace Go.Proofs.Ythcfbfgfpophmaa
open Go.RowKit
namespace Hl

set_option maxHeartbeats 1000000 in
theorem hasl_any (p : List Pt) (x : Pt) (b o c : Nat) (w : World) (hr : Row w b o p) (hm : p.length ≤ 9223372036854775807) : Calls Try.prog 26 #[.slice (some ⟨b, o, none⟩) p.length c, .agg #[.int .i64 x.1, .int .i64 x.2]] w (Tells (x ∈ p) w) := by
  have HR : Hid (Row (w.alloc (.cells #[.int .i64 x.1, .int .i64 x.2] 24)) b o p) := Lib.hid (hr.grown (Grew.alloc (Grew.refl _) _ _))
  clear hr
  obtain ⟨a1, a2⟩ := x
  go_enter Try.func26, Try.ntmps26
  go_wp2_with fail
  go_loopw [9] (fun i wr => ∃ k : Nat, k ≤ p.length ∧ i = .int .i64 k ∧ Grew (w.alloc (.cells #[.int .i64 a1, .int .i64 a2] 24)) wr ∧ Hid (∀ j, j < k → at' p j ≠ (a1, a2))) (fun i _ => p.length - (intOf i).toNat)
  case atStart => exact ⟨0, Nat.zero_le _, rfl, Grew.refl _, Lib.hid (fun j hj => by omega)⟩
  case round =>
    obtain ⟨k, hk, rfl, G, D⟩ := hrel
    by_cases hlt : k < p.length
    · obtain ⟨s0, s1⟩ := (HR.out.grown G).2 k hlt
      have hb := (HR.out.grown G).1
      have x0 : wr.cell? ⟨w.heap.size, 0, none⟩ = some (.int .i64 a1) := (Grew.cell G (by simp)).trans (by simp [go_sem])
      have x1 : wr.cell? ⟨w.heap.size, 1, none⟩ = some (.int .i64 a2) := (Grew.cell G (by simp)).trans (by simp [go_sem])
      have y0 : w.heap.size < wr.heap.size := by have := G.size; simp at this; omega
      have i0 : (0 : Int) ≤ (k : Int) := by omega
      have i1 : (k : Int) < (p.length : Int) := by omega
      obtain ⟨⟨y1, y2⟩, hy⟩ : ∃ y, at' p k = y := ⟨_, rfl⟩
      rw [hy] at s0 s1
      have HY := Lib.hid hy
      clear hy
      simp only at s0 s1
      by_cases e1 : y1 = a1
      · by_cases e2 : y2 = a2
        · subst e1 e2
          go_wp2_with fail
          go_ret
          exact Tells.yes (by rw [← HY.out]; exact at_mem hlt) rfl (Grew.trans (Grew.alloc (Grew.refl _) _ _) (by (repeat' (first | (with_reducible exact Grew.refl _) | (with_reducible assumption) | (with_reducible refine Grew.alloc ?_ _ _) | (with_reducible refine Grew.drew ?_) | (with_reducible refine Grew.drewN ?_ _) | (with_reducible refine Grew.setCell ?_ ?_ _) | go_size))))
        · have E : Hid (∀ j, j < k + 1 → at' p j ≠ (a1, a2)) := Lib.hid (fun j hj h => by
            by_cases e : j = k
            · rw [e, HY.out] at h; exact e2 (congrArg Prod.snd h)
            · exact D.out j (by omega) h)
          have e2' : (y2 == a2) = false := by rw [beq_eq_false_iff_ne]; exact e2
          subst e1
          go_wp2_with fail
          go_roundw
          case rel => exact ⟨k + 1, by omega, by go_num, by (repeat' (first | (with_reducible exact Grew.refl _) | (with_reducible assumption) | (with_reducible refine Grew.alloc ?_ _ _) | (with_reducible refine Grew.drew ?_) | (with_reducible refine Grew.drewN ?_ _) | (with_reducible refine Grew.setCell ?_ ?_ _) | go_size)), E⟩
          case measure => simp [intOf]; omega
      · have E : Hid (∀ j, j < k + 1 → at' p j ≠ (a1, a2)) := Lib.hid (fun j hj h => by
          by_cases e : j = k
          · rw [e, HY.out] at h; exact e1 (congrArg Prod.fst h)
          · exact D.out j (by omega) h)
        have e1' : (y1 == a1) = false := by rw [beq_eq_false_iff_ne]; exact e1
        go_wp2_with fail
        go_roundw
        case rel => exact ⟨k + 1, by omega, by go_num, by (repeat' (first | (with_reducible exact Grew.refl _) | (with_reducible assumption) | (with_reducible refine Grew.alloc ?_ _ _) | (with_reducible refine Grew.drew ?_) | (with_reducible refine Grew.drewN ?_ _) | (with_reducible refine Grew.setCell ?_ ?_ _) | go_size)), E⟩
        case measure => simp [intOf]; omega
    · go_wp2_with fail
      go_ret
      exact Tells.no (fun h => by
        obtain ⟨i, hi, e⟩ := mem_at h
        exact D.out i (by omega) e) rfl (Grew.trans (Grew.alloc (Grew.refl _) _ _) G)
theorem hasl_yes (p : List Pt) (x : Pt) (b o c : Nat) (w : World) (hr : Row w b o p) (hm : p.length ≤ 9223372036854775807) (h : x ∈ p) : Calls Try.prog 26 #[.slice (some ⟨b, o, none⟩) p.length c, .agg #[.int .i64 x.1, .int .i64 x.2]] w fun e w' => e = .returned (.bool true) ∧ Grew w w' :=
  (hasl_any p x b o c w hr hm).mono fun _ _ t => t.to h
end Hl
end Go.Proofs.Ythcfbfgfpophmaa
