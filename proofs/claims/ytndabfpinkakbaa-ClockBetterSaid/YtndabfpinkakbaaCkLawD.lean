/-
  The law ClockBetter.
-/
import Derived.Test.YtndabfpinkakbaaCkHead
import Derived.Test.YtndabfpinkakbaaCkR
import Derived.Deep.Cut
import Derived.Deep.CutRange
import Derived.StillTailTactics
namespace Go.Proofs.Ytndabfpinkakbaa
open Go.RowKit Sn
namespace Ck
set_option maxRecDepth 100000
def wi (a b c d : Int) : Bool := decide (c ≤ a ∧ b ≤ d)
theorem within_c (a b c d : Int) (w : World) : Calls Try.prog 23 #[.agg #[.int .i64 a, .int .i64 b], .agg #[.int .i64 c, .int .i64 d]] w fun e w' => e = .returned (.bool (wi a b c d)) ∧ Grown w w' := by
  by_cases p : c ≤ a
  · by_cases q : b ≤ d
    · have H : Hid (wi a b c d = true) := Lib.hid (decide_eq_true ⟨p, q⟩)
      go_enter Try.func23, Try.ntmps23
      go_wp2_with fail
      go_ret
      exact ⟨by rw [H.out]; first | rfl | (simp; omega), by go_grown⟩
    · have H : Hid (wi a b c d = false) := Lib.hid (decide_eq_false (fun t => q t.2))
      go_enter Try.func23, Try.ntmps23
      go_wp2_with fail
      go_ret
      exact ⟨by rw [H.out]; first | rfl | (simp; omega), by go_grown⟩
  · have H : Hid (wi a b c d = false) := Lib.hid (decide_eq_false (fun t => p t.1))
    go_enter Try.func23, Try.ntmps23
    go_wp2_with fail
    go_ret
    exact ⟨by rw [H.out]; first | rfl | (simp; omega), by go_grown⟩
set_option maxHeartbeats 4000000 in
theorem better_true (a l h d n x y r : Int) (w : World) (hn : 0 ≤ n ∧ n ≤ 65535) (hx : 0 ≤ x ∧ x ≤ 4294967295) (hy : 0 ≤ y ∧ y ≤ 4294967295) : Calls Try.prog 8 #[.agg #[.int .i64 a, .int .i64 l, .int .i64 h, .int .i64 d], .int .u16 n, .int .u32 x, .int .u32 y, .int .i64 r] w fun e w' => e = .returned (.bool true) ∧ Grown w w' := by
  by_cases hcr : Cv a l h d ∧ Rd r
  · skip
    obtain ⟨hc, hr⟩ := hcr
    have V := Lib.hid (R.valid_yes a l h d · hc)
    have T1 := Lib.hid (true_ok a l h d r · hc hr)
    obtain ⟨ha, ⟨l0, l1, l2⟩, ⟨d0, d1⟩⟩ := hc
    obtain ⟨n0, n1⟩ := hn
    obtain ⟨x0, x1⟩ := hx
    obtain ⟨y0, y1⟩ := hy
    have a1 := Int.emod_nonneg n (b := d + 1) (by omega)
    have a2 := Int.emod_lt_of_pos n (b := d + 1) (by omega)
    have a3 := Int.emod_nonneg x (b := h - l + 1) (by omega)
    have a4 := Int.emod_lt_of_pos x (b := h - l + 1) (by omega)
    have t1 : n.tmod (d + 1) = n % (d + 1) := Int.tmod_eq_emod_of_nonneg n0
    have t2 : x.tmod (h - l + 1) = x % (h - l + 1) := Int.tmod_eq_emod_of_nonneg x0
    generalize hu : n % (d + 1) = u at *
    generalize hv : x % (h - l + 1) = v at *
    have a5 := Int.emod_nonneg y (b := h - (l + v) + 1) (by omega)
    have a6 := Int.emod_lt_of_pos y (b := h - (l + v) + 1) (by omega)
    have t3 : y.tmod (h - (l + v) + 1) = y % (h - (l + v) + 1) := Int.tmod_eq_emod_of_nonneg y0
    generalize hz : y % (h - (l + v) + 1) = z at *
    have hc2 : Cv a (l + v) (h - z) u := ⟨ha, ⟨by omega, by omega, by omega⟩, by omega, by omega⟩
    have T2 := Lib.hid (true_ok a (l + v) (h - z) u r · hc2 hr)
    have wl := wg_less ha hr (show u ≤ d by omega)
    have IC : Hid (wi (tl a (l + v) u r) (th a (h - z) u r) (tl a l d r) (th a h d r) = true) := Lib.hid (decide_eq_true (by unfold tl th; omega))
    clear wl hc2 ha hr
    generalize tl a (l + v) u r = p' at *
    generalize th a (h - z) u r = q' at *
    generalize tl a l d r = p at *
    generalize th a h d r = q at *
    have nd1 : h - l + 1 ≠ 0 := by omega
    have nd2 : h - (l + v) + 1 ≠ 0 := by omega
    have WX : IntKind.i64.wrap x = x := IntWalk.i64_in _ ⟨by omega, by omega⟩
    have WY : IntKind.i64.wrap y = y := IntWalk.i64_in _ ⟨by omega, by omega⟩
    have WA : IntKind.i64.wrap (h - l) = h - l := IntWalk.i64_in _ ⟨by omega, by omega⟩
    have WB : IntKind.i64.wrap (h - l + 1) = h - l + 1 := IntWalk.i64_in _ ⟨by omega, by omega⟩
    have WC : IntKind.i64.wrap (l + v) = l + v := IntWalk.i64_in _ ⟨by omega, by omega⟩
    have WD : IntKind.i64.wrap (h - (l + v)) = h - (l + v) := IntWalk.i64_in _ ⟨by omega, by omega⟩
    have WE : IntKind.i64.wrap (h - (l + v) + 1) = h - (l + v) + 1 := IntWalk.i64_in _ ⟨by omega, by omega⟩
    have WF : IntKind.i64.wrap (h - z) = h - z := IntWalk.i64_in _ ⟨by omega, by omega⟩
    go_enter Try.func8, Try.ntmps8
    go_wp2_with fail
    refine (head_true _).mono ?_
    rintro e w1 ⟨rfl, g1⟩
    have z1 := (laid g1).2.2
    try simp at z1
    have q1_0 : w1.cell? ⟨w.heap.size, 0, none⟩ = some (.int .i64 a) := (Grown.cell g1 (by first | (simp; omega) | simp | omega)).trans (by simp [go_sem, *])
    have q1_1 : w1.cell? ⟨w.heap.size, 1, none⟩ = some (.int .i64 l) := (Grown.cell g1 (by first | (simp; omega) | simp | omega)).trans (by simp [go_sem, *])
    have q1_2 : w1.cell? ⟨w.heap.size, 2, none⟩ = some (.int .i64 h) := (Grown.cell g1 (by first | (simp; omega) | simp | omega)).trans (by simp [go_sem, *])
    have q1_3 : w1.cell? ⟨w.heap.size, 3, none⟩ = some (.int .i64 d) := (Grown.cell g1 (by first | (simp; omega) | simp | omega)).trans (by simp [go_sem, *])
    have G1 : Grown w w1 := Grown.trans (by first | (go_grown; done) | exact Grown.drewN (by go_grown) _) g1
    have z1_w0 : w.heap.size < w1.heap.size := by omega
    clear g1
    go_wp2_with fail
    refine (T1.out _).mono ?_
    rintro e w2 ⟨rfl, g2⟩
    have z2 := (laid g2).2.2
    try simp at z2
    have q2_0 : w2.cell? ⟨w.heap.size, 0, none⟩ = some (.int .i64 a) := (Grown.cell g2 (by first | (simp; omega) | simp | omega)).trans (by simp [go_sem, *])
    have q2_1 : w2.cell? ⟨w.heap.size, 1, none⟩ = some (.int .i64 l) := (Grown.cell g2 (by first | (simp; omega) | simp | omega)).trans (by simp [go_sem, *])
    have q2_2 : w2.cell? ⟨w.heap.size, 2, none⟩ = some (.int .i64 h) := (Grown.cell g2 (by first | (simp; omega) | simp | omega)).trans (by simp [go_sem, *])
    have q2_3 : w2.cell? ⟨w.heap.size, 3, none⟩ = some (.int .i64 d) := (Grown.cell g2 (by first | (simp; omega) | simp | omega)).trans (by simp [go_sem, *])
    have G2 : Grown w w2 := Grown.trans (by first | (go_grown; done) | exact Grown.drewN (by go_grown) _) g2
    have z2_w0 : w.heap.size < w2.heap.size := by omega
    clear g2 q1_0 q1_1 q1_2 q1_3
    go_wp2_with fail
    refine (V.out _).mono ?_
    rintro e w3 ⟨rfl, g3⟩
    have z3 := (laid g3).2.2
    try simp at z3
    have q3_0 : w3.cell? ⟨w.heap.size, 0, none⟩ = some (.int .i64 a) := (Grown.cell g3 (by first | (simp; omega) | simp | omega)).trans (by simp [go_sem, *])
    have q3_1 : w3.cell? ⟨w.heap.size, 1, none⟩ = some (.int .i64 l) := (Grown.cell g3 (by first | (simp; omega) | simp | omega)).trans (by simp [go_sem, *])
    have q3_2 : w3.cell? ⟨w.heap.size, 2, none⟩ = some (.int .i64 h) := (Grown.cell g3 (by first | (simp; omega) | simp | omega)).trans (by simp [go_sem, *])
    have q3_3 : w3.cell? ⟨w.heap.size, 3, none⟩ = some (.int .i64 d) := (Grown.cell g3 (by first | (simp; omega) | simp | omega)).trans (by simp [go_sem, *])
    have q3_4 : w3.cell? ⟨w2.heap.size, 0, none⟩ = some (.int .i64 p) := (Grown.cell g3 (by first | (simp; omega) | simp | omega)).trans (by simp [go_sem, *])
    have q3_5 : w3.cell? ⟨w2.heap.size, 1, none⟩ = some (.int .i64 q) := (Grown.cell g3 (by first | (simp; omega) | simp | omega)).trans (by simp [go_sem, *])
    have G3 : Grown w w3 := Grown.trans (by first | (go_grown; done) | exact Grown.drewN (by go_grown) _) g3
    have z3_w0 : w.heap.size < w3.heap.size := by omega
    have z3_w20 : w2.heap.size < w3.heap.size := by omega
    clear g3 q2_0 q2_1 q2_2 q2_3
    go_wp2_with fail
    have q4_0 : (w3.alloc (.cells #[.int .i64 a, .int .i64 l, .int .i64 h, .int .i64 u] 25)).cell? ⟨w.heap.size, 0, none⟩ = some (.int .i64 a) := by simp [go_sem, *]
    have q4_1 : (w3.alloc (.cells #[.int .i64 a, .int .i64 l, .int .i64 h, .int .i64 u] 25)).cell? ⟨w.heap.size, 1, none⟩ = some (.int .i64 l) := by simp [go_sem, *]
    have q4_2 : (w3.alloc (.cells #[.int .i64 a, .int .i64 l, .int .i64 h, .int .i64 u] 25)).cell? ⟨w.heap.size, 2, none⟩ = some (.int .i64 h) := by simp [go_sem, *]
    have q4_3 : (w3.alloc (.cells #[.int .i64 a, .int .i64 l, .int .i64 h, .int .i64 u] 25)).cell? ⟨w.heap.size, 3, none⟩ = some (.int .i64 d) := by simp [go_sem, *]
    have q4_4 : (w3.alloc (.cells #[.int .i64 a, .int .i64 l, .int .i64 h, .int .i64 u] 25)).cell? ⟨w2.heap.size, 0, none⟩ = some (.int .i64 p) := by simp [go_sem, *]
    have q4_5 : (w3.alloc (.cells #[.int .i64 a, .int .i64 l, .int .i64 h, .int .i64 u] 25)).cell? ⟨w2.heap.size, 1, none⟩ = some (.int .i64 q) := by simp [go_sem, *]
    have q4_6 : (w3.alloc (.cells #[.int .i64 a, .int .i64 l, .int .i64 h, .int .i64 u] 25)).cell? ⟨w3.heap.size, 0, none⟩ = some (.int .i64 a) := by simp [go_sem, *]
    have q4_7 : (w3.alloc (.cells #[.int .i64 a, .int .i64 l, .int .i64 h, .int .i64 u] 25)).cell? ⟨w3.heap.size, 1, none⟩ = some (.int .i64 l) := by simp [go_sem, *]
    have q4_8 : (w3.alloc (.cells #[.int .i64 a, .int .i64 l, .int .i64 h, .int .i64 u] 25)).cell? ⟨w3.heap.size, 2, none⟩ = some (.int .i64 h) := by simp [go_sem, *]
    have q4_9 : (w3.alloc (.cells #[.int .i64 a, .int .i64 l, .int .i64 h, .int .i64 u] 25)).cell? ⟨w3.heap.size, 3, none⟩ = some (.int .i64 u) := by simp [go_sem, *]
    have fz4_1 : (w3.alloc (.cells #[.int .i64 a, .int .i64 l, .int .i64 h, .int .i64 u] 25)).frozen? ⟨w3.heap.size, 1, none⟩ = false := by simp [go_sem, *]
    have fz4_2 : (w3.alloc (.cells #[.int .i64 a, .int .i64 l, .int .i64 h, .int .i64 u] 25)).frozen? ⟨w3.heap.size, 2, none⟩ = false := by simp [go_sem, *]
    have G4 : Grown w (w3.alloc (.cells #[.int .i64 a, .int .i64 l, .int .i64 h, .int .i64 u] 25)) := by first | (go_grown; done) | exact Grown.drewN (by go_grown) _
    have z4_w0 : w.heap.size < (w3.alloc (.cells #[.int .i64 a, .int .i64 l, .int .i64 h, .int .i64 u] 25)).heap.size := by first | (simp; omega) | simp | omega
    have z4_w20 : w2.heap.size < (w3.alloc (.cells #[.int .i64 a, .int .i64 l, .int .i64 h, .int .i64 u] 25)).heap.size := by first | (simp; omega) | simp | omega
    have z4_w30 : w3.heap.size < (w3.alloc (.cells #[.int .i64 a, .int .i64 l, .int .i64 h, .int .i64 u] 25)).heap.size := by first | (simp; omega) | simp | omega
    clear q3_0 q3_1 q3_2 q3_3 q3_4 q3_5
    generalize w3.alloc (.cells #[.int .i64 a, .int .i64 l, .int .i64 h, .int .i64 u] 25) = w4 at *
    go_still_tail 17, (by kernel_rfl)
    change wpList _ _ _ _ _ w4.drew
    go_upto_region 8 with fail
    have q5_0 : ((w4.setCell ⟨w3.heap.size, 1, none⟩ (.int .i64 (l + v))).drew).cell? ⟨w.heap.size, 0, none⟩ = some (.int .i64 a) := by simp [go_sem, *]
    have q5_1 : ((w4.setCell ⟨w3.heap.size, 1, none⟩ (.int .i64 (l + v))).drew).cell? ⟨w.heap.size, 1, none⟩ = some (.int .i64 l) := by simp [go_sem, *]
    have q5_2 : ((w4.setCell ⟨w3.heap.size, 1, none⟩ (.int .i64 (l + v))).drew).cell? ⟨w.heap.size, 2, none⟩ = some (.int .i64 h) := by simp [go_sem, *]
    have q5_3 : ((w4.setCell ⟨w3.heap.size, 1, none⟩ (.int .i64 (l + v))).drew).cell? ⟨w.heap.size, 3, none⟩ = some (.int .i64 d) := by simp [go_sem, *]
    have q5_4 : ((w4.setCell ⟨w3.heap.size, 1, none⟩ (.int .i64 (l + v))).drew).cell? ⟨w2.heap.size, 0, none⟩ = some (.int .i64 p) := by simp [go_sem, *]
    have q5_5 : ((w4.setCell ⟨w3.heap.size, 1, none⟩ (.int .i64 (l + v))).drew).cell? ⟨w2.heap.size, 1, none⟩ = some (.int .i64 q) := by simp [go_sem, *]
    have q5_6 : ((w4.setCell ⟨w3.heap.size, 1, none⟩ (.int .i64 (l + v))).drew).cell? ⟨w3.heap.size, 0, none⟩ = some (.int .i64 a) := by simp [go_sem, *]
    have q5_7 : ((w4.setCell ⟨w3.heap.size, 1, none⟩ (.int .i64 (l + v))).drew).cell? ⟨w3.heap.size, 1, none⟩ = some (.int .i64 (l + v)) := by simp [go_sem, *]
    have q5_8 : ((w4.setCell ⟨w3.heap.size, 1, none⟩ (.int .i64 (l + v))).drew).cell? ⟨w3.heap.size, 2, none⟩ = some (.int .i64 h) := by simp [go_sem, *]
    have q5_9 : ((w4.setCell ⟨w3.heap.size, 1, none⟩ (.int .i64 (l + v))).drew).cell? ⟨w3.heap.size, 3, none⟩ = some (.int .i64 u) := by simp [go_sem, *]
    have fz5_2 : ((w4.setCell ⟨w3.heap.size, 1, none⟩ (.int .i64 (l + v))).drew).frozen? ⟨w3.heap.size, 2, none⟩ = false := by simp [go_sem, *]
    have G5 : Grown w ((w4.setCell ⟨w3.heap.size, 1, none⟩ (.int .i64 (l + v))).drew) := by first | (go_grown; done) | exact Grown.drewN (by go_grown) _
    have z5_w0 : w.heap.size < ((w4.setCell ⟨w3.heap.size, 1, none⟩ (.int .i64 (l + v))).drew).heap.size := by first | (simp; omega) | simp | omega
    have z5_w20 : w2.heap.size < ((w4.setCell ⟨w3.heap.size, 1, none⟩ (.int .i64 (l + v))).drew).heap.size := by first | (simp; omega) | simp | omega
    have z5_w30 : w3.heap.size < ((w4.setCell ⟨w3.heap.size, 1, none⟩ (.int .i64 (l + v))).drew).heap.size := by first | (simp; omega) | simp | omega
    clear q4_0 q4_1 q4_2 q4_3 q4_4 q4_5 q4_6 q4_7 q4_8 q4_9 fz4_1 fz4_2
    generalize (w4.setCell ⟨w3.heap.size, 1, none⟩ (.int .i64 (l + v))).drew = w5 at *
    go_still_tail 17, (by kernel_rfl)
    change wpList _ _ _ _ _ w5.drew
    go_upto_region 9 with fail
    have q6_0 : ((w5.setCell ⟨w3.heap.size, 2, none⟩ (.int .i64 (h - z))).drew).cell? ⟨w.heap.size, 0, none⟩ = some (.int .i64 a) := by simp [go_sem, *]
    have q6_1 : ((w5.setCell ⟨w3.heap.size, 2, none⟩ (.int .i64 (h - z))).drew).cell? ⟨w.heap.size, 1, none⟩ = some (.int .i64 l) := by simp [go_sem, *]
    have q6_2 : ((w5.setCell ⟨w3.heap.size, 2, none⟩ (.int .i64 (h - z))).drew).cell? ⟨w.heap.size, 2, none⟩ = some (.int .i64 h) := by simp [go_sem, *]
    have q6_3 : ((w5.setCell ⟨w3.heap.size, 2, none⟩ (.int .i64 (h - z))).drew).cell? ⟨w.heap.size, 3, none⟩ = some (.int .i64 d) := by simp [go_sem, *]
    have q6_4 : ((w5.setCell ⟨w3.heap.size, 2, none⟩ (.int .i64 (h - z))).drew).cell? ⟨w2.heap.size, 0, none⟩ = some (.int .i64 p) := by simp [go_sem, *]
    have q6_5 : ((w5.setCell ⟨w3.heap.size, 2, none⟩ (.int .i64 (h - z))).drew).cell? ⟨w2.heap.size, 1, none⟩ = some (.int .i64 q) := by simp [go_sem, *]
    have q6_6 : ((w5.setCell ⟨w3.heap.size, 2, none⟩ (.int .i64 (h - z))).drew).cell? ⟨w3.heap.size, 0, none⟩ = some (.int .i64 a) := by simp [go_sem, *]
    have q6_7 : ((w5.setCell ⟨w3.heap.size, 2, none⟩ (.int .i64 (h - z))).drew).cell? ⟨w3.heap.size, 1, none⟩ = some (.int .i64 (l + v)) := by simp [go_sem, *]
    have q6_8 : ((w5.setCell ⟨w3.heap.size, 2, none⟩ (.int .i64 (h - z))).drew).cell? ⟨w3.heap.size, 2, none⟩ = some (.int .i64 (h - z)) := by simp [go_sem, *]
    have q6_9 : ((w5.setCell ⟨w3.heap.size, 2, none⟩ (.int .i64 (h - z))).drew).cell? ⟨w3.heap.size, 3, none⟩ = some (.int .i64 u) := by simp [go_sem, *]
    have G6 : Grown w ((w5.setCell ⟨w3.heap.size, 2, none⟩ (.int .i64 (h - z))).drew) := by first | (go_grown; done) | exact Grown.drewN (by go_grown) _
    have z6_w0 : w.heap.size < ((w5.setCell ⟨w3.heap.size, 2, none⟩ (.int .i64 (h - z))).drew).heap.size := by first | (simp; omega) | simp | omega
    have z6_w20 : w2.heap.size < ((w5.setCell ⟨w3.heap.size, 2, none⟩ (.int .i64 (h - z))).drew).heap.size := by first | (simp; omega) | simp | omega
    have z6_w30 : w3.heap.size < ((w5.setCell ⟨w3.heap.size, 2, none⟩ (.int .i64 (h - z))).drew).heap.size := by first | (simp; omega) | simp | omega
    clear q5_0 q5_1 q5_2 q5_3 q5_4 q5_5 q5_6 q5_7 q5_8 q5_9 fz5_2
    generalize (w5.setCell ⟨w3.heap.size, 2, none⟩ (.int .i64 (h - z))).drew = w6 at *
    go_wp2_with fail
    refine (T2.out _).mono ?_
    rintro e w7 ⟨rfl, g7⟩
    have z7 := (laid g7).2.2
    try simp at z7
    have q7_0 : w7.cell? ⟨w.heap.size, 0, none⟩ = some (.int .i64 a) := (Grown.cell g7 (by first | (simp; omega) | simp | omega)).trans (by simp [go_sem, *])
    have q7_1 : w7.cell? ⟨w.heap.size, 1, none⟩ = some (.int .i64 l) := (Grown.cell g7 (by first | (simp; omega) | simp | omega)).trans (by simp [go_sem, *])
    have q7_2 : w7.cell? ⟨w.heap.size, 2, none⟩ = some (.int .i64 h) := (Grown.cell g7 (by first | (simp; omega) | simp | omega)).trans (by simp [go_sem, *])
    have q7_3 : w7.cell? ⟨w.heap.size, 3, none⟩ = some (.int .i64 d) := (Grown.cell g7 (by first | (simp; omega) | simp | omega)).trans (by simp [go_sem, *])
    have q7_4 : w7.cell? ⟨w2.heap.size, 0, none⟩ = some (.int .i64 p) := (Grown.cell g7 (by first | (simp; omega) | simp | omega)).trans (by simp [go_sem, *])
    have q7_5 : w7.cell? ⟨w2.heap.size, 1, none⟩ = some (.int .i64 q) := (Grown.cell g7 (by first | (simp; omega) | simp | omega)).trans (by simp [go_sem, *])
    have q7_6 : w7.cell? ⟨w3.heap.size, 0, none⟩ = some (.int .i64 a) := (Grown.cell g7 (by first | (simp; omega) | simp | omega)).trans (by simp [go_sem, *])
    have q7_7 : w7.cell? ⟨w3.heap.size, 1, none⟩ = some (.int .i64 (l + v)) := (Grown.cell g7 (by first | (simp; omega) | simp | omega)).trans (by simp [go_sem, *])
    have q7_8 : w7.cell? ⟨w3.heap.size, 2, none⟩ = some (.int .i64 (h - z)) := (Grown.cell g7 (by first | (simp; omega) | simp | omega)).trans (by simp [go_sem, *])
    have q7_9 : w7.cell? ⟨w3.heap.size, 3, none⟩ = some (.int .i64 u) := (Grown.cell g7 (by first | (simp; omega) | simp | omega)).trans (by simp [go_sem, *])
    have G7 : Grown w w7 := Grown.trans (by first | (go_grown; done) | exact Grown.drewN (by go_grown) _) g7
    have z7_w0 : w.heap.size < w7.heap.size := by omega
    have z7_w20 : w2.heap.size < w7.heap.size := by omega
    have z7_w30 : w3.heap.size < w7.heap.size := by omega
    clear g7 q6_0 q6_1 q6_2 q6_3 q6_4 q6_5 q6_6 q6_7 q6_8 q6_9
    go_wp2_with fail
    refine (within_c _ _ _ _ _).mono ?_
    rintro e w8 ⟨rfl, g8⟩
    have z8 := (laid g8).2.2
    try simp at z8
    have q8_0 : w8.cell? ⟨w.heap.size, 0, none⟩ = some (.int .i64 a) := (Grown.cell g8 (by first | (simp; omega) | simp | omega)).trans (by simp [go_sem, *])
    have q8_1 : w8.cell? ⟨w.heap.size, 1, none⟩ = some (.int .i64 l) := (Grown.cell g8 (by first | (simp; omega) | simp | omega)).trans (by simp [go_sem, *])
    have q8_2 : w8.cell? ⟨w.heap.size, 2, none⟩ = some (.int .i64 h) := (Grown.cell g8 (by first | (simp; omega) | simp | omega)).trans (by simp [go_sem, *])
    have q8_3 : w8.cell? ⟨w.heap.size, 3, none⟩ = some (.int .i64 d) := (Grown.cell g8 (by first | (simp; omega) | simp | omega)).trans (by simp [go_sem, *])
    have q8_4 : w8.cell? ⟨w2.heap.size, 0, none⟩ = some (.int .i64 p) := (Grown.cell g8 (by first | (simp; omega) | simp | omega)).trans (by simp [go_sem, *])
    have q8_5 : w8.cell? ⟨w2.heap.size, 1, none⟩ = some (.int .i64 q) := (Grown.cell g8 (by first | (simp; omega) | simp | omega)).trans (by simp [go_sem, *])
    have q8_6 : w8.cell? ⟨w3.heap.size, 0, none⟩ = some (.int .i64 a) := (Grown.cell g8 (by first | (simp; omega) | simp | omega)).trans (by simp [go_sem, *])
    have q8_7 : w8.cell? ⟨w3.heap.size, 1, none⟩ = some (.int .i64 (l + v)) := (Grown.cell g8 (by first | (simp; omega) | simp | omega)).trans (by simp [go_sem, *])
    have q8_8 : w8.cell? ⟨w3.heap.size, 2, none⟩ = some (.int .i64 (h - z)) := (Grown.cell g8 (by first | (simp; omega) | simp | omega)).trans (by simp [go_sem, *])
    have q8_9 : w8.cell? ⟨w3.heap.size, 3, none⟩ = some (.int .i64 u) := (Grown.cell g8 (by first | (simp; omega) | simp | omega)).trans (by simp [go_sem, *])
    have q8_10 : w8.cell? ⟨w7.heap.size, 0, none⟩ = some (.int .i64 p') := (Grown.cell g8 (by first | (simp; omega) | simp | omega)).trans (by simp [go_sem, *])
    have q8_11 : w8.cell? ⟨w7.heap.size, 1, none⟩ = some (.int .i64 q') := (Grown.cell g8 (by first | (simp; omega) | simp | omega)).trans (by simp [go_sem, *])
    have G8 : Grown w w8 := Grown.trans (by first | (go_grown; done) | exact Grown.drewN (by go_grown) _) g8
    have z8_w0 : w.heap.size < w8.heap.size := by omega
    have z8_w20 : w2.heap.size < w8.heap.size := by omega
    have z8_w30 : w3.heap.size < w8.heap.size := by omega
    have z8_w70 : w7.heap.size < w8.heap.size := by omega
    clear g8 q7_0 q7_1 q7_2 q7_3 q7_4 q7_5 q7_6 q7_7 q7_8 q7_9
    rw [IC.out]
    go_wp2_with fail
    go_ret
    exact ⟨by first | rfl | (simp; omega), by go_grown⟩
  · skip
    have T1 := Lib.hid (true_bad a l h d r · hcr)
    clear hcr
    go_enter Try.func8, Try.ntmps8
    go_wp2_with fail
    refine (head_true _).mono ?_
    rintro e w1 ⟨rfl, g1⟩
    have z1 := (laid g1).2.2
    try simp at z1
    have q1_0 : w1.cell? ⟨w.heap.size, 0, none⟩ = some (.int .i64 a) := (Grown.cell g1 (by first | (simp; omega) | simp | omega)).trans (by simp [go_sem, *])
    have q1_1 : w1.cell? ⟨w.heap.size, 1, none⟩ = some (.int .i64 l) := (Grown.cell g1 (by first | (simp; omega) | simp | omega)).trans (by simp [go_sem, *])
    have q1_2 : w1.cell? ⟨w.heap.size, 2, none⟩ = some (.int .i64 h) := (Grown.cell g1 (by first | (simp; omega) | simp | omega)).trans (by simp [go_sem, *])
    have q1_3 : w1.cell? ⟨w.heap.size, 3, none⟩ = some (.int .i64 d) := (Grown.cell g1 (by first | (simp; omega) | simp | omega)).trans (by simp [go_sem, *])
    have G1 : Grown w w1 := Grown.trans (by first | (go_grown; done) | exact Grown.drewN (by go_grown) _) g1
    have z1_w0 : w.heap.size < w1.heap.size := by omega
    clear g1
    go_wp2_with fail
    refine (T1.out _).mono ?_
    rintro e w2 ⟨rfl, g2⟩
    have z2 := (laid g2).2.2
    try simp at z2
    have q2_0 : w2.cell? ⟨w.heap.size, 0, none⟩ = some (.int .i64 a) := (Grown.cell g2 (by first | (simp; omega) | simp | omega)).trans (by simp [go_sem, *])
    have q2_1 : w2.cell? ⟨w.heap.size, 1, none⟩ = some (.int .i64 l) := (Grown.cell g2 (by first | (simp; omega) | simp | omega)).trans (by simp [go_sem, *])
    have q2_2 : w2.cell? ⟨w.heap.size, 2, none⟩ = some (.int .i64 h) := (Grown.cell g2 (by first | (simp; omega) | simp | omega)).trans (by simp [go_sem, *])
    have q2_3 : w2.cell? ⟨w.heap.size, 3, none⟩ = some (.int .i64 d) := (Grown.cell g2 (by first | (simp; omega) | simp | omega)).trans (by simp [go_sem, *])
    have G2 : Grown w w2 := Grown.trans (by first | (go_grown; done) | exact Grown.drewN (by go_grown) _) g2
    have z2_w0 : w.heap.size < w2.heap.size := by omega
    clear g2 q1_0 q1_1 q1_2 q1_3
    go_wp2_with fail
    go_ret
    exact ⟨by first | rfl | (simp; omega), by go_grown⟩
end Ck
end Go.Proofs.Ytndabfpinkakbaa
