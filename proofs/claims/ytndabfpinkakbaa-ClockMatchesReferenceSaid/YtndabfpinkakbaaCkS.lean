/-
  The reference of layer 14: first, last, Reading, Set.
-/
import Derived.Test.YtndabfpinkakbaaCkR
import Derived.Test.YtndabfpinkakbaaCkC
namespace Go.Proofs.Ytndabfpinkakbaa
open Go.RowKit Sn
namespace Ck
set_option maxRecDepth 100000
namespace R
theorem k1_of {a h d t : Int} {k : Nat} (hk : Fi a h d t k) (m : Int) (h0 : 0 ≤ m) (h1 : m < k) : th a h d m < t := by
  obtain ⟨n, rfl⟩ := Int.eq_ofNat_of_zero_le h0
  exact hk.2.1 n (by omega)
theorem k2_of {a h d t : Int} {k : Nat} (hk : Fi a h d t k) (m : Int) (h0 : (k : Int) ≤ m) (h1 : m ≤ 1000000000) : t ≤ th a h d m := by
  obtain ⟨n, rfl⟩ := Int.eq_ofNat_of_zero_le (show 0 ≤ m by omega)
  exact hk.2.2 n (by omega) (by omega)
theorem j1_of {a l d t : Int} {j : Nat} (hj : La a l d t j) (m : Int) (h0 : 0 ≤ m) (h1 : m < j) : tl a l d m ≤ t := by
  obtain ⟨n, rfl⟩ := Int.eq_ofNat_of_zero_le h0
  have : tl a l d n < t + 1 := hj.2.1 n (by omega)
  omega
theorem j2_of {a l d t : Int} {j : Nat} (hj : La a l d t j) (m : Int) (h0 : (j : Int) ≤ m) (h1 : m ≤ 1000000000) : t < tl a l d m := by
  obtain ⟨n, rfl⟩ := Int.eq_ofNat_of_zero_le (show 0 ≤ m by omega)
  have : t + 1 ≤ tl a l d n := hj.2.2 n (by omega) (by omega)
  omega
set_option maxHeartbeats 4000000 in
theorem first_c (a l h d t : Int) (k : Nat) (w : World) (hc : Cv a l h d) (hk : Fi a h d t k) : Calls Try.prog 33 #[.agg #[.int .i64 a, .int .i64 l, .int .i64 h, .int .i64 d], .int .i64 t] w fun e w' => e = .returned (.int .i64 k) ∧ Grown w w' := by
  have O : Hid (∀ (r : Int) (W : World), Rd r → Calls Try.prog 27 #[.agg #[.int .i64 a, .int .i64 l, .int .i64 h, .int .i64 d], .int .i64 r] W fun e w' => e = .returned (.agg #[.int .i64 (tl a l d r), .int .i64 (th a h d r)]) ∧ Grown W w') := Lib.hid (fun r W hr => of_c a l h d r W hc hr)
  have HK := Lib.hid hk
  have hk0 := hk.1
  clear hc hk
  go_enter Try.func33, Try.ntmps33
  go_wp2_with fail
  go_loopw [5, 6] (fun u v wr => ∃ lo hi : Int, u = .int .i64 lo ∧ v = .int .i64 hi ∧ lo ≤ k ∧ (k : Int) ≤ hi ∧ 0 ≤ lo ∧ hi ≤ 1000000001 ∧ Grown (w.alloc (.cells #[.int .i64 a, .int .i64 l, .int .i64 h, .int .i64 d] 25)) wr) (fun u v _ => (intOf v - intOf u).toNat)
  case atStart => exact ⟨0, 1000000001, rfl, rfl, by omega, by omega, by omega, by omega, Grown.refl _⟩
  case round =>
    obtain ⟨lo, hi, rfl, rfl, hl, hh, hb0, hb1, G⟩ := hrel
    have e0 : wr.cell? ⟨w.heap.size, 0, none⟩ = some (.int .i64 a) := (Grown.cell G (by simp)).trans (by simp [go_sem])
    have e1 : wr.cell? ⟨w.heap.size, 1, none⟩ = some (.int .i64 l) := (Grown.cell G (by simp)).trans (by simp [go_sem])
    have e2 : wr.cell? ⟨w.heap.size, 2, none⟩ = some (.int .i64 h) := (Grown.cell G (by simp)).trans (by simp [go_sem])
    have e3 : wr.cell? ⟨w.heap.size, 3, none⟩ = some (.int .i64 d) := (Grown.cell G (by simp)).trans (by simp [go_sem])
    by_cases hlt : lo < hi
    · have hm0 : 0 ≤ (lo + hi) := by omega
      have hm2 : (lo + hi) / 2 ≤ 1000000000 := by omega
      have hc := O.out ((lo + hi) / 2) wr ⟨by omega, by omega⟩
      by_cases hd : (k : Int) ≤ (lo + hi) / 2
      · have q := k2_of HK.out _ hd hm2
        generalize tl a l d ((lo + hi) / 2) = x at hc q
        generalize th a h d ((lo + hi) / 2) = y at hc q
        go_wp2_with fail
        refine hc.mono ?_
        rintro e w1 ⟨rfl, g1⟩
        have G1 := Grown.trans G g1
        clear g1 hc e0 e1 e2 e3
        go_wp2_with fail
        go_roundw
        case rel => exact ⟨lo, (lo + hi) / 2, rfl, rfl, hl, hd, hb0, by omega, by go_grown⟩
        case measure => simp [intOf]; omega
      · have q := k1_of HK.out _ (by omega) (show (lo + hi) / 2 < k by omega)
        generalize tl a l d ((lo + hi) / 2) = x at hc q
        generalize th a h d ((lo + hi) / 2) = y at hc q
        go_wp2_with fail
        refine hc.mono ?_
        rintro e w1 ⟨rfl, g1⟩
        have G1 := Grown.trans G g1
        clear g1 hc e0 e1 e2 e3
        go_wp2_with fail
        go_roundw
        case rel => exact ⟨(lo + hi) / 2 + 1, hi, rfl, rfl, by omega, hh, by omega, hb1, by go_grown⟩
        case measure => simp [intOf]; omega
    · obtain rfl : hi = k := by omega
      obtain rfl : lo = k := by omega
      go_wp2_with fail
      go_ret
      exact ⟨rfl, Grown.trans (by go_grown) G⟩
set_option maxHeartbeats 4000000 in
theorem last_c (a l h d t : Int) (j : Nat) (w : World) (hc : Cv a l h d) (hj : La a l d t j) : Calls Try.prog 34 #[.agg #[.int .i64 a, .int .i64 l, .int .i64 h, .int .i64 d], .int .i64 t] w fun e w' => e = .returned (.int .i64 ((j : Int) - 1)) ∧ Grown w w' := by
  have O : Hid (∀ (r : Int) (W : World), Rd r → Calls Try.prog 27 #[.agg #[.int .i64 a, .int .i64 l, .int .i64 h, .int .i64 d], .int .i64 r] W fun e w' => e = .returned (.agg #[.int .i64 (tl a l d r), .int .i64 (th a h d r)]) ∧ Grown W w') := Lib.hid (fun r W hr => of_c a l h d r W hc hr)
  have HJ := Lib.hid hj
  have hj0 := hj.1
  clear hc hj
  go_enter Try.func34, Try.ntmps34
  go_wp2_with fail
  go_loopw [5, 6] (fun u v wr => ∃ lo hi : Int, u = .int .i64 lo ∧ v = .int .i64 hi ∧ lo ≤ (j : Int) - 1 ∧ (j : Int) - 1 ≤ hi ∧ -1 ≤ lo ∧ hi ≤ 1000000000 ∧ Grown (w.alloc (.cells #[.int .i64 a, .int .i64 l, .int .i64 h, .int .i64 d] 25)) wr) (fun u v _ => (intOf v - intOf u).toNat)
  case atStart => exact ⟨-1, 1000000000, rfl, rfl, by omega, by omega, by omega, by omega, Grown.refl _⟩
  case round =>
    obtain ⟨lo, hi, rfl, rfl, hl, hh, hb0, hb1, G⟩ := hrel
    have e0 : wr.cell? ⟨w.heap.size, 0, none⟩ = some (.int .i64 a) := (Grown.cell G (by simp)).trans (by simp [go_sem])
    have e1 : wr.cell? ⟨w.heap.size, 1, none⟩ = some (.int .i64 l) := (Grown.cell G (by simp)).trans (by simp [go_sem])
    have e2 : wr.cell? ⟨w.heap.size, 2, none⟩ = some (.int .i64 h) := (Grown.cell G (by simp)).trans (by simp [go_sem])
    have e3 : wr.cell? ⟨w.heap.size, 3, none⟩ = some (.int .i64 d) := (Grown.cell G (by simp)).trans (by simp [go_sem])
    by_cases hlt : lo < hi
    · have hm0 : 0 ≤ (lo + hi + 1) := by omega
      have hm2 : (lo + hi + 1) / 2 ≤ 1000000000 := by omega
      have hc := O.out ((lo + hi + 1) / 2) wr ⟨by omega, by omega⟩
      by_cases hd : (lo + hi + 1) / 2 < (j : Int)
      · have q := j1_of HJ.out _ (show 0 ≤ (lo + hi + 1) / 2 by omega) hd
        generalize tl a l d ((lo + hi + 1) / 2) = x at hc q
        generalize th a h d ((lo + hi + 1) / 2) = y at hc q
        go_wp2_with fail
        refine hc.mono ?_
        rintro e w1 ⟨rfl, g1⟩
        have G1 := Grown.trans G g1
        clear g1 hc e0 e1 e2 e3
        go_wp2_with fail
        go_roundw
        case rel => exact ⟨(lo + hi + 1) / 2, hi, rfl, rfl, by omega, hh, by omega, hb1, by go_grown⟩
        case measure => simp [intOf]; omega
      · have q := j2_of HJ.out _ (show (j : Int) ≤ (lo + hi + 1) / 2 by omega) hm2
        generalize tl a l d ((lo + hi + 1) / 2) = x at hc q
        generalize th a h d ((lo + hi + 1) / 2) = y at hc q
        go_wp2_with fail
        refine hc.mono ?_
        rintro e w1 ⟨rfl, g1⟩
        have G1 := Grown.trans G g1
        clear g1 hc e0 e1 e2 e3
        go_wp2_with fail
        go_roundw
        case rel => exact ⟨lo, (lo + hi + 1) / 2 - 1, rfl, rfl, hl, by omega, hb0, by omega, by go_grown⟩
        case measure => simp [intOf]; omega
    · obtain rfl : hi = (j : Int) - 1 := by omega
      obtain rfl : lo = (j : Int) - 1 := by omega
      go_wp2_with fail
      go_ret
      exact ⟨rfl, Grown.trans (by go_grown) G⟩
theorem reading_bad (a l h d t : Int) (w : World) (hn : ¬ (Cv a l h d ∧ Tm t)) : Calls Try.prog 16 #[.agg #[.int .i64 a, .int .i64 l, .int .i64 h, .int .i64 d], .int .i64 t] w fun e w' => e = .returned (.tuple #[.agg #[.int .i64 0, .int .i64 0], .int .i64 1]) ∧ Grown w w' := by
  by_cases hc : Cv a l h d
  · by_cases h0 : t < -1000000000000
    · have V := Lib.hid (valid_yes a l h d · hc)
      clear hn hc
      go_enter Try.func16, Try.ntmps16
      go_wp2_with fail
      refine (V.out _).mono ?_
      rintro e w1 ⟨rfl, g1⟩
      obtain ⟨c1, f1, z1⟩ := laid g1
      try simp at z1
      have G1 : Grown w w1 := Grown.trans (by go_grown) g1
      clear g1
      have z1_w0 : w.heap.size < w1.heap.size := by omega
      have z1_w1 : w.heap.size + 1 < w1.heap.size := by omega
      go_wp2_with fail
      exact bodyPost_ret (v := .tuple #[.agg #[.int .i64 0, .int .i64 0], .int .i64 1]) (by simp [results, Try.results16, go_sem, *]) rfl ⟨rfl, by go_grown⟩
    · have h1 : 1000000000000 < t := by
        by_cases h1 : t ≤ 1000000000000
        · exact absurd ⟨hc, by omega, h1⟩ hn
        · omega
      have V := Lib.hid (valid_yes a l h d · hc)
      clear hn hc
      go_enter Try.func16, Try.ntmps16
      go_wp2_with fail
      refine (V.out _).mono ?_
      rintro e w1 ⟨rfl, g1⟩
      obtain ⟨c1, f1, z1⟩ := laid g1
      try simp at z1
      have G1 : Grown w w1 := Grown.trans (by go_grown) g1
      clear g1
      have z1_w0 : w.heap.size < w1.heap.size := by omega
      have z1_w1 : w.heap.size + 1 < w1.heap.size := by omega
      go_wp2_with fail
      exact bodyPost_ret (v := .tuple #[.agg #[.int .i64 0, .int .i64 0], .int .i64 1]) (by simp [results, Try.results16, go_sem, *]) rfl ⟨rfl, by go_grown⟩
  · have V := Lib.hid (valid_no a l h d · hc)
    clear hn hc
    go_enter Try.func16, Try.ntmps16
    go_wp2_with fail
    refine (V.out _).mono ?_
    rintro e w1 ⟨rfl, g1⟩
    obtain ⟨c1, f1, z1⟩ := laid g1
    try simp at z1
    have G1 : Grown w w1 := Grown.trans (by go_grown) g1
    clear g1
    have z1_w0 : w.heap.size < w1.heap.size := by omega
    have z1_w1 : w.heap.size + 1 < w1.heap.size := by omega
    go_wp2_with fail
    exact bodyPost_ret (v := .tuple #[.agg #[.int .i64 0, .int .i64 0], .int .i64 1]) (by simp [results, Try.results16, go_sem, *]) rfl ⟨rfl, by go_grown⟩
set_option maxHeartbeats 1000000 in
theorem reading_none (a l h d t : Int) (k j : Nat) (w : World) (hc : Cv a l h d) (ht : Tm t) (hk : Fi a h d t k) (hj : La a l d t j) (hn : (j : Int) - 1 < k) : Calls Try.prog 16 #[.agg #[.int .i64 a, .int .i64 l, .int .i64 h, .int .i64 d], .int .i64 t] w fun e w' => e = .returned (.tuple #[.agg #[.int .i64 0, .int .i64 0], .int .i64 4]) ∧ Grown w w' := by
  have V := Lib.hid (valid_yes a l h d · hc)
  have F1 : Hid (∀ W, Calls Try.prog 33 #[.agg #[.int .i64 a, .int .i64 l, .int .i64 h, .int .i64 d], .int .i64 t] W fun e w' => e = .returned (.int .i64 k) ∧ Grown W w') := Lib.hid (fun W => first_c a l h d t k W hc hk)
  have F2 : Hid (∀ W, Calls Try.prog 34 #[.agg #[.int .i64 a, .int .i64 l, .int .i64 h, .int .i64 d], .int .i64 t] W fun e w' => e = .returned (.int .i64 ((j : Int) - 1)) ∧ Grown W w') := Lib.hid (fun W => last_c a l h d t j W hc hj)
  obtain ⟨t0, t1⟩ := ht
  clear hc hk hj
  generalize (k : Int) = p at *
  generalize (j : Int) - 1 = q at *
  go_enter Try.func16, Try.ntmps16
  go_wp2_with fail
  refine (V.out _).mono ?_
  rintro e w1 ⟨rfl, g1⟩
  obtain ⟨c1, f1, z1⟩ := laid g1
  try simp at z1
  have G1 : Grown w w1 := Grown.trans (by go_grown) g1
  clear g1
  have z1_w0 : w.heap.size < w1.heap.size := by omega
  have z1_w1 : w.heap.size + 1 < w1.heap.size := by omega
  go_wp2_with fail
  go_region_held3 (fun W => W.cell? ⟨w.heap.size, 0, none⟩ = some (.int .i64 a) ∧ W.cell? ⟨w.heap.size, 1, none⟩ = some (.int .i64 l) ∧ W.cell? ⟨w.heap.size, 2, none⟩ = some (.int .i64 h) ∧ W.cell? ⟨w.heap.size, 3, none⟩ = some (.int .i64 d)) (simp [go_sem, *])
    (first | (go_at_call 33; refine (F1.out _).mono ?_; rintro e w2 ⟨rfl, g2⟩; obtain ⟨c2, f2, z2⟩ := laid g2; (try simp at z2); (try simp only [World.size_drew, World.cell?_drew] at c2); have G2 : Grown w w2 := Grown.trans (by go_grown) g2; clear g2; have z2_0 : w.heap.size < w2.heap.size := (by omega); have z2_1 : w.heap.size + 1 < w2.heap.size := (by omega); (try (have z2_2 : w1.heap.size < w2.heap.size := (by omega)))) | (go_at_call 34; refine (F2.out _).mono ?_; rintro e w3 ⟨rfl, g3⟩; obtain ⟨c3, f3, z3⟩ := laid g3; (try simp at z3); (try simp only [World.size_drew, World.cell?_drew] at c3); have G3 : Grown w w3 := Grown.trans (by go_grown) g3; clear g3; have z3_0 : w.heap.size < w3.heap.size := (by omega); have z3_1 : w.heap.size + 1 < w3.heap.size := (by omega); (try (have z3_2 : w1.heap.size < w3.heap.size := (by omega))); (try (have z3_3 : w2.heap.size < w3.heap.size := (by omega)))))
  all_goals go_wp2_with fail
  all_goals exact bodyPost_ret (v := .tuple #[.agg #[.int .i64 0, .int .i64 0], .int .i64 4]) (by simp [results, Try.results16, go_sem, *]) rfl ⟨rfl, by go_grown⟩
set_option maxHeartbeats 1000000 in
theorem reading_ok (a l h d t : Int) (k j : Nat) (w : World) (hc : Cv a l h d) (ht : Tm t) (hk : Fi a h d t k) (hj : La a l d t j) (hn : (k : Int) ≤ (j : Int) - 1) : Calls Try.prog 16 #[.agg #[.int .i64 a, .int .i64 l, .int .i64 h, .int .i64 d], .int .i64 t] w fun e w' => e = .returned (.tuple #[.agg #[.int .i64 k, .int .i64 ((j : Int) - 1)], .int .i64 0]) ∧ Grown w w' := by
  have V := Lib.hid (valid_yes a l h d · hc)
  have F1 : Hid (∀ W, Calls Try.prog 33 #[.agg #[.int .i64 a, .int .i64 l, .int .i64 h, .int .i64 d], .int .i64 t] W fun e w' => e = .returned (.int .i64 k) ∧ Grown W w') := Lib.hid (fun W => first_c a l h d t k W hc hk)
  have F2 : Hid (∀ W, Calls Try.prog 34 #[.agg #[.int .i64 a, .int .i64 l, .int .i64 h, .int .i64 d], .int .i64 t] W fun e w' => e = .returned (.int .i64 ((j : Int) - 1)) ∧ Grown W w') := Lib.hid (fun W => last_c a l h d t j W hc hj)
  obtain ⟨t0, t1⟩ := ht
  clear hc hk hj
  generalize (k : Int) = p at *
  generalize (j : Int) - 1 = q at *
  go_enter Try.func16, Try.ntmps16
  go_wp2_with fail
  refine (V.out _).mono ?_
  rintro e w1 ⟨rfl, g1⟩
  obtain ⟨c1, f1, z1⟩ := laid g1
  try simp at z1
  have G1 : Grown w w1 := Grown.trans (by go_grown) g1
  clear g1
  have z1_w0 : w.heap.size < w1.heap.size := by omega
  have z1_w1 : w.heap.size + 1 < w1.heap.size := by omega
  go_wp2_with fail
  go_region_held3 (fun W => W.cell? ⟨w.heap.size, 0, none⟩ = some (.int .i64 a) ∧ W.cell? ⟨w.heap.size, 1, none⟩ = some (.int .i64 l) ∧ W.cell? ⟨w.heap.size, 2, none⟩ = some (.int .i64 h) ∧ W.cell? ⟨w.heap.size, 3, none⟩ = some (.int .i64 d)) (simp [go_sem, *])
    (first | (go_at_call 33; refine (F1.out _).mono ?_; rintro e w2 ⟨rfl, g2⟩; obtain ⟨c2, f2, z2⟩ := laid g2; (try simp at z2); (try simp only [World.size_drew, World.cell?_drew] at c2); have G2 : Grown w w2 := Grown.trans (by go_grown) g2; clear g2; have z2_0 : w.heap.size < w2.heap.size := (by omega); have z2_1 : w.heap.size + 1 < w2.heap.size := (by omega); (try (have z2_2 : w1.heap.size < w2.heap.size := (by omega)))) | (go_at_call 34; refine (F2.out _).mono ?_; rintro e w3 ⟨rfl, g3⟩; obtain ⟨c3, f3, z3⟩ := laid g3; (try simp at z3); (try simp only [World.size_drew, World.cell?_drew] at c3); have G3 : Grown w w3 := Grown.trans (by go_grown) g3; clear g3; have z3_0 : w.heap.size < w3.heap.size := (by omega); have z3_1 : w.heap.size + 1 < w3.heap.size := (by omega); (try (have z3_2 : w1.heap.size < w3.heap.size := (by omega))); (try (have z3_3 : w2.heap.size < w3.heap.size := (by omega)))))
  all_goals go_wp2_with fail
  all_goals exact bodyPost_ret (v := .tuple #[.agg #[.int .i64 p, .int .i64 q], .int .i64 0]) (by simp [results, Try.results16, go_sem, *]) rfl ⟨rfl, by go_grown⟩
end R
end Ck
end Go.Proofs.Ytndabfpinkakbaa
