/-
  The landed package clock: firstReading, Reading.
-/
import Derived.Test.YtndabfpinkakbaaCkB
namespace Go.Proofs.Ytndabfpinkakbaa
open Go.RowKit Sn
namespace Ck
set_option maxRecDepth 100000
theorem first1_c (a l h d t : Int) (k b : Nat) (w : World) (hc : Cv a l h d) (hb : Cb w b a l h d) (hk : Fi a h d t k) : Calls Try.prog 30 #[.int .i64 t, .func (.func 31) #[] #[.pointer (some ⟨b, 0, none⟩)]] w fun e w' => e = .returned (.int .i64 k) ∧ Grown w w' := by
  have hmf : ∀ (fn : Fn) (first cap : Array Value) (w : World), (Instr.makeFunc fn first cap).run Try.prog w = .ok (.func fn first cap) w := fun _ _ _ _ => rfl
  have S1 : Hid (∀ (bf bv : Nat) (W : World), Grown w W → W.cell? ⟨bv, 0, none⟩ = some (.int .i64 t) → W.cell? ⟨bf, 0, none⟩ = some (.func (.func 31) #[] #[.pointer (some ⟨b, 0, none⟩)]) →
      Calls Try.prog 45 #[.int .i64 1000000001, .func (.func 46) #[] #[.pointer (some ⟨bf, 0, none⟩), .pointer (some ⟨bv, 0, none⟩)]] W fun e w' => e = .returned (.int .i64 k) ∧ Grown W w') := Lib.hid (fun bf bv W g h1 h2 => by
    obtain ⟨k0, k1, k2⟩ := hk
    refine search_c 46 #[.pointer (some ⟨bf, 0, none⟩), .pointer (some ⟨bv, 0, none⟩)] enter_fr 1000000001 (fun i => decide (t ≤ th a h d i)) k W (Nat.le_refl _) k0 (fun i hi => ?_) (fun i h2 h3 => ?_) (fun i W' hi g' => ?_)
    · have : th a h d i < t := k1 i hi
      exact decide_eq_false (by omega)
    · exact decide_eq_true (k2 i h2 h3)
    · exact fr1_c a l h d i t b bf bv W' hc ⟨by omega, by omega⟩ (hb.grown (Grown.trans g g')) ((Grown.cell g' (World.block_lt_of_cell? W _ h2)).trans h2) ((Grown.cell g' (World.block_lt_of_cell? W _ h1)).trans h1))
  clear hc hb hk
  go_enter Try.func30, Try.ntmps30
  go_wp2_with fail
  refine (S1.out _ _ _ (by go_grown) (by simp [go_sem]) (by simp [go_sem])).mono ?_
  rintro e w1 ⟨rfl, g1⟩
  have G1 : Grown w w1 := Grown.trans (by go_grown) g1
  clear g1
  go_wp2_with fail
  go_ret
  exact ⟨rfl, G1⟩
theorem first2_c (a l h d t : Int) (k b : Nat) (w : World) (hc : Cv a l h d) (hb : Cb w b a l h d) (hk : Ct (fun i => tl a l d i) t k) : Calls Try.prog 30 #[.int .i64 t, .func (.func 32) #[] #[.pointer (some ⟨b, 0, none⟩)]] w fun e w' => e = .returned (.int .i64 k) ∧ Grown w w' := by
  have hmf : ∀ (fn : Fn) (first cap : Array Value) (w : World), (Instr.makeFunc fn first cap).run Try.prog w = .ok (.func fn first cap) w := fun _ _ _ _ => rfl
  have S1 : Hid (∀ (bf bv : Nat) (W : World), Grown w W → W.cell? ⟨bv, 0, none⟩ = some (.int .i64 t) → W.cell? ⟨bf, 0, none⟩ = some (.func (.func 32) #[] #[.pointer (some ⟨b, 0, none⟩)]) →
      Calls Try.prog 45 #[.int .i64 1000000001, .func (.func 46) #[] #[.pointer (some ⟨bf, 0, none⟩), .pointer (some ⟨bv, 0, none⟩)]] W fun e w' => e = .returned (.int .i64 k) ∧ Grown W w') := Lib.hid (fun bf bv W g h1 h2 => by
    obtain ⟨k0, k1, k2⟩ := hk
    refine search_c 46 #[.pointer (some ⟨bf, 0, none⟩), .pointer (some ⟨bv, 0, none⟩)] enter_fr 1000000001 (fun i => decide (t ≤ tl a l d i)) k W (Nat.le_refl _) k0 (fun i hi => ?_) (fun i h2 h3 => ?_) (fun i W' hi g' => ?_)
    · have : tl a l d i < t := k1 i hi
      exact decide_eq_false (by omega)
    · exact decide_eq_true (k2 i h2 h3)
    · exact fr2_c a l h d i t b bf bv W' hc ⟨by omega, by omega⟩ (hb.grown (Grown.trans g g')) ((Grown.cell g' (World.block_lt_of_cell? W _ h2)).trans h2) ((Grown.cell g' (World.block_lt_of_cell? W _ h1)).trans h1))
  clear hc hb hk
  go_enter Try.func30, Try.ntmps30
  go_wp2_with fail
  refine (S1.out _ _ _ (by go_grown) (by simp [go_sem]) (by simp [go_sem])).mono ?_
  rintro e w1 ⟨rfl, g1⟩
  have G1 : Grown w w1 := Grown.trans (by go_grown) g1
  clear g1
  go_wp2_with fail
  go_ret
  exact ⟨rfl, G1⟩
def Tm (t : Int) : Prop := -1000000000000 ≤ t ∧ t ≤ 1000000000000
instance (t : Int) : Decidable (Tm t) := by unfold Tm; infer_instance
theorem reading_bad (a l h d t : Int) (w : World) (hn : ¬ (Cv a l h d ∧ Tm t)) : Calls Try.prog 15 #[.agg #[.int .i64 a, .int .i64 l, .int .i64 h, .int .i64 d], .int .i64 t] w fun e w' => e = .returned (.tuple #[.agg #[.int .i64 0, .int .i64 0], .int .i64 1]) ∧ Grown w w' := by
  by_cases hc : Cv a l h d
  · have V := Lib.hid (valid_yes a l h d · hc)
    have H : Hid (fr t (-1000000000000) 1000000000000 = false) := Lib.hid (decide_eq_false (fun t => hn ⟨hc, t⟩))
    clear hn hc
    go_enter Try.func15, Try.ntmps15
    go_wp2_with fail
    refine (V.out _).mono ?_
    rintro e w1 ⟨rfl, g1⟩
    obtain ⟨c1, f1, z1⟩ := laid g1
    try simp at z1
    have G1 : Grown w w1 := Grown.trans (by go_grown) g1
    clear g1
    have z1_w0 : w.heap.size < w1.heap.size := by omega
    have z1_w1 : w.heap.size + 1 < w1.heap.size := by omega
    go_wp2_with fail
    refine (isFrom_c _ _ _ _).mono ?_
    rintro e w' ⟨rfl, rfl⟩
    rw [H.out]
    go_wp2_with fail
    exact bodyPost_ret (v := .tuple #[.agg #[.int .i64 0, .int .i64 0], .int .i64 1]) (by simp [results, Try.results15, go_sem, *]) rfl ⟨rfl, by go_grown⟩
  · have V := Lib.hid (valid_no a l h d · hc)
    clear hn hc
    go_enter Try.func15, Try.ntmps15
    go_wp2_with fail
    refine (V.out _).mono ?_
    rintro e w1 ⟨rfl, g1⟩
    obtain ⟨c1, f1, z1⟩ := laid g1
    try simp at z1
    have G1 : Grown w w1 := Grown.trans (by go_grown) g1
    clear g1
    have z1_w0 : w.heap.size < w1.heap.size := by omega
    have z1_w1 : w.heap.size + 1 < w1.heap.size := by omega
    go_wp2_with fail
    exact bodyPost_ret (v := .tuple #[.agg #[.int .i64 0, .int .i64 0], .int .i64 1]) (by simp [results, Try.results15, go_sem, *]) rfl ⟨rfl, by go_grown⟩
theorem reading_none (a l h d t : Int) (k j : Nat) (w : World) (hc : Cv a l h d) (ht : Tm t) (hk : Fi a h d t k) (hj : La a l d t j) (hn : (j : Int) - 1 < k) : Calls Try.prog 15 #[.agg #[.int .i64 a, .int .i64 l, .int .i64 h, .int .i64 d], .int .i64 t] w fun e w' => e = .returned (.tuple #[.agg #[.int .i64 0, .int .i64 0], .int .i64 4]) ∧ Grown w w' := by
  have V := Lib.hid (valid_yes a l h d · hc)
  have F1 : Hid (∀ W b, Cb W b a l h d → Calls Try.prog 30 #[.int .i64 t, .func (.func 31) #[] #[.pointer (some ⟨b, 0, none⟩)]] W fun e w' => e = .returned (.int .i64 k) ∧ Grown W w') := Lib.hid (fun W b hb => first1_c a l h d t k b W hc hb hk)
  have F2 : Hid (∀ W b, Cb W b a l h d → Calls Try.prog 30 #[.int .i64 (t + 1), .func (.func 32) #[] #[.pointer (some ⟨b, 0, none⟩)]] W fun e w' => e = .returned (.int .i64 j) ∧ Grown W w') := Lib.hid (fun W b hb => first2_c a l h d (t + 1) j b W hc hb hj)
  have hmf : ∀ (fn : Fn) (first cap : Array Value) (w : World), (Instr.makeFunc fn first cap).run Try.prog w = .ok (.func fn first cap) w := fun _ _ _ _ => rfl
  have H : Hid (fr t (-1000000000000) 1000000000000 = true) := Lib.hid (decide_eq_true ht)
  obtain ⟨t0, t1⟩ := ht
  have j0 : (0 : Int) ≤ (j : Int) ∧ (j : Int) ≤ 1000000001 := by
    have := hj.1
    omega
  have i0 : (0 : Int) ≤ (k : Int) ∧ (k : Int) ≤ 1000000001 := by
    have := hk.1
    omega
  clear hc hk hj
  go_enter Try.func15, Try.ntmps15
  go_wp2_with fail
  refine (V.out _).mono ?_
  rintro e w1 ⟨rfl, g1⟩
  obtain ⟨c1, f1, z1⟩ := laid g1
  try simp at z1
  have G1 : Grown w w1 := Grown.trans (by go_grown) g1
  clear g1
  have z1_w0 : w.heap.size < w1.heap.size := by omega
  have z1_w1 : w.heap.size + 1 < w1.heap.size := by omega
  go_wp2_with fail
  refine (isFrom_c _ _ _ _).mono ?_
  rintro e w' ⟨rfl, rfl⟩
  rw [H.out]
  go_wp2_with fail
  refine (F1.out _ _ ⟨by simp [go_sem, *], by simp [go_sem, *], by simp [go_sem, *], by simp [go_sem, *]⟩).mono ?_
  rintro e w2 ⟨rfl, g2⟩
  obtain ⟨c2, f2, z2⟩ := laid g2
  try simp at z2
  have G2 : Grown w w2 := Grown.trans (by go_grown) g2
  clear g2
  have z2_w0 : w.heap.size < w2.heap.size := by omega
  have z2_w1 : w.heap.size + 1 < w2.heap.size := by omega
  go_wp2_with fail
  refine (F2.out _ _ ⟨by simp [go_sem, *], by simp [go_sem, *], by simp [go_sem, *], by simp [go_sem, *]⟩).mono ?_
  rintro e w3 ⟨rfl, g3⟩
  obtain ⟨c3, f3, z3⟩ := laid g3
  try simp at z3
  have G3 : Grown w w3 := Grown.trans (by go_grown) g3
  clear g3
  have z3_w0 : w.heap.size < w3.heap.size := by omega
  have z3_w1 : w.heap.size + 1 < w3.heap.size := by omega
  go_wp2_with fail
  exact bodyPost_ret (v := .tuple #[.agg #[.int .i64 0, .int .i64 0], .int .i64 4]) (by simp [results, Try.results15, go_sem, *]) rfl ⟨rfl, by go_grown⟩
theorem reading_ok (a l h d t : Int) (k j : Nat) (w : World) (hc : Cv a l h d) (ht : Tm t) (hk : Fi a h d t k) (hj : La a l d t j) (hn : (k : Int) ≤ (j : Int) - 1) : Calls Try.prog 15 #[.agg #[.int .i64 a, .int .i64 l, .int .i64 h, .int .i64 d], .int .i64 t] w fun e w' => e = .returned (.tuple #[.agg #[.int .i64 k, .int .i64 ((j : Int) - 1)], .int .i64 0]) ∧ Grown w w' := by
  have V := Lib.hid (valid_yes a l h d · hc)
  have F1 : Hid (∀ W b, Cb W b a l h d → Calls Try.prog 30 #[.int .i64 t, .func (.func 31) #[] #[.pointer (some ⟨b, 0, none⟩)]] W fun e w' => e = .returned (.int .i64 k) ∧ Grown W w') := Lib.hid (fun W b hb => first1_c a l h d t k b W hc hb hk)
  have F2 : Hid (∀ W b, Cb W b a l h d → Calls Try.prog 30 #[.int .i64 (t + 1), .func (.func 32) #[] #[.pointer (some ⟨b, 0, none⟩)]] W fun e w' => e = .returned (.int .i64 j) ∧ Grown W w') := Lib.hid (fun W b hb => first2_c a l h d (t + 1) j b W hc hb hj)
  have hmf : ∀ (fn : Fn) (first cap : Array Value) (w : World), (Instr.makeFunc fn first cap).run Try.prog w = .ok (.func fn first cap) w := fun _ _ _ _ => rfl
  have H : Hid (fr t (-1000000000000) 1000000000000 = true) := Lib.hid (decide_eq_true ht)
  obtain ⟨t0, t1⟩ := ht
  have j0 : (0 : Int) ≤ (j : Int) ∧ (j : Int) ≤ 1000000001 := by
    have := hj.1
    omega
  have i0 : (0 : Int) ≤ (k : Int) ∧ (k : Int) ≤ 1000000001 := by
    have := hk.1
    omega
  clear hc hk hj
  go_enter Try.func15, Try.ntmps15
  go_wp2_with fail
  refine (V.out _).mono ?_
  rintro e w1 ⟨rfl, g1⟩
  obtain ⟨c1, f1, z1⟩ := laid g1
  try simp at z1
  have G1 : Grown w w1 := Grown.trans (by go_grown) g1
  clear g1
  have z1_w0 : w.heap.size < w1.heap.size := by omega
  have z1_w1 : w.heap.size + 1 < w1.heap.size := by omega
  go_wp2_with fail
  refine (isFrom_c _ _ _ _).mono ?_
  rintro e w' ⟨rfl, rfl⟩
  rw [H.out]
  go_wp2_with fail
  refine (F1.out _ _ ⟨by simp [go_sem, *], by simp [go_sem, *], by simp [go_sem, *], by simp [go_sem, *]⟩).mono ?_
  rintro e w2 ⟨rfl, g2⟩
  obtain ⟨c2, f2, z2⟩ := laid g2
  try simp at z2
  have G2 : Grown w w2 := Grown.trans (by go_grown) g2
  clear g2
  have z2_w0 : w.heap.size < w2.heap.size := by omega
  have z2_w1 : w.heap.size + 1 < w2.heap.size := by omega
  go_wp2_with fail
  refine (F2.out _ _ ⟨by simp [go_sem, *], by simp [go_sem, *], by simp [go_sem, *], by simp [go_sem, *]⟩).mono ?_
  rintro e w3 ⟨rfl, g3⟩
  obtain ⟨c3, f3, z3⟩ := laid g3
  try simp at z3
  have G3 : Grown w w3 := Grown.trans (by go_grown) g3
  clear g3
  have z3_w0 : w.heap.size < w3.heap.size := by omega
  have z3_w1 : w.heap.size + 1 < w3.heap.size := by omega
  go_wp2_with fail
  exact bodyPost_ret (v := .tuple #[.agg #[.int .i64 k, .int .i64 ((j : Int) - 1)], .int .i64 0]) (by simp [results, Try.results15, go_sem, *]) rfl ⟨rfl, by go_grown⟩
end Ck
end Go.Proofs.Ytndabfpinkakbaa
