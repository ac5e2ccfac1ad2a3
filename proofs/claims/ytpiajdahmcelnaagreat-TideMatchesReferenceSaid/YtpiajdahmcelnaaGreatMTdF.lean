/-
  The landed package tide: the flows between two spots.
-/
import Derived.Test.YtpiajdahmcelnaaGreatMTdE
namespace Go.Proofs.YtpiajdahmcelnaaGreat
open Go.RowKit Hl
namespace Td
set_option maxRecDepth 100000

theorem bound_mono (n : Nat) (d : Nat → Bool) (h : ∀ i j, i ≤ j → j < n → d i = true → d j = true) : ∃ k, k ≤ n ∧ (∀ i, i < k → d i = false) ∧ ∀ i, k ≤ i → i < n → d i = true := by
  induction n with
  | zero => exact ⟨0, Nat.le_refl _, fun i hi => absurd hi (Nat.not_lt_zero i), fun i _ hi => absurd hi (Nat.not_lt_zero i)⟩
  | succ n ih =>
    obtain ⟨k, hk, h0, h1⟩ := ih (fun i j a b c => h i j a (by omega) c)
    by_cases e : k = n
    · cases hd : d n with
      | false => exact ⟨n + 1, Nat.le_refl _, fun i hi => by
          by_cases e2 : i = n
          · rw [e2]; exact hd
          · exact h0 i (by omega), fun i h2 h3 => by omega⟩
      | true => exact ⟨n, by omega, fun i hi => h0 i (by omega), fun i h2 h3 => by
          obtain rfl : i = n := by omega
          exact hd⟩
    · exact ⟨k, by omega, h0, fun i h2 h3 => by
        by_cases e2 : i = n
        · rw [e2]; exact h (n - 1) n (by omega) (by omega) (h1 (n - 1) (by omega) (by omega))
        · exact h1 i h2 (by omega)⟩
/-- Where the flows begin that are not before a spot; where those begin that are behind one. -/
def Cut1 (l : List Fw) (S Y X : Int) (a : Nat) : Prop := a ≤ l.length ∧ (∀ i, i < a → bef (ith l i).s (ith l i).y (ith l i).x S Y X) ∧ ∀ i, a ≤ i → i < l.length → ¬ bef (ith l i).s (ith l i).y (ith l i).x S Y X
def Cut2 (l : List Fw) (S Y X : Int) (z : Nat) : Prop := z ≤ l.length ∧ (∀ i, i < z → ¬ bef S Y X (ith l i).s (ith l i).y (ith l i).x) ∧ ∀ i, z ≤ i → i < l.length → bef S Y X (ith l i).s (ith l i).y (ith l i).x
theorem cut1_some {l : List Fw} (hu : Up l) (S Y X : Int) : ∃ a, Cut1 l S Y X a := by
  obtain ⟨k, hk, h0, h1⟩ := bound_mono l.length (fun i => !decide (bef (ith l i).s (ith l i).y (ith l i).x S Y X)) (fun i j hij hj h => by
    simp only [Bool.not_eq_true', decide_eq_false_iff_not] at h ⊢
    intro hb
    by_cases e : i = j
    · rw [e] at h; exact h hb
    · exact h (bef_trans (hu.lt (by omega) hj) hb))
  exact ⟨k, hk, fun i hi => by simpa using h0 i hi, fun i h2 h3 => by simpa using h1 i h2 h3⟩
theorem cut2_some {l : List Fw} (hu : Up l) (S Y X : Int) : ∃ z, Cut2 l S Y X z := by
  obtain ⟨k, hk, h0, h1⟩ := bound_mono l.length (fun i => decide (bef S Y X (ith l i).s (ith l i).y (ith l i).x)) (fun i j hij hj h => by
    simp only [decide_eq_true_eq] at h ⊢
    by_cases e : i = j
    · rw [← e]; exact h
    · exact bef_trans h (hu.lt (by omega) hj))
  exact ⟨k, hk, fun i hi => by simpa using h0 i hi, fun i h2 h3 => by simpa using h1 i h2 h3⟩
theorem cut_le {l : List Fw} {S Y X S' Y' X' : Int} {a z : Nat} (ha : Cut1 l S Y X a) (hz : Cut2 l S' Y' X' z) (h : ¬ bef S' Y' X' S Y X) : a ≤ z := by
  by_cases k : a ≤ z
  · exact k
  · have h1 := ha.2.1 z (by omega)
    have h2 := hz.2.2 z (Nat.le_refl _) (by have := ha.1; omega)
    exact absurd (bef_trans h2 h1) h
set_option maxHeartbeats 8000000 in
theorem between_c (l : List Fw) (v : Value) (S Y X S' Y' X' : Int) (w : World) (a z : Nat) (hs : Rs w v l) (hl : l.length ≤ 4000) (ha : Cut1 l S Y X a) (hz : Cut2 l S' Y' X' z) (haz : a ≤ z) :
    Calls Tryz.prog 49 #[v, .agg #[.int .i64 S, .int .i64 Y, .int .i64 X], .agg #[.int .i64 S', .int .i64 Y', .int .i64 X']] w fun e w' => ∃ v', e = .returned v' ∧ (∀ W0, Rs W0 v l → Rs W0 v' ((l.take z).drop a)) ∧ Grew w w' := by
  have HS := Lib.hid hs
  have hmf : ∀ (fn : Fn) (first cap : Array Value) (w : World), (Instr.makeFunc fn first cap).run Tryz.prog w = .ok (.func fn first cap) w := fun _ _ _ _ => rfl
  have S1 : Hid (∀ (B1 B2 : Nat) (W : World), Grew w W → W.cell? ⟨B1, 0, none⟩ = some v → W.cell? ⟨B2, 0, none⟩ = some (.int .i64 S) → W.cell? ⟨B2, 1, none⟩ = some (.int .i64 Y) → W.cell? ⟨B2, 2, none⟩ = some (.int .i64 X) →
      Calls Tryz.prog 63 #[.int .i64 l.length, .func (.func 64) #[] #[.pointer (some ⟨B1, 0, none⟩), .pointer (some ⟨B2, 0, none⟩)]] W fun e w' => e = .returned (.int .i64 a) ∧ Grew W w') := Lib.hid (fun B1 B2 W g e1 s0 s1 s2 => by
    refine search_c 64 _ enter_b1 l.length (fun i => !decide (bef (ith l i).s (ith l i).y (ith l i).x S Y X)) a W hl ha.1 (fun i hi => by simpa using ha.2.1 i hi) (fun i h2 h3 => by simpa using ha.2.2 i h2 h3) (fun i W' hi g' => ?_)
    obtain ⟨sa, sc, rfl, _⟩ := hs.shape
    obtain ⟨b, o, rfl, hr⟩ := hs.row (by omega)
    have x1 := World.block_lt_of_cell? W _ e1
    have x2 := World.block_lt_of_cell? W _ s0
    exact bet1_c l b o sc B1 B2 i S Y X W' ((hr.grew g).grew g') hi ((g'.cell x1).trans e1) ((g'.cell x2).trans s0) ((g'.cell x2).trans s1) ((g'.cell x2).trans s2))
  have S2 : Hid (∀ (B1 B2 : Nat) (W : World), Grew w W → W.cell? ⟨B1, 0, none⟩ = some v → W.cell? ⟨B2, 0, none⟩ = some (.int .i64 S') → W.cell? ⟨B2, 1, none⟩ = some (.int .i64 Y') → W.cell? ⟨B2, 2, none⟩ = some (.int .i64 X') →
      Calls Tryz.prog 63 #[.int .i64 l.length, .func (.func 65) #[] #[.pointer (some ⟨B2, 0, none⟩), .pointer (some ⟨B1, 0, none⟩)]] W fun e w' => e = .returned (.int .i64 z) ∧ Grew W w') := Lib.hid (fun B1 B2 W g e1 s0 s1 s2 => by
    refine search_c 65 _ enter_b2 l.length (fun i => decide (bef S' Y' X' (ith l i).s (ith l i).y (ith l i).x)) z W hl hz.1 (fun i hi => by simpa using hz.2.1 i hi) (fun i h2 h3 => by simpa using hz.2.2 i h2 h3) (fun i W' hi g' => ?_)
    obtain ⟨sa, sc, rfl, _⟩ := hs.shape
    obtain ⟨b, o, rfl, hr⟩ := hs.row (by omega)
    have x1 := World.block_lt_of_cell? W _ e1
    have x2 := World.block_lt_of_cell? W _ s0
    exact bet2_c l b o sc B1 B2 i S' Y' X' W' ((hr.grew g).grew g') hi ((g'.cell x1).trans e1) ((g'.cell x2).trans s0) ((g'.cell x2).trans s1) ((g'.cell x2).trans s2))
  have hz1 := hz.1
  obtain ⟨sa, sc, rfl, hc⟩ := hs.shape
  have i0 : (0 : Int) ≤ (a : Int) := by omega
  have i1 : (a : Int) ≤ (z : Int) := by omega
  have i2 : (z : Int) ≤ (sc : Int) := by omega
  have i3 : (0 : Int) ≤ (z : Int) := by omega
  have hl' : (l.length : Int) ≤ 4000 := by omega
  have HH : Hid (∃ v', v' = Value.slice (if sc = a then sa else sa.map (·.add (a * 9))) (z - a) (sc - a) ∧ ∀ W, Rs W (.slice sa l.length sc) l → Rs W v' ((l.take z).drop a)) := Lib.hid ⟨_, rfl, fun W g => by
    exact (g.take hz.1).drop (k := a) (by rw [List.length_take]; omega)⟩
  clear ha hz hs
  go_enter Tryz.func49, Tryz.ntmps49
  go_wp2_with fail
  refine (S1.out w.heap.size (w.heap.size + 1) _ (by (repeat' (first | (with_reducible exact Grew.refl _) | (with_reducible assumption) | (with_reducible refine Grew.alloc ?_ _ _) | (with_reducible refine Grew.drew ?_) | (with_reducible refine Grew.drewN ?_ _) | (with_reducible refine Grew.setCell ?_ ?_ _) | go_size))) (by simp [go_sem]) (by simp [go_sem]) (by simp [go_sem]) (by simp [go_sem])).mono ?_
  rintro e w1 ⟨rfl, g1⟩
  obtain ⟨c1, f1, z1⟩ := laid g1
  try simp at z1
  have G1 : Grew w w1 := Grew.trans (by (repeat' (first | (with_reducible exact Grew.refl _) | (with_reducible assumption) | (with_reducible refine Grew.alloc ?_ _ _) | (with_reducible refine Grew.drew ?_) | (with_reducible refine Grew.drewN ?_ _) | (with_reducible refine Grew.setCell ?_ ?_ _) | go_size))) g1
  clear g1
  have z1_0 : w.heap.size < w1.heap.size := by omega
  have z1_1 : w.heap.size + 1 < w1.heap.size := by omega
  have z1_2 : w.heap.size + 1 + 1 < w1.heap.size := by omega
  go_wp2_with fail
  refine (S2.out w.heap.size (w.heap.size + 1 + 1) _ G1 (by simp [go_sem, *]) (by simp [go_sem, *]) (by simp [go_sem, *]) (by simp [go_sem, *])).mono ?_
  rintro e w2 ⟨rfl, g2⟩
  obtain ⟨c2, f2, z2⟩ := laid g2
  try simp at z2
  have G2 : Grew w w2 := Grew.trans (by (repeat' (first | (with_reducible exact Grew.refl _) | (with_reducible assumption) | (with_reducible refine Grew.alloc ?_ _ _) | (with_reducible refine Grew.drew ?_) | (with_reducible refine Grew.drewN ?_ _) | (with_reducible refine Grew.setCell ?_ ?_ _) | go_size))) g2
  clear g2
  have z2_0 : w.heap.size < w2.heap.size := by omega
  have z2_1 : w.heap.size + 1 < w2.heap.size := by omega
  have z2_2 : w.heap.size + 1 + 1 < w2.heap.size := by omega
  have k0 : w2.cell? ⟨w.heap.size, 0, none⟩ = some (.slice sa l.length sc) := by simp [go_sem, *]
  clear S1 S2 c1 f1 z1 c2 f2
  by_cases hca : sc = a
  · go_wp2_with fail
    go_ret
    obtain ⟨v', e', hv⟩ := HH.out
    refine ⟨v', by rw [e', if_pos hca]; first | rfl | simp [hca], hv, G2⟩
  · go_wp2_with fail
    go_ret
    obtain ⟨v', e', hv⟩ := HH.out
    refine ⟨v', by rw [e', if_neg hca]; first | rfl | simp [hca], hv, G2⟩
end Td
end Go.Proofs.YtpiajdahmcelnaaGreat
