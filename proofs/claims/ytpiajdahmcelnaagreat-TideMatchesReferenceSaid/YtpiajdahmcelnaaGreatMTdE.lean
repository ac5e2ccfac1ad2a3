/-
  The landed package tide: the flows from one spot to another one, by two binary searches.
-/
import Derived.Laws.EntriesVeiled
import Derived.Test.YtpiajdahmcelnaaGreatMTdD
namespace Go.Proofs.YtpiajdahmcelnaaGreat
open Go.RowKit Hl
namespace Td
set_option maxRecDepth 100000

set_option maxHeartbeats 4000000 in
theorem search_c (g : Nat) (cb : Array Value) (eg : ∀ args w, (callFunc g args).run Tryz.prog w = .ok (.enter g args) w) (n : Nat) (d : Nat → Bool) (k : Nat) (w : World) (hn : n ≤ 4000) (hk : k ≤ n) (h0 : ∀ i, i < k → d i = false) (h1 : ∀ i, k ≤ i → i < n → d i = true)
    (hC : ∀ (i : Nat) W, i < n → Grew w W → Calls Tryz.prog g (#[.int .i64 i] ++ cb) W fun e w' => e = .returned (.bool (d i)) ∧ Grew W w') :
    Calls Tryz.prog 63 #[.int .i64 n, .func (.func g) #[] cb] w fun e w' => e = .returned (.int .i64 k) ∧ Grew w w' := by
  have H0 := Lib.hid h0
  have H1 := Lib.hid h1
  have HC := Lib.hid hC
  clear h0 h1 hC
  go_enter Tryz.func63, Tryz.ntmps63
  go_wp2_with fail
  go_loopw [5, 6] (fun u v wr => ∃ lo hi : Nat, u = .int .i64 lo ∧ v = .int .i64 hi ∧ lo ≤ k ∧ k ≤ hi ∧ hi ≤ n ∧ Grew w wr) (fun u v _ => (intOf v).toNat - (intOf u).toNat)
  case atStart => exact ⟨0, n, rfl, rfl, Nat.zero_le _, hk, Nat.le_refl _, Grew.refl _⟩
  case round =>
    obtain ⟨lo, hi, rfl, rfl, hl, hh, hm, G⟩ := hrel
    by_cases hlt : lo < hi
    · have hc := HC.out ((lo + hi) / 2) wr (by omega) G
      rw [show (((lo + hi) / 2 : Nat) : Int) = ((lo : Int) + (hi : Int)) / 2 by omega] at hc
      by_cases hd : (lo + hi) / 2 < k
      · rw [H0.out _ hd] at hc
        go_wp2_with fail
        refine hc.mono ?_
        rintro e w1 ⟨rfl, g1⟩
        have G1 := Grew.trans G g1
        clear g1 hc
        go_wp2_with fail
        go_roundw
        case rel => exact ⟨(lo + hi) / 2 + 1, hi, by rw [show ((lo : Int) + (hi : Int)) / 2 + 1 = (((lo + hi) / 2 + 1 : Nat) : Int) by omega], rfl, by omega, by omega, hm, G1⟩
        case measure => simp [intOf]; omega
      · rw [H1.out _ (by omega) (by omega)] at hc
        go_wp2_with fail
        refine hc.mono ?_
        rintro e w1 ⟨rfl, g1⟩
        have G1 := Grew.trans G g1
        clear g1 hc
        go_wp2_with fail
        go_roundw
        case rel => exact ⟨lo, (lo + hi) / 2, rfl, by rw [show ((lo : Int) + (hi : Int)) / 2 = (((lo + hi) / 2 : Nat) : Int) by omega], by omega, by omega, by omega, G1⟩
        case measure => simp [intOf]; omega
    · obtain rfl : lo = k := by omega
      obtain rfl : hi = lo := by omega
      go_wp2_with fail
      go_ret
      exact ⟨rfl, G⟩
set_option maxHeartbeats 4000000 in
theorem bet1_c (l : List Fw) (b o c bl bs i : Nat) (S Y X : Int) (w : World) (hr : Row w b o l) (hi : i < l.length) (hl : w.cell? ⟨bl, 0, none⟩ = some (.slice (some ⟨b, o, none⟩) l.length c)) (s0 : w.cell? ⟨bs, 0, none⟩ = some (.int .i64 S)) (s1 : w.cell? ⟨bs, 1, none⟩ = some (.int .i64 Y)) (s2 : w.cell? ⟨bs, 2, none⟩ = some (.int .i64 X)) :
    Calls Tryz.prog 64 #[.int .i64 i, .pointer (some ⟨bl, 0, none⟩), .pointer (some ⟨bs, 0, none⟩)] w fun e w' => e = .returned (.bool (!decide (bef (ith l i).s (ith l i).y (ith l i).x S Y X))) ∧ Grew w w' := by
  obtain ⟨p0, p1, p2, p3, p4, p5, p6, p7, p8⟩ := hr.at hi
  have x1 : bl < w.heap.size := World.block_lt_of_cell? w _ hl
  have x2 : bs < w.heap.size := World.block_lt_of_cell? w _ s0
  have x3 : b < w.heap.size := hr.1
  obtain ⟨f, hf⟩ : ∃ f, ith l i = f := ⟨_, rfl⟩
  rw [hf] at p0 p1 p2 p3 p4 p5 p6 p7 p8 ⊢
  obtain ⟨r, hr0⟩ : ∃ r, decide (bef f.s f.y f.x S Y X) = r := ⟨_, rfl⟩
  rw [hr0]
  have H5 := Lib.hid hr0
  clear hf hr hr0
  have i0 : (0 : Int) ≤ (i : Int) := by omega
  have i1 : (i : Int) < (l.length : Int) := by omega
  have KS : Hid (∀ W W', (W.cell? ⟨bl, 0, none⟩ = some (.slice (some ⟨b, o, none⟩) l.length c) ∧ W.cell? ⟨bs, 0, none⟩ = some (.int .i64 S) ∧ W.cell? ⟨bs, 1, none⟩ = some (.int .i64 Y) ∧ W.cell? ⟨bs, 2, none⟩ = some (.int .i64 X) ∧ W.cell? ⟨b, o + i * 9, none⟩ = some (.int .i64 f.x) ∧ W.cell? ⟨b, o + i * 9 + 1, none⟩ = some (.int .i64 f.y) ∧ W.cell? ⟨b, o + i * 9 + 2, none⟩ = some (.int .i64 f.s) ∧ W.cell? ⟨b, o + i * 9 + 3, none⟩ = some (.int .i64 f.k.a) ∧ W.cell? ⟨b, o + i * 9 + 4, none⟩ = some (.int .i64 f.k.b) ∧ W.cell? ⟨b, o + i * 9 + 5, none⟩ = some (.int .i64 f.k.c) ∧ W.cell? ⟨b, o + i * 9 + 6, none⟩ = some (.int .i64 f.k.d) ∧ W.cell? ⟨b, o + i * 9 + 7, none⟩ = some (.int .i64 f.k.e) ∧ W.cell? ⟨b, o + i * 9 + 8, none⟩ = some (.int .i64 f.k.f) ∧ Grew w W) → Grew W W' → (W'.cell? ⟨bl, 0, none⟩ = some (.slice (some ⟨b, o, none⟩) l.length c) ∧ W'.cell? ⟨bs, 0, none⟩ = some (.int .i64 S) ∧ W'.cell? ⟨bs, 1, none⟩ = some (.int .i64 Y) ∧ W'.cell? ⟨bs, 2, none⟩ = some (.int .i64 X) ∧ W'.cell? ⟨b, o + i * 9, none⟩ = some (.int .i64 f.x) ∧ W'.cell? ⟨b, o + i * 9 + 1, none⟩ = some (.int .i64 f.y) ∧ W'.cell? ⟨b, o + i * 9 + 2, none⟩ = some (.int .i64 f.s) ∧ W'.cell? ⟨b, o + i * 9 + 3, none⟩ = some (.int .i64 f.k.a) ∧ W'.cell? ⟨b, o + i * 9 + 4, none⟩ = some (.int .i64 f.k.b) ∧ W'.cell? ⟨b, o + i * 9 + 5, none⟩ = some (.int .i64 f.k.c) ∧ W'.cell? ⟨b, o + i * 9 + 6, none⟩ = some (.int .i64 f.k.d) ∧ W'.cell? ⟨b, o + i * 9 + 7, none⟩ = some (.int .i64 f.k.e) ∧ W'.cell? ⟨b, o + i * 9 + 8, none⟩ = some (.int .i64 f.k.f) ∧ Grew w W')) := Lib.hid (by
    rintro W W' ⟨a0, a1, a2, a3, a4, a5, a6, a7, a8, a9, a10, a11, a12, g0⟩ gg
    have y1 : bl < W.heap.size := Nat.lt_of_lt_of_le x1 g0.size
    have y2 : bs < W.heap.size := Nat.lt_of_lt_of_le x2 g0.size
    have y3 : b < W.heap.size := Nat.lt_of_lt_of_le x3 g0.size
    exact ⟨(gg.cell y1).trans a0, (gg.cell y2).trans a1, (gg.cell y2).trans a2, (gg.cell y2).trans a3, (gg.cell y3).trans a4, (gg.cell y3).trans a5, (gg.cell y3).trans a6, (gg.cell y3).trans a7, (gg.cell y3).trans a8, (gg.cell y3).trans a9, (gg.cell y3).trans a10, (gg.cell y3).trans a11, (gg.cell y3).trans a12, g0.trans gg⟩)
  have KD : Hid (∀ W, (W.cell? ⟨bl, 0, none⟩ = some (.slice (some ⟨b, o, none⟩) l.length c) ∧ W.cell? ⟨bs, 0, none⟩ = some (.int .i64 S) ∧ W.cell? ⟨bs, 1, none⟩ = some (.int .i64 Y) ∧ W.cell? ⟨bs, 2, none⟩ = some (.int .i64 X) ∧ W.cell? ⟨b, o + i * 9, none⟩ = some (.int .i64 f.x) ∧ W.cell? ⟨b, o + i * 9 + 1, none⟩ = some (.int .i64 f.y) ∧ W.cell? ⟨b, o + i * 9 + 2, none⟩ = some (.int .i64 f.s) ∧ W.cell? ⟨b, o + i * 9 + 3, none⟩ = some (.int .i64 f.k.a) ∧ W.cell? ⟨b, o + i * 9 + 4, none⟩ = some (.int .i64 f.k.b) ∧ W.cell? ⟨b, o + i * 9 + 5, none⟩ = some (.int .i64 f.k.c) ∧ W.cell? ⟨b, o + i * 9 + 6, none⟩ = some (.int .i64 f.k.d) ∧ W.cell? ⟨b, o + i * 9 + 7, none⟩ = some (.int .i64 f.k.e) ∧ W.cell? ⟨b, o + i * 9 + 8, none⟩ = some (.int .i64 f.k.f) ∧ Grew w W) → (W.drew.cell? ⟨bl, 0, none⟩ = some (.slice (some ⟨b, o, none⟩) l.length c) ∧ W.drew.cell? ⟨bs, 0, none⟩ = some (.int .i64 S) ∧ W.drew.cell? ⟨bs, 1, none⟩ = some (.int .i64 Y) ∧ W.drew.cell? ⟨bs, 2, none⟩ = some (.int .i64 X) ∧ W.drew.cell? ⟨b, o + i * 9, none⟩ = some (.int .i64 f.x) ∧ W.drew.cell? ⟨b, o + i * 9 + 1, none⟩ = some (.int .i64 f.y) ∧ W.drew.cell? ⟨b, o + i * 9 + 2, none⟩ = some (.int .i64 f.s) ∧ W.drew.cell? ⟨b, o + i * 9 + 3, none⟩ = some (.int .i64 f.k.a) ∧ W.drew.cell? ⟨b, o + i * 9 + 4, none⟩ = some (.int .i64 f.k.b) ∧ W.drew.cell? ⟨b, o + i * 9 + 5, none⟩ = some (.int .i64 f.k.c) ∧ W.drew.cell? ⟨b, o + i * 9 + 6, none⟩ = some (.int .i64 f.k.d) ∧ W.drew.cell? ⟨b, o + i * 9 + 7, none⟩ = some (.int .i64 f.k.e) ∧ W.drew.cell? ⟨b, o + i * 9 + 8, none⟩ = some (.int .i64 f.k.f) ∧ Grew w W.drew)) := Lib.hid (fun W h => KS.out W _ h (Grew.refl W).drew)
  have Q1 : Hid (∀ W, (W.cell? ⟨bl, 0, none⟩ = some (.slice (some ⟨b, o, none⟩) l.length c) ∧ W.cell? ⟨bs, 0, none⟩ = some (.int .i64 S) ∧ W.cell? ⟨bs, 1, none⟩ = some (.int .i64 Y) ∧ W.cell? ⟨bs, 2, none⟩ = some (.int .i64 X) ∧ W.cell? ⟨b, o + i * 9, none⟩ = some (.int .i64 f.x) ∧ W.cell? ⟨b, o + i * 9 + 1, none⟩ = some (.int .i64 f.y) ∧ W.cell? ⟨b, o + i * 9 + 2, none⟩ = some (.int .i64 f.s) ∧ W.cell? ⟨b, o + i * 9 + 3, none⟩ = some (.int .i64 f.k.a) ∧ W.cell? ⟨b, o + i * 9 + 4, none⟩ = some (.int .i64 f.k.b) ∧ W.cell? ⟨b, o + i * 9 + 5, none⟩ = some (.int .i64 f.k.c) ∧ W.cell? ⟨b, o + i * 9 + 6, none⟩ = some (.int .i64 f.k.d) ∧ W.cell? ⟨b, o + i * 9 + 7, none⟩ = some (.int .i64 f.k.e) ∧ W.cell? ⟨b, o + i * 9 + 8, none⟩ = some (.int .i64 f.k.f) ∧ Grew w W) → Calls Tryz.prog 24 #[.agg #[.int .i64 f.x, .int .i64 f.y, .int .i64 f.s, .int .i64 f.k.a, .int .i64 f.k.b, .int .i64 f.k.c, .int .i64 f.k.d, .int .i64 f.k.e, .int .i64 f.k.f]] W fun e w' => e = .returned (.agg #[.int .i64 f.s, .int .i64 f.y, .int .i64 f.x]) ∧ (w'.cell? ⟨bl, 0, none⟩ = some (.slice (some ⟨b, o, none⟩) l.length c) ∧ w'.cell? ⟨bs, 0, none⟩ = some (.int .i64 S) ∧ w'.cell? ⟨bs, 1, none⟩ = some (.int .i64 Y) ∧ w'.cell? ⟨bs, 2, none⟩ = some (.int .i64 X) ∧ w'.cell? ⟨b, o + i * 9, none⟩ = some (.int .i64 f.x) ∧ w'.cell? ⟨b, o + i * 9 + 1, none⟩ = some (.int .i64 f.y) ∧ w'.cell? ⟨b, o + i * 9 + 2, none⟩ = some (.int .i64 f.s) ∧ w'.cell? ⟨b, o + i * 9 + 3, none⟩ = some (.int .i64 f.k.a) ∧ w'.cell? ⟨b, o + i * 9 + 4, none⟩ = some (.int .i64 f.k.b) ∧ w'.cell? ⟨b, o + i * 9 + 5, none⟩ = some (.int .i64 f.k.c) ∧ w'.cell? ⟨b, o + i * 9 + 6, none⟩ = some (.int .i64 f.k.d) ∧ w'.cell? ⟨b, o + i * 9 + 7, none⟩ = some (.int .i64 f.k.e) ∧ w'.cell? ⟨b, o + i * 9 + 8, none⟩ = some (.int .i64 f.k.f) ∧ Grew w w')) := Lib.hid (fun W h => by
    refine (spotOf_c f W).mono ?_
    rintro e w' ⟨rfl, gg⟩
    exact ⟨rfl, KS.out _ _ h gg⟩)
  have Q3 : Hid (∀ W, (W.cell? ⟨bl, 0, none⟩ = some (.slice (some ⟨b, o, none⟩) l.length c) ∧ W.cell? ⟨bs, 0, none⟩ = some (.int .i64 S) ∧ W.cell? ⟨bs, 1, none⟩ = some (.int .i64 Y) ∧ W.cell? ⟨bs, 2, none⟩ = some (.int .i64 X) ∧ W.cell? ⟨b, o + i * 9, none⟩ = some (.int .i64 f.x) ∧ W.cell? ⟨b, o + i * 9 + 1, none⟩ = some (.int .i64 f.y) ∧ W.cell? ⟨b, o + i * 9 + 2, none⟩ = some (.int .i64 f.s) ∧ W.cell? ⟨b, o + i * 9 + 3, none⟩ = some (.int .i64 f.k.a) ∧ W.cell? ⟨b, o + i * 9 + 4, none⟩ = some (.int .i64 f.k.b) ∧ W.cell? ⟨b, o + i * 9 + 5, none⟩ = some (.int .i64 f.k.c) ∧ W.cell? ⟨b, o + i * 9 + 6, none⟩ = some (.int .i64 f.k.d) ∧ W.cell? ⟨b, o + i * 9 + 7, none⟩ = some (.int .i64 f.k.e) ∧ W.cell? ⟨b, o + i * 9 + 8, none⟩ = some (.int .i64 f.k.f) ∧ Grew w W) → Calls Tryz.prog 45 #[.agg #[.int .i64 f.s, .int .i64 f.y, .int .i64 f.x], .agg #[.int .i64 S, .int .i64 Y, .int .i64 X]] W fun e w' => e = .returned (.bool r) ∧ (w'.cell? ⟨bl, 0, none⟩ = some (.slice (some ⟨b, o, none⟩) l.length c) ∧ w'.cell? ⟨bs, 0, none⟩ = some (.int .i64 S) ∧ w'.cell? ⟨bs, 1, none⟩ = some (.int .i64 Y) ∧ w'.cell? ⟨bs, 2, none⟩ = some (.int .i64 X) ∧ w'.cell? ⟨b, o + i * 9, none⟩ = some (.int .i64 f.x) ∧ w'.cell? ⟨b, o + i * 9 + 1, none⟩ = some (.int .i64 f.y) ∧ w'.cell? ⟨b, o + i * 9 + 2, none⟩ = some (.int .i64 f.s) ∧ w'.cell? ⟨b, o + i * 9 + 3, none⟩ = some (.int .i64 f.k.a) ∧ w'.cell? ⟨b, o + i * 9 + 4, none⟩ = some (.int .i64 f.k.b) ∧ w'.cell? ⟨b, o + i * 9 + 5, none⟩ = some (.int .i64 f.k.c) ∧ w'.cell? ⟨b, o + i * 9 + 6, none⟩ = some (.int .i64 f.k.d) ∧ w'.cell? ⟨b, o + i * 9 + 7, none⟩ = some (.int .i64 f.k.e) ∧ w'.cell? ⟨b, o + i * 9 + 8, none⟩ = some (.int .i64 f.k.f) ∧ Grew w w')) := Lib.hid (fun W h => by
    refine (isBefore_c f.s f.y f.x S Y X W).mono ?_
    rintro e w' ⟨rfl, gg⟩
    exact ⟨by rw [← H5.out], KS.out _ _ h gg⟩)
  have S0 : w.cell? ⟨bl, 0, none⟩ = some (.slice (some ⟨b, o, none⟩) l.length c) ∧ w.cell? ⟨bs, 0, none⟩ = some (.int .i64 S) ∧ w.cell? ⟨bs, 1, none⟩ = some (.int .i64 Y) ∧ w.cell? ⟨bs, 2, none⟩ = some (.int .i64 X) ∧ w.cell? ⟨b, o + i * 9, none⟩ = some (.int .i64 f.x) ∧ w.cell? ⟨b, o + i * 9 + 1, none⟩ = some (.int .i64 f.y) ∧ w.cell? ⟨b, o + i * 9 + 2, none⟩ = some (.int .i64 f.s) ∧ w.cell? ⟨b, o + i * 9 + 3, none⟩ = some (.int .i64 f.k.a) ∧ w.cell? ⟨b, o + i * 9 + 4, none⟩ = some (.int .i64 f.k.b) ∧ w.cell? ⟨b, o + i * 9 + 5, none⟩ = some (.int .i64 f.k.c) ∧ w.cell? ⟨b, o + i * 9 + 6, none⟩ = some (.int .i64 f.k.d) ∧ w.cell? ⟨b, o + i * 9 + 7, none⟩ = some (.int .i64 f.k.e) ∧ w.cell? ⟨b, o + i * 9 + 8, none⟩ = some (.int .i64 f.k.f) ∧ Grew w w := ⟨hl, s0, s1, s2, p0, p1, p2, p3, p4, p5, p6, p7, p8, Grew.refl _⟩
  clear H5
  go_enter Tryz.func64, Tryz.ntmps64
  go_wp2_with fail
  go_region_held3 (fun W => W.cell? ⟨bl, 0, none⟩ = some (.slice (some ⟨b, o, none⟩) l.length c) ∧ W.cell? ⟨bs, 0, none⟩ = some (.int .i64 S) ∧ W.cell? ⟨bs, 1, none⟩ = some (.int .i64 Y) ∧ W.cell? ⟨bs, 2, none⟩ = some (.int .i64 X) ∧ W.cell? ⟨b, o + i * 9, none⟩ = some (.int .i64 f.x) ∧ W.cell? ⟨b, o + i * 9 + 1, none⟩ = some (.int .i64 f.y) ∧ W.cell? ⟨b, o + i * 9 + 2, none⟩ = some (.int .i64 f.s) ∧ W.cell? ⟨b, o + i * 9 + 3, none⟩ = some (.int .i64 f.k.a) ∧ W.cell? ⟨b, o + i * 9 + 4, none⟩ = some (.int .i64 f.k.b) ∧ W.cell? ⟨b, o + i * 9 + 5, none⟩ = some (.int .i64 f.k.c) ∧ W.cell? ⟨b, o + i * 9 + 6, none⟩ = some (.int .i64 f.k.d) ∧ W.cell? ⟨b, o + i * 9 + 7, none⟩ = some (.int .i64 f.k.e) ∧ W.cell? ⟨b, o + i * 9 + 8, none⟩ = some (.int .i64 f.k.f) ∧ Grew w W) (first | assumption | exact KD.out _ (by assumption)) (first
    | (go_at_call 24; refine (Q1.out _ (by assumption)).mono ?_; rintro e w3 ⟨rfl, S3⟩)
    | (go_at_call 45; refine (Q3.out _ (by assumption)).mono ?_; rintro e w5 ⟨rfl, S5⟩))
  have V5 : Grew w w5 := by obtain ⟨_, _, _, _, _, _, _, _, _, _, _, _, _, g0⟩ := S5; exact g0
  clear S5 S0 S3 Q1 Q3 KS KD p0 p1 p2 p3 p4 p5 p6 p7 p8 hl s0 s1 s2
  go_wp2_with fail
  go_ret
  exact ⟨rfl, V5⟩
set_option maxHeartbeats 4000000 in
theorem bet2_c (l : List Fw) (b o c bl bs i : Nat) (S Y X : Int) (w : World) (hr : Row w b o l) (hi : i < l.length) (hl : w.cell? ⟨bl, 0, none⟩ = some (.slice (some ⟨b, o, none⟩) l.length c)) (s0 : w.cell? ⟨bs, 0, none⟩ = some (.int .i64 S)) (s1 : w.cell? ⟨bs, 1, none⟩ = some (.int .i64 Y)) (s2 : w.cell? ⟨bs, 2, none⟩ = some (.int .i64 X)) :
    Calls Tryz.prog 65 #[.int .i64 i, .pointer (some ⟨bs, 0, none⟩), .pointer (some ⟨bl, 0, none⟩)] w fun e w' => e = .returned (.bool (decide (bef S Y X (ith l i).s (ith l i).y (ith l i).x))) ∧ Grew w w' := by
  obtain ⟨p0, p1, p2, p3, p4, p5, p6, p7, p8⟩ := hr.at hi
  have x1 : bl < w.heap.size := World.block_lt_of_cell? w _ hl
  have x2 : bs < w.heap.size := World.block_lt_of_cell? w _ s0
  have x3 : b < w.heap.size := hr.1
  obtain ⟨f, hf⟩ : ∃ f, ith l i = f := ⟨_, rfl⟩
  rw [hf] at p0 p1 p2 p3 p4 p5 p6 p7 p8 ⊢
  obtain ⟨r, hr0⟩ : ∃ r, decide (bef S Y X f.s f.y f.x) = r := ⟨_, rfl⟩
  rw [hr0]
  have H5 := Lib.hid hr0
  clear hf hr hr0
  have i0 : (0 : Int) ≤ (i : Int) := by omega
  have i1 : (i : Int) < (l.length : Int) := by omega
  have KS : Hid (∀ W W', (W.cell? ⟨bl, 0, none⟩ = some (.slice (some ⟨b, o, none⟩) l.length c) ∧ W.cell? ⟨bs, 0, none⟩ = some (.int .i64 S) ∧ W.cell? ⟨bs, 1, none⟩ = some (.int .i64 Y) ∧ W.cell? ⟨bs, 2, none⟩ = some (.int .i64 X) ∧ W.cell? ⟨b, o + i * 9, none⟩ = some (.int .i64 f.x) ∧ W.cell? ⟨b, o + i * 9 + 1, none⟩ = some (.int .i64 f.y) ∧ W.cell? ⟨b, o + i * 9 + 2, none⟩ = some (.int .i64 f.s) ∧ W.cell? ⟨b, o + i * 9 + 3, none⟩ = some (.int .i64 f.k.a) ∧ W.cell? ⟨b, o + i * 9 + 4, none⟩ = some (.int .i64 f.k.b) ∧ W.cell? ⟨b, o + i * 9 + 5, none⟩ = some (.int .i64 f.k.c) ∧ W.cell? ⟨b, o + i * 9 + 6, none⟩ = some (.int .i64 f.k.d) ∧ W.cell? ⟨b, o + i * 9 + 7, none⟩ = some (.int .i64 f.k.e) ∧ W.cell? ⟨b, o + i * 9 + 8, none⟩ = some (.int .i64 f.k.f) ∧ Grew w W) → Grew W W' → (W'.cell? ⟨bl, 0, none⟩ = some (.slice (some ⟨b, o, none⟩) l.length c) ∧ W'.cell? ⟨bs, 0, none⟩ = some (.int .i64 S) ∧ W'.cell? ⟨bs, 1, none⟩ = some (.int .i64 Y) ∧ W'.cell? ⟨bs, 2, none⟩ = some (.int .i64 X) ∧ W'.cell? ⟨b, o + i * 9, none⟩ = some (.int .i64 f.x) ∧ W'.cell? ⟨b, o + i * 9 + 1, none⟩ = some (.int .i64 f.y) ∧ W'.cell? ⟨b, o + i * 9 + 2, none⟩ = some (.int .i64 f.s) ∧ W'.cell? ⟨b, o + i * 9 + 3, none⟩ = some (.int .i64 f.k.a) ∧ W'.cell? ⟨b, o + i * 9 + 4, none⟩ = some (.int .i64 f.k.b) ∧ W'.cell? ⟨b, o + i * 9 + 5, none⟩ = some (.int .i64 f.k.c) ∧ W'.cell? ⟨b, o + i * 9 + 6, none⟩ = some (.int .i64 f.k.d) ∧ W'.cell? ⟨b, o + i * 9 + 7, none⟩ = some (.int .i64 f.k.e) ∧ W'.cell? ⟨b, o + i * 9 + 8, none⟩ = some (.int .i64 f.k.f) ∧ Grew w W')) := Lib.hid (by
    rintro W W' ⟨a0, a1, a2, a3, a4, a5, a6, a7, a8, a9, a10, a11, a12, g0⟩ gg
    have y1 : bl < W.heap.size := Nat.lt_of_lt_of_le x1 g0.size
    have y2 : bs < W.heap.size := Nat.lt_of_lt_of_le x2 g0.size
    have y3 : b < W.heap.size := Nat.lt_of_lt_of_le x3 g0.size
    exact ⟨(gg.cell y1).trans a0, (gg.cell y2).trans a1, (gg.cell y2).trans a2, (gg.cell y2).trans a3, (gg.cell y3).trans a4, (gg.cell y3).trans a5, (gg.cell y3).trans a6, (gg.cell y3).trans a7, (gg.cell y3).trans a8, (gg.cell y3).trans a9, (gg.cell y3).trans a10, (gg.cell y3).trans a11, (gg.cell y3).trans a12, g0.trans gg⟩)
  have KD : Hid (∀ W, (W.cell? ⟨bl, 0, none⟩ = some (.slice (some ⟨b, o, none⟩) l.length c) ∧ W.cell? ⟨bs, 0, none⟩ = some (.int .i64 S) ∧ W.cell? ⟨bs, 1, none⟩ = some (.int .i64 Y) ∧ W.cell? ⟨bs, 2, none⟩ = some (.int .i64 X) ∧ W.cell? ⟨b, o + i * 9, none⟩ = some (.int .i64 f.x) ∧ W.cell? ⟨b, o + i * 9 + 1, none⟩ = some (.int .i64 f.y) ∧ W.cell? ⟨b, o + i * 9 + 2, none⟩ = some (.int .i64 f.s) ∧ W.cell? ⟨b, o + i * 9 + 3, none⟩ = some (.int .i64 f.k.a) ∧ W.cell? ⟨b, o + i * 9 + 4, none⟩ = some (.int .i64 f.k.b) ∧ W.cell? ⟨b, o + i * 9 + 5, none⟩ = some (.int .i64 f.k.c) ∧ W.cell? ⟨b, o + i * 9 + 6, none⟩ = some (.int .i64 f.k.d) ∧ W.cell? ⟨b, o + i * 9 + 7, none⟩ = some (.int .i64 f.k.e) ∧ W.cell? ⟨b, o + i * 9 + 8, none⟩ = some (.int .i64 f.k.f) ∧ Grew w W) → (W.drew.cell? ⟨bl, 0, none⟩ = some (.slice (some ⟨b, o, none⟩) l.length c) ∧ W.drew.cell? ⟨bs, 0, none⟩ = some (.int .i64 S) ∧ W.drew.cell? ⟨bs, 1, none⟩ = some (.int .i64 Y) ∧ W.drew.cell? ⟨bs, 2, none⟩ = some (.int .i64 X) ∧ W.drew.cell? ⟨b, o + i * 9, none⟩ = some (.int .i64 f.x) ∧ W.drew.cell? ⟨b, o + i * 9 + 1, none⟩ = some (.int .i64 f.y) ∧ W.drew.cell? ⟨b, o + i * 9 + 2, none⟩ = some (.int .i64 f.s) ∧ W.drew.cell? ⟨b, o + i * 9 + 3, none⟩ = some (.int .i64 f.k.a) ∧ W.drew.cell? ⟨b, o + i * 9 + 4, none⟩ = some (.int .i64 f.k.b) ∧ W.drew.cell? ⟨b, o + i * 9 + 5, none⟩ = some (.int .i64 f.k.c) ∧ W.drew.cell? ⟨b, o + i * 9 + 6, none⟩ = some (.int .i64 f.k.d) ∧ W.drew.cell? ⟨b, o + i * 9 + 7, none⟩ = some (.int .i64 f.k.e) ∧ W.drew.cell? ⟨b, o + i * 9 + 8, none⟩ = some (.int .i64 f.k.f) ∧ Grew w W.drew)) := Lib.hid (fun W h => KS.out W _ h (Grew.refl W).drew)
  have Q1 : Hid (∀ W, (W.cell? ⟨bl, 0, none⟩ = some (.slice (some ⟨b, o, none⟩) l.length c) ∧ W.cell? ⟨bs, 0, none⟩ = some (.int .i64 S) ∧ W.cell? ⟨bs, 1, none⟩ = some (.int .i64 Y) ∧ W.cell? ⟨bs, 2, none⟩ = some (.int .i64 X) ∧ W.cell? ⟨b, o + i * 9, none⟩ = some (.int .i64 f.x) ∧ W.cell? ⟨b, o + i * 9 + 1, none⟩ = some (.int .i64 f.y) ∧ W.cell? ⟨b, o + i * 9 + 2, none⟩ = some (.int .i64 f.s) ∧ W.cell? ⟨b, o + i * 9 + 3, none⟩ = some (.int .i64 f.k.a) ∧ W.cell? ⟨b, o + i * 9 + 4, none⟩ = some (.int .i64 f.k.b) ∧ W.cell? ⟨b, o + i * 9 + 5, none⟩ = some (.int .i64 f.k.c) ∧ W.cell? ⟨b, o + i * 9 + 6, none⟩ = some (.int .i64 f.k.d) ∧ W.cell? ⟨b, o + i * 9 + 7, none⟩ = some (.int .i64 f.k.e) ∧ W.cell? ⟨b, o + i * 9 + 8, none⟩ = some (.int .i64 f.k.f) ∧ Grew w W) → Calls Tryz.prog 24 #[.agg #[.int .i64 f.x, .int .i64 f.y, .int .i64 f.s, .int .i64 f.k.a, .int .i64 f.k.b, .int .i64 f.k.c, .int .i64 f.k.d, .int .i64 f.k.e, .int .i64 f.k.f]] W fun e w' => e = .returned (.agg #[.int .i64 f.s, .int .i64 f.y, .int .i64 f.x]) ∧ (w'.cell? ⟨bl, 0, none⟩ = some (.slice (some ⟨b, o, none⟩) l.length c) ∧ w'.cell? ⟨bs, 0, none⟩ = some (.int .i64 S) ∧ w'.cell? ⟨bs, 1, none⟩ = some (.int .i64 Y) ∧ w'.cell? ⟨bs, 2, none⟩ = some (.int .i64 X) ∧ w'.cell? ⟨b, o + i * 9, none⟩ = some (.int .i64 f.x) ∧ w'.cell? ⟨b, o + i * 9 + 1, none⟩ = some (.int .i64 f.y) ∧ w'.cell? ⟨b, o + i * 9 + 2, none⟩ = some (.int .i64 f.s) ∧ w'.cell? ⟨b, o + i * 9 + 3, none⟩ = some (.int .i64 f.k.a) ∧ w'.cell? ⟨b, o + i * 9 + 4, none⟩ = some (.int .i64 f.k.b) ∧ w'.cell? ⟨b, o + i * 9 + 5, none⟩ = some (.int .i64 f.k.c) ∧ w'.cell? ⟨b, o + i * 9 + 6, none⟩ = some (.int .i64 f.k.d) ∧ w'.cell? ⟨b, o + i * 9 + 7, none⟩ = some (.int .i64 f.k.e) ∧ w'.cell? ⟨b, o + i * 9 + 8, none⟩ = some (.int .i64 f.k.f) ∧ Grew w w')) := Lib.hid (fun W h => by
    refine (spotOf_c f W).mono ?_
    rintro e w' ⟨rfl, gg⟩
    exact ⟨rfl, KS.out _ _ h gg⟩)
  have Q3 : Hid (∀ W, (W.cell? ⟨bl, 0, none⟩ = some (.slice (some ⟨b, o, none⟩) l.length c) ∧ W.cell? ⟨bs, 0, none⟩ = some (.int .i64 S) ∧ W.cell? ⟨bs, 1, none⟩ = some (.int .i64 Y) ∧ W.cell? ⟨bs, 2, none⟩ = some (.int .i64 X) ∧ W.cell? ⟨b, o + i * 9, none⟩ = some (.int .i64 f.x) ∧ W.cell? ⟨b, o + i * 9 + 1, none⟩ = some (.int .i64 f.y) ∧ W.cell? ⟨b, o + i * 9 + 2, none⟩ = some (.int .i64 f.s) ∧ W.cell? ⟨b, o + i * 9 + 3, none⟩ = some (.int .i64 f.k.a) ∧ W.cell? ⟨b, o + i * 9 + 4, none⟩ = some (.int .i64 f.k.b) ∧ W.cell? ⟨b, o + i * 9 + 5, none⟩ = some (.int .i64 f.k.c) ∧ W.cell? ⟨b, o + i * 9 + 6, none⟩ = some (.int .i64 f.k.d) ∧ W.cell? ⟨b, o + i * 9 + 7, none⟩ = some (.int .i64 f.k.e) ∧ W.cell? ⟨b, o + i * 9 + 8, none⟩ = some (.int .i64 f.k.f) ∧ Grew w W) → Calls Tryz.prog 45 #[.agg #[.int .i64 S, .int .i64 Y, .int .i64 X], .agg #[.int .i64 f.s, .int .i64 f.y, .int .i64 f.x]] W fun e w' => e = .returned (.bool r) ∧ (w'.cell? ⟨bl, 0, none⟩ = some (.slice (some ⟨b, o, none⟩) l.length c) ∧ w'.cell? ⟨bs, 0, none⟩ = some (.int .i64 S) ∧ w'.cell? ⟨bs, 1, none⟩ = some (.int .i64 Y) ∧ w'.cell? ⟨bs, 2, none⟩ = some (.int .i64 X) ∧ w'.cell? ⟨b, o + i * 9, none⟩ = some (.int .i64 f.x) ∧ w'.cell? ⟨b, o + i * 9 + 1, none⟩ = some (.int .i64 f.y) ∧ w'.cell? ⟨b, o + i * 9 + 2, none⟩ = some (.int .i64 f.s) ∧ w'.cell? ⟨b, o + i * 9 + 3, none⟩ = some (.int .i64 f.k.a) ∧ w'.cell? ⟨b, o + i * 9 + 4, none⟩ = some (.int .i64 f.k.b) ∧ w'.cell? ⟨b, o + i * 9 + 5, none⟩ = some (.int .i64 f.k.c) ∧ w'.cell? ⟨b, o + i * 9 + 6, none⟩ = some (.int .i64 f.k.d) ∧ w'.cell? ⟨b, o + i * 9 + 7, none⟩ = some (.int .i64 f.k.e) ∧ w'.cell? ⟨b, o + i * 9 + 8, none⟩ = some (.int .i64 f.k.f) ∧ Grew w w')) := Lib.hid (fun W h => by
    refine (isBefore_c S Y X f.s f.y f.x W).mono ?_
    rintro e w' ⟨rfl, gg⟩
    exact ⟨by rw [← H5.out], KS.out _ _ h gg⟩)
  have S0 : w.cell? ⟨bl, 0, none⟩ = some (.slice (some ⟨b, o, none⟩) l.length c) ∧ w.cell? ⟨bs, 0, none⟩ = some (.int .i64 S) ∧ w.cell? ⟨bs, 1, none⟩ = some (.int .i64 Y) ∧ w.cell? ⟨bs, 2, none⟩ = some (.int .i64 X) ∧ w.cell? ⟨b, o + i * 9, none⟩ = some (.int .i64 f.x) ∧ w.cell? ⟨b, o + i * 9 + 1, none⟩ = some (.int .i64 f.y) ∧ w.cell? ⟨b, o + i * 9 + 2, none⟩ = some (.int .i64 f.s) ∧ w.cell? ⟨b, o + i * 9 + 3, none⟩ = some (.int .i64 f.k.a) ∧ w.cell? ⟨b, o + i * 9 + 4, none⟩ = some (.int .i64 f.k.b) ∧ w.cell? ⟨b, o + i * 9 + 5, none⟩ = some (.int .i64 f.k.c) ∧ w.cell? ⟨b, o + i * 9 + 6, none⟩ = some (.int .i64 f.k.d) ∧ w.cell? ⟨b, o + i * 9 + 7, none⟩ = some (.int .i64 f.k.e) ∧ w.cell? ⟨b, o + i * 9 + 8, none⟩ = some (.int .i64 f.k.f) ∧ Grew w w := ⟨hl, s0, s1, s2, p0, p1, p2, p3, p4, p5, p6, p7, p8, Grew.refl _⟩
  clear H5
  go_enter Tryz.func65, Tryz.ntmps65
  go_wp2_with fail
  go_region_held3 (fun W => W.cell? ⟨bl, 0, none⟩ = some (.slice (some ⟨b, o, none⟩) l.length c) ∧ W.cell? ⟨bs, 0, none⟩ = some (.int .i64 S) ∧ W.cell? ⟨bs, 1, none⟩ = some (.int .i64 Y) ∧ W.cell? ⟨bs, 2, none⟩ = some (.int .i64 X) ∧ W.cell? ⟨b, o + i * 9, none⟩ = some (.int .i64 f.x) ∧ W.cell? ⟨b, o + i * 9 + 1, none⟩ = some (.int .i64 f.y) ∧ W.cell? ⟨b, o + i * 9 + 2, none⟩ = some (.int .i64 f.s) ∧ W.cell? ⟨b, o + i * 9 + 3, none⟩ = some (.int .i64 f.k.a) ∧ W.cell? ⟨b, o + i * 9 + 4, none⟩ = some (.int .i64 f.k.b) ∧ W.cell? ⟨b, o + i * 9 + 5, none⟩ = some (.int .i64 f.k.c) ∧ W.cell? ⟨b, o + i * 9 + 6, none⟩ = some (.int .i64 f.k.d) ∧ W.cell? ⟨b, o + i * 9 + 7, none⟩ = some (.int .i64 f.k.e) ∧ W.cell? ⟨b, o + i * 9 + 8, none⟩ = some (.int .i64 f.k.f) ∧ Grew w W) (first | assumption | exact KD.out _ (by assumption)) (first
    | (go_at_call 24; refine (Q1.out _ (by assumption)).mono ?_; rintro e w3 ⟨rfl, S3⟩)
    | (go_at_call 45; refine (Q3.out _ (by assumption)).mono ?_; rintro e w5 ⟨rfl, S5⟩))
  have V5 : Grew w w5 := by obtain ⟨_, _, _, _, _, _, _, _, _, _, _, _, _, g0⟩ := S5; exact g0
  clear S5 S0 S3 Q1 Q3 KS KD p0 p1 p2 p3 p4 p5 p6 p7 p8 hl s0 s1 s2
  go_wp2_with fail
  go_ret
  exact ⟨rfl, V5⟩
theorem enter_b1 : ∀ args w, (callFunc 64 args).run Tryz.prog w = .ok (.enter 64 args) w := fun _ _ => by kernel_rfl
theorem enter_b2 : ∀ args w, (callFunc 65 args).run Tryz.prog w = .ok (.enter 65 args) w := fun _ _ => by kernel_rfl
end Td
end Go.Proofs.YtpiajdahmcelnaaGreat
