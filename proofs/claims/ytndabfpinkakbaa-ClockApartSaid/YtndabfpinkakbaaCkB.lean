/-
  The landed package clock: readings that are searched for.
-/
import Derived.Test.YtndabfpinkakbaaCkA
import Derived.Laws.EntriesVeiled
namespace Go.Proofs.Ytndabfpinkakbaa
open Go.RowKit Sn
namespace Ck
set_option maxRecDepth 100000
set_option maxHeartbeats 4000000 in
theorem search_c (g : Nat) (cb : Array Value) (eg : ∀ args w, (callFunc g args).run Try.prog w = .ok (.enter g args) w) (n : Nat) (d : Nat → Bool) (k : Nat) (w : World) (hn : n ≤ 1000000001) (hk : k ≤ n) (h0 : ∀ i, i < k → d i = false) (h1 : ∀ i, k ≤ i → i < n → d i = true)
    (hC : ∀ (i : Nat) W, i < n → Grown w W → Calls Try.prog g (#[.int .i64 i] ++ cb) W fun e w' => e = .returned (.bool (d i)) ∧ Grown W w') :
    Calls Try.prog 45 #[.int .i64 n, .func (.func g) #[] cb] w fun e w' => e = .returned (.int .i64 k) ∧ Grown w w' := by
  have H0 := Lib.hid h0
  have H1 := Lib.hid h1
  have HC := Lib.hid hC
  clear h0 h1 hC
  go_enter Try.func45, Try.ntmps45
  go_wp2_with fail
  go_loopw [5, 6] (fun u v wr => ∃ lo hi : Nat, u = .int .i64 lo ∧ v = .int .i64 hi ∧ lo ≤ k ∧ k ≤ hi ∧ hi ≤ n ∧ Grown w wr) (fun u v _ => (intOf v).toNat - (intOf u).toNat)
  case atStart => exact ⟨0, n, rfl, rfl, Nat.zero_le _, hk, Nat.le_refl _, Grown.refl _⟩
  case round =>
    obtain ⟨lo, hi, rfl, rfl, hl, hh, hm, G⟩ := hrel
    by_cases hlt : lo < hi
    · have hc := HC.out ((lo + hi) / 2) wr (by omega) G
      rw [show (((lo + hi) / 2 : Nat) : Int) = ((lo : Int) + (hi : Int)) / 2 by omega] at hc
      by_cases hd : (lo + hi) / 2 < k
      · rw [H0.out _ hd] at hc
        go_wp2_with fail
        refine hc.mono ?_
        rintro e w1 ⟨rfl, g1⟩
        have G1 := Grown.trans G g1
        clear g1 hc
        go_wp2_with fail
        go_roundw
        case rel => exact ⟨(lo + hi) / 2 + 1, hi, by rw [show ((lo : Int) + (hi : Int)) / 2 + 1 = (((lo + hi) / 2 + 1 : Nat) : Int) by omega], rfl, by omega, by omega, hm, G1⟩
        case measure => simp [intOf]; omega
      · rw [H1.out _ (by omega) (by omega)] at hc
        go_wp2_with fail
        refine hc.mono ?_
        rintro e w1 ⟨rfl, g1⟩
        have G1 := Grown.trans G g1
        clear g1 hc
        go_wp2_with fail
        go_roundw
        case rel => exact ⟨lo, (lo + hi) / 2, rfl, by rw [show ((lo : Int) + (hi : Int)) / 2 = (((lo + hi) / 2 : Nat) : Int) by omega], by omega, by omega, by omega, G1⟩
        case measure => simp [intOf]; omega
    · obtain rfl : lo = k := by omega
      obtain rfl : hi = lo := by omega
      go_wp2_with fail
      go_ret
      exact ⟨rfl, G⟩
theorem enter_fr : ∀ args w, (callFunc 46 args).run Try.prog w = .ok (.enter 46 args) w := fun _ _ => by kernel_rfl
theorem enter_r1 : ∀ args w, (callFunc 31 args).run Try.prog w = .ok (.enter 31 args) w := fun _ _ => by kernel_rfl
theorem enter_r2 : ∀ args w, (callFunc 32 args).run Try.prog w = .ok (.enter 32 args) w := fun _ _ => by kernel_rfl
/-- A clock in a block. -/
def Cb (w : World) (b : Nat) (a l h d : Int) : Prop := w.cell? ⟨b, 0, none⟩ = some (.int .i64 a) ∧ w.cell? ⟨b, 1, none⟩ = some (.int .i64 l) ∧ w.cell? ⟨b, 2, none⟩ = some (.int .i64 h) ∧ w.cell? ⟨b, 3, none⟩ = some (.int .i64 d)
theorem Cb.lt {w : World} {b : Nat} {a l h d : Int} (k : Cb w b a l h d) : b < w.heap.size := World.block_lt_of_cell? w _ k.1
theorem Cb.grown {w w' : World} {b : Nat} {a l h d : Int} (k : Cb w b a l h d) (g : Grown w w') : Cb w' b a l h d :=
  ⟨(Grown.cell g k.lt).trans k.1, (Grown.cell g k.lt).trans k.2.1, (Grown.cell g k.lt).trans k.2.2.1, (Grown.cell g k.lt).trans k.2.2.2⟩
theorem r1_c (a l h d r : Int) (b : Nat) (w : World) (hc : Cv a l h d) (hr : Rd r) (k : Cb w b a l h d) : Calls Try.prog 31 #[.int .i64 r, .pointer (some ⟨b, 0, none⟩)] w fun e w' => e = .returned (.int .i64 (th a h d r)) ∧ Grown w w' := by
  have T := Lib.hid (trueTime_c a l h d r · hc hr)
  obtain ⟨c0, c1, c2, c3⟩ := k
  clear hc hr
  have hfd : ∀ (x y : Int) (w : World), (Instr.field 23 (.agg #[.int .i64 x, .int .i64 y]) 1).run Try.prog w = .ok (.int .i64 y) w := fun _ _ _ => by kernel_rfl
  generalize tl a l d r = x at *
  generalize th a h d r = y at *
  go_enter Try.func31, Try.ntmps31
  go_wp2_with fail
  refine (T.out _).mono ?_
  rintro e w1 ⟨rfl, g1⟩
  go_wp2_with fail
  go_ret
  exact ⟨rfl, g1⟩
theorem fr1_c (a l h d r t : Int) (b bf bv : Nat) (w : World) (hc : Cv a l h d) (hr : Rd r) (k : Cb w b a l h d) (hf : w.cell? ⟨bf, 0, none⟩ = some (.func (.func 31) #[] #[.pointer (some ⟨b, 0, none⟩)])) (hv : w.cell? ⟨bv, 0, none⟩ = some (.int .i64 t)) : Calls Try.prog 46 #[.int .i64 r, .pointer (some ⟨bf, 0, none⟩), .pointer (some ⟨bv, 0, none⟩)] w fun e w' => e = .returned (.bool (decide (t ≤ th a h d r))) ∧ Grown w w' := by
  have x1 : bf < w.heap.size := World.block_lt_of_cell? w _ hf
  have x2 : bv < w.heap.size := World.block_lt_of_cell? w _ hv
  have T : Hid (∀ W, (W.cell? ⟨bf, 0, none⟩ = some (.func (.func 31) #[] #[.pointer (some ⟨b, 0, none⟩)]) ∧ W.cell? ⟨bv, 0, none⟩ = some (.int .i64 t) ∧ Grown w W) → Calls Try.prog 31 #[.int .i64 r, .pointer (some ⟨b, 0, none⟩)] W fun e w' => e = .returned (.int .i64 (th a h d r)) ∧ (w'.cell? ⟨bf, 0, none⟩ = some (.func (.func 31) #[] #[.pointer (some ⟨b, 0, none⟩)]) ∧ w'.cell? ⟨bv, 0, none⟩ = some (.int .i64 t) ∧ Grown w w')) := Lib.hid (fun W hW => by
    obtain ⟨h1, h2, g⟩ := hW
    refine (r1_c a l h d r b W hc hr (k.grown g)).mono ?_
    rintro e w' ⟨rfl, gg⟩
    exact ⟨rfl, (Grown.cell gg (World.block_lt_of_cell? W _ h1)).trans h1, (Grown.cell gg (World.block_lt_of_cell? W _ h2)).trans h2, Grown.trans g gg⟩)
  have KD : Hid (∀ W, (W.cell? ⟨bf, 0, none⟩ = some (.func (.func 31) #[] #[.pointer (some ⟨b, 0, none⟩)]) ∧ W.cell? ⟨bv, 0, none⟩ = some (.int .i64 t) ∧ Grown w W) → (W.drew.cell? ⟨bf, 0, none⟩ = some (.func (.func 31) #[] #[.pointer (some ⟨b, 0, none⟩)]) ∧ W.drew.cell? ⟨bv, 0, none⟩ = some (.int .i64 t) ∧ Grown w W.drew)) := Lib.hid (fun _ h => h)
  have S0 : w.cell? ⟨bf, 0, none⟩ = some (.func (.func 31) #[] #[.pointer (some ⟨b, 0, none⟩)]) ∧ w.cell? ⟨bv, 0, none⟩ = some (.int .i64 t) ∧ Grown w w := ⟨hf, hv, Grown.refl _⟩
  have EN := enter_r1
  clear hc hr k
  generalize th a h d r = x at *
  by_cases q : t ≤ x
  · have Q : Hid (decide (t ≤ x) = true) := Lib.hid (decide_eq_true q)
    go_enter Try.func46, Try.ntmps46
    go_wp2_with fail
    go_region_held3 (fun W => W.cell? ⟨bf, 0, none⟩ = some (.func (.func 31) #[] #[.pointer (some ⟨b, 0, none⟩)]) ∧ W.cell? ⟨bv, 0, none⟩ = some (.int .i64 t) ∧ Grown w W) (first | assumption | exact KD.out _ (by assumption))
      (first | (go_at_call 31; refine (T.out _ (by assumption)).mono ?_; rintro e w3 ⟨rfl, S3⟩))
    have V3 : Grown w w3 := S3.2.2
    clear S3 S0 T KD hf hv
    go_wp2_with fail
    go_ret
    exact ⟨by rw [Q.out]; rfl, V3⟩
  · have Q : Hid (decide (t ≤ x) = false) := Lib.hid (decide_eq_false q)
    go_enter Try.func46, Try.ntmps46
    go_wp2_with fail
    go_region_held3 (fun W => W.cell? ⟨bf, 0, none⟩ = some (.func (.func 31) #[] #[.pointer (some ⟨b, 0, none⟩)]) ∧ W.cell? ⟨bv, 0, none⟩ = some (.int .i64 t) ∧ Grown w W) (first | assumption | exact KD.out _ (by assumption))
      (first | (go_at_call 31; refine (T.out _ (by assumption)).mono ?_; rintro e w3 ⟨rfl, S3⟩))
    have V3 : Grown w w3 := S3.2.2
    clear S3 S0 T KD hf hv
    go_wp2_with fail
    go_ret
    exact ⟨by rw [Q.out]; rfl, V3⟩
theorem r2_c (a l h d r : Int) (b : Nat) (w : World) (hc : Cv a l h d) (hr : Rd r) (k : Cb w b a l h d) : Calls Try.prog 32 #[.int .i64 r, .pointer (some ⟨b, 0, none⟩)] w fun e w' => e = .returned (.int .i64 (tl a l d r)) ∧ Grown w w' := by
  have T := Lib.hid (trueTime_c a l h d r · hc hr)
  obtain ⟨c0, c1, c2, c3⟩ := k
  clear hc hr
  have hfd : ∀ (x y : Int) (w : World), (Instr.field 23 (.agg #[.int .i64 x, .int .i64 y]) 0).run Try.prog w = .ok (.int .i64 x) w := fun _ _ _ => by kernel_rfl
  generalize tl a l d r = x at *
  generalize th a h d r = y at *
  go_enter Try.func32, Try.ntmps32
  go_wp2_with fail
  refine (T.out _).mono ?_
  rintro e w1 ⟨rfl, g1⟩
  go_wp2_with fail
  go_ret
  exact ⟨rfl, g1⟩
theorem fr2_c (a l h d r t : Int) (b bf bv : Nat) (w : World) (hc : Cv a l h d) (hr : Rd r) (k : Cb w b a l h d) (hf : w.cell? ⟨bf, 0, none⟩ = some (.func (.func 32) #[] #[.pointer (some ⟨b, 0, none⟩)])) (hv : w.cell? ⟨bv, 0, none⟩ = some (.int .i64 t)) : Calls Try.prog 46 #[.int .i64 r, .pointer (some ⟨bf, 0, none⟩), .pointer (some ⟨bv, 0, none⟩)] w fun e w' => e = .returned (.bool (decide (t ≤ tl a l d r))) ∧ Grown w w' := by
  have x1 : bf < w.heap.size := World.block_lt_of_cell? w _ hf
  have x2 : bv < w.heap.size := World.block_lt_of_cell? w _ hv
  have T : Hid (∀ W, (W.cell? ⟨bf, 0, none⟩ = some (.func (.func 32) #[] #[.pointer (some ⟨b, 0, none⟩)]) ∧ W.cell? ⟨bv, 0, none⟩ = some (.int .i64 t) ∧ Grown w W) → Calls Try.prog 32 #[.int .i64 r, .pointer (some ⟨b, 0, none⟩)] W fun e w' => e = .returned (.int .i64 (tl a l d r)) ∧ (w'.cell? ⟨bf, 0, none⟩ = some (.func (.func 32) #[] #[.pointer (some ⟨b, 0, none⟩)]) ∧ w'.cell? ⟨bv, 0, none⟩ = some (.int .i64 t) ∧ Grown w w')) := Lib.hid (fun W hW => by
    obtain ⟨h1, h2, g⟩ := hW
    refine (r2_c a l h d r b W hc hr (k.grown g)).mono ?_
    rintro e w' ⟨rfl, gg⟩
    exact ⟨rfl, (Grown.cell gg (World.block_lt_of_cell? W _ h1)).trans h1, (Grown.cell gg (World.block_lt_of_cell? W _ h2)).trans h2, Grown.trans g gg⟩)
  have KD : Hid (∀ W, (W.cell? ⟨bf, 0, none⟩ = some (.func (.func 32) #[] #[.pointer (some ⟨b, 0, none⟩)]) ∧ W.cell? ⟨bv, 0, none⟩ = some (.int .i64 t) ∧ Grown w W) → (W.drew.cell? ⟨bf, 0, none⟩ = some (.func (.func 32) #[] #[.pointer (some ⟨b, 0, none⟩)]) ∧ W.drew.cell? ⟨bv, 0, none⟩ = some (.int .i64 t) ∧ Grown w W.drew)) := Lib.hid (fun _ h => h)
  have S0 : w.cell? ⟨bf, 0, none⟩ = some (.func (.func 32) #[] #[.pointer (some ⟨b, 0, none⟩)]) ∧ w.cell? ⟨bv, 0, none⟩ = some (.int .i64 t) ∧ Grown w w := ⟨hf, hv, Grown.refl _⟩
  have EN := enter_r2
  clear hc hr k
  generalize tl a l d r = x at *
  by_cases q : t ≤ x
  · have Q : Hid (decide (t ≤ x) = true) := Lib.hid (decide_eq_true q)
    go_enter Try.func46, Try.ntmps46
    go_wp2_with fail
    go_region_held3 (fun W => W.cell? ⟨bf, 0, none⟩ = some (.func (.func 32) #[] #[.pointer (some ⟨b, 0, none⟩)]) ∧ W.cell? ⟨bv, 0, none⟩ = some (.int .i64 t) ∧ Grown w W) (first | assumption | exact KD.out _ (by assumption))
      (first | (go_at_call 32; refine (T.out _ (by assumption)).mono ?_; rintro e w3 ⟨rfl, S3⟩))
    have V3 : Grown w w3 := S3.2.2
    clear S3 S0 T KD hf hv
    go_wp2_with fail
    go_ret
    exact ⟨by rw [Q.out]; rfl, V3⟩
  · have Q : Hid (decide (t ≤ x) = false) := Lib.hid (decide_eq_false q)
    go_enter Try.func46, Try.ntmps46
    go_wp2_with fail
    go_region_held3 (fun W => W.cell? ⟨bf, 0, none⟩ = some (.func (.func 32) #[] #[.pointer (some ⟨b, 0, none⟩)]) ∧ W.cell? ⟨bv, 0, none⟩ = some (.int .i64 t) ∧ Grown w W) (first | assumption | exact KD.out _ (by assumption))
      (first | (go_at_call 32; refine (T.out _ (by assumption)).mono ?_; rintro e w3 ⟨rfl, S3⟩))
    have V3 : Grown w w3 := S3.2.2
    clear S3 S0 T KD hf hv
    go_wp2_with fail
    go_ret
    exact ⟨by rw [Q.out]; rfl, V3⟩
end Ck
end Go.Proofs.Ytndabfpinkakbaa
