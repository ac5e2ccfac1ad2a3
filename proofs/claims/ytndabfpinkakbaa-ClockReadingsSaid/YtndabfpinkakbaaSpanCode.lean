/-
  Package span as it landed: ends, isWithin, one contract each.
-/
import Derived.Test.YtndabfpinkakbaaSpanRef
import Derived.IntWalk
namespace Go.Proofs.Ytndabfpinkakbaa
open Go.RowKit
namespace Sn
/-! ### The least span of integers -/
def nth (l : List Int) (k : Nat) : Int := l.getD k 0
def lo' (f : Int) (l : List Int) : Int := l.foldl mn f
def hi' (f : Int) (l : List Int) : Int := l.foldl mx f
theorem lo'_snoc (f : Int) (l : List Int) (k : Nat) (h : k < l.length) : lo' f (l.take (k + 1)) = mn (lo' f (l.take k)) (nth l k) := by
  unfold lo' nth
  rw [List.take_succ_eq_append_getElem h, List.foldl_append]
  simp [h]
theorem hi'_snoc (f : Int) (l : List Int) (k : Nat) (h : k < l.length) : hi' f (l.take (k + 1)) = mx (hi' f (l.take k)) (nth l k) := by
  unfold hi' nth
  rw [List.take_succ_eq_append_getElem h, List.foldl_append]
  simp [h]
/-- Integers in a row. -/
def Ints (w : World) (b o : Nat) (l : List Int) : Prop := b < w.heap.size ∧ ∀ i, i < l.length → w.cell? ⟨b, o + i, none⟩ = some (.int .i64 (nth l i))

def Ends (w : World) (f : Int) (l : List Int) (e : Ending) (w' : World) : Prop := e = .returned (.agg #[.int .i64 (lo' f l), .int .i64 (hi' f l)]) ∧ Grown w w'

theorem ends_none (f : Int) (w : World) : Calls Try.prog 39 #[.int .i64 f, .slice none 0 0] w fun e w' => e = .returned (.agg #[.int .i64 f, .int .i64 f]) ∧ Grown w w' := by
  go_enter Try.func39, Try.ntmps39
  go_wp2_with fail
  go_loopw [13] (fun i wr => i = .int .i64 0 ∧ wr = (w.alloc (.cells #[.int .i64 0, .int .i64 0] 23)).alloc (.cells #[.int .i64 f, .int .i64 f] 23)) (fun i _ => 0)
  case atStart => exact ⟨rfl, rfl⟩
  case round =>
    obtain ⟨rfl, rfl⟩ := hrel
    go_wp2_with fail
    refine bodyPost_ret (v := .agg #[.int .i64 f, .int .i64 f]) (by simp [results, Try.results39, go_sem, *]) rfl ⟨rfl, by go_grown⟩

set_option maxHeartbeats 1000000 in
theorem ends_any (f : Int) (l : List Int) (b o c : Nat) (w : World) (h : Ints w b o l) (hl : l.length ≤ 3) : Calls Try.prog 39 #[.int .i64 f, .slice (some ⟨b, o, none⟩) l.length c] w (Ends w f l) := by
  have H := Lib.hid h
  have hb := h.1
  have hb1 : b < w.heap.size + 1 := by omega
  have hb2 : b < w.heap.size + 1 + 1 := by omega
  have hb3 : w.heap.size ≠ b := by omega
  have hb4 : w.heap.size + 1 ≠ b := by omega
  clear h
  have hlo : lo' f (l.take 0) = f := rfl
  have hhi : hi' f (l.take 0) = f := rfl
  have HLO := Lib.hid hlo
  have HHI := Lib.hid hhi
  clear hlo hhi
  go_enter Try.func39, Try.ntmps39
  go_wp2_with fail
  go_loopw [13] (fun i wr => ∃ k : Nat, k ≤ l.length ∧ i = .int .i64 k ∧ wr = (w.alloc (.cells #[.int .i64 0, .int .i64 0] 23)).alloc (.cells #[.int .i64 (lo' f (l.take k)), .int .i64 (hi' f (l.take k))] 23)) (fun i _ => l.length - (intOf i).toNat)
  case atStart => exact ⟨0, Nat.zero_le _, rfl, by rw [HLO.out, HHI.out]⟩
  case round =>
    obtain ⟨k, hk, rfl, rfl⟩ := hrel
    by_cases hlt : k < l.length
    · have q := H.out.2 k hlt
      have E1 := Lib.hid (lo'_snoc f l k hlt)
      have E2 := Lib.hid (hi'_snoc f l k hlt)
      go_wp2_with fail
      go_roundw
      case rel => exact ⟨k + 1, by omega, by go_num, by rw [E1.out, E2.out]; rfl⟩
      case measure => simp [intOf]; omega
    · have hk' : l.take k = l := List.take_of_length_le (by omega)
      rw [hk']
      clear hk'
      go_wp2_with fail
      refine bodyPost_ret (v := .agg #[.int .i64 (lo' f l), .int .i64 (hi' f l)]) (by simp [results, Try.results39, go_sem, *]) rfl ⟨rfl, by go_grown⟩
end Sn
end Go.Proofs.Ytndabfpinkakbaa
