/-
  The landed package digest: the bytes of a digest as a text.
-/
import Derived.Test.YtfnnmkadmpflhaaDoorDigRefC
import Derived.Laws.Shifts
namespace Go.Proofs.YtfnnmkadmpflhaaDoor
open Go.RowKit Wd
namespace Dg
set_option maxRecDepth 100000

/-- The bytes k to 7 of a digest stand in the array at block b; those ahead of them are 0. -/
def Wr (d : BitVec 64) (b k : Nat) (w : World) : Prop := b < w.heap.size ∧ ∀ j, j < 8 → w.cell? ⟨b, j, none⟩ = some (.int .u8 (if 8 - k ≤ j then ((by8 d j).toNat : Int) else 0)) ∧ w.frozen? ⟨b, j, none⟩ = false
theorem by8_low (d : BitVec 64) (k : Nat) (h : k < 8) : ((by8 d (7 - k)).toNat : Int) = dv d / 2 ^ (8 * k) % 256 := by
  rw [by8_val, show 56 - 8 * (7 - k) = 8 * k from by omega]
theorem head8_at (d : BitVec 64) (j : Nat) (h : j < (head8 d).length) : (head8 d)[j] = by8 d j := by
  simp [head8]
theorem Wr.next {d : BitVec 64} {b k : Nat} {w : World} (h : Wr d b k w) (hk : k < 8) : Wr d b (k + 1) (w.setCell ⟨b, 7 - k, none⟩ (.int .u8 (dv d / 2 ^ (8 * k) % 256))) := by
  refine ⟨by simpa using h.1, fun j hj => ?_⟩
  obtain ⟨h1, h2⟩ := h.2 j hj
  obtain ⟨h3, h4⟩ := h.2 (7 - k) (by omega)
  by_cases e : j = 7 - k
  · subst e
    rw [if_pos (by omega), by8_low d k hk]
    refine ⟨?_, ?_⟩
    · simp [go_sem, h3]
    · simpa [go_sem] using h2
  · simp only [show (8 - (k + 1) ≤ j) ↔ (8 - k ≤ j) from ⟨fun _ => by omega, fun _ => by omega⟩]
    refine ⟨?_, ?_⟩
    · rw [← h1]
      simp [go_sem]
    · simpa [go_sem] using h2
set_option maxHeartbeats 4000000 in
theorem c_written (d : BitVec 64) (w : World) : Calls Tryd.prog 41 #[.int .u64 (dv d)] w fun e w' => e = .returned (.string ⟨(head8 d).toArray⟩) ∧ Grew w w' := by
  go_enter Tryd.func41, Tryd.ntmps41
  go_wp2_with fail
  go_loopw [4, 5] (fun _ i wr => ∃ k : Nat, k ≤ 8 ∧ i = .int .i64 k ∧ Grew w wr ∧ Hid (Wr d w.heap.size k wr)) (fun _ i _ => 8 - (intOf i).toNat)
  case atStart =>
    refine ⟨0, by omega, rfl, (Grew.refl _).alloc _ _, Lib.hid ⟨by simp, fun j hj => ?_⟩⟩
    rw [if_neg (by omega)]
    match j, hj with
    | 0, _ => simp [go_sem]
    | 1, _ => simp [go_sem]
    | 2, _ => simp [go_sem]
    | 3, _ => simp [go_sem]
    | 4, _ => simp [go_sem]
    | 5, _ => simp [go_sem]
    | 6, _ => simp [go_sem]
    | 7, _ => simp [go_sem]
  case round =>
    obtain ⟨k, hk, rfl, G, OW⟩ := hrel
    by_cases hlt : k < 8
    · have c0 := (OW.out.2 (7 - k) (by omega)).1
      rw [if_neg (by omega)] at c0
      have c1 := (OW.out.2 (7 - k) (by omega)).2
      have bl := OW.out.1
      have NX := Lib.hid (OW.out.next hlt)
      go_wp2_with fail
      go_roundw
      case rel => exact ⟨k + 1, by omega, by go_num, G.setCell (by simp) _, NX⟩
      case measure => simp [intOf]; omega
    · obtain rfl : k = 8 := by omega
      have CV : (convert 59 9 (.slice (some ⟨w.heap.size, 0, none⟩) 8 8)).run Tryd.prog wr = .ok (.string ⟨(head8 d).toArray⟩) wr := by
        have := run_convert_bytes_back (P := Tryd.prog) wr 59 9 5 ⟨w.heap.size, 0, none⟩ 8 (head8 d) Tryd.underlying59 Tryd.underlying5 Tryd.underlying9 (fun j hj => by
          have := (OW.out.2 j (by rw [head8_len] at hj; exact hj)).1
          rw [if_pos (by omega)] at this
          rw [add_at, this, head8_at])
        rwa [head8_len] at this
      go_wp2_with fail
      go_ret
      exact ⟨rfl, G⟩
end Dg
end Go.Proofs.YtfnnmkadmpflhaaDoor
