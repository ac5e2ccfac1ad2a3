/-
  The landed package digest: the function that carries a digest on by the bytes of a text.
-/
import Derived.Test.YtfnnmkadmpflhaaDoorSgT
import Derived.Test.YtfnnmkadmpflhaaDoorDigLnA
import Derived.Lib.OthersKept
import Derived.Lib.RuneCountTail
namespace Go.Proofs.YtfnnmkadmpflhaaDoor
open Go.RowKit Wd
namespace Dg
set_option maxRecDepth 100000
set_option maxHeartbeats 4000000 in
theorem c_carrier (w : World) : Calls Tryd.prog 40 #[] w fun e w' => e = .returned (.func (.func 44) #[] #[.pointer (some ⟨w.heap.size, 0, none⟩)]) ∧ w' = w.alloc (.cells #[.int .u64 14695981039346656037] 39) := by
  have hmf : ∀ (fn : Fn) (first cap : Array Value) (w : World), (Instr.makeFunc fn first cap).run Tryd.prog w = .ok (.func fn first cap) w := fun _ _ _ _ => rfl
  go_enter Tryd.func40, Tryd.ntmps40
  go_wp2_with fail
  go_ret
  exact ⟨rfl, rfl⟩
/-- The state between two runes: the iterator stands at pos, the carried digest is that of the bytes before. -/
def Cy (s : ByteArray) (d : BitVec 64) (b : Nat) (w : World) (pos n : Nat) (W : World) : Prop :=
  W.heap[w.heap.size]? = some (.stringIter s pos) ∧ Below b w W ∧ W.cell? ⟨b, 0, none⟩ = some (.int .u64 (dv (fl d (s.data.toList.take n)))) ∧ W.frozen? ⟨b, 0, none⟩ = false
theorem Cy.iterAt {s : ByteArray} {d : BitVec 64} {b : Nat} {w : World} {pos n : Nat} {W : World} (h : Cy s d b w pos n W) (hb : b < w.heap.size) (pos' : Nat) : Cy s d b w pos' n (W.iterAt w.heap.size s pos') := by
  obtain ⟨h1, h2, h3, h4⟩ := h
  have e : (W.iterAt w.heap.size s pos').heap[b]? = W.heap[b]? := Lib.iterAt_other W w.heap.size b s pos' (by omega)
  refine ⟨Lib.iterAt_heap W w.heap.size s pos pos' h1, Lib.below_iterAt h2 (by omega) s pos', ?_, ?_⟩
  · rw [← h3]; unfold World.cell?; rw [e]
  · rw [← h4]; unfold World.frozen?; rw [e]
theorem Cy.grew {s : ByteArray} {d : BitVec 64} {b : Nat} {w : World} {pos n : Nat} {W W' : World} (h : Cy s d b w pos n W) (hb : b < w.heap.size) (g : Below W.heap.size W W') : Cy s d b w pos n W' := by
  obtain ⟨h1, h2, h3, h4⟩ := h
  have l1 : w.heap.size < W.heap.size := (Array.getElem?_eq_some_iff.1 h1).1
  refine ⟨by rw [g.block _ l1]; exact h1, h2.trans (Below.mono g (by omega)), ?_, ?_⟩
  · rw [Below.cell (p := ⟨b, 0, none⟩) g (by show b < _; omega)]; exact h3
  · rw [Below.frozen (p := ⟨b, 0, none⟩) g (by show b < _; omega)]; exact h4
theorem Cy.set {s : ByteArray} {d : BitVec 64} {b : Nat} {w : World} {pos n : Nat} {W : World} (h : Cy s d b w pos n W) (hb : b < w.heap.size) : Cy s d b w pos (n + 1) (W.setCell ⟨b, 0, none⟩ (.int .u64 (dv (fl d (s.data.toList.take (n + 1)))))) := by
  obtain ⟨h1, h2, h3, h4⟩ := h
  refine ⟨?_, h2.setCell (Nat.le_refl _) _, ?_, ?_⟩
  · rw [Below.heap_setCell _ _ _ _ (by show w.heap.size ≠ b; omega)]; exact h1
  · simp [go_sem, h3]
  · simpa [go_sem] using h4
/-- The bytes of s from pos on stand in the block g. -/
def Bt (s : ByteArray) (pos k g : Nat) (W : World) : Prop := g < W.heap.size ∧ ∀ j, j < k → W.cell? ⟨g, j, none⟩ = some (.int .u8 ((s.data.toList.getD (pos + j) 0).toNat : Int))
theorem Bt.set {s : ByteArray} {pos k g : Nat} {W : World} (h : Bt s pos k g W) {b : Nat} (hb : b ≠ g) (v : Value) : Bt s pos k g (W.setCell ⟨b, 0, none⟩ v) := by
  refine ⟨by simpa using h.1, fun j hj => ?_⟩
  rw [← h.2 j hj]
  simp [go_sem]
theorem take_more {l : List UInt8} {n : Nat} (d : BitVec 64) (h : n < l.length) : fl d (l.take (n + 1)) = fs (fl d (l.take n)) (l.getD n 0) := by
  rw [List.take_succ_eq_append_getElem h, fl_snoc, List.getD, List.getElem?_eq_getElem h]
  rfl
theorem row_at (t : ByteArray) (q j : Nat) (y : UInt8) (hz : j < t.size) (e : t[j]'hz = y) : (bytesRow t q)[j]? = some (.int .u8 (y.toNat : Int)) := by
  rw [bytesRow_at t q j hz, ← e]
  rfl
theorem width_pos (s : ByteArray) (pos : Nat) (h : pos < s.size) : 1 ≤ (Utf8.decode s pos).2 := by
  by_cases ha : (s[pos]'h).toNat < 128
  · rw [decode_ascii s pos h ha]
    exact Nat.le_refl _
  · exact (decode_high s pos h (by omega)).2
theorem decodeN_le (n b0 b1 b2 b3 : Nat) (hn : 1 ≤ n) : (Lib.decodeN n b0 b1 b2 b3).2 ≤ n := by
  unfold Lib.decodeN
  repeat' split
  all_goals (simp only; omega)
theorem width_le (s : ByteArray) (pos : Nat) (h : pos < s.size) : pos + (Utf8.decode s pos).2 ≤ s.size := by
  rw [Lib.decode_at]
  have := decodeN_le (s.size - pos) (s.get! pos).toNat (s.get! (pos + 1)).toNat (s.get! (pos + 2)).toNat (s.get! (pos + 3)).toNat (by omega)
  omega
set_option maxHeartbeats 4000000 in
theorem c_carry (s : ByteArray) (d : BitVec 64) (b : Nat) (w : World) (hT : ∀ W, Below b w W → T W) (hs : s.size ≤ 1000000000) (hb : b < w.heap.size) (hc : w.cell? ⟨b, 0, none⟩ = some (.int .u64 (dv d))) (hf : w.frozen? ⟨b, 0, none⟩ = false) : Calls Tryd.prog 44 #[.string s, .pointer (some ⟨b, 0, none⟩)] w fun e w' => e = .returned (.int .u64 (dv (fl d s.data.toList))) ∧ Below b w w' ∧ w'.cell? ⟨b, 0, none⟩ = some (.int .u64 (dv (fl d s.data.toList))) ∧ w'.frozen? ⟨b, 0, none⟩ = false := by
  have DE := Lib.hid (fun (t : ByteArray) W (h : Below b w W) => Any.utf8_DecodeRuneInString decL t W (hT W h).1)
  have HS : Hid (s.size = s.data.toList.length) := Lib.hid (by rw [Array.length_toList]; rfl)
  clear hT
  have C0 : Cy s d b w 0 0 (w.iter s 0) := by
    refine ⟨by simp [World.iter_heap], (Below.refl b w).alloc (by omega) _, ?_, ?_⟩
    · rw [List.take_zero, fl_nil, ← hc]
      exact Below.cell (p := ⟨b, 0, none⟩) ((Below.refl w.heap.size w).alloc (Nat.le_refl _) _) hb
    · rw [← hf]
      exact Below.frozen (p := ⟨b, 0, none⟩) ((Below.refl w.heap.size w).alloc (Nat.le_refl _) _) hb
  clear hc hf
  go_enter Tryd.func44, Tryd.ntmps44
  go_wp2_with fail
  go_loopw [] (fun wr => ∃ pos : Nat, pos ≤ s.size ∧ Cy s d b w pos pos wr) (fun wr => s.size - wr.iterPos w.heap.size)
  case atStart => exact ⟨0, Nat.zero_le _, C0⟩
  case round =>
    obtain ⟨pos, hp, C⟩ := hrel
    clear C0
    by_cases hlt : pos < s.size
    · obtain ⟨k, hk⟩ : ∃ k, k = (Utf8.decode s pos).2 := ⟨_, rfl⟩
      obtain ⟨r, hr⟩ : ∃ r, r = (Utf8.decode s pos).1 := ⟨_, rfl⟩
      have hnx : ∀ ty, (Instr.next (.pointer (some ⟨w.heap.size, 0, none⟩)) true ty).run Tryd.prog wr = .ok (.tuple #[.bool true, .int .i64 pos, .int .i32 r]) (wr.iterAt w.heap.size s (pos + k)) := fun ty => by rw [hk, hr]; exact Lib.run_next_any_at wr w.heap.size s pos ty C.1 hlt
      have hwd : 1 ≤ k := by rw [hk]; exact width_pos s pos hlt
      have hwl : pos + k ≤ s.size := by rw [hk]; exact width_le s pos hlt
      have hd1 : r ≤ 2147483647 := by rw [hr]; exact decode_le s pos
      have C1 := Lib.hid (C.iterAt hb (pos + k))
      have DG : Hid (Lib.decodeGo (s.extract pos s.size) = (r, k)) := Lib.hid (by
        unfold Lib.decodeGo
        rw [if_neg (by rw [Lib.tail_size]; omega), Lib.tail_decode, Nat.add_zero, hk, hr])
      have IT := Lib.hid (show wr.iterPos w.heap.size = pos from by unfold World.iterPos; rw [C.1])
      have i0 : (0 : Int) ≤ (pos : Int) := by omega
      have i1 : (pos : Int) ≤ (s.size : Int) := by omega
      clear hk hr C
      go_wp2_with fail
      refine (DE.out (s.extract pos s.size) _ C1.out.2.1).mono ?_
      rintro e w1 ⟨rfl, g1⟩
      rw [DG.out]
      have C2 := Lib.hid (C1.out.grew hb g1)
      have CV : ∀ t W, (convert 9 59 (.string t)).run Tryd.prog W = .ok (.slice (some ⟨W.heap.size, 0, none⟩) t.size (grownCap W t.size 0 5)) (W.drew.alloc (.cells (bytesRow t (grownCap W t.size 0 5)) 5 ((bytesRow t (grownCap W t.size 0 5)).size, (bytesRow t (grownCap W t.size 0 5)).size + 1))) := fun t W => run_bytes_of_string W 9 59 5 t Tryd.underlying9 Tryd.underlying59 Tryd.underlying5
      have i2 : (pos : Int) + (k : Int) ≤ (s.size : Int) := by omega
      have i3 : (pos : Int) ≤ (pos : Int) + (k : Int) := by omega
      go_wp2_with fail
      obtain ⟨q, hq⟩ : ∃ q, q = grownCap w1 k 0 5 := ⟨_, rfl⟩
      rw [← hq]
      obtain ⟨X, hX⟩ : ∃ X, X = bytesRow (s.extract pos (pos + k)) q := ⟨_, rfl⟩
      rw [← hX]
      obtain ⟨V, hV⟩ : ∃ V, V = (w1.alloc (.cells X 5 (X.size, X.size + 1))).drew := ⟨_, rfl⟩
      rw [← hV]
      have C3 : Hid (Cy s d b w (pos + k) pos V) := Lib.hid (by rw [hV]; exact C2.out.grew hb (Below.drew ((Below.refl _ _).alloc (Nat.le_refl _) _)))
      have B3 : Hid (Bt s pos k w1.heap.size V) := Lib.hid (by
        rw [hV]
        refine ⟨by simp, fun j hj => ?_⟩
        have hz : j < (s.extract pos (pos + k)).size := by rw [ByteArray.size_extract]; omega
        have e : (s.extract pos (pos + k))[j]'hz = s.data.toList.getD (pos + j) 0 := by
          rw [List.getD, List.getElem?_eq_getElem (by rw [← HS.out]; omega), Array.getElem_toList]
          exact ByteArray.getElem_extract ..
        rw [World.cell?_drew, World.cell?_alloc_mark, hX]
        exact row_at _ q j _ hz e)
      have bg : Hid (b ≠ w1.heap.size) := Lib.hid (by have := C2.out.2.1.size; omega)
      clear hV hX hq CV C2 hnx i0 i1 i2 i3
      go_loopw [29] (fun i wi => ∃ j : Nat, j ≤ k ∧ i = .int .i64 j ∧ Hid (Cy s d b w (pos + k) (pos + j) wi ∧ Bt s pos k w1.heap.size wi)) (fun i _ => k - (intOf i).toNat)
      case atStart => exact ⟨0, Nat.zero_le _, rfl, Lib.hid ⟨C3.out, B3.out⟩⟩
      case round =>
        obtain ⟨j, hj, rfl, CB⟩ := hrel
        by_cases hlj : j < k
        · have c0 := CB.out.1.2.2.1
          have c1 := CB.out.1.2.2.2
          have c2 := CB.out.2.2 j hlj
          have c3 := CB.out.2.1
          have c4 : b < wr.heap.size := Nat.lt_of_lt_of_le hb CB.out.1.2.1.size
          have i0 : (0 : Int) ≤ (j : Int) := by omega
          have i1 : (j : Int) < (k : Int) := by omega
          have N2 := Lib.hid (CB.out.1.set hb)
          have N3 := Lib.hid (take_more (l := s.data.toList) (n := pos + j) d (by rw [← HS.out]; omega))
          obtain ⟨y, hy⟩ : ∃ y, y = s.data.toList.getD (pos + j) 0 := ⟨_, rfl⟩
          rw [← hy] at c2 N3
          have NX := Lib.hid (step_bits (fl d (s.data.toList.take (pos + j))) y)
          clear hy
          go_wp2_with fail
          go_roundw
          case rel =>
            exact ⟨j + 1, by omega, by go_num, Lib.hid (by rw [NX.out, ← N3.out]; exact ⟨N2.out, CB.out.2.set bg.out _⟩)⟩
          case measure => simp [intOf]; omega
        · obtain rfl : j = k := by omega
          go_wp2_with fail
          go_roundw
          case rel => exact ⟨pos + j, hwl, CB.out.1⟩
          case measure =>
            rw [IT.out]
            have : wr.iterPos w.heap.size = pos + j := by unfold World.iterPos; rw [CB.out.1.1]
            rw [this]
            omega
    · obtain rfl : pos = s.size := by omega
      have hnx : ∀ ty, (Instr.next (.pointer (some ⟨w.heap.size, 0, none⟩)) true ty).run Tryd.prog wr = .ok (.tuple #[.bool false]) wr := fun ty => Lib.run_next_end_at wr w.heap.size s s.size ty C.1 hlt
      have E : Hid (fl d s.data.toList = fl d (s.data.toList.take s.size)) := Lib.hid (by rw [HS.out, List.take_length])
      have c0 := C.2.2.1
      go_wp2_with fail
      go_ret
      rw [E.out]
      exact ⟨rfl, C.2⟩
end Dg
end Go.Proofs.YtfnnmkadmpflhaaDoor
