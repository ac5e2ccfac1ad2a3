/-
  The digest of integers, as the landed package digest makes it.
-/
import Derived.Test.YtfnnmkadmpflhaaDoorDigLnB
import Derived.Test.YtfnnmkadmpflhaaDoorDigRefC
import Derived.Test.YtfnnmkadmpflhaaDoorSgT
namespace Go.Proofs.YtfnnmkadmpflhaaDoor
open Go.RowKit Wd
namespace Dg
set_option maxRecDepth 100000
theorem dv_f0 : dv f0 = 14695981039346656037 := by decide
theorem T.below {W w : World} (h : T W) (g : Below W.heap.size W w) : T w := h.grew g
/-- The state between two integers. -/
def Nz (m : List UInt8) (w W : World) : Prop := Grew w W ∧ w.heap.size < W.heap.size ∧ W.cell? ⟨w.heap.size, 0, none⟩ = some (.int .u64 (dv (tx m))) ∧ W.frozen? ⟨w.heap.size, 0, none⟩ = false
theorem Nz.grew {d : List UInt8} {w W W' : World} (h : Nz d w W) (g : Grew W W') : Nz d w W' := by
  obtain ⟨h1, h2, h3, h4⟩ := h
  refine ⟨Grew.trans h1 g, Nat.lt_of_lt_of_le h2 g.size, ?_, ?_⟩
  · rw [g.cell h2]; exact h3
  · rw [Below.frozen (p := ⟨w.heap.size, 0, none⟩) g h2]; exact h4
theorem carry_on {m t : List UInt8} {w W : World} (hT : T w) (h : Nz m w W) (ht : t.length ≤ 1000000000) : Calls Tryd.prog 44 #[.string ⟨t.toArray⟩, .pointer (some ⟨w.heap.size, 0, none⟩)] W fun e w' => e = .returned (.int .u64 (dv (tx (m ++ t)))) ∧ Nz (m ++ t) w w' := by
  obtain ⟨h1, h2, h3, h4⟩ := h
  refine (c_carry ⟨t.toArray⟩ (tx m) w.heap.size W (fun V g => hT.grew (Below.trans h1 g)) (by show t.toArray.size ≤ _; simpa using ht) h2 h3 h4).mono ?_
  rintro e w' ⟨rfl, g, c, f⟩
  have E : fl (tx m) (ByteArray.mk t.toArray).data.toList = tx (m ++ t) := by unfold tx; rw [fl_append]
  rw [E] at c ⊢
  exact ⟨rfl, Below.trans h1 g, Nat.lt_of_lt_of_le h2 g.size, c, f⟩
theorem itoa_c (n : Int) (h : -9223372036854775808 ≤ n ∧ n ≤ 9223372036854775807) (W : World) (hT : T W) : Calls Tryd.prog 42 #[.int .i64 n] W fun e w' => e = .returned (.string ⟨(Lib.itoa n).toArray⟩) ∧ Grew W w' := by
  refine (Any.strconv_Itoa itoaL n h.1 h.2 W hT.2).mono ?_
  rintro e w' ⟨rfl, k, os, rfl⟩
  refine ⟨rfl, Below.trans (Grew.drewN (Grew.refl W) k) ⟨rfl, rfl, rfl, by simp [Go.Sort.grow], fun i hi => ?_⟩⟩
  simp only [Go.Sort.grow]
  exact Array.getElem?_append_left hi
set_option maxHeartbeats 4000000 in
theorem c_next (d : BitVec 64) (l : List Int) (v : Value) (w : World) (hT : T w) (hs : Is w v l) (hl : l.length ≤ 1000000) : Calls Tryd.prog 38 #[.int .u64 (dv d), v] w fun e w' => e = .returned (.int .u64 (dv (nx d l))) ∧ Grew w w' := by
  obtain ⟨sa, sc, rfl⟩ := hs.shape
  have HS := Lib.hid hs
  have HL := Lib.hid hl
  have CR := Lib.hid (c_carrier w)
  have N0 : Hid (Nz [] w (w.alloc (.cells #[.int .u64 14695981039346656037] 39))) := Lib.hid ⟨(Grew.refl w).alloc _ _, by simp, by rw [show dv (tx []) = 14695981039346656037 from dv_f0]; simp [go_sem], by simp [go_sem]⟩
  have WR := Lib.hid (fun W => c_written d W)
  have CY := Lib.hid (fun (m t : List UInt8) W (h : Nz m w W) (ht : t.length ≤ 1000000000) => carry_on hT h ht)
  have IC := Lib.hid (fun (n : Int) (h : -9223372036854775808 ≤ n ∧ n ≤ 9223372036854775807) W (g : Grew w W) => itoa_c n h W (hT.grew g))
  clear hs hT
  go_enter Tryd.func38, Tryd.ntmps38
  go_wp2_with fail
  refine (CR.out).mono ?_
  rintro e w1 ⟨rfl, rfl⟩
  go_wp2_with fail
  refine (WR.out _).mono ?_
  rintro e w2 ⟨rfl, g2⟩
  have N2 := Lib.hid (N0.out.grew g2)
  clear g2
  go_wp2_with fail
  refine (CY.out [] (head8 d) w2 N2.out (by rw [head8_len]; decide)).mono ?_
  rintro e w3 ⟨rfl, n3⟩
  have N3 := Lib.hid n3
  clear n3
  go_wp2_with fail
  obtain ⟨V, hV⟩ : ∃ V, V = w3 := ⟨w3, rfl⟩
  rw [← hV] at N3 ⊢
  clear hV
  go_loopw [6, 16] (fun u i wr => ∃ k : Nat, k ≤ l.length ∧ i = .int .i64 k ∧ u = .int .u64 (dv (tx (bs d (l.take k)))) ∧ Hid (Nz (bs d (l.take k)) w wr)) (fun _ i _ => l.length - (intOf i).toNat)
  case atStart => exact ⟨0, Nat.zero_le _, rfl, by unfold bs; rw [List.take_zero, ints_nil, List.append_nil], Lib.hid (by have := N3.out; unfold bs; rw [List.take_zero, ints_nil, List.append_nil]; exact this)⟩
  case round =>
    obtain ⟨j, hj, rfl, rfl, NZ⟩ := hrel
    by_cases hlt : j < l.length
    · obtain ⟨b, o, rfl, hb, q0⟩ := (HS.out.grew NZ.out.1).at hlt
      have i0 : (0 : Int) ≤ (j : Int) := by omega
      have i1 : (j : Int) < (l.length : Int) := by omega
      have DC := Lib.hid (IC.out l[j] (HS.out.2 j hlt) wr NZ.out.1)
      have LL : Hid ((Lib.itoa l[j] ++ [32]).length ≤ 1000000000) := Lib.hid (by rw [List.length_append, List.length_singleton]; have := itoa_len (HS.out.2 j hlt); omega)
      have NX : Hid (bs d (l.take (j + 1)) = bs d (l.take j) ++ (Lib.itoa l[j] ++ [32])) := Lib.hid (by unfold bs; rw [ints_next hlt, List.append_assoc, List.append_assoc])
      go_wp2_with fail
      refine (DC.out).mono ?_
      rintro e w4 ⟨rfl, g4⟩
      have N4 := Lib.hid (NZ.out.grew g4)
      clear g4 q0 hb
      have EA : Hid ((ByteArray.mk (Lib.itoa l[j]).toArray ++ ByteArray.mk #[32] : ByteArray) = ⟨(Lib.itoa l[j] ++ [32]).toArray⟩) := Lib.hid (by apply ByteArray.ext; simp)
      have C4 := CY.out (bs d (l.take j)) (Lib.itoa l[j] ++ [32]) w4 N4.out LL.out
      rw [← EA.out, ← NX.out] at C4
      have C5 := Lib.hid C4
      clear C4
      have sz : (Lib.itoa l[j]).length + 1 ≤ 9223372036854775807 := by have := itoa_len (HS.out.2 j hlt); omega
      have sy : (Lib.itoa l[j]).length ≤ 21 := itoa_len (HS.out.2 j hlt)
      have sx : (ByteArray.mk (Lib.itoa l[j]).toArray).size + (ByteArray.mk #[32]).size ≤ maxLen := by show (Lib.itoa l[j]).toArray.size + 1 ≤ _; unfold maxLen; simp; omega
      go_wp2_with fail
      refine (C5.out).mono ?_
      rintro e w5 ⟨rfl, n5⟩
      have N5 := Lib.hid n5
      clear n5
      go_wp2_with fail
      go_roundw
      case rel => exact ⟨j + 1, by omega, by go_num, rfl, N5⟩
      case measure => simp [intOf]; omega
    · obtain rfl : j = l.length := by omega
      go_wp2_with fail
      go_ret
      exact ⟨by rw [List.take_length]; rfl, NZ.out.1⟩
set_option maxHeartbeats 4000000 in
theorem c_sum (l : List Int) (v : Value) (w : World) (hT : T w) (hs : Is w v l) (hl : l.length ≤ 1000000) : Calls Tryd.prog 35 #[v] w fun e w' => e = .returned (.int .u64 (dv (nx f0 l))) ∧ Grew w w' := by
  have NX := c_next f0 l v w hT hs hl
  rw [dv_f0] at NX
  have NY := Lib.hid NX
  clear NX hs hT
  go_enter Tryd.func35, Tryd.ntmps35
  go_wp2_with fail
  refine (NY.out).mono ?_
  rintro e w1 ⟨rfl, g1⟩
  go_wp2_with fail
  go_ret
  exact ⟨rfl, g1⟩
end Dg
end Go.Proofs.YtfnnmkadmpflhaaDoor
