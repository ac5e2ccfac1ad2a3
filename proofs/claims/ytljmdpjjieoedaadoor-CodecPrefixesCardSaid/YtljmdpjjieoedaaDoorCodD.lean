/-
  The landed package codec: frames.
-/
import Derived.Test.YtljmdpjjieoedaaDoorCodC
import Derived.Test.YtljmdpjjieoedaaDoorDigCar
import Derived.Laws.Shifts
namespace Go.Proofs.YtljmdpjjieoedaaDoor
open Go.RowKit Wd
namespace Co
set_option maxRecDepth 100000

theorem by8_val (d : BitVec 64) (k : Nat) : ((Dg.by8 d k).toNat : Int) = Dg.dv d / 2 ^ (56 - 8 * k) % 256 := by
  unfold Dg.by8 Dg.dv
  rw [UInt8.toNat_ofBitVec, BitVec.toNat_setWidth, BitVec.toNat_ushiftRight, Nat.shiftRight_eq_div_pow]
  rw [Int.natCast_emod, Int.natCast_ediv, Int.natCast_pow]
  rfl
/-- The bytes k to 7 of a digest stand in the array at block b; those ahead of them are 0. -/
def Wr (d : BitVec 64) (b k : Nat) (w : World) : Prop := b < w.heap.size ∧ ∀ j, j < 8 → w.cell? ⟨b, j, none⟩ = some (.int .u8 (if 8 - k ≤ j then ((Dg.by8 d j).toNat : Int) else 0)) ∧ w.frozen? ⟨b, j, none⟩ = false
theorem by8_low (d : BitVec 64) (k : Nat) (h : k < 8) : ((Dg.by8 d (7 - k)).toNat : Int) = Dg.dv d / 2 ^ (8 * k) % 256 := by
  rw [by8_val, show 56 - 8 * (7 - k) = 8 * k from by omega]
theorem head8_at (d : BitVec 64) (j : Nat) (h : j < (Dg.head8 d).length) : (Dg.head8 d)[j] = Dg.by8 d j := by
  simp [Dg.head8]
theorem Wr.next {d : BitVec 64} {b k : Nat} {w : World} (h : Wr d b k w) (hk : k < 8) : Wr d b (k + 1) (w.setCell ⟨b, 7 - k, none⟩ (.int .u8 (Dg.dv d / 2 ^ (8 * k) % 256))) := by
  refine ⟨by simpa using h.1, fun j hj => ?_⟩
  obtain ⟨h1, h2⟩ := h.2 j hj
  obtain ⟨h3, h4⟩ := h.2 (7 - k) (by omega)
  by_cases e : j = 7 - k
  · subst e
    rw [if_pos (by omega), by8_low d k hk]
    refine ⟨?_, ?_⟩
    · simp [go_sem, h3]
    · simpa [go_sem] using h2
  · simp only [show (8 - (k + 1) ≤ j) ↔ (8 - k ≤ j) from ⟨fun _ => by omega, fun _ => by omega⟩]
    refine ⟨?_, ?_⟩
    · rw [← h1]
      simp [go_sem]
    · simpa [go_sem] using h2
theorem Wr.grew {d : BitVec 64} {b k : Nat} {W w : World} (h : Wr d b k W) (g : Grew W w) : Wr d b k w :=
  ⟨Nat.lt_of_lt_of_le h.1 g.size, fun j hj => by rw [g.cell h.1, (laid g).2.1 _ _ h.1]; exact h.2 j hj⟩
theorem Wr.other {d : BitVec 64} {b k : Nat} {W : World} (h : Wr d b k W) {b' o : Nat} (hne : b ≠ b') (u : Value) : Wr d b k (W.setCell ⟨b', o, none⟩ u) := by
  have e : (W.setCell ⟨b', o, none⟩ u).heap[b]? = W.heap[b]? := Below.heap_setCell _ _ _ _ hne
  exact ⟨by simpa using h.1, fun j hj => ⟨by rw [← (h.2 j hj).1]; exact World.cell?_of_block e, by rw [← (h.2 j hj).2]; exact World.frozen?_of_block e⟩⟩
theorem Wr.zero (d : BitVec 64) (w : World) (t : TypeId) : Wr d w.heap.size 0 (w.alloc (.cells #[.int .u8 0, .int .u8 0, .int .u8 0, .int .u8 0, .int .u8 0, .int .u8 0, .int .u8 0, .int .u8 0] t)) := by
  refine ⟨by simp, fun j hj => ?_⟩
  rw [if_neg (by omega)]
  match j, hj with
  | 0, _ => simp [go_sem]
  | 1, _ => simp [go_sem]
  | 2, _ => simp [go_sem]
  | 3, _ => simp [go_sem]
  | 4, _ => simp [go_sem]
  | 5, _ => simp [go_sem]
  | 6, _ => simp [go_sem]
  | 7, _ => simp [go_sem]
/-- The eight bytes of a digest as an array. -/
def ag8 (d : BitVec 64) : Value := .agg #[.int .u8 ((Dg.by8 d 0).toNat : Int), .int .u8 ((Dg.by8 d 1).toNat : Int), .int .u8 ((Dg.by8 d 2).toNat : Int), .int .u8 ((Dg.by8 d 3).toNat : Int), .int .u8 ((Dg.by8 d 4).toNat : Int), .int .u8 ((Dg.by8 d 5).toNat : Int), .int .u8 ((Dg.by8 d 6).toNat : Int), .int .u8 ((Dg.by8 d 7).toNat : Int)]
set_option maxHeartbeats 8000000 in
theorem c_seal (v : Value) (bs : List UInt8) (w : World) (hT : Dg.Tu w) (hx : Bs w v bs) (hl : bs.length ≤ 1000000) : Calls Tryd.prog 25 #[v] w fun e w' => e = .returned (ag8 (Dg.tx bs)) ∧ Grew w w' := by
  obtain ⟨a, c, rfl, _⟩ := hx.shape
  have CV := Lib.hid (fun W (g : Grew w W) => conv_bs (hx.grew g))
  have TX := Lib.hid (fun W (g : Grew w W) => Dg.c_text ⟨bs.toArray⟩ W (hT.grew g) (by show bs.toArray.size ≤ _; simp; omega))
  have GA : Grew w ((w.alloc (.cells #[.int .u8 0, .int .u8 0, .int .u8 0, .int .u8 0, .int .u8 0, .int .u8 0, .int .u8 0, .int .u8 0] 48)).alloc (.cells #[.int .u8 0, .int .u8 0, .int .u8 0, .int .u8 0, .int .u8 0, .int .u8 0, .int .u8 0, .int .u8 0] 48)) := ((Grew.refl w).alloc _ _).alloc _ _
  have CV1 := CV.out _ GA
  clear hx hT
  go_enter Tryd.func25, Tryd.ntmps25
  go_wp2_with fail
  refine ((TX.out _ GA)).mono ?_
  rintro e w1 ⟨rfl, g1⟩
  have Z0 := Lib.hid (((Wr.zero (Dg.tx bs) w 48).grew ((Grew.refl _).alloc _ _)).grew g1)
  have Z1' := (Wr.zero (Dg.tx bs) (w.alloc (.cells #[.int .u8 0, .int .u8 0, .int .u8 0, .int .u8 0, .int .u8 0, .int .u8 0, .int .u8 0, .int .u8 0] 48)) 48).grew g1
  rw [World.size_alloc] at Z1'
  have Z1 := Lib.hid Z1'
  have G1 := Grew.trans GA g1
  clear Z1' CV1 CV TX g1 GA
  have ED : Hid (Dg.tx (ByteArray.mk bs.toArray).data.toList = Dg.tx bs) := Lib.hid rfl
  rw [ED.out]
  clear ED
  obtain ⟨d, hd⟩ : ∃ d, d = Dg.tx bs := ⟨_, rfl⟩
  rw [← hd] at Z0 Z1 ⊢
  have HD := Lib.hid hd
  clear hd
  go_wp2_with fail
  go_loopw [9] (fun i wr => ∃ k : Nat, k ≤ 8 ∧ i = .int .i64 k ∧ Grew w wr ∧ Hid (Wr d w.heap.size 0 wr) ∧ Hid (Wr d (w.heap.size + 1) k wr)) (fun i _ => 8 - (intOf i).toNat)
  case atStart => exact ⟨0, by omega, rfl, G1, Z0, Z1⟩
  case round =>
    obtain ⟨k, hk, rfl, G, OZ, OW⟩ := hrel
    by_cases hlt : k < 8
    · have c0 := (OW.out.2 (7 - k) (by omega)).1
      rw [if_neg (by omega)] at c0
      have c1 := (OW.out.2 (7 - k) (by omega)).2
      have bl := OW.out.1
      have NX := Lib.hid (OW.out.next hlt)
      have NZ := Lib.hid (OZ.out.other (b' := w.heap.size + 1) (o := 7 - k) (by omega) (.int .u8 (Dg.dv d / 2 ^ (8 * k) % 256)))
      go_wp2_with fail
      go_roundw
      case rel => exact ⟨k + 1, by omega, by go_num, G.setCell (by simp) _, NZ, NX⟩
      case measure => simp [intOf]; omega
    · obtain rfl : k = 8 := by omega
      have q0 := (OW.out.2 0 (by omega)).1
      have q1 := (OW.out.2 1 (by omega)).1
      have q2 := (OW.out.2 2 (by omega)).1
      have q3 := (OW.out.2 3 (by omega)).1
      have q4 := (OW.out.2 4 (by omega)).1
      have q5 := (OW.out.2 5 (by omega)).1
      have q6 := (OW.out.2 6 (by omega)).1
      have q7 := (OW.out.2 7 (by omega)).1
      rw [if_pos (by omega)] at q0 q1 q2 q3 q4 q5 q6 q7
      have p0 := OZ.out.2 0 (by omega)
      have p1 := OZ.out.2 1 (by omega)
      have p2 := OZ.out.2 2 (by omega)
      have p3 := OZ.out.2 3 (by omega)
      have p4 := OZ.out.2 4 (by omega)
      have p5 := OZ.out.2 5 (by omega)
      have p6 := OZ.out.2 6 (by omega)
      have p7 := OZ.out.2 7 (by omega)
      have z0 := OZ.out.1
      have z1 := OW.out.1
      go_wp2_with fail
      refine bodyPost_ret (v := ag8 d) (by simp [results, Tryd.results25, go_sem, ag8, *]) rfl ⟨by rw [HD.out], ?_⟩
      exact (((((((G.setCell (by simp) _).setCell (by simp) _).setCell (by simp) _).setCell (by simp) _).setCell (by simp) _).setCell (by simp) _).setCell (by simp) _).setCell (by simp) _
end Co
end Go.Proofs.YtljmdpjjieoedaaDoor
