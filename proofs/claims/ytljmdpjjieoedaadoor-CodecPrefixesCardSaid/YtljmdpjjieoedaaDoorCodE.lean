/-
  The landed package codec: the frame of a list.
-/
import Derived.Test.YtljmdpjjieoedaaDoorCodD
namespace Go.Proofs.YtljmdpjjieoedaaDoor
open Go.RowKit Wd
namespace Co
set_option maxRecDepth 100000

theorem three_bw {B : Nat} (w : World) (x y z : UInt8) (hB : B ≤ w.heap.size) : Dg.Bw B (w.alloc (.cells #[.int .u8 (x.toNat : Int), .int .u8 (y.toNat : Int), .int .u8 (z.toNat : Int)] 5)) (.slice (some ⟨w.heap.size, 0, none⟩) 3 3) [x, y, z] :=
  ⟨rfl, Or.inr ⟨w.heap.size, 3, _, rfl, hB, heap_alloc_new w _, Nat.le_refl _, by unfold maxLen; omega, rfl, rfl⟩⟩
theorem eight_bs (d : BitVec 64) (w : World) (t : TypeId) : Bs (w.alloc (.cells #[.int .u8 ((Dg.by8 d 0).toNat : Int), .int .u8 ((Dg.by8 d 1).toNat : Int), .int .u8 ((Dg.by8 d 2).toNat : Int), .int .u8 ((Dg.by8 d 3).toNat : Int), .int .u8 ((Dg.by8 d 4).toNat : Int), .int .u8 ((Dg.by8 d 5).toNat : Int), .int .u8 ((Dg.by8 d 6).toNat : Int), .int .u8 ((Dg.by8 d 7).toNat : Int)] t)) (.slice (some ⟨w.heap.size, 0, none⟩) 8 8) (Dg.head8 d) := by
  refine ⟨_, 8, by rw [bc_len, head8_len], by rw [bc_len, head8_len]; exact Nat.le_refl _, Or.inr ⟨w.heap.size, 0, rfl, by simp, fun i u hu => ?_⟩⟩
  have hi : i < 8 := by have := (List.getElem?_eq_some_iff.1 hu).1; rw [bc_len, head8_len] at this; exact this
  rw [Dg.cells_at (by rw [head8_len]; exact hi), head8_at] at hu
  rw [← Option.some.inj hu]
  match i, hi with
  | 0, _ => simp [go_sem]
  | 1, _ => simp [go_sem]
  | 2, _ => simp [go_sem]
  | 3, _ => simp [go_sem]
  | 4, _ => simp [go_sem]
  | 5, _ => simp [go_sem]
  | 6, _ => simp [go_sem]
  | 7, _ => simp [go_sem]
/-- What Frame hands back. -/
def FrameSays (l : List Int) (w : World) (e : Ending) (w' : World) : Prop := ∃ u, e = .returned (.tuple #[u, .int .i64 0]) ∧ Dg.Bw w.heap.size w' u (fr l) ∧ Grew w w'
set_option maxHeartbeats 8000000 in
theorem c_frame (l : List Int) (v : Value) (w : World) (hT : Dg.Tu w) (hs : Is w v l) (hl : l.length ≤ 4000) : Calls Tryd.prog 13 #[v] w (FrameSays l w) := by
  have LO : Hid (Lok l) := Lib.hid ⟨hl, hs.2⟩
  have PU := Lib.hid (c_put l v w hs hl)
  have HT := Lib.hid hT
  have SE := Lib.hid (fun u bs W (g : Grew w W) hx hl => c_seal u bs W (hT.grew g) hx hl)
  clear hs hT
  go_enter Tryd.func13, Tryd.ntmps13
  go_wp2_with fail
  refine (PU.out).mono ?_
  rintro e w1 ⟨u, rfl, ob, g1⟩
  have OB := Lib.hid ob
  obtain ⟨ua, uc, rfl, huc⟩ := (own_bs ob).shape
  obtain ⟨n, hn⟩ : ∃ n, n = (lb l).length := ⟨_, rfl⟩
  rw [← hn] at OB huc
  have HN := Lib.hid hn
  rw [← hn]
  have nl : n ≤ 40002 := by have := lb_len LO.out; omega
  have TB : Hid (Dg.Bw w.heap.size (w1.alloc (.cells #[.int .u8 ((n : Int) / 65536), .int .u8 ((n : Int) / 256), .int .u8 ((n : Int) % 256)] 5)) (.slice (some ⟨w1.heap.size, 0, none⟩) 3 3) (hd3 n)) := Lib.hid (by
    have h := three_bw (B := w.heap.size) w1 (UInt8.ofNat (n / 65536)) (UInt8.ofNat (n / 256 % 256)) (UInt8.ofNat (n % 256)) g1.size
    rw [byte_nat (by omega), byte_nat (by omega), byte_nat (by omega), show ((n / 65536 : Nat) : Int) = (n : Int) / 65536 from by omega, show ((n / 256 % 256 : Nat) : Int) = (n : Int) / 256 from by omega, show ((n % 256 : Nat) : Int) = (n : Int) % 256 from by omega] at h
    exact h)
  have FH : Hid (hd3 n ++ lb l = fh l) := Lib.hid (by unfold fh; rw [hn])
  clear ob hn
  go_wp2_with (at_builtin; go_must (refine wpl_bytes _ rfl _ _ rfl w.heap.size _ _ (hd3 n) (lb l) rfl TB.out rfl ((own_bs OB.out).grew ((Grew.refl _).alloc _ _)) (by rw [← HN.out, hd3_len]; omega) (by have := g1.size; simp; omega) ?_; intro v5 w5 own5 gr5; have OW5 := Lib.hid own5; have G5 : Grew w w5 := Grew.grown (g1.alloc _ _) gr5 (fun k hk => (Dg.Bw.lt TB.out k hk).1); clear own5 gr5))
  rw [FH.out] at OW5
  have FL : Hid ((fh l).length ≤ 40010) := Lib.hid (by rw [fh_len, ← HN.out]; omega)
  obtain ⟨a5, c5, rfl, h5⟩ := (own_bs OW5.out).shape
  have SE5 := Lib.hid (SE.out _ _ w5 G5 (own_bs OW5.out) (by have := FL.out; omega))
  refine (SE5.out).mono ?_
  rintro e w6 ⟨rfl, g6⟩
  have G6 := Grew.trans G5 g6
  have OW6 := Lib.hid (OW5.out.grew g6)
  have EB := Lib.hid (eight_bs (Dg.tx (fh l)) w6 48)
  have FE : Hid (fh l ++ Dg.head8 (Dg.tx (fh l)) = fr l) := Lib.hid rfl
  clear OW5 SE5 TB OB
  unfold ag8
  go_wp2_with (at_builtin; go_must (refine wpl_bytes _ rfl _ _ rfl w.heap.size _ _ (fh l) (Dg.head8 (Dg.tx (fh l))) rfl (Dg.Bw.alloc OW6.out _) rfl EB.out (by rw [head8_len]; have := FL.out; omega) (by have := G6.size; simp; omega) ?_; intro v7 w7 own7 gr7; have OW7 := Lib.hid own7; have G7 : Grew w w7 := Grew.grown (G6.alloc _ _) gr7 (fun k hk => (Dg.Bw.lt OW6.out k hk).1); clear own7 gr7))
  rw [FE.out] at OW7
  go_ret2
  exact ⟨_, rfl, OW7.out, G7⟩
set_option maxHeartbeats 4000000 in
theorem c_frame_long (l : List Int) (v : Value) (w : World) (hs : Is w v l) (hl : 4000 < l.length) : Calls Tryd.prog 13 #[v] w fun e w' => e = .returned (.tuple #[.slice none 0 0, .int .i64 2]) ∧ Grew w w' := by
  have PU := Lib.hid (c_put_long l v w hs hl)
  clear hs
  go_enter Tryd.func13, Tryd.ntmps13
  go_wp2_with fail
  refine (PU.out).mono ?_
  rintro e w1 ⟨rfl, g1⟩
  go_wp2_with fail
  go_ret2
  exact ⟨rfl, g1⟩
end Co
end Go.Proofs.YtljmdpjjieoedaaDoor
