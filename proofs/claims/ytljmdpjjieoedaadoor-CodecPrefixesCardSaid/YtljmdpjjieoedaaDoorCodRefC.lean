/-
  The reference functions of layer 8: frames.
-/
import Derived.Test.YtljmdpjjieoedaaDoorCodRefB
import Derived.Test.YtljmdpjjieoedaaDoorCodG
namespace Go.Proofs.YtljmdpjjieoedaaDoor
open Go.RowKit Wd
namespace Co
set_option maxRecDepth 100000

theorem range_snoc (d : BitVec 64) (k : Nat) : (List.range (k + 1)).map (Dg.by8 d) = (List.range k).map (Dg.by8 d) ++ [Dg.by8 d k] := by rw [List.range_succ, List.map_append]; rfl
set_option maxHeartbeats 4000000 in
theorem r_eight (d : BitVec 64) (w : World) : Calls Tryd.prog 26 #[.int .u64 (Dg.dv d)] w fun e w' => ∃ v, e = .returned v ∧ Dg.Bw w.heap.size w' v (Dg.head8 d) ∧ Grew w w' := by
  go_enter Tryd.func26, Tryd.ntmps26
  go_wp2_with fail
  go_loopw [3, 4] (fun u i wr => ∃ k : Nat, k ≤ 8 ∧ i = .int .i64 k ∧ Grew w wr ∧ Hid (Dg.Bw w.heap.size wr u ((List.range k).map (Dg.by8 d)))) (fun _ i _ => 8 - (intOf i).toNat)
  case atStart => exact ⟨0, by omega, rfl, Grew.refl _, Lib.hid (Dg.Bw.nil _ _)⟩
  case round =>
    obtain ⟨k, hk, rfl, G, OW⟩ := hrel
    by_cases hlt : k < 8
    · have s0 : (0 : Int) ≤ 56 - 8 * (k : Int) := by omega
      have s1 : 56 - 8 * (k : Int) ≤ 64 := by omega
      have BT := Lib.hid (by8_val d k)
      have RS := Lib.hid (range_snoc d k)
      go_wp2_with (at_builtin; go_must (refine Dg.wpl_byte _ rfl _ _ rfl w.heap.size _ ((List.range k).map (Dg.by8 d)) _ 1 (Dg.by8 d k) rfl (Dg.Bw.alloc OW.out _) rfl (by rw [BT.out]; simp [go_sem]) (by rw [List.length_map, List.length_range]; omega) (by have := G.size; simp; omega) ?_; intro v' w' own' gr'; have GG2 := Lib.hid (Grew.grown (G.alloc _ _) gr' (fun k hk => (Dg.Bw.lt OW.out k hk).1)); have OW2 := Lib.hid own'; clear own' gr'))
      go_roundw
      case rel => exact ⟨k + 1, by omega, by go_num, GG2.out, Lib.hid (by rw [RS.out]; exact OW2.out)⟩
      case measure => simp [intOf]; omega
    · obtain rfl : k = 8 := by omega
      go_wp2_with fail
      go_ret
      exact ⟨_, rfl, OW.out, G⟩
set_option maxHeartbeats 8000000 in
theorem r_frame (l : List Int) (v : Value) (w : World) (hs : Is w v l) (hl : l.length ≤ 4000) : Calls Tryd.prog 14 #[v] w (FrameSays l w) := by
  have LO : Hid (Lok l) := Lib.hid ⟨hl, hs.2⟩
  have PU := Lib.hid (r_put l v w hs hl)
  have TX := Lib.hid (fun bs W (h : List.length bs ≤ 1000000) => Dg.rtext ⟨bs.toArray⟩ W (by show bs.toArray.size ≤ _; simp; omega))
  have EI := Lib.hid (fun d W => r_eight d W)
  clear hs
  go_enter Tryd.func14, Tryd.ntmps14
  go_wp2_with fail
  refine (PU.out).mono ?_
  rintro e w1 ⟨u, rfl, ob, g1⟩
  have OB := Lib.hid ob
  obtain ⟨ua, uc, rfl, huc⟩ := (own_bs ob).shape
  obtain ⟨n, hn⟩ : ∃ n, n = (lb l).length := ⟨_, rfl⟩
  rw [← hn] at OB huc
  have HN := Lib.hid hn
  rw [← hn]
  have nl : n ≤ 40002 := by have := lb_len LO.out; omega
  have TB : Hid (Dg.Bw w.heap.size (w1.alloc (.cells #[.int .u8 ((n : Int) / 65536), .int .u8 ((n : Int) / 256), .int .u8 ((n : Int) % 256)] 5)) (.slice (some ⟨w1.heap.size, 0, none⟩) 3 3) (hd3 n)) := Lib.hid (by
    have h := three_bw (B := w.heap.size) w1 (UInt8.ofNat (n / 65536)) (UInt8.ofNat (n / 256 % 256)) (UInt8.ofNat (n % 256)) g1.size
    rw [byte_nat (by omega), byte_nat (by omega), byte_nat (by omega), show ((n / 65536 : Nat) : Int) = (n : Int) / 65536 from by omega, show ((n / 256 % 256 : Nat) : Int) = (n : Int) / 256 from by omega, show ((n % 256 : Nat) : Int) = (n : Int) % 256 from by omega] at h
    exact h)
  have FH : Hid (hd3 n ++ lb l = fh l) := Lib.hid (by unfold fh; rw [hn])
  have X0 : (n : Int) / 256 % 256 = (n : Int) / 256 := by omega
  clear ob hn
  go_wp2_with (at_builtin; go_must (refine wpl_bytes _ rfl _ _ rfl w.heap.size _ _ (hd3 n) (lb l) rfl TB.out rfl ((own_bs OB.out).grew ((Grew.refl _).alloc _ _)) (by rw [← HN.out, hd3_len]; omega) (by have := g1.size; simp; omega) ?_; intro v5 w5 own5 gr5; have OW5 := Lib.hid own5; have CV := conv_bs (own_bs own5); rw [FH.out] at CV; have G5 : Grew w w5 := Grew.grown (g1.alloc _ _) gr5 (fun k hk => (Dg.Bw.lt TB.out k hk).1); clear own5 gr5))
  rw [FH.out] at OW5
  have FL : Hid ((fh l).length ≤ 40010) := Lib.hid (by rw [fh_len, ← HN.out]; omega)
  refine ((TX.out _ _ (by have := FL.out; omega))).mono ?_
  rintro e w6 ⟨rfl, g6⟩
  have ED : Hid (Dg.tx (ByteArray.mk (fh l).toArray).data.toList = Dg.tx (fh l)) := Lib.hid rfl
  rw [ED.out]
  have O6 := Lib.hid (OW5.out.grew g6)
  have G6 := Grew.trans G5 g6
  clear OW5 ED CV g6 G5 TB OB
  go_wp2_with fail
  refine (EI.out _ _).mono ?_
  rintro e w7 ⟨v7, rfl, o7, g7⟩
  have O7 := Lib.hid o7
  have O8 := Lib.hid (O6.out.grew g7)
  have G7 := Grew.trans G6 g7
  have FE : Hid (fh l ++ Dg.head8 (Dg.tx (fh l)) = fr l) := Lib.hid rfl
  clear o7 g7 O6 G6
  go_wp2_with (at_builtin; go_must (refine wpl_bytes _ rfl _ _ rfl w.heap.size _ _ (fh l) (Dg.head8 (Dg.tx (fh l))) rfl (by exact O8.out) rfl (by exact own_bs O7.out) (by rw [head8_len]; have := FL.out; omega) (by have := G7.size; omega) ?_; intro v9 w9 own9 gr9; have OW9 := Lib.hid own9; have G9 : Grew w w9 := Grew.grown G7 gr9 (fun k hk => (Dg.Bw.lt O8.out k hk).1); clear own9 gr9))
  rw [FE.out] at OW9
  go_ret2
  exact ⟨_, rfl, OW9.out, G9⟩
set_option maxHeartbeats 4000000 in
theorem r_frame_long (l : List Int) (v : Value) (w : World) (hs : Is w v l) (hl : 4000 < l.length) : Calls Tryd.prog 14 #[v] w fun e w' => e = .returned (.tuple #[.slice none 0 0, .int .i64 2]) ∧ Grew w w' := by
  have PU := Lib.hid (r_put_long l v w hs hl)
  clear hs
  go_enter Tryd.func14, Tryd.ntmps14
  go_wp2_with fail
  refine (PU.out).mono ?_
  rintro e w1 ⟨rfl, g1⟩
  go_wp2_with fail
  go_ret2
  exact ⟨rfl, g1⟩
end Co
end Go.Proofs.YtljmdpjjieoedaaDoor
