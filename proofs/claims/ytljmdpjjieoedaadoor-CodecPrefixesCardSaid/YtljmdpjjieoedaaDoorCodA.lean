/-
  The landed package codec: the bytes of integers and of lists.
-/
import Derived.Test.YtljmdpjjieoedaaDoorCodSl
import Derived.Laws.Bits64
namespace Go.Proofs.YtljmdpjjieoedaaDoor
open Go.RowKit Wd
namespace Co
set_option maxRecDepth 100000

theorem num_neg {n : Int} (h : n < 0) : (num n : Int) = 2 * (-n - 1) + 1 := by unfold num; rw [if_pos h]; omega
theorem num_pos {n : Int} (h : ¬ n < 0) : (num n : Int) = 2 * n := by unfold num; rw [if_neg h]; omega
theorem not_i64 {n : Int} (h : I64 n) : bits .xor .i64 (-1) n = -1 - n := by
  unfold I64 at h
  have e : bits .xor .i64 (-1) n = IntKind.i64.wrap ((BitVec.ofInt 64 (-1) ^^^ BitVec.ofInt 64 n).toNat : Int) := rfl
  rw [e, show BitVec.ofInt 64 (-1) = BitVec.allOnes 64 from by decide, BitVec.allOnes_xor, BitVec.toNat_not, BitVec.toNat_ofInt, IntKind.wrap_i64]
  omega
theorem num_bits {n : Int} (h : I64 n) (h0 : n < 0) : IntKind.u64.wrap (IntKind.u64.wrap (2 * IntKind.u64.wrap (bits BinOp.xor IntKind.i64 (-1) n)) + 1) = (num n : Int) := by
  rw [not_i64 h, num_neg h0, IntKind.wrap_u64, IntKind.wrap_u64, IntKind.wrap_u64]
  unfold I64 at h
  omega
theorem unum_bits {u : Nat} (h : u < 18446744073709551616) (h0 : u % 2 = 1) : bits BinOp.xor IntKind.i64 (-1) ((u : Int) / 2) = unum u := by
  rw [not_i64 (by unfold I64; omega)]
  unfold unum
  rw [if_pos h0]
  omega
theorem unum_even {u : Nat} (h0 : ¬ u % 2 = 1) : (u : Int) / 2 = unum u := by
  unfold unum
  rw [if_neg h0]
  omega
set_option maxHeartbeats 4000000 in
theorem c_numberOf (n : Int) (w : World) (h : I64 n) : Calls Tryd.prog 32 #[.int .i64 n] w fun e w' => e = .returned (.int .u64 (num n)) ∧ w' = w := by
  have h' := h
  unfold I64 at h
  by_cases h0 : n < 0
  · have NB := Lib.hid (num_bits h' h0)
    go_enter Tryd.func32, Tryd.ntmps32
    go_wp2_with fail
    go_ret
    exact ⟨by rw [NB.out]; rfl, rfl⟩
  · have NB := Lib.hid (num_pos h0)
    clear h'
    go_enter Tryd.func32, Tryd.ntmps32
    go_wp2_with fail
    go_ret
    exact ⟨by rw [NB.out]; rfl, rfl⟩
set_option maxHeartbeats 4000000 in
theorem c_integerOf (u : Nat) (w : World) (h : u < 18446744073709551616) : Calls Tryd.prog 36 #[.int .u64 u] w fun e w' => e = .returned (.int .i64 (unum u)) ∧ w' = w := by
  by_cases h0 : u % 2 = 1
  · have NB := Lib.hid (unum_bits h h0)
    go_enter Tryd.func36, Tryd.ntmps36
    go_wp2_with fail
    go_ret
    exact ⟨by rw [NB.out]; rfl, rfl⟩
  · have NB := Lib.hid (unum_even h0)
    go_enter Tryd.func36, Tryd.ntmps36
    go_wp2_with fail
    go_ret
    exact ⟨by rw [NB.out]; rfl, rfl⟩
theorem vb_at {u : Nat} (h : 128 ≤ u) (l : List UInt8) : l ++ vb u = l ++ [UInt8.ofNat (u % 128 + 128)] ++ vb (u / 128) := by rw [vb_high h, List.append_assoc]; rfl
set_option maxHeartbeats 4000000 in
theorem c_with (B : Nat) (v : Value) (l : List UInt8) (n : Int) (w : World) (hB : B ≤ w.heap.size) (ho : Dg.Bw B w v l) (hn : I64 n) (hl : l.length ≤ 1000000) : Calls Tryd.prog 23 #[v, .int .i64 n] w fun e w' => ∃ v', e = .returned v' ∧ Dg.Bw B w' v' (l ++ ib n) ∧ Below B w w' := by
  have NO := Lib.hid (fun W => c_numberOf n W hn)
  have NL := Lib.hid (num_lt hn)
  have OW0 := Lib.hid ho
  have hBB := Lib.hid hB
  have BE : Hid (ib n = vb (num n)) := Lib.hid rfl
  clear ho hn hB
  go_enter Tryd.func23, Tryd.ntmps23
  go_wp2_with fail
  refine (NO.out _).mono ?_
  rintro e w1 ⟨rfl, rfl⟩
  go_wp2_with fail
  go_loopw [0, 5] (fun s i wr => ∃ (u : Nat) (m : List UInt8), i = .int .u64 u ∧ Below B w1 wr ∧ u < 18446744073709551616 ∧ Hid (Dg.Bw B wr s m ∧ m ++ vb u = l ++ ib n)) (fun _ i _ => (intOf i).toNat)
  case atStart => exact ⟨num n, l, rfl, Below.refl _ _, NL.out, Lib.hid ⟨OW0.out, by rw [BE.out]⟩⟩
  case round =>
    obtain ⟨u, m, rfl, G, ul, OW⟩ := hrel
    by_cases hu : 128 ≤ u
    · have BT : Hid (((UInt8.ofNat (u % 128 + 128)).toNat : Int) = (u : Int) % 128 + 128) := Lib.hid (by rw [byte_nat (by omega)]; omega)
      have VA := Lib.hid (vb_at hu m)
      have u0 : (128 : Int) ≤ (u : Int) := by omega
      have ml : Hid (m.length ≤ 1000010) := Lib.hid (by
        have := congrArg List.length OW.out.2
        rw [List.length_append, List.length_append] at this
        have h10 := vb_ten NL.out
        rw [← BE.out] at h10
        omega)
      go_wp2_with (at_builtin; go_must (refine Dg.wpl_byte _ rfl _ _ rfl B _ m _ 1 (UInt8.ofNat (u % 128 + 128)) rfl (Dg.Bw.alloc OW.out.1 _) rfl (by rw [BT.out]; simp [go_sem, *]) (by have := ml.out; omega) (by have := G.size; have := hBB.out; simp; omega) ?_; intro v' w' own' gr'; have GG2 := Lib.hid (Below.grown (G.alloc (Nat.le_trans hBB.out G.size) _) gr' (by have := G.size; have := hBB.out; simp; omega) (fun k hk => (Dg.Bw.lt OW.out.1 k hk).1)); have OW2 := Lib.hid own'; clear own' gr'))
      go_roundw
      case rel => exact ⟨u / 128, m ++ [UInt8.ofNat (u % 128 + 128)], by go_num, GG2.out, by omega, Lib.hid ⟨OW2.out, by rw [← VA.out]; exact OW.out.2⟩⟩
      case measure => simp [intOf]; omega
    · have BT : Hid (((UInt8.ofNat u).toNat : Int) = (u : Int)) := Lib.hid (by rw [byte_nat (by omega)])
      have u0 : ¬ (128 : Int) ≤ (u : Int) := by omega
      have VA : Hid (m ++ [UInt8.ofNat u] = l ++ ib n) := Lib.hid (by rw [← OW.out.2, vb_low (by omega)])
      have ml : Hid (m.length ≤ 1000010) := Lib.hid (by
        have := congrArg List.length OW.out.2
        rw [List.length_append, List.length_append] at this
        have h10 := vb_ten NL.out
        rw [← BE.out] at h10
        omega)
      go_wp2_with (at_builtin; go_must (refine Dg.wpl_byte _ rfl _ _ rfl B _ m _ 1 (UInt8.ofNat u) rfl (Dg.Bw.alloc OW.out.1 _) rfl (by rw [BT.out]; simp [go_sem, *]) (by have := ml.out; omega) (by have := G.size; have := hBB.out; simp; omega) ?_; intro v' w' own' gr'; have GG2 := Lib.hid (Below.grown (G.alloc (Nat.le_trans hBB.out G.size) _) gr' (by have := G.size; have := hBB.out; simp; omega) (fun k hk => (Dg.Bw.lt OW.out.1 k hk).1)); have OW2 := Lib.hid own'; clear own' gr'))
      go_ret
      exact ⟨_, rfl, by rw [← VA.out]; exact OW2.out, GG2.out⟩
/-- What Put hands back. -/
def PutSays (l : List Int) (w : World) (e : Ending) (w' : World) : Prop := ∃ u, e = .returned (.tuple #[u, .int .i64 0]) ∧ Dg.Bw w.heap.size w' u (lb l) ∧ Grew w w'
theorem il_next {l : List Int} {k : Nat} (h : k < l.length) : il (l.take (k + 1)) = il (l.take k) ++ ib l[k] := by rw [List.take_succ_eq_append_getElem h, il_snoc]
theorem lb_part (l : List Int) (h : Lok l) (k : Nat) : (ib (l.length : Int) ++ il (l.take k)).length ≤ 40002 := by
  have h1 := lb_len h
  have h2 : (il l).length = (il (l.take k)).length + (il (l.drop k)).length := by rw [← List.length_append, ← il_append, List.take_append_drop]
  have h3 := h.1
  unfold lb at h1
  rw [List.length_append] at h1 ⊢
  omega
set_option maxHeartbeats 4000000 in
theorem c_put (l : List Int) (v : Value) (w : World) (hs : Is w v l) (hl : l.length ≤ 4000) : Calls Tryd.prog 10 #[v] w (PutSays l w) := by
  obtain ⟨a, c, rfl, hlc⟩ := hs.shape
  have HS := Lib.hid hs
  have LO : Hid (Lok l) := Lib.hid ⟨hl, hs.2⟩
  have CW := Lib.hid (fun v m n W (g : Grew w W) (ho : Dg.Bw w.heap.size W v m) hn hm => c_with w.heap.size v m n W g.size ho hn hm)
  have LP := Lib.hid (lb_part l ⟨hl, hs.2⟩)
  clear hs hlc
  have l4 : ¬ (4000 : Int) < (l.length : Int) := by omega
  go_enter Tryd.func10, Tryd.ntmps10
  go_wp2_with fail
  refine (CW.out _ [] _ _ (Grew.refl _) (Dg.Bw.nil _ _) (len_ok LO.out) (by decide)).mono ?_
  rintro e w1 ⟨v1, rfl, OW1', G1⟩
  have OW1 := Lib.hid OW1'
  clear OW1'
  go_wp2_with fail
  go_loopw [4, 15] (fun s i wr => ∃ k : Nat, k ≤ l.length ∧ i = .int .i64 k ∧ Grew w wr ∧ Hid (Dg.Bw w.heap.size wr s (ib (l.length : Int) ++ il (l.take k)))) (fun _ i _ => l.length - (intOf i).toNat)
  case atStart => exact ⟨0, Nat.zero_le _, rfl, G1, Lib.hid (by rw [List.take_zero, il_nil, List.append_nil]; exact OW1.out)⟩
  case round =>
    obtain ⟨k, hk, rfl, G, OW⟩ := hrel
    by_cases hlt : k < l.length
    · obtain ⟨b, o, rfl, hb, hc⟩ := (HS.out.grew G).row (Nat.lt_of_le_of_lt (Nat.zero_le _) hlt)
      have q0 := hc k hlt
      clear hc
      have i0 : (0 : Int) ≤ (k : Int) := by omega
      have i1 : (k : Int) < (l.length : Int) := by omega
      have NX := Lib.hid (il_next hlt)
      go_wp2_with fail
      refine (CW.out _ _ _ _ G OW.out (HS.out.i64 hlt) (by have := LP.out k; omega)).mono ?_
      rintro e w3 ⟨v3, rfl, OW3', G3⟩
      have OW3 := Lib.hid OW3'
      clear OW3'
      go_wp2_with fail
      go_roundw
      case rel => exact ⟨k + 1, by omega, by go_num, Below.trans G G3, Lib.hid (by rw [NX.out, ← List.append_assoc]; exact OW3.out)⟩
      case measure => simp [intOf]; omega
    · obtain rfl : k = l.length := by omega
      go_wp2_with fail
      go_ret2
      exact ⟨_, rfl, by have := OW.out; rwa [List.take_length] at this, G⟩
set_option maxHeartbeats 4000000 in
theorem c_put_long (l : List Int) (v : Value) (w : World) (hs : Is w v l) (hl : 4000 < l.length) : Calls Tryd.prog 10 #[v] w fun e w' => e = .returned (.tuple #[.slice none 0 0, .int .i64 2]) ∧ Grew w w' := by
  obtain ⟨a, c, rfl, _⟩ := hs.shape
  have l4 : (4000 : Int) < (l.length : Int) := by omega
  go_enter Tryd.func10, Tryd.ntmps10
  go_wp2_with fail
  go_ret2
  exact ⟨rfl, Grew.refl _⟩
end Co
end Go.Proofs.YtljmdpjjieoedaaDoor
