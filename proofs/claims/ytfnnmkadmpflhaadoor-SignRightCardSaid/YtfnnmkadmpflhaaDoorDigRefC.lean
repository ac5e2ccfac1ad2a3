/-
  The reference functions of layer 5: the bytes of a digest and of integers; Next and Sum.
-/
import Derived.Test.YtfnnmkadmpflhaaDoorDigRefB
namespace Go.Proofs.YtfnnmkadmpflhaaDoor
open Go.RowKit Wd
namespace Dg
set_option maxRecDepth 100000

theorem rdec_zero (w : World) : Calls Tryd.prog 43 #[.int .i64 0] w fun e w' => e = .returned (.string ⟨(Lib.itoa 0).toArray⟩) ∧ Grew w w' := by
  rw [show Lib.itoa 0 = [48] from by unfold Lib.itoa; rw [if_neg (by decide)]; exact Lib.decDigits_one (by decide)]
  go_enter Tryd.func43, Tryd.ntmps43
  go_wp2_with fail
  go_ret
  exact ⟨rfl, Grew.refl _⟩
theorem rdec (n : Int) (w : World) (h0 : -9223372036854775808 ≤ n) (h1 : n ≤ 9223372036854775807) : Calls Tryd.prog 43 #[.int .i64 n] w fun e w' => e = .returned (.string ⟨(Lib.itoa n).toArray⟩) ∧ Grew w w' := by
  rcases Int.lt_trichotomy n 0 with h | h | h
  · obtain ⟨a, rfl⟩ : ∃ a : Nat, n = -(a : Int) := ⟨n.natAbs, by omega⟩
    exact rdec_neg a w (by omega) (by omega)
  · subst h
    exact rdec_zero w
  · obtain ⟨a, rfl⟩ : ∃ a : Nat, n = (a : Int) := ⟨n.natAbs, by omega⟩
    exact rdec_pos a w (by omega) (by omega)
/-- A slice of integers that reads as l. -/
def Is (w : World) (v : Value) (l : List Int) : Prop := (∃ a c, v = .slice a l.length c ∧ (l.length = 0 ∨ ∃ b o, a = some ⟨b, o, none⟩ ∧ b < w.heap.size ∧ ∀ i (h : i < l.length), w.cell? ⟨b, o + i, none⟩ = some (.int .i64 l[i]))) ∧ ∀ i (h : i < l.length), -9223372036854775808 ≤ l[i] ∧ l[i] ≤ 9223372036854775807
theorem Is.grew {W w : World} {v : Value} {l : List Int} (h : Is W v l) (g : Grew W w) : Is w v l := by
  obtain ⟨⟨a, c, rfl, h1⟩, h2⟩ := h
  refine ⟨⟨a, c, rfl, ?_⟩, h2⟩
  rcases h1 with h1 | ⟨b, o, rfl, hb, hc⟩
  · exact Or.inl h1
  · exact Or.inr ⟨b, o, rfl, Nat.lt_of_lt_of_le hb g.size, fun i hi => by rw [g.cell hb]; exact hc i hi⟩
theorem Is.at {w : World} {a : Option Addr} {n c : Nat} {l : List Int} (h : Is w (.slice a n c) l) {i : Nat} (hi : i < l.length) : ∃ b o, a = some ⟨b, o, none⟩ ∧ b < w.heap.size ∧ w.cell? ⟨b, o + i, none⟩ = some (.int .i64 l[i]) := by
  obtain ⟨⟨a', c', e, h1⟩, _⟩ := h
  injection e with e1 e2 e3
  subst e1
  rcases h1 with h1 | ⟨b, o, rfl, hb, hc⟩
  · omega
  · exact ⟨b, o, rfl, hb, hc i hi⟩
theorem Is.shape {w : World} {v : Value} {l : List Int} (h : Is w v l) : ∃ a c, v = .slice a l.length c := by
  obtain ⟨⟨a, c, e, _⟩, _⟩ := h
  exact ⟨a, c, e⟩
theorem by8_val (d : BitVec 64) (k : Nat) : ((by8 d k).toNat : Int) = dv d / 2 ^ (56 - 8 * k) % 256 := by
  unfold by8 dv
  rw [UInt8.toNat_ofBitVec, BitVec.toNat_setWidth, BitVec.toNat_ushiftRight, Nat.shiftRight_eq_div_pow]
  rw [Int.natCast_emod, Int.natCast_ediv, Int.natCast_pow]
  rfl
theorem range_snoc (d : BitVec 64) (k : Nat) : (List.range (k + 1)).map (by8 d) = (List.range k).map (by8 d) ++ [by8 d k] := by rw [List.range_succ, List.map_append]; rfl
theorem ints_next {l : List Int} {k : Nat} (h : k < l.length) : ints (l.take (k + 1)) = (ints (l.take k) ++ Lib.itoa l[k]) ++ [32] := by rw [List.take_succ_eq_append_getElem h, ints_snoc, List.append_assoc]
theorem itoa_len {n : Int} (h : -9223372036854775808 ≤ n ∧ n ≤ 9223372036854775807) : (Lib.itoa n).length ≤ 21 := Lib.itoa_length_le n h.1 h.2
theorem ints_len : ∀ (l : List Int), (∀ i (h : i < l.length), -9223372036854775808 ≤ l[i] ∧ l[i] ≤ 9223372036854775807) → (ints l).length ≤ 22 * l.length
  | [], _ => by rw [ints_nil]; exact Nat.le_refl _
  | n :: l, h => by
    have h0 := itoa_len (h 0 (by simp))
    have h1 := ints_len l (fun i hi => h (i + 1) (by simpa using hi))
    rw [ints_cons, List.length_append, List.length_cons, List.length_cons]
    simp only [List.getElem_cons_zero] at h0
    omega
theorem head8_len (d : BitVec 64) : (head8 d).length = 8 := by unfold head8; rw [List.length_map, List.length_range]
theorem bs_len (d : BitVec 64) (l : List Int) (h : ∀ i (h : i < l.length), -9223372036854775808 ≤ l[i] ∧ l[i] ≤ 9223372036854775807) : (bs d l).length ≤ 8 + 22 * l.length := by
  have := ints_len l h
  unfold bs
  rw [List.length_append, head8_len]
  omega
theorem take_ok {l : List Int} (h : ∀ i (h : i < l.length), -9223372036854775808 ≤ l[i] ∧ l[i] ≤ 9223372036854775807) (k : Nat) : ∀ i (h : i < (l.take k).length), -9223372036854775808 ≤ (l.take k)[i] ∧ (l.take k)[i] ≤ 9223372036854775807 := fun i hi => by
  rw [List.getElem_take]
  exact h i _
def BySays (d : BitVec 64) (l : List Int) (w : World) (e : Ending) (w' : World) : Prop := ∃ v, e = .returned v ∧ Bw w.heap.size w' v (bs d l) ∧ Grew w w'
set_option maxHeartbeats 4000000 in
theorem rbytes (d : BitVec 64) (l : List Int) (v : Value) (w : World) (hs : Is w v l) (hl : l.length ≤ 1000000) : Calls Tryd.prog 39 #[.int .u64 (dv d), v] w (BySays d l w) := by
  obtain ⟨sa, sc, rfl⟩ := hs.shape
  have HS := Lib.hid hs
  have HL := Lib.hid hl
  clear hs
  go_enter Tryd.func39, Tryd.ntmps39
  go_wp2_with fail
  go_loopw [5, 6] (fun u i wr => ∃ k : Nat, k ≤ 8 ∧ i = .int .i64 k ∧ Grew w wr ∧ Hid (Bw w.heap.size wr u ((List.range k).map (by8 d)))) (fun _ i _ => 8 - (intOf i).toNat)
  case atStart => exact ⟨0, by omega, rfl, Grew.refl _, Lib.hid (Bw.nil _ _)⟩
  case round =>
    obtain ⟨k, hk, rfl, G, OW⟩ := hrel
    by_cases hlt : k < 8
    · have s0 : (0 : Int) ≤ 56 - 8 * (k : Int) := by omega
      have s1 : 56 - 8 * (k : Int) ≤ 64 := by omega
      have BT := Lib.hid (by8_val d k)
      have RS := Lib.hid (range_snoc d k)
      go_wp2_with (at_builtin; go_must (refine wpl_byte _ rfl _ _ rfl w.heap.size _ ((List.range k).map (by8 d)) _ 1 (by8 d k) rfl (Bw.alloc OW.out _) rfl (by rw [BT.out]; simp [go_sem]) (by rw [List.length_map, List.length_range]; omega) (by have := G.size; simp; omega) ?_; intro v' w' own' gr'; have GG2 := Lib.hid (Grew.grown (G.alloc _ _) gr' (fun k hk => (Bw.lt OW.out k hk).1)); have OW2 := Lib.hid own'; clear own' gr'))
      go_roundw
      case rel => exact ⟨k + 1, by omega, by go_num, GG2.out, Lib.hid (by rw [RS.out]; exact OW2.out)⟩
      case measure => simp [intOf]; omega
    · have K8 : Hid (k = 8) := Lib.hid (by omega)
      go_wp2_with fail
      obtain ⟨V, hV⟩ : ∃ V, V = wr := ⟨wr, rfl⟩
      obtain ⟨o0, ho⟩ : ∃ o, o = u5 := ⟨u5, rfl⟩
      rw [← hV, ← ho] at OW
      rw [← hV] at G
      rw [← hV, ← ho]
      clear hV ho
      go_loopw [5, 7] (fun u i wr => ∃ k : Nat, k ≤ l.length ∧ i = .int .i64 k ∧ Grew w wr ∧ Hid (Bw w.heap.size wr u (bs d (l.take k)))) (fun _ i _ => l.length - (intOf i).toNat)
      case atStart => exact ⟨0, by omega, rfl, G, Lib.hid (by unfold bs; rw [List.take_zero, ints_nil, List.append_nil]; have := OW.out; rw [K8.out] at this; exact this)⟩
      case round =>
        obtain ⟨j, hj, rfl, G2, OW2⟩ := hrel
        by_cases hlt : j < l.length
        · obtain ⟨b, o, rfl, hb, q0⟩ := (HS.out.grew G2).at hlt
          have i0 : (0 : Int) ≤ (j : Int) := by omega
          have i1 : (j : Int) < (l.length : Int) := by omega
          have DC := Lib.hid (fun W => rdec l[j] W (HS.out.2 j hlt).1 (HS.out.2 j hlt).2)
          have LL : Hid ((bs d (l.take j)).length + (Lib.itoa l[j]).length ≤ 22000100) := Lib.hid (by
            have h1 := bs_len d (l.take j) (take_ok HS.out.2 j)
            have h2 := itoa_len (HS.out.2 j hlt)
            have h3 := HL.out
            rw [List.length_take] at h1
            omega)
          have NX := Lib.hid (ints_next hlt)
          go_wp2_with fail
          refine (DC.out _).mono ?_
          rintro e w3 ⟨rfl, g3⟩
          have G3 : Grew w w3 := Grew.trans G2 g3
          have OW3 := Lib.hid (OW2.out.grew g3)
          clear g3 q0 hb
          go_wp2_with (at_builtin; first | (refine wpl_text _ rfl _ _ rfl w.heap.size _ (bs d (l.take j)) (Lib.itoa l[j]) rfl OW3.out rfl (by have := LL.out; omega) (by have := G3.size; omega) ?_; intro v' w' own' gr'; have GG4 := Lib.hid (Grew.grown G3 gr' (fun k hk => (Bw.lt OW3.out k hk).1)); have OW4 := Lib.hid own'; clear own' gr') | (refine wpl_byte _ rfl _ _ rfl w.heap.size _ (bs d (l.take j) ++ Lib.itoa l[j]) _ 1 32 rfl (Bw.alloc OW4.out _) rfl (by simp [go_sem]) (by rw [List.length_append]; have := LL.out; omega) (by have := GG4.out.size; simp; omega) ?_; intro v' w' own' gr'; have GG5 := Lib.hid (Grew.grown (GG4.out.alloc _ _) gr' (fun k hk => (Bw.lt OW4.out k hk).1)); have OW5 := Lib.hid own'; clear own' gr'))
          go_roundw
          case rel => exact ⟨j + 1, by omega, by go_num, GG5.out, Lib.hid (by have e : bs d (l.take (j + 1)) = bs d (l.take j) ++ Lib.itoa l[j] ++ [32] := (by unfold bs; rw [NX.out, List.append_assoc, List.append_assoc, List.append_assoc]); rw [e]; exact OW5.out)⟩
          case measure => simp [intOf]; omega
        · obtain rfl : j = l.length := by omega
          go_wp2_with fail
          go_ret
          exact ⟨_, rfl, by have := OW2.out; rwa [List.take_length] at this, G2⟩
set_option maxHeartbeats 4000000 in
theorem rnext (d : BitVec 64) (l : List Int) (v : Value) (w : World) (hs : Is w v l) (hl : l.length ≤ 1000000) : Calls Tryd.prog 36 #[.int .u64 (dv d), v] w fun e w' => e = .returned (.int .u64 (dv (nx d l))) ∧ Grew w w' := by
  have BY := Lib.hid (rbytes d l v w hs hl)
  have LB : Hid ((bs d l).length ≤ 22000008) := Lib.hid (by have := bs_len d l hs.2; omega)
  clear hs hl
  go_enter Tryd.func36, Tryd.ntmps36
  go_wp2_with fail
  refine (BY.out).mono ?_
  rintro e w1 ⟨u, rfl, OW, g1⟩
  have CV := conv_text OW
  have TX := Lib.hid (fun W => rtext ⟨(bs d l).toArray⟩ W (by show (bs d l).toArray.size ≤ _; have := LB.out; simp; omega))
  clear OW
  go_wp2_with fail
  refine (TX.out _).mono ?_
  rintro e w2 ⟨rfl, g2⟩
  go_wp2_with fail
  go_ret
  exact ⟨rfl, Grew.trans g1 g2⟩
set_option maxHeartbeats 4000000 in
theorem rsum (l : List Int) (v : Value) (w : World) (hs : Is w v l) (hl : l.length ≤ 1000000) : Calls Tryd.prog 33 #[v] w fun e w' => e = .returned (.int .u64 (dv (nx f0 l))) ∧ Grew w w' := by
  have NX := Lib.hid (fun W (g : Grew w W) => rnext f0 l v W (hs.grew g) hl)
  have TX := Lib.hid (rtext ⟨#[]⟩ w (by decide))
  clear hs hl
  go_enter Tryd.func33, Tryd.ntmps33
  go_wp2_with fail
  refine (TX.out).mono ?_
  rintro e w1 ⟨rfl, g1⟩
  have NX1 := Lib.hid (NX.out w1 g1)
  go_wp2_with fail
  refine (NX1.out).mono ?_
  rintro e w2 ⟨rfl, g2⟩
  go_wp2_with fail
  go_ret
  exact ⟨rfl, Grew.trans g1 g2⟩
end Dg
end Go.Proofs.YtfnnmkadmpflhaaDoor
