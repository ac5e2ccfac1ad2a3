/-
  The reference functions of layer 5: the text of an integer.
-/
import Derived.Test.YtfnnmkadmpflhaaDoorDigRefA
import Derived.Test.YtfnnmkadmpflhaaDoorDigOwn
namespace Go.Proofs.YtfnnmkadmpflhaaDoor
open Go.RowKit Wd
namespace Dg
set_option maxRecDepth 100000

theorem pre_pos {a : Nat} (h : 0 < a) : pre a = Lib.decDigits a := by unfold pre; rw [if_neg (by omega)]
theorem pre_step {q : Nat} (h : 0 < q) : pre q = pre (q / 10) ++ [UInt8.ofNat (48 + q % 10)] := by
  rw [pre_pos h, Lib.decDigits]
  unfold pre
  split
  · rw [if_pos (by omega), Nat.mod_eq_of_lt (by omega)]; rfl
  · rw [if_neg (by omega)]
theorem dec_ne (a : Nat) : (Lib.decDigits a).length ≠ 0 := by
  rw [Lib.decDigits]
  split <;> simp
theorem rev_take {l : List UInt8} {t k : Nat} (h : t + 1 + k = l.length) : l.reverse.take (k + 1) = l.reverse.take k ++ [l[t]'(by omega)] := by
  rw [List.take_succ_eq_append_getElem (by rw [List.length_reverse]; omega), List.getElem_reverse]
  congr 3
  omega
theorem snoc_len {m l : List UInt8} {b : UInt8} (h : m = l ++ [b]) : 0 < m.length ∧ (l.length ≤ 21 → m.length ≤ 22) := by
  rw [h, List.length_append, List.length_singleton]
  omega
theorem snoc_neg {m l : List UInt8} {a : Nat} {n : Int} (h : m = l ++ [45]) (h1 : l.reverse = Lib.decDigits a) (h2 : n = -(a : Int)) (h3 : 0 < a) : m.reverse = Lib.itoa n := by
  rw [h, List.reverse_append, h1, h2, Lib.itoa_neg a (by omega)]
  rfl
theorem dig_len (a : Nat) (l k : List UInt8) (h : k ++ l.reverse = Lib.decDigits a) (h1 : a ≤ 9223372036854775808) : l.length ≤ 21 := by
  have e : (Lib.decDigits a).length ≤ 21 := by
    by_cases h0 : a = 0
    · subst h0; rw [Lib.decDigits_one (by decide)]; decide
    · have := Lib.itoa_length_le (-(a : Int)) (by omega) (by omega)
      rw [Lib.itoa_neg a (by omega), List.length_cons] at this
      omega
  rw [← h, List.length_append, List.length_reverse] at e
  omega

set_option maxHeartbeats 4000000 in
theorem rdec_pos (a : Nat) (w : World) (h0 : 0 < a) (h1 : a ≤ 9223372036854775807) : Calls Tryd.prog 43 #[.int .i64 ((a : Int))] w fun e w' => e = .returned (.string ⟨(Lib.itoa ((a : Int))).toArray⟩) ∧ Grew w w' := by
  obtain ⟨n, hn⟩ : ∃ n : Int, n = (a : Int) := ⟨_, rfl⟩
  have hn0 : 0 < n := by omega
  have hb : (n == 0) = false := by rw [beq_eq_false_iff_ne]; omega
  have LN := Lib.hid (dig_len a)
  have AH := Lib.hid (show 0 < a ∧ a ≤ 9223372036854775808 from ⟨h0, by omega⟩)
  have EN := Lib.hid hn
  rw [← hn]
  clear hn h0 h1
  go_enter Tryd.func43, Tryd.ntmps43
  go_wp2_with fail
  go_loopw [3, 4, 5] (fun u m _ wr => ∃ (q : Nat) (l : List UInt8), q ≤ a ∧ m = .int .i64 ((q : Int)) ∧ Grew w wr ∧ Hid (Bw w.heap.size wr u l ∧ pre q ++ l.reverse = Lib.decDigits a)) (fun _ m _ _ => (intOf m).natAbs)
  case atStart => exact ⟨a, [], Nat.le_refl _, by rw [EN.out], Grew.refl _, Lib.hid ⟨Bw.nil _ _, by rw [List.reverse_nil, List.append_nil]; exact pre_pos AH.out.1⟩⟩
  case round =>
    obtain ⟨q, l, hq, rfl, G, OW⟩ := hrel
    by_cases hlt : 0 < q
    · have hq0 : ((q : Int) == 0) = false := by rw [beq_eq_false_iff_ne]; omega
      have hq1 : q ≤ 9223372036854775808 := Nat.le_trans hq AH.out.2
      have d0 : (q : Int) % 10 < 10 := by omega
      have d1 : 0 ≤ (q : Int) % 10 := by omega
      have d2 : ¬ ((q : Int) % 10 < 0) := by omega
      have PS := Lib.hid (pre_step hlt)
      have BT : Hid (((UInt8.ofNat (48 + q % 10)).toNat : Int) = 48 + (q : Int) % 10) := Lib.hid (by rw [UInt8.toNat_ofNat']; omega)
      go_wp2_with (at_builtin; go_must (refine wpl_byte _ rfl _ _ rfl w.heap.size _ l _ 1 (UInt8.ofNat (48 + q % 10)) rfl (Bw.alloc OW.out.1 _) rfl (by rw [BT.out]; simp [go_sem, *]) (by have := LN.out _ _ OW.out.2 AH.out.2; omega) (by have := G.size; simp; omega) ?_; intro v' w' own' gr'; have GG2 := Lib.hid (Grew.grown (G.alloc _ _) gr' (fun k hk => (Bw.lt OW.out.1 k hk).1)); have OW2 := Lib.hid own'; clear own' gr'))
      go_roundw
      case rel => exact ⟨q / 10, l ++ [UInt8.ofNat (48 + q % 10)], by omega, by go_num, GG2.out, Lib.hid ⟨OW2.out, by rw [← OW.out.2, PS.out, List.reverse_append, List.append_assoc]; rfl⟩⟩
      case measure => simp [intOf]; omega
    · obtain rfl : q = 0 := by omega
      have RV : Hid (l.reverse = Lib.decDigits a) := Lib.hid OW.out.2
      have OM := Lib.hid OW.out.1
      have GM := G
      have m0 : 0 < l.length := by have := congrArg List.length RV.out; rw [List.length_reverse] at this; rw [this]; exact Nat.pos_of_ne_zero (dec_ne _)
      have LM : Hid (l.length ≤ 22) := Lib.hid (by have := LN.out _ _ OW.out.2 AH.out.2; omega)
      have n0 : ¬ n < 0 := by omega
      have m1 : (0 : Int) < (l.length : Int) := by omega
      have ml : (l.length : Int) ≤ 22 := by have := LM.out; omega
      obtain ⟨g, c, rfl, gB, glt, gc, CE0⟩ := OM.out.at m0
      have CE := Lib.hid CE0
      clear CE0 m0
      go_wp2_with fail
      obtain ⟨V, hV⟩ : ∃ V, V = wr := ⟨wr, rfl⟩
      rw [← hV] at GM CE glt ⊢
      clear hV
      go_loopw [6, 7] (fun u i wr => ∃ j k : Nat, j + k = l.length ∧ i = .int .i64 ((j : Int) - 1) ∧ Grew V wr ∧ Hid (Bw V.heap.size wr u (l.reverse.take k))) (fun _ i _ => (intOf i + 1).toNat)
      case atStart => exact ⟨l.length, 0, rfl, by go_num, Grew.refl _, Lib.hid (Bw.nil _ _)⟩
      case round =>
        obtain ⟨j, k, hjk, rfl, G2, OW2⟩ := hrel
        by_cases hj : 0 < j
        · obtain ⟨t, rfl⟩ : ∃ t, j = t + 1 := ⟨j - 1, by omega⟩
          have tl : t < l.length := by omega
          have e1 : ((t + 1 : Nat) : Int) - 1 = (t : Int) := by omega
          rw [e1]
          clear e1
          have t0 : (0 : Int) ≤ (t : Int) := by omega
          have t1 : (t : Int) < (l.length : Int) := by omega
          have q0 : wr.cell? ⟨g, t, none⟩ = some (.int .u8 (l[t].toNat : Int)) := by rw [G2.cell glt]; exact CE.out t tl
          have gl : g < wr.heap.size := Nat.lt_of_lt_of_le glt G2.size
          have RT : Hid (l.reverse.take (k + 1) = l.reverse.take k ++ [l[t]]) := Lib.hid (rev_take hjk)
          have KL : Hid ((l.reverse.take k).length ≤ 100) := Lib.hid (by rw [List.length_take, List.length_reverse]; have := LM.out; omega)
          go_wp2_with (at_builtin; go_must (refine wpl_byte _ rfl _ _ rfl V.heap.size _ (l.reverse.take k) _ 1 l[t] rfl (Bw.alloc OW2.out _) rfl (by simp [go_sem]) (by have := KL.out; omega) (by have := G2.size; simp; omega) ?_; intro v' w' own' gr'; have GG3 := Lib.hid (Grew.grown (G2.alloc _ _) gr' (fun k hk => (Bw.lt OW2.out k hk).1)); have OW3 := Lib.hid own'; clear own' gr'))
          go_roundw
          case rel => exact ⟨t, k + 1, by omega, by go_num, GG3.out, Lib.hid (by rw [RT.out]; exact OW3.out)⟩
          case measure => simp [intOf]
        · obtain rfl : j = 0 := by omega
          have CV := Lib.hid (conv_text OW2.out)
          have FL : Hid (l.reverse.take k = Lib.itoa n) := Lib.hid (by rw [show k = l.reverse.length from by rw [List.length_reverse]; omega, List.take_length]; rw [RV.out, EN.out, Lib.itoa_nonneg])
          have CV2 : (convert 59 9 u6).run Tryd.prog wr = .ok (.string ⟨(Lib.itoa n).toArray⟩) wr := by rw [← FL.out]; exact CV.out
          go_wp2_with fail
          go_ret
          exact ⟨rfl, Grew.trans GM G2⟩


set_option maxHeartbeats 4000000 in
theorem rdec_neg (a : Nat) (w : World) (h0 : 0 < a) (h1 : a ≤ 9223372036854775808) : Calls Tryd.prog 43 #[.int .i64 (-(a : Int))] w fun e w' => e = .returned (.string ⟨(Lib.itoa (-(a : Int))).toArray⟩) ∧ Grew w w' := by
  obtain ⟨n, hn⟩ : ∃ n : Int, n = -(a : Int) := ⟨_, rfl⟩
  have hn0 : n < 0 := by omega
  have hb : (n == 0) = false := by rw [beq_eq_false_iff_ne]; omega
  have LN := Lib.hid (dig_len a)
  have AH := Lib.hid (show 0 < a ∧ a ≤ 9223372036854775808 from ⟨h0, by omega⟩)
  have EN := Lib.hid hn
  rw [← hn]
  clear hn h0 h1
  go_enter Tryd.func43, Tryd.ntmps43
  go_wp2_with fail
  go_loopw [3, 4, 5] (fun u m _ wr => ∃ (q : Nat) (l : List UInt8), q ≤ a ∧ m = .int .i64 (-(q : Int)) ∧ Grew w wr ∧ Hid (Bw w.heap.size wr u l ∧ pre q ++ l.reverse = Lib.decDigits a)) (fun _ m _ _ => (intOf m).natAbs)
  case atStart => exact ⟨a, [], Nat.le_refl _, by rw [EN.out], Grew.refl _, Lib.hid ⟨Bw.nil _ _, by rw [List.reverse_nil, List.append_nil]; exact pre_pos AH.out.1⟩⟩
  case round =>
    obtain ⟨q, l, hq, rfl, G, OW⟩ := hrel
    by_cases hlt : 0 < q
    · have hq0 : (-(q : Int) == 0) = false := by rw [beq_eq_false_iff_ne]; omega
      have hq1 : q ≤ 9223372036854775808 := Nat.le_trans hq AH.out.2
      have d0 : (q : Int) % 10 < 10 := by omega
      have d1 : 0 ≤ (q : Int) % 10 := by omega
      have d2 : ¬ ((q : Int) % 10 < 0) := by omega
      have PS := Lib.hid (pre_step hlt)
      have BT : Hid (((UInt8.ofNat (48 + q % 10)).toNat : Int) = 48 + (q : Int) % 10) := Lib.hid (by rw [UInt8.toNat_ofNat']; omega)
      by_cases z : (q : Int) % 10 = 0
      · rw [z] at BT
        go_wp2_with (at_builtin; go_must (refine wpl_byte _ rfl _ _ rfl w.heap.size _ l _ 1 (UInt8.ofNat (48 + q % 10)) rfl (Bw.alloc OW.out.1 _) rfl (by rw [BT.out]; simp [go_sem, *]) (by have := LN.out _ _ OW.out.2 AH.out.2; omega) (by have := G.size; simp; omega) ?_; intro v' w' own' gr'; have GG2 := Lib.hid (Grew.grown (G.alloc _ _) gr' (fun k hk => (Bw.lt OW.out.1 k hk).1)); have OW2 := Lib.hid own'; clear own' gr'))
        go_roundw
        case rel => exact ⟨q / 10, l ++ [UInt8.ofNat (48 + q % 10)], by omega, by go_num, GG2.out, Lib.hid ⟨OW2.out, by rw [← OW.out.2, PS.out, List.reverse_append, List.append_assoc]; rfl⟩⟩
        case measure => simp [intOf]; omega
      · have d3 : 0 < (q : Int) % 10 := by omega
        go_wp2_with (at_builtin; go_must (refine wpl_byte _ rfl _ _ rfl w.heap.size _ l _ 1 (UInt8.ofNat (48 + q % 10)) rfl (Bw.alloc OW.out.1 _) rfl (by rw [BT.out]; simp [go_sem, *]) (by have := LN.out _ _ OW.out.2 AH.out.2; omega) (by have := G.size; simp; omega) ?_; intro v' w' own' gr'; have GG2 := Lib.hid (Grew.grown (G.alloc _ _) gr' (fun k hk => (Bw.lt OW.out.1 k hk).1)); have OW2 := Lib.hid own'; clear own' gr'))
        go_roundw
        case rel => exact ⟨q / 10, l ++ [UInt8.ofNat (48 + q % 10)], by omega, by go_num, GG2.out, Lib.hid ⟨OW2.out, by rw [← OW.out.2, PS.out, List.reverse_append, List.append_assoc]; rfl⟩⟩
        case measure => simp [intOf]; omega
    · obtain rfl : q = 0 := by omega
      have RV : Hid (l.reverse = Lib.decDigits a) := Lib.hid OW.out.2
      go_wp2_with (at_builtin; go_must (refine wpl_byte _ rfl _ _ rfl w.heap.size _ l _ 1 45 rfl (Bw.alloc OW.out.1 _) rfl (by simp [go_sem]) (by have := LN.out _ _ OW.out.2 AH.out.2; omega) (by have := G.size; simp; omega) ?_; intro v' w' own' gr'; have GGm := Lib.hid (Grew.grown (G.alloc _ _) gr' (fun k hk => (Bw.lt OW.out.1 k hk).1)); have OWm := Lib.hid own'; obtain ⟨m, hm⟩ : ∃ m, m = l ++ [45] := ⟨_, rfl⟩; rw [← hm] at own'; have m0 : 0 < m.length := (snoc_len hm).1; have LM : Hid (m.length ≤ 22) := Lib.hid ((snoc_len hm).2 (LN.out _ _ OW.out.2 AH.out.2)); have RM : Hid (m.reverse = Lib.itoa n) := Lib.hid (snoc_neg hm RV.out EN.out AH.out.1); obtain ⟨g, c, rfl, gB, glt, gc, CE0⟩ := Bw.at own' m0; have CE := Lib.hid CE0; have ml : (m.length : Int) ≤ 22 := Int.ofNat_le.2 LM.out; have m1 : (0 : Int) < (m.length : Int) := Int.ofNat_lt.2 m0; have GM := GGm.out; clear CE0 hm m0 OWm; clear own' gr'))
      obtain ⟨V, hV⟩ : ∃ V, V = w' := ⟨w', rfl⟩
      rw [← hV] at GM CE glt ⊢
      clear hV
      go_loopw [6, 7] (fun u i wr => ∃ j k : Nat, j + k = m.length ∧ i = .int .i64 ((j : Int) - 1) ∧ Grew V wr ∧ Hid (Bw V.heap.size wr u (m.reverse.take k))) (fun _ i _ => (intOf i + 1).toNat)
      case atStart => exact ⟨m.length, 0, rfl, by go_num, Grew.refl _, Lib.hid (Bw.nil _ _)⟩
      case round =>
        obtain ⟨j, k, hjk, rfl, G2, OW2⟩ := hrel
        by_cases hj : 0 < j
        · obtain ⟨t, rfl⟩ : ∃ t, j = t + 1 := ⟨j - 1, by omega⟩
          have tl : t < m.length := by omega
          have e1 : ((t + 1 : Nat) : Int) - 1 = (t : Int) := by omega
          rw [e1]
          clear e1
          have t0 : (0 : Int) ≤ (t : Int) := by omega
          have t1 : (t : Int) < (m.length : Int) := by omega
          have q0 : wr.cell? ⟨g, t, none⟩ = some (.int .u8 (m[t].toNat : Int)) := by rw [G2.cell glt]; exact CE.out t tl
          have gl : g < wr.heap.size := Nat.lt_of_lt_of_le glt G2.size
          have RT : Hid (m.reverse.take (k + 1) = m.reverse.take k ++ [m[t]]) := Lib.hid (rev_take hjk)
          have KL : Hid ((m.reverse.take k).length ≤ 100) := Lib.hid (by rw [List.length_take, List.length_reverse]; have := LM.out; omega)
          go_wp2_with (at_builtin; go_must (refine wpl_byte _ rfl _ _ rfl V.heap.size _ (m.reverse.take k) _ 1 m[t] rfl (Bw.alloc OW2.out _) rfl (by simp [go_sem]) (by have := KL.out; omega) (by have := G2.size; simp; omega) ?_; intro v' w' own' gr'; have GG3 := Lib.hid (Grew.grown (G2.alloc _ _) gr' (fun k hk => (Bw.lt OW2.out k hk).1)); have OW3 := Lib.hid own'; clear own' gr'))
          go_roundw
          case rel => exact ⟨t, k + 1, by omega, by go_num, GG3.out, Lib.hid (by rw [RT.out]; exact OW3.out)⟩
          case measure => simp [intOf]
        · obtain rfl : j = 0 := by omega
          have CV := Lib.hid (conv_text OW2.out)
          have FL : Hid (m.reverse.take k = Lib.itoa n) := Lib.hid (by rw [show k = m.reverse.length from by rw [List.length_reverse]; omega, List.take_length]; exact RM.out)
          have CV2 : (convert 59 9 u6).run Tryd.prog wr = .ok (.string ⟨(Lib.itoa n).toArray⟩) wr := by rw [← FL.out]; exact CV.out
          go_wp2_with fail
          go_ret
          exact ⟨rfl, Grew.trans GM G2⟩


end Dg
end Go.Proofs.YtfnnmkadmpflhaaDoor
