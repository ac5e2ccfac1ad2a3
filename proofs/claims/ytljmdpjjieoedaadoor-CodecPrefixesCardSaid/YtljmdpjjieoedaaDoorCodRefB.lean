/-
  The reference functions of layer 8: reading an integer, and a list.
-/
import Derived.Test.YtljmdpjjieoedaaDoorCodRefA
import Derived.Test.YtljmdpjjieoedaaDoorCodC
import Derived.Laws.Bits64b
namespace Go.Proofs.YtljmdpjjieoedaaDoor
open Go.RowKit Wd
namespace Co
set_option maxRecDepth 100000

/-- What read answers. -/
def ReadSays (bs : List UInt8) (w : World) (e : Ending) (w' : World) : Prop :=
  Grew w w' ∧ ((∃ n r, I64 n ∧ bs = ib n ++ r ∧ e = .returned (.tuple #[.int .i64 n, .int .i64 ((ib n).length : Int)])) ∨ (NoI bs ∧ e = .returned (.tuple #[.int .i64 0, .int .i64 0])))
theorem no_long {k r : List UInt8} (h : Hi k) (hk : 10 ≤ k.length) : NoV (k ++ r) := by
  intro u s hu e
  obtain ⟨k', y, h1, _, h3, _⟩ := vb_split u
  have l := vb_ten hu
  rw [h1, List.append_assoc] at e
  have := hi_le h h3 e
  rw [h1, List.length_append, List.length_singleton] at l
  omega
theorem yes_zero {bs : List UInt8} {j A : Nat} {x : UInt8} (h1 : bs = bs.take j ++ x :: bs.drop (j + 1)) (h2 : bs.take (j + 1) = bs.take j ++ [x]) (h3 : A = wv (bs.take (j + 1))) (h4 : (bs.take j).length = j) (h5 : Hi (bs.take j)) (h6 : x.toNat < 128) (h7 : j ≠ 0 → x.toNat ≠ 0) : bs = vb A ++ bs.drop (j + 1) ∧ (vb A).length = j + 1 := by
  have h8 : bs.take j ≠ [] → x.toNat ≠ 0 := fun h => h7 (fun e => h (by rw [e]; rfl))
  have h9 := yes_v (bs.drop (j + 1)) h5 h6 h8
  have h10 := vb_back _ x h5 h6 h8
  rw [h3, h2]
  refine ⟨by rw [← h9]; exact h1, ?_⟩
  rw [h10, List.length_append, h4]
  rfl
theorem or_add {A p j : Nat} (hA : A < 128 ^ j) (h : 128 ^ j * p < 18446744073709551616) (hA2 : A + 128 ^ j * p < 18446744073709551616) : bits .or .u64 (A : Int) ((128 ^ j * p : Nat) : Int) = ((A + 128 ^ j * p : Nat) : Int) := by
  rw [u64_or_nat A (128 ^ j * p) (by omega) h]
  congr 1
  rw [pow_seven] at hA ⊢
  rw [Nat.or_comm, Nat.add_comm, Nat.mul_comm, ← Nat.shiftLeft_eq]
  exact (Nat.shiftLeft_add_eq_or_of_lt hA p).symm
set_option maxHeartbeats 8000000 in
theorem r_read (v : Value) (bs : List UInt8) (w : World) (hx : Bs w v bs) (hl : bs.length ≤ 1000000) : Calls Tryd.prog 29 #[v] w (ReadSays bs w) := by
  obtain ⟨a, c, rfl, hc⟩ := hx.shape
  have BX := Lib.hid hx
  clear hx
  go_enter Tryd.func29, Tryd.ntmps29
  go_wp2_with fail
  go_loopw [4, 5] (fun n s wr => ∃ j : Nat, j ≤ bs.length ∧ j ≤ 9 ∧ s = .int .i64 j ∧ Grew w wr ∧ Hid (Hi (bs.take j)) ∧ n = .int .u64 (wv (bs.take j))) (fun _ s _ => bs.length - (intOf s).toNat)
  case atStart => exact ⟨0, Nat.zero_le _, by omega, rfl, Grew.refl _, Lib.hid (fun x hx => by simp at hx), by simp [wv]⟩
  case round =>
    obtain ⟨j, hj, j9, rfl, G, HI, rfl⟩ := hrel
    by_cases hlt : j < bs.length
    · obtain ⟨b, o, rfl, hb, hcell⟩ := (BX.out.grew G).row (by omega)
      obtain ⟨x, hx0⟩ : ∃ x, x = bs[j] := ⟨_, rfl⟩
      have q0 := hcell j hlt
      rw [← hx0] at q0
      have DA : Hid (bs = bs.take j ++ x :: bs.drop (j + 1)) := Lib.hid (by rw [hx0]; conv => lhs; rw [← List.take_append_drop j bs, List.drop_eq_getElem_cons hlt])
      have TA : Hid (bs.take (j + 1) = bs.take j ++ [x]) := Lib.hid (by rw [List.take_succ_eq_append_getElem hlt, hx0])
      have TL : Hid ((bs.take j).length = j) := Lib.hid (by rw [List.length_take]; omega)
      have XB := x.toNat_lt
      clear hcell
      have i0 : (0 : Int) ≤ (j : Int) := by omega
      have i1 : (j : Int) < (bs.length : Int) := by omega
      have i2 : (j : Int) < 10 := by omega
      by_cases c9 : j = 9 ∧ 1 < x.toNat
      · have k9 : ((j : Int) == 9) = true := by rw [beq_iff_eq]; omega
        have k1 : (1 : Int) < (x.toNat : Int) := by omega
        have NI : Hid (NoI bs) := Lib.hid (no_i_of (by
          rw [DA.out]
          by_cases c2 : x.toNat < 128
          · refine no_unfit HI.out ?_
            rw [TL.out, c9.1]
            omega
          · have := no_long (k := bs.take j ++ [x]) (r := bs.drop (j + 1)) (fun y hy => by
              rcases List.mem_append.1 hy with hy | hy
              · exact HI.out y hy
              · rw [List.mem_singleton.1 hy]; omega) (by rw [List.length_append, TL.out, List.length_singleton]; omega)
            rwa [List.append_assoc, List.singleton_append] at this))
        clear c9 hx0 XB
        go_wp2_with fail
        go_ret2
        exact ⟨G, Or.inr ⟨NI.out, rfl⟩⟩
      · obtain ⟨pt, hpt0⟩ : ∃ pt : Nat, pt = x.toNat % 128 := ⟨_, rfl⟩
        have P0 : (x.toNat : Int) % 128 = (pt : Int) := by omega
        have p1 : (pt : Int) < 128 := by omega
        have FT : 128 ^ j * pt < 18446744073709551616 := by
          by_cases e9 : j = 9
          · have : ¬ 1 < x.toNat := fun h => c9 ⟨e9, h⟩
            rw [e9]
            omega
          · have h8 : 128 ^ j ≤ 128 ^ 8 := Nat.pow_le_pow_right (by decide) (by omega)
            have : 128 ^ j * pt ≤ 128 ^ 8 * 127 := Nat.mul_le_mul h8 (by omega)
            omega
        obtain ⟨N, hN⟩ : ∃ N : Nat, N = 128 ^ j * pt := ⟨_, rfl⟩
        obtain ⟨A, hA⟩ : ∃ A : Nat, A = wv (bs.take j) := ⟨_, rfl⟩
        obtain ⟨A2, hA2⟩ : ∃ A2 : Nat, A2 = wv (bs.take (j + 1)) := ⟨_, rfl⟩
        have AL : A < 128 ^ j := by have := wv_lt (bs.take j); rw [TL.out, ← hA] at this; exact this
        have A64 : A < 18446744073709551616 := Nat.lt_of_lt_of_le AL (by
          have : 128 ^ j ≤ 128 ^ 9 := Nat.pow_le_pow_right (by decide) j9
          omega)
        have F2 : A2 < 18446744073709551616 := by
          rw [hA2, TA.out]
          refine fits (by rw [← hA]; exact A64) ?_
          rw [TL.out, ← hpt0]
          exact FT
        have AS : A2 = A + N := by rw [hA2, TA.out, wv_snoc, TL.out, ← hpt0, ← hA, hN]
        have SH : IntKind.u64.wrap ((pt : Int) * 2 ^ min (7 * j) 64) = (N : Int) := by
          have := shl_eq (p := pt) (j := j) (by omega)
          rw [show (7 * (j : Int)).toNat = 7 * j from by omega, Nat.mod_eq_of_lt FT] at this
          rw [IntKind.wrap_u64, this, hN]
        have SH2 : IntKind.u64.wrap ((pt : Int) * 2 ^ (7 * j)) = (N : Int) := by rw [Nat.min_eq_left (by omega)] at SH; exact SH
        have OR : bits .or .u64 (A : Int) (N : Int) = (A2 : Int) := by
          rw [AS, hN]
          exact or_add AL FT (by rw [← hN, ← AS]; exact F2)
        have XP : Hid (pt = x.toNat % 128) := Lib.hid hpt0
        have HA2 := Lib.hid hA2
        have FF := Lib.hid F2
        rw [← hA]
        clear hN hpt0 FT AL A64 AS hA hA2 F2 hx0 SH
        by_cases j9' : j = 9
        · have k9 : ((j : Int) == 9) = true := by rw [beq_iff_eq]; omega
          have k1 : ¬ (1 : Int) < (x.toNat : Int) := by omega
          have k2 : ¬ (128 : Int) ≤ (x.toNat : Int) := by omega
          have k3 : (0 : Int) < (j : Int) := by omega
          by_cases c5 : x.toNat = 0
          · have k4 : ((x.toNat : Int) == 0) = true := by rw [beq_iff_eq]; omega
            have NI : Hid (NoI bs) := Lib.hid (no_i_of (by rw [DA.out]; exact no_zero HI.out (fun h => by have := TL.out; rw [h] at this; simp at this; omega) c5))
            clear c5 j9' c9 XB
            go_wp2_with fail
            go_ret2
            exact ⟨G, Or.inr ⟨NI.out, rfl⟩⟩
          · have k4 : ((x.toNat : Int) == 0) = false := by rw [beq_eq_false_iff_ne]; omega
            have YV : Hid (bs = vb A2 ++ bs.drop (j + 1) ∧ (vb A2).length = j + 1) := Lib.hid (yes_zero DA.out TA.out HA2.out TL.out HI.out (by omega) (fun _ => c5))
            by_cases ev : A2 % 2 = 1
            · have UB : Hid (unum A2 = -((A2 : Int) / 2) - 1) := Lib.hid (by unfold unum; rw [if_pos ev]; omega)
              have t0 : ((A2 : Int) % 2 == 1) = true := by rw [beq_iff_eq]; omega
              have t1 := FF.out
              clear ev c5 j9' c9 XB
              go_wp2_with fail
              go_ret2
              exact ⟨G, Or.inl ⟨unum A2, _, unum_ok FF.out, by rw [ib, num_unum]; exact YV.out.1, by rw [ib, num_unum, YV.out.2, UB.out]; rfl⟩⟩
            · have UB : Hid (unum A2 = (A2 : Int) / 2) := Lib.hid (by unfold unum; rw [if_neg ev]; omega)
              have t0 : ((A2 : Int) % 2 == 1) = false := by rw [beq_eq_false_iff_ne]; omega
              have t1 := FF.out
              clear ev c5 j9' c9 XB
              go_wp2_with fail
              go_ret2
              exact ⟨G, Or.inl ⟨unum A2, _, unum_ok FF.out, by rw [ib, num_unum]; exact YV.out.1, by rw [ib, num_unum, YV.out.2, UB.out]; rfl⟩⟩
        · have k9 : ((j : Int) == 9) = false := by rw [beq_eq_false_iff_ne]; omega
          by_cases c2 : 128 ≤ x.toNat
          · have k2 : (128 : Int) ≤ (x.toNat : Int) := by omega
            have HI2 : Hid (Hi (bs.take (j + 1))) := Lib.hid (by
              rw [TA.out]
              intro y hy
              rcases List.mem_append.1 hy with hy | hy
              · exact HI.out y hy
              · rw [List.mem_singleton.1 hy]; omega)
            clear c2 c9 XB
            go_wp2_with fail
            go_roundw
            case rel => exact ⟨j + 1, by omega, by omega, by go_num, G, HI2, by rw [HA2.out]⟩
            case measure => simp [intOf]; omega
          · have k2 : ¬ (128 : Int) ≤ (x.toNat : Int) := by omega
            by_cases c4 : 0 < j
            · have k3 : (0 : Int) < (j : Int) := by omega
              by_cases c5 : x.toNat = 0
              · have k4 : ((x.toNat : Int) == 0) = true := by rw [beq_iff_eq]; omega
                have NI : Hid (NoI bs) := Lib.hid (no_i_of (by rw [DA.out]; exact no_zero HI.out (fun h => by have := TL.out; rw [h] at this; simp at this; omega) c5))
                clear c5 c4 c2 j9' c9 XB
                go_wp2_with fail
                go_ret2
                exact ⟨G, Or.inr ⟨NI.out, rfl⟩⟩
              · have k4 : ((x.toNat : Int) == 0) = false := by rw [beq_eq_false_iff_ne]; omega
                have YV : Hid (bs = vb A2 ++ bs.drop (j + 1) ∧ (vb A2).length = j + 1) := Lib.hid (yes_zero DA.out TA.out HA2.out TL.out HI.out (by omega) (fun _ => c5))
                by_cases ev : A2 % 2 = 1
                · have UB : Hid (unum A2 = -((A2 : Int) / 2) - 1) := Lib.hid (by unfold unum; rw [if_pos ev]; omega)
                  have t0 : ((A2 : Int) % 2 == 1) = true := by rw [beq_iff_eq]; omega
                  have t1 := FF.out
                  clear ev c5 c4 c2 j9' c9 XB
                  go_wp2_with fail
                  go_ret2
                  exact ⟨G, Or.inl ⟨unum A2, _, unum_ok FF.out, by rw [ib, num_unum]; exact YV.out.1, by rw [ib, num_unum, YV.out.2, UB.out]; rfl⟩⟩
                · have UB : Hid (unum A2 = (A2 : Int) / 2) := Lib.hid (by unfold unum; rw [if_neg ev]; omega)
                  have t0 : ((A2 : Int) % 2 == 1) = false := by rw [beq_eq_false_iff_ne]; omega
                  have t1 := FF.out
                  clear ev c5 c4 c2 j9' c9 XB
                  go_wp2_with fail
                  go_ret2
                  exact ⟨G, Or.inl ⟨unum A2, _, unum_ok FF.out, by rw [ib, num_unum]; exact YV.out.1, by rw [ib, num_unum, YV.out.2, UB.out]; rfl⟩⟩
            · have k3 : ¬ (0 : Int) < (j : Int) := by omega
              have YV : Hid (bs = vb A2 ++ bs.drop (j + 1) ∧ (vb A2).length = j + 1) := Lib.hid (yes_zero DA.out TA.out HA2.out TL.out HI.out (by omega) (fun h => absurd (Nat.pos_of_ne_zero h) c4))
              by_cases ev : A2 % 2 = 1
              · have UB : Hid (unum A2 = -((A2 : Int) / 2) - 1) := Lib.hid (by unfold unum; rw [if_pos ev]; omega)
                have t0 : ((A2 : Int) % 2 == 1) = true := by rw [beq_iff_eq]; omega
                have t1 := FF.out
                clear ev c4 c2 j9' c9 XB
                go_wp2_with fail
                go_ret2
                exact ⟨G, Or.inl ⟨unum A2, _, unum_ok FF.out, by rw [ib, num_unum]; exact YV.out.1, by rw [ib, num_unum, YV.out.2, UB.out]; rfl⟩⟩
              · have UB : Hid (unum A2 = (A2 : Int) / 2) := Lib.hid (by unfold unum; rw [if_neg ev]; omega)
                have t0 : ((A2 : Int) % 2 == 1) = false := by rw [beq_eq_false_iff_ne]; omega
                have t1 := FF.out
                clear ev c4 c2 j9' c9 XB
                go_wp2_with fail
                go_ret2
                exact ⟨G, Or.inl ⟨unum A2, _, unum_ok FF.out, by rw [ib, num_unum]; exact YV.out.1, by rw [ib, num_unum, YV.out.2, UB.out]; rfl⟩⟩
    · obtain rfl : j = bs.length := by omega
      have NI : Hid (NoI bs) := Lib.hid (no_i_of (no_end (by have := HI.out; rwa [List.take_length] at this)))
      go_wp2_with fail
      go_ret2
      exact ⟨G, Or.inr ⟨NI.out, rfl⟩⟩
theorem next_i {bs : List UInt8} {N : Int} {ks : List Int} {p q : Nat} {y : Int} {r : List UInt8} (h1 : bs = ib N ++ (il ks ++ bs.drop p)) (h2 : bs.drop p = ib y ++ r) (h3 : q = (ib y).length) (h4 : p ≤ bs.length) : p + q ≤ bs.length ∧ bs = ib N ++ (il (ks ++ [y]) ++ bs.drop (p + q)) := by
  have e : bs.drop (p + q) = r := by rw [← List.drop_drop, h2, h3, List.drop_left]
  refine ⟨?_, ?_⟩
  · have := congrArg List.length h2
    rw [List.length_drop, List.length_append] at this
    omega
  · rw [e, il_snoc, List.append_assoc, ← h2]
    exact h1
set_option maxHeartbeats 8000000 in
theorem r_get (v : Value) (bs : List UInt8) (w : World) (hx : Bs w v bs) (hl : bs.length ≤ 1000000) : Calls Tryd.prog 16 #[v] w (GetSays bs w) := by
  have RE := Lib.hid (fun u cs W hx hl => r_read u cs W hx hl)
  have RE0 := Lib.hid (r_read v bs w hx hl)
  obtain ⟨a, c, rfl, hc⟩ := hx.shape
  have BX := Lib.hid hx
  clear hx
  go_enter Tryd.func16, Tryd.ntmps16
  go_wp2_with fail
  refine (RE0.out).mono ?_
  rintro e w1 ⟨g1, ⟨n, r, ho, hb, rfl⟩ | ⟨ni, rfl⟩⟩
  · have HB := Lib.hid hb
    have i0 : -9223372036854775808 ≤ n := ho.1
    have i1 : n ≤ 9223372036854775807 := ho.2
    obtain ⟨m, hm0⟩ : ∃ m, m = (ib n).length := ⟨_, rfl⟩
    have HM := Lib.hid hm0
    rw [← hm0]
    have m0 : 1 ≤ m := by rw [hm0]; exact ib_pos n
    have mz : ((m : Int) == 0) = false := by rw [beq_eq_false_iff_ne]; omega
    clear hb ho hm0
    by_cases c1 : n < 0
    · have NL : Hid (NoL bs) := Lib.hid (by rw [HB.out]; exact no_range (Or.inl c1))
      go_wp2_with fail
      go_ret2
      exact ⟨g1, Or.inr ⟨NL.out, rfl⟩⟩
    · by_cases c2 : 4000 < n
      · have NL : Hid (NoL bs) := Lib.hid (by rw [HB.out]; exact no_range (Or.inr c2))
        go_wp2_with fail
        go_ret2
        exact ⟨g1, Or.inr ⟨NL.out, rfl⟩⟩
      · obtain ⟨N, rfl⟩ : ∃ N : Nat, n = (N : Int) := ⟨n.toNat, by omega⟩
        have c1' : ¬ (N : Int) < 0 := by omega
        have c2' : ¬ (4000 : Int) < (N : Int) := by omega
        have N4 : N ≤ 4000 := by omega
        have ML : m ≤ bs.length := by have := congrArg List.length HB.out; rw [List.length_append, ← HM.out] at this; omega
        have P0 : Hid (bs = ib (N : Int) ++ (il [] ++ bs.drop m)) := Lib.hid (by
          rw [il_nil, List.nil_append]
          have h := HB.out
          have e : bs.drop m = r := by rw [h, HM.out, List.drop_left]
          rw [e]
          exact h)
        clear c1 c2 i0 i1 RE0
        go_wp2_with fail
        go_loopw [5, 6, 7] (fun s o i wr => ∃ (ks : List Int) (p : Nat), s = .int .i64 p ∧ i = .int .i64 ks.length ∧ ks.length ≤ N ∧ p ≤ bs.length ∧ Grew w wr ∧ Hid (Oki ks ∧ bs = ib (N : Int) ++ (il ks ++ bs.drop p)) ∧ Hid (Iw w.heap.size wr o ks)) (fun _ _ i _ => N - (intOf i).toNat)
        case atStart => exact ⟨[], m, rfl, rfl, Nat.zero_le _, ML, g1, Lib.hid ⟨fun y hy => (by cases hy), P0.out⟩, Lib.hid (Iw.nil _ _)⟩
        case round =>
          obtain ⟨ks, p, rfl, rfl, hk, hp, G, PP, OW⟩ := hrel
          by_cases hlt : ks.length < N
          · have j0 : (ks.length : Int) < (N : Int) := by omega
            have p0 : (0 : Int) ≤ (p : Int) := by omega
            have p1 : (p : Int) ≤ (bs.length : Int) := by omega
            have TT := (BX.out.grew G).sliced (l := p) (k := bs.length) (m := c) hp (Nat.le_refl _) hc
            rw [List.take_length] at TT
            by_cases hcp : c = p
            · rw [if_pos hcp, hcp, Nat.sub_self] at TT
              have F1 := Lib.hid (RE.out _ _ wr TT (by rw [List.length_drop]; omega))
              have PE : Hid (p = bs.length) := Lib.hid (by omega)
              clear TT
              go_wp2_with fail
              refine (F1.out).mono ?_
              rintro e w3 ⟨g3, hh⟩
              have NI : Hid (NoI (bs.drop p)) := Lib.hid (by
                rw [PE.out, List.drop_length]
                intro y r _ e
                have := congrArg List.length e
                rw [List.length_append, List.length_nil] at this
                have := ib_pos y
                omega)
              rcases hh with ⟨y, r, _, hb, _⟩ | ⟨ni, rfl⟩
              · exact absurd hb (NI.out y r (by assumption))
              · clear ni
                go_wp2_with fail
                go_ret2
                exact ⟨Grew.trans G g3, Or.inr ⟨by rw [PP.out.2]; exact no_item hlt NI.out, rfl⟩⟩
            · rw [if_neg hcp, Nat.mul_one] at TT
              have F1 := Lib.hid (RE.out _ _ wr TT (by rw [List.length_drop]; omega))
              clear TT
              go_wp2_with fail
              refine (F1.out).mono ?_
              rintro e w3 ⟨g3, ⟨y, r, ho, hb, rfl⟩ | ⟨ni, rfl⟩⟩
              · have HY := Lib.hid hb
                have YO := Lib.hid ho
                obtain ⟨q, hq0⟩ : ∃ q, q = (ib y).length := ⟨_, rfl⟩
                have HQ := Lib.hid hq0
                rw [← hq0]
                have q0 : 1 ≤ q := by rw [hq0]; exact ib_pos y
                have qz : ((q : Int) == 0) = false := by rw [beq_eq_false_iff_ne]; omega
                have PQ : Hid (p + q ≤ bs.length ∧ bs = ib (N : Int) ++ (il (ks ++ [y]) ++ bs.drop (p + q))) := Lib.hid (next_i PP.out.2 HY.out hq0 hp)
                have PL := PQ.out.1
                have O3 := Lib.hid (OW.out.grew g3)
                have G3 := Grew.trans G g3
                have KL : Hid (ks.length ≤ 4000) := Lib.hid (by omega)
                clear hb ho hq0 g3 OW F1
                go_wp2_with (at_builtin; go_must (refine wpl_int _ rfl _ _ rfl w.heap.size _ ks _ 0 y rfl (by exact O3.out.alloc _) rfl (by rw [World.size_alloc]; omega) (by simp [go_sem]) (by have := KL.out; omega) (by rw [World.size_alloc]; have := G3.size; omega) ?_; intro v5 w5 own5 gr5; have OW5 := Lib.hid own5; have G5 := Lib.hid (Grew.grown (G3.alloc _ _) gr5 (fun k hk => (Iw.lt O3.out k hk).1)); clear own5 gr5))
                go_roundw
                case rel => exact ⟨ks ++ [y], p + q, by go_num, by rw [List.length_append]; rfl, by rw [List.length_append]; exact hlt, PL, G5.out, Lib.hid ⟨fun z hz => (by
                  rcases List.mem_append.1 hz with hz | hz
                  · exact PP.out.1 z hz
                  · rw [List.mem_singleton.1 hz]; exact YO.out), PQ.out.2⟩, OW5⟩
                case measure => simp [intOf]; omega
              · have NI := Lib.hid ni
                clear ni
                go_wp2_with fail
                go_ret2
                exact ⟨Grew.trans G g3, Or.inr ⟨by rw [PP.out.2]; exact no_item hlt NI.out, rfl⟩⟩
          · obtain rfl : ks.length = N := by omega
            have j0 : ¬ (ks.length : Int) < (ks.length : Int) := by omega
            by_cases hpe : p = bs.length
            · have e0 : ((p : Int) == (bs.length : Int)) = true := by rw [beq_iff_eq]; omega
              have e1 : ((p : Int) != (bs.length : Int)) = false := by rw [bne, e0]; rfl
              have BE : Hid (bs = lb ks) := Lib.hid (by have := PP.out.2; rw [hpe, List.drop_length, List.append_nil] at this; exact this)
              have LO : Hid (Lok ks) := Lib.hid ⟨N4, PP.out.1⟩
              clear hpe hp
              go_wp2_with fail
              go_ret2
              exact ⟨G, Or.inl ⟨ks, _, LO.out, BE.out, rfl, OW.out.is PP.out.1⟩⟩
            · have e0 : ((p : Int) == (bs.length : Int)) = false := by rw [beq_eq_false_iff_ne]; omega
              have e1 : ((p : Int) != (bs.length : Int)) = true := by rw [bne, e0]; rfl
              have NL : Hid (NoL bs) := Lib.hid (by
                rw [PP.out.2, ← List.append_assoc]
                exact no_more (fun e => by have := congrArg List.length e; rw [List.length_drop, List.length_nil] at this; omega))
              clear hpe hp
              go_wp2_with fail
              go_ret2
              exact ⟨G, Or.inr ⟨NL.out, rfl⟩⟩
  · have NL : Hid (NoL bs) := Lib.hid (no_count ni)
    clear ni
    go_wp2_with fail
    go_ret2
    exact ⟨g1, Or.inr ⟨NL.out, rfl⟩⟩
end Co
end Go.Proofs.YtljmdpjjieoedaaDoor
