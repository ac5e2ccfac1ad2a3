/-
  The reference functions of layer 8: the first frame of bytes, and all of them.
-/
import Derived.Test.YtljmdpjjieoedaaDoorCodRefC
namespace Go.Proofs.YtljmdpjjieoedaaDoor
open Go.RowKit Wd
namespace Co
set_option maxRecDepth 100000

/-- What whole answers. -/
def WholeSays (bs : List UInt8) (w : World) (e : Ending) (w' : World) : Prop :=
  Grew w w' ∧ ((∃ l r u, Lok l ∧ bs = fr l ++ r ∧ e = .returned (.tuple #[u, .int .i64 ((fr l).length : Int)]) ∧ Is w' u l) ∨ (NoF bs ∧ e = .returned (.tuple #[.slice none 0 0, .int .i64 0])))
set_option maxHeartbeats 8000000 in
theorem r_whole (v : Value) (bs : List UInt8) (w : World) (hx : Bs w v bs) (hl : bs.length ≤ 1000000) : Calls Tryd.prog 31 #[v] w (WholeSays bs w) := by
  have BX := Lib.hid hx
  have GE := Lib.hid (fun u bs W hx hl => r_get u bs W hx hl)
  obtain ⟨a, c, rfl, hc⟩ := hx.shape
  by_cases h3 : bs.length < 11
  · have h3' : (bs.length : Int) < 11 := by omega
    have NF : Hid (NoF bs) := Lib.hid (no_short h3)
    clear hx h3
    go_enter Tryd.func31, Tryd.ntmps31
    go_wp2_with fail
    go_ret2
    exact ⟨Grew.refl _, Or.inr ⟨NF.out, rfl⟩⟩
  · obtain ⟨b, o, rfl, hb, hcell⟩ := hx.row (by omega)
    have h3' : ¬ (bs.length : Int) < 11 := by omega
    have i0 : (0 : Int) < (bs.length : Int) := by omega
    have i1 : (1 : Int) < (bs.length : Int) := by omega
    have i2 : (2 : Int) < (bs.length : Int) := by omega
    obtain ⟨x, hx0⟩ : ∃ x, x = bs[0]'(by omega) := ⟨_, rfl⟩
    obtain ⟨y, hy0⟩ : ∃ y, y = bs[1]'(by omega) := ⟨_, rfl⟩
    obtain ⟨z, hz0⟩ : ∃ z, z = bs[2]'(by omega) := ⟨_, rfl⟩
    have q0 := hcell 0 (by omega)
    have q1 := hcell 1 (by omega)
    have q2 := hcell 2 (by omega)
    rw [← hx0] at q0
    rw [← hy0] at q1
    rw [← hz0] at q2
    rw [Nat.add_zero] at q0
    have x1 := x.toNat_lt
    have y1 := y.toNat_lt
    have z1 := z.toNat_lt
    have HB : Hid (bs = x :: y :: z :: bs.drop 3) := Lib.hid (by
      rw [hx0, hy0, hz0]
      conv => lhs; rw [← List.drop_zero (l := bs), List.drop_eq_getElem_cons (by omega), List.drop_eq_getElem_cons (by omega), List.drop_eq_getElem_cons (by omega)])
    clear hx hcell hx0 hy0 hz0
    go_enter Tryd.func31, Tryd.ntmps31
    go_wp2_with fail
    go_quiet (fail)
    have GV : Grew w (w.drewN nq) := (Grew.refl w).drewN nq
    obtain ⟨V, hV⟩ : ∃ V, V = w.drewN nq := ⟨_, rfl⟩
    have BV : Hid (Bs V (.slice (some ⟨b, o, none⟩) bs.length c) bs) := Lib.hid (by rw [hV]; exact BX.out.grew GV)
    rw [← hV] at GV ⊢
    clear hV q0 q1 q2 BX hb
    obtain ⟨N, hN0⟩ : ∃ N : Nat, N = by3 x y z := ⟨_, rfl⟩
    have hN : ((x.toNat : Int) * 65536 + (y.toNat : Int) * 256 + (z.toNat : Int)) = (N : Int) := by rw [hN0]; unfold by3; omega
    rw [hN]
    have e1 : N ≤ 16777215 := by rw [hN0]; unfold by3; omega
    have HN := Lib.hid hN0
    clear hN hN0 x1 y1 z1
    by_cases h4 : bs.length < N + 11
    · have h4' : (bs.length : Int) < (N : Int) + 11 := by omega
      have NF : Hid (NoF bs) := Lib.hid (by
        rw [HB.out]
        refine no_torn ?_
        have := HN.out
        rw [List.length_drop]
        omega)
      clear h4
      go_wp2_with fail
      go_ret2
      exact ⟨GV, Or.inr ⟨NF.out, rfl⟩⟩
    · have h4' : ¬ (bs.length : Int) < (N : Int) + 11 := by omega
      have h7 : N + 11 ≤ bs.length := by omega
      obtain ⟨E, hE0⟩ : ∃ E : Nat, E = 3 + N := ⟨_, rfl⟩
      obtain ⟨F, hF0⟩ : ∃ F : Nat, F = 11 + N := ⟨_, rfl⟩
      have hE : 3 + (N : Int) = (E : Int) := by omega
      have hF : 11 + (N : Int) = (F : Int) := by omega
      have h5 : (E : Int) ≤ (c : Int) := by omega
      have h6 : (F : Int) ≤ (c : Int) := by omega
      have h8 : (E : Int) ≤ (F : Int) := by omega
      have hc3 : ¬ c = E := by omega
      have hc0 : ¬ c = 0 := by omega
      have wE : IntKind.i64.wrap (E : Int) = (E : Int) := IntWalk.i64_in _ ⟨by omega, by omega⟩
      have wF : IntKind.i64.wrap (F : Int) = (F : Int) := IntWalk.i64_in _ ⟨by omega, by omega⟩
      have eF : F - E = 8 := by omega
      have HE := Lib.hid hE0
      have HF := Lib.hid hF0
      obtain ⟨d, hd⟩ : ∃ d, d = Dg.tx (bs.take E) := ⟨_, rfl⟩
      have CVA : Hid (∀ W, Grew V W → (convert 23 9 (.slice (some ⟨b, o, none⟩) E c)).run Tryd.prog W = .ok (.string ⟨(bs.take E).toArray⟩) W) := Lib.hid (fun W g => by
        have hx := (BV.out.grew g).sliced (l := 0) (k := E) (m := c) (Nat.zero_le _) (by omega) (by omega)
        rw [if_neg hc0, Option.map_some, Nat.zero_mul, add_off, Nat.add_zero, Nat.sub_zero, Nat.sub_zero, List.drop_zero] at hx
        exact conv_bs hx)
      have CV := CVA.out V.drew ((Grew.refl V).drew)
      have TX : Hid (∀ W, Calls Tryd.prog 27 #[.string ⟨(bs.take E).toArray⟩] W fun e w' => e = .returned (.int .u64 (Dg.dv d)) ∧ Grew W w') := Lib.hid (fun W => by
        have := Dg.rtext ⟨(bs.take E).toArray⟩ W (by show (bs.take E).toArray.size ≤ _; simp; omega)
        rw [hd]
        exact this)
      have EI := Lib.hid (fun W => r_eight d W)
      obtain ⟨s, hs⟩ : ∃ s, s = (bs.drop E).take 8 := ⟨_, rfl⟩
      have BP : Hid (∀ W, Grew V W → Bs W (.slice (some ⟨b, o + E, none⟩) 8 (c - E)) s) := Lib.hid (fun W g => by
        have hx := (BV.out.grew g).sliced (l := E) (k := F) (m := c) (by omega) (by omega) (by omega)
        rw [if_neg hc3, Option.map_some, Nat.mul_one, add_off, eF, List.drop_take, eF, ← hs] at hx
        exact hx)
      obtain ⟨r, hr⟩ : ∃ r, r = decide (s = Dg.head8 d) := ⟨_, rfl⟩
      have SB : Hid (∀ u W, Grew V W → Bs W u (Dg.head8 d) → Calls Tryd.prog 12 #[.slice (some ⟨b, o + E, none⟩) 8 (c - E), u] W fun e w' => e = .returned (.bool r) ∧ w' = W) := Lib.hid (fun u W g hu => by
        rw [hr]
        exact r_bytes_same s (Dg.head8 d) _ u W (BP.out W g) hu)
      have S8 : Hid (s.length = 8) := Lib.hid (by rw [hs, List.length_take, List.length_drop]; omega)
      obtain ⟨b1, rest, S1, S2, S3⟩ := split3 HB.out (by rw [← HN.out]; exact hE0) (by omega) hs.symm
      have SP : Hid (bs = x :: y :: z :: (b1 ++ (s ++ rest)) ∧ bs.take E = x :: y :: z :: b1 ∧ b1.length = by3 x y z) := Lib.hid ⟨S1, S2, S3⟩
      have HD := Lib.hid hd
      have RI : Hid (r = true ↔ s = Dg.head8 d) := Lib.hid (by rw [hr]; exact decide_eq_true_iff)
      clear hE0 hF0 hd hs hr S1 S2 S3 h4 HB
      go_wp2_with fail
      go_region_held3 (fun W => (convert 23 9 (.slice (some ⟨b, o, none⟩) E c)).run Tryd.prog W = .ok (.string ⟨(bs.take E).toArray⟩) W) (assumption)
        (first | (go_at_call 27; refine (TX.out _).mono ?_; rintro e w3 ⟨rfl, g3⟩; have GX3 : Grew V w3 := Grew.trans (by (repeat' (first | (with_reducible exact Grew.refl _) | (with_reducible assumption) | (with_reducible refine Grew.alloc ?_ _ _) | (with_reducible refine Grew.drew ?_) | (with_reducible refine Grew.drewN ?_ _)))) g3; have CV3 := CVA.out _ GX3) | (go_at_call 26; refine (EI.out _).mono ?_; rintro e w4 ⟨v4, rfl, o4, g4⟩; have GX4 : Grew V w4 := Grew.trans GX3 g4; have CV4 := CVA.out _ GX4; have B4 := Lib.hid (own_bs o4); clear o4 g4) | (go_at_call 12; refine (SB.out _ _ GX4 B4.out).mono ?_; rintro e w5 ⟨rfl, rfl⟩))
      have G5 : Hid (Grew w w5) := Lib.hid (Grew.trans GV GX4)
      have B5 : Hid (Bs w5 (.slice (some ⟨b, o, none⟩) bs.length c) bs) := Lib.hid (BV.out.grew GX4)
      have hc33 : ¬ c = 3 := by omega
      have e3 : (3 : Int) ≤ (E : Int) := by omega
      clear GX3 GX4 g3 GV BV CV CV3 CV4 CVA TX EI BP SB B4
      cases r
      · have NF : Hid (NoF bs) := Lib.hid (by
          rw [SP.out.1]
          refine no_seal SP.out.2.2 S8.out (fun e => ?_)
          rw [← SP.out.2.1, ← HD.out] at e
          have := RI.out.2 e
          cases this)
        clear RI
        go_wp2_with fail
        go_ret2
        exact ⟨G5.out, Or.inr ⟨NF.out, rfl⟩⟩
      · have SD : Hid (s = Dg.head8 d) := Lib.hid (RI.out.1 rfl)
        have FB : Hid (bs = x :: y :: z :: (b1 ++ (Dg.head8 (Dg.tx (x :: y :: z :: b1)) ++ rest))) := Lib.hid (by rw [← SP.out.2.1, ← HD.out, ← SD.out]; exact SP.out.1)
        have NL9 : Hid (NoL b1 → NoF bs) := Lib.hid (fun h => by rw [FB.out]; exact no_list SP.out.2.2 h)
        have YL9 : Hid (∀ l, b1 = lb l → bs = fr l ++ rest ∧ (fr l).length = N + 11) := Lib.hid (fun l h => by
          have h1 := FB.out
          have h2 := SP.out.2.2
          rw [h] at h1 h2
          refine ⟨by rw [h1]; exact yes_f h2 rest, ?_⟩
          rw [fr_len, h2]
          have := HN.out
          omega)
        have L1 : Hid (b1.length ≤ 1000000) := Lib.hid (by have := SP.out.2.2; have := HN.out; omega)
        have D1 : Hid ((bs.take E).drop 3 = b1) := Lib.hid (by rw [SP.out.2.1]; rfl)
        have T8 := B5.out.sliced (l := 3) (k := E) (m := c) (by have := HE.out; omega) (by have := HE.out; omega) (by omega)
        rw [D1.out, if_neg hc33, Option.map_some, Nat.mul_one, add_off] at T8
        have GE9 := Lib.hid (GE.out _ b1 w5 T8 L1.out)
        clear T8 GE RI B5 SD SP FB HD D1
        go_wp2_with fail
        refine (GE9.out).mono ?_
        rintro e w9 ⟨g9, ⟨l, u, lo, hb1, rfl, is⟩ | ⟨nl, rfl⟩⟩
        · have LO := Lib.hid lo
          have IS := Lib.hid is
          have Y := Lib.hid (YL9.out l hb1)
          clear lo is hb1
          go_wp2_with fail
          go_ret2
          exact ⟨Grew.trans G5.out g9, Or.inl ⟨l, rest, u, LO.out, Y.out.1, by rw [Y.out.2]; rfl, IS.out⟩⟩
        · have NF := Lib.hid (NL9.out nl)
          clear nl
          go_wp2_with fail
          go_ret2
          exact ⟨Grew.trans G5.out g9, Or.inr ⟨NF.out, rfl⟩⟩
set_option maxHeartbeats 8000000 in
theorem r_frames (v : Value) (bs : List UInt8) (w : World) (hx : Bs w v bs) (hl : bs.length ≤ 200000) : Calls Tryd.prog 19 #[v] w (FramesSays bs w) := by
  have FI := Lib.hid (fun u cs W hx hl => r_whole u cs W hx hl)
  obtain ⟨a, c, rfl, hc⟩ := hx.shape
  have BX := Lib.hid hx
  have l2 : ¬ (200000 : Int) < (bs.length : Int) := by omega
  clear hx
  go_enter Tryd.func19, Tryd.ntmps19
  go_wp2_with fail
  go_loopw [5, 6] (fun u s wr => ∃ (L : List (List Int)) (p : Nat), s = .int .i64 p ∧ p ≤ bs.length ∧ Grew w wr ∧ Hid (Oks L ∧ p = (fl L).length ∧ bs = fl L ++ bs.drop p) ∧ Hid (Lw w.heap.size wr u L)) (fun _ s _ => bs.length - (intOf s).toNat)
  case atStart => exact ⟨[], 0, rfl, Nat.zero_le _, Grew.refl _, Lib.hid ⟨fun l hl => (by cases hl), rfl, rfl⟩, Lib.hid (Lw.nil _ _)⟩
  case round =>
    obtain ⟨L, p, rfl, hp, G, HB, OW⟩ := hrel
    have p0 : (0 : Int) ≤ (p : Int) := by omega
    have p1 : (p : Int) ≤ (bs.length : Int) := by omega
    have TT := (BX.out.grew G).sliced (l := p) (k := bs.length) (m := c) hp (Nat.le_refl _) hc
    rw [List.take_length] at TT
    by_cases hcp : c = p
    · rw [if_pos hcp, hcp, Nat.sub_self] at TT
      have F1 := Lib.hid (FI.out _ _ wr TT (by rw [List.length_drop]; omega))
      have PE : Hid (p = bs.length) := Lib.hid (by omega)
      clear TT
      go_wp2_with fail
      refine (F1.out).mono ?_
      rintro e w1 ⟨g1, ⟨l, r, u, lo, hb, _, _⟩ | ⟨nf, rfl⟩⟩
      · exfalso
        have := congrArg List.length hb
        rw [List.length_drop, List.length_append, fr_len] at this
        have := PE.out
        omega
      · have NF := Lib.hid nf
        have G1 := Grew.trans G g1
        have O1 := Lib.hid (OW.out.grew g1)
        clear nf g1 OW F1
        go_wp2_with fail
        refine bodyPost_ret (v := .tuple #[u5, .int .i64 p, .int .i64 0]) (by simp [results, Tryd.results19, go_sem]) rfl ⟨G1, L, bs.drop p, _, HB.out.1, NF.out, HB.out.2.2, by rw [← HB.out.2.1], O1.out.ls⟩
    · rw [if_neg hcp, Nat.mul_one] at TT
      have F1 := Lib.hid (FI.out _ _ wr TT (by rw [List.length_drop]; omega))
      clear TT
      go_wp2_with fail
      refine (F1.out).mono ?_
      rintro e w1 ⟨g1, ⟨l, r, u, lo, hb, rfl, is⟩ | ⟨nf, rfl⟩⟩
      · obtain ⟨ua, uc, rfl, _⟩ := is.shape
        have LO := Lib.hid lo
        have IS := Lib.hid is
        have O1 := Lib.hid (OW.out.grew g1)
        have G1 := Grew.trans G g1
        have NX := Lib.hid (next_f HB.out.1 HB.out.2.1 HB.out.2.2 lo hb)
        obtain ⟨n, hn0⟩ : ∃ n, n = (fr l).length := ⟨_, rfl⟩
        rw [← hn0] at NX ⊢
        have n1 : 12 ≤ n := by rw [hn0, fr_len]; have := lb_pos l; omega
        have n2 := NX.out.1
        have n3 : (n : Int) ≤ 200000 := by omega
        have nz : ((n : Int) == 0) = false := by rw [beq_eq_false_iff_ne]; omega
        have LL : Hid (L.length ≤ 200000) := Lib.hid (by have := fl_len L; have := HB.out.2.1; omega)
        clear hb lo is g1 OW F1 hn0 G
        go_wp2_with (at_builtin; go_must (refine wpl_list _ rfl _ _ rfl w.heap.size _ L _ _ (.slice ua l.length uc) l rfl (by exact O1.out.grew ((Grew.refl _).alloc _ _)) rfl (by simp [go_sem]) (by exact IS.out.grew ((Grew.refl _).alloc _ _)) (by have := LL.out; omega) (by rw [World.size_alloc]; have := G1.size; omega) ?_; intro v' w' af; have AF := Lib.hid af; clear af))
        go_roundw
        case rel => exact ⟨L ++ [l], p + n, by go_num, n2, AF.out.grew w (Nat.le_refl _) (G1.alloc _ _), Lib.hid NX.out.2, Lib.hid AF.out.own⟩
        case measure => simp [intOf]; omega
      · have NF := Lib.hid nf
        have G1 := Grew.trans G g1
        have O1 := Lib.hid (OW.out.grew g1)
        clear nf g1 OW F1
        go_wp2_with fail
        refine bodyPost_ret (v := .tuple #[u5, .int .i64 p, .int .i64 0]) (by simp [results, Tryd.results19, go_sem]) rfl ⟨G1, L, bs.drop p, _, HB.out.1, NF.out, HB.out.2.2, by rw [← HB.out.2.1], O1.out.ls⟩
set_option maxHeartbeats 4000000 in
theorem r_frames_long (v : Value) (bs : List UInt8) (w : World) (hx : Bs w v bs) (hl : 200000 < bs.length) : Calls Tryd.prog 19 #[v] w fun e w' => e = .returned (.tuple #[.slice none 0 0, .int .i64 0, .int .i64 2]) ∧ Grew w w' := by
  obtain ⟨a, c, rfl, hc⟩ := hx.shape
  have l2 : (200000 : Int) < (bs.length : Int) := by omega
  clear hx
  go_enter Tryd.func19, Tryd.ntmps19
  go_wp2_with fail
  refine bodyPost_ret (v := .tuple #[.slice none 0 0, .int .i64 0, .int .i64 2]) (by simp [results, Tryd.results19, go_sem]) rfl ⟨rfl, Grew.refl _⟩
end Co
end Go.Proofs.YtljmdpjjieoedaaDoor
