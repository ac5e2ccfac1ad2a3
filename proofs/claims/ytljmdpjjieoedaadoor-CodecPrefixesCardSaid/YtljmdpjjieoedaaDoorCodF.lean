/-
  The landed package codec: the first frame of bytes.
-/
import Derived.Test.YtljmdpjjieoedaaDoorCodEq
namespace Go.Proofs.YtljmdpjjieoedaaDoor
open Go.RowKit Wd
namespace Co
set_option maxRecDepth 100000

theorem same8 (d : BitVec 64) (s0 s1 s2 s3 s4 s5 s6 s7 : UInt8) : (((Dg.by8 d 0).toNat : Int) == (s0.toNat : Int) && ((Dg.by8 d 1).toNat : Int) == (s1.toNat : Int) && ((Dg.by8 d 2).toNat : Int) == (s2.toNat : Int) && ((Dg.by8 d 3).toNat : Int) == (s3.toNat : Int) && ((Dg.by8 d 4).toNat : Int) == (s4.toNat : Int) && ((Dg.by8 d 5).toNat : Int) == (s5.toNat : Int) && ((Dg.by8 d 6).toNat : Int) == (s6.toNat : Int) && ((Dg.by8 d 7).toNat : Int) == (s7.toNat : Int)) = true ↔ [s0, s1, s2, s3, s4, s5, s6, s7] = Dg.head8 d := by
  have e : Dg.head8 d = [Dg.by8 d 0, Dg.by8 d 1, Dg.by8 d 2, Dg.by8 d 3, Dg.by8 d 4, Dg.by8 d 5, Dg.by8 d 6, Dg.by8 d 7] := rfl
  have q : ∀ x y : UInt8, ((x.toNat : Int) == (y.toNat : Int)) = true ↔ y = x := fun x y => by
    rw [beq_iff_eq]
    exact ⟨fun h => UInt8.toNat_inj.1 (by omega), fun h => by rw [h]⟩
  rw [e]
  simp only [Bool.and_eq_true, q, List.cons.injEq, and_true, and_assoc]
theorem split3 {bs : List UInt8} {x y z : UInt8} {E : Nat} {s : List UInt8} (h : bs = x :: y :: z :: bs.drop 3) (hE : E = 3 + by3 x y z) (hl : E + 8 ≤ bs.length) (hs : (bs.drop E).take 8 = s) : ∃ b1 rest, bs = x :: y :: z :: (b1 ++ (s ++ rest)) ∧ bs.take E = x :: y :: z :: b1 ∧ b1.length = by3 x y z := by
  obtain ⟨t, ht⟩ : ∃ t, t = bs.drop 3 := ⟨_, rfl⟩
  rw [← ht] at h
  clear ht
  subst h
  rw [show E = by3 x y z + 3 from by omega] at hs ⊢
  simp only [List.length_cons] at hl
  simp only [List.drop_succ_cons] at hs
  refine ⟨t.take (by3 x y z), (t.drop (by3 x y z)).drop 8, ?_, ?_, ?_⟩
  · rw [← hs, List.take_append_drop, List.take_append_drop]
  · simp only [List.take_succ_cons]
  · rw [List.length_take]; omega
/-- What first answers. -/
def FirstSays (bs : List UInt8) (w : World) (e : Ending) (w' : World) : Prop :=
  Grew w w' ∧ ((∃ l r u, Lok l ∧ bs = fr l ++ r ∧ e = .returned (.tuple #[u, .int .i64 ((fr l).length : Int), .bool true]) ∧ Is w' u l) ∨ (NoF bs ∧ ∃ u k, e = .returned (.tuple #[u, k, .bool false])))
set_option maxHeartbeats 8000000 in
theorem c_first (v : Value) (bs : List UInt8) (w : World) (hT : Dg.Tu w) (hx : Bs w v bs) (hl : bs.length ≤ 1000000) : Calls Tryd.prog 30 #[v] w (FirstSays bs w) := by
  have BX := Lib.hid hx
  have SE := Lib.hid (fun u bs W (g : Grew w W) hx hl => c_seal u bs W (hT.grew g) hx hl)
  have GE := Lib.hid (fun u bs W hx hl => c_get u bs W hx hl)
  obtain ⟨a, c, rfl, hc⟩ := hx.shape
  clear hT
  by_cases h3 : bs.length < 3
  · have h3' : (bs.length : Int) < 3 := by omega
    have NF : Hid (NoF bs) := Lib.hid (no_short (by omega))
    clear hx h3
    go_enter Tryd.func30, Tryd.ntmps30
    go_wp2_with fail
    refine bodyPost_ret (v := .tuple #[.slice none 0 0, .int .i64 0, .bool false]) (by simp [results, Tryd.results30, go_sem]) rfl ⟨Grew.refl _, Or.inr ⟨NF.out, _, _, rfl⟩⟩
  · obtain ⟨b, o, rfl, hb, hcell⟩ := hx.row (by omega)
    have h3' : ¬ (bs.length : Int) < 3 := by omega
    have i0 : (0 : Int) < (bs.length : Int) := by omega
    have i1 : (1 : Int) < (bs.length : Int) := by omega
    have i2 : (2 : Int) < (bs.length : Int) := by omega
    obtain ⟨x, hx0⟩ : ∃ x, x = bs[0]'(by omega) := ⟨_, rfl⟩
    obtain ⟨y, hy0⟩ : ∃ y, y = bs[1]'(by omega) := ⟨_, rfl⟩
    obtain ⟨z, hz0⟩ : ∃ z, z = bs[2]'(by omega) := ⟨_, rfl⟩
    have q0 := hcell 0 (by omega)
    have q1 := hcell 1 (by omega)
    have q2 := hcell 2 (by omega)
    rw [← hx0] at q0
    rw [← hy0] at q1
    rw [← hz0] at q2
    rw [Nat.add_zero] at q0
    have x1 := x.toNat_lt
    have y1 := y.toNat_lt
    have z1 := z.toNat_lt
    have HB : Hid (bs = x :: y :: z :: bs.drop 3) := Lib.hid (by
      rw [hx0, hy0, hz0]
      conv => lhs; rw [← List.drop_zero (l := bs), List.drop_eq_getElem_cons (by omega), List.drop_eq_getElem_cons (by omega), List.drop_eq_getElem_cons (by omega)])
    clear hx hcell hx0 hy0 hz0
    go_enter Tryd.func30, Tryd.ntmps30
    go_wp2_with fail
    go_quiet (fail)
    have GV : Grew w (w.drewN nq) := (Grew.refl w).drewN nq
    obtain ⟨V, hV⟩ : ∃ V, V = w.drewN nq := ⟨_, rfl⟩
    have BV : Hid (Bs V (.slice (some ⟨b, o, none⟩) bs.length c) bs) := Lib.hid (by rw [hV]; exact BX.out.grew GV)
    have hbV : b < V.heap.size := by rw [hV]; exact hb
    rw [← hV] at GV ⊢
    clear hV q0 q1 q2 BX hb
    obtain ⟨E, hE0⟩ : ∃ E : Nat, E = 3 + by3 x y z := ⟨_, rfl⟩
    have hE : (3 + (x.toNat : Int) * 65536 + (y.toNat : Int) * 256 + (z.toNat : Int)) = (E : Int) := by rw [hE0]; unfold by3; omega
    rw [hE]
    have e1 : E ≤ 16777218 := by omega
    have e2 : 3 ≤ E := by omega
    have HE := Lib.hid hE0
    clear hE hE0 x1 y1 z1
    by_cases h4 : bs.length < E + 8
    · have h4' : (bs.length : Int) < (E : Int) + 8 := by omega
      have NF : Hid (NoF bs) := Lib.hid (by
        rw [HB.out]
        refine no_torn ?_
        have := HE.out
        rw [List.length_drop]
        omega)
      clear h4
      go_wp2_with fail
      refine bodyPost_ret (v := .tuple #[.slice none 0 0, .int .i64 0, .bool false]) (by simp [results, Tryd.results30, go_sem]) rfl ⟨GV, Or.inr ⟨NF.out, _, _, rfl⟩⟩
    · have h4' : ¬ (bs.length : Int) < (E : Int) + 8 := by omega
      have h5 : (E : Int) ≤ (c : Int) := by omega
      have h6 : (E : Int) ≤ (bs.length : Int) := by omega
      have h7 : E + 8 ≤ bs.length := by omega
      have hcE : ¬ c = E := by omega
      have CE : ∀ k (hk : k < 8), V.cell? ⟨b, o + E + k, none⟩ = some (.int .u8 (bs[E + k]'(by omega)).toNat) := fun k hk => by
        obtain ⟨b', o', e, _, h⟩ := BV.out.row (by omega)
        cases e
        rw [Nat.add_assoc]
        exact h (E + k) (by omega)
      obtain ⟨d, hd⟩ : ∃ d, d = Dg.tx (bs.take E) := ⟨_, rfl⟩
      obtain ⟨s0, hs0⟩ : ∃ s, s = bs[E + 0]'(by omega) := ⟨_, rfl⟩
      obtain ⟨s1, hs1⟩ : ∃ s, s = bs[E + 1]'(by omega) := ⟨_, rfl⟩
      obtain ⟨s2, hs2⟩ : ∃ s, s = bs[E + 2]'(by omega) := ⟨_, rfl⟩
      obtain ⟨s3, hs3⟩ : ∃ s, s = bs[E + 3]'(by omega) := ⟨_, rfl⟩
      obtain ⟨s4, hs4⟩ : ∃ s, s = bs[E + 4]'(by omega) := ⟨_, rfl⟩
      obtain ⟨s5, hs5⟩ : ∃ s, s = bs[E + 5]'(by omega) := ⟨_, rfl⟩
      obtain ⟨s6, hs6⟩ : ∃ s, s = bs[E + 6]'(by omega) := ⟨_, rfl⟩
      obtain ⟨s7, hs7⟩ : ∃ s, s = bs[E + 7]'(by omega) := ⟨_, rfl⟩
      have z0 := CE 0 (by decide)
      rw [← hs0, Nat.add_zero] at z0
      have z1 := CE 1 (by decide)
      rw [← hs1] at z1
      have z2 := CE 2 (by decide)
      rw [← hs2] at z2
      have z3 := CE 3 (by decide)
      rw [← hs3] at z3
      have z4 := CE 4 (by decide)
      rw [← hs4] at z4
      have z5 := CE 5 (by decide)
      rw [← hs5] at z5
      have z6 := CE 6 (by decide)
      rw [← hs6] at z6
      have z7 := CE 7 (by decide)
      rw [← hs7] at z7
      have SB : Hid ((bs.drop E).take 8 = [s0, s1, s2, s3, s4, s5, s6, s7]) := Lib.hid (by
        refine List.ext_getElem (by simp; omega) fun i h1 h2 => ?_
        rw [List.getElem_take, List.getElem_drop]
        match i, h2 with
        | 0, _ => exact hs0.symm
        | 1, _ => exact hs1.symm
        | 2, _ => exact hs2.symm
        | 3, _ => exact hs3.symm
        | 4, _ => exact hs4.symm
        | 5, _ => exact hs5.symm
        | 6, _ => exact hs6.symm
        | 7, _ => exact hs7.symm)
      have SE7 : Hid (∀ W, Grew V W → Calls Tryd.prog 25 #[.slice (some ⟨b, o, none⟩) E E] W fun e w' => e = .returned (ag8 d) ∧ Grew W w') := Lib.hid (fun W g => by
        have hx := (BV.out.grew g).sliced (l := 0) (k := E) (m := E) (Nat.zero_le _) (by omega) (Nat.le_refl _)
        rw [if_neg (by omega), Option.map_some, Nat.zero_mul, add_off, Nat.add_zero, Nat.sub_zero, List.drop_zero] at hx
        have := SE.out _ _ W (Grew.trans GV g) hx (by rw [List.length_take]; omega)
        rw [← hd] at this
        exact this)
      obtain ⟨r, hr⟩ : ∃ r : Bool, r = (((Dg.by8 d 0).toNat : Int) == (s0.toNat : Int) && ((Dg.by8 d 1).toNat : Int) == (s1.toNat : Int) && ((Dg.by8 d 2).toNat : Int) == (s2.toNat : Int) && ((Dg.by8 d 3).toNat : Int) == (s3.toNat : Int) && ((Dg.by8 d 4).toNat : Int) == (s4.toNat : Int) && ((Dg.by8 d 5).toNat : Int) == (s5.toNat : Int) && ((Dg.by8 d 6).toNat : Int) == (s6.toNat : Int) && ((Dg.by8 d 7).toNat : Int) == (s7.toNat : Int)) := ⟨_, rfl⟩
      have EQ : ∀ W, (Op.equalIn 10000 48 (.agg #[.int .u8 ((Dg.by8 d 0).toNat : Int), .int .u8 ((Dg.by8 d 1).toNat : Int), .int .u8 ((Dg.by8 d 2).toNat : Int), .int .u8 ((Dg.by8 d 3).toNat : Int), .int .u8 ((Dg.by8 d 4).toNat : Int), .int .u8 ((Dg.by8 d 5).toNat : Int), .int .u8 ((Dg.by8 d 6).toNat : Int), .int .u8 ((Dg.by8 d 7).toNat : Int)]) (.agg #[.int .u8 (s0.toNat : Int), .int .u8 (s1.toNat : Int), .int .u8 (s2.toNat : Int), .int .u8 (s3.toNat : Int), .int .u8 (s4.toNat : Int), .int .u8 (s5.toNat : Int), .int .u8 (s6.toNat : Int), .int .u8 (s7.toNat : Int)])).run Tryd.prog W = .ok r W := fun W => by rw [hr]; exact eq8 _ _ _ _ _ _ _ _ _ _ _ _ _ _ _ _ W
      have RI : Hid (r = true ↔ [s0, s1, s2, s3, s4, s5, s6, s7] = Dg.head8 d) := Lib.hid (by rw [hr]; exact same8 d s0 s1 s2 s3 s4 s5 s6 s7)
      have HD := Lib.hid hd
      clear CE hs0 hs1 hs2 hs3 hs4 hs5 hs6 hs7 hr hd h4 SE
      unfold ag8 at SE7
      have hAA : ∀ W, (Instr.arrayAt 48 (.slice (some ⟨b, o + E, none⟩) (bs.length - E) (c - E))).run Tryd.prog W = .ok (.pointer (some ⟨b, o + E, none⟩)) W := fun W => by
        simp [Instr.arrayAt, run_underlying Tryd.underlying48, show ¬ bs.length - E < 8 from by omega]
      go_wp2_with fail
      go_region_held3 (fun W => W.cell? ⟨b, o + E, none⟩ = some (.int .u8 (s0.toNat : Int)) ∧ W.cell? ⟨b, o + E + 1, none⟩ = some (.int .u8 (s1.toNat : Int)) ∧ W.cell? ⟨b, o + E + 2, none⟩ = some (.int .u8 (s2.toNat : Int)) ∧ W.cell? ⟨b, o + E + 3, none⟩ = some (.int .u8 (s3.toNat : Int)) ∧ W.cell? ⟨b, o + E + 4, none⟩ = some (.int .u8 (s4.toNat : Int)) ∧ W.cell? ⟨b, o + E + 5, none⟩ = some (.int .u8 (s5.toNat : Int)) ∧ W.cell? ⟨b, o + E + 6, none⟩ = some (.int .u8 (s6.toNat : Int)) ∧ W.cell? ⟨b, o + E + 7, none⟩ = some (.int .u8 (s7.toNat : Int))) (simp [go_sem, *])
        (first | (go_at_call 25; refine (SE7.out _ (by (repeat' (first | (with_reducible exact Grew.refl _) | (with_reducible assumption) | (with_reducible refine Grew.alloc ?_ _ _) | (with_reducible refine Grew.drew ?_) | (with_reducible refine Grew.drewN ?_ _))))).mono ?_; rintro e w8 ⟨rfl, g8⟩; have GX : Grew V w8 := Grew.trans (by (repeat' (first | (with_reducible exact Grew.refl _) | (with_reducible assumption) | (with_reducible refine Grew.alloc ?_ _ _) | (with_reducible refine Grew.drew ?_) | (with_reducible refine Grew.drewN ?_ _)))) g8; have y0 := (Grew.cell (o := o + E) GX hbV).trans z0; have y1 := (Grew.cell (o := o + E + 1) GX hbV).trans z1; have y2 := (Grew.cell (o := o + E + 2) GX hbV).trans z2; have y3 := (Grew.cell (o := o + E + 3) GX hbV).trans z3; have y4 := (Grew.cell (o := o + E + 4) GX hbV).trans z4; have y5 := (Grew.cell (o := o + E + 5) GX hbV).trans z5; have y6 := (Grew.cell (o := o + E + 6) GX hbV).trans z6; have y7 := (Grew.cell (o := o + E + 7) GX hbV).trans z7))
      all_goals (
        have G8 : Hid (Grew w w8) := Lib.hid (Grew.trans GV GX)
        have B8 : Hid (Bs w8 (.slice (some ⟨b, o, none⟩) bs.length c) bs) := Lib.hid (BV.out.grew GX)
        obtain ⟨b1, rest, S1, S2, S3⟩ := split3 HB.out HE.out h7 SB.out
        have SP : Hid (bs = x :: y :: z :: (b1 ++ ([s0, s1, s2, s3, s4, s5, s6, s7] ++ rest)) ∧ bs.take E = x :: y :: z :: b1 ∧ b1.length = by3 x y z) := Lib.hid ⟨S1, S2, S3⟩
        clear z0 z1 z2 z3 z4 z5 z6 z7 y0 y1 y2 y3 y4 y5 y6 y7 g8 GX S1 S2 S3 hAA SE7 BV GV hbV SB HB
        cases r
        · have NF : Hid (NoF bs) := Lib.hid (by
            rw [SP.out.1]
            refine no_seal SP.out.2.2 rfl (fun e => ?_)
            rw [← SP.out.2.1, ← HD.out] at e
            have := RI.out.2 e
            cases this)
          clear RI EQ
          go_wp2_with fail
          refine bodyPost_ret (v := .tuple #[.slice none 0 0, .int .i64 0, .bool false]) (by simp [results, Tryd.results30, go_sem]) rfl ⟨G8.out, Or.inr ⟨NF.out, _, _, rfl⟩⟩
        · have SD : Hid ([s0, s1, s2, s3, s4, s5, s6, s7] = Dg.head8 d) := Lib.hid (RI.out.1 rfl)
          clear RI EQ
          have h8 : (3 : Int) ≤ (E : Int) := by omega
          have FB : Hid (bs = x :: y :: z :: (b1 ++ (Dg.head8 (Dg.tx (x :: y :: z :: b1)) ++ rest))) := Lib.hid (by rw [← SP.out.2.1, ← HD.out, ← SD.out]; exact SP.out.1)
          have NL9 : Hid (NoL b1 → NoF bs) := Lib.hid (fun h => by rw [FB.out]; exact no_list SP.out.2.2 h)
          have YL9 : Hid (∀ l, b1 = lb l → bs = fr l ++ rest ∧ (fr l).length = E + 8) := Lib.hid (fun l h => by
            have h1 := FB.out
            have h2 := SP.out.2.2
            rw [h] at h1 h2
            refine ⟨by rw [h1]; exact yes_f h2 rest, ?_⟩
            rw [fr_len, h2]
            have := HE.out
            omega)
          have L1 : Hid (b1.length ≤ 1000000) := Lib.hid (by have := SP.out.2.2; have := HE.out; omega)
          have D1 : Hid ((bs.take E).drop 3 = b1) := Lib.hid (by rw [SP.out.2.1]; rfl)
          have T8 := B8.out.sliced (l := 3) (k := E) (m := E) e2 (by omega) (Nat.le_refl _)
          rw [D1.out] at T8
          clear B8 SD SP FB HD HE D1
          by_cases hE3 : E = 3
          · subst hE3
            rw [if_pos rfl, Nat.sub_self] at T8
            have GE9 := Lib.hid (GE.out _ b1 w8 T8 L1.out)
            clear T8 GE
            go_wp2_with fail
            refine (GE9.out).mono ?_
            rintro e w9 ⟨g9, ⟨l, u, lo, hb1, rfl, is⟩ | ⟨nl, rfl⟩⟩
            · have LO := Lib.hid lo
              have IS := Lib.hid is
              have Y := Lib.hid (YL9.out l hb1)
              clear lo is hb1
              go_wp2_with fail
              refine bodyPost_ret (v := .tuple #[u, .int .i64 11, .bool true]) (by simp [results, Tryd.results30, go_sem]) rfl ⟨Grew.trans G8.out g9, Or.inl ⟨l, rest, u, LO.out, Y.out.1, by rw [Y.out.2]; rfl, IS.out⟩⟩
            · have NF := Lib.hid (NL9.out nl)
              clear nl
              go_wp2_with fail
              refine bodyPost_ret (v := .tuple #[.slice none 0 0, .int .i64 11, .bool false]) (by simp [results, Tryd.results30, go_sem]) rfl ⟨Grew.trans G8.out g9, Or.inr ⟨NF.out, _, _, rfl⟩⟩
          · rw [if_neg hE3, Option.map_some, Nat.mul_one, add_off] at T8
            have GE9 := Lib.hid (GE.out _ b1 w8 T8 L1.out)
            clear T8 GE
            go_wp2_with fail
            refine (GE9.out).mono ?_
            rintro e w9 ⟨g9, ⟨l, u, lo, hb1, rfl, is⟩ | ⟨nl, rfl⟩⟩
            · have LO := Lib.hid lo
              have IS := Lib.hid is
              have Y := Lib.hid (YL9.out l hb1)
              clear lo is hb1
              go_wp2_with fail
              refine bodyPost_ret (v := .tuple #[u, .int .i64 ((E : Int) + 8), .bool true]) (by simp [results, Tryd.results30, go_sem]) rfl ⟨Grew.trans G8.out g9, Or.inl ⟨l, rest, u, LO.out, Y.out.1, by rw [Y.out.2]; rfl, IS.out⟩⟩
            · have NF := Lib.hid (NL9.out nl)
              clear nl
              go_wp2_with fail
              refine bodyPost_ret (v := .tuple #[.slice none 0 0, .int .i64 ((E : Int) + 8), .bool false]) (by simp [results, Tryd.results30, go_sem]) rfl ⟨Grew.trans G8.out g9, Or.inr ⟨NF.out, _, _, rfl⟩⟩)
end Co
end Go.Proofs.YtljmdpjjieoedaaDoor
