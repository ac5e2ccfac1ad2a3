/-
  The law RegionTidies, under what package region owes.
-/
import Derived.Test.YtlookcbokhknfaaGreatRegU
import Derived.Test.YtlookcbokhknfaaGreatCutRb
namespace Go.Proofs.YtlookcbokhknfaaGreat
open Go.RowKit Go.Shelf Hl
namespace Rg
open Ct (Hf WF ov)
theorem lies_sl (p q : List Pt) (v u : Value) (w : World) (hs : Sl w v p) (hu : Sl w u q) (hp : Vl p) (hq : Vl q) : Calls Tryz.prog 35 #[v, u] w (Tells (Lies p q) w) := by
  obtain ⟨b, o, c, rfl, hr⟩ := hs.row (fun e => by
    have := hp.1.1
    rw [e] at this
    exact absurd this (by simp))
  obtain ⟨b', o', c', rfl, hr'⟩ := hu.row (fun e => by
    have := hq.1.1
    rw [e] at this
    exact absurd this (by simp))
  exact Ct.lies_r p q b o c b' o' c' w hr hr' hp hq
set_option maxRecDepth 100000 in
set_option maxHeartbeats 4000000 in
theorem tidies_true (K : Code) (L : Rgn) (x : Pt) (v : Value) (w : World) (hs : Rl w v L) : Calls Tryz.prog 4 #[v, .agg #[.int .i64 x.1, .int .i64 x.2]] w fun e w' => e = .returned (.bool true) ∧ Grew w w' := by
  obtain ⟨va, nl, vc, rfl, en⟩ := rl_nat hs
  have EN := Lib.hid en
  have R := Lib.hid hs
  clear hs en
  have BK00 := Lib.hid ((Blk.new (w) #[.int .i64 x.1, .int .i64 x.2] 27))
  have GW0 : Grew w (w.alloc (.cells #[.int .i64 x.1, .int .i64 x.2] 27)) := (by (repeat' (first | (with_reducible exact Grew.refl _) | (with_reducible assumption) | (with_reducible refine Grew.alloc ?_ _ _) | (with_reducible refine Grew.drew ?_) | (with_reducible refine Grew.drewN ?_ _) | (with_reducible refine Grew.setCell ?_ ?_ _) | go_size)))
  have G0 : Grew (w.alloc (.cells #[.int .i64 x.1, .int .i64 x.2] 27)) (w.alloc (.cells #[.int .i64 x.1, .int .i64 x.2] 27)) := Grew.refl _
  have R0 := Lib.hid (R.out.grown (w' := (w.alloc (.cells #[.int .i64 x.1, .int .i64 x.2] 27))) (by (repeat' (first | (with_reducible exact Grew.refl _) | (with_reducible assumption) | (with_reducible refine Grew.alloc ?_ _ _) | (with_reducible refine Grew.drew ?_) | (with_reducible refine Grew.drewN ?_ _) | (with_reducible refine Grew.setCell ?_ ?_ _) | go_size))))
  go_enter Tryz.func4, Tryz.ntmps4
  go_wp2_with fail
  refine (head_true K _).mono ?_
  rintro e w1 ⟨rfl, g1⟩
  have D1 : Grew (w.alloc (.cells #[.int .i64 x.1, .int .i64 x.2] 27)) w1 := Grew.trans (by (repeat' (first | (with_reducible exact Grew.refl _) | (with_reducible assumption) | (with_reducible refine Grew.alloc ?_ _ _) | (with_reducible refine Grew.drew ?_) | (with_reducible refine Grew.drewN ?_ _) | (with_reducible refine Grew.setCell ?_ ?_ _) | go_size))) g1
  have G1 : Grew (w.alloc (.cells #[.int .i64 x.1, .int .i64 x.2] 27)) w1 := Grew.trans G0 D1
  have R1 := Lib.hid (R0.out.grown D1)
  have BK01 := Lib.hid (BK00.out.grown D1)
  clear R0 BK00
  clear g1 D1 G0
  obtain ⟨x00, x01⟩ := blk_two BK01.out
  go_wp2_with fail
  refine (few_r L _ _ R1.out).mono ?_
  rintro e w2 ⟨r2, rfl, h2, g2⟩
  have D2 : Grew w1 w2 := Grew.trans (by (repeat' (first | (with_reducible exact Grew.refl _) | (with_reducible assumption) | (with_reducible refine Grew.alloc ?_ _ _) | (with_reducible refine Grew.drew ?_) | (with_reducible refine Grew.drewN ?_ _) | (with_reducible refine Grew.setCell ?_ ?_ _) | go_size))) g2
  have G2 : Grew (w.alloc (.cells #[.int .i64 x.1, .int .i64 x.2] 27)) w2 := Grew.trans G1 D2
  have R2 := Lib.hid (R1.out.grown D2)
  have BK02 := Lib.hid (BK01.out.grown D2)
  clear R1 BK01
  clear g2 D2 G1
  clear x00 x01
  obtain ⟨x00, x01⟩ := blk_two BK02.out
  cases r2
  · clear h2
    go_wp2_with fail
    go_ret
    exact ⟨rfl, GW0.trans G2⟩
  clear h2
  go_wp2_with fail
  refine (K.tidy L _ _ R2.out).mono ?_
  rintro e w3 ⟨v3, k3, r3, i3, rfl, s3, g3⟩
  have D3 : Grew w2 w3 := Grew.trans (by (repeat' (first | (with_reducible exact Grew.refl _) | (with_reducible assumption) | (with_reducible refine Grew.alloc ?_ _ _) | (with_reducible refine Grew.drew ?_) | (with_reducible refine Grew.drewN ?_ _) | (with_reducible refine Grew.setCell ?_ ?_ _) | go_size))) g3
  have G3 : Grew (w.alloc (.cells #[.int .i64 x.1, .int .i64 x.2] 27)) w3 := Grew.trans G2 D3
  have R3 := Lib.hid (R2.out.grown D3)
  have BK03 := Lib.hid (BK02.out.grown D3)
  clear R2 BK02
  clear g3 D3 G2
  clear x00 x01
  obtain ⟨x00, x01⟩ := blk_two BK03.out
  have A3 := Lib.hid s3
  clear s3
  rcases i3 with ⟨_, rfl, rfl⟩ | ⟨hB, rfl, c3, ec3, t3⟩
  · obtain ⟨ea, ec, rfl⟩ : ∃ a c, v3 = .slice a 0 c := A3.out.shape
    go_wp2_with fail
    go_ret
    exact ⟨rfl, GW0.trans G3⟩
  rw [ec3] at t3
  have VL := Lib.hid hB.2
  have T3 := Lib.hid t3
  have VR : Hid (VlR r3) := Lib.hid (tidy_vl hB.2 t3)
  clear hB t3 ec3
  obtain ⟨ta, tc, U, ev, hU, hSl, hRr⟩ := rl_fun A3.out
  obtain ⟨nr, en⟩ : ∃ nr, nr = r3.length := ⟨_, rfl⟩
  rw [← en] at ev hSl hRr
  subst ev
  have ER := Lib.hid en
  have SS : Hid (∀ i W, i < nr → Grew w3 W → Sl W (U i) (nth r3 i)) := Lib.hid (fun i W hi g => (hSl i hi).grown g)
  have RR : Hid (∀ i W, i < nr → Grew w3 W → ∃ b o, ta = some ⟨b, o, none⟩ ∧ b < W.heap.size ∧ W.cell? ⟨b, o + i, none⟩ = some (U i)) := Lib.hid (fun i W hi g => by
    obtain ⟨b, o, e, hb, z⟩ := hRr i hi
    exact ⟨b, o, e, Nat.lt_of_lt_of_le hb.1 g.size, (Grew.cell g hb.1).trans z⟩)
  have N63 : Hid (nr ≤ 4000) := Lib.hid (by have := VR.out.1; omega)
  clear hU hSl hRr en
  skip
  go_wp2_with fail
  refine ((K.tidy r3 _ _ A3.out).mono fun _ _ h => made_ok (C := fun c => c = r3) ⟨by have := N63.out; have := ER.out; omega, VR.out.2⟩ h).mono ?_
  rintro e w4 ⟨v4, r4, i4, rfl, s4, g4⟩
  have D4 : Grew w3 w4 := Grew.trans (by (repeat' (first | (with_reducible exact Grew.refl _) | (with_reducible assumption) | (with_reducible refine Grew.alloc ?_ _ _) | (with_reducible refine Grew.drew ?_) | (with_reducible refine Grew.drewN ?_ _) | (with_reducible refine Grew.setCell ?_ ?_ _) | go_size))) g4
  have G4 : Grew (w.alloc (.cells #[.int .i64 x.1, .int .i64 x.2] 27)) w4 := Grew.trans G3 D4
  have R4 := Lib.hid (R3.out.grown D4)
  have BK04 := Lib.hid (BK03.out.grown D4)
  have A4 := Lib.hid (A3.out.grown D4)
  clear R3 BK03 A3
  have GTK4 : Grew w3 w4 := D4
  clear g4 D4 G3
  clear x00 x01
  obtain ⟨x00, x01⟩ := blk_two BK04.out
  have B4 := Lib.hid s4
  clear s4
  obtain ⟨c4, ec4, t4⟩ := i4
  rw [ec4] at t4
  have T4 := Lib.hid t4
  clear t4 ec4
  go_wp2_with fail
  refine ((K.valid r3 _ _ A4.out).mono fun _ _ t => t.to VR.out).mono ?_
  rintro e w5 ⟨rfl, g5⟩
  have D5 : Grew w4 w5 := Grew.trans (by (repeat' (first | (with_reducible exact Grew.refl _) | (with_reducible assumption) | (with_reducible refine Grew.alloc ?_ _ _) | (with_reducible refine Grew.drew ?_) | (with_reducible refine Grew.drewN ?_ _) | (with_reducible refine Grew.setCell ?_ ?_ _) | go_size))) g5
  have G5 : Grew (w.alloc (.cells #[.int .i64 x.1, .int .i64 x.2] 27)) w5 := Grew.trans G4 D5
  have R5 := Lib.hid (R4.out.grown D5)
  have BK05 := Lib.hid (BK04.out.grown D5)
  have A5 := Lib.hid (A4.out.grown D5)
  have B5 := Lib.hid (B4.out.grown D5)
  clear R4 BK04 A4 B4
  have GTK5 : Grew w3 w5 := Grew.trans GTK4 D5
  clear g5 D5 G4
  clear x00 x01
  obtain ⟨x00, x01⟩ := blk_two BK05.out
  have hle : ¬ (nl : Int) < (nr : Int) := by have := tidy_len T3.out; have := EN.out; have := ER.out; omega
  by_cases h32 : (nl : Int) ≤ 32
  · have n32 : ¬ (32 : Int) < (nl : Int) := by omega
    have d32 : decide ((32 : Int) < (nl : Int)) = false := decide_eq_false n32
    go_wp2_with fail
    refine ((rsame_c r3 r4 _ _ _ A5.out B5.out).mono fun _ _ t => t.to (tidy_again (by have := EN.out; omega) T3.out T4.out).symm).mono ?_
    rintro e w6 ⟨rfl, g6⟩
    have D6 : Grew w5 w6 := Grew.trans (by (repeat' (first | (with_reducible exact Grew.refl _) | (with_reducible assumption) | (with_reducible refine Grew.alloc ?_ _ _) | (with_reducible refine Grew.drew ?_) | (with_reducible refine Grew.drewN ?_ _) | (with_reducible refine Grew.setCell ?_ ?_ _) | go_size))) g6
    have G6 : Grew (w.alloc (.cells #[.int .i64 x.1, .int .i64 x.2] 27)) w6 := Grew.trans G5 D6
    have R6 := Lib.hid (R5.out.grown D6)
    have BK06 := Lib.hid (BK05.out.grown D6)
    have A6 := Lib.hid (A5.out.grown D6)
    have B6 := Lib.hid (B5.out.grown D6)
    clear R5 BK05 A5 B5
    have GTK6 : Grew w3 w6 := Grew.trans GTK5 D6
    clear g6 D6 G5
    clear x00 x01
    obtain ⟨x00, x01⟩ := blk_two BK06.out
    go_wp2_with fail
    refine (place_t x _).mono ?_
    rintro e w7 ⟨r7, rfl, h7, g7⟩
    have D7 : Grew w6 w7 := Grew.trans (by (repeat' (first | (with_reducible exact Grew.refl _) | (with_reducible assumption) | (with_reducible refine Grew.alloc ?_ _ _) | (with_reducible refine Grew.drew ?_) | (with_reducible refine Grew.drewN ?_ _) | (with_reducible refine Grew.setCell ?_ ?_ _) | go_size))) g7
    have G7 : Grew (w.alloc (.cells #[.int .i64 x.1, .int .i64 x.2] 27)) w7 := Grew.trans G6 D7
    have R7 := Lib.hid (R6.out.grown D7)
    have BK07 := Lib.hid (BK06.out.grown D7)
    have A7 := Lib.hid (A6.out.grown D7)
    have B7 := Lib.hid (B6.out.grown D7)
    clear R6 BK06 A6 B6
    have GTK7 : Grew w3 w7 := Grew.trans GTK6 D7
    clear g7 D7 G6
    clear x00 x01
    obtain ⟨x00, x01⟩ := blk_two BK07.out
    have H7 := Lib.hid h7
    clear h7
    cases r7
    · clear H7
      have GT : Grew w3 w7 := GTK7
      go_wp2_with fail
      go_loopw [5, 12, 13, 89] (fun u _ _ i wr => ∃ n : Nat, n ≤ nr ∧ u = .bool true ∧ i = .int .i64 n ∧ Grew w7 wr) (fun _ _ _ i _ => nr - (intOf i).toNat)
      case atStart => exact ⟨0, Nat.zero_le _, rfl, rfl, Grew.refl _⟩
      case round =>
        obtain ⟨n, hn, rfl, rfl, GV⟩ := hrel
        have hz := N63.out
        by_cases hlt : n < nr
        · have i1 : (n : Int) < (nr : Int) := by omega
          obtain ⟨V1, hV1⟩ : ∃ V1, V1 = wr := ⟨wr, rfl⟩
          subst hV1
          go_wp2_with fail
          go_loopw [5, 13, 94] (fun u _ i wz => ∃ m : Nat, m ≤ nr ∧ u = .bool true ∧ i = .int .i64 m ∧ Grew w7 wz) (fun _ _ i _ => nr - (intOf i).toNat)
          case atStart => exact ⟨0, Nat.zero_le _, rfl, rfl, GV⟩
          case round =>
            obtain ⟨m, hm, rfl, rfl, GZ⟩ := hrel
            by_cases hlm : m < nr
            · have j1 : (m : Int) < (nr : Int) := by omega
              have j0 : (0 : Int) ≤ (m : Int) := by omega
              have i0 : (0 : Int) ≤ (n : Int) := by omega
              by_cases he : n = m
              · subst he
                have he1 : ((n : Int) == (n : Int)) = true := by simp
                go_wp2_with fail
                go_quiet (fail)
                all_goals go_wp2_with fail
                all_goals exact ⟨⟨n + 1, by omega, rfl, by go_num, (by (repeat' (first | (with_reducible exact Grew.refl _) | (with_reducible assumption) | (with_reducible refine Grew.alloc ?_ _ _) | (with_reducible refine Grew.drew ?_) | (with_reducible refine Grew.drewN ?_ _) | (with_reducible refine Grew.setCell ?_ ?_ _) | go_size)))⟩, by simp [intOf]; omega⟩
              have he1 : ((n : Int) == (m : Int)) = false := by simpa using (show ¬ (n : Int) = (m : Int) by omega)
              have he2 : ¬ (n : Int) = (m : Int) := by omega
              obtain ⟨b, o, rfl, hb, z0⟩ := RR.out n wr hlt (Grew.trans GT GZ)
              obtain ⟨b', o', e', _, z1⟩ := RR.out m wr hlm (Grew.trans GT GZ)
              injection e' with e'
              injection e' with e1 e2
              subst e1 e2
              have CC : Hid (∀ W, Grew wr W → Calls Tryz.prog 35 #[U n, U m] W fun e w' => e = .returned (.bool false) ∧ Grew W w') := Lib.hid (fun W g => (lies_sl (nth r3 n) (nth r3 m) _ _ W (SS.out n W hlt (Grew.trans (Grew.trans GT GZ) g)) (SS.out m W hlm (Grew.trans (Grew.trans GT GZ) g)) (VR.out.2 _ (nth_mem (by have := ER.out; omega))) (VR.out.2 _ (nth_mem (by have := ER.out; omega)))).mono fun _ _ t => t.un (tidy_free (by have := EN.out; omega) T3.out (by have := ER.out; omega) (by have := ER.out; omega) (by omega)))
              go_wp2_with fail
              go_region_held3 (fun w' => w'.cell? ⟨b, o + n, none⟩ = some (U n) ∧ w'.cell? ⟨b, o + m, none⟩ = some (U m)) (simp [go_sem, *])
                (first | (go_at_call 35; refine (CC.out _ (by (repeat' (first | (with_reducible exact Grew.refl _) | (with_reducible assumption) | (with_reducible refine Grew.alloc ?_ _ _) | (with_reducible refine Grew.drew ?_) | (with_reducible refine Grew.drewN ?_ _) | (with_reducible refine Grew.setCell ?_ ?_ _) | go_size)))).mono ?_; rintro e w1 ⟨rfl, g1⟩; have GX : Grew wr w1 := Grew.trans (by (repeat' (first | (with_reducible exact Grew.refl _) | (with_reducible assumption) | (with_reducible refine Grew.alloc ?_ _ _) | (with_reducible refine Grew.drew ?_) | (with_reducible refine Grew.drewN ?_ _) | (with_reducible refine Grew.setCell ?_ ?_ _) | go_size))) g1; have y0 := (Grew.cell (o := o + n) GX hb).trans z0; have y1 := (Grew.cell (o := o + m) GX hb).trans z1))
              all_goals have GY := Grew.trans GZ GX
              all_goals go_wp2_with fail
              all_goals exact ⟨⟨m + 1, by omega, rfl, by go_num, (by (repeat' (first | (with_reducible exact Grew.refl _) | (with_reducible assumption) | (with_reducible refine Grew.alloc ?_ _ _) | (with_reducible refine Grew.drew ?_) | (with_reducible refine Grew.drewN ?_ _) | (with_reducible refine Grew.setCell ?_ ?_ _) | go_size)))⟩, by simp [intOf]; omega⟩
            obtain rfl : m = nr := by omega
            go_wp2_with fail
            exact ⟨⟨n + 1, by omega, rfl, by go_num, GZ⟩, by simp [intOf]; omega⟩
        obtain rfl : n = nr := by omega
        go_wp2_with fail
        go_ret
        exact ⟨rfl, GW0.trans (Grew.trans G7 GV)⟩
    have X : Hid (Plc x) := Lib.hid (H7.out.1 rfl)
    clear H7
    go_wp2_with fail
    refine (in_c L x _ _ R7.out VL.out X.out).mono ?_
    rintro e w8 ⟨r8, rfl, h8, g8⟩
    have D8 : Grew w7 w8 := Grew.trans (by (repeat' (first | (with_reducible exact Grew.refl _) | (with_reducible assumption) | (with_reducible refine Grew.alloc ?_ _ _) | (with_reducible refine Grew.drew ?_) | (with_reducible refine Grew.drewN ?_ _) | (with_reducible refine Grew.setCell ?_ ?_ _) | go_size))) g8
    have G8 : Grew (w.alloc (.cells #[.int .i64 x.1, .int .i64 x.2] 27)) w8 := Grew.trans G7 D8
    have R8 := Lib.hid (R7.out.grown D8)
    have BK08 := Lib.hid (BK07.out.grown D8)
    have A8 := Lib.hid (A7.out.grown D8)
    have B8 := Lib.hid (B7.out.grown D8)
    clear R7 BK07 A7 B7
    have GTK8 : Grew w3 w8 := Grew.trans GTK7 D8
    clear g8 D8 G7
    clear x00 x01
    obtain ⟨x00, x01⟩ := blk_two BK08.out
    have H8 := Lib.hid h8
    clear h8
    cases r8
    · clear H8
      have GT : Grew w3 w8 := GTK8
      go_wp2_with fail
      go_loopw [5, 12, 13, 89] (fun u _ _ i wr => ∃ n : Nat, n ≤ nr ∧ u = .bool true ∧ i = .int .i64 n ∧ Grew w8 wr) (fun _ _ _ i _ => nr - (intOf i).toNat)
      case atStart => exact ⟨0, Nat.zero_le _, rfl, rfl, Grew.refl _⟩
      case round =>
        obtain ⟨n, hn, rfl, rfl, GV⟩ := hrel
        have hz := N63.out
        by_cases hlt : n < nr
        · have i1 : (n : Int) < (nr : Int) := by omega
          obtain ⟨V1, hV1⟩ : ∃ V1, V1 = wr := ⟨wr, rfl⟩
          subst hV1
          go_wp2_with fail
          go_loopw [5, 13, 94] (fun u _ i wz => ∃ m : Nat, m ≤ nr ∧ u = .bool true ∧ i = .int .i64 m ∧ Grew w8 wz) (fun _ _ i _ => nr - (intOf i).toNat)
          case atStart => exact ⟨0, Nat.zero_le _, rfl, rfl, GV⟩
          case round =>
            obtain ⟨m, hm, rfl, rfl, GZ⟩ := hrel
            by_cases hlm : m < nr
            · have j1 : (m : Int) < (nr : Int) := by omega
              have j0 : (0 : Int) ≤ (m : Int) := by omega
              have i0 : (0 : Int) ≤ (n : Int) := by omega
              by_cases he : n = m
              · subst he
                have he1 : ((n : Int) == (n : Int)) = true := by simp
                go_wp2_with fail
                go_quiet (fail)
                all_goals go_wp2_with fail
                all_goals exact ⟨⟨n + 1, by omega, rfl, by go_num, (by (repeat' (first | (with_reducible exact Grew.refl _) | (with_reducible assumption) | (with_reducible refine Grew.alloc ?_ _ _) | (with_reducible refine Grew.drew ?_) | (with_reducible refine Grew.drewN ?_ _) | (with_reducible refine Grew.setCell ?_ ?_ _) | go_size)))⟩, by simp [intOf]; omega⟩
              have he1 : ((n : Int) == (m : Int)) = false := by simpa using (show ¬ (n : Int) = (m : Int) by omega)
              have he2 : ¬ (n : Int) = (m : Int) := by omega
              obtain ⟨b, o, rfl, hb, z0⟩ := RR.out n wr hlt (Grew.trans GT GZ)
              obtain ⟨b', o', e', _, z1⟩ := RR.out m wr hlm (Grew.trans GT GZ)
              injection e' with e'
              injection e' with e1 e2
              subst e1 e2
              have CC : Hid (∀ W, Grew wr W → Calls Tryz.prog 35 #[U n, U m] W fun e w' => e = .returned (.bool false) ∧ Grew W w') := Lib.hid (fun W g => (lies_sl (nth r3 n) (nth r3 m) _ _ W (SS.out n W hlt (Grew.trans (Grew.trans GT GZ) g)) (SS.out m W hlm (Grew.trans (Grew.trans GT GZ) g)) (VR.out.2 _ (nth_mem (by have := ER.out; omega))) (VR.out.2 _ (nth_mem (by have := ER.out; omega)))).mono fun _ _ t => t.un (tidy_free (by have := EN.out; omega) T3.out (by have := ER.out; omega) (by have := ER.out; omega) (by omega)))
              go_wp2_with fail
              go_region_held3 (fun w' => w'.cell? ⟨b, o + n, none⟩ = some (U n) ∧ w'.cell? ⟨b, o + m, none⟩ = some (U m)) (simp [go_sem, *])
                (first | (go_at_call 35; refine (CC.out _ (by (repeat' (first | (with_reducible exact Grew.refl _) | (with_reducible assumption) | (with_reducible refine Grew.alloc ?_ _ _) | (with_reducible refine Grew.drew ?_) | (with_reducible refine Grew.drewN ?_ _) | (with_reducible refine Grew.setCell ?_ ?_ _) | go_size)))).mono ?_; rintro e w1 ⟨rfl, g1⟩; have GX : Grew wr w1 := Grew.trans (by (repeat' (first | (with_reducible exact Grew.refl _) | (with_reducible assumption) | (with_reducible refine Grew.alloc ?_ _ _) | (with_reducible refine Grew.drew ?_) | (with_reducible refine Grew.drewN ?_ _) | (with_reducible refine Grew.setCell ?_ ?_ _) | go_size))) g1; have y0 := (Grew.cell (o := o + n) GX hb).trans z0; have y1 := (Grew.cell (o := o + m) GX hb).trans z1))
              all_goals have GY := Grew.trans GZ GX
              all_goals go_wp2_with fail
              all_goals exact ⟨⟨m + 1, by omega, rfl, by go_num, (by (repeat' (first | (with_reducible exact Grew.refl _) | (with_reducible assumption) | (with_reducible refine Grew.alloc ?_ _ _) | (with_reducible refine Grew.drew ?_) | (with_reducible refine Grew.drewN ?_ _) | (with_reducible refine Grew.setCell ?_ ?_ _) | go_size)))⟩, by simp [intOf]; omega⟩
            obtain rfl : m = nr := by omega
            go_wp2_with fail
            exact ⟨⟨n + 1, by omega, rfl, by go_num, GZ⟩, by simp [intOf]; omega⟩
        obtain rfl : n = nr := by omega
        go_wp2_with fail
        go_ret
        exact ⟨rfl, GW0.trans (Grew.trans G8 GV)⟩
    have I8 : Hid (InR L x) := Lib.hid (H8.out.1 rfl)
    clear H8
    go_wp2_with fail
    refine (has_yes K r3 x _ _ A8.out VR.out (tidy_has VL.out T3.out I8.out)).mono ?_
    rintro e w9 ⟨rfl, g9⟩
    have D9 : Grew w8 w9 := Grew.trans (by (repeat' (first | (with_reducible exact Grew.refl _) | (with_reducible assumption) | (with_reducible refine Grew.alloc ?_ _ _) | (with_reducible refine Grew.drew ?_) | (with_reducible refine Grew.drewN ?_ _) | (with_reducible refine Grew.setCell ?_ ?_ _) | go_size))) g9
    have G9 : Grew (w.alloc (.cells #[.int .i64 x.1, .int .i64 x.2] 27)) w9 := Grew.trans G8 D9
    have R9 := Lib.hid (R8.out.grown D9)
    have BK09 := Lib.hid (BK08.out.grown D9)
    have A9 := Lib.hid (A8.out.grown D9)
    have B9 := Lib.hid (B8.out.grown D9)
    clear R8 BK08 A8 B8
    have GTK9 : Grew w3 w9 := Grew.trans GTK8 D9
    clear g9 D9 G8
    clear x00 x01
    obtain ⟨x00, x01⟩ := blk_two BK09.out
    have GT : Grew w3 w9 := GTK9
    go_wp2_with fail
    go_loopw [5, 12, 13, 89] (fun u _ _ i wr => ∃ n : Nat, n ≤ nr ∧ u = .bool true ∧ i = .int .i64 n ∧ Grew w9 wr) (fun _ _ _ i _ => nr - (intOf i).toNat)
    case atStart => exact ⟨0, Nat.zero_le _, rfl, rfl, Grew.refl _⟩
    case round =>
      obtain ⟨n, hn, rfl, rfl, GV⟩ := hrel
      have hz := N63.out
      by_cases hlt : n < nr
      · have i1 : (n : Int) < (nr : Int) := by omega
        obtain ⟨V1, hV1⟩ : ∃ V1, V1 = wr := ⟨wr, rfl⟩
        subst hV1
        go_wp2_with fail
        go_loopw [5, 13, 94] (fun u _ i wz => ∃ m : Nat, m ≤ nr ∧ u = .bool true ∧ i = .int .i64 m ∧ Grew w9 wz) (fun _ _ i _ => nr - (intOf i).toNat)
        case atStart => exact ⟨0, Nat.zero_le _, rfl, rfl, GV⟩
        case round =>
          obtain ⟨m, hm, rfl, rfl, GZ⟩ := hrel
          by_cases hlm : m < nr
          · have j1 : (m : Int) < (nr : Int) := by omega
            have j0 : (0 : Int) ≤ (m : Int) := by omega
            have i0 : (0 : Int) ≤ (n : Int) := by omega
            by_cases he : n = m
            · subst he
              have he1 : ((n : Int) == (n : Int)) = true := by simp
              go_wp2_with fail
              go_quiet (fail)
              all_goals go_wp2_with fail
              all_goals exact ⟨⟨n + 1, by omega, rfl, by go_num, (by (repeat' (first | (with_reducible exact Grew.refl _) | (with_reducible assumption) | (with_reducible refine Grew.alloc ?_ _ _) | (with_reducible refine Grew.drew ?_) | (with_reducible refine Grew.drewN ?_ _) | (with_reducible refine Grew.setCell ?_ ?_ _) | go_size)))⟩, by simp [intOf]; omega⟩
            have he1 : ((n : Int) == (m : Int)) = false := by simpa using (show ¬ (n : Int) = (m : Int) by omega)
            have he2 : ¬ (n : Int) = (m : Int) := by omega
            obtain ⟨b, o, rfl, hb, z0⟩ := RR.out n wr hlt (Grew.trans GT GZ)
            obtain ⟨b', o', e', _, z1⟩ := RR.out m wr hlm (Grew.trans GT GZ)
            injection e' with e'
            injection e' with e1 e2
            subst e1 e2
            have CC : Hid (∀ W, Grew wr W → Calls Tryz.prog 35 #[U n, U m] W fun e w' => e = .returned (.bool false) ∧ Grew W w') := Lib.hid (fun W g => (lies_sl (nth r3 n) (nth r3 m) _ _ W (SS.out n W hlt (Grew.trans (Grew.trans GT GZ) g)) (SS.out m W hlm (Grew.trans (Grew.trans GT GZ) g)) (VR.out.2 _ (nth_mem (by have := ER.out; omega))) (VR.out.2 _ (nth_mem (by have := ER.out; omega)))).mono fun _ _ t => t.un (tidy_free (by have := EN.out; omega) T3.out (by have := ER.out; omega) (by have := ER.out; omega) (by omega)))
            go_wp2_with fail
            go_region_held3 (fun w' => w'.cell? ⟨b, o + n, none⟩ = some (U n) ∧ w'.cell? ⟨b, o + m, none⟩ = some (U m)) (simp [go_sem, *])
              (first | (go_at_call 35; refine (CC.out _ (by (repeat' (first | (with_reducible exact Grew.refl _) | (with_reducible assumption) | (with_reducible refine Grew.alloc ?_ _ _) | (with_reducible refine Grew.drew ?_) | (with_reducible refine Grew.drewN ?_ _) | (with_reducible refine Grew.setCell ?_ ?_ _) | go_size)))).mono ?_; rintro e w1 ⟨rfl, g1⟩; have GX : Grew wr w1 := Grew.trans (by (repeat' (first | (with_reducible exact Grew.refl _) | (with_reducible assumption) | (with_reducible refine Grew.alloc ?_ _ _) | (with_reducible refine Grew.drew ?_) | (with_reducible refine Grew.drewN ?_ _) | (with_reducible refine Grew.setCell ?_ ?_ _) | go_size))) g1; have y0 := (Grew.cell (o := o + n) GX hb).trans z0; have y1 := (Grew.cell (o := o + m) GX hb).trans z1))
            all_goals have GY := Grew.trans GZ GX
            all_goals go_wp2_with fail
            all_goals exact ⟨⟨m + 1, by omega, rfl, by go_num, (by (repeat' (first | (with_reducible exact Grew.refl _) | (with_reducible assumption) | (with_reducible refine Grew.alloc ?_ _ _) | (with_reducible refine Grew.drew ?_) | (with_reducible refine Grew.drewN ?_ _) | (with_reducible refine Grew.setCell ?_ ?_ _) | go_size)))⟩, by simp [intOf]; omega⟩
          obtain rfl : m = nr := by omega
          go_wp2_with fail
          exact ⟨⟨n + 1, by omega, rfl, by go_num, GZ⟩, by simp [intOf]; omega⟩
      obtain rfl : n = nr := by omega
      go_wp2_with fail
      go_ret
      exact ⟨rfl, GW0.trans (Grew.trans G9 GV)⟩
  have n32 : (32 : Int) < (nl : Int) := by omega
  have d32 : decide ((32 : Int) < (nl : Int)) = true := decide_eq_true n32
  go_wp2_with fail
  refine (place_t x _).mono ?_
  rintro e w6 ⟨r7, rfl, h7, g6⟩
  have D6 : Grew w5 w6 := Grew.trans (by (repeat' (first | (with_reducible exact Grew.refl _) | (with_reducible assumption) | (with_reducible refine Grew.alloc ?_ _ _) | (with_reducible refine Grew.drew ?_) | (with_reducible refine Grew.drewN ?_ _) | (with_reducible refine Grew.setCell ?_ ?_ _) | go_size))) g6
  have G6 : Grew (w.alloc (.cells #[.int .i64 x.1, .int .i64 x.2] 27)) w6 := Grew.trans G5 D6
  have R6 := Lib.hid (R5.out.grown D6)
  have BK06 := Lib.hid (BK05.out.grown D6)
  have A6 := Lib.hid (A5.out.grown D6)
  have B6 := Lib.hid (B5.out.grown D6)
  clear R5 BK05 A5 B5
  have GTK6 : Grew w3 w6 := Grew.trans GTK5 D6
  clear g6 D6 G5
  clear x00 x01
  obtain ⟨x00, x01⟩ := blk_two BK06.out
  have H7 := Lib.hid h7
  clear h7
  cases r7
  · clear H7
    have GT : Grew w3 w6 := GTK6
    go_wp2_with fail
    go_loopw [5, 12, 13, 89] (fun u _ _ i wr => ∃ n : Nat, n ≤ nr ∧ u = .bool true ∧ i = .int .i64 n ∧ Grew w6 wr) (fun _ _ _ i _ => nr - (intOf i).toNat)
    case atStart => exact ⟨0, Nat.zero_le _, rfl, rfl, Grew.refl _⟩
    case round =>
      obtain ⟨n, hn, rfl, rfl, GV⟩ := hrel
      have hz := N63.out
      by_cases hlt : n < nr
      · have i1 : (n : Int) < (nr : Int) := by omega
        obtain ⟨V1, hV1⟩ : ∃ V1, V1 = wr := ⟨wr, rfl⟩
        subst hV1
        go_wp2_with fail
        go_loopw [5, 13, 94] (fun u _ i wz => ∃ m : Nat, m ≤ nr ∧ u = .bool true ∧ i = .int .i64 m ∧ Grew w6 wz) (fun _ _ i _ => nr - (intOf i).toNat)
        case atStart => exact ⟨0, Nat.zero_le _, rfl, rfl, GV⟩
        case round =>
          obtain ⟨m, hm, rfl, rfl, GZ⟩ := hrel
          by_cases hlm : m < nr
          · have j1 : (m : Int) < (nr : Int) := by omega
            have j0 : (0 : Int) ≤ (m : Int) := by omega
            have i0 : (0 : Int) ≤ (n : Int) := by omega
            by_cases he : n = m
            · subst he
              have he1 : ((n : Int) == (n : Int)) = true := by simp
              go_wp2_with fail
              go_quiet (fail)
              all_goals go_wp2_with fail
              all_goals exact ⟨⟨n + 1, by omega, rfl, by go_num, (by (repeat' (first | (with_reducible exact Grew.refl _) | (with_reducible assumption) | (with_reducible refine Grew.alloc ?_ _ _) | (with_reducible refine Grew.drew ?_) | (with_reducible refine Grew.drewN ?_ _) | (with_reducible refine Grew.setCell ?_ ?_ _) | go_size)))⟩, by simp [intOf]; omega⟩
            have he1 : ((n : Int) == (m : Int)) = false := by simpa using (show ¬ (n : Int) = (m : Int) by omega)
            have he2 : ¬ (n : Int) = (m : Int) := by omega
            go_wp2_with fail
            go_quiet (fail)
            all_goals go_wp2_with fail
            all_goals exact ⟨⟨m + 1, by omega, rfl, by go_num, (by (repeat' (first | (with_reducible exact Grew.refl _) | (with_reducible assumption) | (with_reducible refine Grew.alloc ?_ _ _) | (with_reducible refine Grew.drew ?_) | (with_reducible refine Grew.drewN ?_ _) | (with_reducible refine Grew.setCell ?_ ?_ _) | go_size)))⟩, by simp [intOf]; omega⟩
          obtain rfl : m = nr := by omega
          go_wp2_with fail
          exact ⟨⟨n + 1, by omega, rfl, by go_num, GZ⟩, by simp [intOf]; omega⟩
      obtain rfl : n = nr := by omega
      go_wp2_with fail
      go_ret
      exact ⟨rfl, GW0.trans (Grew.trans G6 GV)⟩
  have X : Hid (Plc x) := Lib.hid (H7.out.1 rfl)
  clear H7
  go_wp2_with fail
  refine (in_c L x _ _ R6.out VL.out X.out).mono ?_
  rintro e w7 ⟨r8, rfl, h8, g7⟩
  have D7 : Grew w6 w7 := Grew.trans (by (repeat' (first | (with_reducible exact Grew.refl _) | (with_reducible assumption) | (with_reducible refine Grew.alloc ?_ _ _) | (with_reducible refine Grew.drew ?_) | (with_reducible refine Grew.drewN ?_ _) | (with_reducible refine Grew.setCell ?_ ?_ _) | go_size))) g7
  have G7 : Grew (w.alloc (.cells #[.int .i64 x.1, .int .i64 x.2] 27)) w7 := Grew.trans G6 D7
  have R7 := Lib.hid (R6.out.grown D7)
  have BK07 := Lib.hid (BK06.out.grown D7)
  have A7 := Lib.hid (A6.out.grown D7)
  have B7 := Lib.hid (B6.out.grown D7)
  clear R6 BK06 A6 B6
  have GTK7 : Grew w3 w7 := Grew.trans GTK6 D7
  clear g7 D7 G6
  clear x00 x01
  obtain ⟨x00, x01⟩ := blk_two BK07.out
  have H8 := Lib.hid h8
  clear h8
  cases r8
  · clear H8
    have GT : Grew w3 w7 := GTK7
    go_wp2_with fail
    go_loopw [5, 12, 13, 89] (fun u _ _ i wr => ∃ n : Nat, n ≤ nr ∧ u = .bool true ∧ i = .int .i64 n ∧ Grew w7 wr) (fun _ _ _ i _ => nr - (intOf i).toNat)
    case atStart => exact ⟨0, Nat.zero_le _, rfl, rfl, Grew.refl _⟩
    case round =>
      obtain ⟨n, hn, rfl, rfl, GV⟩ := hrel
      have hz := N63.out
      by_cases hlt : n < nr
      · have i1 : (n : Int) < (nr : Int) := by omega
        obtain ⟨V1, hV1⟩ : ∃ V1, V1 = wr := ⟨wr, rfl⟩
        subst hV1
        go_wp2_with fail
        go_loopw [5, 13, 94] (fun u _ i wz => ∃ m : Nat, m ≤ nr ∧ u = .bool true ∧ i = .int .i64 m ∧ Grew w7 wz) (fun _ _ i _ => nr - (intOf i).toNat)
        case atStart => exact ⟨0, Nat.zero_le _, rfl, rfl, GV⟩
        case round =>
          obtain ⟨m, hm, rfl, rfl, GZ⟩ := hrel
          by_cases hlm : m < nr
          · have j1 : (m : Int) < (nr : Int) := by omega
            have j0 : (0 : Int) ≤ (m : Int) := by omega
            have i0 : (0 : Int) ≤ (n : Int) := by omega
            by_cases he : n = m
            · subst he
              have he1 : ((n : Int) == (n : Int)) = true := by simp
              go_wp2_with fail
              go_quiet (fail)
              all_goals go_wp2_with fail
              all_goals exact ⟨⟨n + 1, by omega, rfl, by go_num, (by (repeat' (first | (with_reducible exact Grew.refl _) | (with_reducible assumption) | (with_reducible refine Grew.alloc ?_ _ _) | (with_reducible refine Grew.drew ?_) | (with_reducible refine Grew.drewN ?_ _) | (with_reducible refine Grew.setCell ?_ ?_ _) | go_size)))⟩, by simp [intOf]; omega⟩
            have he1 : ((n : Int) == (m : Int)) = false := by simpa using (show ¬ (n : Int) = (m : Int) by omega)
            have he2 : ¬ (n : Int) = (m : Int) := by omega
            go_wp2_with fail
            go_quiet (fail)
            all_goals go_wp2_with fail
            all_goals exact ⟨⟨m + 1, by omega, rfl, by go_num, (by (repeat' (first | (with_reducible exact Grew.refl _) | (with_reducible assumption) | (with_reducible refine Grew.alloc ?_ _ _) | (with_reducible refine Grew.drew ?_) | (with_reducible refine Grew.drewN ?_ _) | (with_reducible refine Grew.setCell ?_ ?_ _) | go_size)))⟩, by simp [intOf]; omega⟩
          obtain rfl : m = nr := by omega
          go_wp2_with fail
          exact ⟨⟨n + 1, by omega, rfl, by go_num, GZ⟩, by simp [intOf]; omega⟩
      obtain rfl : n = nr := by omega
      go_wp2_with fail
      go_ret
      exact ⟨rfl, GW0.trans (Grew.trans G7 GV)⟩
  have I8 : Hid (InR L x) := Lib.hid (H8.out.1 rfl)
  clear H8
  go_wp2_with fail
  refine (has_yes K r3 x _ _ A7.out VR.out (tidy_has VL.out T3.out I8.out)).mono ?_
  rintro e w8 ⟨rfl, g8⟩
  have D8 : Grew w7 w8 := Grew.trans (by (repeat' (first | (with_reducible exact Grew.refl _) | (with_reducible assumption) | (with_reducible refine Grew.alloc ?_ _ _) | (with_reducible refine Grew.drew ?_) | (with_reducible refine Grew.drewN ?_ _) | (with_reducible refine Grew.setCell ?_ ?_ _) | go_size))) g8
  have G8 : Grew (w.alloc (.cells #[.int .i64 x.1, .int .i64 x.2] 27)) w8 := Grew.trans G7 D8
  have R8 := Lib.hid (R7.out.grown D8)
  have BK08 := Lib.hid (BK07.out.grown D8)
  have A8 := Lib.hid (A7.out.grown D8)
  have B8 := Lib.hid (B7.out.grown D8)
  clear R7 BK07 A7 B7
  have GTK8 : Grew w3 w8 := Grew.trans GTK7 D8
  clear g8 D8 G7
  clear x00 x01
  obtain ⟨x00, x01⟩ := blk_two BK08.out
  have GT : Grew w3 w8 := GTK8
  go_wp2_with fail
  go_loopw [5, 12, 13, 89] (fun u _ _ i wr => ∃ n : Nat, n ≤ nr ∧ u = .bool true ∧ i = .int .i64 n ∧ Grew w8 wr) (fun _ _ _ i _ => nr - (intOf i).toNat)
  case atStart => exact ⟨0, Nat.zero_le _, rfl, rfl, Grew.refl _⟩
  case round =>
    obtain ⟨n, hn, rfl, rfl, GV⟩ := hrel
    have hz := N63.out
    by_cases hlt : n < nr
    · have i1 : (n : Int) < (nr : Int) := by omega
      obtain ⟨V1, hV1⟩ : ∃ V1, V1 = wr := ⟨wr, rfl⟩
      subst hV1
      go_wp2_with fail
      go_loopw [5, 13, 94] (fun u _ i wz => ∃ m : Nat, m ≤ nr ∧ u = .bool true ∧ i = .int .i64 m ∧ Grew w8 wz) (fun _ _ i _ => nr - (intOf i).toNat)
      case atStart => exact ⟨0, Nat.zero_le _, rfl, rfl, GV⟩
      case round =>
        obtain ⟨m, hm, rfl, rfl, GZ⟩ := hrel
        by_cases hlm : m < nr
        · have j1 : (m : Int) < (nr : Int) := by omega
          have j0 : (0 : Int) ≤ (m : Int) := by omega
          have i0 : (0 : Int) ≤ (n : Int) := by omega
          by_cases he : n = m
          · subst he
            have he1 : ((n : Int) == (n : Int)) = true := by simp
            go_wp2_with fail
            go_quiet (fail)
            all_goals go_wp2_with fail
            all_goals exact ⟨⟨n + 1, by omega, rfl, by go_num, (by (repeat' (first | (with_reducible exact Grew.refl _) | (with_reducible assumption) | (with_reducible refine Grew.alloc ?_ _ _) | (with_reducible refine Grew.drew ?_) | (with_reducible refine Grew.drewN ?_ _) | (with_reducible refine Grew.setCell ?_ ?_ _) | go_size)))⟩, by simp [intOf]; omega⟩
          have he1 : ((n : Int) == (m : Int)) = false := by simpa using (show ¬ (n : Int) = (m : Int) by omega)
          have he2 : ¬ (n : Int) = (m : Int) := by omega
          go_wp2_with fail
          go_quiet (fail)
          all_goals go_wp2_with fail
          all_goals exact ⟨⟨m + 1, by omega, rfl, by go_num, (by (repeat' (first | (with_reducible exact Grew.refl _) | (with_reducible assumption) | (with_reducible refine Grew.alloc ?_ _ _) | (with_reducible refine Grew.drew ?_) | (with_reducible refine Grew.drewN ?_ _) | (with_reducible refine Grew.setCell ?_ ?_ _) | go_size)))⟩, by simp [intOf]; omega⟩
        obtain rfl : m = nr := by omega
        go_wp2_with fail
        exact ⟨⟨n + 1, by omega, rfl, by go_num, GZ⟩, by simp [intOf]; omega⟩
    obtain rfl : n = nr := by omega
    go_wp2_with fail
    go_ret
    exact ⟨rfl, GW0.trans (Grew.trans G8 GV)⟩
end Rg
end Go.Proofs.YtlookcbokhknfaaGreat
