/-
  The law TableCovered.
-/
import Derived.Test.YthdoobgellaheaaTbHead
namespace Go.Proofs.Ythdoobgellaheaa
open Go.RowKit Wd
namespace Tb
set_option maxRecDepth 100000
set_option maxHeartbeats 2000000 in
/-- Without a usable table, or with less than two rows: the example alone. -/
theorem covered_bad (l : List Rw) (x y t a s : Int) (v : Value) (w : World) (hs : Rs w v l) (hl : l.length ≤ 9223372036854775807) (hb : ¬ ((Tbl l ∧ Us t a s) ∧ 2 ≤ l.length)) :
    Calls Try.prog 6 #[v, .int .u8 x, .int .u8 y, .int .i64 t, .int .i64 a, .int .i64 s] w fun e w' => e = .returned (.bool true) ∧ Grew w w' := by
  have HD := Lib.hid head_true
  have U : ∀ W, Grew w W → _ := fun W g => usable_c l t a s v W (hs.grew g)
  obtain ⟨sa, sc, rfl, hsc⟩ := hs.shape
  by_cases h : Tbl l ∧ Us t a s
  · have hn : (l.length : Int) < 2 := by have : ¬ 2 ≤ l.length := fun k => hb ⟨h, k⟩; omega
    rw [decide_eq_true h] at U
    have UC := Lib.hid U
    clear U hs hb h
    go_enter Try.func6, Try.ntmps6
    go_wp2_with fail
    refine (HD.out _).mono ?_
    rintro e0 w0 ⟨rfl, g0⟩
    clear HD
    go_wp2_with fail
    refine (UC.out _ g0).mono ?_
    rintro e1 w1 ⟨rfl, g1'⟩
    have g1 := g0.trans g1'
    clear g0 g1' UC
    go_wp2_with fail
    go_ret
    exact ⟨rfl, g1⟩
  · rw [decide_eq_false h] at U
    have UC := Lib.hid U
    clear U hs hb h
    go_enter Try.func6, Try.ntmps6
    go_wp2_with fail
    refine (HD.out _).mono ?_
    rintro e0 w0 ⟨rfl, g0⟩
    clear HD
    go_wp2_with fail
    refine (UC.out _ g0).mono ?_
    rintro e1 w1 ⟨rfl, g1'⟩
    have g1 := g0.trans g1'
    clear g0 g1' UC
    go_wp2_with fail
    go_ret
    exact ⟨rfl, g1⟩
/-- The two places of the law. -/
theorem places (n : Nat) (h2 : 2 ≤ n) (x y : Int) (hx : 0 ≤ x) (hy : 0 ≤ y) : ∃ m k j : Nat, y.tmod ((n : Int) - 1) = (m : Int) ∧ 1 + (m : Int) = (k : Int) ∧ 0 < k ∧ k < n ∧ x.tmod (k : Int) = (j : Int) ∧ j < k := by
  have e1 : y.tmod ((n : Int) - 1) = y % ((n : Int) - 1) := Int.tmod_eq_emod_of_nonneg hy
  have p1 := Int.emod_nonneg y (b := (n : Int) - 1) (by omega)
  have p2 := Int.emod_lt_of_pos y (b := (n : Int) - 1) (by omega)
  have e2 : ((y % ((n : Int) - 1)).toNat : Int) = y % ((n : Int) - 1) := Int.toNat_of_nonneg p1
  generalize (y % ((n : Int) - 1)).toNat = m at *
  have e3 : x.tmod ((m + 1 : Nat) : Int) = x % ((m + 1 : Nat) : Int) := Int.tmod_eq_emod_of_nonneg hx
  have q1 := Int.emod_nonneg x (b := ((m + 1 : Nat) : Int)) (by omega)
  have q2 := Int.emod_lt_of_pos x (b := ((m + 1 : Nat) : Int)) (by omega)
  refine ⟨m, m + 1, (x % ((m + 1 : Nat) : Int)).toNat, by omega, by omega, by omega, by omega, ?_, ?_⟩
  · rw [e3]; exact (Int.toNat_of_nonneg q1).symm
  · omega
set_option maxHeartbeats 8000000 in
theorem covered_ok (l : List Rw) (x y t a s : Int) (v : Value) (w : World) (hs : Rs w v l) (ht : Tbl l) (hu : Us t a s) (h2 : 2 ≤ l.length) (hx : 0 ≤ x ∧ x ≤ 255) (hy : 0 ≤ y ∧ y ≤ 255) :
    Calls Try.prog 6 #[v, .int .u8 x, .int .u8 y, .int .i64 t, .int .i64 a, .int .i64 s] w fun e w' => e = .returned (.bool true) ∧ Grew w w' := by
  have HD := Lib.hid head_true
  have U : ∀ W, Grew w W → _ := fun W g => usable_c l t a s v W (hs.grew g)
  rw [decide_eq_true ⟨ht, hu⟩] at U
  have UC := Lib.hid U
  obtain ⟨m, k, j, hm, hk, k0, kn, hj, hjk⟩ := places l.length h2 x y hx.1 hy.1
  have l5 : l.length ≤ 50 := ht.1
  obtain ⟨sa, sc, rfl, hsc⟩ := hs.shape
  obtain ⟨b, o, rfl, hr⟩ := hs.row (by omega)
  have HR := Lib.hid hr
  have HS := Lib.hid hs
  have nz : (l.length : Int) - 1 ≠ 0 := by omega
  have nz2 : (k : Int) ≠ 0 := by omega
  have nk : ¬ k = 0 := by omega
  have n2 : ¬ (l.length : Int) < 2 := by omega
  have HT := Lib.hid ht
  have HU := Lib.hid hu
  clear U hs hr ht hu
  go_enter Try.func6, Try.ntmps6
  go_wp2_with fail
  refine (HD.out _).mono ?_
  rintro e0 w0 ⟨rfl, g0⟩
  clear HD
  go_wp2_with fail
  refine (UC.out _ g0).mono ?_
  rintro e1 w1 ⟨rfl, g1'⟩
  have g1 := g0.trans g1'
  clear g0 g1' UC
  go_wp2_with fail
  have hb := (HR.out.grew g1).1
  obtain ⟨q0, q1, q2, q3, q4, q5⟩ := (HR.out.grew g1).at (i := j) (by omega)
  obtain ⟨p0, p1, p2, p3, p4, p5⟩ := (HR.out.grew g1).at kn
  have i0 : (0 : Int) ≤ (k : Int) := by omega
  have i1 : (k : Int) < (l.length : Int) := by omega
  have i2 : (0 : Int) ≤ (j : Int) := by omega
  have i3 : (j : Int) < (l.length : Int) := by omega
  obtain ⟨x0, x1⟩ := hx
  have WX : IntKind.i64.wrap x = x := IntWalk.i64_in _ ⟨by omega, by omega⟩
  have WJ : IntKind.i64.wrap (j : Int) = (j : Int) := IntWalk.i64_in _ ⟨by omega, by omega⟩
  have hb1 : b < w1.heap.size + 1 := by omega
  have hb2 : b < w1.heap.size + 1 + 1 := by omega
  generalize ej : ith l j = r at *
  generalize ek : ith l k = r' at *
  have NA : Hid (∀ W, W = ((w1.alloc (.cells #[.int .i64 r.lo, .int .i64 r.hi, .int .i64 r.age, .int .i64 r.since, .int .i64 r.part, .int .i64 r.turn] 32)).alloc (.cells #[.int .i64 r'.lo, .int .i64 r'.hi, .int .i64 r'.age, .int .i64 r'.since, .int .i64 r'.part, .int .i64 r'.turn] 32)).drew → (W.cell? ⟨w1.heap.size, 0, none⟩ = some (.int .i64 r.lo) ∧ W.cell? ⟨w1.heap.size, 1, none⟩ = some (.int .i64 r.hi) ∧ W.cell? ⟨w1.heap.size, 2, none⟩ = some (.int .i64 r.age) ∧ W.cell? ⟨w1.heap.size, 3, none⟩ = some (.int .i64 r.since)) ∧ (W.cell? ⟨w1.heap.size + 1, 0, none⟩ = some (.int .i64 r'.lo) ∧ W.cell? ⟨w1.heap.size + 1, 1, none⟩ = some (.int .i64 r'.hi) ∧ W.cell? ⟨w1.heap.size + 1, 2, none⟩ = some (.int .i64 r'.age) ∧ W.cell? ⟨w1.heap.size + 1, 3, none⟩ = some (.int .i64 r'.since)) ∧ Grew w1 W) := Lib.hid (by
    rintro W rfl
    refine ⟨?_, ?_, ((((Grew.refl w1).alloc _ _).alloc _ _).drew)⟩ <;> simp [go_sem])
  have NB : Hid (∀ W, W = ((w1.alloc (.cells #[.int .i64 r'.lo, .int .i64 r'.hi, .int .i64 r'.age, .int .i64 r'.since, .int .i64 r'.part, .int .i64 r'.turn] 32)).alloc (.cells #[.int .i64 r.lo, .int .i64 r.hi, .int .i64 r.age, .int .i64 r.since, .int .i64 r.part, .int .i64 r.turn] 32)).drew → (W.cell? ⟨w1.heap.size + 1, 0, none⟩ = some (.int .i64 r.lo) ∧ W.cell? ⟨w1.heap.size + 1, 1, none⟩ = some (.int .i64 r.hi) ∧ W.cell? ⟨w1.heap.size + 1, 2, none⟩ = some (.int .i64 r.age) ∧ W.cell? ⟨w1.heap.size + 1, 3, none⟩ = some (.int .i64 r.since)) ∧ (W.cell? ⟨w1.heap.size, 0, none⟩ = some (.int .i64 r'.lo) ∧ W.cell? ⟨w1.heap.size, 1, none⟩ = some (.int .i64 r'.hi) ∧ W.cell? ⟨w1.heap.size, 2, none⟩ = some (.int .i64 r'.age) ∧ W.cell? ⟨w1.heap.size, 3, none⟩ = some (.int .i64 r'.since)) ∧ Grew w1 W) := Lib.hid (by
    rintro W rfl
    refine ⟨?_, ?_, ((((Grew.refl w1).alloc _ _).alloc _ _).drew)⟩ <;> simp [go_sem])
  go_region_held3 (fun W => W.cell? ⟨b, o + j * 6, none⟩ = some (.int .i64 r.lo) ∧ W.cell? ⟨b, o + j * 6 + 1, none⟩ = some (.int .i64 r.hi) ∧ W.cell? ⟨b, o + j * 6 + 2, none⟩ = some (.int .i64 r.age) ∧ W.cell? ⟨b, o + j * 6 + 3, none⟩ = some (.int .i64 r.since) ∧ W.cell? ⟨b, o + j * 6 + 4, none⟩ = some (.int .i64 r.part) ∧ W.cell? ⟨b, o + j * 6 + 5, none⟩ = some (.int .i64 r.turn) ∧
     W.cell? ⟨b, o + k * 6, none⟩ = some (.int .i64 r'.lo) ∧ W.cell? ⟨b, o + k * 6 + 1, none⟩ = some (.int .i64 r'.hi) ∧ W.cell? ⟨b, o + k * 6 + 2, none⟩ = some (.int .i64 r'.age) ∧ W.cell? ⟨b, o + k * 6 + 3, none⟩ = some (.int .i64 r'.since) ∧ W.cell? ⟨b, o + k * 6 + 4, none⟩ = some (.int .i64 r'.part) ∧ W.cell? ⟨b, o + k * 6 + 5, none⟩ = some (.int .i64 r'.turn)) (simp [go_sem, *]) (fail)
  all_goals (obtain ⟨W, hW⟩ : ∃ W, W = ((w1.alloc (.cells #[.int .i64 r.lo, .int .i64 r.hi, .int .i64 r.age, .int .i64 r.since, .int .i64 r.part, .int .i64 r.turn] 32)).alloc (.cells #[.int .i64 r'.lo, .int .i64 r'.hi, .int .i64 r'.age, .int .i64 r'.since, .int .i64 r'.part, .int .i64 r'.turn] 32)).drew := ⟨_, rfl⟩
             obtain ⟨V, hV⟩ : ∃ W, W = ((w1.alloc (.cells #[.int .i64 r'.lo, .int .i64 r'.hi, .int .i64 r'.age, .int .i64 r'.since, .int .i64 r'.part, .int .i64 r'.turn] 32)).alloc (.cells #[.int .i64 r.lo, .int .i64 r.hi, .int .i64 r.age, .int .i64 r.since, .int .i64 r.part, .int .i64 r.turn] 32)).drew := ⟨_, rfl⟩)
  all_goals first
    | (rw [← hW]; obtain ⟨⟨x0, x1, x2, x3⟩, ⟨y0, y1, y2, y3⟩, G2⟩ := NA.out W hW; clear hW hV; generalize w1.heap.size + 1 = B2 at *; generalize w1.heap.size = B1 at *)
    | (rw [← hV]; obtain ⟨⟨x0, x1, x2, x3⟩, ⟨y0, y1, y2, y3⟩, G2⟩ := NB.out V hV; clear hW hV W; rename World => W; generalize w1.heap.size + 1 = B1 at *; generalize w1.heap.size = B2 at *)
  all_goals (
    rename_i hHeld
    clear hHeld NA NB q0 q1 q2 q3 q4 q5 p0 p1 p2 p3 p4 p5 WX WJ hb1 hb2 nz nz2 nk hm hk hj hb
    have EJ := Lib.hid ej
    have EK := Lib.hid ek
    clear ej ek
    have G3 := g1.trans G2
    clear g1 G2)
  all_goals (
    by_cases c0 : r.lo ≤ r'.lo
    · by_cases c1 : r'.hi ≤ r.hi
      · by_cases c2 : r'.age ≤ r.age
        · by_cases c3 : r'.since ≤ r.since
          · have CV : Hid (Fr t a s r' → Fr t a s r) := Lib.hid (by unfold Fr; omega)
            by_cases hcap : sc = k + 1
            · have hc2 : k + 1 = sc := hcap.symm
              clear hcap
              go_wp2_with fail
              clear y0 y1 y2 y3 x0 x1 x2 x3 c0 c1 c2 c3
              have TK := Lib.hid ((HS.out.grew G3).take (k := k) (by omega))
              have TD : Hid (∀ X a n c, n = 0 → Rs X (.slice a n c) (l.drop (k + 1))) := Lib.hid (fun X a n c hn => by rw [hn, List.drop_eq_nil_of_le (by omega)]; exact Rs.nil X a c)
              have WK : IntKind.i64.wrap ((k : Int) + 1) = (k : Int) + 1 := IntWalk.i64_in _ ⟨by omega, by omega⟩
              have j0 : (0 : Int) ≤ (k : Int) + 1 := by omega
              have j1 : (k : Int) + 1 ≤ (l.length : Int) := by omega
              have j2 : (k : Int) ≤ (sc : Int) := by omega
              have j3 : (l.length : Int) ≤ (sc : Int) := by omega
              have S0 : Grew W W := Grew.refl W
              have LN1 : Hid (([] : List Rw).length + (l.take k).length ≤ 4000000) := Lib.hid (by rw [List.length_nil, List.length_take]; omega)
              have LN2 : Hid ((l.take k).length + (l.drop (k + 1)).length ≤ 4000000) := Lib.hid (by rw [List.length_drop, List.length_take]; omega)
              go_region_held3 (fun X => Grew W X) (first | assumption | exact Grew.drew (by assumption) | exact Grew.alloc (by assumption) _ _) (first
                | ((refine step_rows _ rfl (.tmp 84) (.tmp 88) rfl W.heap.size v4 _ (l.take k) (l.drop (k + 1)) rfl ?_ rfl ?_ ?_ ?_ ?_
                    · exact OW4.out
                    · exact TD.out w4 _ _ _ (by omega)
                    · exact LN2.out
                    · exact S4.size
                    intro v5 w5 own5 gr5
                    have OW5 := Lib.hid own5
                    have S5 : Grew W w5 := OW4.out.app_grew gr5 (Nat.le_refl _) S4
                    clear own5 gr5))
                | ((refine step_rows _ rfl (.tmp 80) (.tmp 83) rfl W.heap.size _ _ [] (l.take k) rfl ?_ rfl ?_ ?_ ?_ ?_
                    · exact Ow.made W.drew (Nat.le_refl _)
                    · exact TK.out.grew (Grew.alloc (Grew.drew S0) _ _)
                    · exact LN1.out
                    · exact (Grew.alloc (Grew.drew S0) _ _).size
                    intro v4 w4 own4 gr4
                    have OW4 : Hid (Ow W.heap.size w4 v4 (l.take k)) := Lib.hid own4
                    have S4 : Grew W w4 := (Ow.made W.drew (Nat.le_refl _)).app_grew gr4 (Nat.le_refl _) (Grew.alloc (Grew.drew S0) _ _)
                    clear own4 gr4)))
              have GW := G3.trans S5
              have SC := same_c l (l.take k ++ l.drop (k + 1)) t a s _ v5 w5 (HS.out.grew GW) OW5.out.rs HT.out (HT.out.less k) HU.out (sy_of (covered hjk kn (by rw [EJ.out, EK.out]; exact CV.out)).symm)
              have SX := Lib.hid SC
              clear SC OW5 OW4 S4 S5 S0 LN1 LN2 TK TD CV WK j0 j1 j2 j3 EJ EK HS HR
              go_wp2_with fail
              refine SX.out.mono ?_
              rintro e6 w6 ⟨rfl, g6⟩
              go_wp2_with fail
              go_ret
              exact ⟨rfl, GW.trans g6⟩
            · go_wp2_with fail
              clear y0 y1 y2 y3 x0 x1 x2 x3 c0 c1 c2 c3
              have TK := Lib.hid ((HS.out.grew G3).take (k := k) (by omega))
              have TD := Lib.hid ((HS.out.grew G3).past (k := k + 1) (by omega) hcap)
              have WK : IntKind.i64.wrap ((k : Int) + 1) = (k : Int) + 1 := IntWalk.i64_in _ ⟨by omega, by omega⟩
              have j0 : (0 : Int) ≤ (k : Int) + 1 := by omega
              have j1 : (k : Int) + 1 ≤ (l.length : Int) := by omega
              have j2 : (k : Int) ≤ (sc : Int) := by omega
              have j3 : (l.length : Int) ≤ (sc : Int) := by omega
              have S0 : Grew W W := Grew.refl W
              have LN1 : Hid (([] : List Rw).length + (l.take k).length ≤ 4000000) := Lib.hid (by rw [List.length_nil, List.length_take]; omega)
              have LN2 : Hid ((l.take k).length + (l.drop (k + 1)).length ≤ 4000000) := Lib.hid (by rw [List.length_drop, List.length_take]; omega)
              go_region_held3 (fun X => Grew W X) (first | assumption | exact Grew.drew (by assumption) | exact Grew.alloc (by assumption) _ _) (first
                | ((refine step_rows _ rfl (.tmp 84) (.tmp 88) rfl W.heap.size v4 _ (l.take k) (l.drop (k + 1)) rfl ?_ rfl ?_ ?_ ?_ ?_
                    · exact OW4.out
                    · exact TD.out.grew S4
                    · exact LN2.out
                    · exact S4.size
                    intro v5 w5 own5 gr5
                    have OW5 := Lib.hid own5
                    have S5 : Grew W w5 := OW4.out.app_grew gr5 (Nat.le_refl _) S4
                    clear own5 gr5))
                | ((refine step_rows _ rfl (.tmp 80) (.tmp 83) rfl W.heap.size _ _ [] (l.take k) rfl ?_ rfl ?_ ?_ ?_ ?_
                    · exact Ow.made W.drew (Nat.le_refl _)
                    · exact TK.out.grew (Grew.alloc (Grew.drew S0) _ _)
                    · exact LN1.out
                    · exact (Grew.alloc (Grew.drew S0) _ _).size
                    intro v4 w4 own4 gr4
                    have OW4 : Hid (Ow W.heap.size w4 v4 (l.take k)) := Lib.hid own4
                    have S4 : Grew W w4 := (Ow.made W.drew (Nat.le_refl _)).app_grew gr4 (Nat.le_refl _) (Grew.alloc (Grew.drew S0) _ _)
                    clear own4 gr4)))
              have GW := G3.trans S5
              have SC := same_c l (l.take k ++ l.drop (k + 1)) t a s _ v5 w5 (HS.out.grew GW) OW5.out.rs HT.out (HT.out.less k) HU.out (sy_of (covered hjk kn (by rw [EJ.out, EK.out]; exact CV.out)).symm)
              have SX := Lib.hid SC
              clear SC OW5 OW4 S4 S5 S0 LN1 LN2 TK TD CV WK j0 j1 j2 j3 EJ EK HS HR
              go_wp2_with fail
              refine SX.out.mono ?_
              rintro e6 w6 ⟨rfl, g6⟩
              go_wp2_with fail
              go_ret
              exact ⟨rfl, GW.trans g6⟩
          · go_wp2_with fail
            go_ret
            exact ⟨rfl, G3⟩
        · go_wp2_with fail
          go_ret
          exact ⟨rfl, G3⟩
      · go_wp2_with fail
        go_ret
        exact ⟨rfl, G3⟩
    · go_wp2_with fail
      go_ret
      exact ⟨rfl, G3⟩)
theorem covered_true (l : List Rw) (x y t a s : Int) (v : Value) (w : World) (hs : Rs w v l) (hl : l.length ≤ 9223372036854775807) (hx : 0 ≤ x ∧ x ≤ 255) (hy : 0 ≤ y ∧ y ≤ 255) :
    Calls Try.prog 6 #[v, .int .u8 x, .int .u8 y, .int .i64 t, .int .i64 a, .int .i64 s] w fun e w' => e = .returned (.bool true) ∧ Grew w w' := by
  by_cases h : (Tbl l ∧ Us t a s) ∧ 2 ≤ l.length
  · exact covered_ok l x y t a s v w hs h.1.1 h.1.2 h.2 hx hy
  · exact covered_bad l x y t a s v w hs hl h
end Tb
end Go.Proofs.Ythdoobgellaheaa
