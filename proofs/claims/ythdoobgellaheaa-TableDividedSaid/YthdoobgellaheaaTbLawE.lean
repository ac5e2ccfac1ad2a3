/-
  The law TableDivided.
-/
import Derived.Test.YthdoobgellaheaaTbBox
import Derived.Deep.Cut
import Derived.Deep.CutRange
import Derived.StillTailTactics
namespace Go.Proofs.Ythdoobgellaheaa
open Go.RowKit Wd
namespace Tb
set_option maxRecDepth 100000
set_option maxHeartbeats 2000000 in
/-- Without a usable table, or with no row, or with 50: the example alone. -/
theorem divided_bad (l : List Rw) (x y t a s : Int) (v : Value) (w : World) (hs : Rs w v l) (hl : l.length ≤ 9223372036854775807) (hb : ¬ ((Tbl l ∧ Us t a s) ∧ (0 < l.length ∧ l.length < 50))) :
    Calls Try.prog 7 #[v, .int .u8 x, .int .u16 y, .int .i64 t, .int .i64 a, .int .i64 s] w fun e w' => e = .returned (.bool true) ∧ Grew w w' := by
  have HD := Lib.hid head_true
  have U : ∀ W, Grew w W → _ := fun W g => usable_c l t a s v W (hs.grew g)
  obtain ⟨sa, sc, rfl, hsc⟩ := hs.shape
  by_cases h : Tbl l ∧ Us t a s
  · rw [decide_eq_true h] at U
    have UC := Lib.hid U
    have hn : ¬ (0 < l.length ∧ l.length < 50) := fun k => hb ⟨h, k⟩
    clear U hs hb h
    generalize l.length = n at *
    by_cases h0 : n = 0
    · subst h0
      go_enter Try.func7, Try.ntmps7
      go_wp2_with fail
      refine (HD.out _).mono ?_
      rintro e0 w0 ⟨rfl, g0⟩
      clear HD
      go_wp2_with fail
      refine (UC.out _ g0).mono ?_
      rintro e1 w1 ⟨rfl, g1'⟩
      have g1 := g0.trans g1'
      clear g0 g1' UC
      go_wp2_with fail
      go_ret
      exact ⟨rfl, g1⟩
    · have n1 : (50 : Int) ≤ (n : Int) := by omega
      have n2 : ((n : Int) == 0) = false := by rw [beq_eq_false_iff_ne]; omega
      go_enter Try.func7, Try.ntmps7
      go_wp2_with fail
      refine (HD.out _).mono ?_
      rintro e0 w0 ⟨rfl, g0⟩
      clear HD
      go_wp2_with fail
      refine (UC.out _ g0).mono ?_
      rintro e1 w1 ⟨rfl, g1'⟩
      have g1 := g0.trans g1'
      clear g0 g1' UC
      go_wp2_with fail
      go_ret
      exact ⟨rfl, g1⟩
  · rw [decide_eq_false h] at U
    have UC := Lib.hid U
    clear U hs hb h
    go_enter Try.func7, Try.ntmps7
    go_wp2_with fail
    refine (HD.out _).mono ?_
    rintro e0 w0 ⟨rfl, g0⟩
    clear HD
    go_wp2_with fail
    refine (UC.out _ g0).mono ?_
    rintro e1 w1 ⟨rfl, g1'⟩
    have g1 := g0.trans g1'
    clear g0 g1' UC
    go_wp2_with fail
    go_ret
    exact ⟨rfl, g1⟩
theorem place_of (n : Nat) (h0 : 0 < n) (x : Int) (hx : 0 ≤ x) : ∃ k : Nat, x.tmod (n : Int) = (k : Int) ∧ k < n := by
  have e1 : x.tmod (n : Int) = x % (n : Int) := Int.tmod_eq_emod_of_nonneg hx
  have q1 := Int.emod_nonneg x (b := (n : Int)) (by omega)
  have q2 := Int.emod_lt_of_pos x (b := (n : Int)) (by omega)
  exact ⟨(x % (n : Int)).toNat, by rw [e1]; exact (Int.toNat_of_nonneg q1).symm, by omega⟩
theorem part_of (d y : Int) (h0 : 0 < d) (hy : 0 ≤ y) : ∃ q : Int, y.tmod d = q ∧ 0 ≤ q ∧ q < d :=
  ⟨_, rfl, Int.tmod_nonneg d hy, by rw [Int.tmod_eq_emod_of_nonneg hy]; exact Int.emod_lt_of_pos y h0⟩
set_option maxHeartbeats 16000000 in
theorem divided_ok (l : List Rw) (x y t a s : Int) (v : Value) (w : World) (hs : Rs w v l) (ht : Tbl l) (hu : Us t a s) (h0 : 0 < l.length) (h5 : l.length < 50) (hx : 0 ≤ x ∧ x ≤ 255) (hy : 0 ≤ y ∧ y ≤ 65535) :
    Calls Try.prog 7 #[v, .int .u8 x, .int .u16 y, .int .i64 t, .int .i64 a, .int .i64 s] w fun e w' => e = .returned (.bool true) ∧ Grew w w' := by
  have HD := Lib.hid head_true
  have U : ∀ W, Grew w W → _ := fun W g => usable_c l t a s v W (hs.grew g)
  rw [decide_eq_true ⟨ht, hu⟩] at U
  have UC := Lib.hid U
  obtain ⟨k, hk, kn⟩ := place_of l.length h0 x hx.1
  obtain ⟨sa, sc, rfl, hsc⟩ := hs.shape
  obtain ⟨b, o, rfl, hr⟩ := hs.row h0
  have HR := Lib.hid hr
  have HS := Lib.hid hs
  have HT := Lib.hid ht
  have HU := Lib.hid hu
  have HK : Hid (k < l.length) := Lib.hid kn
  have H5 : Hid (l.length < 50) := Lib.hid h5
  have RT := ht.rt kn
  clear U hs hr ht hu
  generalize hn : l.length = n at *
  have HN := Lib.hid hn
  clear hn
  have nz : (n : Int) ≠ 0 := by omega
  have nz1 : ((n : Int) == 0) = false := by rw [beq_eq_false_iff_ne]; omega
  have nz2 : ¬ n = 0 := by omega
  have n5 : ¬ (50 : Int) ≤ (n : Int) := by omega
  go_enter Try.func7, Try.ntmps7
  go_wp2_with fail
  refine (HD.out _).mono ?_
  rintro e0 w0 ⟨rfl, g0⟩
  clear HD
  go_wp2_with fail
  refine (UC.out _ g0).mono ?_
  rintro e1 w1 ⟨rfl, g1'⟩
  have g1 := g0.trans g1'
  clear g0 g1' UC
  go_upto_region 5 with fail
  have hb := (HR.out.grew g1).1
  obtain ⟨q0, q1, q2, q3, q4, q5⟩ := (HR.out.grew g1).at (i := k) (by have := HN.out; omega)
  have i0 : (0 : Int) ≤ (k : Int) := by omega
  have i1 : (k : Int) < (n : Int) := by omega
  have hb1 : b < w1.heap.size + 1 := by omega
  have hb2 : b < w1.heap.size + 1 + 1 := by omega
  generalize er : ith l k = r at *
  have ER := Lib.hid er
  clear er
  go_cut [15, 16] from 42 to 49 (fun s15 s16 wx => ∃ B1 B2, s15 = .pointer (some ⟨B1, 0, none⟩) ∧ s16 = .pointer (some ⟨B2, 0, none⟩) ∧ Bx wx B1 r ∧ Bx wx B2 r ∧ B1 ≠ B2 ∧ w1.heap.size ≤ B1 ∧ w1.heap.size ≤ B2 ∧ Grew w1 wx)
  case first =>
    have N1 := Bx.new w1 r
    have N2 := Bx.new (w1.alloc (.cells #[.int .i64 r.lo, .int .i64 r.hi, .int .i64 r.age, .int .i64 r.since, .int .i64 r.part, .int .i64 r.turn] 32)) r
    have N3 := N1.grew (Grew.alloc (Grew.refl _) #[.int .i64 r.lo, .int .i64 r.hi, .int .i64 r.age, .int .i64 r.since, .int .i64 r.part, .int .i64 r.turn] 32)
    rw [World.size_alloc] at N2
    go_region_held3 (fun W => W.cell? ⟨b, o + k * 6, none⟩ = some (.int .i64 r.lo) ∧ W.cell? ⟨b, o + k * 6 + 1, none⟩ = some (.int .i64 r.hi) ∧ W.cell? ⟨b, o + k * 6 + 2, none⟩ = some (.int .i64 r.age) ∧ W.cell? ⟨b, o + k * 6 + 3, none⟩ = some (.int .i64 r.since) ∧ W.cell? ⟨b, o + k * 6 + 4, none⟩ = some (.int .i64 r.part) ∧ W.cell? ⟨b, o + k * 6 + 5, none⟩ = some (.int .i64 r.turn)) (simp [go_sem, *]) (fail)
    all_goals (go_wp2_with fail; go_meet)
    all_goals first
      | exact ⟨_, _, rfl, rfl, N3, N2, by omega, by omega, by omega, (((Grew.refl w1).alloc _ _).alloc _ _).drew⟩
      | exact ⟨_, _, rfl, rfl, N2, N3, by omega, by omega, by omega, (((Grew.refl w1).alloc _ _).alloc _ _).drew⟩
  case rest =>
    obtain ⟨B1, B2, rfl, rfl, X1, X2, hne, le1, le2, gc⟩ := hcut
    clear q0 q1 q2 q3 q4 q5 hb hb1 hb2
    have G2 := g1.trans gc
    obtain ⟨x0, x1, x2, x3, x4, x5⟩ := X1.cells
    by_cases heq : r.lo = r.hi
    · go_wp2_with fail
      go_ret
      exact ⟨rfl, G2⟩
    · have hlt : r.lo < r.hi := by
        unfold Rt at RT
        omega
      obtain ⟨⟨⟨r0, r1⟩, ⟨r2, r3⟩, _⟩, _⟩ := id RT
      obtain ⟨q, hq, p0, p1⟩ := part_of (r.hi - r.lo) y (by omega) hy.1
      have hbe : (r.lo == r.hi) = false := by rw [beq_eq_false_iff_ne]; exact heq
      obtain ⟨f0, f1⟩ := X1.frozen
      obtain ⟨y0, y1, y2, y3, y4, y5⟩ := X2.cells
      obtain ⟨c, hc⟩ : ∃ c, r.lo + q = c := ⟨_, rfl⟩
      have CB : Hid (r.lo ≤ c ∧ c < r.hi) := Lib.hid (by omega)
      obtain ⟨RL, RU⟩ := divided_rt RT CB.out.1 CB.out.2
      have HL := Lib.hid RL
      have HV := Lib.hid RU
      have nd : r.hi - r.lo ≠ 0 := by omega
      have nd2 : ¬ r.hi = r.lo := fun e => heq e.symm
      have WC : IntKind.i64.wrap (r.lo + q) = c := by rw [← hc]; exact IntWalk.i64_in _ ⟨by omega, by omega⟩
      have WD : IntKind.i64.wrap (r.hi - r.lo) = r.hi - r.lo := IntWalk.i64_in _ ⟨by omega, by omega⟩
      have WQ : IntKind.i64.wrap q = q := IntWalk.i64_in _ ⟨by omega, by omega⟩
      have WY : IntKind.i64.wrap y = y := IntWalk.i64_in _ ⟨by omega, by omega⟩
      clear RT RL RU hc p0 p1
      go_upto_region 8 with fail
      go_still_tail 16, (by kernel_rfl)
      change wpList _ _ _ _ _ wc.drew
      have Y1 : Bx wc.drew B1 r := X1
      have Y2 : Bx wc.drew B2 r := X2
      have G3 := G2.drew
      have le3 : w.heap.size ≤ B1 := Nat.le_trans g1.size le1
      have le4 : w.heap.size ≤ B2 := Nat.le_trans g1.size le2
      clear X1 X2 gc G2 x0 x1 x2 x3 x4 x5 y0 y1 y2 y3 y4 y5 f0 f1 WD WC WQ WY nd nd2 hq hbe heq hlt le1 le2 g1
      generalize wc.drew = w2 at *
      obtain ⟨x0, x1, x2, x3, x4, x5⟩ := Y1.cells
      obtain ⟨y0, y1, y2, y3, y4, y5⟩ := Y2.cells
      have f1 := Y1.frozen.2
      have f2 := Y2.frozen.1
      have cb0 : -1000 ≤ c := by have := CB.out; omega
      have cb1 : c < 1000 := by have := CB.out; omega
      have Z1 := ((Y1.hi c).other hne (.int .i64 (c + 1)) (o := 0))
      have Z2 := (Y2.other hne.symm (.int .i64 c) (o := 1)).lo c
      have G4 := (G3.setCell (a := ⟨B1, 1, none⟩) le3 (.int .i64 c)).setCell (a := ⟨B2, 0, none⟩) le4 (.int .i64 (c + 1))
      have hne2 : B2 ≠ B1 := hne.symm
      go_upto_region 10 with fail
      clear Y1 Y2 G3 x0 x1 x2 x3 x4 x5 y0 y1 y2 y3 y4 y5 f1 f2 cb0 cb1 hne2
      generalize (w2.setCell ⟨B1, 1, none⟩ (.int .i64 c)).setCell ⟨B2, 0, none⟩ (.int .i64 (c + 1)) = w9 at *
      clear hne le3 le4
      obtain ⟨p, hp⟩ : ∃ p, lower r c = p := ⟨_, rfl⟩
      obtain ⟨p', hp'⟩ : ∃ p', upper r c = p' := ⟨_, rfl⟩
      rw [hp] at Z1 HL
      rw [hp'] at Z2 HV
      have HP := Lib.hid hp
      have HP' := Lib.hid hp'
      clear hp hp'
      have WK : IntKind.i64.wrap ((k : Int) + 1) = (k : Int) + 1 := IntWalk.i64_in _ ⟨by omega, by omega⟩
      have j0 : (0 : Int) ≤ (k : Int) + 1 := by omega
      have j1 : (k : Int) + 1 ≤ (n : Int) := by omega
      have j2 : (k : Int) ≤ (sc : Int) := by omega
      have j3 : (n : Int) ≤ (sc : Int) := by omega
      have LN1 : Hid (([] : List Rw).length + (l.take k).length ≤ 4000000) := Lib.hid (by have := HN.out; rw [List.length_nil, List.length_take]; omega)
      have LN2 : ∀ x y : Rw, Hid ((l.take k).length + [x, y].length ≤ 4000000) := fun x y => Lib.hid (by have := HN.out; rw [List.length_take]; simp only [List.length_cons, List.length_nil]; omega)
      have LN3 : ∀ x y : Rw, Hid ((l.take k ++ [x, y]).length + (l.drop (k + 1)).length ≤ 4000000) := fun x y => Lib.hid (by have := HN.out; rw [List.length_append, List.length_drop, List.length_take]; simp only [List.length_cons, List.length_nil]; omega)
      go_upto_region 10 with fail
      have XB := Z1
      have YB := Z2
      have TK := Lib.hid ((HS.out.grew (G4)).take (k := k) (by have := HN.out; omega))
      have SS0 := keep_own XB YB (Grew.refl w9)
      go_cut [17] from 80 to 93 (fun s17 wx => Ow w9.heap.size wx s17 ((l.take k ++ [p, p']) ++ l.drop (k + 1)) ∧ Grew w9 wx)
      case first =>
        by_cases hcap : sc = k + 1
        · have hc2 : k + 1 = sc := hcap.symm
          clear hcap
          have TD : Hid (∀ X a n c, n = 0 → Rs X (.slice a n c) (l.drop (k + 1))) := Lib.hid (fun X a n c hn => by rw [hn, List.drop_eq_nil_of_le (by have := HN.out; omega)]; exact Rs.nil X a c)
          go_region_held3 (fun X => ((X.cell? ⟨B1, 0, none⟩ = some (.int .i64 p.lo) ∧ X.cell? ⟨B1, 1, none⟩ = some (.int .i64 p.hi) ∧ X.cell? ⟨B1, 2, none⟩ = some (.int .i64 p.age) ∧ X.cell? ⟨B1, 3, none⟩ = some (.int .i64 p.since) ∧ X.cell? ⟨B1, 4, none⟩ = some (.int .i64 p.part) ∧ X.cell? ⟨B1, 5, none⟩ = some (.int .i64 p.turn)) ∧ (X.cell? ⟨B2, 0, none⟩ = some (.int .i64 p'.lo) ∧ X.cell? ⟨B2, 1, none⟩ = some (.int .i64 p'.hi) ∧ X.cell? ⟨B2, 2, none⟩ = some (.int .i64 p'.age) ∧ X.cell? ⟨B2, 3, none⟩ = some (.int .i64 p'.since) ∧ X.cell? ⟨B2, 4, none⟩ = some (.int .i64 p'.part) ∧ X.cell? ⟨B2, 5, none⟩ = some (.int .i64 p'.turn))) ∧ Grew w9 X) (first | assumption | exact keep_drew (by assumption) | exact keep_alloc (by assumption) _ _) (first
              | ((refine step_rows _ rfl (.tmp 88) (.tmp 92) rfl w9.heap.size v5 _ (l.take k ++ [p, p']) (l.drop (k + 1)) rfl ?_ rfl ?_ ?_ ?_ ?_
                  · exact OW5.out
                  · exact TD.out w5 _ _ _ (by omega)
                  · exact (LN3 _ _).out
                  · exact S5.2.size
                  intro v6 w6 own6 gr6
                  have OW6 : Hid (Ow w9.heap.size w6 v6 ((l.take k ++ [p, p']) ++ l.drop (k + 1))) := Lib.hid own6
                  have S6 := keep_own XB YB (OW5.out.app_grew gr6 (Nat.le_refl _) S5.2)
                  clear own6 gr6))
              | ((refine step_rows _ rfl (.tmp 84) (.tmp 87) rfl w9.heap.size v4 _ (l.take k) [p, p'] rfl ?_ rfl ?_ ?_ ?_ ?_
                  · first | exact OW4.out | exact OW4.out.grew (Grew.alloc (Grew.refl _) _ _)
                  · first | exact RX.out | exact rs_two w4 p p'
                  · exact (LN2 _ _).out
                  · first | exact S4.2.size | exact (Grew.alloc S4.2 _ _).size
                  intro v5 w5 own5 gr5
                  have OW5 : Hid (Ow w9.heap.size w5 v5 (l.take k ++ [p, p'])) := Lib.hid own5
                  have S5 := keep_own XB YB (by first | exact OW4.out.app_grew gr5 (Nat.le_refl _) S4.2 | exact (OW4.out.grew (Grew.alloc (Grew.refl _) _ _)).app_grew gr5 (Nat.le_refl _) (S4.2.alloc _ _))
                  clear own5 gr5))
              | ((refine step_rows _ rfl (.tmp 80) (.tmp 83) rfl w9.heap.size _ _ [] (l.take k) rfl ?_ rfl ?_ ?_ ?_ ?_
                  · exact Ow.made w9.drew (Nat.le_refl _)
                  · exact TK.out.grew (Grew.alloc (Grew.drew (Grew.refl _)) _ _)
                  · exact LN1.out
                  · exact (Grew.alloc (Grew.drew (Grew.refl w9)) _ _).size
                  intro v4 w4 own4 gr4
                  have OW4 : Hid (Ow w9.heap.size w4 v4 (l.take k)) := Lib.hid own4
                  have S4 := keep_own XB YB ((Ow.made w9.drew (Nat.le_refl _)).app_grew gr4 (Nat.le_refl _) (Grew.alloc (Grew.drew (Grew.refl w9)) _ _))
                  clear own4 gr4))
              | ((refine step_rows _ rfl (.tmp 80) (.tmp 83) rfl w9.heap.size _ _ [] (l.take k) rfl ?_ rfl ?_ ?_ ?_ ?_
                  · exact (Ow.made w9.drew (Nat.le_refl _)).grew (Grew.alloc (Grew.refl _) _ _)
                  · exact TK.out.grew (Grew.alloc (Grew.alloc (Grew.drew (Grew.refl _)) _ _) _ _)
                  · exact LN1.out
                  · exact (Grew.alloc (Grew.alloc (Grew.drew (Grew.refl w9)) _ _) _ _).size
                  intro v4 w4 own4 gr4
                  have RX := Lib.hid (rx_b w9 p p' gr4)
                  have OW4 : Hid (Ow w9.heap.size w4 v4 (l.take k)) := Lib.hid own4
                  have S4 := keep_own XB YB (((Ow.made w9.drew (Nat.le_refl _)).grew (Grew.alloc (Grew.refl _) _ _)).app_grew gr4 (Nat.le_refl _) (Grew.alloc (Grew.alloc (Grew.drew (Grew.refl w9)) _ _) _ _))
                  clear own4 gr4))
              | ((refine step_rows _ rfl (.tmp 80) (.tmp 83) rfl w9.heap.size _ _ [] (l.take k) rfl ?_ rfl ?_ ?_ ?_ ?_
                  · exact made_next w9.drew _
                  · exact TK.out.grew (Grew.alloc (Grew.alloc (Grew.drew (Grew.refl _)) _ _) _ _)
                  · exact LN1.out
                  · exact (Grew.alloc (Grew.alloc (Grew.drew (Grew.refl w9)) _ _) _ _).size
                  intro v4 w4 own4 gr4
                  have RX := Lib.hid (rx_c w9 p p' gr4)
                  have OW4 : Hid (Ow w9.heap.size w4 v4 (l.take k)) := Lib.hid own4
                  have S4 := keep_own XB YB ((made_next w9.drew _).app_grew gr4 (Nat.le_refl _) (Grew.alloc (Grew.alloc (Grew.drew (Grew.refl w9)) _ _) _ _))
                  clear own4 gr4)))
          all_goals (go_wp2_with fail; go_meet)
          all_goals exact ⟨OW6.out, S6.2⟩
        · have TD := Lib.hid ((HS.out.grew (G4)).past (k := k + 1) (by have := HN.out; omega) hcap)
          go_region_held3 (fun X => ((X.cell? ⟨B1, 0, none⟩ = some (.int .i64 p.lo) ∧ X.cell? ⟨B1, 1, none⟩ = some (.int .i64 p.hi) ∧ X.cell? ⟨B1, 2, none⟩ = some (.int .i64 p.age) ∧ X.cell? ⟨B1, 3, none⟩ = some (.int .i64 p.since) ∧ X.cell? ⟨B1, 4, none⟩ = some (.int .i64 p.part) ∧ X.cell? ⟨B1, 5, none⟩ = some (.int .i64 p.turn)) ∧ (X.cell? ⟨B2, 0, none⟩ = some (.int .i64 p'.lo) ∧ X.cell? ⟨B2, 1, none⟩ = some (.int .i64 p'.hi) ∧ X.cell? ⟨B2, 2, none⟩ = some (.int .i64 p'.age) ∧ X.cell? ⟨B2, 3, none⟩ = some (.int .i64 p'.since) ∧ X.cell? ⟨B2, 4, none⟩ = some (.int .i64 p'.part) ∧ X.cell? ⟨B2, 5, none⟩ = some (.int .i64 p'.turn))) ∧ Grew w9 X) (first | assumption | exact keep_drew (by assumption) | exact keep_alloc (by assumption) _ _) (first
              | ((refine step_rows _ rfl (.tmp 88) (.tmp 92) rfl w9.heap.size v5 _ (l.take k ++ [p, p']) (l.drop (k + 1)) rfl ?_ rfl ?_ ?_ ?_ ?_
                  · exact OW5.out
                  · exact TD.out.grew S5.2
                  · exact (LN3 _ _).out
                  · exact S5.2.size
                  intro v6 w6 own6 gr6
                  have OW6 : Hid (Ow w9.heap.size w6 v6 ((l.take k ++ [p, p']) ++ l.drop (k + 1))) := Lib.hid own6
                  have S6 := keep_own XB YB (OW5.out.app_grew gr6 (Nat.le_refl _) S5.2)
                  clear own6 gr6))
              | ((refine step_rows _ rfl (.tmp 84) (.tmp 87) rfl w9.heap.size v4 _ (l.take k) [p, p'] rfl ?_ rfl ?_ ?_ ?_ ?_
                  · first | exact OW4.out | exact OW4.out.grew (Grew.alloc (Grew.refl _) _ _)
                  · first | exact RX.out | exact rs_two w4 p p'
                  · exact (LN2 _ _).out
                  · first | exact S4.2.size | exact (Grew.alloc S4.2 _ _).size
                  intro v5 w5 own5 gr5
                  have OW5 : Hid (Ow w9.heap.size w5 v5 (l.take k ++ [p, p'])) := Lib.hid own5
                  have S5 := keep_own XB YB (by first | exact OW4.out.app_grew gr5 (Nat.le_refl _) S4.2 | exact (OW4.out.grew (Grew.alloc (Grew.refl _) _ _)).app_grew gr5 (Nat.le_refl _) (S4.2.alloc _ _))
                  clear own5 gr5))
              | ((refine step_rows _ rfl (.tmp 80) (.tmp 83) rfl w9.heap.size _ _ [] (l.take k) rfl ?_ rfl ?_ ?_ ?_ ?_
                  · exact Ow.made w9.drew (Nat.le_refl _)
                  · exact TK.out.grew (Grew.alloc (Grew.drew (Grew.refl _)) _ _)
                  · exact LN1.out
                  · exact (Grew.alloc (Grew.drew (Grew.refl w9)) _ _).size
                  intro v4 w4 own4 gr4
                  have OW4 : Hid (Ow w9.heap.size w4 v4 (l.take k)) := Lib.hid own4
                  have S4 := keep_own XB YB ((Ow.made w9.drew (Nat.le_refl _)).app_grew gr4 (Nat.le_refl _) (Grew.alloc (Grew.drew (Grew.refl w9)) _ _))
                  clear own4 gr4))
              | ((refine step_rows _ rfl (.tmp 80) (.tmp 83) rfl w9.heap.size _ _ [] (l.take k) rfl ?_ rfl ?_ ?_ ?_ ?_
                  · exact (Ow.made w9.drew (Nat.le_refl _)).grew (Grew.alloc (Grew.refl _) _ _)
                  · exact TK.out.grew (Grew.alloc (Grew.alloc (Grew.drew (Grew.refl _)) _ _) _ _)
                  · exact LN1.out
                  · exact (Grew.alloc (Grew.alloc (Grew.drew (Grew.refl w9)) _ _) _ _).size
                  intro v4 w4 own4 gr4
                  have RX := Lib.hid (rx_b w9 p p' gr4)
                  have OW4 : Hid (Ow w9.heap.size w4 v4 (l.take k)) := Lib.hid own4
                  have S4 := keep_own XB YB (((Ow.made w9.drew (Nat.le_refl _)).grew (Grew.alloc (Grew.refl _) _ _)).app_grew gr4 (Nat.le_refl _) (Grew.alloc (Grew.alloc (Grew.drew (Grew.refl w9)) _ _) _ _))
                  clear own4 gr4))
              | ((refine step_rows _ rfl (.tmp 80) (.tmp 83) rfl w9.heap.size _ _ [] (l.take k) rfl ?_ rfl ?_ ?_ ?_ ?_
                  · exact made_next w9.drew _
                  · exact TK.out.grew (Grew.alloc (Grew.alloc (Grew.drew (Grew.refl _)) _ _) _ _)
                  · exact LN1.out
                  · exact (Grew.alloc (Grew.alloc (Grew.drew (Grew.refl w9)) _ _) _ _).size
                  intro v4 w4 own4 gr4
                  have RX := Lib.hid (rx_c w9 p p' gr4)
                  have OW4 : Hid (Ow w9.heap.size w4 v4 (l.take k)) := Lib.hid own4
                  have S4 := keep_own XB YB ((made_next w9.drew _).app_grew gr4 (Nat.le_refl _) (Grew.alloc (Grew.alloc (Grew.drew (Grew.refl w9)) _ _) _ _))
                  clear own4 gr4)))
          all_goals (go_wp2_with fail; go_meet)
          all_goals exact ⟨OW6.out, S6.2⟩
      case rest =>
        obtain ⟨OA', GA⟩ := hcut
        have OA := Lib.hid OA'
        have Q1 := Z1.grew GA
        have Q2 := Z2.grew GA
        have G5 := G4.trans GA
        clear XB YB TK SS0 OA' Z1 Z2 G4 GA
        obtain ⟨wa, rfl⟩ : ∃ z, z = wc := ⟨_, rfl⟩
        obtain ⟨va, rfl⟩ : ∃ z, z = u17 := ⟨_, rfl⟩
        go_upto_region 11 with fail
        have XB := Q2
        have YB := Q1
        have TK := Lib.hid ((HS.out.grew (G5)).take (k := k) (by have := HN.out; omega))
        have SS0 := keep_own XB YB (Grew.refl wa)
        go_cut [18] from 94 to 107 (fun s17 wx => Ow wa.heap.size wx s17 ((l.take k ++ [p', p]) ++ l.drop (k + 1)) ∧ Grew wa wx)
        case first =>
          by_cases hcap : sc = k + 1
          · have hc2 : k + 1 = sc := hcap.symm
            clear hcap
            have TD : Hid (∀ X a n c, n = 0 → Rs X (.slice a n c) (l.drop (k + 1))) := Lib.hid (fun X a n c hn => by rw [hn, List.drop_eq_nil_of_le (by have := HN.out; omega)]; exact Rs.nil X a c)
            go_region_held3 (fun X => ((X.cell? ⟨B2, 0, none⟩ = some (.int .i64 p'.lo) ∧ X.cell? ⟨B2, 1, none⟩ = some (.int .i64 p'.hi) ∧ X.cell? ⟨B2, 2, none⟩ = some (.int .i64 p'.age) ∧ X.cell? ⟨B2, 3, none⟩ = some (.int .i64 p'.since) ∧ X.cell? ⟨B2, 4, none⟩ = some (.int .i64 p'.part) ∧ X.cell? ⟨B2, 5, none⟩ = some (.int .i64 p'.turn)) ∧ (X.cell? ⟨B1, 0, none⟩ = some (.int .i64 p.lo) ∧ X.cell? ⟨B1, 1, none⟩ = some (.int .i64 p.hi) ∧ X.cell? ⟨B1, 2, none⟩ = some (.int .i64 p.age) ∧ X.cell? ⟨B1, 3, none⟩ = some (.int .i64 p.since) ∧ X.cell? ⟨B1, 4, none⟩ = some (.int .i64 p.part) ∧ X.cell? ⟨B1, 5, none⟩ = some (.int .i64 p.turn))) ∧ Grew wa X) (first | assumption | exact keep_drew (by assumption) | exact keep_alloc (by assumption) _ _) (first
                | ((refine step_rows _ rfl (.tmp 102) (.tmp 106) rfl wa.heap.size v5 _ (l.take k ++ [p', p]) (l.drop (k + 1)) rfl ?_ rfl ?_ ?_ ?_ ?_
                    · exact OW5.out
                    · exact TD.out w5 _ _ _ (by omega)
                    · exact (LN3 _ _).out
                    · exact S5.2.size
                    intro v6 w6 own6 gr6
                    have OW6 : Hid (Ow wa.heap.size w6 v6 ((l.take k ++ [p', p]) ++ l.drop (k + 1))) := Lib.hid own6
                    have S6 := keep_own XB YB (OW5.out.app_grew gr6 (Nat.le_refl _) S5.2)
                    clear own6 gr6))
                | ((refine step_rows _ rfl (.tmp 98) (.tmp 101) rfl wa.heap.size v4 _ (l.take k) [p', p] rfl ?_ rfl ?_ ?_ ?_ ?_
                    · first | exact OW4.out | exact OW4.out.grew (Grew.alloc (Grew.refl _) _ _)
                    · first | exact RX.out | exact rs_two w4 p' p
                    · exact (LN2 _ _).out
                    · first | exact S4.2.size | exact (Grew.alloc S4.2 _ _).size
                    intro v5 w5 own5 gr5
                    have OW5 : Hid (Ow wa.heap.size w5 v5 (l.take k ++ [p', p])) := Lib.hid own5
                    have S5 := keep_own XB YB (by first | exact OW4.out.app_grew gr5 (Nat.le_refl _) S4.2 | exact (OW4.out.grew (Grew.alloc (Grew.refl _) _ _)).app_grew gr5 (Nat.le_refl _) (S4.2.alloc _ _))
                    clear own5 gr5))
                | ((refine step_rows _ rfl (.tmp 94) (.tmp 97) rfl wa.heap.size _ _ [] (l.take k) rfl ?_ rfl ?_ ?_ ?_ ?_
                    · exact Ow.made wa.drew (Nat.le_refl _)
                    · exact TK.out.grew (Grew.alloc (Grew.drew (Grew.refl _)) _ _)
                    · exact LN1.out
                    · exact (Grew.alloc (Grew.drew (Grew.refl wa)) _ _).size
                    intro v4 w4 own4 gr4
                    have OW4 : Hid (Ow wa.heap.size w4 v4 (l.take k)) := Lib.hid own4
                    have S4 := keep_own XB YB ((Ow.made wa.drew (Nat.le_refl _)).app_grew gr4 (Nat.le_refl _) (Grew.alloc (Grew.drew (Grew.refl wa)) _ _))
                    clear own4 gr4))
                | ((refine step_rows _ rfl (.tmp 94) (.tmp 97) rfl wa.heap.size _ _ [] (l.take k) rfl ?_ rfl ?_ ?_ ?_ ?_
                    · exact (Ow.made wa.drew (Nat.le_refl _)).grew (Grew.alloc (Grew.refl _) _ _)
                    · exact TK.out.grew (Grew.alloc (Grew.alloc (Grew.drew (Grew.refl _)) _ _) _ _)
                    · exact LN1.out
                    · exact (Grew.alloc (Grew.alloc (Grew.drew (Grew.refl wa)) _ _) _ _).size
                    intro v4 w4 own4 gr4
                    have RX := Lib.hid (rx_b wa p' p gr4)
                    have OW4 : Hid (Ow wa.heap.size w4 v4 (l.take k)) := Lib.hid own4
                    have S4 := keep_own XB YB (((Ow.made wa.drew (Nat.le_refl _)).grew (Grew.alloc (Grew.refl _) _ _)).app_grew gr4 (Nat.le_refl _) (Grew.alloc (Grew.alloc (Grew.drew (Grew.refl wa)) _ _) _ _))
                    clear own4 gr4))
                | ((refine step_rows _ rfl (.tmp 94) (.tmp 97) rfl wa.heap.size _ _ [] (l.take k) rfl ?_ rfl ?_ ?_ ?_ ?_
                    · exact made_next wa.drew _
                    · exact TK.out.grew (Grew.alloc (Grew.alloc (Grew.drew (Grew.refl _)) _ _) _ _)
                    · exact LN1.out
                    · exact (Grew.alloc (Grew.alloc (Grew.drew (Grew.refl wa)) _ _) _ _).size
                    intro v4 w4 own4 gr4
                    have RX := Lib.hid (rx_c wa p' p gr4)
                    have OW4 : Hid (Ow wa.heap.size w4 v4 (l.take k)) := Lib.hid own4
                    have S4 := keep_own XB YB ((made_next wa.drew _).app_grew gr4 (Nat.le_refl _) (Grew.alloc (Grew.alloc (Grew.drew (Grew.refl wa)) _ _) _ _))
                    clear own4 gr4)))
            all_goals (go_wp2_with fail; go_meet)
            all_goals exact ⟨OW6.out, S6.2⟩
          · have TD := Lib.hid ((HS.out.grew (G5)).past (k := k + 1) (by have := HN.out; omega) hcap)
            go_region_held3 (fun X => ((X.cell? ⟨B2, 0, none⟩ = some (.int .i64 p'.lo) ∧ X.cell? ⟨B2, 1, none⟩ = some (.int .i64 p'.hi) ∧ X.cell? ⟨B2, 2, none⟩ = some (.int .i64 p'.age) ∧ X.cell? ⟨B2, 3, none⟩ = some (.int .i64 p'.since) ∧ X.cell? ⟨B2, 4, none⟩ = some (.int .i64 p'.part) ∧ X.cell? ⟨B2, 5, none⟩ = some (.int .i64 p'.turn)) ∧ (X.cell? ⟨B1, 0, none⟩ = some (.int .i64 p.lo) ∧ X.cell? ⟨B1, 1, none⟩ = some (.int .i64 p.hi) ∧ X.cell? ⟨B1, 2, none⟩ = some (.int .i64 p.age) ∧ X.cell? ⟨B1, 3, none⟩ = some (.int .i64 p.since) ∧ X.cell? ⟨B1, 4, none⟩ = some (.int .i64 p.part) ∧ X.cell? ⟨B1, 5, none⟩ = some (.int .i64 p.turn))) ∧ Grew wa X) (first | assumption | exact keep_drew (by assumption) | exact keep_alloc (by assumption) _ _) (first
                | ((refine step_rows _ rfl (.tmp 102) (.tmp 106) rfl wa.heap.size v5 _ (l.take k ++ [p', p]) (l.drop (k + 1)) rfl ?_ rfl ?_ ?_ ?_ ?_
                    · exact OW5.out
                    · exact TD.out.grew S5.2
                    · exact (LN3 _ _).out
                    · exact S5.2.size
                    intro v6 w6 own6 gr6
                    have OW6 : Hid (Ow wa.heap.size w6 v6 ((l.take k ++ [p', p]) ++ l.drop (k + 1))) := Lib.hid own6
                    have S6 := keep_own XB YB (OW5.out.app_grew gr6 (Nat.le_refl _) S5.2)
                    clear own6 gr6))
                | ((refine step_rows _ rfl (.tmp 98) (.tmp 101) rfl wa.heap.size v4 _ (l.take k) [p', p] rfl ?_ rfl ?_ ?_ ?_ ?_
                    · first | exact OW4.out | exact OW4.out.grew (Grew.alloc (Grew.refl _) _ _)
                    · first | exact RX.out | exact rs_two w4 p' p
                    · exact (LN2 _ _).out
                    · first | exact S4.2.size | exact (Grew.alloc S4.2 _ _).size
                    intro v5 w5 own5 gr5
                    have OW5 : Hid (Ow wa.heap.size w5 v5 (l.take k ++ [p', p])) := Lib.hid own5
                    have S5 := keep_own XB YB (by first | exact OW4.out.app_grew gr5 (Nat.le_refl _) S4.2 | exact (OW4.out.grew (Grew.alloc (Grew.refl _) _ _)).app_grew gr5 (Nat.le_refl _) (S4.2.alloc _ _))
                    clear own5 gr5))
                | ((refine step_rows _ rfl (.tmp 94) (.tmp 97) rfl wa.heap.size _ _ [] (l.take k) rfl ?_ rfl ?_ ?_ ?_ ?_
                    · exact Ow.made wa.drew (Nat.le_refl _)
                    · exact TK.out.grew (Grew.alloc (Grew.drew (Grew.refl _)) _ _)
                    · exact LN1.out
                    · exact (Grew.alloc (Grew.drew (Grew.refl wa)) _ _).size
                    intro v4 w4 own4 gr4
                    have OW4 : Hid (Ow wa.heap.size w4 v4 (l.take k)) := Lib.hid own4
                    have S4 := keep_own XB YB ((Ow.made wa.drew (Nat.le_refl _)).app_grew gr4 (Nat.le_refl _) (Grew.alloc (Grew.drew (Grew.refl wa)) _ _))
                    clear own4 gr4))
                | ((refine step_rows _ rfl (.tmp 94) (.tmp 97) rfl wa.heap.size _ _ [] (l.take k) rfl ?_ rfl ?_ ?_ ?_ ?_
                    · exact (Ow.made wa.drew (Nat.le_refl _)).grew (Grew.alloc (Grew.refl _) _ _)
                    · exact TK.out.grew (Grew.alloc (Grew.alloc (Grew.drew (Grew.refl _)) _ _) _ _)
                    · exact LN1.out
                    · exact (Grew.alloc (Grew.alloc (Grew.drew (Grew.refl wa)) _ _) _ _).size
                    intro v4 w4 own4 gr4
                    have RX := Lib.hid (rx_b wa p' p gr4)
                    have OW4 : Hid (Ow wa.heap.size w4 v4 (l.take k)) := Lib.hid own4
                    have S4 := keep_own XB YB (((Ow.made wa.drew (Nat.le_refl _)).grew (Grew.alloc (Grew.refl _) _ _)).app_grew gr4 (Nat.le_refl _) (Grew.alloc (Grew.alloc (Grew.drew (Grew.refl wa)) _ _) _ _))
                    clear own4 gr4))
                | ((refine step_rows _ rfl (.tmp 94) (.tmp 97) rfl wa.heap.size _ _ [] (l.take k) rfl ?_ rfl ?_ ?_ ?_ ?_
                    · exact made_next wa.drew _
                    · exact TK.out.grew (Grew.alloc (Grew.alloc (Grew.drew (Grew.refl _)) _ _) _ _)
                    · exact LN1.out
                    · exact (Grew.alloc (Grew.alloc (Grew.drew (Grew.refl wa)) _ _) _ _).size
                    intro v4 w4 own4 gr4
                    have RX := Lib.hid (rx_c wa p' p gr4)
                    have OW4 : Hid (Ow wa.heap.size w4 v4 (l.take k)) := Lib.hid own4
                    have S4 := keep_own XB YB ((made_next wa.drew _).app_grew gr4 (Nat.le_refl _) (Grew.alloc (Grew.alloc (Grew.drew (Grew.refl wa)) _ _) _ _))
                    clear own4 gr4)))
            all_goals (go_wp2_with fail; go_meet)
            all_goals exact ⟨OW6.out, S6.2⟩
        case rest =>
          obtain ⟨OB', GB⟩ := hcut
          have RB := Lib.hid OB'.rs
          have RA := Lib.hid (OA.out.rs.grew GB)
          have G6 := G5.trans GB
          clear XB YB TK SS0 OB' Q1 Q2 G5 GB OA
          have kl : k < l.length := by rw [HN.out]; exact kn
          have l5 : l.length < 50 := by rw [HN.out]; exact h5
          have DV := divided t a s (ith l k) c (by rw [ER.out]; exact CB.out.1) (by rw [ER.out]; exact CB.out.2)
          rw [ER.out, HP.out, HP'.out, ← ER.out] at DV
          have C1 := same_c l ((l.take k ++ [p, p']) ++ l.drop (k + 1)) t a s _ va wc (HS.out.grew G6) RA.out HT.out (HT.out.more l5 k kl HL.out HV.out) HU.out (divided_sy kl DV.1)
          have C2 : ∀ W, Grew wc W → _ := fun W g => same_c l ((l.take k ++ [p', p]) ++ l.drop (k + 1)) t a s _ u18 W (HS.out.grew (G6.trans g)) (RB.out.grew g) HT.out (HT.out.more l5 k kl HV.out HL.out) HU.out (divided_sy kl DV.2)
          have D1 := Lib.hid C1
          have D2 := Lib.hid C2
          clear C1 C2 DV RA RB ER HP HP' HN HS HR HT HU HL HV LN1 LN2 LN3 WK j0 j1 j2 j3 kl l5
          go_wp2_with fail
          refine D1.out.mono ?_
          rintro e6 w6 ⟨rfl, g6⟩
          go_wp2_with fail
          refine (D2.out _ g6).mono ?_
          rintro e7 w7 ⟨rfl, g7⟩
          go_wp2_with fail
          go_ret
          exact ⟨rfl, (G6.trans g6).trans g7⟩
theorem divided_true (l : List Rw) (x y t a s : Int) (v : Value) (w : World) (hs : Rs w v l) (hl : l.length ≤ 9223372036854775807) (hx : 0 ≤ x ∧ x ≤ 255) (hy : 0 ≤ y ∧ y ≤ 65535) :
    Calls Try.prog 7 #[v, .int .u8 x, .int .u16 y, .int .i64 t, .int .i64 a, .int .i64 s] w fun e w' => e = .returned (.bool true) ∧ Grew w w' := by
  by_cases h : (Tbl l ∧ Us t a s) ∧ (0 < l.length ∧ l.length < 50)
  · exact divided_ok l x y t a s v w hs h.1.1 h.1.2 h.2.1 h.2.2 hx hy
  · exact divided_bad l x y t a s v w hs hl h
end Tb
end Go.Proofs.Ythdoobgellaheaa
