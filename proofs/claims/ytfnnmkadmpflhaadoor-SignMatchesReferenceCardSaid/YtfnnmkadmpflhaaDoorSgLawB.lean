/-
  The law SignMatchesReference.
-/
import Derived.Test.YtfnnmkadmpflhaaDoorSgHead
import Derived.Test.YtfnnmkadmpflhaaDoorSgRefC
namespace Go.Proofs.YtfnnmkadmpflhaaDoor
open Go.RowKit Wd
namespace Sg
set_option maxRecDepth 100000

set_option maxHeartbeats 8000000 in
theorem matches_true (a x o E S : Int) (l : List Int) (v : Value) (w : World) (hT : Dg.T w) (hs : Is w v l) (hl : l.length ≤ 9223372036854775807) :
    Calls Tryd.prog 3 #[.int .i64 a, .int .i64 x, .int .i64 o, .agg #[.int .i64 E, .int .i64 S], v] w fun e w' => e = .returned (.bool true) ∧ Grew w w' := by
  have L20 : (l.take 20).length ≤ 100000 := by rw [List.length_take]; omega
  have W0 : Grew w (w.alloc (.cells #[.int .i64 E, .int .i64 S] 23)) := (Grew.refl w).alloc _ _
  have HD := Lib.hid (head_true (w.alloc (.cells #[.int .i64 E, .int .i64 S] 23)) (hT.grew W0))
  have FW := Lib.hid (fun W (g : Grew w W) => few_c l v W (hs.grew g) hl)
  have M1 := Lib.hid (fun W => member_c a W)
  have M2 := Lib.hid (fun W => R.member_c a W)
  have X1 := Lib.hid (fun W => exp_c a x W)
  have X2 := Lib.hid (fun W => R.exp_c a x W)
  have P1 := Lib.hid (fun W => public_c x W)
  have P2 := Lib.hid (fun W => R.public_c x W)
  have S1 := Lib.hid (fun W u (g : Grew w W) (h : Is W u (l.take 20)) => sign_c x o (l.take 20) u W (hT.grew g) h L20)
  have S2 := Lib.hid (fun W u (h : Is W u (l.take 20)) => R.sign_c x o (l.take 20) u W h L20)
  have V1 := Lib.hid (fun W u (g : Grew w W) (h : Is W u (l.take 20)) => verify_c a E S (l.take 20) u W (hT.grew g) h L20)
  have V2 := Lib.hid (fun W u (h : Is W u (l.take 20)) => R.verify_c a E S (l.take 20) u W h L20)
  have T0 := Two.new w E S 23
  obtain ⟨sa, sc, rfl, _⟩ := hs.shape
  clear hT hs L20
  generalize l.take 20 = m at *
  generalize isM a = b1 at *
  generalize FX a x = b2 at *
  generalize GX a x = b3 at *
  generalize FP x = b4 at *
  generalize GP x = b5 at *
  generalize FE x o m = b6 at *
  generalize FS x o m = b7 at *
  generalize GS x o = b8 at *
  generalize FV a E S m = b9 at *
  generalize GV a E S = c1 at *
  go_enter Tryd.func3, Tryd.ntmps3
  go_wp2_with fail
  refine (HD.out).mono ?_
  rintro e w1 ⟨rfl, g1'⟩
  have T1 := T0.grew T0.lt g1'
  have g1 := Grew.trans W0 g1'
  clear g1' T0
  go_wp2_with fail
  refine (FW.out _ g1).mono ?_
  rintro e w2 ⟨u, rfl, hu, rfl⟩
  obtain ⟨ua, uc, rfl, _⟩ := hu.shape
  have H1 := Lib.hid hu
  clear hu
  go_wp2_with fail
  refine (M1.out _).mono ?_
  rintro e w2 ⟨rfl, g2'⟩
  have g2 := Grew.trans g1 g2'
  have H2 := Lib.hid (H1.out.grew g2')
  have T2 := T1.grew T1.lt g2'
  clear g1 g2' H1 T1
  go_wp2_with fail
  refine (M2.out _).mono ?_
  rintro e w3 ⟨rfl, g3'⟩
  have g3 := Grew.trans g2 g3'
  have H3 := Lib.hid (H2.out.grew g3')
  have T3 := T2.grew T2.lt g3'
  clear g2 g3' H2 T2
  go_wp2_with fail
  refine (X1.out _).mono ?_
  rintro e w4 ⟨rfl, g4'⟩
  have g4 := Grew.trans g3 g4'
  have H4 := Lib.hid (H3.out.grew g4')
  have T4 := T3.grew T3.lt g4'
  clear g3 g4' H3 T3
  go_wp2_with fail
  refine (X2.out _).mono ?_
  rintro e w5 ⟨rfl, g5'⟩
  have g5 := Grew.trans g4 g5'
  have H5 := Lib.hid (H4.out.grew g5')
  have T5 := T4.grew T4.lt g5'
  clear g4 g5' H4 T4
  go_wp2_with fail
  refine (P1.out _).mono ?_
  rintro e w6 ⟨rfl, g6'⟩
  have g6 := Grew.trans g5 g6'
  have H6 := Lib.hid (H5.out.grew g6')
  have T6 := T5.grew T5.lt g6'
  clear g5 g6' H5 T5
  go_wp2_with fail
  refine (P2.out _).mono ?_
  rintro e w7 ⟨rfl, g7'⟩
  have g7 := Grew.trans g6 g7'
  have H7 := Lib.hid (H6.out.grew g7')
  have T7 := T6.grew T6.lt g7'
  clear g6 g7' H6 T6
  go_wp2_with fail
  refine (S1.out _ _ g7 H7.out).mono ?_
  rintro e w8 ⟨rfl, g8'⟩
  have g8 := (Grew.trans g7 g8').alloc #[.int .i64 b6, .int .i64 b7] 23
  have H8 := Lib.hid (H7.out.grew (g8'.alloc #[.int .i64 b6, .int .i64 b7] 23))
  have T8 := T7.grew T7.lt (g8'.alloc #[.int .i64 b6, .int .i64 b7] 23)
  have U8 := Two.new w8 b6 b7 23
  clear g7 g8' H7 T7
  go_wp2_with fail
  refine (S2.out _ _ H8.out).mono ?_
  rintro e w9 ⟨rfl, g9'⟩
  have g9 := (Grew.trans g8 g9').alloc #[.int .i64 b6, .int .i64 b7] 23
  have H9 := Lib.hid (H8.out.grew (g9'.alloc #[.int .i64 b6, .int .i64 b7] 23))
  have T9 := T8.grew T8.lt (g9'.alloc #[.int .i64 b6, .int .i64 b7] 23)
  have U9 := U8.grew U8.lt g9'
  obtain ⟨⟨y0, y1⟩, _⟩ := U9
  obtain ⟨⟨x0, x1⟩, _⟩ := T9
  have lt8 : w8.heap.size < w9.heap.size := World.block_lt_of_cell? w9 _ y0
  clear g8 g9' H8 T8 U8
  go_wp2_with fail
  refine (V1.out _ _ g9 H9.out).mono ?_
  rintro e wa ⟨rfl, ga'⟩
  have ga := Grew.trans g9 ga'
  have Ha := Lib.hid (H9.out.grew ga')
  have z0 : wa.cell? ⟨w.heap.size, 0, none⟩ = some (.int .i64 E) := by rw [ga'.cell (World.block_lt_of_cell? _ _ x0)]; exact x0
  have z1 : wa.cell? ⟨w.heap.size, 1, none⟩ = some (.int .i64 S) := by rw [ga'.cell (World.block_lt_of_cell? _ _ x0)]; exact x1
  clear g9 ga' H9
  go_wp2_with fail
  refine (V2.out _ _ Ha.out).mono ?_
  rintro e wb ⟨rfl, gb'⟩
  have gb := Grew.trans ga gb'
  clear ga gb' Ha
  go_wp2_with fail
  go_ret
  exact ⟨by simp, gb⟩
end Sg
end Go.Proofs.YtfnnmkadmpflhaaDoor
