/-
  The law TideMatchesReference.
-/
import Derived.Test.YtpiajdahmcelnaaGreatMTdZh
namespace Go.Proofs.YtpiajdahmcelnaaGreat
open Go.RowKit Hl
namespace Td
set_option maxRecDepth 100000
set_option maxHeartbeats 64000000 in
theorem matches_true (K : Hl.Code) (t : Ed) (u : Value) (lo hi : Pt) (c d : Int) (w : World) (hs : Rs w u t.l) (hl : t.l.length ≤ 9223372036854775807) :
    Calls Tryz.prog 3 #[tv t u, .agg #[.int .i64 lo.1, .int .i64 lo.2], .agg #[.int .i64 hi.1, .int .i64 hi.2], .int .i64 c, .int .i64 d] w fun e w' => e = .returned (.bool true) ∧ Grew w w' := by
  obtain ⟨P, P', m, PU, PL, D1, D2⟩ := both_drift K t u lo hi c d w hs hl
  obtain ⟨ua, uc, rfl, _⟩ := hs.shape
  have HD : Hid (∀ W, Calls Tryz.prog 4 #[] W fun e w' => e = .returned (.bool true) ∧ Grew W w') := Lib.hid (fun W => head_true K W)
  have FC : Hid (∀ W, Grew w W → Calls Tryz.prog 5 #[.agg #[.int .i64 t.v, .int .i64 t.z, .int .i64 t.n, .int .i64 t.r.x, .int .i64 t.r.y, .int .i64 t.r.s, .int .i64 t.r.k.a, .int .i64 t.r.k.b, .int .i64 t.r.k.c, .int .i64 t.r.k.d, .int .i64 t.r.k.e, .int .i64 t.r.k.f, .slice ua t.l.length uc], .agg #[.int .i64 lo.1, .int .i64 lo.2], .agg #[.int .i64 hi.1, .int .i64 hi.2], .int .i64 c, .int .i64 d] W fun e w' => e = .returned (.bool (decide (R.Few t.l.length t.n lo hi c d))) ∧ Grew W w') := Lib.hid (fun W g => R.few_c t _ lo hi c d W (hs.grew g) hl)
  have A1 : Hid (∀ W, Grew w W → Calls Tryz.prog 6 #[.agg #[.int .i64 t.v, .int .i64 t.z, .int .i64 t.n, .int .i64 t.r.x, .int .i64 t.r.y, .int .i64 t.r.s, .int .i64 t.r.k.a, .int .i64 t.r.k.b, .int .i64 t.r.k.c, .int .i64 t.r.k.d, .int .i64 t.r.k.e, .int .i64 t.r.k.f, .slice ua t.l.length uc], .agg #[.int .i64 lo.1, .int .i64 lo.2], .int .i64 c] W fun e w' => e = .returned (.tuple #[.agg #[.int .i64 0, .int .i64 0, .int .i64 0, .int .i64 (bA t lo lo c c).1.a, .int .i64 (bA t lo lo c c).1.b, .int .i64 (bA t lo lo c c).1.c, .int .i64 (bA t lo lo c c).1.d, .int .i64 (bA t lo lo c c).1.e, .int .i64 (bA t lo lo c c).1.f], .int .i64 (bA t lo lo c c).2]) ∧ Grew W w') := Lib.hid (fun W g => at_c K t _ lo c W (hs.grew g) hl)
  have A2 : Hid (∀ W, Grew w W → Calls Tryz.prog 7 #[.agg #[.int .i64 t.v, .int .i64 t.z, .int .i64 t.n, .int .i64 t.r.x, .int .i64 t.r.y, .int .i64 t.r.s, .int .i64 t.r.k.a, .int .i64 t.r.k.b, .int .i64 t.r.k.c, .int .i64 t.r.k.d, .int .i64 t.r.k.e, .int .i64 t.r.k.f, .slice ua t.l.length uc], .agg #[.int .i64 lo.1, .int .i64 lo.2], .int .i64 c] W fun e w' => e = .returned (.tuple #[.agg #[.int .i64 0, .int .i64 0, .int .i64 0, .int .i64 (bA t lo lo c c).1.a, .int .i64 (bA t lo lo c c).1.b, .int .i64 (bA t lo lo c c).1.c, .int .i64 (bA t lo lo c c).1.d, .int .i64 (bA t lo lo c c).1.e, .int .i64 (bA t lo lo c c).1.f], .int .i64 (bA t lo lo c c).2]) ∧ Grew W w') := Lib.hid (fun W g => R.at_c t _ lo c W (hs.grew g) hl)
  have B1 : Hid (∀ W, Grew w W → Calls Tryz.prog 10 #[.agg #[.int .i64 t.v, .int .i64 t.z, .int .i64 t.n, .int .i64 t.r.x, .int .i64 t.r.y, .int .i64 t.r.s, .int .i64 t.r.k.a, .int .i64 t.r.k.b, .int .i64 t.r.k.c, .int .i64 t.r.k.d, .int .i64 t.r.k.e, .int .i64 t.r.k.f, .slice ua t.l.length uc], .agg #[.int .i64 lo.1, .int .i64 lo.2], .agg #[.int .i64 hi.1, .int .i64 hi.2], .int .i64 c, .int .i64 d] W fun e w' => e = .returned (.tuple #[.agg #[.int .i64 0, .int .i64 0, .int .i64 0, .int .i64 (bA t lo hi c d).1.a, .int .i64 (bA t lo hi c d).1.b, .int .i64 (bA t lo hi c d).1.c, .int .i64 (bA t lo hi c d).1.d, .int .i64 (bA t lo hi c d).1.e, .int .i64 (bA t lo hi c d).1.f], .int .i64 (bA t lo hi c d).2]) ∧ Grew W w') := Lib.hid (fun W g => bound_c K t _ lo hi c d W (hs.grew g) hl)
  have B2 : Hid (∀ W, Grew w W → Calls Tryz.prog 11 #[.agg #[.int .i64 t.v, .int .i64 t.z, .int .i64 t.n, .int .i64 t.r.x, .int .i64 t.r.y, .int .i64 t.r.s, .int .i64 t.r.k.a, .int .i64 t.r.k.b, .int .i64 t.r.k.c, .int .i64 t.r.k.d, .int .i64 t.r.k.e, .int .i64 t.r.k.f, .slice ua t.l.length uc], .agg #[.int .i64 lo.1, .int .i64 lo.2], .agg #[.int .i64 hi.1, .int .i64 hi.2], .int .i64 c, .int .i64 d] W fun e w' => e = .returned (.tuple #[.agg #[.int .i64 0, .int .i64 0, .int .i64 0, .int .i64 (bA t lo hi c d).1.a, .int .i64 (bA t lo hi c d).1.b, .int .i64 (bA t lo hi c d).1.c, .int .i64 (bA t lo hi c d).1.d, .int .i64 (bA t lo hi c d).1.e, .int .i64 (bA t lo hi c d).1.f], .int .i64 (bA t lo hi c d).2]) ∧ Grew W w') := Lib.hid (fun W g => R.bound_c t _ lo hi c d W (hs.grew g) hl)
  have V1 : Hid (∀ W, Grew w W → Calls Tryz.prog 8 #[.agg #[.int .i64 t.v, .int .i64 t.z, .int .i64 t.n, .int .i64 t.r.x, .int .i64 t.r.y, .int .i64 t.r.s, .int .i64 t.r.k.a, .int .i64 t.r.k.b, .int .i64 t.r.k.c, .int .i64 t.r.k.d, .int .i64 t.r.k.e, .int .i64 t.r.k.f, .slice ua t.l.length uc]] W fun e w' => e = .returned (.bool (decide (Tok t))) ∧ Grew W w') := Lib.hid (fun W g => valid_c t _ W (hs.grew g) hl)
  have V2 : Hid (∀ W, Grew w W → Calls Tryz.prog 9 #[.agg #[.int .i64 t.v, .int .i64 t.z, .int .i64 t.n, .int .i64 t.r.x, .int .i64 t.r.y, .int .i64 t.r.s, .int .i64 t.r.k.a, .int .i64 t.r.k.b, .int .i64 t.r.k.c, .int .i64 t.r.k.d, .int .i64 t.r.k.e, .int .i64 t.r.k.f, .slice ua t.l.length uc]] W fun e w' => e = .returned (.bool (decide (Tok t))) ∧ Grew W w') := Lib.hid (fun W g => R.valid_c t _ W (hs.grew g) hl)
  have SM : Hid (∀ (W : World) (v v' : Value) (q q' : List Pt), P q → P' q' → Sl W v q → Sl W v' q' → Calls Tryz.prog 14 #[v, v'] W fun e w' => e = .returned (.bool true) ∧ Grew W w') := Lib.hid (fun W v v' q q' h1 h2 s1 s2 => by
    refine (same_any q q' v v' W s1 s2 (PL q h1)).mono ?_
    rintro e w' ⟨r, rfl, hr, g⟩
    exact ⟨by rw [hr.2 (PU q q' h1 h2)], g⟩)
  have D1 := Lib.hid D1
  have D2 := Lib.hid D2
  clear hs hl K PU PL
  unfold tv at D1 D2 ⊢
  generalize (bA t lo lo c c).1 = k1 at *
  generalize (bA t lo lo c c).2 = m1 at *
  generalize (bA t lo hi c d).1 = k2 at *
  generalize (bA t lo hi c d).2 = m2 at *
  generalize decide (Tok t) = vt at *
  generalize hfw : decide (R.Few t.l.length t.n lo hi c d) = fw at FC
  have HT : Hid (∀ W, Grew (((w.alloc (.cells #[.int .i64 t.v, .int .i64 t.z, .int .i64 t.n, .int .i64 t.r.x, .int .i64 t.r.y, .int .i64 t.r.s, .int .i64 t.r.k.a, .int .i64 t.r.k.b, .int .i64 t.r.k.c, .int .i64 t.r.k.d, .int .i64 t.r.k.e, .int .i64 t.r.k.f, .slice ua t.l.length uc] 28)).alloc (.cells #[.int .i64 lo.1, .int .i64 lo.2] 30)).alloc (.cells #[.int .i64 hi.1, .int .i64 hi.2] 30)) W → ((W.cell? ⟨w.heap.size, 0, none⟩ = some (.int .i64 t.v) ∧ W.cell? ⟨w.heap.size, 1, none⟩ = some (.int .i64 t.z) ∧ W.cell? ⟨w.heap.size, 2, none⟩ = some (.int .i64 t.n) ∧ W.cell? ⟨w.heap.size, 3, none⟩ = some (.int .i64 t.r.x) ∧ W.cell? ⟨w.heap.size, 4, none⟩ = some (.int .i64 t.r.y) ∧ W.cell? ⟨w.heap.size, 5, none⟩ = some (.int .i64 t.r.s) ∧ W.cell? ⟨w.heap.size, 6, none⟩ = some (.int .i64 t.r.k.a) ∧ W.cell? ⟨w.heap.size, 7, none⟩ = some (.int .i64 t.r.k.b) ∧ W.cell? ⟨w.heap.size, 8, none⟩ = some (.int .i64 t.r.k.c) ∧ W.cell? ⟨w.heap.size, 9, none⟩ = some (.int .i64 t.r.k.d) ∧ W.cell? ⟨w.heap.size, 10, none⟩ = some (.int .i64 t.r.k.e) ∧ W.cell? ⟨w.heap.size, 11, none⟩ = some (.int .i64 t.r.k.f) ∧ W.cell? ⟨w.heap.size, 12, none⟩ = some (.slice ua t.l.length uc) ∧ W.cell? ⟨w.heap.size + 1, 0, none⟩ = some (.int .i64 lo.1) ∧ W.cell? ⟨w.heap.size + 1, 1, none⟩ = some (.int .i64 lo.2) ∧ W.cell? ⟨w.heap.size + 1 + 1, 0, none⟩ = some (.int .i64 hi.1) ∧ W.cell? ⟨w.heap.size + 1 + 1, 1, none⟩ = some (.int .i64 hi.2)) ∧ w.heap.size < W.heap.size ∧ w.heap.size + 1 < W.heap.size ∧ w.heap.size + 1 + 1 < W.heap.size)) := Lib.hid (fun W g => by
    have b0 := (((Blk.new w #[.int .i64 t.v, .int .i64 t.z, .int .i64 t.n, .int .i64 t.r.x, .int .i64 t.r.y, .int .i64 t.r.s, .int .i64 t.r.k.a, .int .i64 t.r.k.b, .int .i64 t.r.k.c, .int .i64 t.r.k.d, .int .i64 t.r.k.e, .int .i64 t.r.k.f, .slice ua t.l.length uc] 28).alloc (.cells #[.int .i64 lo.1, .int .i64 lo.2] 30)).alloc (.cells #[.int .i64 hi.1, .int .i64 hi.2] 30)).grown g
    have b1 := ((blkN (W := w.alloc (.cells #[.int .i64 t.v, .int .i64 t.z, .int .i64 t.n, .int .i64 t.r.x, .int .i64 t.r.y, .int .i64 t.r.s, .int .i64 t.r.k.a, .int .i64 t.r.k.b, .int .i64 t.r.k.c, .int .i64 t.r.k.d, .int .i64 t.r.k.e, .int .i64 t.r.k.f, .slice ua t.l.length uc] 28)) (k := w.heap.size + 1) (cs := #[.int .i64 lo.1, .int .i64 lo.2]) (t := 30) (by simp)).alloc (.cells #[.int .i64 hi.1, .int .i64 hi.2] 30)).grown g
    have b2 := (blkN (W := (w.alloc (.cells #[.int .i64 t.v, .int .i64 t.z, .int .i64 t.n, .int .i64 t.r.x, .int .i64 t.r.y, .int .i64 t.r.s, .int .i64 t.r.k.a, .int .i64 t.r.k.b, .int .i64 t.r.k.c, .int .i64 t.r.k.d, .int .i64 t.r.k.e, .int .i64 t.r.k.f, .slice ua t.l.length uc] 28)).alloc (.cells #[.int .i64 lo.1, .int .i64 lo.2] 30)) (k := w.heap.size + 1 + 1) (cs := #[.int .i64 hi.1, .int .i64 hi.2]) (t := 30) (by simp)).grown g
    exact ⟨⟨blkAt b0 rfl, blkAt b0 rfl, blkAt b0 rfl, blkAt b0 rfl, blkAt b0 rfl, blkAt b0 rfl, blkAt b0 rfl, blkAt b0 rfl, blkAt b0 rfl, blkAt b0 rfl, blkAt b0 rfl, blkAt b0 rfl, blkAt b0 rfl, blkAt b1 rfl, blkAt b1 rfl, blkAt b2 rfl, blkAt b2 rfl⟩, b0.lt, b1.lt, b2.lt⟩)
  have G0 : Hid (Grew w (((w.alloc (.cells #[.int .i64 t.v, .int .i64 t.z, .int .i64 t.n, .int .i64 t.r.x, .int .i64 t.r.y, .int .i64 t.r.s, .int .i64 t.r.k.a, .int .i64 t.r.k.b, .int .i64 t.r.k.c, .int .i64 t.r.k.d, .int .i64 t.r.k.e, .int .i64 t.r.k.f, .slice ua t.l.length uc] 28)).alloc (.cells #[.int .i64 lo.1, .int .i64 lo.2] 30)).alloc (.cells #[.int .i64 hi.1, .int .i64 hi.2] 30))) := Lib.hid (((Grew.refl w).alloc _ _).alloc _ _ |>.alloc _ _)
  go_enter Tryz.func3, Tryz.ntmps3
  go_wp2_with fail
  refine (HD.out _).mono ?_
  rintro e w1 ⟨rfl, GW⟩
  obtain ⟨Z, hZ⟩ : ∃ Z, ((w.alloc (.cells #[.int .i64 t.v, .int .i64 t.z, .int .i64 t.n, .int .i64 t.r.x, .int .i64 t.r.y, .int .i64 t.r.s, .int .i64 t.r.k.a, .int .i64 t.r.k.b, .int .i64 t.r.k.c, .int .i64 t.r.k.d, .int .i64 t.r.k.e, .int .i64 t.r.k.f, .slice ua t.l.length uc] 28)).alloc (.cells #[.int .i64 lo.1, .int .i64 lo.2] 30)).alloc (.cells #[.int .i64 hi.1, .int .i64 hi.2] 30) = Z := ⟨_, rfl⟩
  rw [hZ] at HT G0 GW
  clear hZ HD hfw
  obtain ⟨⟨t0, t1, t2, t3, t4, t5, t6, t7, t8, t9, t10, t11, t12, l0, l1, h0, h1⟩, q0, q1, q2⟩ := HT.out _ GW
  go_wp2_with fail
  refine (FC.out _ (G0.out.trans GW)).mono ?_
  rintro e w2 ⟨rfl, g2⟩
  have GW := GW.trans g2
  clear g2 
  clear t0 t1 t2 t3 t4 t5 t6 t7 t8 t9 t10 t11 t12 l0 l1 h0 h1 q0 q1 q2
  obtain ⟨⟨t0, t1, t2, t3, t4, t5, t6, t7, t8, t9, t10, t11, t12, l0, l1, h0, h1⟩, q0, q1, q2⟩ := HT.out _ GW
  cases fw
  · go_wp2_with fail
    go_ret
    exact ⟨rfl, G0.out.trans GW⟩
  · go_wp2_with fail
    refine (A1.out _ (G0.out.trans GW)).mono ?_
    rintro e w3 ⟨rfl, g3⟩
    have GW := GW.trans g3
    clear g3 
    clear t0 t1 t2 t3 t4 t5 t6 t7 t8 t9 t10 t11 t12 l0 l1 h0 h1 q0 q1 q2
    obtain ⟨⟨t0, t1, t2, t3, t4, t5, t6, t7, t8, t9, t10, t11, t12, l0, l1, h0, h1⟩, q0, q1, q2⟩ := HT.out _ GW
    go_wp2_with fail
    obtain ⟨w4, hw⟩ : ∃ W, w3.alloc (.cells #[.int .i64 0, .int .i64 0, .int .i64 0, .int .i64 k1.a, .int .i64 k1.b, .int .i64 k1.c, .int .i64 k1.d, .int .i64 k1.e, .int .i64 k1.f] 25) = W := ⟨_, rfl⟩
    obtain ⟨bX, hbX⟩ : ∃ b, w3.heap.size = b := ⟨_, rfl⟩
    have X : Hid (Blk w4 bX #[.int .i64 0, .int .i64 0, .int .i64 0, .int .i64 k1.a, .int .i64 k1.b, .int .i64 k1.c, .int .i64 k1.d, .int .i64 k1.e, .int .i64 k1.f] 25) := Lib.hid (by rw [← hw, ← hbX]; exact Blk.new _ _ _)
    have oX : Z.heap.size ≤ bX := by rw [← hbX]; exact GW.size
    have g4 : Grew w3 w4 := by rw [← hw]; exact (Grew.refl _).alloc _ _
    have GW := GW.trans g4
    try rw [hw]
    try rw [hbX]
    clear hw hbX g4
    clear t0 t1 t2 t3 t4 t5 t6 t7 t8 t9 t10 t11 t12 l0 l1 h0 h1 q0 q1 q2
    obtain ⟨⟨t0, t1, t2, t3, t4, t5, t6, t7, t8, t9, t10, t11, t12, l0, l1, h0, h1⟩, q0, q1, q2⟩ := HT.out _ GW
    have xb := X.out.lt
    have x0 := blkAt X.out (i := 0) rfl
    have x1 := blkAt X.out (i := 1) rfl
    have x2 := blkAt X.out (i := 2) rfl
    have x3 := blkAt X.out (i := 3) rfl
    have x4 := blkAt X.out (i := 4) rfl
    have x5 := blkAt X.out (i := 5) rfl
    have x6 := blkAt X.out (i := 6) rfl
    have x7 := blkAt X.out (i := 7) rfl
    have x8 := blkAt X.out (i := 8) rfl
    refine (A2.out _ (G0.out.trans GW)).mono ?_
    rintro e w5 ⟨rfl, g5⟩
    have GW := GW.trans g5
    have X := Lib.hid (X.out.grown g5)
    clear g5 
    clear t0 t1 t2 t3 t4 t5 t6 t7 t8 t9 t10 t11 t12 l0 l1 h0 h1 q0 q1 q2
    clear xb x0 x1 x2 x3 x4 x5 x6 x7 x8
    obtain ⟨⟨t0, t1, t2, t3, t4, t5, t6, t7, t8, t9, t10, t11, t12, l0, l1, h0, h1⟩, q0, q1, q2⟩ := HT.out _ GW
    have xb := X.out.lt
    have x0 := blkAt X.out (i := 0) rfl
    have x1 := blkAt X.out (i := 1) rfl
    have x2 := blkAt X.out (i := 2) rfl
    have x3 := blkAt X.out (i := 3) rfl
    have x4 := blkAt X.out (i := 4) rfl
    have x5 := blkAt X.out (i := 5) rfl
    have x6 := blkAt X.out (i := 6) rfl
    have x7 := blkAt X.out (i := 7) rfl
    have x8 := blkAt X.out (i := 8) rfl
    go_wp2_with fail
    obtain ⟨w6, hw⟩ : ∃ W, w5.alloc (.cells #[.int .i64 0, .int .i64 0, .int .i64 0, .int .i64 k1.a, .int .i64 k1.b, .int .i64 k1.c, .int .i64 k1.d, .int .i64 k1.e, .int .i64 k1.f] 25) = W := ⟨_, rfl⟩
    obtain ⟨bY, hbY⟩ : ∃ b, w5.heap.size = b := ⟨_, rfl⟩
    have Y : Hid (Blk w6 bY #[.int .i64 0, .int .i64 0, .int .i64 0, .int .i64 k1.a, .int .i64 k1.b, .int .i64 k1.c, .int .i64 k1.d, .int .i64 k1.e, .int .i64 k1.f] 25) := Lib.hid (by rw [← hw, ← hbY]; exact Blk.new _ _ _)
    have oY : Z.heap.size ≤ bY := by rw [← hbY]; exact GW.size
    have nYX : ¬ bX = bY := by rw [← hbY]; have := X.out.lt; omega
    have g6 : Grew w5 w6 := by rw [← hw]; exact (Grew.refl _).alloc _ _
    have GW := GW.trans g6
    have X := Lib.hid (X.out.grown g6)
    try rw [hw]
    try rw [hbY]
    clear hw hbY g6
    clear t0 t1 t2 t3 t4 t5 t6 t7 t8 t9 t10 t11 t12 l0 l1 h0 h1 q0 q1 q2
    clear xb x0 x1 x2 x3 x4 x5 x6 x7 x8
    obtain ⟨⟨t0, t1, t2, t3, t4, t5, t6, t7, t8, t9, t10, t11, t12, l0, l1, h0, h1⟩, q0, q1, q2⟩ := HT.out _ GW
    have xb := X.out.lt
    have x0 := blkAt X.out (i := 0) rfl
    have x1 := blkAt X.out (i := 1) rfl
    have x2 := blkAt X.out (i := 2) rfl
    have x3 := blkAt X.out (i := 3) rfl
    have x4 := blkAt X.out (i := 4) rfl
    have x5 := blkAt X.out (i := 5) rfl
    have x6 := blkAt X.out (i := 6) rfl
    have x7 := blkAt X.out (i := 7) rfl
    have x8 := blkAt X.out (i := 8) rfl
    have yb := Y.out.lt
    have y0 := blkAt Y.out (i := 0) rfl
    have y1 := blkAt Y.out (i := 1) rfl
    have y2 := blkAt Y.out (i := 2) rfl
    have y3 := blkAt Y.out (i := 3) rfl
    have y4 := blkAt Y.out (i := 4) rfl
    have y5 := blkAt Y.out (i := 5) rfl
    have y6 := blkAt Y.out (i := 6) rfl
    have y7 := blkAt Y.out (i := 7) rfl
    have y8 := blkAt Y.out (i := 8) rfl
    have HW := Lib.hid GW
    clear GW xb x0 x1 x2 x3 x4 x5 x6 x7 x8 yb y0 y1 y2 y3 y4 y5 y6 y7 y8
    clear t0 t1 t2 t3 t4 t5 t6 t7 t8 t9 t10 t11 t12 l0 l1 h0 h1 q0 q1 q2
    have KS : Hid (∀ W, Grew w6 W → (W.cell? ⟨w.heap.size, 0, none⟩ = some (.int .i64 t.v) ∧ W.cell? ⟨w.heap.size, 1, none⟩ = some (.int .i64 t.z) ∧ W.cell? ⟨w.heap.size, 2, none⟩ = some (.int .i64 t.n) ∧ W.cell? ⟨w.heap.size, 3, none⟩ = some (.int .i64 t.r.x) ∧ W.cell? ⟨w.heap.size, 4, none⟩ = some (.int .i64 t.r.y) ∧ W.cell? ⟨w.heap.size, 5, none⟩ = some (.int .i64 t.r.s) ∧ W.cell? ⟨w.heap.size, 6, none⟩ = some (.int .i64 t.r.k.a) ∧ W.cell? ⟨w.heap.size, 7, none⟩ = some (.int .i64 t.r.k.b) ∧ W.cell? ⟨w.heap.size, 8, none⟩ = some (.int .i64 t.r.k.c) ∧ W.cell? ⟨w.heap.size, 9, none⟩ = some (.int .i64 t.r.k.d) ∧ W.cell? ⟨w.heap.size, 10, none⟩ = some (.int .i64 t.r.k.e) ∧ W.cell? ⟨w.heap.size, 11, none⟩ = some (.int .i64 t.r.k.f) ∧ W.cell? ⟨w.heap.size, 12, none⟩ = some (.slice ua t.l.length uc) ∧ W.cell? ⟨bX, 0, none⟩ = some (.int .i64 0) ∧ W.cell? ⟨bX, 1, none⟩ = some (.int .i64 0) ∧ W.cell? ⟨bX, 2, none⟩ = some (.int .i64 0) ∧ W.cell? ⟨bX, 3, none⟩ = some (.int .i64 k1.a) ∧ W.cell? ⟨bX, 4, none⟩ = some (.int .i64 k1.b) ∧ W.cell? ⟨bX, 5, none⟩ = some (.int .i64 k1.c) ∧ W.cell? ⟨bX, 6, none⟩ = some (.int .i64 k1.d) ∧ W.cell? ⟨bX, 7, none⟩ = some (.int .i64 k1.e) ∧ W.cell? ⟨bX, 8, none⟩ = some (.int .i64 k1.f) ∧ W.cell? ⟨bY, 0, none⟩ = some (.int .i64 0) ∧ W.cell? ⟨bY, 1, none⟩ = some (.int .i64 0) ∧ W.cell? ⟨bY, 2, none⟩ = some (.int .i64 0) ∧ W.cell? ⟨bY, 3, none⟩ = some (.int .i64 k1.a) ∧ W.cell? ⟨bY, 4, none⟩ = some (.int .i64 k1.b) ∧ W.cell? ⟨bY, 5, none⟩ = some (.int .i64 k1.c) ∧ W.cell? ⟨bY, 6, none⟩ = some (.int .i64 k1.d) ∧ W.cell? ⟨bY, 7, none⟩ = some (.int .i64 k1.e) ∧ W.cell? ⟨bY, 8, none⟩ = some (.int .i64 k1.f))) := Lib.hid (fun W g => by
      obtain ⟨⟨t0, t1, t2, t3, t4, t5, t6, t7, t8, t9, t10, t11, t12, l0, l1, h0, h1⟩, _⟩ := HT.out W (HW.out.trans g)
      have b0 := X.out.grown g
      have b1 := Y.out.grown g
      exact ⟨t0, t1, t2, t3, t4, t5, t6, t7, t8, t9, t10, t11, t12, blkAt b0 rfl, blkAt b0 rfl, blkAt b0 rfl, blkAt b0 rfl, blkAt b0 rfl, blkAt b0 rfl, blkAt b0 rfl, blkAt b0 rfl, blkAt b0 rfl, blkAt b1 rfl, blkAt b1 rfl, blkAt b1 rfl, blkAt b1 rfl, blkAt b1 rfl, blkAt b1 rfl, blkAt b1 rfl, blkAt b1 rfl, blkAt b1 rfl⟩)
    have GA := Grew.refl w6
    go_cut [11] from 41 to 58 (fun s11 wx => s11 = .bool true ∧ Grew w6 wx)
    case first =>
      cases vt
      · go_region_held3 (fun W => W.cell? ⟨w.heap.size, 0, none⟩ = some (.int .i64 t.v) ∧ W.cell? ⟨w.heap.size, 1, none⟩ = some (.int .i64 t.z) ∧ W.cell? ⟨w.heap.size, 2, none⟩ = some (.int .i64 t.n) ∧ W.cell? ⟨w.heap.size, 3, none⟩ = some (.int .i64 t.r.x) ∧ W.cell? ⟨w.heap.size, 4, none⟩ = some (.int .i64 t.r.y) ∧ W.cell? ⟨w.heap.size, 5, none⟩ = some (.int .i64 t.r.s) ∧ W.cell? ⟨w.heap.size, 6, none⟩ = some (.int .i64 t.r.k.a) ∧ W.cell? ⟨w.heap.size, 7, none⟩ = some (.int .i64 t.r.k.b) ∧ W.cell? ⟨w.heap.size, 8, none⟩ = some (.int .i64 t.r.k.c) ∧ W.cell? ⟨w.heap.size, 9, none⟩ = some (.int .i64 t.r.k.d) ∧ W.cell? ⟨w.heap.size, 10, none⟩ = some (.int .i64 t.r.k.e) ∧ W.cell? ⟨w.heap.size, 11, none⟩ = some (.int .i64 t.r.k.f) ∧ W.cell? ⟨w.heap.size, 12, none⟩ = some (.slice ua t.l.length uc) ∧ W.cell? ⟨bX, 0, none⟩ = some (.int .i64 0) ∧ W.cell? ⟨bX, 1, none⟩ = some (.int .i64 0) ∧ W.cell? ⟨bX, 2, none⟩ = some (.int .i64 0) ∧ W.cell? ⟨bX, 3, none⟩ = some (.int .i64 k1.a) ∧ W.cell? ⟨bX, 4, none⟩ = some (.int .i64 k1.b) ∧ W.cell? ⟨bX, 5, none⟩ = some (.int .i64 k1.c) ∧ W.cell? ⟨bX, 6, none⟩ = some (.int .i64 k1.d) ∧ W.cell? ⟨bX, 7, none⟩ = some (.int .i64 k1.e) ∧ W.cell? ⟨bX, 8, none⟩ = some (.int .i64 k1.f) ∧ W.cell? ⟨bY, 0, none⟩ = some (.int .i64 0) ∧ W.cell? ⟨bY, 1, none⟩ = some (.int .i64 0) ∧ W.cell? ⟨bY, 2, none⟩ = some (.int .i64 0) ∧ W.cell? ⟨bY, 3, none⟩ = some (.int .i64 k1.a) ∧ W.cell? ⟨bY, 4, none⟩ = some (.int .i64 k1.b) ∧ W.cell? ⟨bY, 5, none⟩ = some (.int .i64 k1.c) ∧ W.cell? ⟨bY, 6, none⟩ = some (.int .i64 k1.d) ∧ W.cell? ⟨bY, 7, none⟩ = some (.int .i64 k1.e) ∧ W.cell? ⟨bY, 8, none⟩ = some (.int .i64 k1.f)) (exact KS.out _ (by (repeat' (first | (with_reducible exact Grew.refl _) | (with_reducible assumption) | (with_reducible refine Grew.alloc ?_ _ _) | (with_reducible refine Grew.drew ?_) | (with_reducible refine Grew.drewN ?_ _) | (with_reducible refine Grew.setCell ?_ ?_ _) | go_size))))
          (first
            | (go_at_call 8; refine (V1.out _ (G0.out.trans (HW.out.trans (by (repeat' (first | (with_reducible exact Grew.refl _) | (with_reducible assumption) | (with_reducible refine Grew.alloc ?_ _ _) | (with_reducible refine Grew.drew ?_) | (with_reducible refine Grew.drewN ?_ _) | (with_reducible refine Grew.setCell ?_ ?_ _) | go_size)))))).mono ?_; rintro e w7 ⟨rfl, gn⟩; have GA : Grew w6 w7 := Grew.trans (by (repeat' (first | (with_reducible exact Grew.refl _) | (with_reducible assumption) | (with_reducible refine Grew.alloc ?_ _ _) | (with_reducible refine Grew.drew ?_) | (with_reducible refine Grew.drewN ?_ _) | (with_reducible refine Grew.setCell ?_ ?_ _) | go_size))) gn; clear gn)
            | (go_at_call 9; refine (V2.out _ (G0.out.trans (HW.out.trans (by (repeat' (first | (with_reducible exact Grew.refl _) | (with_reducible assumption) | (with_reducible refine Grew.alloc ?_ _ _) | (with_reducible refine Grew.drew ?_) | (with_reducible refine Grew.drewN ?_ _) | (with_reducible refine Grew.setCell ?_ ?_ _) | go_size)))))).mono ?_; rintro e w8 ⟨rfl, gn⟩; have GA : Grew w6 w8 := Grew.trans (by (repeat' (first | (with_reducible exact Grew.refl _) | (with_reducible assumption) | (with_reducible refine Grew.alloc ?_ _ _) | (with_reducible refine Grew.drew ?_) | (with_reducible refine Grew.drewN ?_ _) | (with_reducible refine Grew.setCell ?_ ?_ _) | go_size))) gn; clear gn))
        all_goals (go_wp2_with fail; go_meet)
        all_goals exact ⟨by first | rfl | simp, (by (repeat' (first | (with_reducible exact Grew.refl _) | (with_reducible assumption) | (with_reducible refine Grew.alloc ?_ _ _) | (with_reducible refine Grew.drew ?_) | (with_reducible refine Grew.drewN ?_ _) | (with_reducible refine Grew.setCell ?_ ?_ _) | go_size)))⟩
      · go_region_held3 (fun W => W.cell? ⟨w.heap.size, 0, none⟩ = some (.int .i64 t.v) ∧ W.cell? ⟨w.heap.size, 1, none⟩ = some (.int .i64 t.z) ∧ W.cell? ⟨w.heap.size, 2, none⟩ = some (.int .i64 t.n) ∧ W.cell? ⟨w.heap.size, 3, none⟩ = some (.int .i64 t.r.x) ∧ W.cell? ⟨w.heap.size, 4, none⟩ = some (.int .i64 t.r.y) ∧ W.cell? ⟨w.heap.size, 5, none⟩ = some (.int .i64 t.r.s) ∧ W.cell? ⟨w.heap.size, 6, none⟩ = some (.int .i64 t.r.k.a) ∧ W.cell? ⟨w.heap.size, 7, none⟩ = some (.int .i64 t.r.k.b) ∧ W.cell? ⟨w.heap.size, 8, none⟩ = some (.int .i64 t.r.k.c) ∧ W.cell? ⟨w.heap.size, 9, none⟩ = some (.int .i64 t.r.k.d) ∧ W.cell? ⟨w.heap.size, 10, none⟩ = some (.int .i64 t.r.k.e) ∧ W.cell? ⟨w.heap.size, 11, none⟩ = some (.int .i64 t.r.k.f) ∧ W.cell? ⟨w.heap.size, 12, none⟩ = some (.slice ua t.l.length uc) ∧ W.cell? ⟨bX, 0, none⟩ = some (.int .i64 0) ∧ W.cell? ⟨bX, 1, none⟩ = some (.int .i64 0) ∧ W.cell? ⟨bX, 2, none⟩ = some (.int .i64 0) ∧ W.cell? ⟨bX, 3, none⟩ = some (.int .i64 k1.a) ∧ W.cell? ⟨bX, 4, none⟩ = some (.int .i64 k1.b) ∧ W.cell? ⟨bX, 5, none⟩ = some (.int .i64 k1.c) ∧ W.cell? ⟨bX, 6, none⟩ = some (.int .i64 k1.d) ∧ W.cell? ⟨bX, 7, none⟩ = some (.int .i64 k1.e) ∧ W.cell? ⟨bX, 8, none⟩ = some (.int .i64 k1.f) ∧ W.cell? ⟨bY, 0, none⟩ = some (.int .i64 0) ∧ W.cell? ⟨bY, 1, none⟩ = some (.int .i64 0) ∧ W.cell? ⟨bY, 2, none⟩ = some (.int .i64 0) ∧ W.cell? ⟨bY, 3, none⟩ = some (.int .i64 k1.a) ∧ W.cell? ⟨bY, 4, none⟩ = some (.int .i64 k1.b) ∧ W.cell? ⟨bY, 5, none⟩ = some (.int .i64 k1.c) ∧ W.cell? ⟨bY, 6, none⟩ = some (.int .i64 k1.d) ∧ W.cell? ⟨bY, 7, none⟩ = some (.int .i64 k1.e) ∧ W.cell? ⟨bY, 8, none⟩ = some (.int .i64 k1.f)) (exact KS.out _ (by (repeat' (first | (with_reducible exact Grew.refl _) | (with_reducible assumption) | (with_reducible refine Grew.alloc ?_ _ _) | (with_reducible refine Grew.drew ?_) | (with_reducible refine Grew.drewN ?_ _) | (with_reducible refine Grew.setCell ?_ ?_ _) | go_size))))
          (first
            | (go_at_call 8; refine (V1.out _ (G0.out.trans (HW.out.trans (by (repeat' (first | (with_reducible exact Grew.refl _) | (with_reducible assumption) | (with_reducible refine Grew.alloc ?_ _ _) | (with_reducible refine Grew.drew ?_) | (with_reducible refine Grew.drewN ?_ _) | (with_reducible refine Grew.setCell ?_ ?_ _) | go_size)))))).mono ?_; rintro e w7 ⟨rfl, gn⟩; have GA : Grew w6 w7 := Grew.trans (by (repeat' (first | (with_reducible exact Grew.refl _) | (with_reducible assumption) | (with_reducible refine Grew.alloc ?_ _ _) | (with_reducible refine Grew.drew ?_) | (with_reducible refine Grew.drewN ?_ _) | (with_reducible refine Grew.setCell ?_ ?_ _) | go_size))) gn; clear gn)
            | (go_at_call 9; refine (V2.out _ (G0.out.trans (HW.out.trans (by (repeat' (first | (with_reducible exact Grew.refl _) | (with_reducible assumption) | (with_reducible refine Grew.alloc ?_ _ _) | (with_reducible refine Grew.drew ?_) | (with_reducible refine Grew.drewN ?_ _) | (with_reducible refine Grew.setCell ?_ ?_ _) | go_size)))))).mono ?_; rintro e w8 ⟨rfl, gn⟩; have GA : Grew w6 w8 := Grew.trans (by (repeat' (first | (with_reducible exact Grew.refl _) | (with_reducible assumption) | (with_reducible refine Grew.alloc ?_ _ _) | (with_reducible refine Grew.drew ?_) | (with_reducible refine Grew.drewN ?_ _) | (with_reducible refine Grew.setCell ?_ ?_ _) | go_size))) gn; clear gn))
        all_goals (go_wp2_with fail; go_meet)
        all_goals exact ⟨by first | rfl | simp, (by (repeat' (first | (with_reducible exact Grew.refl _) | (with_reducible assumption) | (with_reducible refine Grew.alloc ?_ _ _) | (with_reducible refine Grew.drew ?_) | (with_reducible refine Grew.drewN ?_ _) | (with_reducible refine Grew.setCell ?_ ?_ _) | go_size)))⟩
    case rest =>
      clear KS GA V1 V2
      obtain ⟨rfl, GN⟩ := hcut
      have X := Lib.hid (X.out.grown GN)
      have Y := Lib.hid (Y.out.grown GN)
      have GW := HW.out.trans GN
      clear GN HW
      obtain ⟨⟨t0, t1, t2, t3, t4, t5, t6, t7, t8, t9, t10, t11, t12, l0, l1, h0, h1⟩, q0, q1, q2⟩ := HT.out _ GW
      go_wp2_with fail
      refine (B1.out _ (G0.out.trans GW)).mono ?_
      rintro e w9 ⟨rfl, g9⟩
      have GW := GW.trans g9
      have X := Lib.hid (X.out.grown g9)
      have Y := Lib.hid (Y.out.grown g9)
      clear g9 A1 A2 B1
      clear t0 t1 t2 t3 t4 t5 t6 t7 t8 t9 t10 t11 t12 l0 l1 h0 h1 q0 q1 q2
      obtain ⟨⟨t0, t1, t2, t3, t4, t5, t6, t7, t8, t9, t10, t11, t12, l0, l1, h0, h1⟩, q0, q1, q2⟩ := HT.out _ GW
      have xb := X.out.lt
      have x0 := blkAt X.out (i := 0) rfl
      have x1 := blkAt X.out (i := 1) rfl
      have x2 := blkAt X.out (i := 2) rfl
      have x3 := blkAt X.out (i := 3) rfl
      have x4 := blkAt X.out (i := 4) rfl
      have x5 := blkAt X.out (i := 5) rfl
      have x6 := blkAt X.out (i := 6) rfl
      have x7 := blkAt X.out (i := 7) rfl
      have x8 := blkAt X.out (i := 8) rfl
      have f0 := blkFz X.out (i := 0) (by simp)
      have f1 := blkFz X.out (i := 1) (by simp)
      have f2 := blkFz X.out (i := 2) (by simp)
      have f3 := blkFz X.out (i := 3) (by simp)
      have f4 := blkFz X.out (i := 4) (by simp)
      have f5 := blkFz X.out (i := 5) (by simp)
      have f6 := blkFz X.out (i := 6) (by simp)
      have f7 := blkFz X.out (i := 7) (by simp)
      have f8 := blkFz X.out (i := 8) (by simp)
      go_upto_region 8 with fail
      generalize hU : World.setCell (World.setCell _ _ _) _ _ = w10
      have X2 : Hid (Blk w10 bX #[.int .i64 0, .int .i64 0, .int .i64 0, .int .i64 k2.a, .int .i64 k2.b, .int .i64 k2.c, .int .i64 k2.d, .int .i64 k2.e, .int .i64 k2.f] 25) := Lib.hid (by rw [← hU]; exact Blk.put9 X.out)
      have Y2 : Hid (Blk w10 bY _ 25) := Lib.hid (by rw [← hU]; exact Blk.far9 (by omega) Y.out)
      have GW2 : Grew Z w10 := by rw [← hU]; exact Grew.put9 GW oX
      have GW := GW2
      have X := X2
      have Y := Y2
      clear hU GW2 X2 Y2 xb x0 x1 x2 x3 x4 x5 x6 x7 x8 f0 f1 f2 f3 f4 f5 f6 f7 f8
      clear t0 t1 t2 t3 t4 t5 t6 t7 t8 t9 t10 t11 t12 l0 l1 h0 h1 q0 q1 q2
      obtain ⟨⟨t0, t1, t2, t3, t4, t5, t6, t7, t8, t9, t10, t11, t12, l0, l1, h0, h1⟩, q0, q1, q2⟩ := HT.out _ GW
      go_wp2_with fail
      refine (B2.out _ (G0.out.trans GW)).mono ?_
      rintro e w11 ⟨rfl, g11⟩
      have GW := GW.trans g11
      have X := Lib.hid (X.out.grown g11)
      have Y := Lib.hid (Y.out.grown g11)
      clear g11 B2
      clear t0 t1 t2 t3 t4 t5 t6 t7 t8 t9 t10 t11 t12 l0 l1 h0 h1 q0 q1 q2
      obtain ⟨⟨t0, t1, t2, t3, t4, t5, t6, t7, t8, t9, t10, t11, t12, l0, l1, h0, h1⟩, q0, q1, q2⟩ := HT.out _ GW
      have yb := Y.out.lt
      have y0 := blkAt Y.out (i := 0) rfl
      have y1 := blkAt Y.out (i := 1) rfl
      have y2 := blkAt Y.out (i := 2) rfl
      have y3 := blkAt Y.out (i := 3) rfl
      have y4 := blkAt Y.out (i := 4) rfl
      have y5 := blkAt Y.out (i := 5) rfl
      have y6 := blkAt Y.out (i := 6) rfl
      have y7 := blkAt Y.out (i := 7) rfl
      have y8 := blkAt Y.out (i := 8) rfl
      have f0 := blkFz Y.out (i := 0) (by simp)
      have f1 := blkFz Y.out (i := 1) (by simp)
      have f2 := blkFz Y.out (i := 2) (by simp)
      have f3 := blkFz Y.out (i := 3) (by simp)
      have f4 := blkFz Y.out (i := 4) (by simp)
      have f5 := blkFz Y.out (i := 5) (by simp)
      have f6 := blkFz Y.out (i := 6) (by simp)
      have f7 := blkFz Y.out (i := 7) (by simp)
      have f8 := blkFz Y.out (i := 8) (by simp)
      go_upto_region 9 with fail
      generalize hU : World.setCell (World.setCell _ _ _) _ _ = w12
      have Y2 : Hid (Blk w12 bY #[.int .i64 0, .int .i64 0, .int .i64 0, .int .i64 k2.a, .int .i64 k2.b, .int .i64 k2.c, .int .i64 k2.d, .int .i64 k2.e, .int .i64 k2.f] 25) := Lib.hid (by rw [← hU]; exact Blk.put9 Y.out)
      have X2 : Hid (Blk w12 bX _ 25) := Lib.hid (by rw [← hU]; exact Blk.far9 (by omega) X.out)
      have GW2 : Grew Z w12 := by rw [← hU]; exact Grew.put9 GW oY
      have GW := GW2
      have X := X2
      have Y := Y2
      clear hU GW2 X2 Y2 yb y0 y1 y2 y3 y4 y5 y6 y7 y8 f0 f1 f2 f3 f4 f5 f6 f7 f8
      clear t0 t1 t2 t3 t4 t5 t6 t7 t8 t9 t10 t11 t12 l0 l1 h0 h1 q0 q1 q2
      obtain ⟨⟨t0, t1, t2, t3, t4, t5, t6, t7, t8, t9, t10, t11, t12, l0, l1, h0, h1⟩, q0, q1, q2⟩ := HT.out _ GW
      have xb := X.out.lt
      have x0 := blkAt X.out (i := 0) rfl
      have x1 := blkAt X.out (i := 1) rfl
      have x2 := blkAt X.out (i := 2) rfl
      have x3 := blkAt X.out (i := 3) rfl
      have x4 := blkAt X.out (i := 4) rfl
      have x5 := blkAt X.out (i := 5) rfl
      have x6 := blkAt X.out (i := 6) rfl
      have x7 := blkAt X.out (i := 7) rfl
      have x8 := blkAt X.out (i := 8) rfl
      have yb := Y.out.lt
      have y0 := blkAt Y.out (i := 0) rfl
      have y1 := blkAt Y.out (i := 1) rfl
      have y2 := blkAt Y.out (i := 2) rfl
      have y3 := blkAt Y.out (i := 3) rfl
      have y4 := blkAt Y.out (i := 4) rfl
      have y5 := blkAt Y.out (i := 5) rfl
      have y6 := blkAt Y.out (i := 6) rfl
      have y7 := blkAt Y.out (i := 7) rfl
      have y8 := blkAt Y.out (i := 8) rfl
      go_wp2_with fail
      refine (D1.out _ (G0.out.trans GW)).mono ?_
      rintro e w13 ⟨qa, v1, hq1, rfl, hv1, g13⟩
      have GW := GW.trans g13
      clear D1 xb x0 x1 x2 x3 x4 x5 x6 x7 x8 yb y0 y1 y2 y3 y4 y5 y6 y7 y8
      clear t0 t1 t2 t3 t4 t5 t6 t7 t8 t9 t10 t11 t12 l0 l1 h0 h1 q0 q1 q2
      obtain ⟨⟨t0, t1, t2, t3, t4, t5, t6, t7, t8, t9, t10, t11, t12, l0, l1, h0, h1⟩, q0, q1, q2⟩ := HT.out _ GW
      go_wp2_with fail
      refine (D2.out _ (G0.out.trans GW)).mono ?_
      rintro e w14 ⟨qb, v2, hq2, rfl, hv2, g14⟩
      have GW := GW.trans g14
      have hv1 := hv1.grown g14
      clear D2 g13 g14
      clear t0 t1 t2 t3 t4 t5 t6 t7 t8 t9 t10 t11 t12 l0 l1 h0 h1 q0 q1 q2
      go_wp2_with fail
      refine (SM.out _ _ _ _ _ hq1 hq2 hv1 hv2).mono ?_
      rintro e w15 ⟨rfl, g15⟩
      go_wp2_with fail
      go_ret
      exact ⟨rfl, (G0.out.trans GW).trans g15⟩
end Td
end Go.Proofs.YtpiajdahmcelnaaGreat
