/-
  The reference: At and Bound.
-/
import Derived.Test.YtpiajdahmcelnaaGreatMTdZd
import Derived.Test.YtpiajdahmcelnaaGreatMHullOwn
namespace Go.Proofs.YtpiajdahmcelnaaGreat
open Go.RowKit Hl
namespace Td
set_option maxRecDepth 100000
set_option maxHeartbeats 16000000 in
theorem R.at_no (t : Ed) (u : Value) (x : Pt) (c : Int) (w : World) (hs : Rs w u t.l) (hl : t.l.length ≤ 9223372036854775807) (h : ¬ BOk t x x c c) :
    Calls Tryz.prog 7 #[tv t u, .agg #[.int .i64 x.1, .int .i64 x.2], .int .i64 c] w fun e w' => e = .returned (.tuple #[.agg #[.int .i64 0, .int .i64 0, .int .i64 0, .int .i64 0, .int .i64 0, .int .i64 0, .int .i64 0, .int .i64 0, .int .i64 0], .int .i64 1]) ∧ Grew w w' := by
  obtain ⟨ua, uc, rfl, _⟩ := hs.shape
  have VC : Hid (∀ W, Grew w W → Calls Tryz.prog 9 #[.agg #[.int .i64 t.v, .int .i64 t.z, .int .i64 t.n, .int .i64 t.r.x, .int .i64 t.r.y, .int .i64 t.r.s, .int .i64 t.r.k.a, .int .i64 t.r.k.b, .int .i64 t.r.k.c, .int .i64 t.r.k.d, .int .i64 t.r.k.e, .int .i64 t.r.k.f, .slice ua t.l.length uc]] W fun e w' => e = .returned (.bool (decide (Tok t))) ∧ Grew W w') := Lib.hid (fun W g => by
    have hq := R.valid_c t _ W (hs.grew g) hl
    exact hq)
  have C2 : Hid (∀ W, Calls Tryz.prog 19 #[.agg #[.int .i64 x.1, .int .i64 x.2]] W fun e w' => e = .returned (.bool (decide (Plc x))) ∧ Grew W w') := Lib.hid (fun W => by
    have hq := place_b x W
    exact hq)
  have C3 : Hid (∀ W, Calls Tryz.prog 20 #[.int .i64 c, .int .i64 0, .int .i64 1000000000] W fun e w' => e = .returned (.bool (decide (0 ≤ c ∧ c ≤ 1000000000))) ∧ W = w') := Lib.hid (fun W => by
    have hq := in_c c 0 1000000000 W
    exact hq)
  generalize e1 : decide (Tok t) = p1 at VC
  generalize e2 : decide (Plc x) = p2 at C2
  generalize e3 : decide (0 ≤ c ∧ c ≤ 1000000000) = p3 at C3
  clear hs hl
  unfold tv
  have HT : Hid (∀ W, Grew ((w.alloc (.cells #[.int .i64 t.v, .int .i64 t.z, .int .i64 t.n, .int .i64 t.r.x, .int .i64 t.r.y, .int .i64 t.r.s, .int .i64 t.r.k.a, .int .i64 t.r.k.b, .int .i64 t.r.k.c, .int .i64 t.r.k.d, .int .i64 t.r.k.e, .int .i64 t.r.k.f, .slice ua t.l.length uc] 28)).alloc (.cells #[.int .i64 x.1, .int .i64 x.2] 30)) W → ((W.cell? ⟨w.heap.size, 0, none⟩ = some (.int .i64 t.v) ∧ W.cell? ⟨w.heap.size, 1, none⟩ = some (.int .i64 t.z) ∧ W.cell? ⟨w.heap.size, 2, none⟩ = some (.int .i64 t.n) ∧ W.cell? ⟨w.heap.size, 3, none⟩ = some (.int .i64 t.r.x) ∧ W.cell? ⟨w.heap.size, 4, none⟩ = some (.int .i64 t.r.y) ∧ W.cell? ⟨w.heap.size, 5, none⟩ = some (.int .i64 t.r.s) ∧ W.cell? ⟨w.heap.size, 6, none⟩ = some (.int .i64 t.r.k.a) ∧ W.cell? ⟨w.heap.size, 7, none⟩ = some (.int .i64 t.r.k.b) ∧ W.cell? ⟨w.heap.size, 8, none⟩ = some (.int .i64 t.r.k.c) ∧ W.cell? ⟨w.heap.size, 9, none⟩ = some (.int .i64 t.r.k.d) ∧ W.cell? ⟨w.heap.size, 10, none⟩ = some (.int .i64 t.r.k.e) ∧ W.cell? ⟨w.heap.size, 11, none⟩ = some (.int .i64 t.r.k.f) ∧ W.cell? ⟨w.heap.size, 12, none⟩ = some (.slice ua t.l.length uc) ∧ W.cell? ⟨w.heap.size + 1, 0, none⟩ = some (.int .i64 x.1) ∧ W.cell? ⟨w.heap.size + 1, 1, none⟩ = some (.int .i64 x.2)) ∧ w.heap.size < W.heap.size ∧ w.heap.size + 1 < W.heap.size)) := Lib.hid (fun W g => by
    have b0 := ((Blk.new w #[.int .i64 t.v, .int .i64 t.z, .int .i64 t.n, .int .i64 t.r.x, .int .i64 t.r.y, .int .i64 t.r.s, .int .i64 t.r.k.a, .int .i64 t.r.k.b, .int .i64 t.r.k.c, .int .i64 t.r.k.d, .int .i64 t.r.k.e, .int .i64 t.r.k.f, .slice ua t.l.length uc] 28).alloc (.cells #[.int .i64 x.1, .int .i64 x.2] 30)).grown g
    have b1 := (blkN (W := w.alloc (.cells #[.int .i64 t.v, .int .i64 t.z, .int .i64 t.n, .int .i64 t.r.x, .int .i64 t.r.y, .int .i64 t.r.s, .int .i64 t.r.k.a, .int .i64 t.r.k.b, .int .i64 t.r.k.c, .int .i64 t.r.k.d, .int .i64 t.r.k.e, .int .i64 t.r.k.f, .slice ua t.l.length uc] 28)) (k := w.heap.size + 1) (cs := #[.int .i64 x.1, .int .i64 x.2]) (t := 30) (by simp)).grown g
    exact ⟨⟨blkAt b0 rfl, blkAt b0 rfl, blkAt b0 rfl, blkAt b0 rfl, blkAt b0 rfl, blkAt b0 rfl, blkAt b0 rfl, blkAt b0 rfl, blkAt b0 rfl, blkAt b0 rfl, blkAt b0 rfl, blkAt b0 rfl, blkAt b0 rfl, blkAt b1 rfl, blkAt b1 rfl⟩, b0.lt, b1.lt⟩)
  have G0 : Hid (Grew w ((w.alloc (.cells #[.int .i64 t.v, .int .i64 t.z, .int .i64 t.n, .int .i64 t.r.x, .int .i64 t.r.y, .int .i64 t.r.s, .int .i64 t.r.k.a, .int .i64 t.r.k.b, .int .i64 t.r.k.c, .int .i64 t.r.k.d, .int .i64 t.r.k.e, .int .i64 t.r.k.f, .slice ua t.l.length uc] 28)).alloc (.cells #[.int .i64 x.1, .int .i64 x.2] 30))) := Lib.hid (((Grew.refl w).alloc _ _).alloc _ _)
  have z0 : ((w.alloc (.cells #[.int .i64 t.v, .int .i64 t.z, .int .i64 t.n, .int .i64 t.r.x, .int .i64 t.r.y, .int .i64 t.r.s, .int .i64 t.r.k.a, .int .i64 t.r.k.b, .int .i64 t.r.k.c, .int .i64 t.r.k.d, .int .i64 t.r.k.e, .int .i64 t.r.k.f, .slice ua t.l.length uc] 28)).alloc (.cells #[.int .i64 x.1, .int .i64 x.2] 30)).heap.size = w.heap.size + 1 + 1 := by simp
  go_enter Tryz.func7, Tryz.ntmps7
  go_wp2_with fail
  obtain ⟨Z, hZ⟩ : ∃ Z, (w.alloc (.cells #[.int .i64 t.v, .int .i64 t.z, .int .i64 t.n, .int .i64 t.r.x, .int .i64 t.r.y, .int .i64 t.r.s, .int .i64 t.r.k.a, .int .i64 t.r.k.b, .int .i64 t.r.k.c, .int .i64 t.r.k.d, .int .i64 t.r.k.e, .int .i64 t.r.k.f, .slice ua t.l.length uc] 28)).alloc (.cells #[.int .i64 x.1, .int .i64 x.2] 30) = Z := ⟨_, rfl⟩
  rw [hZ] at HT G0 z0
  try rw [hZ]
  clear hZ
  obtain ⟨V0, hV⟩ : ∃ V, Z.alloc (.cells #[.int .i64 0, .int .i64 0, .int .i64 0, .int .i64 0, .int .i64 0, .int .i64 0, .int .i64 0, .int .i64 0, .int .i64 0] 25) = V := ⟨_, rfl⟩
  have RB : Hid (∀ W, Grew V0 W → Blk W (w.heap.size + 1 + 1) #[.int .i64 0, .int .i64 0, .int .i64 0, .int .i64 0, .int .i64 0, .int .i64 0, .int .i64 0, .int .i64 0, .int .i64 0] 25) := Lib.hid (fun W g => by
    subst hV
    exact (blkN (W := Z) (k := w.heap.size + 1 + 1) (cs := #[.int .i64 0, .int .i64 0, .int .i64 0, .int .i64 0, .int .i64 0, .int .i64 0, .int .i64 0, .int .i64 0, .int .i64 0]) (t := 25) z0).grown g)
  have GZ : Grew Z V0 := by rw [← hV]; exact (Grew.refl _).alloc _ _
  try rw [hV]
  clear hV
  have HT : Hid (∀ W, Grew V0 W → ((W.cell? ⟨w.heap.size, 0, none⟩ = some (.int .i64 t.v) ∧ W.cell? ⟨w.heap.size, 1, none⟩ = some (.int .i64 t.z) ∧ W.cell? ⟨w.heap.size, 2, none⟩ = some (.int .i64 t.n) ∧ W.cell? ⟨w.heap.size, 3, none⟩ = some (.int .i64 t.r.x) ∧ W.cell? ⟨w.heap.size, 4, none⟩ = some (.int .i64 t.r.y) ∧ W.cell? ⟨w.heap.size, 5, none⟩ = some (.int .i64 t.r.s) ∧ W.cell? ⟨w.heap.size, 6, none⟩ = some (.int .i64 t.r.k.a) ∧ W.cell? ⟨w.heap.size, 7, none⟩ = some (.int .i64 t.r.k.b) ∧ W.cell? ⟨w.heap.size, 8, none⟩ = some (.int .i64 t.r.k.c) ∧ W.cell? ⟨w.heap.size, 9, none⟩ = some (.int .i64 t.r.k.d) ∧ W.cell? ⟨w.heap.size, 10, none⟩ = some (.int .i64 t.r.k.e) ∧ W.cell? ⟨w.heap.size, 11, none⟩ = some (.int .i64 t.r.k.f) ∧ W.cell? ⟨w.heap.size, 12, none⟩ = some (.slice ua t.l.length uc) ∧ W.cell? ⟨w.heap.size + 1, 0, none⟩ = some (.int .i64 x.1) ∧ W.cell? ⟨w.heap.size + 1, 1, none⟩ = some (.int .i64 x.2)) ∧ w.heap.size < W.heap.size ∧ w.heap.size + 1 < W.heap.size)) := Lib.hid (fun W g => HT.out W (GZ.trans g))
  have G0 := Lib.hid (G0.out.trans GZ)
  clear GZ z0
  have GW := Grew.refl V0
  obtain ⟨⟨t0, t1, t2, t3, t4, t5, t6, t7, t8, t9, t10, t11, t12, l0, l1⟩, q0, q1⟩ := HT.out _ GW
  refine (VC.out _ G0.out).mono ?_
  rintro e w1 ⟨rfl, g1⟩
  have GW := GW.trans g1
  clear g1
  clear t0 t1 t2 t3 t4 t5 t6 t7 t8 t9 t10 t11 t12 l0 l1 q0 q1
  obtain ⟨⟨t0, t1, t2, t3, t4, t5, t6, t7, t8, t9, t10, t11, t12, l0, l1⟩, q0, q1⟩ := HT.out _ GW
  go_wp2_with fail
  refine (C2.out _).mono ?_
  rintro e w2 ⟨rfl, g2⟩
  have GW := GW.trans g2
  clear g2
  clear t0 t1 t2 t3 t4 t5 t6 t7 t8 t9 t10 t11 t12 l0 l1 q0 q1
  obtain ⟨⟨t0, t1, t2, t3, t4, t5, t6, t7, t8, t9, t10, t11, t12, l0, l1⟩, q0, q1⟩ := HT.out _ GW
  cases p1
  · have BZ := Lib.hid (RB.out _ GW)
    have zb := BZ.out.lt
    have z0 := blkAt BZ.out (i := 0) rfl
    have z1 := blkAt BZ.out (i := 1) rfl
    have z2 := blkAt BZ.out (i := 2) rfl
    have z3 := blkAt BZ.out (i := 3) rfl
    have z4 := blkAt BZ.out (i := 4) rfl
    have z5 := blkAt BZ.out (i := 5) rfl
    have z6 := blkAt BZ.out (i := 6) rfl
    have z7 := blkAt BZ.out (i := 7) rfl
    have z8 := blkAt BZ.out (i := 8) rfl
    have y0 := blkFz BZ.out (i := 0) (by simp)
    have y1 := blkFz BZ.out (i := 1) (by simp)
    have y2 := blkFz BZ.out (i := 2) (by simp)
    have y3 := blkFz BZ.out (i := 3) (by simp)
    have y4 := blkFz BZ.out (i := 4) (by simp)
    have y5 := blkFz BZ.out (i := 5) (by simp)
    have y6 := blkFz BZ.out (i := 6) (by simp)
    have y7 := blkFz BZ.out (i := 7) (by simp)
    have y8 := blkFz BZ.out (i := 8) (by simp)
    clear t0 t1 t2 t3 t4 t5 t6 t7 t8 t9 t10 t11 t12 l0 l1 q0 q1
    go_wp2_with fail
    generalize hU : World.setCell (World.setCell _ _ _) _ _ = U
    have BU : Blk U (w.heap.size + 1 + 1) #[.int .i64 0, .int .i64 0, .int .i64 0, .int .i64 0, .int .i64 0, .int .i64 0, .int .i64 0, .int .i64 0, .int .i64 0] 25 := by rw [← hU]; exact Blk.put9 BZ.out
    have GU : Grew w U := by rw [← hU]; exact Grew.put9 (G0.out.trans GW) (by omega)
    clear hU BZ z0 y0 z1 y1 z2 y2 z3 y3 z4 y4 z5 y5 z6 y6 z7 y7 z8 y8
    have u0 := blkAt BU (i := 0) rfl
    have u1 := blkAt BU (i := 1) rfl
    have u2 := blkAt BU (i := 2) rfl
    have u3 := blkAt BU (i := 3) rfl
    have u4 := blkAt BU (i := 4) rfl
    have u5 := blkAt BU (i := 5) rfl
    have u6 := blkAt BU (i := 6) rfl
    have u7 := blkAt BU (i := 7) rfl
    have u8 := blkAt BU (i := 8) rfl
    refine bodyPost_ret (v := .tuple #[.agg #[.int .i64 0, .int .i64 0, .int .i64 0, .int .i64 0, .int .i64 0, .int .i64 0, .int .i64 0, .int .i64 0, .int .i64 0], .int .i64 1]) (by simp [results, Tryz.results7, go_sem, u0, u1, u2, u3, u4, u5, u6, u7, u8]) rfl ⟨rfl, GU⟩
  · cases p2
    · have BZ := Lib.hid (RB.out _ GW)
      have zb := BZ.out.lt
      have z0 := blkAt BZ.out (i := 0) rfl
      have z1 := blkAt BZ.out (i := 1) rfl
      have z2 := blkAt BZ.out (i := 2) rfl
      have z3 := blkAt BZ.out (i := 3) rfl
      have z4 := blkAt BZ.out (i := 4) rfl
      have z5 := blkAt BZ.out (i := 5) rfl
      have z6 := blkAt BZ.out (i := 6) rfl
      have z7 := blkAt BZ.out (i := 7) rfl
      have z8 := blkAt BZ.out (i := 8) rfl
      have y0 := blkFz BZ.out (i := 0) (by simp)
      have y1 := blkFz BZ.out (i := 1) (by simp)
      have y2 := blkFz BZ.out (i := 2) (by simp)
      have y3 := blkFz BZ.out (i := 3) (by simp)
      have y4 := blkFz BZ.out (i := 4) (by simp)
      have y5 := blkFz BZ.out (i := 5) (by simp)
      have y6 := blkFz BZ.out (i := 6) (by simp)
      have y7 := blkFz BZ.out (i := 7) (by simp)
      have y8 := blkFz BZ.out (i := 8) (by simp)
      clear t0 t1 t2 t3 t4 t5 t6 t7 t8 t9 t10 t11 t12 l0 l1 q0 q1
      go_wp2_with fail
      generalize hU : World.setCell (World.setCell _ _ _) _ _ = U
      have BU : Blk U (w.heap.size + 1 + 1) #[.int .i64 0, .int .i64 0, .int .i64 0, .int .i64 0, .int .i64 0, .int .i64 0, .int .i64 0, .int .i64 0, .int .i64 0] 25 := by rw [← hU]; exact Blk.put9 BZ.out
      have GU : Grew w U := by rw [← hU]; exact Grew.put9 (G0.out.trans GW) (by omega)
      clear hU BZ z0 y0 z1 y1 z2 y2 z3 y3 z4 y4 z5 y5 z6 y6 z7 y7 z8 y8
      have u0 := blkAt BU (i := 0) rfl
      have u1 := blkAt BU (i := 1) rfl
      have u2 := blkAt BU (i := 2) rfl
      have u3 := blkAt BU (i := 3) rfl
      have u4 := blkAt BU (i := 4) rfl
      have u5 := blkAt BU (i := 5) rfl
      have u6 := blkAt BU (i := 6) rfl
      have u7 := blkAt BU (i := 7) rfl
      have u8 := blkAt BU (i := 8) rfl
      refine bodyPost_ret (v := .tuple #[.agg #[.int .i64 0, .int .i64 0, .int .i64 0, .int .i64 0, .int .i64 0, .int .i64 0, .int .i64 0, .int .i64 0, .int .i64 0], .int .i64 1]) (by simp [results, Tryz.results7, go_sem, u0, u1, u2, u3, u4, u5, u6, u7, u8]) rfl ⟨rfl, GU⟩
    · go_wp2_with fail
      refine (C3.out _).mono ?_
      rintro e wq ⟨rfl, rfl⟩
      cases p3
      · have BZ := Lib.hid (RB.out _ GW)
        have zb := BZ.out.lt
        have z0 := blkAt BZ.out (i := 0) rfl
        have z1 := blkAt BZ.out (i := 1) rfl
        have z2 := blkAt BZ.out (i := 2) rfl
        have z3 := blkAt BZ.out (i := 3) rfl
        have z4 := blkAt BZ.out (i := 4) rfl
        have z5 := blkAt BZ.out (i := 5) rfl
        have z6 := blkAt BZ.out (i := 6) rfl
        have z7 := blkAt BZ.out (i := 7) rfl
        have z8 := blkAt BZ.out (i := 8) rfl
        have y0 := blkFz BZ.out (i := 0) (by simp)
        have y1 := blkFz BZ.out (i := 1) (by simp)
        have y2 := blkFz BZ.out (i := 2) (by simp)
        have y3 := blkFz BZ.out (i := 3) (by simp)
        have y4 := blkFz BZ.out (i := 4) (by simp)
        have y5 := blkFz BZ.out (i := 5) (by simp)
        have y6 := blkFz BZ.out (i := 6) (by simp)
        have y7 := blkFz BZ.out (i := 7) (by simp)
        have y8 := blkFz BZ.out (i := 8) (by simp)
        clear t0 t1 t2 t3 t4 t5 t6 t7 t8 t9 t10 t11 t12 l0 l1 q0 q1
        go_wp2_with fail
        generalize hU : World.setCell (World.setCell _ _ _) _ _ = U
        have BU : Blk U (w.heap.size + 1 + 1) #[.int .i64 0, .int .i64 0, .int .i64 0, .int .i64 0, .int .i64 0, .int .i64 0, .int .i64 0, .int .i64 0, .int .i64 0] 25 := by rw [← hU]; exact Blk.put9 BZ.out
        have GU : Grew w U := by rw [← hU]; exact Grew.put9 (G0.out.trans GW) (by omega)
        clear hU BZ z0 y0 z1 y1 z2 y2 z3 y3 z4 y4 z5 y5 z6 y6 z7 y7 z8 y8
        have u0 := blkAt BU (i := 0) rfl
        have u1 := blkAt BU (i := 1) rfl
        have u2 := blkAt BU (i := 2) rfl
        have u3 := blkAt BU (i := 3) rfl
        have u4 := blkAt BU (i := 4) rfl
        have u5 := blkAt BU (i := 5) rfl
        have u6 := blkAt BU (i := 6) rfl
        have u7 := blkAt BU (i := 7) rfl
        have u8 := blkAt BU (i := 8) rfl
        refine bodyPost_ret (v := .tuple #[.agg #[.int .i64 0, .int .i64 0, .int .i64 0, .int .i64 0, .int .i64 0, .int .i64 0, .int .i64 0, .int .i64 0, .int .i64 0], .int .i64 1]) (by simp [results, Tryz.results7, go_sem, u0, u1, u2, u3, u4, u5, u6, u7, u8]) rfl ⟨rfl, GU⟩
      · exact absurd ⟨of_decide_eq_true e1, ⟨of_decide_eq_true e2, of_decide_eq_true e2, Int.le_refl _, Int.le_refl _⟩, (of_decide_eq_true e3).1, Int.le_refl _, (of_decide_eq_true e3).2⟩ h
set_option maxHeartbeats 16000000 in
theorem R.at_yes (t : Ed) (u : Value) (x : Pt) (c : Int) (w : World) (hs : Rs w u t.l) (hl : t.l.length ≤ 9223372036854775807) (h : BOk t x x c c) :
    Calls Tryz.prog 7 #[tv t u, .agg #[.int .i64 x.1, .int .i64 x.2], .int .i64 c] w fun e w' => e = .returned (.tuple #[.agg #[.int .i64 0, .int .i64 0, .int .i64 0, .int .i64 (Hd t (bk x.1) (bk x.2) (sl t.z c)).a, .int .i64 (Hd t (bk x.1) (bk x.2) (sl t.z c)).b, .int .i64 (Hd t (bk x.1) (bk x.2) (sl t.z c)).c, .int .i64 (Hd t (bk x.1) (bk x.2) (sl t.z c)).d, .int .i64 (Hd t (bk x.1) (bk x.2) (sl t.z c)).e, .int .i64 (Hd t (bk x.1) (bk x.2) (sl t.z c)).f], .int .i64 0]) ∧ Grew w w' := by
  have d2 := h.2.1.1
  have d3 : 0 ≤ c ∧ c ≤ 1000000000 := ⟨h.2.2.1, h.2.2.2.2⟩
  obtain ⟨ua, uc, rfl, _⟩ := hs.shape
  have VC : Hid (∀ W, Grew w W → Calls Tryz.prog 9 #[.agg #[.int .i64 t.v, .int .i64 t.z, .int .i64 t.n, .int .i64 t.r.x, .int .i64 t.r.y, .int .i64 t.r.s, .int .i64 t.r.k.a, .int .i64 t.r.k.b, .int .i64 t.r.k.c, .int .i64 t.r.k.d, .int .i64 t.r.k.e, .int .i64 t.r.k.f, .slice ua t.l.length uc]] W fun e w' => e = .returned (.bool true) ∧ Grew W w') := Lib.hid (fun W g => by
    have hq := R.valid_c t _ W (hs.grew g) hl
    rwa [decide_eq_true (p := Tok t) h.1] at hq)
  have C2 : Hid (∀ W, Calls Tryz.prog 19 #[.agg #[.int .i64 x.1, .int .i64 x.2]] W fun e w' => e = .returned (.bool true) ∧ Grew W w') := Lib.hid (fun W => by
    have hq := place_b x W
    rwa [decide_eq_true (p := Plc x) d2] at hq)
  have C3 : Hid (∀ W, Calls Tryz.prog 20 #[.int .i64 c, .int .i64 0, .int .i64 1000000000] W fun e w' => e = .returned (.bool true) ∧ W = w') := Lib.hid (fun W => by
    have hq := in_c c 0 1000000000 W
    rwa [decide_eq_true (p := 0 ≤ c ∧ c ≤ 1000000000) d3] at hq)
  have C4 : Hid (∀ W, Grew w W → Calls Tryz.prog 21 #[.agg #[.int .i64 t.v, .int .i64 t.z, .int .i64 t.n, .int .i64 t.r.x, .int .i64 t.r.y, .int .i64 t.r.s, .int .i64 t.r.k.a, .int .i64 t.r.k.b, .int .i64 t.r.k.c, .int .i64 t.r.k.d, .int .i64 t.r.k.e, .int .i64 t.r.k.f, .slice ua t.l.length uc], .agg #[.int .i64 x.1, .int .i64 x.2], .int .i64 c] W fun e w' => e = .returned (.agg #[.int .i64 0, .int .i64 0, .int .i64 0, .int .i64 (Hd t (bk x.1) (bk x.2) (sl t.z c)).a, .int .i64 (Hd t (bk x.1) (bk x.2) (sl t.z c)).b, .int .i64 (Hd t (bk x.1) (bk x.2) (sl t.z c)).c, .int .i64 (Hd t (bk x.1) (bk x.2) (sl t.z c)).d, .int .i64 (Hd t (bk x.1) (bk x.2) (sl t.z c)).e, .int .i64 (Hd t (bk x.1) (bk x.2) (sl t.z c)).f]) ∧ Grew W w') := Lib.hid (fun W g => R.holds_c t _ x c W (hs.grew g) hl h.1 h.2.1.1 ⟨h.2.2.1, h.2.2.2.2⟩)
  clear hs hl d2 d3
  generalize (Hd t (bk x.1) (bk x.2) (sl t.z c)) = kz at C4 ⊢
  unfold tv
  have HT : Hid (∀ W, Grew ((w.alloc (.cells #[.int .i64 t.v, .int .i64 t.z, .int .i64 t.n, .int .i64 t.r.x, .int .i64 t.r.y, .int .i64 t.r.s, .int .i64 t.r.k.a, .int .i64 t.r.k.b, .int .i64 t.r.k.c, .int .i64 t.r.k.d, .int .i64 t.r.k.e, .int .i64 t.r.k.f, .slice ua t.l.length uc] 28)).alloc (.cells #[.int .i64 x.1, .int .i64 x.2] 30)) W → ((W.cell? ⟨w.heap.size, 0, none⟩ = some (.int .i64 t.v) ∧ W.cell? ⟨w.heap.size, 1, none⟩ = some (.int .i64 t.z) ∧ W.cell? ⟨w.heap.size, 2, none⟩ = some (.int .i64 t.n) ∧ W.cell? ⟨w.heap.size, 3, none⟩ = some (.int .i64 t.r.x) ∧ W.cell? ⟨w.heap.size, 4, none⟩ = some (.int .i64 t.r.y) ∧ W.cell? ⟨w.heap.size, 5, none⟩ = some (.int .i64 t.r.s) ∧ W.cell? ⟨w.heap.size, 6, none⟩ = some (.int .i64 t.r.k.a) ∧ W.cell? ⟨w.heap.size, 7, none⟩ = some (.int .i64 t.r.k.b) ∧ W.cell? ⟨w.heap.size, 8, none⟩ = some (.int .i64 t.r.k.c) ∧ W.cell? ⟨w.heap.size, 9, none⟩ = some (.int .i64 t.r.k.d) ∧ W.cell? ⟨w.heap.size, 10, none⟩ = some (.int .i64 t.r.k.e) ∧ W.cell? ⟨w.heap.size, 11, none⟩ = some (.int .i64 t.r.k.f) ∧ W.cell? ⟨w.heap.size, 12, none⟩ = some (.slice ua t.l.length uc) ∧ W.cell? ⟨w.heap.size + 1, 0, none⟩ = some (.int .i64 x.1) ∧ W.cell? ⟨w.heap.size + 1, 1, none⟩ = some (.int .i64 x.2)) ∧ w.heap.size < W.heap.size ∧ w.heap.size + 1 < W.heap.size)) := Lib.hid (fun W g => by
    have b0 := ((Blk.new w #[.int .i64 t.v, .int .i64 t.z, .int .i64 t.n, .int .i64 t.r.x, .int .i64 t.r.y, .int .i64 t.r.s, .int .i64 t.r.k.a, .int .i64 t.r.k.b, .int .i64 t.r.k.c, .int .i64 t.r.k.d, .int .i64 t.r.k.e, .int .i64 t.r.k.f, .slice ua t.l.length uc] 28).alloc (.cells #[.int .i64 x.1, .int .i64 x.2] 30)).grown g
    have b1 := (blkN (W := w.alloc (.cells #[.int .i64 t.v, .int .i64 t.z, .int .i64 t.n, .int .i64 t.r.x, .int .i64 t.r.y, .int .i64 t.r.s, .int .i64 t.r.k.a, .int .i64 t.r.k.b, .int .i64 t.r.k.c, .int .i64 t.r.k.d, .int .i64 t.r.k.e, .int .i64 t.r.k.f, .slice ua t.l.length uc] 28)) (k := w.heap.size + 1) (cs := #[.int .i64 x.1, .int .i64 x.2]) (t := 30) (by simp)).grown g
    exact ⟨⟨blkAt b0 rfl, blkAt b0 rfl, blkAt b0 rfl, blkAt b0 rfl, blkAt b0 rfl, blkAt b0 rfl, blkAt b0 rfl, blkAt b0 rfl, blkAt b0 rfl, blkAt b0 rfl, blkAt b0 rfl, blkAt b0 rfl, blkAt b0 rfl, blkAt b1 rfl, blkAt b1 rfl⟩, b0.lt, b1.lt⟩)
  have G0 : Hid (Grew w ((w.alloc (.cells #[.int .i64 t.v, .int .i64 t.z, .int .i64 t.n, .int .i64 t.r.x, .int .i64 t.r.y, .int .i64 t.r.s, .int .i64 t.r.k.a, .int .i64 t.r.k.b, .int .i64 t.r.k.c, .int .i64 t.r.k.d, .int .i64 t.r.k.e, .int .i64 t.r.k.f, .slice ua t.l.length uc] 28)).alloc (.cells #[.int .i64 x.1, .int .i64 x.2] 30))) := Lib.hid (((Grew.refl w).alloc _ _).alloc _ _)
  have z0 : ((w.alloc (.cells #[.int .i64 t.v, .int .i64 t.z, .int .i64 t.n, .int .i64 t.r.x, .int .i64 t.r.y, .int .i64 t.r.s, .int .i64 t.r.k.a, .int .i64 t.r.k.b, .int .i64 t.r.k.c, .int .i64 t.r.k.d, .int .i64 t.r.k.e, .int .i64 t.r.k.f, .slice ua t.l.length uc] 28)).alloc (.cells #[.int .i64 x.1, .int .i64 x.2] 30)).heap.size = w.heap.size + 1 + 1 := by simp
  go_enter Tryz.func7, Tryz.ntmps7
  go_wp2_with fail
  obtain ⟨Z, hZ⟩ : ∃ Z, (w.alloc (.cells #[.int .i64 t.v, .int .i64 t.z, .int .i64 t.n, .int .i64 t.r.x, .int .i64 t.r.y, .int .i64 t.r.s, .int .i64 t.r.k.a, .int .i64 t.r.k.b, .int .i64 t.r.k.c, .int .i64 t.r.k.d, .int .i64 t.r.k.e, .int .i64 t.r.k.f, .slice ua t.l.length uc] 28)).alloc (.cells #[.int .i64 x.1, .int .i64 x.2] 30) = Z := ⟨_, rfl⟩
  rw [hZ] at HT G0 z0
  try rw [hZ]
  clear hZ
  obtain ⟨V0, hV⟩ : ∃ V, Z.alloc (.cells #[.int .i64 0, .int .i64 0, .int .i64 0, .int .i64 0, .int .i64 0, .int .i64 0, .int .i64 0, .int .i64 0, .int .i64 0] 25) = V := ⟨_, rfl⟩
  have RB : Hid (∀ W, Grew V0 W → Blk W (w.heap.size + 1 + 1) #[.int .i64 0, .int .i64 0, .int .i64 0, .int .i64 0, .int .i64 0, .int .i64 0, .int .i64 0, .int .i64 0, .int .i64 0] 25) := Lib.hid (fun W g => by
    subst hV
    exact (blkN (W := Z) (k := w.heap.size + 1 + 1) (cs := #[.int .i64 0, .int .i64 0, .int .i64 0, .int .i64 0, .int .i64 0, .int .i64 0, .int .i64 0, .int .i64 0, .int .i64 0]) (t := 25) z0).grown g)
  have GZ : Grew Z V0 := by rw [← hV]; exact (Grew.refl _).alloc _ _
  try rw [hV]
  clear hV
  have HT : Hid (∀ W, Grew V0 W → ((W.cell? ⟨w.heap.size, 0, none⟩ = some (.int .i64 t.v) ∧ W.cell? ⟨w.heap.size, 1, none⟩ = some (.int .i64 t.z) ∧ W.cell? ⟨w.heap.size, 2, none⟩ = some (.int .i64 t.n) ∧ W.cell? ⟨w.heap.size, 3, none⟩ = some (.int .i64 t.r.x) ∧ W.cell? ⟨w.heap.size, 4, none⟩ = some (.int .i64 t.r.y) ∧ W.cell? ⟨w.heap.size, 5, none⟩ = some (.int .i64 t.r.s) ∧ W.cell? ⟨w.heap.size, 6, none⟩ = some (.int .i64 t.r.k.a) ∧ W.cell? ⟨w.heap.size, 7, none⟩ = some (.int .i64 t.r.k.b) ∧ W.cell? ⟨w.heap.size, 8, none⟩ = some (.int .i64 t.r.k.c) ∧ W.cell? ⟨w.heap.size, 9, none⟩ = some (.int .i64 t.r.k.d) ∧ W.cell? ⟨w.heap.size, 10, none⟩ = some (.int .i64 t.r.k.e) ∧ W.cell? ⟨w.heap.size, 11, none⟩ = some (.int .i64 t.r.k.f) ∧ W.cell? ⟨w.heap.size, 12, none⟩ = some (.slice ua t.l.length uc) ∧ W.cell? ⟨w.heap.size + 1, 0, none⟩ = some (.int .i64 x.1) ∧ W.cell? ⟨w.heap.size + 1, 1, none⟩ = some (.int .i64 x.2)) ∧ w.heap.size < W.heap.size ∧ w.heap.size + 1 < W.heap.size)) := Lib.hid (fun W g => HT.out W (GZ.trans g))
  have G0 := Lib.hid (G0.out.trans GZ)
  clear GZ z0
  have GW := Grew.refl V0
  obtain ⟨⟨t0, t1, t2, t3, t4, t5, t6, t7, t8, t9, t10, t11, t12, l0, l1⟩, q0, q1⟩ := HT.out _ GW
  refine (VC.out _ G0.out).mono ?_
  rintro e w1 ⟨rfl, g1⟩
  have GW := GW.trans g1
  clear g1
  clear t0 t1 t2 t3 t4 t5 t6 t7 t8 t9 t10 t11 t12 l0 l1 q0 q1
  obtain ⟨⟨t0, t1, t2, t3, t4, t5, t6, t7, t8, t9, t10, t11, t12, l0, l1⟩, q0, q1⟩ := HT.out _ GW
  go_wp2_with fail
  refine (C2.out _).mono ?_
  rintro e w2 ⟨rfl, g2⟩
  have GW := GW.trans g2
  clear g2
  clear t0 t1 t2 t3 t4 t5 t6 t7 t8 t9 t10 t11 t12 l0 l1 q0 q1
  obtain ⟨⟨t0, t1, t2, t3, t4, t5, t6, t7, t8, t9, t10, t11, t12, l0, l1⟩, q0, q1⟩ := HT.out _ GW
  go_wp2_with fail
  refine (C3.out _).mono ?_
  rintro e wq ⟨rfl, rfl⟩
  go_wp2_with fail
  refine (C4.out _ (G0.out.trans GW)).mono ?_
  rintro e w4 ⟨rfl, g4⟩
  have GW := GW.trans g4
  clear g4
  clear t0 t1 t2 t3 t4 t5 t6 t7 t8 t9 t10 t11 t12 l0 l1 q0 q1
  obtain ⟨⟨t0, t1, t2, t3, t4, t5, t6, t7, t8, t9, t10, t11, t12, l0, l1⟩, q0, q1⟩ := HT.out _ GW
  have BZ := Lib.hid (RB.out _ GW)
  have zb := BZ.out.lt
  have z0 := blkAt BZ.out (i := 0) rfl
  have z1 := blkAt BZ.out (i := 1) rfl
  have z2 := blkAt BZ.out (i := 2) rfl
  have z3 := blkAt BZ.out (i := 3) rfl
  have z4 := blkAt BZ.out (i := 4) rfl
  have z5 := blkAt BZ.out (i := 5) rfl
  have z6 := blkAt BZ.out (i := 6) rfl
  have z7 := blkAt BZ.out (i := 7) rfl
  have z8 := blkAt BZ.out (i := 8) rfl
  have y0 := blkFz BZ.out (i := 0) (by simp)
  have y1 := blkFz BZ.out (i := 1) (by simp)
  have y2 := blkFz BZ.out (i := 2) (by simp)
  have y3 := blkFz BZ.out (i := 3) (by simp)
  have y4 := blkFz BZ.out (i := 4) (by simp)
  have y5 := blkFz BZ.out (i := 5) (by simp)
  have y6 := blkFz BZ.out (i := 6) (by simp)
  have y7 := blkFz BZ.out (i := 7) (by simp)
  have y8 := blkFz BZ.out (i := 8) (by simp)
  clear t0 t1 t2 t3 t4 t5 t6 t7 t8 t9 t10 t11 t12 l0 l1 q0 q1
  go_wp2_with fail
  generalize hU : World.setCell (World.setCell _ _ _) _ _ = U
  have BU : Blk U (w.heap.size + 1 + 1) #[.int .i64 0, .int .i64 0, .int .i64 0, .int .i64 kz.a, .int .i64 kz.b, .int .i64 kz.c, .int .i64 kz.d, .int .i64 kz.e, .int .i64 kz.f] 25 := by rw [← hU]; exact Blk.put9 BZ.out
  have GU : Grew w U := by rw [← hU]; exact Grew.put9 (G0.out.trans GW) (by omega)
  clear hU BZ z0 y0 z1 y1 z2 y2 z3 y3 z4 y4 z5 y5 z6 y6 z7 y7 z8 y8
  have u0 := blkAt BU (i := 0) rfl
  have u1 := blkAt BU (i := 1) rfl
  have u2 := blkAt BU (i := 2) rfl
  have u3 := blkAt BU (i := 3) rfl
  have u4 := blkAt BU (i := 4) rfl
  have u5 := blkAt BU (i := 5) rfl
  have u6 := blkAt BU (i := 6) rfl
  have u7 := blkAt BU (i := 7) rfl
  have u8 := blkAt BU (i := 8) rfl
  refine bodyPost_ret (v := .tuple #[.agg #[.int .i64 0, .int .i64 0, .int .i64 0, .int .i64 kz.a, .int .i64 kz.b, .int .i64 kz.c, .int .i64 kz.d, .int .i64 kz.e, .int .i64 kz.f], .int .i64 0]) (by simp [results, Tryz.results7, go_sem, u0, u1, u2, u3, u4, u5, u6, u7, u8]) rfl ⟨rfl, GU⟩
theorem R.at_c (t : Ed) (u : Value) (x : Pt) (c : Int) (w : World) (hs : Rs w u t.l) (hl : t.l.length ≤ 9223372036854775807) :
    Calls Tryz.prog 7 #[tv t u, .agg #[.int .i64 x.1, .int .i64 x.2], .int .i64 c] w fun e w' => e = .returned (.tuple #[.agg #[.int .i64 0, .int .i64 0, .int .i64 0, .int .i64 (bA t x x c c).1.a, .int .i64 (bA t x x c c).1.b, .int .i64 (bA t x x c c).1.c, .int .i64 (bA t x x c c).1.d, .int .i64 (bA t x x c c).1.e, .int .i64 (bA t x x c c).1.f], .int .i64 (bA t x x c c).2]) ∧ Grew w w' := by
  by_cases h : BOk t x x c c
  · have q := R.at_yes t u x c w hs hl h
    have ev : OvB t x x c c = Hd t (bk x.1) (bk x.2) (sl t.z c) := Ov_one t _ _ _
    rw [bA_yes h]
    simp only [ev]
    exact q
  · rw [bA_no h]
    exact R.at_no t u x c w hs hl h
set_option maxHeartbeats 16000000 in
theorem R.bound_no (t : Ed) (u : Value) (lo hi : Pt) (c d : Int) (w : World) (hs : Rs w u t.l) (hl : t.l.length ≤ 9223372036854775807) (h : ¬ BOk t lo hi c d) :
    Calls Tryz.prog 11 #[tv t u, .agg #[.int .i64 lo.1, .int .i64 lo.2], .agg #[.int .i64 hi.1, .int .i64 hi.2], .int .i64 c, .int .i64 d] w fun e w' => e = .returned (.tuple #[.agg #[.int .i64 0, .int .i64 0, .int .i64 0, .int .i64 0, .int .i64 0, .int .i64 0, .int .i64 0, .int .i64 0, .int .i64 0], .int .i64 1]) ∧ Grew w w' := by
  obtain ⟨ua, uc, rfl, _⟩ := hs.shape
  have VC : Hid (∀ W, Grew w W → Calls Tryz.prog 9 #[.agg #[.int .i64 t.v, .int .i64 t.z, .int .i64 t.n, .int .i64 t.r.x, .int .i64 t.r.y, .int .i64 t.r.s, .int .i64 t.r.k.a, .int .i64 t.r.k.b, .int .i64 t.r.k.c, .int .i64 t.r.k.d, .int .i64 t.r.k.e, .int .i64 t.r.k.f, .slice ua t.l.length uc]] W fun e w' => e = .returned (.bool (decide (Tok t))) ∧ Grew W w') := Lib.hid (fun W g => by
    have hq := R.valid_c t _ W (hs.grew g) hl
    exact hq)
  have C2 : Hid (∀ W, Calls Tryz.prog 17 #[.agg #[.int .i64 lo.1, .int .i64 lo.2], .agg #[.int .i64 hi.1, .int .i64 hi.2]] W fun e w' => e = .returned (.bool (decide (Rec lo hi))) ∧ Grew W w') := Lib.hid (fun W => by
    have hq := rectangle_c lo hi W
    exact hq)
  have C3 : Hid (∀ W, Calls Tryz.prog 18 #[.int .i64 c, .int .i64 d] W fun e w' => e = .returned (.bool (decide (0 ≤ c ∧ c ≤ d ∧ d ≤ 1000000000))) ∧ W = w') := Lib.hid (fun W => by
    have hq := time_c c d W
    exact hq)
  generalize e1 : decide (Tok t) = p1 at VC
  generalize e2 : decide (Rec lo hi) = p2 at C2
  generalize e3 : decide (0 ≤ c ∧ c ≤ d ∧ d ≤ 1000000000) = p3 at C3
  clear hs hl
  unfold tv
  have HT : Hid (∀ W, Grew (((w.alloc (.cells #[.int .i64 t.v, .int .i64 t.z, .int .i64 t.n, .int .i64 t.r.x, .int .i64 t.r.y, .int .i64 t.r.s, .int .i64 t.r.k.a, .int .i64 t.r.k.b, .int .i64 t.r.k.c, .int .i64 t.r.k.d, .int .i64 t.r.k.e, .int .i64 t.r.k.f, .slice ua t.l.length uc] 28)).alloc (.cells #[.int .i64 lo.1, .int .i64 lo.2] 30)).alloc (.cells #[.int .i64 hi.1, .int .i64 hi.2] 30)) W → ((W.cell? ⟨w.heap.size, 0, none⟩ = some (.int .i64 t.v) ∧ W.cell? ⟨w.heap.size, 1, none⟩ = some (.int .i64 t.z) ∧ W.cell? ⟨w.heap.size, 2, none⟩ = some (.int .i64 t.n) ∧ W.cell? ⟨w.heap.size, 3, none⟩ = some (.int .i64 t.r.x) ∧ W.cell? ⟨w.heap.size, 4, none⟩ = some (.int .i64 t.r.y) ∧ W.cell? ⟨w.heap.size, 5, none⟩ = some (.int .i64 t.r.s) ∧ W.cell? ⟨w.heap.size, 6, none⟩ = some (.int .i64 t.r.k.a) ∧ W.cell? ⟨w.heap.size, 7, none⟩ = some (.int .i64 t.r.k.b) ∧ W.cell? ⟨w.heap.size, 8, none⟩ = some (.int .i64 t.r.k.c) ∧ W.cell? ⟨w.heap.size, 9, none⟩ = some (.int .i64 t.r.k.d) ∧ W.cell? ⟨w.heap.size, 10, none⟩ = some (.int .i64 t.r.k.e) ∧ W.cell? ⟨w.heap.size, 11, none⟩ = some (.int .i64 t.r.k.f) ∧ W.cell? ⟨w.heap.size, 12, none⟩ = some (.slice ua t.l.length uc) ∧ W.cell? ⟨w.heap.size + 1, 0, none⟩ = some (.int .i64 lo.1) ∧ W.cell? ⟨w.heap.size + 1, 1, none⟩ = some (.int .i64 lo.2) ∧ W.cell? ⟨w.heap.size + 1 + 1, 0, none⟩ = some (.int .i64 hi.1) ∧ W.cell? ⟨w.heap.size + 1 + 1, 1, none⟩ = some (.int .i64 hi.2)) ∧ w.heap.size < W.heap.size ∧ w.heap.size + 1 < W.heap.size ∧ w.heap.size + 1 + 1 < W.heap.size)) := Lib.hid (fun W g => by
    have b0 := (((Blk.new w #[.int .i64 t.v, .int .i64 t.z, .int .i64 t.n, .int .i64 t.r.x, .int .i64 t.r.y, .int .i64 t.r.s, .int .i64 t.r.k.a, .int .i64 t.r.k.b, .int .i64 t.r.k.c, .int .i64 t.r.k.d, .int .i64 t.r.k.e, .int .i64 t.r.k.f, .slice ua t.l.length uc] 28).alloc (.cells #[.int .i64 lo.1, .int .i64 lo.2] 30)).alloc (.cells #[.int .i64 hi.1, .int .i64 hi.2] 30)).grown g
    have b1 := ((blkN (W := w.alloc (.cells #[.int .i64 t.v, .int .i64 t.z, .int .i64 t.n, .int .i64 t.r.x, .int .i64 t.r.y, .int .i64 t.r.s, .int .i64 t.r.k.a, .int .i64 t.r.k.b, .int .i64 t.r.k.c, .int .i64 t.r.k.d, .int .i64 t.r.k.e, .int .i64 t.r.k.f, .slice ua t.l.length uc] 28)) (k := w.heap.size + 1) (cs := #[.int .i64 lo.1, .int .i64 lo.2]) (t := 30) (by simp)).alloc (.cells #[.int .i64 hi.1, .int .i64 hi.2] 30)).grown g
    have b2 := (blkN (W := (w.alloc (.cells #[.int .i64 t.v, .int .i64 t.z, .int .i64 t.n, .int .i64 t.r.x, .int .i64 t.r.y, .int .i64 t.r.s, .int .i64 t.r.k.a, .int .i64 t.r.k.b, .int .i64 t.r.k.c, .int .i64 t.r.k.d, .int .i64 t.r.k.e, .int .i64 t.r.k.f, .slice ua t.l.length uc] 28)).alloc (.cells #[.int .i64 lo.1, .int .i64 lo.2] 30)) (k := w.heap.size + 1 + 1) (cs := #[.int .i64 hi.1, .int .i64 hi.2]) (t := 30) (by simp)).grown g
    exact ⟨⟨blkAt b0 rfl, blkAt b0 rfl, blkAt b0 rfl, blkAt b0 rfl, blkAt b0 rfl, blkAt b0 rfl, blkAt b0 rfl, blkAt b0 rfl, blkAt b0 rfl, blkAt b0 rfl, blkAt b0 rfl, blkAt b0 rfl, blkAt b0 rfl, blkAt b1 rfl, blkAt b1 rfl, blkAt b2 rfl, blkAt b2 rfl⟩, b0.lt, b1.lt, b2.lt⟩)
  have G0 : Hid (Grew w (((w.alloc (.cells #[.int .i64 t.v, .int .i64 t.z, .int .i64 t.n, .int .i64 t.r.x, .int .i64 t.r.y, .int .i64 t.r.s, .int .i64 t.r.k.a, .int .i64 t.r.k.b, .int .i64 t.r.k.c, .int .i64 t.r.k.d, .int .i64 t.r.k.e, .int .i64 t.r.k.f, .slice ua t.l.length uc] 28)).alloc (.cells #[.int .i64 lo.1, .int .i64 lo.2] 30)).alloc (.cells #[.int .i64 hi.1, .int .i64 hi.2] 30))) := Lib.hid (((Grew.refl w).alloc _ _).alloc _ _ |>.alloc _ _)
  have z0 : (((w.alloc (.cells #[.int .i64 t.v, .int .i64 t.z, .int .i64 t.n, .int .i64 t.r.x, .int .i64 t.r.y, .int .i64 t.r.s, .int .i64 t.r.k.a, .int .i64 t.r.k.b, .int .i64 t.r.k.c, .int .i64 t.r.k.d, .int .i64 t.r.k.e, .int .i64 t.r.k.f, .slice ua t.l.length uc] 28)).alloc (.cells #[.int .i64 lo.1, .int .i64 lo.2] 30)).alloc (.cells #[.int .i64 hi.1, .int .i64 hi.2] 30)).heap.size = w.heap.size + 1 + 1 + 1 := by simp
  go_enter Tryz.func11, Tryz.ntmps11
  go_wp2_with fail
  obtain ⟨Z, hZ⟩ : ∃ Z, ((w.alloc (.cells #[.int .i64 t.v, .int .i64 t.z, .int .i64 t.n, .int .i64 t.r.x, .int .i64 t.r.y, .int .i64 t.r.s, .int .i64 t.r.k.a, .int .i64 t.r.k.b, .int .i64 t.r.k.c, .int .i64 t.r.k.d, .int .i64 t.r.k.e, .int .i64 t.r.k.f, .slice ua t.l.length uc] 28)).alloc (.cells #[.int .i64 lo.1, .int .i64 lo.2] 30)).alloc (.cells #[.int .i64 hi.1, .int .i64 hi.2] 30) = Z := ⟨_, rfl⟩
  rw [hZ] at HT G0 z0
  try rw [hZ]
  clear hZ
  obtain ⟨V0, hV⟩ : ∃ V, Z.alloc (.cells #[.int .i64 0, .int .i64 0, .int .i64 0, .int .i64 0, .int .i64 0, .int .i64 0, .int .i64 0, .int .i64 0, .int .i64 0] 25) = V := ⟨_, rfl⟩
  have RB : Hid (∀ W, Grew V0 W → Blk W (w.heap.size + 1 + 1 + 1) #[.int .i64 0, .int .i64 0, .int .i64 0, .int .i64 0, .int .i64 0, .int .i64 0, .int .i64 0, .int .i64 0, .int .i64 0] 25) := Lib.hid (fun W g => by
    subst hV
    exact (blkN (W := Z) (k := w.heap.size + 1 + 1 + 1) (cs := #[.int .i64 0, .int .i64 0, .int .i64 0, .int .i64 0, .int .i64 0, .int .i64 0, .int .i64 0, .int .i64 0, .int .i64 0]) (t := 25) z0).grown g)
  have GZ : Grew Z V0 := by rw [← hV]; exact (Grew.refl _).alloc _ _
  try rw [hV]
  clear hV
  have HT : Hid (∀ W, Grew V0 W → ((W.cell? ⟨w.heap.size, 0, none⟩ = some (.int .i64 t.v) ∧ W.cell? ⟨w.heap.size, 1, none⟩ = some (.int .i64 t.z) ∧ W.cell? ⟨w.heap.size, 2, none⟩ = some (.int .i64 t.n) ∧ W.cell? ⟨w.heap.size, 3, none⟩ = some (.int .i64 t.r.x) ∧ W.cell? ⟨w.heap.size, 4, none⟩ = some (.int .i64 t.r.y) ∧ W.cell? ⟨w.heap.size, 5, none⟩ = some (.int .i64 t.r.s) ∧ W.cell? ⟨w.heap.size, 6, none⟩ = some (.int .i64 t.r.k.a) ∧ W.cell? ⟨w.heap.size, 7, none⟩ = some (.int .i64 t.r.k.b) ∧ W.cell? ⟨w.heap.size, 8, none⟩ = some (.int .i64 t.r.k.c) ∧ W.cell? ⟨w.heap.size, 9, none⟩ = some (.int .i64 t.r.k.d) ∧ W.cell? ⟨w.heap.size, 10, none⟩ = some (.int .i64 t.r.k.e) ∧ W.cell? ⟨w.heap.size, 11, none⟩ = some (.int .i64 t.r.k.f) ∧ W.cell? ⟨w.heap.size, 12, none⟩ = some (.slice ua t.l.length uc) ∧ W.cell? ⟨w.heap.size + 1, 0, none⟩ = some (.int .i64 lo.1) ∧ W.cell? ⟨w.heap.size + 1, 1, none⟩ = some (.int .i64 lo.2) ∧ W.cell? ⟨w.heap.size + 1 + 1, 0, none⟩ = some (.int .i64 hi.1) ∧ W.cell? ⟨w.heap.size + 1 + 1, 1, none⟩ = some (.int .i64 hi.2)) ∧ w.heap.size < W.heap.size ∧ w.heap.size + 1 < W.heap.size ∧ w.heap.size + 1 + 1 < W.heap.size)) := Lib.hid (fun W g => HT.out W (GZ.trans g))
  have G0 := Lib.hid (G0.out.trans GZ)
  clear GZ z0
  have GW := Grew.refl V0
  obtain ⟨⟨t0, t1, t2, t3, t4, t5, t6, t7, t8, t9, t10, t11, t12, l0, l1, h0, h1⟩, q0, q1, q2⟩ := HT.out _ GW
  refine (VC.out _ G0.out).mono ?_
  rintro e w1 ⟨rfl, g1⟩
  have GW := GW.trans g1
  clear g1
  clear t0 t1 t2 t3 t4 t5 t6 t7 t8 t9 t10 t11 t12 l0 l1 h0 h1 q0 q1 q2
  obtain ⟨⟨t0, t1, t2, t3, t4, t5, t6, t7, t8, t9, t10, t11, t12, l0, l1, h0, h1⟩, q0, q1, q2⟩ := HT.out _ GW
  go_wp2_with fail
  refine (C2.out _).mono ?_
  rintro e w2 ⟨rfl, g2⟩
  have GW := GW.trans g2
  clear g2
  clear t0 t1 t2 t3 t4 t5 t6 t7 t8 t9 t10 t11 t12 l0 l1 h0 h1 q0 q1 q2
  obtain ⟨⟨t0, t1, t2, t3, t4, t5, t6, t7, t8, t9, t10, t11, t12, l0, l1, h0, h1⟩, q0, q1, q2⟩ := HT.out _ GW
  cases p1
  · have BZ := Lib.hid (RB.out _ GW)
    have zb := BZ.out.lt
    have z0 := blkAt BZ.out (i := 0) rfl
    have z1 := blkAt BZ.out (i := 1) rfl
    have z2 := blkAt BZ.out (i := 2) rfl
    have z3 := blkAt BZ.out (i := 3) rfl
    have z4 := blkAt BZ.out (i := 4) rfl
    have z5 := blkAt BZ.out (i := 5) rfl
    have z6 := blkAt BZ.out (i := 6) rfl
    have z7 := blkAt BZ.out (i := 7) rfl
    have z8 := blkAt BZ.out (i := 8) rfl
    have y0 := blkFz BZ.out (i := 0) (by simp)
    have y1 := blkFz BZ.out (i := 1) (by simp)
    have y2 := blkFz BZ.out (i := 2) (by simp)
    have y3 := blkFz BZ.out (i := 3) (by simp)
    have y4 := blkFz BZ.out (i := 4) (by simp)
    have y5 := blkFz BZ.out (i := 5) (by simp)
    have y6 := blkFz BZ.out (i := 6) (by simp)
    have y7 := blkFz BZ.out (i := 7) (by simp)
    have y8 := blkFz BZ.out (i := 8) (by simp)
    clear t0 t1 t2 t3 t4 t5 t6 t7 t8 t9 t10 t11 t12 l0 l1 h0 h1 q0 q1 q2
    go_wp2_with fail
    generalize hU : World.setCell (World.setCell _ _ _) _ _ = U
    have BU : Blk U (w.heap.size + 1 + 1 + 1) #[.int .i64 0, .int .i64 0, .int .i64 0, .int .i64 0, .int .i64 0, .int .i64 0, .int .i64 0, .int .i64 0, .int .i64 0] 25 := by rw [← hU]; exact Blk.put9 BZ.out
    have GU : Grew w U := by rw [← hU]; exact Grew.put9 (G0.out.trans GW) (by omega)
    clear hU BZ z0 y0 z1 y1 z2 y2 z3 y3 z4 y4 z5 y5 z6 y6 z7 y7 z8 y8
    have u0 := blkAt BU (i := 0) rfl
    have u1 := blkAt BU (i := 1) rfl
    have u2 := blkAt BU (i := 2) rfl
    have u3 := blkAt BU (i := 3) rfl
    have u4 := blkAt BU (i := 4) rfl
    have u5 := blkAt BU (i := 5) rfl
    have u6 := blkAt BU (i := 6) rfl
    have u7 := blkAt BU (i := 7) rfl
    have u8 := blkAt BU (i := 8) rfl
    refine bodyPost_ret (v := .tuple #[.agg #[.int .i64 0, .int .i64 0, .int .i64 0, .int .i64 0, .int .i64 0, .int .i64 0, .int .i64 0, .int .i64 0, .int .i64 0], .int .i64 1]) (by simp [results, Tryz.results11, go_sem, u0, u1, u2, u3, u4, u5, u6, u7, u8]) rfl ⟨rfl, GU⟩
  · cases p2
    · have BZ := Lib.hid (RB.out _ GW)
      have zb := BZ.out.lt
      have z0 := blkAt BZ.out (i := 0) rfl
      have z1 := blkAt BZ.out (i := 1) rfl
      have z2 := blkAt BZ.out (i := 2) rfl
      have z3 := blkAt BZ.out (i := 3) rfl
      have z4 := blkAt BZ.out (i := 4) rfl
      have z5 := blkAt BZ.out (i := 5) rfl
      have z6 := blkAt BZ.out (i := 6) rfl
      have z7 := blkAt BZ.out (i := 7) rfl
      have z8 := blkAt BZ.out (i := 8) rfl
      have y0 := blkFz BZ.out (i := 0) (by simp)
      have y1 := blkFz BZ.out (i := 1) (by simp)
      have y2 := blkFz BZ.out (i := 2) (by simp)
      have y3 := blkFz BZ.out (i := 3) (by simp)
      have y4 := blkFz BZ.out (i := 4) (by simp)
      have y5 := blkFz BZ.out (i := 5) (by simp)
      have y6 := blkFz BZ.out (i := 6) (by simp)
      have y7 := blkFz BZ.out (i := 7) (by simp)
      have y8 := blkFz BZ.out (i := 8) (by simp)
      clear t0 t1 t2 t3 t4 t5 t6 t7 t8 t9 t10 t11 t12 l0 l1 h0 h1 q0 q1 q2
      go_wp2_with fail
      generalize hU : World.setCell (World.setCell _ _ _) _ _ = U
      have BU : Blk U (w.heap.size + 1 + 1 + 1) #[.int .i64 0, .int .i64 0, .int .i64 0, .int .i64 0, .int .i64 0, .int .i64 0, .int .i64 0, .int .i64 0, .int .i64 0] 25 := by rw [← hU]; exact Blk.put9 BZ.out
      have GU : Grew w U := by rw [← hU]; exact Grew.put9 (G0.out.trans GW) (by omega)
      clear hU BZ z0 y0 z1 y1 z2 y2 z3 y3 z4 y4 z5 y5 z6 y6 z7 y7 z8 y8
      have u0 := blkAt BU (i := 0) rfl
      have u1 := blkAt BU (i := 1) rfl
      have u2 := blkAt BU (i := 2) rfl
      have u3 := blkAt BU (i := 3) rfl
      have u4 := blkAt BU (i := 4) rfl
      have u5 := blkAt BU (i := 5) rfl
      have u6 := blkAt BU (i := 6) rfl
      have u7 := blkAt BU (i := 7) rfl
      have u8 := blkAt BU (i := 8) rfl
      refine bodyPost_ret (v := .tuple #[.agg #[.int .i64 0, .int .i64 0, .int .i64 0, .int .i64 0, .int .i64 0, .int .i64 0, .int .i64 0, .int .i64 0, .int .i64 0], .int .i64 1]) (by simp [results, Tryz.results11, go_sem, u0, u1, u2, u3, u4, u5, u6, u7, u8]) rfl ⟨rfl, GU⟩
    · go_wp2_with fail
      refine (C3.out _).mono ?_
      rintro e wq ⟨rfl, rfl⟩
      cases p3
      · have BZ := Lib.hid (RB.out _ GW)
        have zb := BZ.out.lt
        have z0 := blkAt BZ.out (i := 0) rfl
        have z1 := blkAt BZ.out (i := 1) rfl
        have z2 := blkAt BZ.out (i := 2) rfl
        have z3 := blkAt BZ.out (i := 3) rfl
        have z4 := blkAt BZ.out (i := 4) rfl
        have z5 := blkAt BZ.out (i := 5) rfl
        have z6 := blkAt BZ.out (i := 6) rfl
        have z7 := blkAt BZ.out (i := 7) rfl
        have z8 := blkAt BZ.out (i := 8) rfl
        have y0 := blkFz BZ.out (i := 0) (by simp)
        have y1 := blkFz BZ.out (i := 1) (by simp)
        have y2 := blkFz BZ.out (i := 2) (by simp)
        have y3 := blkFz BZ.out (i := 3) (by simp)
        have y4 := blkFz BZ.out (i := 4) (by simp)
        have y5 := blkFz BZ.out (i := 5) (by simp)
        have y6 := blkFz BZ.out (i := 6) (by simp)
        have y7 := blkFz BZ.out (i := 7) (by simp)
        have y8 := blkFz BZ.out (i := 8) (by simp)
        clear t0 t1 t2 t3 t4 t5 t6 t7 t8 t9 t10 t11 t12 l0 l1 h0 h1 q0 q1 q2
        go_wp2_with fail
        generalize hU : World.setCell (World.setCell _ _ _) _ _ = U
        have BU : Blk U (w.heap.size + 1 + 1 + 1) #[.int .i64 0, .int .i64 0, .int .i64 0, .int .i64 0, .int .i64 0, .int .i64 0, .int .i64 0, .int .i64 0, .int .i64 0] 25 := by rw [← hU]; exact Blk.put9 BZ.out
        have GU : Grew w U := by rw [← hU]; exact Grew.put9 (G0.out.trans GW) (by omega)
        clear hU BZ z0 y0 z1 y1 z2 y2 z3 y3 z4 y4 z5 y5 z6 y6 z7 y7 z8 y8
        have u0 := blkAt BU (i := 0) rfl
        have u1 := blkAt BU (i := 1) rfl
        have u2 := blkAt BU (i := 2) rfl
        have u3 := blkAt BU (i := 3) rfl
        have u4 := blkAt BU (i := 4) rfl
        have u5 := blkAt BU (i := 5) rfl
        have u6 := blkAt BU (i := 6) rfl
        have u7 := blkAt BU (i := 7) rfl
        have u8 := blkAt BU (i := 8) rfl
        refine bodyPost_ret (v := .tuple #[.agg #[.int .i64 0, .int .i64 0, .int .i64 0, .int .i64 0, .int .i64 0, .int .i64 0, .int .i64 0, .int .i64 0, .int .i64 0], .int .i64 1]) (by simp [results, Tryz.results11, go_sem, u0, u1, u2, u3, u4, u5, u6, u7, u8]) rfl ⟨rfl, GU⟩
      · exact absurd ⟨of_decide_eq_true e1, of_decide_eq_true e2, of_decide_eq_true e3⟩ h
set_option maxHeartbeats 16000000 in
theorem R.bound_yes (t : Ed) (u : Value) (lo hi : Pt) (c d : Int) (w : World) (hs : Rs w u t.l) (hl : t.l.length ≤ 9223372036854775807) (h : BOk t lo hi c d) :
    Calls Tryz.prog 11 #[tv t u, .agg #[.int .i64 lo.1, .int .i64 lo.2], .agg #[.int .i64 hi.1, .int .i64 hi.2], .int .i64 c, .int .i64 d] w fun e w' => e = .returned (.tuple #[.agg #[.int .i64 0, .int .i64 0, .int .i64 0, .int .i64 (OvB t lo hi c d).a, .int .i64 (OvB t lo hi c d).b, .int .i64 (OvB t lo hi c d).c, .int .i64 (OvB t lo hi c d).d, .int .i64 (OvB t lo hi c d).e, .int .i64 (OvB t lo hi c d).f], .int .i64 0]) ∧ Grew w w' := by
  have d2 := h.2.1
  have d3 : 0 ≤ c ∧ c ≤ d ∧ d ≤ 1000000000 := h.2.2
  obtain ⟨ua, uc, rfl, _⟩ := hs.shape
  have VC : Hid (∀ W, Grew w W → Calls Tryz.prog 9 #[.agg #[.int .i64 t.v, .int .i64 t.z, .int .i64 t.n, .int .i64 t.r.x, .int .i64 t.r.y, .int .i64 t.r.s, .int .i64 t.r.k.a, .int .i64 t.r.k.b, .int .i64 t.r.k.c, .int .i64 t.r.k.d, .int .i64 t.r.k.e, .int .i64 t.r.k.f, .slice ua t.l.length uc]] W fun e w' => e = .returned (.bool true) ∧ Grew W w') := Lib.hid (fun W g => by
    have hq := R.valid_c t _ W (hs.grew g) hl
    rwa [decide_eq_true (p := Tok t) h.1] at hq)
  have C2 : Hid (∀ W, Calls Tryz.prog 17 #[.agg #[.int .i64 lo.1, .int .i64 lo.2], .agg #[.int .i64 hi.1, .int .i64 hi.2]] W fun e w' => e = .returned (.bool true) ∧ Grew W w') := Lib.hid (fun W => by
    have hq := rectangle_c lo hi W
    rwa [decide_eq_true (p := Rec lo hi) d2] at hq)
  have C3 : Hid (∀ W, Calls Tryz.prog 18 #[.int .i64 c, .int .i64 d] W fun e w' => e = .returned (.bool true) ∧ W = w') := Lib.hid (fun W => by
    have hq := time_c c d W
    rwa [decide_eq_true (p := 0 ≤ c ∧ c ≤ d ∧ d ≤ 1000000000) d3] at hq)
  have C4 : Hid (∀ W, Grew w W → Calls Tryz.prog 36 #[.agg #[.int .i64 t.v, .int .i64 t.z, .int .i64 t.n, .int .i64 t.r.x, .int .i64 t.r.y, .int .i64 t.r.s, .int .i64 t.r.k.a, .int .i64 t.r.k.b, .int .i64 t.r.k.c, .int .i64 t.r.k.d, .int .i64 t.r.k.e, .int .i64 t.r.k.f, .slice ua t.l.length uc], .agg #[.int .i64 lo.1, .int .i64 lo.2], .agg #[.int .i64 hi.1, .int .i64 hi.2], .int .i64 c, .int .i64 d] W fun e w' => e = .returned (.agg #[.int .i64 0, .int .i64 0, .int .i64 0, .int .i64 (OvB t lo hi c d).a, .int .i64 (OvB t lo hi c d).b, .int .i64 (OvB t lo hi c d).c, .int .i64 (OvB t lo hi c d).d, .int .i64 (OvB t lo hi c d).e, .int .i64 (OvB t lo hi c d).f]) ∧ Grew W w') := Lib.hid (fun W g => R.over_c t _ lo hi c d W (hs.grew g) hl h)
  clear hs hl d2 d3
  generalize (OvB t lo hi c d) = kz at C4 ⊢
  unfold tv
  have HT : Hid (∀ W, Grew (((w.alloc (.cells #[.int .i64 t.v, .int .i64 t.z, .int .i64 t.n, .int .i64 t.r.x, .int .i64 t.r.y, .int .i64 t.r.s, .int .i64 t.r.k.a, .int .i64 t.r.k.b, .int .i64 t.r.k.c, .int .i64 t.r.k.d, .int .i64 t.r.k.e, .int .i64 t.r.k.f, .slice ua t.l.length uc] 28)).alloc (.cells #[.int .i64 lo.1, .int .i64 lo.2] 30)).alloc (.cells #[.int .i64 hi.1, .int .i64 hi.2] 30)) W → ((W.cell? ⟨w.heap.size, 0, none⟩ = some (.int .i64 t.v) ∧ W.cell? ⟨w.heap.size, 1, none⟩ = some (.int .i64 t.z) ∧ W.cell? ⟨w.heap.size, 2, none⟩ = some (.int .i64 t.n) ∧ W.cell? ⟨w.heap.size, 3, none⟩ = some (.int .i64 t.r.x) ∧ W.cell? ⟨w.heap.size, 4, none⟩ = some (.int .i64 t.r.y) ∧ W.cell? ⟨w.heap.size, 5, none⟩ = some (.int .i64 t.r.s) ∧ W.cell? ⟨w.heap.size, 6, none⟩ = some (.int .i64 t.r.k.a) ∧ W.cell? ⟨w.heap.size, 7, none⟩ = some (.int .i64 t.r.k.b) ∧ W.cell? ⟨w.heap.size, 8, none⟩ = some (.int .i64 t.r.k.c) ∧ W.cell? ⟨w.heap.size, 9, none⟩ = some (.int .i64 t.r.k.d) ∧ W.cell? ⟨w.heap.size, 10, none⟩ = some (.int .i64 t.r.k.e) ∧ W.cell? ⟨w.heap.size, 11, none⟩ = some (.int .i64 t.r.k.f) ∧ W.cell? ⟨w.heap.size, 12, none⟩ = some (.slice ua t.l.length uc) ∧ W.cell? ⟨w.heap.size + 1, 0, none⟩ = some (.int .i64 lo.1) ∧ W.cell? ⟨w.heap.size + 1, 1, none⟩ = some (.int .i64 lo.2) ∧ W.cell? ⟨w.heap.size + 1 + 1, 0, none⟩ = some (.int .i64 hi.1) ∧ W.cell? ⟨w.heap.size + 1 + 1, 1, none⟩ = some (.int .i64 hi.2)) ∧ w.heap.size < W.heap.size ∧ w.heap.size + 1 < W.heap.size ∧ w.heap.size + 1 + 1 < W.heap.size)) := Lib.hid (fun W g => by
    have b0 := (((Blk.new w #[.int .i64 t.v, .int .i64 t.z, .int .i64 t.n, .int .i64 t.r.x, .int .i64 t.r.y, .int .i64 t.r.s, .int .i64 t.r.k.a, .int .i64 t.r.k.b, .int .i64 t.r.k.c, .int .i64 t.r.k.d, .int .i64 t.r.k.e, .int .i64 t.r.k.f, .slice ua t.l.length uc] 28).alloc (.cells #[.int .i64 lo.1, .int .i64 lo.2] 30)).alloc (.cells #[.int .i64 hi.1, .int .i64 hi.2] 30)).grown g
    have b1 := ((blkN (W := w.alloc (.cells #[.int .i64 t.v, .int .i64 t.z, .int .i64 t.n, .int .i64 t.r.x, .int .i64 t.r.y, .int .i64 t.r.s, .int .i64 t.r.k.a, .int .i64 t.r.k.b, .int .i64 t.r.k.c, .int .i64 t.r.k.d, .int .i64 t.r.k.e, .int .i64 t.r.k.f, .slice ua t.l.length uc] 28)) (k := w.heap.size + 1) (cs := #[.int .i64 lo.1, .int .i64 lo.2]) (t := 30) (by simp)).alloc (.cells #[.int .i64 hi.1, .int .i64 hi.2] 30)).grown g
    have b2 := (blkN (W := (w.alloc (.cells #[.int .i64 t.v, .int .i64 t.z, .int .i64 t.n, .int .i64 t.r.x, .int .i64 t.r.y, .int .i64 t.r.s, .int .i64 t.r.k.a, .int .i64 t.r.k.b, .int .i64 t.r.k.c, .int .i64 t.r.k.d, .int .i64 t.r.k.e, .int .i64 t.r.k.f, .slice ua t.l.length uc] 28)).alloc (.cells #[.int .i64 lo.1, .int .i64 lo.2] 30)) (k := w.heap.size + 1 + 1) (cs := #[.int .i64 hi.1, .int .i64 hi.2]) (t := 30) (by simp)).grown g
    exact ⟨⟨blkAt b0 rfl, blkAt b0 rfl, blkAt b0 rfl, blkAt b0 rfl, blkAt b0 rfl, blkAt b0 rfl, blkAt b0 rfl, blkAt b0 rfl, blkAt b0 rfl, blkAt b0 rfl, blkAt b0 rfl, blkAt b0 rfl, blkAt b0 rfl, blkAt b1 rfl, blkAt b1 rfl, blkAt b2 rfl, blkAt b2 rfl⟩, b0.lt, b1.lt, b2.lt⟩)
  have G0 : Hid (Grew w (((w.alloc (.cells #[.int .i64 t.v, .int .i64 t.z, .int .i64 t.n, .int .i64 t.r.x, .int .i64 t.r.y, .int .i64 t.r.s, .int .i64 t.r.k.a, .int .i64 t.r.k.b, .int .i64 t.r.k.c, .int .i64 t.r.k.d, .int .i64 t.r.k.e, .int .i64 t.r.k.f, .slice ua t.l.length uc] 28)).alloc (.cells #[.int .i64 lo.1, .int .i64 lo.2] 30)).alloc (.cells #[.int .i64 hi.1, .int .i64 hi.2] 30))) := Lib.hid (((Grew.refl w).alloc _ _).alloc _ _ |>.alloc _ _)
  have z0 : (((w.alloc (.cells #[.int .i64 t.v, .int .i64 t.z, .int .i64 t.n, .int .i64 t.r.x, .int .i64 t.r.y, .int .i64 t.r.s, .int .i64 t.r.k.a, .int .i64 t.r.k.b, .int .i64 t.r.k.c, .int .i64 t.r.k.d, .int .i64 t.r.k.e, .int .i64 t.r.k.f, .slice ua t.l.length uc] 28)).alloc (.cells #[.int .i64 lo.1, .int .i64 lo.2] 30)).alloc (.cells #[.int .i64 hi.1, .int .i64 hi.2] 30)).heap.size = w.heap.size + 1 + 1 + 1 := by simp
  go_enter Tryz.func11, Tryz.ntmps11
  go_wp2_with fail
  obtain ⟨Z, hZ⟩ : ∃ Z, ((w.alloc (.cells #[.int .i64 t.v, .int .i64 t.z, .int .i64 t.n, .int .i64 t.r.x, .int .i64 t.r.y, .int .i64 t.r.s, .int .i64 t.r.k.a, .int .i64 t.r.k.b, .int .i64 t.r.k.c, .int .i64 t.r.k.d, .int .i64 t.r.k.e, .int .i64 t.r.k.f, .slice ua t.l.length uc] 28)).alloc (.cells #[.int .i64 lo.1, .int .i64 lo.2] 30)).alloc (.cells #[.int .i64 hi.1, .int .i64 hi.2] 30) = Z := ⟨_, rfl⟩
  rw [hZ] at HT G0 z0
  try rw [hZ]
  clear hZ
  obtain ⟨V0, hV⟩ : ∃ V, Z.alloc (.cells #[.int .i64 0, .int .i64 0, .int .i64 0, .int .i64 0, .int .i64 0, .int .i64 0, .int .i64 0, .int .i64 0, .int .i64 0] 25) = V := ⟨_, rfl⟩
  have RB : Hid (∀ W, Grew V0 W → Blk W (w.heap.size + 1 + 1 + 1) #[.int .i64 0, .int .i64 0, .int .i64 0, .int .i64 0, .int .i64 0, .int .i64 0, .int .i64 0, .int .i64 0, .int .i64 0] 25) := Lib.hid (fun W g => by
    subst hV
    exact (blkN (W := Z) (k := w.heap.size + 1 + 1 + 1) (cs := #[.int .i64 0, .int .i64 0, .int .i64 0, .int .i64 0, .int .i64 0, .int .i64 0, .int .i64 0, .int .i64 0, .int .i64 0]) (t := 25) z0).grown g)
  have GZ : Grew Z V0 := by rw [← hV]; exact (Grew.refl _).alloc _ _
  try rw [hV]
  clear hV
  have HT : Hid (∀ W, Grew V0 W → ((W.cell? ⟨w.heap.size, 0, none⟩ = some (.int .i64 t.v) ∧ W.cell? ⟨w.heap.size, 1, none⟩ = some (.int .i64 t.z) ∧ W.cell? ⟨w.heap.size, 2, none⟩ = some (.int .i64 t.n) ∧ W.cell? ⟨w.heap.size, 3, none⟩ = some (.int .i64 t.r.x) ∧ W.cell? ⟨w.heap.size, 4, none⟩ = some (.int .i64 t.r.y) ∧ W.cell? ⟨w.heap.size, 5, none⟩ = some (.int .i64 t.r.s) ∧ W.cell? ⟨w.heap.size, 6, none⟩ = some (.int .i64 t.r.k.a) ∧ W.cell? ⟨w.heap.size, 7, none⟩ = some (.int .i64 t.r.k.b) ∧ W.cell? ⟨w.heap.size, 8, none⟩ = some (.int .i64 t.r.k.c) ∧ W.cell? ⟨w.heap.size, 9, none⟩ = some (.int .i64 t.r.k.d) ∧ W.cell? ⟨w.heap.size, 10, none⟩ = some (.int .i64 t.r.k.e) ∧ W.cell? ⟨w.heap.size, 11, none⟩ = some (.int .i64 t.r.k.f) ∧ W.cell? ⟨w.heap.size, 12, none⟩ = some (.slice ua t.l.length uc) ∧ W.cell? ⟨w.heap.size + 1, 0, none⟩ = some (.int .i64 lo.1) ∧ W.cell? ⟨w.heap.size + 1, 1, none⟩ = some (.int .i64 lo.2) ∧ W.cell? ⟨w.heap.size + 1 + 1, 0, none⟩ = some (.int .i64 hi.1) ∧ W.cell? ⟨w.heap.size + 1 + 1, 1, none⟩ = some (.int .i64 hi.2)) ∧ w.heap.size < W.heap.size ∧ w.heap.size + 1 < W.heap.size ∧ w.heap.size + 1 + 1 < W.heap.size)) := Lib.hid (fun W g => HT.out W (GZ.trans g))
  have G0 := Lib.hid (G0.out.trans GZ)
  clear GZ z0
  have GW := Grew.refl V0
  obtain ⟨⟨t0, t1, t2, t3, t4, t5, t6, t7, t8, t9, t10, t11, t12, l0, l1, h0, h1⟩, q0, q1, q2⟩ := HT.out _ GW
  refine (VC.out _ G0.out).mono ?_
  rintro e w1 ⟨rfl, g1⟩
  have GW := GW.trans g1
  clear g1
  clear t0 t1 t2 t3 t4 t5 t6 t7 t8 t9 t10 t11 t12 l0 l1 h0 h1 q0 q1 q2
  obtain ⟨⟨t0, t1, t2, t3, t4, t5, t6, t7, t8, t9, t10, t11, t12, l0, l1, h0, h1⟩, q0, q1, q2⟩ := HT.out _ GW
  go_wp2_with fail
  refine (C2.out _).mono ?_
  rintro e w2 ⟨rfl, g2⟩
  have GW := GW.trans g2
  clear g2
  clear t0 t1 t2 t3 t4 t5 t6 t7 t8 t9 t10 t11 t12 l0 l1 h0 h1 q0 q1 q2
  obtain ⟨⟨t0, t1, t2, t3, t4, t5, t6, t7, t8, t9, t10, t11, t12, l0, l1, h0, h1⟩, q0, q1, q2⟩ := HT.out _ GW
  go_wp2_with fail
  refine (C3.out _).mono ?_
  rintro e wq ⟨rfl, rfl⟩
  go_wp2_with fail
  refine (C4.out _ (G0.out.trans GW)).mono ?_
  rintro e w4 ⟨rfl, g4⟩
  have GW := GW.trans g4
  clear g4
  clear t0 t1 t2 t3 t4 t5 t6 t7 t8 t9 t10 t11 t12 l0 l1 h0 h1 q0 q1 q2
  obtain ⟨⟨t0, t1, t2, t3, t4, t5, t6, t7, t8, t9, t10, t11, t12, l0, l1, h0, h1⟩, q0, q1, q2⟩ := HT.out _ GW
  have BZ := Lib.hid (RB.out _ GW)
  have zb := BZ.out.lt
  have z0 := blkAt BZ.out (i := 0) rfl
  have z1 := blkAt BZ.out (i := 1) rfl
  have z2 := blkAt BZ.out (i := 2) rfl
  have z3 := blkAt BZ.out (i := 3) rfl
  have z4 := blkAt BZ.out (i := 4) rfl
  have z5 := blkAt BZ.out (i := 5) rfl
  have z6 := blkAt BZ.out (i := 6) rfl
  have z7 := blkAt BZ.out (i := 7) rfl
  have z8 := blkAt BZ.out (i := 8) rfl
  have y0 := blkFz BZ.out (i := 0) (by simp)
  have y1 := blkFz BZ.out (i := 1) (by simp)
  have y2 := blkFz BZ.out (i := 2) (by simp)
  have y3 := blkFz BZ.out (i := 3) (by simp)
  have y4 := blkFz BZ.out (i := 4) (by simp)
  have y5 := blkFz BZ.out (i := 5) (by simp)
  have y6 := blkFz BZ.out (i := 6) (by simp)
  have y7 := blkFz BZ.out (i := 7) (by simp)
  have y8 := blkFz BZ.out (i := 8) (by simp)
  clear t0 t1 t2 t3 t4 t5 t6 t7 t8 t9 t10 t11 t12 l0 l1 h0 h1 q0 q1 q2
  go_wp2_with fail
  generalize hU : World.setCell (World.setCell _ _ _) _ _ = U
  have BU : Blk U (w.heap.size + 1 + 1 + 1) #[.int .i64 0, .int .i64 0, .int .i64 0, .int .i64 kz.a, .int .i64 kz.b, .int .i64 kz.c, .int .i64 kz.d, .int .i64 kz.e, .int .i64 kz.f] 25 := by rw [← hU]; exact Blk.put9 BZ.out
  have GU : Grew w U := by rw [← hU]; exact Grew.put9 (G0.out.trans GW) (by omega)
  clear hU BZ z0 y0 z1 y1 z2 y2 z3 y3 z4 y4 z5 y5 z6 y6 z7 y7 z8 y8
  have u0 := blkAt BU (i := 0) rfl
  have u1 := blkAt BU (i := 1) rfl
  have u2 := blkAt BU (i := 2) rfl
  have u3 := blkAt BU (i := 3) rfl
  have u4 := blkAt BU (i := 4) rfl
  have u5 := blkAt BU (i := 5) rfl
  have u6 := blkAt BU (i := 6) rfl
  have u7 := blkAt BU (i := 7) rfl
  have u8 := blkAt BU (i := 8) rfl
  refine bodyPost_ret (v := .tuple #[.agg #[.int .i64 0, .int .i64 0, .int .i64 0, .int .i64 kz.a, .int .i64 kz.b, .int .i64 kz.c, .int .i64 kz.d, .int .i64 kz.e, .int .i64 kz.f], .int .i64 0]) (by simp [results, Tryz.results11, go_sem, u0, u1, u2, u3, u4, u5, u6, u7, u8]) rfl ⟨rfl, GU⟩
theorem R.bound_c (t : Ed) (u : Value) (lo hi : Pt) (c d : Int) (w : World) (hs : Rs w u t.l) (hl : t.l.length ≤ 9223372036854775807) :
    Calls Tryz.prog 11 #[tv t u, .agg #[.int .i64 lo.1, .int .i64 lo.2], .agg #[.int .i64 hi.1, .int .i64 hi.2], .int .i64 c, .int .i64 d] w fun e w' => e = .returned (.tuple #[.agg #[.int .i64 0, .int .i64 0, .int .i64 0, .int .i64 (bA t lo hi c d).1.a, .int .i64 (bA t lo hi c d).1.b, .int .i64 (bA t lo hi c d).1.c, .int .i64 (bA t lo hi c d).1.d, .int .i64 (bA t lo hi c d).1.e, .int .i64 (bA t lo hi c d).1.f], .int .i64 (bA t lo hi c d).2]) ∧ Grew w w' := by
  by_cases h : BOk t lo hi c d
  · have q := R.bound_yes t u lo hi c d w hs hl h
    have ev : OvB t lo hi c d = OvB t lo hi c d := rfl
    rw [bA_yes h]
    simp only
    exact q
  · rw [bA_no h]
    exact R.bound_no t u lo hi c d w hs hl h
end Td
end Go.Proofs.YtpiajdahmcelnaaGreat
