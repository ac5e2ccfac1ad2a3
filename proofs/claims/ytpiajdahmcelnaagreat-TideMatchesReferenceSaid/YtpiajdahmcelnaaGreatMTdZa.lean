/-
  The reference: what holds in a block and a slot.
-/
import Derived.Test.YtpiajdahmcelnaaGreatMTdO
import Derived.Test.YtpiajdahmcelnaaGreatMHullOwn
namespace Go.Proofs.YtpiajdahmcelnaaGreat
open Go.RowKit Hl
namespace Td
set_option maxRecDepth 100000
theorem R.plain_c (r : Fw) (w : World) : Calls Tryz.prog 61 #[.agg #[.int .i64 r.x, .int .i64 r.y, .int .i64 r.s, .int .i64 r.k.a, .int .i64 r.k.b, .int .i64 r.k.c, .int .i64 r.k.d, .int .i64 r.k.e, .int .i64 r.k.f]] w fun e w' => e = .returned (.agg #[.int .i64 0, .int .i64 0, .int .i64 0, .int .i64 r.k.a, .int .i64 r.k.b, .int .i64 r.k.c, .int .i64 r.k.d, .int .i64 r.k.e, .int .i64 r.k.f]) ∧ Grew w w' := by
  rcases r with ⟨x, y, s, ⟨a, b, c, d, p, q⟩⟩
  simp only
  go_enter Tryz.func61, Tryz.ntmps61
  go_wp2_with fail
  refine bodyPost_ret (v := .agg #[.int .i64 0, .int .i64 0, .int .i64 0, .int .i64 a, .int .i64 b, .int .i64 c, .int .i64 d, .int .i64 p, .int .i64 q]) (by simp [results, Tryz.results61, go_sem, *]) rfl ⟨rfl, (by (repeat' (first | (with_reducible exact Grew.refl _) | (with_reducible assumption) | (with_reducible refine Grew.alloc ?_ _ _) | (with_reducible refine Grew.drew ?_) | (with_reducible refine Grew.drewN ?_ _) | (with_reducible refine Grew.setCell ?_ ?_ _) | go_size)))⟩
set_option maxHeartbeats 16000000 in
theorem R.of_c (t : Ed) (u : Value) (x y s : Int) (w : World) (hs : Rs w u t.l) (hl : t.l.length ≤ 9223372036854775807) :
    Calls Tryz.prog 41 #[tv t u, .int .i64 x, .int .i64 y, .int .i64 s] w fun e w' => e = .returned (.agg #[.int .i64 0, .int .i64 0, .int .i64 0, .int .i64 (Hd t x y s).a, .int .i64 (Hd t x y s).b, .int .i64 (Hd t x y s).c, .int .i64 (Hd t x y s).d, .int .i64 (Hd t x y s).e, .int .i64 (Hd t x y s).f]) ∧ Grew w w' := by
  obtain ⟨ua, uc, rfl, _⟩ := hs.shape
  have HS := Lib.hid hs
  have HL := Lib.hid hl
  have PC : Hid (∀ (r : Fw) (W : World), Calls Tryz.prog 61 #[.agg #[.int .i64 r.x, .int .i64 r.y, .int .i64 r.s, .int .i64 r.k.a, .int .i64 r.k.b, .int .i64 r.k.c, .int .i64 r.k.d, .int .i64 r.k.e, .int .i64 r.k.f]] W fun e w' => e = .returned (.agg #[.int .i64 0, .int .i64 0, .int .i64 0, .int .i64 r.k.a, .int .i64 r.k.b, .int .i64 r.k.c, .int .i64 r.k.d, .int .i64 r.k.e, .int .i64 r.k.f]) ∧ Grew W w') := Lib.hid R.plain_c
  have HD : Hid (Hd t x y s = hd t.r.k t.l x y s) := Lib.hid rfl
  generalize Hd t x y s = kz at *
  unfold tv
  clear hs hl
  have HT : Hid (∀ W, Grew (w.alloc (.cells #[.int .i64 t.v, .int .i64 t.z, .int .i64 t.n, .int .i64 t.r.x, .int .i64 t.r.y, .int .i64 t.r.s, .int .i64 t.r.k.a, .int .i64 t.r.k.b, .int .i64 t.r.k.c, .int .i64 t.r.k.d, .int .i64 t.r.k.e, .int .i64 t.r.k.f, .slice ua t.l.length uc] 28)) W → ((W.cell? ⟨w.heap.size, 0, none⟩ = some (.int .i64 t.v) ∧ W.cell? ⟨w.heap.size, 1, none⟩ = some (.int .i64 t.z) ∧ W.cell? ⟨w.heap.size, 2, none⟩ = some (.int .i64 t.n) ∧ W.cell? ⟨w.heap.size, 3, none⟩ = some (.int .i64 t.r.x) ∧ W.cell? ⟨w.heap.size, 4, none⟩ = some (.int .i64 t.r.y) ∧ W.cell? ⟨w.heap.size, 5, none⟩ = some (.int .i64 t.r.s) ∧ W.cell? ⟨w.heap.size, 6, none⟩ = some (.int .i64 t.r.k.a) ∧ W.cell? ⟨w.heap.size, 7, none⟩ = some (.int .i64 t.r.k.b) ∧ W.cell? ⟨w.heap.size, 8, none⟩ = some (.int .i64 t.r.k.c) ∧ W.cell? ⟨w.heap.size, 9, none⟩ = some (.int .i64 t.r.k.d) ∧ W.cell? ⟨w.heap.size, 10, none⟩ = some (.int .i64 t.r.k.e) ∧ W.cell? ⟨w.heap.size, 11, none⟩ = some (.int .i64 t.r.k.f) ∧ W.cell? ⟨w.heap.size, 12, none⟩ = some (.slice ua t.l.length uc)) ∧ w.heap.size < W.heap.size)) := Lib.hid (fun W g => by
    have b0 := (Blk.new w #[.int .i64 t.v, .int .i64 t.z, .int .i64 t.n, .int .i64 t.r.x, .int .i64 t.r.y, .int .i64 t.r.s, .int .i64 t.r.k.a, .int .i64 t.r.k.b, .int .i64 t.r.k.c, .int .i64 t.r.k.d, .int .i64 t.r.k.e, .int .i64 t.r.k.f, .slice ua t.l.length uc] 28).grown g
    exact ⟨⟨blkAt b0 rfl, blkAt b0 rfl, blkAt b0 rfl, blkAt b0 rfl, blkAt b0 rfl, blkAt b0 rfl, blkAt b0 rfl, blkAt b0 rfl, blkAt b0 rfl, blkAt b0 rfl, blkAt b0 rfl, blkAt b0 rfl, blkAt b0 rfl⟩, b0.lt⟩)
  have G0 : Hid (Grew w (w.alloc (.cells #[.int .i64 t.v, .int .i64 t.z, .int .i64 t.n, .int .i64 t.r.x, .int .i64 t.r.y, .int .i64 t.r.s, .int .i64 t.r.k.a, .int .i64 t.r.k.b, .int .i64 t.r.k.c, .int .i64 t.r.k.d, .int .i64 t.r.k.e, .int .i64 t.r.k.f, .slice ua t.l.length uc] 28))) := Lib.hid ((Grew.refl w).alloc _ _)
  go_enter Tryz.func41, Tryz.ntmps41
  go_wp2_with fail
  have BZ : Hid (Blk ((w.alloc (.cells #[.int .i64 t.v, .int .i64 t.z, .int .i64 t.n, .int .i64 t.r.x, .int .i64 t.r.y, .int .i64 t.r.s, .int .i64 t.r.k.a, .int .i64 t.r.k.b, .int .i64 t.r.k.c, .int .i64 t.r.k.d, .int .i64 t.r.k.e, .int .i64 t.r.k.f, .slice ua t.l.length uc] 28)).alloc (.cells #[.int .i64 0, .int .i64 0, .int .i64 0, .int .i64 0, .int .i64 0, .int .i64 0, .int .i64 0, .int .i64 0, .int .i64 0] 25)) (w.heap.size + 1) #[.int .i64 0, .int .i64 0, .int .i64 0, .int .i64 0, .int .i64 0, .int .i64 0, .int .i64 0, .int .i64 0, .int .i64 0] 25) := Lib.hid (blkN (by simp))
  have g1 : Grew (w.alloc (.cells #[.int .i64 t.v, .int .i64 t.z, .int .i64 t.n, .int .i64 t.r.x, .int .i64 t.r.y, .int .i64 t.r.s, .int .i64 t.r.k.a, .int .i64 t.r.k.b, .int .i64 t.r.k.c, .int .i64 t.r.k.d, .int .i64 t.r.k.e, .int .i64 t.r.k.f, .slice ua t.l.length uc] 28)) ((w.alloc (.cells #[.int .i64 t.v, .int .i64 t.z, .int .i64 t.n, .int .i64 t.r.x, .int .i64 t.r.y, .int .i64 t.r.s, .int .i64 t.r.k.a, .int .i64 t.r.k.b, .int .i64 t.r.k.c, .int .i64 t.r.k.d, .int .i64 t.r.k.e, .int .i64 t.r.k.f, .slice ua t.l.length uc] 28)).alloc (.cells #[.int .i64 0, .int .i64 0, .int .i64 0, .int .i64 0, .int .i64 0, .int .i64 0, .int .i64 0, .int .i64 0, .int .i64 0] 25)) := (Grew.refl _).alloc _ _
  obtain ⟨Z, hZ⟩ : ∃ Z, w.alloc (.cells #[.int .i64 t.v, .int .i64 t.z, .int .i64 t.n, .int .i64 t.r.x, .int .i64 t.r.y, .int .i64 t.r.s, .int .i64 t.r.k.a, .int .i64 t.r.k.b, .int .i64 t.r.k.c, .int .i64 t.r.k.d, .int .i64 t.r.k.e, .int .i64 t.r.k.f, .slice ua t.l.length uc] 28) = Z := ⟨_, rfl⟩
  have zz : Z.heap.size = w.heap.size + 1 := by rw [← hZ]; simp
  rw [hZ] at HT G0 BZ g1
  try rw [hZ]
  clear hZ
  go_loopw [9] (fun i wr => ∃ k : Nat, k ≤ t.l.length ∧ i = .int .i64 k ∧ Grew Z wr ∧ Hid (Blk wr (w.heap.size + 1) #[.int .i64 0, .int .i64 0, .int .i64 0, .int .i64 0, .int .i64 0, .int .i64 0, .int .i64 0, .int .i64 0, .int .i64 0] 25) ∧ Hid (∀ j, j < k → ¬ ((ith t.l j).x = x ∧ (ith t.l j).y = y ∧ (ith t.l j).s = s))) (fun i _ => t.l.length - (intOf i).toNat)
  case atStart => exact ⟨0, Nat.zero_le _, rfl, g1, BZ, Lib.hid (fun j hj => by omega)⟩
  case round =>
    clear BZ g1
    obtain ⟨k, hk, rfl, GW, BZ, D⟩ := hrel
    have hl := HL.out
    by_cases hlt : k < t.l.length
    · obtain ⟨b, o, rfl, RW⟩ := (HS.out.grew (G0.out.trans GW)).row (by omega)
      obtain ⟨x0, x1, x2, x3, x4, x5, x6, x7, x8⟩ := RW.at hlt
      have xb := RW.1
      clear RW
      have i0 : (0 : Int) ≤ (k : Int) := by omega
      have i1 : (k : Int) < (t.l.length : Int) := by omega
      have NX : Hid (¬ ((ith t.l k).x = x ∧ (ith t.l k).y = y ∧ (ith t.l k).s = s) → ∀ j, j < k + 1 → ¬ ((ith t.l j).x = x ∧ (ith t.l j).y = y ∧ (ith t.l j).s = s)) := Lib.hid (fun h j hj => by
        by_cases e : j = k
        · rw [e]; exact h
        · exact D.out j (by omega))
      have YE : Hid (((ith t.l k).x = x ∧ (ith t.l k).y = y ∧ (ith t.l k).s = s) → kz = (ith t.l k).k) := Lib.hid (fun h => by rw [HD.out]; exact hd_at hlt h D.out)
      obtain ⟨r, hr⟩ : ∃ r, ith t.l k = r := ⟨_, rfl⟩
      rw [hr] at x0 x1 x2 x3 x4 x5 x6 x7 x8 NX YE
      clear hr D
      obtain ⟨⟨t0, t1, t2, t3, t4, t5, t6, t7, t8, t9, t10, t11, t12⟩, q0⟩ := HT.out _ GW
      obtain ⟨V, rfl⟩ : ∃ V : World, V = wr := ⟨_, rfl⟩
      go_upto_region 5 with fail
      obtain ⟨V2, hV⟩ : ∃ W, V.alloc (.cells #[.int .i64 r.x, .int .i64 r.y, .int .i64 r.s, .int .i64 r.k.a, .int .i64 r.k.b, .int .i64 r.k.c, .int .i64 r.k.d, .int .i64 r.k.e, .int .i64 r.k.f] 25) = W := ⟨_, rfl⟩
      have BR : Hid (Blk V2 V.heap.size #[.int .i64 r.x, .int .i64 r.y, .int .i64 r.s, .int .i64 r.k.a, .int .i64 r.k.b, .int .i64 r.k.c, .int .i64 r.k.d, .int .i64 r.k.e, .int .i64 r.k.f] 25) := Lib.hid (by rw [← hV]; exact Blk.new _ _ _)
      have g2 : Grew V V2 := by rw [← hV]; exact (Grew.refl _).alloc _ _
      try rw [hV]
      clear hV
      have GW := GW.trans g2
      have BZ := Lib.hid (BZ.out.grown g2)
      clear g2 x0 x1 x2 x3 x4 x5 x6 x7 x8 xb
      clear t0 t1 t2 t3 t4 t5 t6 t7 t8 t9 t10 t11 t12 q0
      obtain ⟨⟨t0, t1, t2, t3, t4, t5, t6, t7, t8, t9, t10, t11, t12⟩, q0⟩ := HT.out _ GW
      have rb := BR.out.lt
      have r0 := blkAt BR.out (i := 0) rfl
      have r1 := blkAt BR.out (i := 1) rfl
      have r2 := blkAt BR.out (i := 2) rfl
      have r3 := blkAt BR.out (i := 3) rfl
      have r4 := blkAt BR.out (i := 4) rfl
      have r5 := blkAt BR.out (i := 5) rfl
      have r6 := blkAt BR.out (i := 6) rfl
      have r7 := blkAt BR.out (i := 7) rfl
      have r8 := blkAt BR.out (i := 8) rfl
      go_cut [38] from 18 to 37 (fun s38 wx => s38 = .bool (decide (r.x = x ∧ r.y = y ∧ r.s = s)) ∧ wx = V2)
      case first =>
        by_cases h1 : r.x = x
        · by_cases h2 : r.y = y
          · by_cases h3 : r.s = s
            · have ee : decide (r.x = x ∧ r.y = y ∧ r.s = s) = true := decide_eq_true (by omega)
              go_wp2_with fail
              go_meet
              exact ⟨by first | (rw [ee]; done) | (rw [ee]; first | rfl | exact congrArg Value.bool (decide_eq_false (by omega)) | exact congrArg Value.bool (decide_eq_true (by omega))), rfl⟩
            · have ee : decide (r.x = x ∧ r.y = y ∧ r.s = s) = false := decide_eq_false (by omega)
              go_wp2_with fail
              go_meet
              exact ⟨by first | (rw [ee]; done) | (rw [ee]; first | rfl | exact congrArg Value.bool (decide_eq_false (by omega)) | exact congrArg Value.bool (decide_eq_true (by omega))), rfl⟩
          · have ee : decide (r.x = x ∧ r.y = y ∧ r.s = s) = false := decide_eq_false (by omega)
            go_wp2_with fail
            go_meet
            exact ⟨by first | (rw [ee]; done) | (rw [ee]; first | rfl | exact congrArg Value.bool (decide_eq_false (by omega)) | exact congrArg Value.bool (decide_eq_true (by omega))), rfl⟩
        · have ee : decide (r.x = x ∧ r.y = y ∧ r.s = s) = false := decide_eq_false (by omega)
          go_wp2_with fail
          go_meet
          exact ⟨by first | (rw [ee]; done) | (rw [ee]; first | rfl | exact congrArg Value.bool (decide_eq_false (by omega)) | exact congrArg Value.bool (decide_eq_true (by omega))), rfl⟩
      case rest =>
        obtain ⟨rfl, rfl⟩ := hcut
        by_cases hh : r.x = x ∧ r.y = y ∧ r.s = s
        · obtain rfl := YE.out hh
          rw [decide_eq_true hh]
          clear hh NX YE
          go_wp2_with fail
          refine (PC.out r _).mono ?_
          rintro e w7 ⟨rfl, g7⟩
          have BZ := Lib.hid (BZ.out.grown g7)
          have GW := GW.trans g7
          clear g7 r0 r1 r2 r3 r4 r5 r6 r7 r8 rb
          clear t0 t1 t2 t3 t4 t5 t6 t7 t8 t9 t10 t11 t12 q0
          have zb := BZ.out.lt
          have z0 := blkAt BZ.out (i := 0) rfl
          have z1 := blkAt BZ.out (i := 1) rfl
          have z2 := blkAt BZ.out (i := 2) rfl
          have z3 := blkAt BZ.out (i := 3) rfl
          have z4 := blkAt BZ.out (i := 4) rfl
          have z5 := blkAt BZ.out (i := 5) rfl
          have z6 := blkAt BZ.out (i := 6) rfl
          have z7 := blkAt BZ.out (i := 7) rfl
          have z8 := blkAt BZ.out (i := 8) rfl
          have y0 := blkFz BZ.out (i := 0) (by simp)
          have y1 := blkFz BZ.out (i := 1) (by simp)
          have y2 := blkFz BZ.out (i := 2) (by simp)
          have y3 := blkFz BZ.out (i := 3) (by simp)
          have y4 := blkFz BZ.out (i := 4) (by simp)
          have y5 := blkFz BZ.out (i := 5) (by simp)
          have y6 := blkFz BZ.out (i := 6) (by simp)
          have y7 := blkFz BZ.out (i := 7) (by simp)
          have y8 := blkFz BZ.out (i := 8) (by simp)
          go_wp2_with fail
          generalize hU : World.setCell (World.setCell _ _ _) _ _ = U
          have BU : Blk U (w.heap.size + 1) #[.int .i64 0, .int .i64 0, .int .i64 0, .int .i64 r.k.a, .int .i64 r.k.b, .int .i64 r.k.c, .int .i64 r.k.d, .int .i64 r.k.e, .int .i64 r.k.f] 25 := by rw [← hU]; exact Blk.put9 (BZ.out.grown (by (repeat' (first | (with_reducible exact Grew.refl _) | (with_reducible assumption) | (with_reducible refine Grew.alloc ?_ _ _) | (with_reducible refine Grew.drew ?_) | (with_reducible refine Grew.drewN ?_ _) | (with_reducible refine Grew.setCell ?_ ?_ _) | go_size))))
          have GU : Grew w U := by rw [← hU]; exact Grew.put9 (G0.out.trans (by (repeat' (first | (with_reducible exact Grew.refl _) | (with_reducible assumption) | (with_reducible refine Grew.alloc ?_ _ _) | (with_reducible refine Grew.drew ?_) | (with_reducible refine Grew.drewN ?_ _) | (with_reducible refine Grew.setCell ?_ ?_ _) | go_size)))) (by omega)
          clear hU BZ z0 y0 z1 y1 z2 y2 z3 y3 z4 y4 z5 y5 z6 y6 z7 y7 z8 y8
          have u0 := blkAt BU (i := 0) rfl
          have u1 := blkAt BU (i := 1) rfl
          have u2 := blkAt BU (i := 2) rfl
          have u3 := blkAt BU (i := 3) rfl
          have u4 := blkAt BU (i := 4) rfl
          have u5 := blkAt BU (i := 5) rfl
          have u6 := blkAt BU (i := 6) rfl
          have u7 := blkAt BU (i := 7) rfl
          have u8 := blkAt BU (i := 8) rfl
          refine bodyPost_ret (v := .agg #[.int .i64 0, .int .i64 0, .int .i64 0, .int .i64 r.k.a, .int .i64 r.k.b, .int .i64 r.k.c, .int .i64 r.k.d, .int .i64 r.k.e, .int .i64 r.k.f]) (by simp [results, Tryz.results41, go_sem, u0, u1, u2, u3, u4, u5, u6, u7, u8]) rfl ⟨rfl, GU⟩
        · rw [decide_eq_false hh]
          have NX := Lib.hid (NX.out hh)
          clear hh YE
          go_wp2_with fail
          go_roundw
          case rel => exact ⟨k + 1, by omega, by go_num, GW, BZ, NX⟩
          case measure => simp [intOf]; omega
    · have e : kz = t.r.k := by rw [HD.out]; exact hd_none fun i hi => D.out i (by omega)
      subst e
      clear D HD
      obtain ⟨⟨t0, t1, t2, t3, t4, t5, t6, t7, t8, t9, t10, t11, t12⟩, q0⟩ := HT.out _ GW
      go_wp2_with fail
      refine (PC.out t.r _).mono ?_
      rintro e w7 ⟨rfl, g7⟩
      have BZ := Lib.hid (BZ.out.grown g7)
      have GW := GW.trans g7
      clear g7
      clear t0 t1 t2 t3 t4 t5 t6 t7 t8 t9 t10 t11 t12 q0
      have zb := BZ.out.lt
      have z0 := blkAt BZ.out (i := 0) rfl
      have z1 := blkAt BZ.out (i := 1) rfl
      have z2 := blkAt BZ.out (i := 2) rfl
      have z3 := blkAt BZ.out (i := 3) rfl
      have z4 := blkAt BZ.out (i := 4) rfl
      have z5 := blkAt BZ.out (i := 5) rfl
      have z6 := blkAt BZ.out (i := 6) rfl
      have z7 := blkAt BZ.out (i := 7) rfl
      have z8 := blkAt BZ.out (i := 8) rfl
      have y0 := blkFz BZ.out (i := 0) (by simp)
      have y1 := blkFz BZ.out (i := 1) (by simp)
      have y2 := blkFz BZ.out (i := 2) (by simp)
      have y3 := blkFz BZ.out (i := 3) (by simp)
      have y4 := blkFz BZ.out (i := 4) (by simp)
      have y5 := blkFz BZ.out (i := 5) (by simp)
      have y6 := blkFz BZ.out (i := 6) (by simp)
      have y7 := blkFz BZ.out (i := 7) (by simp)
      have y8 := blkFz BZ.out (i := 8) (by simp)
      go_wp2_with fail
      generalize hU : World.setCell (World.setCell _ _ _) _ _ = U
      have BU : Blk U (w.heap.size + 1) #[.int .i64 0, .int .i64 0, .int .i64 0, .int .i64 t.r.k.a, .int .i64 t.r.k.b, .int .i64 t.r.k.c, .int .i64 t.r.k.d, .int .i64 t.r.k.e, .int .i64 t.r.k.f] 25 := by rw [← hU]; exact Blk.put9 (BZ.out.grown (by (repeat' (first | (with_reducible exact Grew.refl _) | (with_reducible assumption) | (with_reducible refine Grew.alloc ?_ _ _) | (with_reducible refine Grew.drew ?_) | (with_reducible refine Grew.drewN ?_ _) | (with_reducible refine Grew.setCell ?_ ?_ _) | go_size))))
      have GU : Grew w U := by rw [← hU]; exact Grew.put9 (G0.out.trans (by (repeat' (first | (with_reducible exact Grew.refl _) | (with_reducible assumption) | (with_reducible refine Grew.alloc ?_ _ _) | (with_reducible refine Grew.drew ?_) | (with_reducible refine Grew.drewN ?_ _) | (with_reducible refine Grew.setCell ?_ ?_ _) | go_size)))) (by omega)
      clear hU BZ z0 y0 z1 y1 z2 y2 z3 y3 z4 y4 z5 y5 z6 y6 z7 y7 z8 y8
      have u0 := blkAt BU (i := 0) rfl
      have u1 := blkAt BU (i := 1) rfl
      have u2 := blkAt BU (i := 2) rfl
      have u3 := blkAt BU (i := 3) rfl
      have u4 := blkAt BU (i := 4) rfl
      have u5 := blkAt BU (i := 5) rfl
      have u6 := blkAt BU (i := 6) rfl
      have u7 := blkAt BU (i := 7) rfl
      have u8 := blkAt BU (i := 8) rfl
      refine bodyPost_ret (v := .agg #[.int .i64 0, .int .i64 0, .int .i64 0, .int .i64 t.r.k.a, .int .i64 t.r.k.b, .int .i64 t.r.k.c, .int .i64 t.r.k.d, .int .i64 t.r.k.e, .int .i64 t.r.k.f]) (by simp [results, Tryz.results41, go_sem, u0, u1, u2, u3, u4, u5, u6, u7, u8]) rfl ⟨rfl, GU⟩
end Td
end Go.Proofs.YtpiajdahmcelnaaGreat
