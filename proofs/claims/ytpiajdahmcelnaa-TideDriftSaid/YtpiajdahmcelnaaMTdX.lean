/-
  The law TideDrift: a place that is carried along.
-/
import Derived.Test.YtpiajdahmcelnaaMTdW
namespace Go.Proofs.Ytpiajdahmcelnaa
open Go.RowKit Hl
namespace Td
set_option maxRecDepth 100000
set_option maxHeartbeats 16000000 in
theorem drift_ok (K : Hl.Code) (t : Ed) (u : Value) (lo hi : Pt) (c d x0 x1 x2 x3 m : Int) (w : World) (hs : Rs w u t.l) (hl : t.l.length ≤ 9223372036854775807) (hx0 : 0 ≤ x0 ∧ x0 ≤ 65535) (hx1 : 0 ≤ x1 ∧ x1 ≤ 65535) (hx2 : 0 ≤ x2 ∧ x2 ≤ 65535) (hx3 : 0 ≤ x3 ∧ x3 ≤ 65535) (hm : 0 ≤ m ∧ m ≤ 65535) (hu : Usb t lo hi c d) (hf : d - c ≤ 100000) (hp : Plcs (drl (OvB t lo hi c d) (d - c))) :
    Calls Try.prog 6 #[tv t u, .agg #[.int .i64 lo.1, .int .i64 lo.2], .agg #[.int .i64 hi.1, .int .i64 hi.2], .int .i64 c, .int .i64 d, .agg #[.int .u16 x0, .int .u16 x1, .int .u16 x2, .int .u16 x3], .int .u16 m] w fun e w' => e = .returned (.bool true) ∧ Grew w w' := by
  have hb := hu.ok
  obtain ⟨c0, c1, c2⟩ : 0 ≤ c ∧ c ≤ d ∧ d ≤ 1000000000 := hb.2.2
  have bk : Bok (OvB t lo hi c d) := Ov_bok hb.1 (bk_mono hb.2.1.2.2.1) (bk_mono hb.2.1.2.2.2) (sl_mono c1)
  have HD : Hid (∀ W, Calls Try.prog 9 #[] W fun e w' => e = .returned (.bool true) ∧ Grew W w') := Lib.hid (fun W => head_true K W)
  have UC : Hid (∀ W, Grew w W → Calls Try.prog 10 #[tv t u, .agg #[.int .i64 lo.1, .int .i64 lo.2], .agg #[.int .i64 hi.1, .int .i64 hi.2], .int .i64 c, .int .i64 d] W fun e w' => e = .returned (.bool true) ∧ Grew W w') := Lib.hid (fun W g => by
    have h := usable_c t u lo hi c d W (hs.grew g) hl
    rwa [decide_eq_true hu] at h)
  have DC : Hid (∀ W, Grew w W → Calls Try.prog 19 #[tv t u, .agg #[.int .i64 lo.1, .int .i64 lo.2], .agg #[.int .i64 hi.1, .int .i64 hi.2], .int .i64 c, .int .i64 d] W fun e w' => ∃ q v, IsHull (drl (OvB t lo hi c d) (d - c)) q ∧ Vl q ∧ e = .returned (.tuple #[v, .int .i64 0]) ∧ Sl w' v q ∧ Grew W w') := Lib.hid (fun W g => drift_yes K t u lo hi c d W (hs.grew g) hl hb hf hp)
  have B1 : Hid (∀ W, Grew w W → Calls Try.prog 11 #[tv t u, .agg #[.int .i64 lo.1, .int .i64 lo.2], .agg #[.int .i64 hi.1, .int .i64 hi.2], .int .i64 c, .int .i64 d] W fun e w' => e = .returned (.tuple #[.agg #[.int .i64 0, .int .i64 0, .int .i64 0, .int .i64 (OvB t lo hi c d).a, .int .i64 (OvB t lo hi c d).b, .int .i64 (OvB t lo hi c d).c, .int .i64 (OvB t lo hi c d).d, .int .i64 (OvB t lo hi c d).e, .int .i64 (OvB t lo hi c d).f], .int .i64 0]) ∧ Grew W w') := Lib.hid (fun W g => by
    have h := bound_c K t u lo hi c d W (hs.grew g) hl
    rw [bA_yes hb] at h
    exact h)
  have HC : Hid (∀ (p : List Pt) (x : Pt) (v : Value) (W : World), Sl W v p → Vl p → Plc x → Calls Try.prog 22 #[v, .agg #[.int .i64 x.1, .int .i64 x.2]] W (HasSays p x W)) := Lib.hid K.has_ok
  have BT : Hid (∀ (a b x : Int) (W : World), (0 ≤ x ∧ x ≤ 65535) → (a ≤ b ∧ -5000 ≤ a ∧ b ≤ 5000) → Calls Try.prog 20 #[.int .i64 a, .int .i64 b, .int .i64 x] W fun e w' => e = .returned (.int .i64 (lin a b x)) ∧ Grew W w') := Lib.hid (fun a b x W h1 h2 => lbet_c a b x W h2.1 h2.2.1 h2.2.2 ⟨h1.1, by omega⟩)
  have FC : Hid (∀ (n : Int) (W : World), (-10000000000000 ≤ n ∧ n ≤ 10000000000000) → Calls Try.prog 21 #[.int .i64 n] W fun e w' => e = .returned (.int .i64 (Ex.fl n 100)) ∧ Grew W w') := Lib.hid (fun n W h => lfloor_c n W h)
  have AC : Hid (∀ (x y : Int) (W : World), Calls Try.prog 17 #[.int .i64 x, .int .i64 y] W fun e w' => e = .returned (.agg #[.int .i64 x, .int .i64 y]) ∧ Grew W w') := Lib.hid (fun x y W => lat_c x y W)
  have e1 : m.tmod (d - c + 1) = m % (d - c + 1) := Int.tmod_eq_emod_of_nonneg hm.1
  have r0 := Int.emod_nonneg m (show d - c + 1 ≠ 0 by omega)
  have r1 := Int.emod_lt_of_pos m (show 0 < d - c + 1 by omega)
  have n1 : ¬ d - c + 1 = 0 := by omega
  unfold tv at UC B1 DC ⊢
  clear hs hu K hb
  generalize OvB t lo hi c d = k1 at *
  generalize m % (d - c + 1) = r at *
  obtain ⟨⟨ba, bb, bc⟩, ⟨bd, be, bf⟩, _⟩ := bk
  have i1 := lin_in bb x0
  have i2 := lin_in bb x1
  have i3 := lin_in be x2
  have i4 := lin_in be x3
  have v1 := way_in bb x0 x1 (k := r) (n := d - c) ⟨r0, by omega⟩
  have v2 := way_in be x2 x3 (k := r) (n := d - c) ⟨r0, by omega⟩
  have s1 := fl_way v1
  have s2 := fl_way v2
  have m1 := mul_in (a := lin k1.a k1.b x0) (n := r) (by omega) (by omega)
  have m2 := mul_in (a := lin k1.a k1.b x1) (n := d - c - r) (by omega) (by omega)
  have m3 := mul_in (a := lin k1.c k1.d x2) (n := r) (by omega) (by omega)
  have m4 := mul_in (a := lin k1.c k1.d x3) (n := d - c - r) (by omega) (by omega)
  have P1 := drl_plc hp (x := (Ex.fl (way k1.a k1.b x0 x1 r (d - c)) 100, Ex.fl (way k1.c k1.d x2 x3 r (d - c)) 100)) s1.1 s2.1
  have P2 := drl_plc hp (x := (Ex.ce (way k1.a k1.b x0 x1 r (d - c)) 100, Ex.ce (way k1.c k1.d x2 x3 r (d - c)) 100)) s1.2 s2.2
  have H1 : Hid (∀ q, IsHull (drl k1 (d - c)) q → Hl.Hs q (Ex.fl (way k1.a k1.b x0 x1 r (d - c)) 100, Ex.fl (way k1.c k1.d x2 x3 r (d - c)) 100)) := Lib.hid (fun q h => drl_has h s1.1 s2.1)
  have H2 : Hid (∀ q, IsHull (drl k1 (d - c)) q → Hl.Hs q (Ex.ce (way k1.a k1.b x0 x1 r (d - c)) 100, Ex.ce (way k1.c k1.d x2 x3 r (d - c)) 100)) := Lib.hid (fun q h => drl_has h s1.2 s2.2)
  have E1 : lin k1.a k1.b x0 * r + lin k1.a k1.b x1 * (d - c - r) = way k1.a k1.b x0 x1 r (d - c) := rfl
  have E2 : lin k1.c k1.d x2 * r + lin k1.c k1.d x3 * (d - c - r) = way k1.c k1.d x2 x3 r (d - c) := rfl
  have y1 : ∀ z, Ex.ce z 100 = -Ex.fl (-z) 100 := fun z => rfl
  clear v1 v2 s1 s2 hp
  have wb1 : -1000000000 ≤ way k1.a k1.b x0 x1 r (d - c) ∧ way k1.a k1.b x0 x1 r (d - c) ≤ 1000000000 := by rw [← E1]; omega
  have wb2 : -1000000000 ≤ way k1.c k1.d x2 x3 r (d - c) ∧ way k1.c k1.d x2 x3 r (d - c) ≤ 1000000000 := by rw [← E2]; omega
  generalize way k1.a k1.b x0 x1 r (d - c) = U at *
  generalize way k1.c k1.d x2 x3 r (d - c) = V at *
  rw [y1 U, y1 V] at H2 P2
  clear y1
  have pb1 : -500000 ≤ -Ex.fl (-U) 100 ∧ -Ex.fl (-U) 100 ≤ 500000 := P2.1
  have pb2 : -500000 ≤ -Ex.fl (-V) 100 ∧ -Ex.fl (-V) 100 ≤ 500000 := P2.2
  have P1 := Lib.hid P1
  have P2 := Lib.hid P2
  have kk0 : IntKind.i64.wrap (d - c) = d - c := by rw [IntKind.wrap_i64]; omega
  have kk1 : IntKind.i64.wrap (d - c + 1) = d - c + 1 := by rw [IntKind.wrap_i64]; omega
  have kk2 : IntKind.i64.wrap (r) = r := by rw [IntKind.wrap_i64]; omega
  have kk3 : IntKind.i64.wrap (d - c - r) = d - c - r := by rw [IntKind.wrap_i64]; omega
  have kk4 : IntKind.i64.wrap (lin k1.a k1.b x0 * r) = lin k1.a k1.b x0 * r := by rw [IntKind.wrap_i64]; omega
  have kk5 : IntKind.i64.wrap (lin k1.a k1.b x1 * (d - c - r)) = lin k1.a k1.b x1 * (d - c - r) := by rw [IntKind.wrap_i64]; omega
  have kk6 : IntKind.i64.wrap (lin k1.c k1.d x2 * r) = lin k1.c k1.d x2 * r := by rw [IntKind.wrap_i64]; omega
  have kk7 : IntKind.i64.wrap (lin k1.c k1.d x3 * (d - c - r)) = lin k1.c k1.d x3 * (d - c - r) := by rw [IntKind.wrap_i64]; omega
  have kk8 : IntKind.i64.wrap (m) = m := by rw [IntKind.wrap_i64]; omega
  have kk9 : IntKind.i64.wrap (x0) = x0 := by rw [IntKind.wrap_i64]; omega
  have kk10 : IntKind.i64.wrap (x1) = x1 := by rw [IntKind.wrap_i64]; omega
  have kk11 : IntKind.i64.wrap (x2) = x2 := by rw [IntKind.wrap_i64]; omega
  have kk12 : IntKind.i64.wrap (x3) = x3 := by rw [IntKind.wrap_i64]; omega
  have kk13 : IntKind.i64.wrap (-U) = -U := by rw [IntKind.wrap_i64]; omega
  have kk14 : IntKind.i64.wrap (-V) = -V := by rw [IntKind.wrap_i64]; omega
  have kk15 : IntKind.i64.wrap (-Ex.fl (-U) 100) = -Ex.fl (-U) 100 := by rw [IntKind.wrap_i64]; omega
  have kk16 : IntKind.i64.wrap (-Ex.fl (-V) 100) = -Ex.fl (-V) 100 := by rw [IntKind.wrap_i64]; omega
  have kk97 : IntKind.i64.wrap U = U := by rw [IntKind.wrap_i64]; omega
  have kk98 : IntKind.i64.wrap V = V := by rw [IntKind.wrap_i64]; omega
  clear m1 m2 m3 m4
  have HT : Hid (∀ W, Grew ((((w.alloc (.cells #[.int .i64 t.v, .int .i64 t.z, .int .i64 t.n, .int .i64 t.r.x, .int .i64 t.r.y, .int .i64 t.r.s, .int .i64 t.r.k.a, .int .i64 t.r.k.b, .int .i64 t.r.k.c, .int .i64 t.r.k.d, .int .i64 t.r.k.e, .int .i64 t.r.k.f, u] 28)).alloc (.cells #[.int .i64 lo.1, .int .i64 lo.2] 30)).alloc (.cells #[.int .i64 hi.1, .int .i64 hi.2] 30)).alloc (.cells #[.int .u16 x0, .int .u16 x1, .int .u16 x2, .int .u16 x3] 46)) W → ((W.cell? ⟨w.heap.size, 0, none⟩ = some (.int .i64 t.v) ∧ W.cell? ⟨w.heap.size, 1, none⟩ = some (.int .i64 t.z) ∧ W.cell? ⟨w.heap.size, 2, none⟩ = some (.int .i64 t.n) ∧ W.cell? ⟨w.heap.size, 3, none⟩ = some (.int .i64 t.r.x) ∧ W.cell? ⟨w.heap.size, 4, none⟩ = some (.int .i64 t.r.y) ∧ W.cell? ⟨w.heap.size, 5, none⟩ = some (.int .i64 t.r.s) ∧ W.cell? ⟨w.heap.size, 6, none⟩ = some (.int .i64 t.r.k.a) ∧ W.cell? ⟨w.heap.size, 7, none⟩ = some (.int .i64 t.r.k.b) ∧ W.cell? ⟨w.heap.size, 8, none⟩ = some (.int .i64 t.r.k.c) ∧ W.cell? ⟨w.heap.size, 9, none⟩ = some (.int .i64 t.r.k.d) ∧ W.cell? ⟨w.heap.size, 10, none⟩ = some (.int .i64 t.r.k.e) ∧ W.cell? ⟨w.heap.size, 11, none⟩ = some (.int .i64 t.r.k.f) ∧ W.cell? ⟨w.heap.size, 12, none⟩ = some (u)) ∧ (W.cell? ⟨w.heap.size + 1, 0, none⟩ = some (.int .i64 lo.1) ∧ W.cell? ⟨w.heap.size + 1, 1, none⟩ = some (.int .i64 lo.2)) ∧ (W.cell? ⟨w.heap.size + 1 + 1, 0, none⟩ = some (.int .i64 hi.1) ∧ W.cell? ⟨w.heap.size + 1 + 1, 1, none⟩ = some (.int .i64 hi.2)) ∧ (W.cell? ⟨w.heap.size + 1 + 1 + 1, 0, none⟩ = some (.int .u16 x0) ∧ W.cell? ⟨w.heap.size + 1 + 1 + 1, 1, none⟩ = some (.int .u16 x1) ∧ W.cell? ⟨w.heap.size + 1 + 1 + 1, 2, none⟩ = some (.int .u16 x2) ∧ W.cell? ⟨w.heap.size + 1 + 1 + 1, 3, none⟩ = some (.int .u16 x3)) ∧ w.heap.size < W.heap.size ∧ w.heap.size + 1 < W.heap.size ∧ w.heap.size + 1 + 1 < W.heap.size ∧ w.heap.size + 1 + 1 + 1 < W.heap.size)) := Lib.hid (fun W g => by
    have b0 := ((((Blk.new w #[.int .i64 t.v, .int .i64 t.z, .int .i64 t.n, .int .i64 t.r.x, .int .i64 t.r.y, .int .i64 t.r.s, .int .i64 t.r.k.a, .int .i64 t.r.k.b, .int .i64 t.r.k.c, .int .i64 t.r.k.d, .int .i64 t.r.k.e, .int .i64 t.r.k.f, u] 28).alloc _).alloc _).alloc _).grown g
    have b1 := (((blkN (W := (w.alloc (.cells #[.int .i64 t.v, .int .i64 t.z, .int .i64 t.n, .int .i64 t.r.x, .int .i64 t.r.y, .int .i64 t.r.s, .int .i64 t.r.k.a, .int .i64 t.r.k.b, .int .i64 t.r.k.c, .int .i64 t.r.k.d, .int .i64 t.r.k.e, .int .i64 t.r.k.f, u] 28))) (k := w.heap.size + 1) (cs := #[.int .i64 lo.1, .int .i64 lo.2]) (t := 30) (by simp)).alloc _).alloc _).grown g
    have b2 := ((blkN (W := ((w.alloc (.cells #[.int .i64 t.v, .int .i64 t.z, .int .i64 t.n, .int .i64 t.r.x, .int .i64 t.r.y, .int .i64 t.r.s, .int .i64 t.r.k.a, .int .i64 t.r.k.b, .int .i64 t.r.k.c, .int .i64 t.r.k.d, .int .i64 t.r.k.e, .int .i64 t.r.k.f, u] 28)).alloc (.cells #[.int .i64 lo.1, .int .i64 lo.2] 30))) (k := w.heap.size + 1 + 1) (cs := #[.int .i64 hi.1, .int .i64 hi.2]) (t := 30) (by simp)).alloc _).grown g
    have b3 := (blkN (W := (((w.alloc (.cells #[.int .i64 t.v, .int .i64 t.z, .int .i64 t.n, .int .i64 t.r.x, .int .i64 t.r.y, .int .i64 t.r.s, .int .i64 t.r.k.a, .int .i64 t.r.k.b, .int .i64 t.r.k.c, .int .i64 t.r.k.d, .int .i64 t.r.k.e, .int .i64 t.r.k.f, u] 28)).alloc (.cells #[.int .i64 lo.1, .int .i64 lo.2] 30)).alloc (.cells #[.int .i64 hi.1, .int .i64 hi.2] 30))) (k := w.heap.size + 1 + 1 + 1) (cs := #[.int .u16 x0, .int .u16 x1, .int .u16 x2, .int .u16 x3]) (t := 46) (by simp)).grown g
    exact ⟨⟨blkAt b0 rfl, blkAt b0 rfl, blkAt b0 rfl, blkAt b0 rfl, blkAt b0 rfl, blkAt b0 rfl, blkAt b0 rfl, blkAt b0 rfl, blkAt b0 rfl, blkAt b0 rfl, blkAt b0 rfl, blkAt b0 rfl, blkAt b0 rfl⟩, ⟨blkAt b1 rfl, blkAt b1 rfl⟩, ⟨blkAt b2 rfl, blkAt b2 rfl⟩, ⟨blkAt b3 rfl, blkAt b3 rfl, blkAt b3 rfl, blkAt b3 rfl⟩, b0.lt, b1.lt, b2.lt, b3.lt⟩)
  have G0 : Hid (Grew w ((((w.alloc (.cells #[.int .i64 t.v, .int .i64 t.z, .int .i64 t.n, .int .i64 t.r.x, .int .i64 t.r.y, .int .i64 t.r.s, .int .i64 t.r.k.a, .int .i64 t.r.k.b, .int .i64 t.r.k.c, .int .i64 t.r.k.d, .int .i64 t.r.k.e, .int .i64 t.r.k.f, u] 28)).alloc (.cells #[.int .i64 lo.1, .int .i64 lo.2] 30)).alloc (.cells #[.int .i64 hi.1, .int .i64 hi.2] 30)).alloc (.cells #[.int .u16 x0, .int .u16 x1, .int .u16 x2, .int .u16 x3] 46))) := Lib.hid ((((((Grew.refl w).alloc _ _).alloc _ _).alloc _ _).alloc _ _))
  go_enter Try.func6, Try.ntmps6
  go_wp2_with fail
  refine (HD.out _).mono ?_
  rintro e w1 ⟨rfl, g1⟩
  have GW := g1
  obtain ⟨⟨t0, t1, t2, t3, t4, t5, t6, t7, t8, t9, t10, t11, t12⟩, ⟨l0, l1⟩, ⟨h0, h1⟩, ⟨a0, a1, a2, a3⟩, q0, q1, q2, q3⟩ := HT.out w1 GW
  go_wp2_with fail
  refine (UC.out _ (G0.out.trans GW)).mono ?_
  rintro e w2 ⟨rfl, g2⟩
  have GW := GW.trans g2
  clear g2
  clear t0 t1 t2 t3 t4 t5 t6 t7 t8 t9 t10 t11 t12 l0 l1 h0 h1 a0 a1 a2 a3 q0 q1 q2 q3
  obtain ⟨⟨t0, t1, t2, t3, t4, t5, t6, t7, t8, t9, t10, t11, t12⟩, ⟨l0, l1⟩, ⟨h0, h1⟩, ⟨a0, a1, a2, a3⟩, q0, q1, q2, q3⟩ := HT.out w2 GW
  go_wp2_with fail
  refine (DC.out _ (G0.out.trans GW)).mono ?_
  rintro e w3 ⟨q, v, hq, hv, rfl, hsl, g3⟩
  have GW := GW.trans g3
  clear g3
  have hsl := Lib.hid hsl
  clear t0 t1 t2 t3 t4 t5 t6 t7 t8 t9 t10 t11 t12 l0 l1 h0 h1 a0 a1 a2 a3 q0 q1 q2 q3
  obtain ⟨⟨t0, t1, t2, t3, t4, t5, t6, t7, t8, t9, t10, t11, t12⟩, ⟨l0, l1⟩, ⟨h0, h1⟩, ⟨a0, a1, a2, a3⟩, q0, q1, q2, q3⟩ := HT.out w3 GW
  go_wp2_with fail
  refine (B1.out _ (G0.out.trans GW)).mono ?_
  rintro e w5 ⟨rfl, g5⟩
  have GW := GW.trans g5
  have hsl := Lib.hid (hsl.out.grown g5)
  clear g5
  clear t0 t1 t2 t3 t4 t5 t6 t7 t8 t9 t10 t11 t12 l0 l1 h0 h1 a0 a1 a2 a3 q0 q1 q2 q3
  obtain ⟨⟨t0, t1, t2, t3, t4, t5, t6, t7, t8, t9, t10, t11, t12⟩, ⟨l0, l1⟩, ⟨h0, h1⟩, ⟨a0, a1, a2, a3⟩, q0, q1, q2, q3⟩ := HT.out w5 GW
  go_wp2_with fail
  obtain ⟨w6, hw⟩ : ∃ W, w5.alloc (.cells #[.int .i64 0, .int .i64 0, .int .i64 0, .int .i64 k1.a, .int .i64 k1.b, .int .i64 k1.c, .int .i64 k1.d, .int .i64 k1.e, .int .i64 k1.f] 25) = W := ⟨_, rfl⟩
  have A1 : Hid (Blk w6 w5.heap.size #[.int .i64 0, .int .i64 0, .int .i64 0, .int .i64 k1.a, .int .i64 k1.b, .int .i64 k1.c, .int .i64 k1.d, .int .i64 k1.e, .int .i64 k1.f] 25) := Lib.hid (by rw [← hw]; exact Blk.new _ _ _)
  have GW : Grew _ w6 := GW.trans (by rw [← hw]; exact (Grew.refl _).alloc _ _)
  have hsl := Lib.hid (hsl.out.grown (show Grew w5 w6 by rw [← hw]; exact (Grew.refl _).alloc _ _))
  try rw [hw]
  clear hw
  clear t0 t1 t2 t3 t4 t5 t6 t7 t8 t9 t10 t11 t12 l0 l1 h0 h1 a0 a1 a2 a3 q0 q1 q2 q3
  have HW := Lib.hid GW
  clear GW HD UC B1 DC
  have KS : Hid (∀ W, Grew w6 W → (W.cell? ⟨w5.heap.size, 3, none⟩ = some (.int .i64 k1.a) ∧ W.cell? ⟨w5.heap.size, 4, none⟩ = some (.int .i64 k1.b) ∧ W.cell? ⟨w5.heap.size, 5, none⟩ = some (.int .i64 k1.c) ∧ W.cell? ⟨w5.heap.size, 6, none⟩ = some (.int .i64 k1.d) ∧ W.cell? ⟨w5.heap.size, 7, none⟩ = some (.int .i64 k1.e) ∧ W.cell? ⟨w5.heap.size, 8, none⟩ = some (.int .i64 k1.f) ∧ W.cell? ⟨w.heap.size + 1 + 1 + 1, 0, none⟩ = some (.int .u16 x0) ∧ W.cell? ⟨w.heap.size + 1 + 1 + 1, 1, none⟩ = some (.int .u16 x1) ∧ W.cell? ⟨w.heap.size + 1 + 1 + 1, 2, none⟩ = some (.int .u16 x2) ∧ W.cell? ⟨w.heap.size + 1 + 1 + 1, 3, none⟩ = some (.int .u16 x3))) := Lib.hid (fun W g => by
    obtain ⟨_, _, _, ⟨a0, a1, a2, a3⟩, _⟩ := HT.out W (HW.out.trans g)
    have b := A1.out.grown g
    exact ⟨blkAt b rfl, blkAt b rfl, blkAt b rfl, blkAt b rfl, blkAt b rfl, blkAt b rfl, a0, a1, a2, a3⟩)
  have GA := Grew.refl w6
  go_cut [22] from 90 to 117 (fun s wx => s = .int .i64 (U) ∧ Grew w6 wx)
  case first =>
    go_region_held3 (fun W => W.cell? ⟨w5.heap.size, 3, none⟩ = some (.int .i64 k1.a) ∧ W.cell? ⟨w5.heap.size, 4, none⟩ = some (.int .i64 k1.b) ∧ W.cell? ⟨w5.heap.size, 5, none⟩ = some (.int .i64 k1.c) ∧ W.cell? ⟨w5.heap.size, 6, none⟩ = some (.int .i64 k1.d) ∧ W.cell? ⟨w5.heap.size, 7, none⟩ = some (.int .i64 k1.e) ∧ W.cell? ⟨w5.heap.size, 8, none⟩ = some (.int .i64 k1.f) ∧ W.cell? ⟨w.heap.size + 1 + 1 + 1, 0, none⟩ = some (.int .u16 x0) ∧ W.cell? ⟨w.heap.size + 1 + 1 + 1, 1, none⟩ = some (.int .u16 x1) ∧ W.cell? ⟨w.heap.size + 1 + 1 + 1, 2, none⟩ = some (.int .u16 x2) ∧ W.cell? ⟨w.heap.size + 1 + 1 + 1, 3, none⟩ = some (.int .u16 x3)) (exact KS.out _ (by (repeat' (first | (with_reducible exact Grew.refl _) | (with_reducible assumption) | (with_reducible refine Grew.alloc ?_ _ _) | (with_reducible refine Grew.drew ?_) | (with_reducible refine Grew.drewN ?_ _) | (with_reducible refine Grew.setCell ?_ ?_ _) | go_size))))
      (first | (go_at_call 20; refine (BT.out _ _ _ _ ⟨by first | omega, by omega⟩ ⟨by omega, by omega, by omega⟩).mono ?_; rintro e wa ⟨rfl, gn⟩; have GA : Grew w6 wa := Grew.trans (by (repeat' (first | (with_reducible exact Grew.refl _) | (with_reducible assumption) | (with_reducible refine Grew.alloc ?_ _ _) | (with_reducible refine Grew.drew ?_) | (with_reducible refine Grew.drewN ?_ _) | (with_reducible refine Grew.setCell ?_ ?_ _) | go_size))) gn; clear gn))
    all_goals (go_wp2_with fail; go_meet)
    all_goals exact ⟨rfl, GA⟩
  case rest =>
    clear GA
    obtain ⟨rfl, GA⟩ := hcut
    have HG := Lib.hid GA
    go_wp2_with fail
    go_cut [23] from 117 to 144 (fun s wx => s = .int .i64 (V) ∧ Grew w6 wx)
    case first =>
      go_region_held3 (fun W => W.cell? ⟨w5.heap.size, 3, none⟩ = some (.int .i64 k1.a) ∧ W.cell? ⟨w5.heap.size, 4, none⟩ = some (.int .i64 k1.b) ∧ W.cell? ⟨w5.heap.size, 5, none⟩ = some (.int .i64 k1.c) ∧ W.cell? ⟨w5.heap.size, 6, none⟩ = some (.int .i64 k1.d) ∧ W.cell? ⟨w5.heap.size, 7, none⟩ = some (.int .i64 k1.e) ∧ W.cell? ⟨w5.heap.size, 8, none⟩ = some (.int .i64 k1.f) ∧ W.cell? ⟨w.heap.size + 1 + 1 + 1, 0, none⟩ = some (.int .u16 x0) ∧ W.cell? ⟨w.heap.size + 1 + 1 + 1, 1, none⟩ = some (.int .u16 x1) ∧ W.cell? ⟨w.heap.size + 1 + 1 + 1, 2, none⟩ = some (.int .u16 x2) ∧ W.cell? ⟨w.heap.size + 1 + 1 + 1, 3, none⟩ = some (.int .u16 x3)) (exact KS.out _ (by (repeat' (first | (with_reducible exact Grew.refl _) | (with_reducible assumption) | (with_reducible refine Grew.alloc ?_ _ _) | (with_reducible refine Grew.drew ?_) | (with_reducible refine Grew.drewN ?_ _) | (with_reducible refine Grew.setCell ?_ ?_ _) | go_size))))
        (first | (go_at_call 20; refine (BT.out _ _ _ _ ⟨by first | omega, by omega⟩ ⟨by omega, by omega, by omega⟩).mono ?_; rintro e wb ⟨rfl, gn⟩; have GA : Grew w6 wb := Grew.trans (by (repeat' (first | (with_reducible exact Grew.refl _) | (with_reducible assumption) | (with_reducible refine Grew.alloc ?_ _ _) | (with_reducible refine Grew.drew ?_) | (with_reducible refine Grew.drewN ?_ _) | (with_reducible refine Grew.setCell ?_ ?_ _) | go_size))) gn; clear gn))
      all_goals (go_wp2_with fail; go_meet)
      all_goals exact ⟨rfl, GA⟩
    case rest =>
      clear KS
      obtain ⟨rfl, GA⟩ := hcut
      clear HG
      have hsl := Lib.hid (hsl.out.grown GA)
      have HW := Lib.hid (HW.out.trans GA)
      clear GA A1 BT HT
      go_wp2_with fail
      refine (FC.out _ _ (by omega)).mono ?_
      rintro e z1 ⟨rfl, GZ⟩
      go_wp2_with fail
      refine (FC.out _ _ (by omega)).mono ?_
      rintro e z21 ⟨rfl, g⟩
      have GZ := GZ.trans g
      clear g
      go_wp2_with fail
      refine (AC.out _ _ _).mono ?_
      rintro e z22 ⟨rfl, g⟩
      have GZ := GZ.trans g
      clear g
      go_wp2_with fail
      obtain ⟨y1, hw⟩ : ∃ W, z22.alloc (.cells #[.int .i64 (Ex.fl U 100), .int .i64 (Ex.fl V 100)] 30) = W := ⟨_, rfl⟩
      have XB := Lib.hid (show Blk y1 z22.heap.size #[.int .i64 (Ex.fl U 100), .int .i64 (Ex.fl V 100)] 30 by rw [← hw]; exact Blk.new _ _ _)
      have GN : Grew _ y1 := GZ.trans (by rw [← hw]; exact (Grew.refl _).alloc _ _)
      try rw [hw]
      clear hw GZ
      have GZ := GN
      clear GN
      refine (FC.out _ _ (by omega)).mono ?_
      rintro e z23 ⟨rfl, g⟩
      have XB := Lib.hid (XB.out.grown g)
      have GZ := GZ.trans g
      clear g
      go_wp2_with fail
      refine (FC.out _ _ (by omega)).mono ?_
      rintro e z24 ⟨rfl, g⟩
      have XB := Lib.hid (XB.out.grown g)
      have GZ := GZ.trans g
      clear g
      go_wp2_with fail
      refine (AC.out _ _ _).mono ?_
      rintro e z25 ⟨rfl, g⟩
      have XB := Lib.hid (XB.out.grown g)
      have GZ := GZ.trans g
      clear g
      have xc0 := blkAt XB.out (i := 0) rfl
      have xc1 := blkAt XB.out (i := 1) rfl
      have xcb := XB.out.lt
      go_wp2_with fail
      clear xc0 xc1 xcb
      obtain ⟨y2, hw⟩ : ∃ W, z25.alloc (.cells #[.int .i64 (-Ex.fl (-U) 100), .int .i64 (-Ex.fl (-V) 100)] 30) = W := ⟨_, rfl⟩
      have QB := Lib.hid (show Blk y2 z25.heap.size #[.int .i64 (-Ex.fl (-U) 100), .int .i64 (-Ex.fl (-V) 100)] 30 by rw [← hw]; exact Blk.new _ _ _)
      have XB := Lib.hid (show Blk y2 _ _ _ by rw [← hw]; exact XB.out.alloc _)
      have GN : Grew _ y2 := GZ.trans (by rw [← hw]; exact (Grew.refl _).alloc _ _)
      try rw [hw]
      clear hw GZ
      have GZ := GN
      clear GN XB
      refine (HC.out q _ v _ (hsl.out.grown GZ) hv P1.out).mono ?_
      rintro e y3 ⟨b1, rfl, hb1, g⟩
      obtain rfl : b1 = true := hb1.2 (H1.out q hq)
      have QB := Lib.hid (QB.out.grown g)
      have GZ := GZ.trans g
      clear g hb1
      have xc0 := blkAt QB.out (i := 0) rfl
      have xc1 := blkAt QB.out (i := 1) rfl
      have xcb := QB.out.lt
      go_wp2_with fail
      clear xc0 xc1 xcb QB
      refine (HC.out q _ v _ (hsl.out.grown GZ) hv P2.out).mono ?_
      rintro e y4 ⟨b2, rfl, hb2, g⟩
      obtain rfl : b2 = true := hb2.2 (H2.out q hq)
      have GZ := GZ.trans g
      clear g hb2
      go_wp2_with fail
      go_ret
      exact ⟨rfl, G0.out.trans (HW.out.trans GZ)⟩
theorem driftlaw_true (K : Hl.Code) (t : Ed) (u : Value) (lo hi : Pt) (c d x0 x1 x2 x3 m : Int) (w : World) (hs : Rs w u t.l) (hl : t.l.length ≤ 9223372036854775807) (hx0 : 0 ≤ x0 ∧ x0 ≤ 65535) (hx1 : 0 ≤ x1 ∧ x1 ≤ 65535) (hx2 : 0 ≤ x2 ∧ x2 ≤ 65535) (hx3 : 0 ≤ x3 ∧ x3 ≤ 65535) (hm : 0 ≤ m ∧ m ≤ 65535) :
    Calls Try.prog 6 #[tv t u, .agg #[.int .i64 lo.1, .int .i64 lo.2], .agg #[.int .i64 hi.1, .int .i64 hi.2], .int .i64 c, .int .i64 d, .agg #[.int .u16 x0, .int .u16 x1, .int .u16 x2, .int .u16 x3], .int .u16 m] w fun e w' => e = .returned (.bool true) ∧ Grew w w' := by
  by_cases hu : Usb t lo hi c d
  · by_cases hf : 100000 < d - c
    · exact drift_e1 K t u lo hi c d x0 x1 x2 x3 m w hs hl hx0 hx1 hx2 hx3 hm hu hf
    · by_cases hp : Plcs (drl (OvB t lo hi c d) (d - c))
      · exact drift_ok K t u lo hi c d x0 x1 x2 x3 m w hs hl hx0 hx1 hx2 hx3 hm hu (by omega) hp
      · exact drift_e3 K t u lo hi c d x0 x1 x2 x3 m w hs hl hx0 hx1 hx2 hx3 hm hu (by omega) hp
  · exact drift_bad K t u lo hi c d x0 x1 x2 x3 m w hs hl hx0 hx1 hx2 hx3 hm hu
end Td
end Go.Proofs.Ytpiajdahmcelnaa
