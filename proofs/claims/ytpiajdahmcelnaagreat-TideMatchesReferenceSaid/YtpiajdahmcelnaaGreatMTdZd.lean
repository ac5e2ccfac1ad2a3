/-
  The reference: the bounds over blocks and slots.
-/
import Derived.Test.YtpiajdahmcelnaaGreatMTdZc
import Derived.Test.YtpiajdahmcelnaaGreatMTdLa
import Derived.Test.YtpiajdahmcelnaaGreatMTdP
import Derived.Test.YtpiajdahmcelnaaGreatMHullBar
namespace Go.Proofs.YtpiajdahmcelnaaGreat
open Go.RowKit Hl
namespace Td
set_option maxRecDepth 100000
set_option maxHeartbeats 64000000 in
theorem R.over_c (t : Ed) (u : Value) (lo hi : Pt) (c d : Int) (w : World) (hs : Rs w u t.l) (hl : t.l.length ≤ 9223372036854775807) (hb : BOk t lo hi c d) :
    Calls Tryz.prog 36 #[tv t u, .agg #[.int .i64 lo.1, .int .i64 lo.2], .agg #[.int .i64 hi.1, .int .i64 hi.2], .int .i64 c, .int .i64 d] w fun e w' => e = .returned (.agg #[.int .i64 0, .int .i64 0, .int .i64 0, .int .i64 (OvB t lo hi c d).a, .int .i64 (OvB t lo hi c d).b, .int .i64 (OvB t lo hi c d).c, .int .i64 (OvB t lo hi c d).d, .int .i64 (OvB t lo hi c d).e, .int .i64 (OvB t lo hi c d).f]) ∧ Grew w w' := by
  obtain ⟨ua, uc, rfl, _⟩ := hs.shape
  obtain ⟨ht, hr, hc⟩ := hb
  have TCH : Hid (∀ W, Grew w W → Calls Tryz.prog 52 #[.agg #[.int .i64 t.v, .int .i64 t.z, .int .i64 t.n, .int .i64 t.r.x, .int .i64 t.r.y, .int .i64 t.r.s, .int .i64 t.r.k.a, .int .i64 t.r.k.b, .int .i64 t.r.k.c, .int .i64 t.r.k.d, .int .i64 t.r.k.e, .int .i64 t.r.k.f, .slice ua t.l.length uc], .int .i64 c, .int .i64 d] W fun e w' => e = .returned (.tuple #[.int .i64 (max (-1) (sl t.z c)), .int .i64 (min t.n (sl t.z d))]) ∧ Grew W w') := Lib.hid (fun W g => R.touched_c t _ c d W (hs.grew g) ht hc)
  have OF : Hid (∀ (a b s : Int) (W : World), Grew w W → Calls Tryz.prog 41 #[.agg #[.int .i64 t.v, .int .i64 t.z, .int .i64 t.n, .int .i64 t.r.x, .int .i64 t.r.y, .int .i64 t.r.s, .int .i64 t.r.k.a, .int .i64 t.r.k.b, .int .i64 t.r.k.c, .int .i64 t.r.k.d, .int .i64 t.r.k.e, .int .i64 t.r.k.f, .slice ua t.l.length uc], .int .i64 a, .int .i64 b, .int .i64 s] W fun e w' => e = .returned (.agg #[.int .i64 0, .int .i64 0, .int .i64 0, .int .i64 (Hd t a b s).a, .int .i64 (Hd t a b s).b, .int .i64 (Hd t a b s).c, .int .i64 (Hd t a b s).d, .int .i64 (Hd t a b s).e, .int .i64 (Hd t a b s).f]) ∧ Grew W w') := Lib.hid (fun a b s W g => R.of_c t _ a b s W (hs.grew g) hl)
  obtain ⟨c0, c1, c2⟩ := hc
  obtain ⟨⟨⟨a0, a1⟩, ⟨a2, a3⟩⟩, ⟨⟨b0, b1⟩, ⟨b2, b3⟩⟩, o1, o2⟩ := hr
  obtain ⟨n0, n1⟩ := ht.2.2.1
  have x1 := bk_bd (x := lo.1) (by omega)
  have x2 := bk_bd (x := hi.1) (by omega)
  have x3 := bk_bd (x := lo.2) (by omega)
  have x4 := bk_bd (x := hi.2) (by omega)
  have m1 := bk_mono o1
  have m2 := bk_mono o2
  have m3 := sl_mono (z := t.z) c1
  have BX1 : Hid (∀ W, Calls Tryz.prog 42 #[.int .i64 lo.1] W fun e w' => e = .returned (.int .i64 (bk lo.1)) ∧ W = w') := Lib.hid (fun W => R.block_c lo.1 W (by omega))
  have BX2 : Hid (∀ W, Calls Tryz.prog 42 #[.int .i64 hi.1] W fun e w' => e = .returned (.int .i64 (bk hi.1)) ∧ W = w') := Lib.hid (fun W => R.block_c hi.1 W (by omega))
  have BY1 : Hid (∀ W, Calls Tryz.prog 42 #[.int .i64 lo.2] W fun e w' => e = .returned (.int .i64 (bk lo.2)) ∧ W = w') := Lib.hid (fun W => R.block_c lo.2 W (by omega))
  have BY2 : Hid (∀ W, Calls Tryz.prog 42 #[.int .i64 hi.2] W fun e w' => e = .returned (.int .i64 (bk hi.2)) ∧ W = w') := Lib.hid (fun W => R.block_c hi.2 W (by omega))
  have CL : Hid (OvB t lo hi c d = _) := Lib.hid (ov_clamp ht m1 m2 m3)
  rw [CL.out]
  clear CL
  obtain ⟨F, emf, mf⟩ := R.run_min (max (-1) (sl t.z c)) t.n
  obtain ⟨L, eml, ml⟩ := R.run_max (min t.n (sl t.z d)) (-1)
  have EF : Hid (min (max (-1) (sl t.z c)) t.n = F) := Lib.hid (by omega)
  have EL : Hid (max (min t.n (sl t.z d)) (-1) = L) := Lib.hid (by omega)
  rw [EF.out, EL.out]
  have fl : F ≤ L ∧ (-1 ≤ F ∧ L ≤ t.n) := by omega
  obtain ⟨fl, f0, f1⟩ := fl
  clear EF EL mf ml
  generalize max (-1) (sl t.z c) = M1 at *
  generalize min t.n (sl t.z d) = M2 at *
  have WS : Hid (Wo t (bk lo.1) (bk hi.1) (bk lo.2) (bk hi.2) F L (Hd t (bk lo.1) (bk lo.2) F) (Hd t (bk lo.1) (bk lo.2) F) F (bk lo.2) (bk lo.1)) := Lib.hid Wo.start
  have WP : Hid (∀ k s j i, Wo t (bk lo.1) (bk hi.1) (bk lo.2) (bk hi.2) F L (Hd t (bk lo.1) (bk lo.2) F) k s j i → Bx (bk lo.1) (bk hi.1) (bk lo.2) (bk hi.2) F L i j s → Wo t (bk lo.1) (bk hi.1) (bk lo.2) (bk hi.2) F L (Hd t (bk lo.1) (bk lo.2) F) (jn k (Hd t i j s)) s j (i + 1)) := Lib.hid (fun k s j i h b => h.step b)
  have WR : Hid (∀ k s j, Wo t (bk lo.1) (bk hi.1) (bk lo.2) (bk hi.2) F L (Hd t (bk lo.1) (bk lo.2) F) k s j (bk hi.1 + 1) → Wo t (bk lo.1) (bk hi.1) (bk lo.2) (bk hi.2) F L (Hd t (bk lo.1) (bk lo.2) F) k s (j + 1) (bk lo.1)) := Lib.hid (fun k s j h => h.row)
  have WG : Hid (∀ k s, Wo t (bk lo.1) (bk hi.1) (bk lo.2) (bk hi.2) F L (Hd t (bk lo.1) (bk lo.2) F) k s (bk hi.2 + 1) (bk lo.1) → Wo t (bk lo.1) (bk hi.1) (bk lo.2) (bk hi.2) F L (Hd t (bk lo.1) (bk lo.2) F) k (s + 1) (bk lo.2) (bk lo.1)) := Lib.hid (fun k s h => h.page)
  have DN : Hid (∀ k, Wo t (bk lo.1) (bk hi.1) (bk lo.2) (bk hi.2) F L (Hd t (bk lo.1) (bk lo.2) F) k (L + 1) (bk lo.2) (bk lo.1) → Ov t (bk lo.1) (bk hi.1) (bk lo.2) (bk hi.2) F L = k) := Lib.hid (fun k h => h.done m1 m2 fl)
  have JD : Hid (∀ (k m : Bd) (W : World), Calls Tryz.prog 53 #[.agg #[.int .i64 0, .int .i64 0, .int .i64 0, .int .i64 k.a, .int .i64 k.b, .int .i64 k.c, .int .i64 k.d, .int .i64 k.e, .int .i64 k.f], .agg #[.int .i64 0, .int .i64 0, .int .i64 0, .int .i64 m.a, .int .i64 m.b, .int .i64 m.c, .int .i64 m.d, .int .i64 m.e, .int .i64 m.f]] W fun e w' => e = .returned (.agg #[.int .i64 0, .int .i64 0, .int .i64 0, .int .i64 (jn k m).a, .int .i64 (jn k m).b, .int .i64 (jn k m).c, .int .i64 (jn k m).d, .int .i64 (jn k m).e, .int .i64 (jn k m).f]) ∧ Grew W w') := Lib.hid R.joined_c
  clear hs hl ht m3
  obtain ⟨Z6, hZ6⟩ : ∃ Z : Bd → Int → Int → Int → Prop, Wo t (bk lo.1) (bk hi.1) (bk lo.2) (bk hi.2) F L (Hd t (bk lo.1) (bk lo.2) F) = Z := ⟨_, rfl⟩
  rw [hZ6] at DN WS WP WR WG
  clear hZ6
  generalize Ov t (bk lo.1) (bk hi.1) (bk lo.2) (bk hi.2) F L = kz at *
  generalize bk lo.1 = X at *
  generalize bk hi.1 = X' at *
  generalize bk lo.2 = Y at *
  generalize bk hi.2 = Y' at *
  obtain ⟨H, hH⟩ : ∃ H, Hd t = H := ⟨_, rfl⟩
  rw [hH] at OF WP WS
  clear hH
  unfold tv
  have HT : Hid (∀ W, Grew (((w.alloc (.cells #[.int .i64 t.v, .int .i64 t.z, .int .i64 t.n, .int .i64 t.r.x, .int .i64 t.r.y, .int .i64 t.r.s, .int .i64 t.r.k.a, .int .i64 t.r.k.b, .int .i64 t.r.k.c, .int .i64 t.r.k.d, .int .i64 t.r.k.e, .int .i64 t.r.k.f, .slice ua t.l.length uc] 28)).alloc (.cells #[.int .i64 lo.1, .int .i64 lo.2] 30)).alloc (.cells #[.int .i64 hi.1, .int .i64 hi.2] 30)) W → ((W.cell? ⟨w.heap.size, 0, none⟩ = some (.int .i64 t.v) ∧ W.cell? ⟨w.heap.size, 1, none⟩ = some (.int .i64 t.z) ∧ W.cell? ⟨w.heap.size, 2, none⟩ = some (.int .i64 t.n) ∧ W.cell? ⟨w.heap.size, 3, none⟩ = some (.int .i64 t.r.x) ∧ W.cell? ⟨w.heap.size, 4, none⟩ = some (.int .i64 t.r.y) ∧ W.cell? ⟨w.heap.size, 5, none⟩ = some (.int .i64 t.r.s) ∧ W.cell? ⟨w.heap.size, 6, none⟩ = some (.int .i64 t.r.k.a) ∧ W.cell? ⟨w.heap.size, 7, none⟩ = some (.int .i64 t.r.k.b) ∧ W.cell? ⟨w.heap.size, 8, none⟩ = some (.int .i64 t.r.k.c) ∧ W.cell? ⟨w.heap.size, 9, none⟩ = some (.int .i64 t.r.k.d) ∧ W.cell? ⟨w.heap.size, 10, none⟩ = some (.int .i64 t.r.k.e) ∧ W.cell? ⟨w.heap.size, 11, none⟩ = some (.int .i64 t.r.k.f) ∧ W.cell? ⟨w.heap.size, 12, none⟩ = some (.slice ua t.l.length uc) ∧ W.cell? ⟨w.heap.size + 1, 0, none⟩ = some (.int .i64 lo.1) ∧ W.cell? ⟨w.heap.size + 1, 1, none⟩ = some (.int .i64 lo.2) ∧ W.cell? ⟨w.heap.size + 1 + 1, 0, none⟩ = some (.int .i64 hi.1) ∧ W.cell? ⟨w.heap.size + 1 + 1, 1, none⟩ = some (.int .i64 hi.2)) ∧ w.heap.size < W.heap.size ∧ w.heap.size + 1 < W.heap.size ∧ w.heap.size + 1 + 1 < W.heap.size)) := Lib.hid (fun W g => by
    have b0 := (((Blk.new w #[.int .i64 t.v, .int .i64 t.z, .int .i64 t.n, .int .i64 t.r.x, .int .i64 t.r.y, .int .i64 t.r.s, .int .i64 t.r.k.a, .int .i64 t.r.k.b, .int .i64 t.r.k.c, .int .i64 t.r.k.d, .int .i64 t.r.k.e, .int .i64 t.r.k.f, .slice ua t.l.length uc] 28).alloc (.cells #[.int .i64 lo.1, .int .i64 lo.2] 30)).alloc (.cells #[.int .i64 hi.1, .int .i64 hi.2] 30)).grown g
    have b1 := ((blkN (W := w.alloc (.cells #[.int .i64 t.v, .int .i64 t.z, .int .i64 t.n, .int .i64 t.r.x, .int .i64 t.r.y, .int .i64 t.r.s, .int .i64 t.r.k.a, .int .i64 t.r.k.b, .int .i64 t.r.k.c, .int .i64 t.r.k.d, .int .i64 t.r.k.e, .int .i64 t.r.k.f, .slice ua t.l.length uc] 28)) (k := w.heap.size + 1) (cs := #[.int .i64 lo.1, .int .i64 lo.2]) (t := 30) (by simp)).alloc (.cells #[.int .i64 hi.1, .int .i64 hi.2] 30)).grown g
    have b2 := (blkN (W := (w.alloc (.cells #[.int .i64 t.v, .int .i64 t.z, .int .i64 t.n, .int .i64 t.r.x, .int .i64 t.r.y, .int .i64 t.r.s, .int .i64 t.r.k.a, .int .i64 t.r.k.b, .int .i64 t.r.k.c, .int .i64 t.r.k.d, .int .i64 t.r.k.e, .int .i64 t.r.k.f, .slice ua t.l.length uc] 28)).alloc (.cells #[.int .i64 lo.1, .int .i64 lo.2] 30)) (k := w.heap.size + 1 + 1) (cs := #[.int .i64 hi.1, .int .i64 hi.2]) (t := 30) (by simp)).grown g
    exact ⟨⟨blkAt b0 rfl, blkAt b0 rfl, blkAt b0 rfl, blkAt b0 rfl, blkAt b0 rfl, blkAt b0 rfl, blkAt b0 rfl, blkAt b0 rfl, blkAt b0 rfl, blkAt b0 rfl, blkAt b0 rfl, blkAt b0 rfl, blkAt b0 rfl, blkAt b1 rfl, blkAt b1 rfl, blkAt b2 rfl, blkAt b2 rfl⟩, b0.lt, b1.lt, b2.lt⟩)
  have G0 : Hid (Grew w (((w.alloc (.cells #[.int .i64 t.v, .int .i64 t.z, .int .i64 t.n, .int .i64 t.r.x, .int .i64 t.r.y, .int .i64 t.r.s, .int .i64 t.r.k.a, .int .i64 t.r.k.b, .int .i64 t.r.k.c, .int .i64 t.r.k.d, .int .i64 t.r.k.e, .int .i64 t.r.k.f, .slice ua t.l.length uc] 28)).alloc (.cells #[.int .i64 lo.1, .int .i64 lo.2] 30)).alloc (.cells #[.int .i64 hi.1, .int .i64 hi.2] 30))) := Lib.hid (((Grew.refl w).alloc _ _).alloc _ _ |>.alloc _ _)
  have z0 : (((w.alloc (.cells #[.int .i64 t.v, .int .i64 t.z, .int .i64 t.n, .int .i64 t.r.x, .int .i64 t.r.y, .int .i64 t.r.s, .int .i64 t.r.k.a, .int .i64 t.r.k.b, .int .i64 t.r.k.c, .int .i64 t.r.k.d, .int .i64 t.r.k.e, .int .i64 t.r.k.f, .slice ua t.l.length uc] 28)).alloc (.cells #[.int .i64 lo.1, .int .i64 lo.2] 30)).alloc (.cells #[.int .i64 hi.1, .int .i64 hi.2] 30)).heap.size = w.heap.size + 1 + 1 + 1 := by simp
  go_enter Tryz.func36, Tryz.ntmps36
  go_wp2_with fail
  obtain ⟨Z, hZ⟩ : ∃ Z, ((w.alloc (.cells #[.int .i64 t.v, .int .i64 t.z, .int .i64 t.n, .int .i64 t.r.x, .int .i64 t.r.y, .int .i64 t.r.s, .int .i64 t.r.k.a, .int .i64 t.r.k.b, .int .i64 t.r.k.c, .int .i64 t.r.k.d, .int .i64 t.r.k.e, .int .i64 t.r.k.f, .slice ua t.l.length uc] 28)).alloc (.cells #[.int .i64 lo.1, .int .i64 lo.2] 30)).alloc (.cells #[.int .i64 hi.1, .int .i64 hi.2] 30) = Z := ⟨_, rfl⟩
  rw [hZ] at HT G0 z0
  try rw [hZ]
  clear hZ
  obtain ⟨V0, hV⟩ : ∃ V, Z.alloc (.cells #[.int .i64 0, .int .i64 0, .int .i64 0, .int .i64 0, .int .i64 0, .int .i64 0, .int .i64 0, .int .i64 0, .int .i64 0] 25) = V := ⟨_, rfl⟩
  have RB : Hid (∀ W, Grew V0 W → Blk W (w.heap.size + 1 + 1 + 1) #[.int .i64 0, .int .i64 0, .int .i64 0, .int .i64 0, .int .i64 0, .int .i64 0, .int .i64 0, .int .i64 0, .int .i64 0] 25) := Lib.hid (fun W g => by
    subst hV
    exact (blkN (W := Z) (k := w.heap.size + 1 + 1 + 1) (cs := #[.int .i64 0, .int .i64 0, .int .i64 0, .int .i64 0, .int .i64 0, .int .i64 0, .int .i64 0, .int .i64 0, .int .i64 0]) (t := 25) z0).grown g)
  have GZ : Grew Z V0 := by rw [← hV]; exact (Grew.refl _).alloc _ _
  have zv : V0.heap.size = w.heap.size + 1 + 1 + 1 + 1 := by rw [← hV]; simp [z0]
  try rw [hV]
  clear hV
  have HT : Hid (∀ W, Grew V0 W → ((W.cell? ⟨w.heap.size, 0, none⟩ = some (.int .i64 t.v) ∧ W.cell? ⟨w.heap.size, 1, none⟩ = some (.int .i64 t.z) ∧ W.cell? ⟨w.heap.size, 2, none⟩ = some (.int .i64 t.n) ∧ W.cell? ⟨w.heap.size, 3, none⟩ = some (.int .i64 t.r.x) ∧ W.cell? ⟨w.heap.size, 4, none⟩ = some (.int .i64 t.r.y) ∧ W.cell? ⟨w.heap.size, 5, none⟩ = some (.int .i64 t.r.s) ∧ W.cell? ⟨w.heap.size, 6, none⟩ = some (.int .i64 t.r.k.a) ∧ W.cell? ⟨w.heap.size, 7, none⟩ = some (.int .i64 t.r.k.b) ∧ W.cell? ⟨w.heap.size, 8, none⟩ = some (.int .i64 t.r.k.c) ∧ W.cell? ⟨w.heap.size, 9, none⟩ = some (.int .i64 t.r.k.d) ∧ W.cell? ⟨w.heap.size, 10, none⟩ = some (.int .i64 t.r.k.e) ∧ W.cell? ⟨w.heap.size, 11, none⟩ = some (.int .i64 t.r.k.f) ∧ W.cell? ⟨w.heap.size, 12, none⟩ = some (.slice ua t.l.length uc) ∧ W.cell? ⟨w.heap.size + 1, 0, none⟩ = some (.int .i64 lo.1) ∧ W.cell? ⟨w.heap.size + 1, 1, none⟩ = some (.int .i64 lo.2) ∧ W.cell? ⟨w.heap.size + 1 + 1, 0, none⟩ = some (.int .i64 hi.1) ∧ W.cell? ⟨w.heap.size + 1 + 1, 1, none⟩ = some (.int .i64 hi.2)) ∧ w.heap.size < W.heap.size ∧ w.heap.size + 1 < W.heap.size ∧ w.heap.size + 1 + 1 < W.heap.size)) := Lib.hid (fun W g => HT.out W (GZ.trans g))
  have G0 := Lib.hid (G0.out.trans GZ)
  clear GZ z0
  have GW := Grew.refl V0
  obtain ⟨⟨t0, t1, t2, t3, t4, t5, t6, t7, t8, t9, t10, t11, t12, l0, l1, h0, h1⟩, q0, q1, q2⟩ := HT.out _ GW
  refine (TCH.out _ G0.out).mono ?_
  rintro e w1 ⟨rfl, g1⟩
  have GW := g1
  clear g1
  clear t0 t1 t2 t3 t4 t5 t6 t7 t8 t9 t10 t11 t12 l0 l1 h0 h1 q0 q1 q2
  obtain ⟨⟨t0, t1, t2, t3, t4, t5, t6, t7, t8, t9, t10, t11, t12, l0, l1, h0, h1⟩, q0, q1, q2⟩ := HT.out _ GW
  go_wp2_with fail
  have HW := Lib.hid GW
  clear GW TCH emf eml
  clear t0 t1 t2 t3 t4 t5 t6 t7 t8 t9 t10 t11 t12 l0 l1 h0 h1 q0 q1 q2
  have KS : Hid (∀ W, Grew w1 W → (W.cell? ⟨w.heap.size, 0, none⟩ = some (.int .i64 t.v) ∧ W.cell? ⟨w.heap.size, 1, none⟩ = some (.int .i64 t.z) ∧ W.cell? ⟨w.heap.size, 2, none⟩ = some (.int .i64 t.n) ∧ W.cell? ⟨w.heap.size, 3, none⟩ = some (.int .i64 t.r.x) ∧ W.cell? ⟨w.heap.size, 4, none⟩ = some (.int .i64 t.r.y) ∧ W.cell? ⟨w.heap.size, 5, none⟩ = some (.int .i64 t.r.s) ∧ W.cell? ⟨w.heap.size, 6, none⟩ = some (.int .i64 t.r.k.a) ∧ W.cell? ⟨w.heap.size, 7, none⟩ = some (.int .i64 t.r.k.b) ∧ W.cell? ⟨w.heap.size, 8, none⟩ = some (.int .i64 t.r.k.c) ∧ W.cell? ⟨w.heap.size, 9, none⟩ = some (.int .i64 t.r.k.d) ∧ W.cell? ⟨w.heap.size, 10, none⟩ = some (.int .i64 t.r.k.e) ∧ W.cell? ⟨w.heap.size, 11, none⟩ = some (.int .i64 t.r.k.f) ∧ W.cell? ⟨w.heap.size, 12, none⟩ = some (.slice ua t.l.length uc) ∧ W.cell? ⟨w.heap.size + 1, 0, none⟩ = some (.int .i64 lo.1) ∧ W.cell? ⟨w.heap.size + 1, 1, none⟩ = some (.int .i64 lo.2))) := Lib.hid (fun W g => by
    obtain ⟨⟨t0, t1, t2, t3, t4, t5, t6, t7, t8, t9, t10, t11, t12, l0, l1, h0, h1⟩, _⟩ := HT.out W (HW.out.trans g)
    exact ⟨t0, t1, t2, t3, t4, t5, t6, t7, t8, t9, t10, t11, t12, l0, l1⟩)
  have OF1 : Hid (∀ W, Grew w W → Calls Tryz.prog 41 #[.agg #[.int .i64 t.v, .int .i64 t.z, .int .i64 t.n, .int .i64 t.r.x, .int .i64 t.r.y, .int .i64 t.r.s, .int .i64 t.r.k.a, .int .i64 t.r.k.b, .int .i64 t.r.k.c, .int .i64 t.r.k.d, .int .i64 t.r.k.e, .int .i64 t.r.k.f, .slice ua t.l.length uc], .int .i64 X, .int .i64 Y, .int .i64 F] W fun e w' => e = .returned (.agg #[.int .i64 0, .int .i64 0, .int .i64 0, .int .i64 (H X Y F).a, .int .i64 (H X Y F).b, .int .i64 (H X Y F).c, .int .i64 (H X Y F).d, .int .i64 (H X Y F).e, .int .i64 (H X Y F).f]) ∧ Grew W w') := Lib.hid (fun W g => OF.out X Y F W g)
  generalize H X Y F = k0 at *
  have GA := Grew.refl w1
  go_cut [13] from 30 to 38 (fun s13 wx => ∃ Bo, s13 = .pointer (some ⟨Bo, 0, none⟩) ∧ w1.heap.size ≤ Bo ∧ Hid (Blk wx Bo #[.int .i64 0, .int .i64 0, .int .i64 0, .int .i64 k0.a, .int .i64 k0.b, .int .i64 k0.c, .int .i64 k0.d, .int .i64 k0.e, .int .i64 k0.f] 25) ∧ Grew w1 wx)
  case first =>
    go_region_held3 (fun W => W.cell? ⟨w.heap.size, 0, none⟩ = some (.int .i64 t.v) ∧ W.cell? ⟨w.heap.size, 1, none⟩ = some (.int .i64 t.z) ∧ W.cell? ⟨w.heap.size, 2, none⟩ = some (.int .i64 t.n) ∧ W.cell? ⟨w.heap.size, 3, none⟩ = some (.int .i64 t.r.x) ∧ W.cell? ⟨w.heap.size, 4, none⟩ = some (.int .i64 t.r.y) ∧ W.cell? ⟨w.heap.size, 5, none⟩ = some (.int .i64 t.r.s) ∧ W.cell? ⟨w.heap.size, 6, none⟩ = some (.int .i64 t.r.k.a) ∧ W.cell? ⟨w.heap.size, 7, none⟩ = some (.int .i64 t.r.k.b) ∧ W.cell? ⟨w.heap.size, 8, none⟩ = some (.int .i64 t.r.k.c) ∧ W.cell? ⟨w.heap.size, 9, none⟩ = some (.int .i64 t.r.k.d) ∧ W.cell? ⟨w.heap.size, 10, none⟩ = some (.int .i64 t.r.k.e) ∧ W.cell? ⟨w.heap.size, 11, none⟩ = some (.int .i64 t.r.k.f) ∧ W.cell? ⟨w.heap.size, 12, none⟩ = some (.slice ua t.l.length uc) ∧ W.cell? ⟨w.heap.size + 1, 0, none⟩ = some (.int .i64 lo.1) ∧ W.cell? ⟨w.heap.size + 1, 1, none⟩ = some (.int .i64 lo.2)) (exact KS.out _ (by (repeat' (first | (with_reducible exact Grew.refl _) | (with_reducible assumption) | (with_reducible refine Grew.alloc ?_ _ _) | (with_reducible refine Grew.drew ?_) | (with_reducible refine Grew.drewN ?_ _) | (with_reducible refine Grew.setCell ?_ ?_ _) | go_size))))
      (first
        | (go_at_call 42; refine (BX1.out _).mono ?_; rintro e w7 ⟨rfl, rfl⟩)
        | (go_at_call 42; refine (BY1.out _).mono ?_; rintro e w7 ⟨rfl, rfl⟩)
        | (go_at_call 41; refine (OF1.out _ (G0.out.trans (HW.out.trans (by (repeat' (first | (with_reducible exact Grew.refl _) | (with_reducible assumption) | (with_reducible refine Grew.alloc ?_ _ _) | (with_reducible refine Grew.drew ?_) | (with_reducible refine Grew.drewN ?_ _) | (with_reducible refine Grew.setCell ?_ ?_ _) | go_size)))))).mono ?_; rintro e w8 ⟨rfl, gn⟩; (first | (have BK := Lib.hid ((Blk.new _ _ _).grown gn)) | (have BK := Lib.hid ((Blk.drew (Blk.new _ _ _)).grown gn)) | (have BK := Lib.hid (BK.out.grown gn)) | skip); (try rw [World.size_drew] at BK); have GA : Grew w1 w8 := Grew.trans (by (repeat' (first | (with_reducible exact Grew.refl _) | (with_reducible assumption) | (with_reducible refine Grew.alloc ?_ _ _) | (with_reducible refine Grew.drew ?_) | (with_reducible refine Grew.drewN ?_ _) | (with_reducible refine Grew.setCell ?_ ?_ _) | go_size))) gn; have zq := GA.size; (try (have yl := BK.out.lt)); (try ((have y0 := blkAt BK.out (i := 0) (v := .int .i64 0) rfl); (have v0 := blkFz BK.out (i := 0) (by simp)); (have y1 := blkAt BK.out (i := 1) (v := .int .i64 0) rfl); (have v1 := blkFz BK.out (i := 1) (by simp)); (have y2 := blkAt BK.out (i := 2) (v := .int .i64 0) rfl); (have v2 := blkFz BK.out (i := 2) (by simp)); (have y3 := blkAt BK.out (i := 3) (v := .int .i64 0) rfl); (have v3 := blkFz BK.out (i := 3) (by simp)); (have y4 := blkAt BK.out (i := 4) (v := .int .i64 0) rfl); (have v4 := blkFz BK.out (i := 4) (by simp)); (have y5 := blkAt BK.out (i := 5) (v := .int .i64 0) rfl); (have v5 := blkFz BK.out (i := 5) (by simp)); (have y6 := blkAt BK.out (i := 6) (v := .int .i64 0) rfl); (have v6 := blkFz BK.out (i := 6) (by simp)); (have y7 := blkAt BK.out (i := 7) (v := .int .i64 0) rfl); (have v7 := blkFz BK.out (i := 7) (by simp)); (have y8 := blkAt BK.out (i := 8) (v := .int .i64 0) rfl); (have v8 := blkFz BK.out (i := 8) (by simp)))); clear gn))
    all_goals (go_wp2_with fail; go_meet)
    all_goals first
      | (have _ := BK.out; exact ⟨_, rfl, by omega, Lib.hid (Blk.put9 BK.out), Grew.put9 GA (by omega)⟩)
      | exact ⟨_, rfl, by omega, Lib.hid (Blk.new _ _ _), Grew.alloc GA _ _⟩
  case rest =>
    clear KS GA OF1
    obtain ⟨Bo, rfl, bo, BK, GN⟩ := hcut
    have zo : V0.heap.size ≤ Bo := by have := HW.out.size; omega
    have GW := HW.out.trans GN
    clear GN HW bo
    obtain ⟨⟨t0, t1, t2, t3, t4, t5, t6, t7, t8, t9, t10, t11, t12, l0, l1, h0, h1⟩, q0, q1, q2⟩ := HT.out _ GW
    go_wp2_with fail
    clear t0 t1 t2 t3 t4 t5 t6 t7 t8 t9 t10 t11 t12 l0 l1 h0 h1 q0 q1 q2
    go_loopw [14] (fun v14 wr => ∃ (k : Bd) (s : Int), v14 = .int .i64 s ∧ F ≤ s ∧ s ≤ L + 1 ∧ Grew V0 wr ∧ Hid (Blk wr Bo #[.int .i64 0, .int .i64 0, .int .i64 0, .int .i64 k.a, .int .i64 k.b, .int .i64 k.c, .int .i64 k.d, .int .i64 k.e, .int .i64 k.f] 25) ∧ Hid (Z6 k s Y X)) (fun v _ => (L + 1 - intOf v).toNat)
    case atStart => exact ⟨k0, F, rfl, Int.le_refl _, by omega, GW, BK, WS⟩
    case round =>
      clear GW BK
      obtain ⟨k, s, rfl, s0', s1', GW, BK, WT⟩ := hrel
      by_cases hls : s ≤ L
      · obtain ⟨Va, rfl⟩ : ∃ V : World, V = wr := ⟨_, rfl⟩
        obtain ⟨⟨t0, t1, t2, t3, t4, t5, t6, t7, t8, t9, t10, t11, t12, l0, l1, h0, h1⟩, q0, q1, q2⟩ := HT.out _ GW
        go_wp2_with fail
        refine (BY1.out _).mono ?_
        rintro e wq ⟨rfl, rfl⟩
        go_wp2_with fail
        clear t0 t1 t2 t3 t4 t5 t6 t7 t8 t9 t10 t11 t12 l0 l1 h0 h1 q0 q1 q2
        go_loopw [15] (fun v15 wr => ∃ (k : Bd) (j : Int), v15 = .int .i64 j ∧ Y ≤ j ∧ j ≤ Y' + 1 ∧ Grew V0 wr ∧ Hid (Blk wr Bo #[.int .i64 0, .int .i64 0, .int .i64 0, .int .i64 k.a, .int .i64 k.b, .int .i64 k.c, .int .i64 k.d, .int .i64 k.e, .int .i64 k.f] 25) ∧ Hid (Z6 k s j X)) (fun v _ => (Y' + 1 - intOf v).toNat)
        case atStart => exact ⟨k, Y, rfl, Int.le_refl _, by omega, GW, BK, WT⟩
        case round =>
          clear GW BK WT
          obtain ⟨k, j, rfl, j0', j1', GW, BK, WT⟩ := hrel
          obtain ⟨Vb, rfl⟩ : ∃ V : World, V = wr := ⟨_, rfl⟩
          obtain ⟨⟨t0, t1, t2, t3, t4, t5, t6, t7, t8, t9, t10, t11, t12, l0, l1, h0, h1⟩, q0, q1, q2⟩ := HT.out _ GW
          go_wp2_with fail
          refine (BY2.out _).mono ?_
          rintro e wq ⟨rfl, rfl⟩
          by_cases hly : j ≤ Y'
          · go_wp2_with fail
            refine (BX1.out _).mono ?_
            rintro e wq ⟨rfl, rfl⟩
            go_wp2_with fail
            clear t0 t1 t2 t3 t4 t5 t6 t7 t8 t9 t10 t11 t12 l0 l1 h0 h1 q0 q1 q2
            go_loopw [16] (fun v16 wr => ∃ (k : Bd) (i : Int), v16 = .int .i64 i ∧ X ≤ i ∧ i ≤ X' + 1 ∧ Grew V0 wr ∧ Hid (Blk wr Bo #[.int .i64 0, .int .i64 0, .int .i64 0, .int .i64 k.a, .int .i64 k.b, .int .i64 k.c, .int .i64 k.d, .int .i64 k.e, .int .i64 k.f] 25) ∧ Hid (Z6 k s j i)) (fun v _ => (X' + 1 - intOf v).toNat)
            case atStart => exact ⟨k, X, rfl, Int.le_refl _, by omega, GW, BK, WT⟩
            case round =>
              clear GW BK WT
              obtain ⟨k, i, rfl, i0', i1', GW, BK, WT⟩ := hrel
              obtain ⟨Vc, rfl⟩ : ∃ V : World, V = wr := ⟨_, rfl⟩
              obtain ⟨⟨t0, t1, t2, t3, t4, t5, t6, t7, t8, t9, t10, t11, t12, l0, l1, h0, h1⟩, q0, q1, q2⟩ := HT.out _ GW
              go_wp2_with fail
              refine (BX2.out _).mono ?_
              rintro e wq ⟨rfl, rfl⟩
              by_cases hlx : i ≤ X'
              · go_wp2_with fail
                clear t0 t1 t2 t3 t4 t5 t6 t7 t8 t9 t10 t11 t12 l0 l1 h0 h1 q0 q1 q2
                have HW := Lib.hid GW
                clear GW
                have OF1 : Hid (∀ W, Grew w W → Calls Tryz.prog 41 #[.agg #[.int .i64 t.v, .int .i64 t.z, .int .i64 t.n, .int .i64 t.r.x, .int .i64 t.r.y, .int .i64 t.r.s, .int .i64 t.r.k.a, .int .i64 t.r.k.b, .int .i64 t.r.k.c, .int .i64 t.r.k.d, .int .i64 t.r.k.e, .int .i64 t.r.k.f, .slice ua t.l.length uc], .int .i64 i, .int .i64 j, .int .i64 s] W fun e w' => e = .returned (.agg #[.int .i64 0, .int .i64 0, .int .i64 0, .int .i64 (H i j s).a, .int .i64 (H i j s).b, .int .i64 (H i j s).c, .int .i64 (H i j s).d, .int .i64 (H i j s).e, .int .i64 (H i j s).f]) ∧ Grew W w') := Lib.hid (fun W g => OF.out i j s W g)
                have WT1 := Lib.hid (WP.out _ _ _ _ WT.out (by unfold Bx; omega))
                have J1 : Hid (∀ W, Calls Tryz.prog 53 #[.agg #[.int .i64 0, .int .i64 0, .int .i64 0, .int .i64 k.a, .int .i64 k.b, .int .i64 k.c, .int .i64 k.d, .int .i64 k.e, .int .i64 k.f], .agg #[.int .i64 0, .int .i64 0, .int .i64 0, .int .i64 (H i j s).a, .int .i64 (H i j s).b, .int .i64 (H i j s).c, .int .i64 (H i j s).d, .int .i64 (H i j s).e, .int .i64 (H i j s).f]] W fun e w' => e = .returned (.agg #[.int .i64 0, .int .i64 0, .int .i64 0, .int .i64 (jn k (H i j s)).a, .int .i64 (jn k (H i j s)).b, .int .i64 (jn k (H i j s)).c, .int .i64 (jn k (H i j s)).d, .int .i64 (jn k (H i j s)).e, .int .i64 (jn k (H i j s)).f]) ∧ Grew W w') := Lib.hid (fun W => JD.out k (H i j s) W)
                clear WT
                generalize jn k (H i j s) = kn at *
                generalize H i j s = k2 at *
                have KS : Hid (∀ W, Grew Vc W → (W.cell? ⟨w.heap.size, 0, none⟩ = some (.int .i64 t.v) ∧ W.cell? ⟨w.heap.size, 1, none⟩ = some (.int .i64 t.z) ∧ W.cell? ⟨w.heap.size, 2, none⟩ = some (.int .i64 t.n) ∧ W.cell? ⟨w.heap.size, 3, none⟩ = some (.int .i64 t.r.x) ∧ W.cell? ⟨w.heap.size, 4, none⟩ = some (.int .i64 t.r.y) ∧ W.cell? ⟨w.heap.size, 5, none⟩ = some (.int .i64 t.r.s) ∧ W.cell? ⟨w.heap.size, 6, none⟩ = some (.int .i64 t.r.k.a) ∧ W.cell? ⟨w.heap.size, 7, none⟩ = some (.int .i64 t.r.k.b) ∧ W.cell? ⟨w.heap.size, 8, none⟩ = some (.int .i64 t.r.k.c) ∧ W.cell? ⟨w.heap.size, 9, none⟩ = some (.int .i64 t.r.k.d) ∧ W.cell? ⟨w.heap.size, 10, none⟩ = some (.int .i64 t.r.k.e) ∧ W.cell? ⟨w.heap.size, 11, none⟩ = some (.int .i64 t.r.k.f) ∧ W.cell? ⟨w.heap.size, 12, none⟩ = some (.slice ua t.l.length uc) ∧ W.cell? ⟨Bo, 0, none⟩ = some (.int .i64 0) ∧ W.cell? ⟨Bo, 1, none⟩ = some (.int .i64 0) ∧ W.cell? ⟨Bo, 2, none⟩ = some (.int .i64 0) ∧ W.cell? ⟨Bo, 3, none⟩ = some (.int .i64 k.a) ∧ W.cell? ⟨Bo, 4, none⟩ = some (.int .i64 k.b) ∧ W.cell? ⟨Bo, 5, none⟩ = some (.int .i64 k.c) ∧ W.cell? ⟨Bo, 6, none⟩ = some (.int .i64 k.d) ∧ W.cell? ⟨Bo, 7, none⟩ = some (.int .i64 k.e) ∧ W.cell? ⟨Bo, 8, none⟩ = some (.int .i64 k.f))) := Lib.hid (fun W g => by
                  obtain ⟨⟨t0, t1, t2, t3, t4, t5, t6, t7, t8, t9, t10, t11, t12, l0, l1, h0, h1⟩, _⟩ := HT.out W (HW.out.trans g)
                  have b := BK.out.grown g
                  exact ⟨t0, t1, t2, t3, t4, t5, t6, t7, t8, t9, t10, t11, t12, blkAt b rfl, blkAt b rfl, blkAt b rfl, blkAt b rfl, blkAt b rfl, blkAt b rfl, blkAt b rfl, blkAt b rfl, blkAt b rfl⟩)
                have GA := Grew.refl Vc
                refine Bar.begin_ (S := (fun W => W.cell? ⟨w.heap.size, 0, none⟩ = some (.int .i64 t.v) ∧ W.cell? ⟨w.heap.size, 1, none⟩ = some (.int .i64 t.z) ∧ W.cell? ⟨w.heap.size, 2, none⟩ = some (.int .i64 t.n) ∧ W.cell? ⟨w.heap.size, 3, none⟩ = some (.int .i64 t.r.x) ∧ W.cell? ⟨w.heap.size, 4, none⟩ = some (.int .i64 t.r.y) ∧ W.cell? ⟨w.heap.size, 5, none⟩ = some (.int .i64 t.r.s) ∧ W.cell? ⟨w.heap.size, 6, none⟩ = some (.int .i64 t.r.k.a) ∧ W.cell? ⟨w.heap.size, 7, none⟩ = some (.int .i64 t.r.k.b) ∧ W.cell? ⟨w.heap.size, 8, none⟩ = some (.int .i64 t.r.k.c) ∧ W.cell? ⟨w.heap.size, 9, none⟩ = some (.int .i64 t.r.k.d) ∧ W.cell? ⟨w.heap.size, 10, none⟩ = some (.int .i64 t.r.k.e) ∧ W.cell? ⟨w.heap.size, 11, none⟩ = some (.int .i64 t.r.k.f) ∧ W.cell? ⟨w.heap.size, 12, none⟩ = some (.slice ua t.l.length uc) ∧ W.cell? ⟨Bo, 0, none⟩ = some (.int .i64 0) ∧ W.cell? ⟨Bo, 1, none⟩ = some (.int .i64 0) ∧ W.cell? ⟨Bo, 2, none⟩ = some (.int .i64 0) ∧ W.cell? ⟨Bo, 3, none⟩ = some (.int .i64 k.a) ∧ W.cell? ⟨Bo, 4, none⟩ = some (.int .i64 k.b) ∧ W.cell? ⟨Bo, 5, none⟩ = some (.int .i64 k.c) ∧ W.cell? ⟨Bo, 6, none⟩ = some (.int .i64 k.d) ∧ W.cell? ⟨Bo, 7, none⟩ = some (.int .i64 k.e) ∧ W.cell? ⟨Bo, 8, none⟩ = some (.int .i64 k.f))) 7 (by kernel_rfl) (by (exact KS.out _ (by (repeat' (first | (with_reducible exact Grew.refl _) | (with_reducible assumption) | (with_reducible refine Grew.alloc ?_ _ _) | (with_reducible refine Grew.drew ?_) | (with_reducible refine Grew.drewN ?_ _) | (with_reducible refine Grew.setCell ?_ ?_ _) | go_size))))) (fun hHeld => ?_)
                refine Bar.Walk.take [7] (i := 0) (oi := ⟨some 65, _, _, _, _, _⟩) (v := ?_) rfl (by kernel_rfl) (by kernel_rfl) (by kernel_rfl) (by kernel_rfl) (fun _ _ _ h => h) (Or.inl ⟨by rfl, ?_⟩) (by assumption) ?_
                rotate_left
                · intro w hSw; (try dsimp only at hSw); go_simp; (try with_reducible rfl)
                try simp only [Act.put, List.setIfInBounds_toArray, List.set_cons_zero, List.set_cons_succ]
                refine Bar.Walk.take [7] (i := 1) (oi := ⟨some 66, _, _, _, _, _⟩) (v := ?_) rfl (by kernel_rfl) (by kernel_rfl) (by kernel_rfl) (by kernel_rfl) (fun _ _ _ h => h) (Or.inl ⟨by rfl, ?_⟩) (by assumption) ?_
                rotate_left
                · intro w hSw; (try dsimp only at hSw); go_simp; (try with_reducible rfl)
                try simp only [Act.put, List.setIfInBounds_toArray, List.set_cons_zero, List.set_cons_succ]
                refine Bar.Walk.takeY (i := 2) (oi := ⟨some 67, _, _, _, _, _⟩) (v := ?_) rfl (by kernel_rfl) (by kernel_rfl) (by kernel_rfl) rfl (fun _ _ _ h => h) (Or.inl ⟨by rfl, ?_⟩) (by assumption) ?_
                rotate_left
                · intro w; go_simp; (try with_reducible rfl)
                try simp only [Act.put, List.setIfInBounds_toArray, List.set_cons_zero, List.set_cons_succ]
                refine Bar.Walk.takeY (i := 3) (oi := ⟨some 68, _, _, _, _, _⟩) (v := ?_) rfl (by kernel_rfl) (by kernel_rfl) (by kernel_rfl) rfl (fun _ _ _ h => h) (Or.inl ⟨by rfl, ?_⟩) (by assumption) ?_
                rotate_left
                · intro w; go_simp; (try with_reducible rfl)
                try simp only [Act.put, List.setIfInBounds_toArray, List.set_cons_zero, List.set_cons_succ]
                refine Bar.Walk.takeY (i := 4) (oi := ⟨some 69, _, _, _, _, _⟩) (v := ?_) rfl (by kernel_rfl) (by kernel_rfl) (by kernel_rfl) rfl (fun _ _ _ h => h) (Or.inl ⟨by rfl, ?_⟩) (by assumption) ?_
                rotate_left
                · intro w; go_simp; (try with_reducible rfl)
                try simp only [Act.put, List.setIfInBounds_toArray, List.set_cons_zero, List.set_cons_succ]
                refine Bar.Walk.step (i := 5) (o := ⟨some 70, _, _, _, _, _⟩) (by kernel_rfl) rfl (fun K hK => ?_)
                go_simp
                (go_at_call 41; refine (OF1.out _ (G0.out.trans (HW.out.trans (by (repeat' (first | (with_reducible exact Grew.refl _) | (with_reducible assumption) | (with_reducible refine Grew.alloc ?_ _ _) | (with_reducible refine Grew.drew ?_) | (with_reducible refine Grew.drewN ?_ _) | (with_reducible refine Grew.setCell ?_ ?_ _) | go_size)))))).mono ?_; rintro e w8 ⟨rfl, gn⟩; have GA : Grew Vc w8 := Grew.trans (by (repeat' (first | (with_reducible exact Grew.refl _) | (with_reducible assumption) | (with_reducible refine Grew.alloc ?_ _ _) | (with_reducible refine Grew.drew ?_) | (with_reducible refine Grew.drewN ?_ _) | (with_reducible refine Grew.setCell ?_ ?_ _) | go_size))) gn; clear gn)
                go_wp2_with fail
                refine hK.out _ _ (by (try dsimp only); (exact KS.out _ (by (repeat' (first | (with_reducible exact Grew.refl _) | (with_reducible assumption) | (with_reducible refine Grew.alloc ?_ _ _) | (with_reducible refine Grew.drew ?_) | (with_reducible refine Grew.drewN ?_ _) | (with_reducible refine Grew.setCell ?_ ?_ _) | go_size))))) (fun h1 => ?_)
                clear hK K hHeld
                have hHeld := h1
                clear h1
                try simp only [Act.put, List.setIfInBounds_toArray, List.set_cons_zero, List.set_cons_succ]
                refine Bar.Walk.step (i := 6) (o := ⟨some 71, _, _, _, _, _⟩) (by kernel_rfl) rfl (fun K hK => ?_)
                go_simp
                (go_at_call 53; refine (J1.out _).mono ?_; rintro e w9 ⟨rfl, gn⟩; have GA : Grew Vc w9 := Grew.trans (by (repeat' (first | (with_reducible exact Grew.refl _) | (with_reducible assumption) | (with_reducible refine Grew.alloc ?_ _ _) | (with_reducible refine Grew.drew ?_) | (with_reducible refine Grew.drewN ?_ _) | (with_reducible refine Grew.setCell ?_ ?_ _) | go_size))) gn; clear gn; have BW := BK.out.grown GA; have zb := BW.lt; have e0 := blkAt BW (i := 0) rfl; have v0 := blkFz BW (i := 0) (by simp); have e1 := blkAt BW (i := 1) rfl; have v1 := blkFz BW (i := 1) (by simp); have e2 := blkAt BW (i := 2) rfl; have v2 := blkFz BW (i := 2) (by simp); have e3 := blkAt BW (i := 3) rfl; have v3 := blkFz BW (i := 3) (by simp); have e4 := blkAt BW (i := 4) rfl; have v4 := blkFz BW (i := 4) (by simp); have e5 := blkAt BW (i := 5) rfl; have v5 := blkFz BW (i := 5) (by simp); have e6 := blkAt BW (i := 6) rfl; have v6 := blkFz BW (i := 6) (by simp); have e7 := blkAt BW (i := 7) rfl; have v7 := blkFz BW (i := 7) (by simp); have e8 := blkAt BW (i := 8) rfl; have v8 := blkFz BW (i := 8) (by simp))
                go_wp2_with fail
                refine hK.out _ _ (by (try dsimp only); (exact KS.out _ (by (repeat' (first | (with_reducible exact Grew.refl _) | (with_reducible assumption) | (with_reducible refine Grew.alloc ?_ _ _) | (with_reducible refine Grew.drew ?_) | (with_reducible refine Grew.drewN ?_ _) | (with_reducible refine Grew.setCell ?_ ?_ _) | go_size))))) (fun h1 => ?_)
                clear hK K hHeld
                have hHeld := h1
                clear h1
                try simp only [Act.put, List.setIfInBounds_toArray, List.set_cons_zero, List.set_cons_succ]
                refine Bar.Walk.pass (o := ⟨none, _, _, _, _, _⟩) (by kernel_rfl) rfl (by kernel_rfl) (fun K hK => ?_)
                go_simp
                refine hK.out _ _ ?_
                clear hK K hHeld
                try simp only [Act.put, List.setIfInBounds_toArray, List.set_cons_zero, List.set_cons_succ]
                refine wpAny_done (by kernel_rfl) ?_ _
                go_wp2_with fail
                go_roundw
                case rel => exact ⟨kn, i + 1, by go_num, by omega, by omega, Grew.put9 (HW.out.trans (by (repeat' (first | (with_reducible exact Grew.refl _) | (with_reducible assumption) | (with_reducible refine Grew.alloc ?_ _ _) | (with_reducible refine Grew.drew ?_) | (with_reducible refine Grew.drewN ?_ _) | (with_reducible refine Grew.setCell ?_ ?_ _) | go_size)))) zo, Lib.hid (Blk.put9 (BK.out.grown (by (repeat' (first | (with_reducible exact Grew.refl _) | (with_reducible assumption) | (with_reducible refine Grew.alloc ?_ _ _) | (with_reducible refine Grew.drew ?_) | (with_reducible refine Grew.drewN ?_ _) | (with_reducible refine Grew.setCell ?_ ?_ _) | go_size))))), WT1⟩
                case measure => simp [intOf]; omega
              · obtain rfl : i = X' + 1 := by omega
                go_wp2_with fail
                go_roundw
                case rel => exact ⟨k, j + 1, by go_num, by omega, by omega, GW, BK, Lib.hid (WR.out _ _ _ WT.out)⟩
                case measure => simp [intOf]; omega
          · obtain rfl : j = Y' + 1 := by omega
            go_wp2_with fail
            go_roundw
            case rel => exact ⟨k, s + 1, by go_num, by omega, by omega, GW, BK, Lib.hid (WG.out _ _ WT.out)⟩
            case measure => simp [intOf]; omega
      · obtain rfl : s = L + 1 := by omega
        obtain rfl : kz = k := DN.out k WT.out
        have BZ := Lib.hid (RB.out _ GW)
        have pb := BK.out.lt
        have p0 := blkAt BK.out (i := 0) rfl
        have p1 := blkAt BK.out (i := 1) rfl
        have p2 := blkAt BK.out (i := 2) rfl
        have p3 := blkAt BK.out (i := 3) rfl
        have p4 := blkAt BK.out (i := 4) rfl
        have p5 := blkAt BK.out (i := 5) rfl
        have p6 := blkAt BK.out (i := 6) rfl
        have p7 := blkAt BK.out (i := 7) rfl
        have p8 := blkAt BK.out (i := 8) rfl
        have zb := BZ.out.lt
        have z0 := blkAt BZ.out (i := 0) rfl
        have z1 := blkAt BZ.out (i := 1) rfl
        have z2 := blkAt BZ.out (i := 2) rfl
        have z3 := blkAt BZ.out (i := 3) rfl
        have z4 := blkAt BZ.out (i := 4) rfl
        have z5 := blkAt BZ.out (i := 5) rfl
        have z6 := blkAt BZ.out (i := 6) rfl
        have z7 := blkAt BZ.out (i := 7) rfl
        have z8 := blkAt BZ.out (i := 8) rfl
        have y0 := blkFz BZ.out (i := 0) (by simp)
        have y1 := blkFz BZ.out (i := 1) (by simp)
        have y2 := blkFz BZ.out (i := 2) (by simp)
        have y3 := blkFz BZ.out (i := 3) (by simp)
        have y4 := blkFz BZ.out (i := 4) (by simp)
        have y5 := blkFz BZ.out (i := 5) (by simp)
        have y6 := blkFz BZ.out (i := 6) (by simp)
        have y7 := blkFz BZ.out (i := 7) (by simp)
        have y8 := blkFz BZ.out (i := 8) (by simp)
        obtain ⟨⟨t0, t1, t2, t3, t4, t5, t6, t7, t8, t9, t10, t11, t12, l0, l1, h0, h1⟩, q0, q1, q2⟩ := HT.out _ GW
        go_wp2_with fail
        generalize hU : World.setCell (World.setCell _ _ _) _ _ = U
        have BU : Blk U (w.heap.size + 1 + 1 + 1) #[.int .i64 0, .int .i64 0, .int .i64 0, .int .i64 kz.a, .int .i64 kz.b, .int .i64 kz.c, .int .i64 kz.d, .int .i64 kz.e, .int .i64 kz.f] 25 := by rw [← hU]; exact Blk.put9 BZ.out
        have GU : Grew w U := by rw [← hU]; exact Grew.put9 (G0.out.trans GW) (by omega)
        clear hU BZ z0 y0 z1 y1 z2 y2 z3 y3 z4 y4 z5 y5 z6 y6 z7 y7 z8 y8
        have u0 := blkAt BU (i := 0) rfl
        have u1 := blkAt BU (i := 1) rfl
        have u2 := blkAt BU (i := 2) rfl
        have u3 := blkAt BU (i := 3) rfl
        have u4 := blkAt BU (i := 4) rfl
        have u5 := blkAt BU (i := 5) rfl
        have u6 := blkAt BU (i := 6) rfl
        have u7 := blkAt BU (i := 7) rfl
        have u8 := blkAt BU (i := 8) rfl
        refine bodyPost_ret (v := .agg #[.int .i64 0, .int .i64 0, .int .i64 0, .int .i64 kz.a, .int .i64 kz.b, .int .i64 kz.c, .int .i64 kz.d, .int .i64 kz.e, .int .i64 kz.f]) (by simp [results, Tryz.results36, go_sem, u0, u1, u2, u3, u4, u5, u6, u7, u8]) rfl ⟨rfl, GU⟩
end Td
end Go.Proofs.YtpiajdahmcelnaaGreat
