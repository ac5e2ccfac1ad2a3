/-
  The reference: Drift.
-/
import Derived.Test.YtpiajdahmcelnaaGreatMTdZe
import Derived.Test.YtpiajdahmcelnaaGreatMTdZf
import Derived.Test.YtpiajdahmcelnaaGreatMTdL
import Derived.Test.YtpiajdahmcelnaaGreatMHullAro
namespace Go.Proofs.YtpiajdahmcelnaaGreat
open Go.RowKit Hl
namespace Td
set_option maxRecDepth 100000
theorem drl_plcs {k : Bd} {n : Int} (h1 : Plc ((Ca k.a k.b n).1, (Ca k.c k.d n).1)) (h2 : Plc ((Ca k.a k.b n).2, (Ca k.c k.d n).2)) : Plcs (drl k n) := by
  obtain ⟨⟨a0, a1⟩, ⟨a2, a3⟩⟩ := h1
  obtain ⟨⟨b0, b1⟩, ⟨b2, b3⟩⟩ := h2
  simp only at a0 a1 a2 a3 b0 b1 b2 b3
  intro i hi
  have hi4 : i < 4 := hi
  rcases i with _ | _ | _ | _ | i
  · exact ⟨⟨a0, a1⟩, ⟨a2, a3⟩⟩
  · exact ⟨⟨b0, b1⟩, ⟨a2, a3⟩⟩
  · exact ⟨⟨b0, b1⟩, ⟨b2, b3⟩⟩
  · exact ⟨⟨a0, a1⟩, ⟨b2, b3⟩⟩
  · omega
theorem drl_two {k : Bd} {n : Int} (h : Plcs (drl k n)) : Plc ((Ca k.a k.b n).1, (Ca k.c k.d n).1) ∧ Plc ((Ca k.a k.b n).2, (Ca k.c k.d n).2) := ⟨h 0 (show (0 : Nat) < 4 by decide), h 2 (show (2 : Nat) < 4 by decide)⟩
set_option maxHeartbeats 16000000 in
theorem R.drift_no (t : Ed) (u : Value) (lo hi : Pt) (c d : Int) (w : World) (hs : Rs w u t.l) (hl : t.l.length ≤ 9223372036854775807) (hb : ¬ BOk t lo hi c d) :
    Calls Tryz.prog 13 #[tv t u, .agg #[.int .i64 lo.1, .int .i64 lo.2], .agg #[.int .i64 hi.1, .int .i64 hi.2], .int .i64 c, .int .i64 d] w fun e w' => e = .returned (.tuple #[.slice none 0 0, .int .i64 1]) ∧ Grew w w' := by
  obtain ⟨ua, uc, rfl, _⟩ := hs.shape
  have BC : Hid (∀ W, Grew w W → Calls Tryz.prog 11 #[.agg #[.int .i64 t.v, .int .i64 t.z, .int .i64 t.n, .int .i64 t.r.x, .int .i64 t.r.y, .int .i64 t.r.s, .int .i64 t.r.k.a, .int .i64 t.r.k.b, .int .i64 t.r.k.c, .int .i64 t.r.k.d, .int .i64 t.r.k.e, .int .i64 t.r.k.f, .slice ua t.l.length uc], .agg #[.int .i64 lo.1, .int .i64 lo.2], .agg #[.int .i64 hi.1, .int .i64 hi.2], .int .i64 c, .int .i64 d] W fun e w' => e = .returned (.tuple #[.agg #[.int .i64 0, .int .i64 0, .int .i64 0, .int .i64 0, .int .i64 0, .int .i64 0, .int .i64 0, .int .i64 0, .int .i64 0], .int .i64 1]) ∧ Grew W w') := Lib.hid (fun W g => R.bound_no t _ lo hi c d W (hs.grew g) hl hb)
  clear hs hl hb
  unfold tv
  have HT : Hid (∀ W, Grew (((w.alloc (.cells #[.int .i64 t.v, .int .i64 t.z, .int .i64 t.n, .int .i64 t.r.x, .int .i64 t.r.y, .int .i64 t.r.s, .int .i64 t.r.k.a, .int .i64 t.r.k.b, .int .i64 t.r.k.c, .int .i64 t.r.k.d, .int .i64 t.r.k.e, .int .i64 t.r.k.f, .slice ua t.l.length uc] 28)).alloc (.cells #[.int .i64 lo.1, .int .i64 lo.2] 30)).alloc (.cells #[.int .i64 hi.1, .int .i64 hi.2] 30)) W → ((W.cell? ⟨w.heap.size, 0, none⟩ = some (.int .i64 t.v) ∧ W.cell? ⟨w.heap.size, 1, none⟩ = some (.int .i64 t.z) ∧ W.cell? ⟨w.heap.size, 2, none⟩ = some (.int .i64 t.n) ∧ W.cell? ⟨w.heap.size, 3, none⟩ = some (.int .i64 t.r.x) ∧ W.cell? ⟨w.heap.size, 4, none⟩ = some (.int .i64 t.r.y) ∧ W.cell? ⟨w.heap.size, 5, none⟩ = some (.int .i64 t.r.s) ∧ W.cell? ⟨w.heap.size, 6, none⟩ = some (.int .i64 t.r.k.a) ∧ W.cell? ⟨w.heap.size, 7, none⟩ = some (.int .i64 t.r.k.b) ∧ W.cell? ⟨w.heap.size, 8, none⟩ = some (.int .i64 t.r.k.c) ∧ W.cell? ⟨w.heap.size, 9, none⟩ = some (.int .i64 t.r.k.d) ∧ W.cell? ⟨w.heap.size, 10, none⟩ = some (.int .i64 t.r.k.e) ∧ W.cell? ⟨w.heap.size, 11, none⟩ = some (.int .i64 t.r.k.f) ∧ W.cell? ⟨w.heap.size, 12, none⟩ = some (.slice ua t.l.length uc) ∧ W.cell? ⟨w.heap.size + 1, 0, none⟩ = some (.int .i64 lo.1) ∧ W.cell? ⟨w.heap.size + 1, 1, none⟩ = some (.int .i64 lo.2) ∧ W.cell? ⟨w.heap.size + 1 + 1, 0, none⟩ = some (.int .i64 hi.1) ∧ W.cell? ⟨w.heap.size + 1 + 1, 1, none⟩ = some (.int .i64 hi.2)) ∧ w.heap.size < W.heap.size ∧ w.heap.size + 1 < W.heap.size ∧ w.heap.size + 1 + 1 < W.heap.size)) := Lib.hid (fun W g => by
    have b0 := (((Blk.new w #[.int .i64 t.v, .int .i64 t.z, .int .i64 t.n, .int .i64 t.r.x, .int .i64 t.r.y, .int .i64 t.r.s, .int .i64 t.r.k.a, .int .i64 t.r.k.b, .int .i64 t.r.k.c, .int .i64 t.r.k.d, .int .i64 t.r.k.e, .int .i64 t.r.k.f, .slice ua t.l.length uc] 28).alloc (.cells #[.int .i64 lo.1, .int .i64 lo.2] 30)).alloc (.cells #[.int .i64 hi.1, .int .i64 hi.2] 30)).grown g
    have b1 := ((blkN (W := w.alloc (.cells #[.int .i64 t.v, .int .i64 t.z, .int .i64 t.n, .int .i64 t.r.x, .int .i64 t.r.y, .int .i64 t.r.s, .int .i64 t.r.k.a, .int .i64 t.r.k.b, .int .i64 t.r.k.c, .int .i64 t.r.k.d, .int .i64 t.r.k.e, .int .i64 t.r.k.f, .slice ua t.l.length uc] 28)) (k := w.heap.size + 1) (cs := #[.int .i64 lo.1, .int .i64 lo.2]) (t := 30) (by simp)).alloc (.cells #[.int .i64 hi.1, .int .i64 hi.2] 30)).grown g
    have b2 := (blkN (W := (w.alloc (.cells #[.int .i64 t.v, .int .i64 t.z, .int .i64 t.n, .int .i64 t.r.x, .int .i64 t.r.y, .int .i64 t.r.s, .int .i64 t.r.k.a, .int .i64 t.r.k.b, .int .i64 t.r.k.c, .int .i64 t.r.k.d, .int .i64 t.r.k.e, .int .i64 t.r.k.f, .slice ua t.l.length uc] 28)).alloc (.cells #[.int .i64 lo.1, .int .i64 lo.2] 30)) (k := w.heap.size + 1 + 1) (cs := #[.int .i64 hi.1, .int .i64 hi.2]) (t := 30) (by simp)).grown g
    exact ⟨⟨blkAt b0 rfl, blkAt b0 rfl, blkAt b0 rfl, blkAt b0 rfl, blkAt b0 rfl, blkAt b0 rfl, blkAt b0 rfl, blkAt b0 rfl, blkAt b0 rfl, blkAt b0 rfl, blkAt b0 rfl, blkAt b0 rfl, blkAt b0 rfl, blkAt b1 rfl, blkAt b1 rfl, blkAt b2 rfl, blkAt b2 rfl⟩, b0.lt, b1.lt, b2.lt⟩)
  have G0 : Hid (Grew w (((w.alloc (.cells #[.int .i64 t.v, .int .i64 t.z, .int .i64 t.n, .int .i64 t.r.x, .int .i64 t.r.y, .int .i64 t.r.s, .int .i64 t.r.k.a, .int .i64 t.r.k.b, .int .i64 t.r.k.c, .int .i64 t.r.k.d, .int .i64 t.r.k.e, .int .i64 t.r.k.f, .slice ua t.l.length uc] 28)).alloc (.cells #[.int .i64 lo.1, .int .i64 lo.2] 30)).alloc (.cells #[.int .i64 hi.1, .int .i64 hi.2] 30))) := Lib.hid (((Grew.refl w).alloc _ _).alloc _ _ |>.alloc _ _)
  go_enter Tryz.func13, Tryz.ntmps13
  go_wp2_with fail
  obtain ⟨Z, hZ⟩ : ∃ Z, ((w.alloc (.cells #[.int .i64 t.v, .int .i64 t.z, .int .i64 t.n, .int .i64 t.r.x, .int .i64 t.r.y, .int .i64 t.r.s, .int .i64 t.r.k.a, .int .i64 t.r.k.b, .int .i64 t.r.k.c, .int .i64 t.r.k.d, .int .i64 t.r.k.e, .int .i64 t.r.k.f, .slice ua t.l.length uc] 28)).alloc (.cells #[.int .i64 lo.1, .int .i64 lo.2] 30)).alloc (.cells #[.int .i64 hi.1, .int .i64 hi.2] 30) = Z := ⟨_, rfl⟩
  rw [hZ] at HT G0
  try rw [hZ]
  clear hZ
  have GW := Grew.refl Z
  obtain ⟨⟨t0, t1, t2, t3, t4, t5, t6, t7, t8, t9, t10, t11, t12, l0, l1, h0, h1⟩, q0, q1, q2⟩ := HT.out _ GW
  refine (BC.out _ G0.out).mono ?_
  rintro e w1 ⟨rfl, g1⟩
  have GW := GW.trans g1
  clear g1
  clear t0 t1 t2 t3 t4 t5 t6 t7 t8 t9 t10 t11 t12 l0 l1 h0 h1 q0 q1 q2
  obtain ⟨⟨t0, t1, t2, t3, t4, t5, t6, t7, t8, t9, t10, t11, t12, l0, l1, h0, h1⟩, q0, q1, q2⟩ := HT.out _ GW
  clear BC
  go_wp2_with fail
  go_ret2
  exact ⟨rfl, G0.out.trans (by (repeat' (first | (with_reducible exact Grew.refl _) | (with_reducible assumption) | (with_reducible refine Grew.alloc ?_ _ _) | (with_reducible refine Grew.drew ?_) | (with_reducible refine Grew.drewN ?_ _) | (with_reducible refine Grew.setCell ?_ ?_ _) | go_size)))⟩
set_option maxHeartbeats 16000000 in
theorem R.drift_far (t : Ed) (u : Value) (lo hi : Pt) (c d : Int) (w : World) (hs : Rs w u t.l) (hl : t.l.length ≤ 9223372036854775807) (hb : BOk t lo hi c d) (hf : 100000 < d - c) :
    Calls Tryz.prog 13 #[tv t u, .agg #[.int .i64 lo.1, .int .i64 lo.2], .agg #[.int .i64 hi.1, .int .i64 hi.2], .int .i64 c, .int .i64 d] w fun e w' => e = .returned (.tuple #[.slice none 0 0, .int .i64 1]) ∧ Grew w w' := by
  obtain ⟨ua, uc, rfl, _⟩ := hs.shape
  have BC : Hid (∀ W, Grew w W → Calls Tryz.prog 11 #[.agg #[.int .i64 t.v, .int .i64 t.z, .int .i64 t.n, .int .i64 t.r.x, .int .i64 t.r.y, .int .i64 t.r.s, .int .i64 t.r.k.a, .int .i64 t.r.k.b, .int .i64 t.r.k.c, .int .i64 t.r.k.d, .int .i64 t.r.k.e, .int .i64 t.r.k.f, .slice ua t.l.length uc], .agg #[.int .i64 lo.1, .int .i64 lo.2], .agg #[.int .i64 hi.1, .int .i64 hi.2], .int .i64 c, .int .i64 d] W fun e w' => e = .returned (.tuple #[.agg #[.int .i64 0, .int .i64 0, .int .i64 0, .int .i64 (OvB t lo hi c d).a, .int .i64 (OvB t lo hi c d).b, .int .i64 (OvB t lo hi c d).c, .int .i64 (OvB t lo hi c d).d, .int .i64 (OvB t lo hi c d).e, .int .i64 (OvB t lo hi c d).f], .int .i64 0]) ∧ Grew W w') := Lib.hid (fun W g => R.bound_yes t _ lo hi c d W (hs.grew g) hl hb)
  have hS := Ov_bok hb.1 (x0 := bk lo.1) (x1 := bk hi.1) (y0 := bk lo.2) (y1 := bk hi.2) (s0 := sl t.z c) (s1 := sl t.z d) (few_of hb.1 hb.2.1 hb.2.2).2.2.2.1 (few_of hb.1 hb.2.1 hb.2.2).2.1.2.1 (few_of hb.1 hb.2.1 hb.2.2).1.2.1
  change Bok (OvB t lo hi c d) at hS
  obtain ⟨c0, c1, c2⟩ : 0 ≤ c ∧ c ≤ d ∧ d ≤ 1000000000 := hb.2.2
  generalize OvB t lo hi c d = k at *
  clear hs hl hb hS
  unfold tv
  have HT : Hid (∀ W, Grew (((w.alloc (.cells #[.int .i64 t.v, .int .i64 t.z, .int .i64 t.n, .int .i64 t.r.x, .int .i64 t.r.y, .int .i64 t.r.s, .int .i64 t.r.k.a, .int .i64 t.r.k.b, .int .i64 t.r.k.c, .int .i64 t.r.k.d, .int .i64 t.r.k.e, .int .i64 t.r.k.f, .slice ua t.l.length uc] 28)).alloc (.cells #[.int .i64 lo.1, .int .i64 lo.2] 30)).alloc (.cells #[.int .i64 hi.1, .int .i64 hi.2] 30)) W → ((W.cell? ⟨w.heap.size, 0, none⟩ = some (.int .i64 t.v) ∧ W.cell? ⟨w.heap.size, 1, none⟩ = some (.int .i64 t.z) ∧ W.cell? ⟨w.heap.size, 2, none⟩ = some (.int .i64 t.n) ∧ W.cell? ⟨w.heap.size, 3, none⟩ = some (.int .i64 t.r.x) ∧ W.cell? ⟨w.heap.size, 4, none⟩ = some (.int .i64 t.r.y) ∧ W.cell? ⟨w.heap.size, 5, none⟩ = some (.int .i64 t.r.s) ∧ W.cell? ⟨w.heap.size, 6, none⟩ = some (.int .i64 t.r.k.a) ∧ W.cell? ⟨w.heap.size, 7, none⟩ = some (.int .i64 t.r.k.b) ∧ W.cell? ⟨w.heap.size, 8, none⟩ = some (.int .i64 t.r.k.c) ∧ W.cell? ⟨w.heap.size, 9, none⟩ = some (.int .i64 t.r.k.d) ∧ W.cell? ⟨w.heap.size, 10, none⟩ = some (.int .i64 t.r.k.e) ∧ W.cell? ⟨w.heap.size, 11, none⟩ = some (.int .i64 t.r.k.f) ∧ W.cell? ⟨w.heap.size, 12, none⟩ = some (.slice ua t.l.length uc) ∧ W.cell? ⟨w.heap.size + 1, 0, none⟩ = some (.int .i64 lo.1) ∧ W.cell? ⟨w.heap.size + 1, 1, none⟩ = some (.int .i64 lo.2) ∧ W.cell? ⟨w.heap.size + 1 + 1, 0, none⟩ = some (.int .i64 hi.1) ∧ W.cell? ⟨w.heap.size + 1 + 1, 1, none⟩ = some (.int .i64 hi.2)) ∧ w.heap.size < W.heap.size ∧ w.heap.size + 1 < W.heap.size ∧ w.heap.size + 1 + 1 < W.heap.size)) := Lib.hid (fun W g => by
    have b0 := (((Blk.new w #[.int .i64 t.v, .int .i64 t.z, .int .i64 t.n, .int .i64 t.r.x, .int .i64 t.r.y, .int .i64 t.r.s, .int .i64 t.r.k.a, .int .i64 t.r.k.b, .int .i64 t.r.k.c, .int .i64 t.r.k.d, .int .i64 t.r.k.e, .int .i64 t.r.k.f, .slice ua t.l.length uc] 28).alloc (.cells #[.int .i64 lo.1, .int .i64 lo.2] 30)).alloc (.cells #[.int .i64 hi.1, .int .i64 hi.2] 30)).grown g
    have b1 := ((blkN (W := w.alloc (.cells #[.int .i64 t.v, .int .i64 t.z, .int .i64 t.n, .int .i64 t.r.x, .int .i64 t.r.y, .int .i64 t.r.s, .int .i64 t.r.k.a, .int .i64 t.r.k.b, .int .i64 t.r.k.c, .int .i64 t.r.k.d, .int .i64 t.r.k.e, .int .i64 t.r.k.f, .slice ua t.l.length uc] 28)) (k := w.heap.size + 1) (cs := #[.int .i64 lo.1, .int .i64 lo.2]) (t := 30) (by simp)).alloc (.cells #[.int .i64 hi.1, .int .i64 hi.2] 30)).grown g
    have b2 := (blkN (W := (w.alloc (.cells #[.int .i64 t.v, .int .i64 t.z, .int .i64 t.n, .int .i64 t.r.x, .int .i64 t.r.y, .int .i64 t.r.s, .int .i64 t.r.k.a, .int .i64 t.r.k.b, .int .i64 t.r.k.c, .int .i64 t.r.k.d, .int .i64 t.r.k.e, .int .i64 t.r.k.f, .slice ua t.l.length uc] 28)).alloc (.cells #[.int .i64 lo.1, .int .i64 lo.2] 30)) (k := w.heap.size + 1 + 1) (cs := #[.int .i64 hi.1, .int .i64 hi.2]) (t := 30) (by simp)).grown g
    exact ⟨⟨blkAt b0 rfl, blkAt b0 rfl, blkAt b0 rfl, blkAt b0 rfl, blkAt b0 rfl, blkAt b0 rfl, blkAt b0 rfl, blkAt b0 rfl, blkAt b0 rfl, blkAt b0 rfl, blkAt b0 rfl, blkAt b0 rfl, blkAt b0 rfl, blkAt b1 rfl, blkAt b1 rfl, blkAt b2 rfl, blkAt b2 rfl⟩, b0.lt, b1.lt, b2.lt⟩)
  have G0 : Hid (Grew w (((w.alloc (.cells #[.int .i64 t.v, .int .i64 t.z, .int .i64 t.n, .int .i64 t.r.x, .int .i64 t.r.y, .int .i64 t.r.s, .int .i64 t.r.k.a, .int .i64 t.r.k.b, .int .i64 t.r.k.c, .int .i64 t.r.k.d, .int .i64 t.r.k.e, .int .i64 t.r.k.f, .slice ua t.l.length uc] 28)).alloc (.cells #[.int .i64 lo.1, .int .i64 lo.2] 30)).alloc (.cells #[.int .i64 hi.1, .int .i64 hi.2] 30))) := Lib.hid (((Grew.refl w).alloc _ _).alloc _ _ |>.alloc _ _)
  go_enter Tryz.func13, Tryz.ntmps13
  go_wp2_with fail
  obtain ⟨Z, hZ⟩ : ∃ Z, ((w.alloc (.cells #[.int .i64 t.v, .int .i64 t.z, .int .i64 t.n, .int .i64 t.r.x, .int .i64 t.r.y, .int .i64 t.r.s, .int .i64 t.r.k.a, .int .i64 t.r.k.b, .int .i64 t.r.k.c, .int .i64 t.r.k.d, .int .i64 t.r.k.e, .int .i64 t.r.k.f, .slice ua t.l.length uc] 28)).alloc (.cells #[.int .i64 lo.1, .int .i64 lo.2] 30)).alloc (.cells #[.int .i64 hi.1, .int .i64 hi.2] 30) = Z := ⟨_, rfl⟩
  rw [hZ] at HT G0
  try rw [hZ]
  clear hZ
  have GW := Grew.refl Z
  obtain ⟨⟨t0, t1, t2, t3, t4, t5, t6, t7, t8, t9, t10, t11, t12, l0, l1, h0, h1⟩, q0, q1, q2⟩ := HT.out _ GW
  refine (BC.out _ G0.out).mono ?_
  rintro e w1 ⟨rfl, g1⟩
  have GW := GW.trans g1
  clear g1
  clear t0 t1 t2 t3 t4 t5 t6 t7 t8 t9 t10 t11 t12 l0 l1 h0 h1 q0 q1 q2
  obtain ⟨⟨t0, t1, t2, t3, t4, t5, t6, t7, t8, t9, t10, t11, t12, l0, l1, h0, h1⟩, q0, q1, q2⟩ := HT.out _ GW
  clear BC
  go_wp2_with fail
  go_ret2
  exact ⟨rfl, G0.out.trans (by (repeat' (first | (with_reducible exact Grew.refl _) | (with_reducible assumption) | (with_reducible refine Grew.alloc ?_ _ _) | (with_reducible refine Grew.drew ?_) | (with_reducible refine Grew.drewN ?_ _) | (with_reducible refine Grew.setCell ?_ ?_ _) | go_size)))⟩
set_option maxHeartbeats 16000000 in
theorem R.drift_rng (t : Ed) (u : Value) (lo hi : Pt) (c d : Int) (w : World) (hs : Rs w u t.l) (hl : t.l.length ≤ 9223372036854775807) (hb : BOk t lo hi c d) (hf : d - c ≤ 100000) (hp : ¬ Plcs (drl (OvB t lo hi c d) (d - c))) :
    Calls Tryz.prog 13 #[tv t u, .agg #[.int .i64 lo.1, .int .i64 lo.2], .agg #[.int .i64 hi.1, .int .i64 hi.2], .int .i64 c, .int .i64 d] w fun e w' => e = .returned (.tuple #[.slice none 0 0, .int .i64 3]) ∧ Grew w w' := by
  obtain ⟨ua, uc, rfl, _⟩ := hs.shape
  have BC : Hid (∀ W, Grew w W → Calls Tryz.prog 11 #[.agg #[.int .i64 t.v, .int .i64 t.z, .int .i64 t.n, .int .i64 t.r.x, .int .i64 t.r.y, .int .i64 t.r.s, .int .i64 t.r.k.a, .int .i64 t.r.k.b, .int .i64 t.r.k.c, .int .i64 t.r.k.d, .int .i64 t.r.k.e, .int .i64 t.r.k.f, .slice ua t.l.length uc], .agg #[.int .i64 lo.1, .int .i64 lo.2], .agg #[.int .i64 hi.1, .int .i64 hi.2], .int .i64 c, .int .i64 d] W fun e w' => e = .returned (.tuple #[.agg #[.int .i64 0, .int .i64 0, .int .i64 0, .int .i64 (OvB t lo hi c d).a, .int .i64 (OvB t lo hi c d).b, .int .i64 (OvB t lo hi c d).c, .int .i64 (OvB t lo hi c d).d, .int .i64 (OvB t lo hi c d).e, .int .i64 (OvB t lo hi c d).f], .int .i64 0]) ∧ Grew W w') := Lib.hid (fun W g => R.bound_yes t _ lo hi c d W (hs.grew g) hl hb)
  have hS := Ov_bok hb.1 (x0 := bk lo.1) (x1 := bk hi.1) (y0 := bk lo.2) (y1 := bk hi.2) (s0 := sl t.z c) (s1 := sl t.z d) (few_of hb.1 hb.2.1 hb.2.2).2.2.2.1 (few_of hb.1 hb.2.1 hb.2.2).2.1.2.1 (few_of hb.1 hb.2.1 hb.2.2).1.2.1
  change Bok (OvB t lo hi c d) at hS
  obtain ⟨c0, c1, c2⟩ : 0 ≤ c ∧ c ≤ d ∧ d ≤ 1000000000 := hb.2.2
  generalize OvB t lo hi c d = k at *
  have CC : Hid (∀ W, Calls Tryz.prog 39 #[.agg #[.int .i64 0, .int .i64 0, .int .i64 0, .int .i64 k.a, .int .i64 k.b, .int .i64 k.c, .int .i64 k.d, .int .i64 k.e, .int .i64 k.f], .int .i64 (d - c)] W fun e w' => e = .returned (.tuple #[.agg #[.int .i64 (Ca k.a k.b (d - c)).1, .int .i64 (Ca k.c k.d (d - c)).1], .agg #[.int .i64 (Ca k.a k.b (d - c)).2, .int .i64 (Ca k.c k.d (d - c)).2]]) ∧ Grew W w') := Lib.hid (fun W => R.carried_c k (d - c) W hS ⟨by omega, by omega⟩)
  have P1 : Hid (∀ W, Calls Tryz.prog 19 #[.agg #[.int .i64 (Ca k.a k.b (d - c)).1, .int .i64 (Ca k.c k.d (d - c)).1]] W fun e w' => e = .returned (.bool (decide (Plc ((Ca k.a k.b (d - c)).1, (Ca k.c k.d (d - c)).1)))) ∧ Grew W w') := Lib.hid (fun W => place_b ((Ca k.a k.b (d - c)).1, (Ca k.c k.d (d - c)).1) W)
  have P2 : Hid (∀ W, Calls Tryz.prog 19 #[.agg #[.int .i64 (Ca k.a k.b (d - c)).2, .int .i64 (Ca k.c k.d (d - c)).2]] W fun e w' => e = .returned (.bool (decide (Plc ((Ca k.a k.b (d - c)).2, (Ca k.c k.d (d - c)).2)))) ∧ Grew W w') := Lib.hid (fun W => place_b ((Ca k.a k.b (d - c)).2, (Ca k.c k.d (d - c)).2) W)
  have hn : ¬ (Plc ((Ca k.a k.b (d - c)).1, (Ca k.c k.d (d - c)).1) ∧ Plc ((Ca k.a k.b (d - c)).2, (Ca k.c k.d (d - c)).2)) := fun h => hp (drl_plcs h.1 h.2)
  generalize e1 : decide (Plc ((Ca k.a k.b (d - c)).1, (Ca k.c k.d (d - c)).1)) = p1 at P1
  generalize e2 : decide (Plc ((Ca k.a k.b (d - c)).2, (Ca k.c k.d (d - c)).2)) = p2 at P2
  have HN : Hid (¬ (p1 = true ∧ p2 = true)) := Lib.hid (fun h => hn ⟨of_decide_eq_true (e1.trans h.1), of_decide_eq_true (e2.trans h.2)⟩)
  clear e1 e2 hn hp
  generalize (Ca k.a k.b (d - c)).1 = x1 at *
  generalize (Ca k.c k.d (d - c)).1 = y1 at *
  generalize (Ca k.a k.b (d - c)).2 = x2 at *
  generalize (Ca k.c k.d (d - c)).2 = y2 at *
  clear hs hl hb hS
  unfold tv
  have HT : Hid (∀ W, Grew (((w.alloc (.cells #[.int .i64 t.v, .int .i64 t.z, .int .i64 t.n, .int .i64 t.r.x, .int .i64 t.r.y, .int .i64 t.r.s, .int .i64 t.r.k.a, .int .i64 t.r.k.b, .int .i64 t.r.k.c, .int .i64 t.r.k.d, .int .i64 t.r.k.e, .int .i64 t.r.k.f, .slice ua t.l.length uc] 28)).alloc (.cells #[.int .i64 lo.1, .int .i64 lo.2] 30)).alloc (.cells #[.int .i64 hi.1, .int .i64 hi.2] 30)) W → ((W.cell? ⟨w.heap.size, 0, none⟩ = some (.int .i64 t.v) ∧ W.cell? ⟨w.heap.size, 1, none⟩ = some (.int .i64 t.z) ∧ W.cell? ⟨w.heap.size, 2, none⟩ = some (.int .i64 t.n) ∧ W.cell? ⟨w.heap.size, 3, none⟩ = some (.int .i64 t.r.x) ∧ W.cell? ⟨w.heap.size, 4, none⟩ = some (.int .i64 t.r.y) ∧ W.cell? ⟨w.heap.size, 5, none⟩ = some (.int .i64 t.r.s) ∧ W.cell? ⟨w.heap.size, 6, none⟩ = some (.int .i64 t.r.k.a) ∧ W.cell? ⟨w.heap.size, 7, none⟩ = some (.int .i64 t.r.k.b) ∧ W.cell? ⟨w.heap.size, 8, none⟩ = some (.int .i64 t.r.k.c) ∧ W.cell? ⟨w.heap.size, 9, none⟩ = some (.int .i64 t.r.k.d) ∧ W.cell? ⟨w.heap.size, 10, none⟩ = some (.int .i64 t.r.k.e) ∧ W.cell? ⟨w.heap.size, 11, none⟩ = some (.int .i64 t.r.k.f) ∧ W.cell? ⟨w.heap.size, 12, none⟩ = some (.slice ua t.l.length uc) ∧ W.cell? ⟨w.heap.size + 1, 0, none⟩ = some (.int .i64 lo.1) ∧ W.cell? ⟨w.heap.size + 1, 1, none⟩ = some (.int .i64 lo.2) ∧ W.cell? ⟨w.heap.size + 1 + 1, 0, none⟩ = some (.int .i64 hi.1) ∧ W.cell? ⟨w.heap.size + 1 + 1, 1, none⟩ = some (.int .i64 hi.2)) ∧ w.heap.size < W.heap.size ∧ w.heap.size + 1 < W.heap.size ∧ w.heap.size + 1 + 1 < W.heap.size)) := Lib.hid (fun W g => by
    have b0 := (((Blk.new w #[.int .i64 t.v, .int .i64 t.z, .int .i64 t.n, .int .i64 t.r.x, .int .i64 t.r.y, .int .i64 t.r.s, .int .i64 t.r.k.a, .int .i64 t.r.k.b, .int .i64 t.r.k.c, .int .i64 t.r.k.d, .int .i64 t.r.k.e, .int .i64 t.r.k.f, .slice ua t.l.length uc] 28).alloc (.cells #[.int .i64 lo.1, .int .i64 lo.2] 30)).alloc (.cells #[.int .i64 hi.1, .int .i64 hi.2] 30)).grown g
    have b1 := ((blkN (W := w.alloc (.cells #[.int .i64 t.v, .int .i64 t.z, .int .i64 t.n, .int .i64 t.r.x, .int .i64 t.r.y, .int .i64 t.r.s, .int .i64 t.r.k.a, .int .i64 t.r.k.b, .int .i64 t.r.k.c, .int .i64 t.r.k.d, .int .i64 t.r.k.e, .int .i64 t.r.k.f, .slice ua t.l.length uc] 28)) (k := w.heap.size + 1) (cs := #[.int .i64 lo.1, .int .i64 lo.2]) (t := 30) (by simp)).alloc (.cells #[.int .i64 hi.1, .int .i64 hi.2] 30)).grown g
    have b2 := (blkN (W := (w.alloc (.cells #[.int .i64 t.v, .int .i64 t.z, .int .i64 t.n, .int .i64 t.r.x, .int .i64 t.r.y, .int .i64 t.r.s, .int .i64 t.r.k.a, .int .i64 t.r.k.b, .int .i64 t.r.k.c, .int .i64 t.r.k.d, .int .i64 t.r.k.e, .int .i64 t.r.k.f, .slice ua t.l.length uc] 28)).alloc (.cells #[.int .i64 lo.1, .int .i64 lo.2] 30)) (k := w.heap.size + 1 + 1) (cs := #[.int .i64 hi.1, .int .i64 hi.2]) (t := 30) (by simp)).grown g
    exact ⟨⟨blkAt b0 rfl, blkAt b0 rfl, blkAt b0 rfl, blkAt b0 rfl, blkAt b0 rfl, blkAt b0 rfl, blkAt b0 rfl, blkAt b0 rfl, blkAt b0 rfl, blkAt b0 rfl, blkAt b0 rfl, blkAt b0 rfl, blkAt b0 rfl, blkAt b1 rfl, blkAt b1 rfl, blkAt b2 rfl, blkAt b2 rfl⟩, b0.lt, b1.lt, b2.lt⟩)
  have G0 : Hid (Grew w (((w.alloc (.cells #[.int .i64 t.v, .int .i64 t.z, .int .i64 t.n, .int .i64 t.r.x, .int .i64 t.r.y, .int .i64 t.r.s, .int .i64 t.r.k.a, .int .i64 t.r.k.b, .int .i64 t.r.k.c, .int .i64 t.r.k.d, .int .i64 t.r.k.e, .int .i64 t.r.k.f, .slice ua t.l.length uc] 28)).alloc (.cells #[.int .i64 lo.1, .int .i64 lo.2] 30)).alloc (.cells #[.int .i64 hi.1, .int .i64 hi.2] 30))) := Lib.hid (((Grew.refl w).alloc _ _).alloc _ _ |>.alloc _ _)
  go_enter Tryz.func13, Tryz.ntmps13
  go_wp2_with fail
  obtain ⟨Z, hZ⟩ : ∃ Z, ((w.alloc (.cells #[.int .i64 t.v, .int .i64 t.z, .int .i64 t.n, .int .i64 t.r.x, .int .i64 t.r.y, .int .i64 t.r.s, .int .i64 t.r.k.a, .int .i64 t.r.k.b, .int .i64 t.r.k.c, .int .i64 t.r.k.d, .int .i64 t.r.k.e, .int .i64 t.r.k.f, .slice ua t.l.length uc] 28)).alloc (.cells #[.int .i64 lo.1, .int .i64 lo.2] 30)).alloc (.cells #[.int .i64 hi.1, .int .i64 hi.2] 30) = Z := ⟨_, rfl⟩
  rw [hZ] at HT G0
  try rw [hZ]
  clear hZ
  have GW := Grew.refl Z
  obtain ⟨⟨t0, t1, t2, t3, t4, t5, t6, t7, t8, t9, t10, t11, t12, l0, l1, h0, h1⟩, q0, q1, q2⟩ := HT.out _ GW
  refine (BC.out _ G0.out).mono ?_
  rintro e w1 ⟨rfl, g1⟩
  have GW := GW.trans g1
  clear g1
  clear t0 t1 t2 t3 t4 t5 t6 t7 t8 t9 t10 t11 t12 l0 l1 h0 h1 q0 q1 q2
  obtain ⟨⟨t0, t1, t2, t3, t4, t5, t6, t7, t8, t9, t10, t11, t12, l0, l1, h0, h1⟩, q0, q1, q2⟩ := HT.out _ GW
  clear BC
  go_wp2_with fail
  obtain ⟨w2, hw⟩ : ∃ W, w1.alloc (.cells #[.int .i64 0, .int .i64 0, .int .i64 0, .int .i64 k.a, .int .i64 k.b, .int .i64 k.c, .int .i64 k.d, .int .i64 k.e, .int .i64 k.f] 25) = W := ⟨_, rfl⟩
  have A1 : Hid (Blk w2 w1.heap.size #[.int .i64 0, .int .i64 0, .int .i64 0, .int .i64 k.a, .int .i64 k.b, .int .i64 k.c, .int .i64 k.d, .int .i64 k.e, .int .i64 k.f] 25) := Lib.hid (by rw [← hw]; exact Blk.new _ _ _)
  have GW : Grew Z w2 := GW.trans (by rw [← hw]; exact (Grew.refl _).alloc _ _)
  try rw [hw]
  clear hw
  clear t0 t1 t2 t3 t4 t5 t6 t7 t8 t9 t10 t11 t12 l0 l1 h0 h1 q0 q1 q2
  obtain ⟨⟨t0, t1, t2, t3, t4, t5, t6, t7, t8, t9, t10, t11, t12, l0, l1, h0, h1⟩, q0, q1, q2⟩ := HT.out _ GW
  have pb := A1.out.lt
  have p0 := blkAt A1.out (i := 0) rfl
  have p1 := blkAt A1.out (i := 1) rfl
  have p2 := blkAt A1.out (i := 2) rfl
  have p3 := blkAt A1.out (i := 3) rfl
  have p4 := blkAt A1.out (i := 4) rfl
  have p5 := blkAt A1.out (i := 5) rfl
  have p6 := blkAt A1.out (i := 6) rfl
  have p7 := blkAt A1.out (i := 7) rfl
  have p8 := blkAt A1.out (i := 8) rfl
  refine (CC.out _).mono ?_
  rintro e w3 ⟨rfl, g3⟩
  have GW := GW.trans g3
  have lw := GW.size
  clear g3 A1 CC pb p0 p1 p2 p3 p4 p5 p6 p7 p8
  clear t0 t1 t2 t3 t4 t5 t6 t7 t8 t9 t10 t11 t12 l0 l1 h0 h1 q0 q1 q2
  go_wp2_with fail
  obtain ⟨w4, hw⟩ : ∃ W, (w3.alloc (.cells #[.int .i64 x1, .int .i64 y1] 30)).alloc (.cells #[.int .i64 x2, .int .i64 y2] 30) = W := ⟨_, rfl⟩
  have BA : Hid (Blk w4 w3.heap.size #[.int .i64 x1, .int .i64 y1] 30) := Lib.hid (by rw [← hw]; exact (Blk.new _ _ _).alloc _)
  have BB : Hid (Blk w4 (w3.heap.size + 1) #[.int .i64 x2, .int .i64 y2] 30) := Lib.hid (by rw [← hw]; exact blkN (by simp))
  have GW : Grew Z w4 := GW.trans (by rw [← hw]; exact ((Grew.refl _).alloc _ _).alloc _ _)
  try rw [hw]
  clear hw lw
  have ab := BA.out.lt
  have bb := BB.out.lt
  have a0 := blkAt BA.out (i := 0) rfl
  have a1 := blkAt BA.out (i := 1) rfl
  have b0 := blkAt BB.out (i := 0) rfl
  have b1 := blkAt BB.out (i := 1) rfl
  refine (P1.out _).mono ?_
  rintro e w5 ⟨rfl, g5⟩
  have GW := GW.trans g5
  have BA := Lib.hid (BA.out.grown g5)
  have BB := Lib.hid (BB.out.grown g5)
  clear g5
  clear ab bb a0 a1 b0 b1
  have ab := BA.out.lt
  have bb := BB.out.lt
  have a0 := blkAt BA.out (i := 0) rfl
  have a1 := blkAt BA.out (i := 1) rfl
  have b0 := blkAt BB.out (i := 0) rfl
  have b1 := blkAt BB.out (i := 1) rfl
  go_wp2_with fail
  refine (P2.out _).mono ?_
  rintro e w6 ⟨rfl, g6⟩
  have GW := GW.trans g6
  have BA := Lib.hid (BA.out.grown g6)
  have BB := Lib.hid (BB.out.grown g6)
  clear g6
  clear ab bb a0 a1 b0 b1
  have ab := BA.out.lt
  have bb := BB.out.lt
  have a0 := blkAt BA.out (i := 0) rfl
  have a1 := blkAt BA.out (i := 1) rfl
  have b0 := blkAt BB.out (i := 0) rfl
  have b1 := blkAt BB.out (i := 1) rfl
  cases p1
  · go_wp2_with fail
    go_ret2
    exact ⟨rfl, G0.out.trans (by (repeat' (first | (with_reducible exact Grew.refl _) | (with_reducible assumption) | (with_reducible refine Grew.alloc ?_ _ _) | (with_reducible refine Grew.drew ?_) | (with_reducible refine Grew.drewN ?_ _) | (with_reducible refine Grew.setCell ?_ ?_ _) | go_size)))⟩
  · cases p2
    · go_wp2_with fail
      go_ret2
      exact ⟨rfl, G0.out.trans (by (repeat' (first | (with_reducible exact Grew.refl _) | (with_reducible assumption) | (with_reducible refine Grew.alloc ?_ _ _) | (with_reducible refine Grew.drew ?_) | (with_reducible refine Grew.drewN ?_ _) | (with_reducible refine Grew.setCell ?_ ?_ _) | go_size)))⟩
    · exact absurd ⟨rfl, rfl⟩ HN.out
set_option maxHeartbeats 16000000 in
theorem R.drift_yes (t : Ed) (u : Value) (lo hi : Pt) (c d : Int) (w : World) (hs : Rs w u t.l) (hl : t.l.length ≤ 9223372036854775807) (hb : BOk t lo hi c d) (hf : d - c ≤ 100000) (hp : Plcs (drl (OvB t lo hi c d) (d - c))) :
    Calls Tryz.prog 13 #[tv t u, .agg #[.int .i64 lo.1, .int .i64 lo.2], .agg #[.int .i64 hi.1, .int .i64 hi.2], .int .i64 c, .int .i64 d] w fun e w' => ∃ q v, IsHull (drl (OvB t lo hi c d) (d - c)) q ∧ e = .returned (.tuple #[v, .int .i64 0]) ∧ Sl w' v q ∧ Grew w w' := by
  obtain ⟨ua, uc, rfl, _⟩ := hs.shape
  have BC : Hid (∀ W, Grew w W → Calls Tryz.prog 11 #[.agg #[.int .i64 t.v, .int .i64 t.z, .int .i64 t.n, .int .i64 t.r.x, .int .i64 t.r.y, .int .i64 t.r.s, .int .i64 t.r.k.a, .int .i64 t.r.k.b, .int .i64 t.r.k.c, .int .i64 t.r.k.d, .int .i64 t.r.k.e, .int .i64 t.r.k.f, .slice ua t.l.length uc], .agg #[.int .i64 lo.1, .int .i64 lo.2], .agg #[.int .i64 hi.1, .int .i64 hi.2], .int .i64 c, .int .i64 d] W fun e w' => e = .returned (.tuple #[.agg #[.int .i64 0, .int .i64 0, .int .i64 0, .int .i64 (OvB t lo hi c d).a, .int .i64 (OvB t lo hi c d).b, .int .i64 (OvB t lo hi c d).c, .int .i64 (OvB t lo hi c d).d, .int .i64 (OvB t lo hi c d).e, .int .i64 (OvB t lo hi c d).f], .int .i64 0]) ∧ Grew W w') := Lib.hid (fun W g => R.bound_yes t _ lo hi c d W (hs.grew g) hl hb)
  have hS := Ov_bok hb.1 (x0 := bk lo.1) (x1 := bk hi.1) (y0 := bk lo.2) (y1 := bk hi.2) (s0 := sl t.z c) (s1 := sl t.z d) (few_of hb.1 hb.2.1 hb.2.2).2.2.2.1 (few_of hb.1 hb.2.1 hb.2.2).2.1.2.1 (few_of hb.1 hb.2.1 hb.2.2).1.2.1
  change Bok (OvB t lo hi c d) at hS
  obtain ⟨c0, c1, c2⟩ : 0 ≤ c ∧ c ≤ d ∧ d ≤ 1000000000 := hb.2.2
  generalize OvB t lo hi c d = k at *
  have CC : Hid (∀ W, Calls Tryz.prog 39 #[.agg #[.int .i64 0, .int .i64 0, .int .i64 0, .int .i64 k.a, .int .i64 k.b, .int .i64 k.c, .int .i64 k.d, .int .i64 k.e, .int .i64 k.f], .int .i64 (d - c)] W fun e w' => e = .returned (.tuple #[.agg #[.int .i64 (Ca k.a k.b (d - c)).1, .int .i64 (Ca k.c k.d (d - c)).1], .agg #[.int .i64 (Ca k.a k.b (d - c)).2, .int .i64 (Ca k.c k.d (d - c)).2]]) ∧ Grew W w') := Lib.hid (fun W => R.carried_c k (d - c) W hS ⟨by omega, by omega⟩)
  have P1 : Hid (∀ W, Calls Tryz.prog 19 #[.agg #[.int .i64 (Ca k.a k.b (d - c)).1, .int .i64 (Ca k.c k.d (d - c)).1]] W fun e w' => e = .returned (.bool (decide (Plc ((Ca k.a k.b (d - c)).1, (Ca k.c k.d (d - c)).1)))) ∧ Grew W w') := Lib.hid (fun W => place_b ((Ca k.a k.b (d - c)).1, (Ca k.c k.d (d - c)).1) W)
  have P2 : Hid (∀ W, Calls Tryz.prog 19 #[.agg #[.int .i64 (Ca k.a k.b (d - c)).2, .int .i64 (Ca k.c k.d (d - c)).2]] W fun e w' => e = .returned (.bool (decide (Plc ((Ca k.a k.b (d - c)).2, (Ca k.c k.d (d - c)).2)))) ∧ Grew W w') := Lib.hid (fun W => place_b ((Ca k.a k.b (d - c)).2, (Ca k.c k.d (d - c)).2) W)
  have hpp := drl_two hp
  rw [decide_eq_true hpp.1] at P1
  rw [decide_eq_true hpp.2] at P2
  have AR : Hid (∀ (W : World) (b : Nat), Hl.Row W b 0 (drl k (d - c)) → Calls Tryz.prog 40 #[.slice (some ⟨b, 0, none⟩) 4 4] W (AroundSays (drl k (d - c)) W)) := Lib.hid (fun W b h => around_any (drl k (d - c)) b 0 4 W h (show (1 : Nat) ≤ 4 by decide) (show (4 : Nat) ≤ 4000000 by decide) hp)
  clear hpp hp
  have RN : Hid (∀ (W : World), Hl.Row (W.alloc (.cells #[.int .i64 (Ca k.a k.b (d - c)).1, .int .i64 (Ca k.c k.d (d - c)).1, .int .i64 (Ca k.a k.b (d - c)).2, .int .i64 (Ca k.c k.d (d - c)).1, .int .i64 (Ca k.a k.b (d - c)).2, .int .i64 (Ca k.c k.d (d - c)).2, .int .i64 (Ca k.a k.b (d - c)).1, .int .i64 (Ca k.c k.d (d - c)).2] 30)) W.heap.size 0 (drl k (d - c))) := Lib.hid (fun W => row_new (drl k (d - c)) _ rfl W _)
  generalize drl k (d - c) = L at *
  generalize (Ca k.a k.b (d - c)).1 = x1 at *
  generalize (Ca k.c k.d (d - c)).1 = y1 at *
  generalize (Ca k.a k.b (d - c)).2 = x2 at *
  generalize (Ca k.c k.d (d - c)).2 = y2 at *
  clear hs hl hb hS
  unfold tv
  have HT : Hid (∀ W, Grew (((w.alloc (.cells #[.int .i64 t.v, .int .i64 t.z, .int .i64 t.n, .int .i64 t.r.x, .int .i64 t.r.y, .int .i64 t.r.s, .int .i64 t.r.k.a, .int .i64 t.r.k.b, .int .i64 t.r.k.c, .int .i64 t.r.k.d, .int .i64 t.r.k.e, .int .i64 t.r.k.f, .slice ua t.l.length uc] 28)).alloc (.cells #[.int .i64 lo.1, .int .i64 lo.2] 30)).alloc (.cells #[.int .i64 hi.1, .int .i64 hi.2] 30)) W → ((W.cell? ⟨w.heap.size, 0, none⟩ = some (.int .i64 t.v) ∧ W.cell? ⟨w.heap.size, 1, none⟩ = some (.int .i64 t.z) ∧ W.cell? ⟨w.heap.size, 2, none⟩ = some (.int .i64 t.n) ∧ W.cell? ⟨w.heap.size, 3, none⟩ = some (.int .i64 t.r.x) ∧ W.cell? ⟨w.heap.size, 4, none⟩ = some (.int .i64 t.r.y) ∧ W.cell? ⟨w.heap.size, 5, none⟩ = some (.int .i64 t.r.s) ∧ W.cell? ⟨w.heap.size, 6, none⟩ = some (.int .i64 t.r.k.a) ∧ W.cell? ⟨w.heap.size, 7, none⟩ = some (.int .i64 t.r.k.b) ∧ W.cell? ⟨w.heap.size, 8, none⟩ = some (.int .i64 t.r.k.c) ∧ W.cell? ⟨w.heap.size, 9, none⟩ = some (.int .i64 t.r.k.d) ∧ W.cell? ⟨w.heap.size, 10, none⟩ = some (.int .i64 t.r.k.e) ∧ W.cell? ⟨w.heap.size, 11, none⟩ = some (.int .i64 t.r.k.f) ∧ W.cell? ⟨w.heap.size, 12, none⟩ = some (.slice ua t.l.length uc) ∧ W.cell? ⟨w.heap.size + 1, 0, none⟩ = some (.int .i64 lo.1) ∧ W.cell? ⟨w.heap.size + 1, 1, none⟩ = some (.int .i64 lo.2) ∧ W.cell? ⟨w.heap.size + 1 + 1, 0, none⟩ = some (.int .i64 hi.1) ∧ W.cell? ⟨w.heap.size + 1 + 1, 1, none⟩ = some (.int .i64 hi.2)) ∧ w.heap.size < W.heap.size ∧ w.heap.size + 1 < W.heap.size ∧ w.heap.size + 1 + 1 < W.heap.size)) := Lib.hid (fun W g => by
    have b0 := (((Blk.new w #[.int .i64 t.v, .int .i64 t.z, .int .i64 t.n, .int .i64 t.r.x, .int .i64 t.r.y, .int .i64 t.r.s, .int .i64 t.r.k.a, .int .i64 t.r.k.b, .int .i64 t.r.k.c, .int .i64 t.r.k.d, .int .i64 t.r.k.e, .int .i64 t.r.k.f, .slice ua t.l.length uc] 28).alloc (.cells #[.int .i64 lo.1, .int .i64 lo.2] 30)).alloc (.cells #[.int .i64 hi.1, .int .i64 hi.2] 30)).grown g
    have b1 := ((blkN (W := w.alloc (.cells #[.int .i64 t.v, .int .i64 t.z, .int .i64 t.n, .int .i64 t.r.x, .int .i64 t.r.y, .int .i64 t.r.s, .int .i64 t.r.k.a, .int .i64 t.r.k.b, .int .i64 t.r.k.c, .int .i64 t.r.k.d, .int .i64 t.r.k.e, .int .i64 t.r.k.f, .slice ua t.l.length uc] 28)) (k := w.heap.size + 1) (cs := #[.int .i64 lo.1, .int .i64 lo.2]) (t := 30) (by simp)).alloc (.cells #[.int .i64 hi.1, .int .i64 hi.2] 30)).grown g
    have b2 := (blkN (W := (w.alloc (.cells #[.int .i64 t.v, .int .i64 t.z, .int .i64 t.n, .int .i64 t.r.x, .int .i64 t.r.y, .int .i64 t.r.s, .int .i64 t.r.k.a, .int .i64 t.r.k.b, .int .i64 t.r.k.c, .int .i64 t.r.k.d, .int .i64 t.r.k.e, .int .i64 t.r.k.f, .slice ua t.l.length uc] 28)).alloc (.cells #[.int .i64 lo.1, .int .i64 lo.2] 30)) (k := w.heap.size + 1 + 1) (cs := #[.int .i64 hi.1, .int .i64 hi.2]) (t := 30) (by simp)).grown g
    exact ⟨⟨blkAt b0 rfl, blkAt b0 rfl, blkAt b0 rfl, blkAt b0 rfl, blkAt b0 rfl, blkAt b0 rfl, blkAt b0 rfl, blkAt b0 rfl, blkAt b0 rfl, blkAt b0 rfl, blkAt b0 rfl, blkAt b0 rfl, blkAt b0 rfl, blkAt b1 rfl, blkAt b1 rfl, blkAt b2 rfl, blkAt b2 rfl⟩, b0.lt, b1.lt, b2.lt⟩)
  have G0 : Hid (Grew w (((w.alloc (.cells #[.int .i64 t.v, .int .i64 t.z, .int .i64 t.n, .int .i64 t.r.x, .int .i64 t.r.y, .int .i64 t.r.s, .int .i64 t.r.k.a, .int .i64 t.r.k.b, .int .i64 t.r.k.c, .int .i64 t.r.k.d, .int .i64 t.r.k.e, .int .i64 t.r.k.f, .slice ua t.l.length uc] 28)).alloc (.cells #[.int .i64 lo.1, .int .i64 lo.2] 30)).alloc (.cells #[.int .i64 hi.1, .int .i64 hi.2] 30))) := Lib.hid (((Grew.refl w).alloc _ _).alloc _ _ |>.alloc _ _)
  go_enter Tryz.func13, Tryz.ntmps13
  go_wp2_with fail
  obtain ⟨Z, hZ⟩ : ∃ Z, ((w.alloc (.cells #[.int .i64 t.v, .int .i64 t.z, .int .i64 t.n, .int .i64 t.r.x, .int .i64 t.r.y, .int .i64 t.r.s, .int .i64 t.r.k.a, .int .i64 t.r.k.b, .int .i64 t.r.k.c, .int .i64 t.r.k.d, .int .i64 t.r.k.e, .int .i64 t.r.k.f, .slice ua t.l.length uc] 28)).alloc (.cells #[.int .i64 lo.1, .int .i64 lo.2] 30)).alloc (.cells #[.int .i64 hi.1, .int .i64 hi.2] 30) = Z := ⟨_, rfl⟩
  rw [hZ] at HT G0
  try rw [hZ]
  clear hZ
  have GW := Grew.refl Z
  obtain ⟨⟨t0, t1, t2, t3, t4, t5, t6, t7, t8, t9, t10, t11, t12, l0, l1, h0, h1⟩, q0, q1, q2⟩ := HT.out _ GW
  refine (BC.out _ G0.out).mono ?_
  rintro e w1 ⟨rfl, g1⟩
  have GW := GW.trans g1
  clear g1
  clear t0 t1 t2 t3 t4 t5 t6 t7 t8 t9 t10 t11 t12 l0 l1 h0 h1 q0 q1 q2
  obtain ⟨⟨t0, t1, t2, t3, t4, t5, t6, t7, t8, t9, t10, t11, t12, l0, l1, h0, h1⟩, q0, q1, q2⟩ := HT.out _ GW
  clear BC
  go_wp2_with fail
  obtain ⟨w2, hw⟩ : ∃ W, w1.alloc (.cells #[.int .i64 0, .int .i64 0, .int .i64 0, .int .i64 k.a, .int .i64 k.b, .int .i64 k.c, .int .i64 k.d, .int .i64 k.e, .int .i64 k.f] 25) = W := ⟨_, rfl⟩
  have A1 : Hid (Blk w2 w1.heap.size #[.int .i64 0, .int .i64 0, .int .i64 0, .int .i64 k.a, .int .i64 k.b, .int .i64 k.c, .int .i64 k.d, .int .i64 k.e, .int .i64 k.f] 25) := Lib.hid (by rw [← hw]; exact Blk.new _ _ _)
  have GW : Grew Z w2 := GW.trans (by rw [← hw]; exact (Grew.refl _).alloc _ _)
  try rw [hw]
  clear hw
  clear t0 t1 t2 t3 t4 t5 t6 t7 t8 t9 t10 t11 t12 l0 l1 h0 h1 q0 q1 q2
  obtain ⟨⟨t0, t1, t2, t3, t4, t5, t6, t7, t8, t9, t10, t11, t12, l0, l1, h0, h1⟩, q0, q1, q2⟩ := HT.out _ GW
  have pb := A1.out.lt
  have p0 := blkAt A1.out (i := 0) rfl
  have p1 := blkAt A1.out (i := 1) rfl
  have p2 := blkAt A1.out (i := 2) rfl
  have p3 := blkAt A1.out (i := 3) rfl
  have p4 := blkAt A1.out (i := 4) rfl
  have p5 := blkAt A1.out (i := 5) rfl
  have p6 := blkAt A1.out (i := 6) rfl
  have p7 := blkAt A1.out (i := 7) rfl
  have p8 := blkAt A1.out (i := 8) rfl
  refine (CC.out _).mono ?_
  rintro e w3 ⟨rfl, g3⟩
  have GW := GW.trans g3
  have lw := GW.size
  clear g3 A1 CC pb p0 p1 p2 p3 p4 p5 p6 p7 p8
  clear t0 t1 t2 t3 t4 t5 t6 t7 t8 t9 t10 t11 t12 l0 l1 h0 h1 q0 q1 q2
  go_wp2_with fail
  obtain ⟨w4, hw⟩ : ∃ W, (w3.alloc (.cells #[.int .i64 x1, .int .i64 y1] 30)).alloc (.cells #[.int .i64 x2, .int .i64 y2] 30) = W := ⟨_, rfl⟩
  have BA : Hid (Blk w4 w3.heap.size #[.int .i64 x1, .int .i64 y1] 30) := Lib.hid (by rw [← hw]; exact (Blk.new _ _ _).alloc _)
  have BB : Hid (Blk w4 (w3.heap.size + 1) #[.int .i64 x2, .int .i64 y2] 30) := Lib.hid (by rw [← hw]; exact blkN (by simp))
  have GW : Grew Z w4 := GW.trans (by rw [← hw]; exact ((Grew.refl _).alloc _ _).alloc _ _)
  try rw [hw]
  clear hw lw
  have ab := BA.out.lt
  have bb := BB.out.lt
  have a0 := blkAt BA.out (i := 0) rfl
  have a1 := blkAt BA.out (i := 1) rfl
  have b0 := blkAt BB.out (i := 0) rfl
  have b1 := blkAt BB.out (i := 1) rfl
  refine (P1.out _).mono ?_
  rintro e w5 ⟨rfl, g5⟩
  have GW := GW.trans g5
  have BA := Lib.hid (BA.out.grown g5)
  have BB := Lib.hid (BB.out.grown g5)
  clear g5
  clear ab bb a0 a1 b0 b1
  have ab := BA.out.lt
  have bb := BB.out.lt
  have a0 := blkAt BA.out (i := 0) rfl
  have a1 := blkAt BA.out (i := 1) rfl
  have b0 := blkAt BB.out (i := 0) rfl
  have b1 := blkAt BB.out (i := 1) rfl
  go_wp2_with fail
  refine (P2.out _).mono ?_
  rintro e w6 ⟨rfl, g6⟩
  have GW := GW.trans g6
  have BA := Lib.hid (BA.out.grown g6)
  have BB := Lib.hid (BB.out.grown g6)
  clear g6
  clear ab bb a0 a1 b0 b1
  have ab := BA.out.lt
  have bb := BB.out.lt
  have a0 := blkAt BA.out (i := 0) rfl
  have a1 := blkAt BA.out (i := 1) rfl
  have b0 := blkAt BB.out (i := 0) rfl
  have b1 := blkAt BB.out (i := 1) rfl
  go_wp2_with fail
  refine (AR.out _ _ (RN.out _)).mono ?_
  rintro e w7 ⟨v, q, hq, rfl, hv, g7⟩
  have GW := (GW.alloc _ _).trans g7
  clear g7
  clear ab bb a0 a1 b0 b1
  go_wp2_with fail
  go_ret2
  exact ⟨q, v, hq, rfl, hv, G0.out.trans GW⟩
end Td
end Go.Proofs.YtpiajdahmcelnaaGreat
