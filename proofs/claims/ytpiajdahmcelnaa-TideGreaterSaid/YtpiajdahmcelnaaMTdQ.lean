/-
  The law TideGreater.
-/
import Derived.Test.YtpiajdahmcelnaaMTdP
namespace Go.Proofs.Ytpiajdahmcelnaa
open Go.RowKit Hl
namespace Td
set_option maxRecDepth 100000
set_option maxHeartbeats 4000000 in
theorem greater_bad (K : Hl.Code) (t : Ed) (u : Value) (lo hi : Pt) (c d : Int) (x y m : Nat) (w : World) (hs : Rs w u t.l) (hl : t.l.length ≤ 9223372036854775807) (_hx : x < 4294967296) (_hy : y < 4294967296) (_hm : m < 4294967296) (hu : ¬ Usb t lo hi c d) :
    Calls Try.prog 5 #[tv t u, .agg #[.int .i64 lo.1, .int .i64 lo.2], .agg #[.int .i64 hi.1, .int .i64 hi.2], .int .i64 c, .int .i64 d, .int .u32 x, .int .u32 y, .int .u32 m] w fun e w' => e = .returned (.bool true) ∧ Grew w w' := by
  have HD : Hid (∀ W, Calls Try.prog 9 #[] W fun e w' => e = .returned (.bool true) ∧ Grew W w') := Lib.hid (fun W => head_true K W)
  have UC : Hid (∀ W, Grew w W → Calls Try.prog 10 #[tv t u, .agg #[.int .i64 lo.1, .int .i64 lo.2], .agg #[.int .i64 hi.1, .int .i64 hi.2], .int .i64 c, .int .i64 d] W fun e w' => e = .returned (.bool false) ∧ Grew W w') := Lib.hid (fun W g => by
    have h := usable_c t u lo hi c d W (hs.grew g) hl
    rwa [decide_eq_false hu] at h)
  unfold tv at UC ⊢
  clear hs hu K
  have HT : Hid (∀ W, Grew (((w.alloc (.cells #[.int .i64 t.v, .int .i64 t.z, .int .i64 t.n, .int .i64 t.r.x, .int .i64 t.r.y, .int .i64 t.r.s, .int .i64 t.r.k.a, .int .i64 t.r.k.b, .int .i64 t.r.k.c, .int .i64 t.r.k.d, .int .i64 t.r.k.e, .int .i64 t.r.k.f, u] 28)).alloc (.cells #[.int .i64 lo.1, .int .i64 lo.2] 30)).alloc (.cells #[.int .i64 hi.1, .int .i64 hi.2] 30)) W → ((W.cell? ⟨w.heap.size, 0, none⟩ = some (.int .i64 t.v) ∧ W.cell? ⟨w.heap.size, 1, none⟩ = some (.int .i64 t.z) ∧ W.cell? ⟨w.heap.size, 2, none⟩ = some (.int .i64 t.n) ∧ W.cell? ⟨w.heap.size, 3, none⟩ = some (.int .i64 t.r.x) ∧ W.cell? ⟨w.heap.size, 4, none⟩ = some (.int .i64 t.r.y) ∧ W.cell? ⟨w.heap.size, 5, none⟩ = some (.int .i64 t.r.s) ∧ W.cell? ⟨w.heap.size, 6, none⟩ = some (.int .i64 t.r.k.a) ∧ W.cell? ⟨w.heap.size, 7, none⟩ = some (.int .i64 t.r.k.b) ∧ W.cell? ⟨w.heap.size, 8, none⟩ = some (.int .i64 t.r.k.c) ∧ W.cell? ⟨w.heap.size, 9, none⟩ = some (.int .i64 t.r.k.d) ∧ W.cell? ⟨w.heap.size, 10, none⟩ = some (.int .i64 t.r.k.e) ∧ W.cell? ⟨w.heap.size, 11, none⟩ = some (.int .i64 t.r.k.f) ∧ W.cell? ⟨w.heap.size, 12, none⟩ = some (u)) ∧ (W.cell? ⟨w.heap.size + 1, 0, none⟩ = some (.int .i64 lo.1) ∧ W.cell? ⟨w.heap.size + 1, 1, none⟩ = some (.int .i64 lo.2)) ∧ (W.cell? ⟨w.heap.size + 1 + 1, 0, none⟩ = some (.int .i64 hi.1) ∧ W.cell? ⟨w.heap.size + 1 + 1, 1, none⟩ = some (.int .i64 hi.2)) ∧ w.heap.size < W.heap.size ∧ w.heap.size + 1 < W.heap.size ∧ w.heap.size + 1 + 1 < W.heap.size)) := Lib.hid (fun W g => by
    have b0 := (((Blk.new w #[.int .i64 t.v, .int .i64 t.z, .int .i64 t.n, .int .i64 t.r.x, .int .i64 t.r.y, .int .i64 t.r.s, .int .i64 t.r.k.a, .int .i64 t.r.k.b, .int .i64 t.r.k.c, .int .i64 t.r.k.d, .int .i64 t.r.k.e, .int .i64 t.r.k.f, u] 28).alloc (.cells #[.int .i64 lo.1, .int .i64 lo.2] 30)).alloc (.cells #[.int .i64 hi.1, .int .i64 hi.2] 30)).grown g
    have b1 := ((blkN (W := w.alloc (.cells #[.int .i64 t.v, .int .i64 t.z, .int .i64 t.n, .int .i64 t.r.x, .int .i64 t.r.y, .int .i64 t.r.s, .int .i64 t.r.k.a, .int .i64 t.r.k.b, .int .i64 t.r.k.c, .int .i64 t.r.k.d, .int .i64 t.r.k.e, .int .i64 t.r.k.f, u] 28)) (k := w.heap.size + 1) (cs := #[.int .i64 lo.1, .int .i64 lo.2]) (t := 30) (by simp)).alloc (.cells #[.int .i64 hi.1, .int .i64 hi.2] 30)).grown g
    have b2 := (blkN (W := (w.alloc (.cells #[.int .i64 t.v, .int .i64 t.z, .int .i64 t.n, .int .i64 t.r.x, .int .i64 t.r.y, .int .i64 t.r.s, .int .i64 t.r.k.a, .int .i64 t.r.k.b, .int .i64 t.r.k.c, .int .i64 t.r.k.d, .int .i64 t.r.k.e, .int .i64 t.r.k.f, u] 28)).alloc (.cells #[.int .i64 lo.1, .int .i64 lo.2] 30)) (k := w.heap.size + 1 + 1) (cs := #[.int .i64 hi.1, .int .i64 hi.2]) (t := 30) (by simp)).grown g
    exact ⟨⟨blkAt b0 rfl, blkAt b0 rfl, blkAt b0 rfl, blkAt b0 rfl, blkAt b0 rfl, blkAt b0 rfl, blkAt b0 rfl, blkAt b0 rfl, blkAt b0 rfl, blkAt b0 rfl, blkAt b0 rfl, blkAt b0 rfl, blkAt b0 rfl⟩, ⟨blkAt b1 rfl, blkAt b1 rfl⟩, ⟨blkAt b2 rfl, blkAt b2 rfl⟩, b0.lt, b1.lt, b2.lt⟩)
  have G0 : Hid (Grew w (((w.alloc (.cells #[.int .i64 t.v, .int .i64 t.z, .int .i64 t.n, .int .i64 t.r.x, .int .i64 t.r.y, .int .i64 t.r.s, .int .i64 t.r.k.a, .int .i64 t.r.k.b, .int .i64 t.r.k.c, .int .i64 t.r.k.d, .int .i64 t.r.k.e, .int .i64 t.r.k.f, u] 28)).alloc (.cells #[.int .i64 lo.1, .int .i64 lo.2] 30)).alloc (.cells #[.int .i64 hi.1, .int .i64 hi.2] 30))) := Lib.hid (((Grew.refl w).alloc _ _).alloc _ _ |>.alloc _ _)
  go_enter Try.func5, Try.ntmps5
  go_wp2_with fail
  refine (HD.out _).mono ?_
  rintro e w1 ⟨rfl, g1⟩
  have GW := g1
  obtain ⟨⟨t0, t1, t2, t3, t4, t5, t6, t7, t8, t9, t10, t11, t12⟩, ⟨l0, l1⟩, ⟨h0, h1⟩, q0, q1, q2⟩ := HT.out w1 GW
  go_wp2_with fail
  refine (UC.out _ (G0.out.trans GW)).mono ?_
  rintro e w2 ⟨rfl, g2⟩
  go_wp2_with fail
  go_ret
  exact ⟨rfl, (G0.out.trans GW).trans g2⟩
set_option maxHeartbeats 16000000 in
theorem greater_ok (K : Hl.Code) (t : Ed) (u : Value) (lo hi : Pt) (c d : Int) (x y m : Nat) (w : World) (hs : Rs w u t.l) (hl : t.l.length ≤ 9223372036854775807) (hx : x < 4294967296) (hy : y < 4294967296) (hm : m < 4294967296) (hu : Usb t lo hi c d) :
    Calls Try.prog 5 #[tv t u, .agg #[.int .i64 lo.1, .int .i64 lo.2], .agg #[.int .i64 hi.1, .int .i64 hi.2], .int .i64 c, .int .i64 d, .int .u32 x, .int .u32 y, .int .u32 m] w fun e w' => e = .returned (.bool true) ∧ Grew w w' := by
  have hb := hu.ok
  have hz := plc_ins hb.2.1 x y
  have hzi := ins_in hb.2.1.2.2 x y
  have hti := tin_in hb.2.2.2.1 m
  have hb1 : BOk t lo (ins lo hi x y) c (tin c d m) := ⟨hb.1, ⟨hb.2.1.1, hz, hzi.1.1, hzi.2.1⟩, ⟨hb.2.2.1, hti.1, by have := hb.2.2.2.2; omega⟩⟩
  have hb2 : BOk t (ins lo hi x y) hi (tin c d m) d := ⟨hb.1, ⟨hz, hb.2.1.2.1, hzi.1.2, hzi.2.2⟩, ⟨by have := hb.2.2.1; omega, hti.2, hb.2.2.2.2⟩⟩
  have w1' := ovB_mono hb hb1 ⟨Int.le_refl _, Int.le_refl _⟩ ⟨hzi.1.2, hzi.2.2⟩ ⟨Int.le_refl _, hti.2⟩
  have w2' := ovB_mono hb hb2 ⟨hzi.1.1, hzi.2.1⟩ ⟨Int.le_refl _, Int.le_refl _⟩ ⟨hti.1, Int.le_refl _⟩
  have HD : Hid (∀ W, Calls Try.prog 9 #[] W fun e w' => e = .returned (.bool true) ∧ Grew W w') := Lib.hid (fun W => head_true K W)
  have UC : Hid (∀ W, Grew w W → Calls Try.prog 10 #[tv t u, .agg #[.int .i64 lo.1, .int .i64 lo.2], .agg #[.int .i64 hi.1, .int .i64 hi.2], .int .i64 c, .int .i64 d] W fun e w' => e = .returned (.bool true) ∧ Grew W w') := Lib.hid (fun W g => by
    have h := usable_c t u lo hi c d W (hs.grew g) hl
    rwa [decide_eq_true hu] at h)
  have IC : Hid (∀ W, Calls Try.prog 13 #[.agg #[.int .i64 lo.1, .int .i64 lo.2], .agg #[.int .i64 hi.1, .int .i64 hi.2], .int .u32 x, .int .u32 y] W fun e w' => e = .returned (.agg #[.int .i64 (ins lo hi x y).1, .int .i64 (ins lo hi x y).2]) ∧ Grew W w') := Lib.hid (fun W => inside_c lo hi x y W hb.2.1 hx hy)
  have B1 : Hid (∀ W, Grew w W → Calls Try.prog 11 #[tv t u, .agg #[.int .i64 lo.1, .int .i64 lo.2], .agg #[.int .i64 hi.1, .int .i64 hi.2], .int .i64 c, .int .i64 d] W fun e w' => e = .returned (.tuple #[.agg #[.int .i64 0, .int .i64 0, .int .i64 0, .int .i64 (OvB t lo hi c d).a, .int .i64 (OvB t lo hi c d).b, .int .i64 (OvB t lo hi c d).c, .int .i64 (OvB t lo hi c d).d, .int .i64 (OvB t lo hi c d).e, .int .i64 (OvB t lo hi c d).f], .int .i64 0]) ∧ Grew W w') := Lib.hid (fun W g => by
    have h := bound_c K t u lo hi c d W (hs.grew g) hl
    rw [bA_yes hb] at h
    exact h)
  have B2 : Hid (∀ W, Grew w W → Calls Try.prog 11 #[tv t u, .agg #[.int .i64 lo.1, .int .i64 lo.2], .agg #[.int .i64 (ins lo hi x y).1, .int .i64 (ins lo hi x y).2], .int .i64 c, .int .i64 (tin c d m)] W fun e w' => e = .returned (.tuple #[.agg #[.int .i64 0, .int .i64 0, .int .i64 0, .int .i64 (OvB t lo (ins lo hi x y) c (tin c d m)).a, .int .i64 (OvB t lo (ins lo hi x y) c (tin c d m)).b, .int .i64 (OvB t lo (ins lo hi x y) c (tin c d m)).c, .int .i64 (OvB t lo (ins lo hi x y) c (tin c d m)).d, .int .i64 (OvB t lo (ins lo hi x y) c (tin c d m)).e, .int .i64 (OvB t lo (ins lo hi x y) c (tin c d m)).f], .int .i64 0]) ∧ Grew W w') := Lib.hid (fun W g => by
    have h := bound_c K t u lo (ins lo hi x y) c (tin c d m) W (hs.grew g) hl
    rw [bA_yes hb1] at h
    exact h)
  have B3 : Hid (∀ W, Grew w W → Calls Try.prog 11 #[tv t u, .agg #[.int .i64 (ins lo hi x y).1, .int .i64 (ins lo hi x y).2], .agg #[.int .i64 hi.1, .int .i64 hi.2], .int .i64 (tin c d m), .int .i64 d] W fun e w' => e = .returned (.tuple #[.agg #[.int .i64 0, .int .i64 0, .int .i64 0, .int .i64 (OvB t (ins lo hi x y) hi (tin c d m) d).a, .int .i64 (OvB t (ins lo hi x y) hi (tin c d m) d).b, .int .i64 (OvB t (ins lo hi x y) hi (tin c d m) d).c, .int .i64 (OvB t (ins lo hi x y) hi (tin c d m) d).d, .int .i64 (OvB t (ins lo hi x y) hi (tin c d m) d).e, .int .i64 (OvB t (ins lo hi x y) hi (tin c d m) d).f], .int .i64 0]) ∧ Grew W w') := Lib.hid (fun W g => by
    have h := bound_c K t u (ins lo hi x y) hi (tin c d m) d W (hs.grew g) hl
    rw [bA_yes hb2] at h
    exact h)
  have F1 := Lib.hid (flowIn_yes _ _ w1')
  have F2 := Lib.hid (flowIn_yes _ _ w2')
  obtain ⟨c0, c1, c2⟩ : 0 ≤ c ∧ c ≤ d ∧ d ≤ 1000000000 := hb.2.2
  have TE : Hid (tin c d m = c + (m : Int) % (d - c + 1)) := Lib.hid rfl
  have e1 : ((m : Int)).tmod (d - c + 1) = (m : Int) % (d - c + 1) := Int.tmod_eq_emod_of_nonneg (by omega)
  have e2 := Int.emod_nonneg (m : Int) (show d - c + 1 ≠ 0 by omega)
  have e3 := Int.emod_lt_of_pos (m : Int) (show 0 < d - c + 1 by omega)
  have n1 : ¬ d - c + 1 = 0 := by omega
  have M0 : (0 : Int) ≤ (m : Int) := by omega
  have M1 : (m : Int) < 4294967296 := by omega
  unfold tv at UC B1 B2 B3 ⊢
  clear hs hu K hb hz hzi hti hb1 hb2 w1' w2'
  generalize OvB t lo hi c d = k1 at *
  generalize OvB t lo (ins lo hi x y) c (tin c d m) = k2 at *
  generalize OvB t (ins lo hi x y) hi (tin c d m) d = k3 at *
  generalize ins lo hi x y = p at *
  rw [TE.out] at B2 B3
  generalize (m : Int) % (d - c + 1) = r at *
  have HT : Hid (∀ W, Grew (((w.alloc (.cells #[.int .i64 t.v, .int .i64 t.z, .int .i64 t.n, .int .i64 t.r.x, .int .i64 t.r.y, .int .i64 t.r.s, .int .i64 t.r.k.a, .int .i64 t.r.k.b, .int .i64 t.r.k.c, .int .i64 t.r.k.d, .int .i64 t.r.k.e, .int .i64 t.r.k.f, u] 28)).alloc (.cells #[.int .i64 lo.1, .int .i64 lo.2] 30)).alloc (.cells #[.int .i64 hi.1, .int .i64 hi.2] 30)) W → ((W.cell? ⟨w.heap.size, 0, none⟩ = some (.int .i64 t.v) ∧ W.cell? ⟨w.heap.size, 1, none⟩ = some (.int .i64 t.z) ∧ W.cell? ⟨w.heap.size, 2, none⟩ = some (.int .i64 t.n) ∧ W.cell? ⟨w.heap.size, 3, none⟩ = some (.int .i64 t.r.x) ∧ W.cell? ⟨w.heap.size, 4, none⟩ = some (.int .i64 t.r.y) ∧ W.cell? ⟨w.heap.size, 5, none⟩ = some (.int .i64 t.r.s) ∧ W.cell? ⟨w.heap.size, 6, none⟩ = some (.int .i64 t.r.k.a) ∧ W.cell? ⟨w.heap.size, 7, none⟩ = some (.int .i64 t.r.k.b) ∧ W.cell? ⟨w.heap.size, 8, none⟩ = some (.int .i64 t.r.k.c) ∧ W.cell? ⟨w.heap.size, 9, none⟩ = some (.int .i64 t.r.k.d) ∧ W.cell? ⟨w.heap.size, 10, none⟩ = some (.int .i64 t.r.k.e) ∧ W.cell? ⟨w.heap.size, 11, none⟩ = some (.int .i64 t.r.k.f) ∧ W.cell? ⟨w.heap.size, 12, none⟩ = some (u)) ∧ (W.cell? ⟨w.heap.size + 1, 0, none⟩ = some (.int .i64 lo.1) ∧ W.cell? ⟨w.heap.size + 1, 1, none⟩ = some (.int .i64 lo.2)) ∧ (W.cell? ⟨w.heap.size + 1 + 1, 0, none⟩ = some (.int .i64 hi.1) ∧ W.cell? ⟨w.heap.size + 1 + 1, 1, none⟩ = some (.int .i64 hi.2)) ∧ w.heap.size < W.heap.size ∧ w.heap.size + 1 < W.heap.size ∧ w.heap.size + 1 + 1 < W.heap.size)) := Lib.hid (fun W g => by
    have b0 := (((Blk.new w #[.int .i64 t.v, .int .i64 t.z, .int .i64 t.n, .int .i64 t.r.x, .int .i64 t.r.y, .int .i64 t.r.s, .int .i64 t.r.k.a, .int .i64 t.r.k.b, .int .i64 t.r.k.c, .int .i64 t.r.k.d, .int .i64 t.r.k.e, .int .i64 t.r.k.f, u] 28).alloc (.cells #[.int .i64 lo.1, .int .i64 lo.2] 30)).alloc (.cells #[.int .i64 hi.1, .int .i64 hi.2] 30)).grown g
    have b1 := ((blkN (W := w.alloc (.cells #[.int .i64 t.v, .int .i64 t.z, .int .i64 t.n, .int .i64 t.r.x, .int .i64 t.r.y, .int .i64 t.r.s, .int .i64 t.r.k.a, .int .i64 t.r.k.b, .int .i64 t.r.k.c, .int .i64 t.r.k.d, .int .i64 t.r.k.e, .int .i64 t.r.k.f, u] 28)) (k := w.heap.size + 1) (cs := #[.int .i64 lo.1, .int .i64 lo.2]) (t := 30) (by simp)).alloc (.cells #[.int .i64 hi.1, .int .i64 hi.2] 30)).grown g
    have b2 := (blkN (W := (w.alloc (.cells #[.int .i64 t.v, .int .i64 t.z, .int .i64 t.n, .int .i64 t.r.x, .int .i64 t.r.y, .int .i64 t.r.s, .int .i64 t.r.k.a, .int .i64 t.r.k.b, .int .i64 t.r.k.c, .int .i64 t.r.k.d, .int .i64 t.r.k.e, .int .i64 t.r.k.f, u] 28)).alloc (.cells #[.int .i64 lo.1, .int .i64 lo.2] 30)) (k := w.heap.size + 1 + 1) (cs := #[.int .i64 hi.1, .int .i64 hi.2]) (t := 30) (by simp)).grown g
    exact ⟨⟨blkAt b0 rfl, blkAt b0 rfl, blkAt b0 rfl, blkAt b0 rfl, blkAt b0 rfl, blkAt b0 rfl, blkAt b0 rfl, blkAt b0 rfl, blkAt b0 rfl, blkAt b0 rfl, blkAt b0 rfl, blkAt b0 rfl, blkAt b0 rfl⟩, ⟨blkAt b1 rfl, blkAt b1 rfl⟩, ⟨blkAt b2 rfl, blkAt b2 rfl⟩, b0.lt, b1.lt, b2.lt⟩)
  have G0 : Hid (Grew w (((w.alloc (.cells #[.int .i64 t.v, .int .i64 t.z, .int .i64 t.n, .int .i64 t.r.x, .int .i64 t.r.y, .int .i64 t.r.s, .int .i64 t.r.k.a, .int .i64 t.r.k.b, .int .i64 t.r.k.c, .int .i64 t.r.k.d, .int .i64 t.r.k.e, .int .i64 t.r.k.f, u] 28)).alloc (.cells #[.int .i64 lo.1, .int .i64 lo.2] 30)).alloc (.cells #[.int .i64 hi.1, .int .i64 hi.2] 30))) := Lib.hid (((Grew.refl w).alloc _ _).alloc _ _ |>.alloc _ _)
  go_enter Try.func5, Try.ntmps5
  go_wp2_with fail
  refine (HD.out _).mono ?_
  rintro e w1 ⟨rfl, GW⟩
  obtain ⟨⟨t0, t1, t2, t3, t4, t5, t6, t7, t8, t9, t10, t11, t12⟩, ⟨l0, l1⟩, ⟨h0, h1⟩, q0, q1, q2⟩ := HT.out w1 GW
  go_wp2_with fail
  refine (UC.out _ (G0.out.trans GW)).mono ?_
  rintro e w2 ⟨rfl, g2⟩
  have GW := GW.trans g2
  clear g2
  clear t0 t1 t2 t3 t4 t5 t6 t7 t8 t9 t10 t11 t12 l0 l1 h0 h1 q0 q1 q2 
  obtain ⟨⟨t0, t1, t2, t3, t4, t5, t6, t7, t8, t9, t10, t11, t12⟩, ⟨l0, l1⟩, ⟨h0, h1⟩, q0, q1, q2⟩ := HT.out w2 GW
  go_wp2_with fail
  refine (IC.out _).mono ?_
  rintro e w3 ⟨rfl, g3⟩
  have GW := GW.trans g3
  clear g3
  clear t0 t1 t2 t3 t4 t5 t6 t7 t8 t9 t10 t11 t12 l0 l1 h0 h1 q0 q1 q2 
  obtain ⟨⟨t0, t1, t2, t3, t4, t5, t6, t7, t8, t9, t10, t11, t12⟩, ⟨l0, l1⟩, ⟨h0, h1⟩, q0, q1, q2⟩ := HT.out w3 GW
  go_wp2_with fail
  obtain ⟨w4, hw⟩ : ∃ W, w3.alloc (.cells #[.int .i64 p.1, .int .i64 p.2] 30) = W := ⟨_, rfl⟩
  have ZP : Hid (Blk w4 w3.heap.size #[.int .i64 p.1, .int .i64 p.2] 30) := Lib.hid (by rw [← hw]; exact Blk.new _ _ _)
  have GW : Grew _ w4 := GW.trans (by rw [← hw]; exact (Grew.refl _).alloc _ _)
  try rw [hw]
  clear hw
  clear t0 t1 t2 t3 t4 t5 t6 t7 t8 t9 t10 t11 t12 l0 l1 h0 h1 q0 q1 q2 
  obtain ⟨⟨t0, t1, t2, t3, t4, t5, t6, t7, t8, t9, t10, t11, t12⟩, ⟨l0, l1⟩, ⟨h0, h1⟩, q0, q1, q2⟩ := HT.out w4 GW
  have ZPb := ZP.out.lt
  have ZP0 := blkAt ZP.out (i := 0) rfl
  have ZP1 := blkAt ZP.out (i := 1) rfl
  refine (B1.out _ (G0.out.trans GW)).mono ?_
  rintro e w5 ⟨rfl, g5⟩
  have GW := GW.trans g5
  have ZP := Lib.hid (ZP.out.grown g5)
  clear g5
  clear t0 t1 t2 t3 t4 t5 t6 t7 t8 t9 t10 t11 t12 l0 l1 h0 h1 q0 q1 q2 ZPb ZP0 ZP1
  obtain ⟨⟨t0, t1, t2, t3, t4, t5, t6, t7, t8, t9, t10, t11, t12⟩, ⟨l0, l1⟩, ⟨h0, h1⟩, q0, q1, q2⟩ := HT.out w5 GW
  have ZPb := ZP.out.lt
  have ZP0 := blkAt ZP.out (i := 0) rfl
  have ZP1 := blkAt ZP.out (i := 1) rfl
  go_wp2_with fail
  obtain ⟨w6, hw⟩ : ∃ W, w5.alloc (.cells #[.int .i64 0, .int .i64 0, .int .i64 0, .int .i64 k1.a, .int .i64 k1.b, .int .i64 k1.c, .int .i64 k1.d, .int .i64 k1.e, .int .i64 k1.f] 25) = W := ⟨_, rfl⟩
  have A1 : Hid (Blk w6 w5.heap.size #[.int .i64 0, .int .i64 0, .int .i64 0, .int .i64 k1.a, .int .i64 k1.b, .int .i64 k1.c, .int .i64 k1.d, .int .i64 k1.e, .int .i64 k1.f] 25) := Lib.hid (by rw [← hw]; exact Blk.new _ _ _)
  have g6 : Grew w5 w6 := by rw [← hw]; exact (Grew.refl _).alloc _ _
  try rw [hw]
  clear hw
  have GW := GW.trans g6
  have ZP := Lib.hid (ZP.out.grown g6)
  clear g6
  clear t0 t1 t2 t3 t4 t5 t6 t7 t8 t9 t10 t11 t12 l0 l1 h0 h1 q0 q1 q2 ZPb ZP0 ZP1
  obtain ⟨⟨t0, t1, t2, t3, t4, t5, t6, t7, t8, t9, t10, t11, t12⟩, ⟨l0, l1⟩, ⟨h0, h1⟩, q0, q1, q2⟩ := HT.out w6 GW
  have ZPb := ZP.out.lt
  have ZP0 := blkAt ZP.out (i := 0) rfl
  have ZP1 := blkAt ZP.out (i := 1) rfl
  have A1b := A1.out.lt
  have A10 := blkAt A1.out (i := 0) rfl
  have A11 := blkAt A1.out (i := 1) rfl
  have A12 := blkAt A1.out (i := 2) rfl
  have A13 := blkAt A1.out (i := 3) rfl
  have A14 := blkAt A1.out (i := 4) rfl
  have A15 := blkAt A1.out (i := 5) rfl
  have A16 := blkAt A1.out (i := 6) rfl
  have A17 := blkAt A1.out (i := 7) rfl
  have A18 := blkAt A1.out (i := 8) rfl
  refine (B2.out _ (G0.out.trans GW)).mono ?_
  rintro e w7 ⟨rfl, g7⟩
  have GW := GW.trans g7
  have ZP := Lib.hid (ZP.out.grown g7)
  have A1 := Lib.hid (A1.out.grown g7)
  clear g7
  clear t0 t1 t2 t3 t4 t5 t6 t7 t8 t9 t10 t11 t12 l0 l1 h0 h1 q0 q1 q2 ZPb ZP0 ZP1 A1b A10 A11 A12 A13 A14 A15 A16 A17 A18
  obtain ⟨⟨t0, t1, t2, t3, t4, t5, t6, t7, t8, t9, t10, t11, t12⟩, ⟨l0, l1⟩, ⟨h0, h1⟩, q0, q1, q2⟩ := HT.out w7 GW
  have ZPb := ZP.out.lt
  have ZP0 := blkAt ZP.out (i := 0) rfl
  have ZP1 := blkAt ZP.out (i := 1) rfl
  have A1b := A1.out.lt
  have A10 := blkAt A1.out (i := 0) rfl
  have A11 := blkAt A1.out (i := 1) rfl
  have A12 := blkAt A1.out (i := 2) rfl
  have A13 := blkAt A1.out (i := 3) rfl
  have A14 := blkAt A1.out (i := 4) rfl
  have A15 := blkAt A1.out (i := 5) rfl
  have A16 := blkAt A1.out (i := 6) rfl
  have A17 := blkAt A1.out (i := 7) rfl
  have A18 := blkAt A1.out (i := 8) rfl
  go_wp2_with fail
  obtain ⟨w8, hw⟩ : ∃ W, w7.alloc (.cells #[.int .i64 0, .int .i64 0, .int .i64 0, .int .i64 k2.a, .int .i64 k2.b, .int .i64 k2.c, .int .i64 k2.d, .int .i64 k2.e, .int .i64 k2.f] 25) = W := ⟨_, rfl⟩
  have A2 : Hid (Blk w8 w7.heap.size #[.int .i64 0, .int .i64 0, .int .i64 0, .int .i64 k2.a, .int .i64 k2.b, .int .i64 k2.c, .int .i64 k2.d, .int .i64 k2.e, .int .i64 k2.f] 25) := Lib.hid (by rw [← hw]; exact Blk.new _ _ _)
  have g8 : Grew w7 w8 := by rw [← hw]; exact (Grew.refl _).alloc _ _
  try rw [hw]
  clear hw
  have GW := GW.trans g8
  have ZP := Lib.hid (ZP.out.grown g8)
  have A1 := Lib.hid (A1.out.grown g8)
  clear g8
  clear t0 t1 t2 t3 t4 t5 t6 t7 t8 t9 t10 t11 t12 l0 l1 h0 h1 q0 q1 q2 ZPb ZP0 ZP1 A1b A10 A11 A12 A13 A14 A15 A16 A17 A18
  obtain ⟨⟨t0, t1, t2, t3, t4, t5, t6, t7, t8, t9, t10, t11, t12⟩, ⟨l0, l1⟩, ⟨h0, h1⟩, q0, q1, q2⟩ := HT.out w8 GW
  have ZPb := ZP.out.lt
  have ZP0 := blkAt ZP.out (i := 0) rfl
  have ZP1 := blkAt ZP.out (i := 1) rfl
  have A1b := A1.out.lt
  have A10 := blkAt A1.out (i := 0) rfl
  have A11 := blkAt A1.out (i := 1) rfl
  have A12 := blkAt A1.out (i := 2) rfl
  have A13 := blkAt A1.out (i := 3) rfl
  have A14 := blkAt A1.out (i := 4) rfl
  have A15 := blkAt A1.out (i := 5) rfl
  have A16 := blkAt A1.out (i := 6) rfl
  have A17 := blkAt A1.out (i := 7) rfl
  have A18 := blkAt A1.out (i := 8) rfl
  have A2b := A2.out.lt
  have A20 := blkAt A2.out (i := 0) rfl
  have A21 := blkAt A2.out (i := 1) rfl
  have A22 := blkAt A2.out (i := 2) rfl
  have A23 := blkAt A2.out (i := 3) rfl
  have A24 := blkAt A2.out (i := 4) rfl
  have A25 := blkAt A2.out (i := 5) rfl
  have A26 := blkAt A2.out (i := 6) rfl
  have A27 := blkAt A2.out (i := 7) rfl
  have A28 := blkAt A2.out (i := 8) rfl
  refine (B3.out _ (G0.out.trans GW)).mono ?_
  rintro e w9 ⟨rfl, g9⟩
  have GW := GW.trans g9
  have ZP := Lib.hid (ZP.out.grown g9)
  have A1 := Lib.hid (A1.out.grown g9)
  have A2 := Lib.hid (A2.out.grown g9)
  clear g9
  clear t0 t1 t2 t3 t4 t5 t6 t7 t8 t9 t10 t11 t12 l0 l1 h0 h1 q0 q1 q2 ZPb ZP0 ZP1 A1b A10 A11 A12 A13 A14 A15 A16 A17 A18 A2b A20 A21 A22 A23 A24 A25 A26 A27 A28
  obtain ⟨⟨t0, t1, t2, t3, t4, t5, t6, t7, t8, t9, t10, t11, t12⟩, ⟨l0, l1⟩, ⟨h0, h1⟩, q0, q1, q2⟩ := HT.out w9 GW
  have ZPb := ZP.out.lt
  have ZP0 := blkAt ZP.out (i := 0) rfl
  have ZP1 := blkAt ZP.out (i := 1) rfl
  have A1b := A1.out.lt
  have A10 := blkAt A1.out (i := 0) rfl
  have A11 := blkAt A1.out (i := 1) rfl
  have A12 := blkAt A1.out (i := 2) rfl
  have A13 := blkAt A1.out (i := 3) rfl
  have A14 := blkAt A1.out (i := 4) rfl
  have A15 := blkAt A1.out (i := 5) rfl
  have A16 := blkAt A1.out (i := 6) rfl
  have A17 := blkAt A1.out (i := 7) rfl
  have A18 := blkAt A1.out (i := 8) rfl
  have A2b := A2.out.lt
  have A20 := blkAt A2.out (i := 0) rfl
  have A21 := blkAt A2.out (i := 1) rfl
  have A22 := blkAt A2.out (i := 2) rfl
  have A23 := blkAt A2.out (i := 3) rfl
  have A24 := blkAt A2.out (i := 4) rfl
  have A25 := blkAt A2.out (i := 5) rfl
  have A26 := blkAt A2.out (i := 6) rfl
  have A27 := blkAt A2.out (i := 7) rfl
  have A28 := blkAt A2.out (i := 8) rfl
  go_wp2_with fail
  obtain ⟨w10, hw⟩ : ∃ W, w9.alloc (.cells #[.int .i64 0, .int .i64 0, .int .i64 0, .int .i64 k3.a, .int .i64 k3.b, .int .i64 k3.c, .int .i64 k3.d, .int .i64 k3.e, .int .i64 k3.f] 25) = W := ⟨_, rfl⟩
  have A3 : Hid (Blk w10 w9.heap.size #[.int .i64 0, .int .i64 0, .int .i64 0, .int .i64 k3.a, .int .i64 k3.b, .int .i64 k3.c, .int .i64 k3.d, .int .i64 k3.e, .int .i64 k3.f] 25) := Lib.hid (by rw [← hw]; exact Blk.new _ _ _)
  have g10 : Grew w9 w10 := by rw [← hw]; exact (Grew.refl _).alloc _ _
  try rw [hw]
  clear hw
  have GW := GW.trans g10
  have ZP := Lib.hid (ZP.out.grown g10)
  have A1 := Lib.hid (A1.out.grown g10)
  have A2 := Lib.hid (A2.out.grown g10)
  clear g10
  clear t0 t1 t2 t3 t4 t5 t6 t7 t8 t9 t10 t11 t12 l0 l1 h0 h1 q0 q1 q2 ZPb ZP0 ZP1 A1b A10 A11 A12 A13 A14 A15 A16 A17 A18 A2b A20 A21 A22 A23 A24 A25 A26 A27 A28
  obtain ⟨⟨t0, t1, t2, t3, t4, t5, t6, t7, t8, t9, t10, t11, t12⟩, ⟨l0, l1⟩, ⟨h0, h1⟩, q0, q1, q2⟩ := HT.out w10 GW
  have ZPb := ZP.out.lt
  have ZP0 := blkAt ZP.out (i := 0) rfl
  have ZP1 := blkAt ZP.out (i := 1) rfl
  have A1b := A1.out.lt
  have A10 := blkAt A1.out (i := 0) rfl
  have A11 := blkAt A1.out (i := 1) rfl
  have A12 := blkAt A1.out (i := 2) rfl
  have A13 := blkAt A1.out (i := 3) rfl
  have A14 := blkAt A1.out (i := 4) rfl
  have A15 := blkAt A1.out (i := 5) rfl
  have A16 := blkAt A1.out (i := 6) rfl
  have A17 := blkAt A1.out (i := 7) rfl
  have A18 := blkAt A1.out (i := 8) rfl
  have A2b := A2.out.lt
  have A20 := blkAt A2.out (i := 0) rfl
  have A21 := blkAt A2.out (i := 1) rfl
  have A22 := blkAt A2.out (i := 2) rfl
  have A23 := blkAt A2.out (i := 3) rfl
  have A24 := blkAt A2.out (i := 4) rfl
  have A25 := blkAt A2.out (i := 5) rfl
  have A26 := blkAt A2.out (i := 6) rfl
  have A27 := blkAt A2.out (i := 7) rfl
  have A28 := blkAt A2.out (i := 8) rfl
  have A3b := A3.out.lt
  have A30 := blkAt A3.out (i := 0) rfl
  have A31 := blkAt A3.out (i := 1) rfl
  have A32 := blkAt A3.out (i := 2) rfl
  have A33 := blkAt A3.out (i := 3) rfl
  have A34 := blkAt A3.out (i := 4) rfl
  have A35 := blkAt A3.out (i := 5) rfl
  have A36 := blkAt A3.out (i := 6) rfl
  have A37 := blkAt A3.out (i := 7) rfl
  have A38 := blkAt A3.out (i := 8) rfl
  clear B1 B2 B3 IC UC HD
  refine (F1.out _).mono ?_
  rintro e wa ⟨rfl, ga⟩
  have GW := GW.trans ga
  have ZP := Lib.hid (ZP.out.grown ga)
  have A1 := Lib.hid (A1.out.grown ga)
  have A2 := Lib.hid (A2.out.grown ga)
  have A3 := Lib.hid (A3.out.grown ga)
  clear ga
  clear t0 t1 t2 t3 t4 t5 t6 t7 t8 t9 t10 t11 t12 l0 l1 h0 h1 q0 q1 q2 ZPb ZP0 ZP1 A1b A10 A11 A12 A13 A14 A15 A16 A17 A18 A2b A20 A21 A22 A23 A24 A25 A26 A27 A28 A3b A30 A31 A32 A33 A34 A35 A36 A37 A38
  obtain ⟨⟨t0, t1, t2, t3, t4, t5, t6, t7, t8, t9, t10, t11, t12⟩, ⟨l0, l1⟩, ⟨h0, h1⟩, q0, q1, q2⟩ := HT.out wa GW
  have ZPb := ZP.out.lt
  have ZP0 := blkAt ZP.out (i := 0) rfl
  have ZP1 := blkAt ZP.out (i := 1) rfl
  have A1b := A1.out.lt
  have A10 := blkAt A1.out (i := 0) rfl
  have A11 := blkAt A1.out (i := 1) rfl
  have A12 := blkAt A1.out (i := 2) rfl
  have A13 := blkAt A1.out (i := 3) rfl
  have A14 := blkAt A1.out (i := 4) rfl
  have A15 := blkAt A1.out (i := 5) rfl
  have A16 := blkAt A1.out (i := 6) rfl
  have A17 := blkAt A1.out (i := 7) rfl
  have A18 := blkAt A1.out (i := 8) rfl
  have A2b := A2.out.lt
  have A20 := blkAt A2.out (i := 0) rfl
  have A21 := blkAt A2.out (i := 1) rfl
  have A22 := blkAt A2.out (i := 2) rfl
  have A23 := blkAt A2.out (i := 3) rfl
  have A24 := blkAt A2.out (i := 4) rfl
  have A25 := blkAt A2.out (i := 5) rfl
  have A26 := blkAt A2.out (i := 6) rfl
  have A27 := blkAt A2.out (i := 7) rfl
  have A28 := blkAt A2.out (i := 8) rfl
  have A3b := A3.out.lt
  have A30 := blkAt A3.out (i := 0) rfl
  have A31 := blkAt A3.out (i := 1) rfl
  have A32 := blkAt A3.out (i := 2) rfl
  have A33 := blkAt A3.out (i := 3) rfl
  have A34 := blkAt A3.out (i := 4) rfl
  have A35 := blkAt A3.out (i := 5) rfl
  have A36 := blkAt A3.out (i := 6) rfl
  have A37 := blkAt A3.out (i := 7) rfl
  have A38 := blkAt A3.out (i := 8) rfl
  go_wp2_with fail
  refine (F2.out _).mono ?_
  rintro e wb ⟨rfl, gb⟩
  have GW := GW.trans gb
  clear gb
  go_wp2_with fail
  go_ret
  exact ⟨rfl, G0.out.trans GW⟩
theorem greater_true (K : Hl.Code) (t : Ed) (u : Value) (lo hi : Pt) (c d : Int) (x y m : Nat) (w : World) (hs : Rs w u t.l) (hl : t.l.length ≤ 9223372036854775807) (hx : x < 4294967296) (hy : y < 4294967296) (hm : m < 4294967296) :
    Calls Try.prog 5 #[tv t u, .agg #[.int .i64 lo.1, .int .i64 lo.2], .agg #[.int .i64 hi.1, .int .i64 hi.2], .int .i64 c, .int .i64 d, .int .u32 x, .int .u32 y, .int .u32 m] w fun e w' => e = .returned (.bool true) ∧ Grew w w' := by
  by_cases hu : Usb t lo hi c d
  · exact greater_ok K t u lo hi c d x y m w hs hl hx hy hm hu
  · exact greater_bad K t u lo hi c d x y m w hs hl hx hy hm hu
end Td
end Go.Proofs.Ytpiajdahmcelnaa
