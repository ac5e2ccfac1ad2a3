/-
  The law TideWithin.
-/
import Derived.Test.YtpiajdahmcelnaaMTdP
namespace Go.Proofs.Ytpiajdahmcelnaa
open Go.RowKit Hl
namespace Td
set_option maxRecDepth 100000
set_option maxHeartbeats 4000000 in
theorem within_bad (K : Hl.Code) (t : Ed) (u : Value) (lo hi : Pt) (c d : Int) (x y m : Nat) (w : World) (hs : Rs w u t.l) (hl : t.l.length ≤ 9223372036854775807) (_hx : x < 4294967296) (_hy : y < 4294967296) (_hm : m < 4294967296) (hu : ¬ Usb t lo hi c d) :
    Calls Try.prog 3 #[tv t u, .agg #[.int .i64 lo.1, .int .i64 lo.2], .agg #[.int .i64 hi.1, .int .i64 hi.2], .int .i64 c, .int .i64 d, .int .u32 x, .int .u32 y, .int .u32 m] w fun e w' => e = .returned (.bool true) ∧ Grew w w' := by
  have HD : Hid (∀ W, Calls Try.prog 9 #[] W fun e w' => e = .returned (.bool true) ∧ Grew W w') := Lib.hid (fun W => head_true K W)
  have UC : Hid (∀ W, Grew w W → Calls Try.prog 10 #[tv t u, .agg #[.int .i64 lo.1, .int .i64 lo.2], .agg #[.int .i64 hi.1, .int .i64 hi.2], .int .i64 c, .int .i64 d] W fun e w' => e = .returned (.bool false) ∧ Grew W w') := Lib.hid (fun W g => by
    have h := usable_c t u lo hi c d W (hs.grew g) hl
    rwa [decide_eq_false hu] at h)
  unfold tv at UC ⊢
  clear hs hu K
  have HT : Hid (∀ W, Grew (((w.alloc (.cells #[.int .i64 t.v, .int .i64 t.z, .int .i64 t.n, .int .i64 t.r.x, .int .i64 t.r.y, .int .i64 t.r.s, .int .i64 t.r.k.a, .int .i64 t.r.k.b, .int .i64 t.r.k.c, .int .i64 t.r.k.d, .int .i64 t.r.k.e, .int .i64 t.r.k.f, u] 28)).alloc (.cells #[.int .i64 lo.1, .int .i64 lo.2] 30)).alloc (.cells #[.int .i64 hi.1, .int .i64 hi.2] 30)) W → ((W.cell? ⟨w.heap.size, 0, none⟩ = some (.int .i64 t.v) ∧ W.cell? ⟨w.heap.size, 1, none⟩ = some (.int .i64 t.z) ∧ W.cell? ⟨w.heap.size, 2, none⟩ = some (.int .i64 t.n) ∧ W.cell? ⟨w.heap.size, 3, none⟩ = some (.int .i64 t.r.x) ∧ W.cell? ⟨w.heap.size, 4, none⟩ = some (.int .i64 t.r.y) ∧ W.cell? ⟨w.heap.size, 5, none⟩ = some (.int .i64 t.r.s) ∧ W.cell? ⟨w.heap.size, 6, none⟩ = some (.int .i64 t.r.k.a) ∧ W.cell? ⟨w.heap.size, 7, none⟩ = some (.int .i64 t.r.k.b) ∧ W.cell? ⟨w.heap.size, 8, none⟩ = some (.int .i64 t.r.k.c) ∧ W.cell? ⟨w.heap.size, 9, none⟩ = some (.int .i64 t.r.k.d) ∧ W.cell? ⟨w.heap.size, 10, none⟩ = some (.int .i64 t.r.k.e) ∧ W.cell? ⟨w.heap.size, 11, none⟩ = some (.int .i64 t.r.k.f) ∧ W.cell? ⟨w.heap.size, 12, none⟩ = some (u)) ∧ (W.cell? ⟨w.heap.size + 1, 0, none⟩ = some (.int .i64 lo.1) ∧ W.cell? ⟨w.heap.size + 1, 1, none⟩ = some (.int .i64 lo.2)) ∧ (W.cell? ⟨w.heap.size + 1 + 1, 0, none⟩ = some (.int .i64 hi.1) ∧ W.cell? ⟨w.heap.size + 1 + 1, 1, none⟩ = some (.int .i64 hi.2)) ∧ w.heap.size < W.heap.size ∧ w.heap.size + 1 < W.heap.size ∧ w.heap.size + 1 + 1 < W.heap.size)) := Lib.hid (fun W g => by
    have b0 := (((Blk.new w #[.int .i64 t.v, .int .i64 t.z, .int .i64 t.n, .int .i64 t.r.x, .int .i64 t.r.y, .int .i64 t.r.s, .int .i64 t.r.k.a, .int .i64 t.r.k.b, .int .i64 t.r.k.c, .int .i64 t.r.k.d, .int .i64 t.r.k.e, .int .i64 t.r.k.f, u] 28).alloc (.cells #[.int .i64 lo.1, .int .i64 lo.2] 30)).alloc (.cells #[.int .i64 hi.1, .int .i64 hi.2] 30)).grown g
    have b1 := ((blkN (W := w.alloc (.cells #[.int .i64 t.v, .int .i64 t.z, .int .i64 t.n, .int .i64 t.r.x, .int .i64 t.r.y, .int .i64 t.r.s, .int .i64 t.r.k.a, .int .i64 t.r.k.b, .int .i64 t.r.k.c, .int .i64 t.r.k.d, .int .i64 t.r.k.e, .int .i64 t.r.k.f, u] 28)) (k := w.heap.size + 1) (cs := #[.int .i64 lo.1, .int .i64 lo.2]) (t := 30) (by simp)).alloc (.cells #[.int .i64 hi.1, .int .i64 hi.2] 30)).grown g
    have b2 := (blkN (W := (w.alloc (.cells #[.int .i64 t.v, .int .i64 t.z, .int .i64 t.n, .int .i64 t.r.x, .int .i64 t.r.y, .int .i64 t.r.s, .int .i64 t.r.k.a, .int .i64 t.r.k.b, .int .i64 t.r.k.c, .int .i64 t.r.k.d, .int .i64 t.r.k.e, .int .i64 t.r.k.f, u] 28)).alloc (.cells #[.int .i64 lo.1, .int .i64 lo.2] 30)) (k := w.heap.size + 1 + 1) (cs := #[.int .i64 hi.1, .int .i64 hi.2]) (t := 30) (by simp)).grown g
    exact ⟨⟨blkAt b0 rfl, blkAt b0 rfl, blkAt b0 rfl, blkAt b0 rfl, blkAt b0 rfl, blkAt b0 rfl, blkAt b0 rfl, blkAt b0 rfl, blkAt b0 rfl, blkAt b0 rfl, blkAt b0 rfl, blkAt b0 rfl, blkAt b0 rfl⟩, ⟨blkAt b1 rfl, blkAt b1 rfl⟩, ⟨blkAt b2 rfl, blkAt b2 rfl⟩, b0.lt, b1.lt, b2.lt⟩)
  have G0 : Hid (Grew w (((w.alloc (.cells #[.int .i64 t.v, .int .i64 t.z, .int .i64 t.n, .int .i64 t.r.x, .int .i64 t.r.y, .int .i64 t.r.s, .int .i64 t.r.k.a, .int .i64 t.r.k.b, .int .i64 t.r.k.c, .int .i64 t.r.k.d, .int .i64 t.r.k.e, .int .i64 t.r.k.f, u] 28)).alloc (.cells #[.int .i64 lo.1, .int .i64 lo.2] 30)).alloc (.cells #[.int .i64 hi.1, .int .i64 hi.2] 30))) := Lib.hid (((Grew.refl w).alloc _ _).alloc _ _ |>.alloc _ _)
  go_enter Try.func3, Try.ntmps3
  go_wp2_with fail
  refine (HD.out _).mono ?_
  rintro e w1 ⟨rfl, g1⟩
  have GW := g1
  obtain ⟨⟨t0, t1, t2, t3, t4, t5, t6, t7, t8, t9, t10, t11, t12⟩, ⟨l0, l1⟩, ⟨h0, h1⟩, q0, q1, q2⟩ := HT.out w1 GW
  go_wp2_with fail
  refine (UC.out _ (G0.out.trans GW)).mono ?_
  rintro e w2 ⟨rfl, g2⟩
  go_wp2_with fail
  go_ret
  exact ⟨rfl, (G0.out.trans GW).trans g2⟩
set_option maxHeartbeats 16000000 in
theorem within_ok (K : Hl.Code) (t : Ed) (u : Value) (lo hi : Pt) (c d : Int) (x y m : Nat) (w : World) (hs : Rs w u t.l) (hl : t.l.length ≤ 9223372036854775807) (hx : x < 4294967296) (hy : y < 4294967296) (hm : m < 4294967296) (hu : Usb t lo hi c d) :
    Calls Try.prog 3 #[tv t u, .agg #[.int .i64 lo.1, .int .i64 lo.2], .agg #[.int .i64 hi.1, .int .i64 hi.2], .int .i64 c, .int .i64 d, .int .u32 x, .int .u32 y, .int .u32 m] w fun e w' => e = .returned (.bool true) ∧ Grew w w' := by
  have hb := hu.ok
  have hz := plc_ins hb.2.1 x y
  have hzi := ins_in hb.2.1.2.2 x y
  have hti := tin_in hb.2.2.2.1 m
  have hb1 : BOk t (ins lo hi x y) (ins lo hi x y) (tin c d m) (tin c d m) := ⟨hb.1, ⟨hz, hz, Int.le_refl _, Int.le_refl _⟩, ⟨by have := hb.2.2.1; omega, Int.le_refl _, by have := hb.2.2.2.2; omega⟩⟩
  have w1' := ovB_mono hb hb1 ⟨hzi.1.1, hzi.2.1⟩ ⟨hzi.1.2, hzi.2.2⟩ ⟨hti.1, hti.2⟩
  have HD : Hid (∀ W, Calls Try.prog 9 #[] W fun e w' => e = .returned (.bool true) ∧ Grew W w') := Lib.hid (fun W => head_true K W)
  have UC : Hid (∀ W, Grew w W → Calls Try.prog 10 #[tv t u, .agg #[.int .i64 lo.1, .int .i64 lo.2], .agg #[.int .i64 hi.1, .int .i64 hi.2], .int .i64 c, .int .i64 d] W fun e w' => e = .returned (.bool true) ∧ Grew W w') := Lib.hid (fun W g => by
    have h := usable_c t u lo hi c d W (hs.grew g) hl
    rwa [decide_eq_true hu] at h)
  have IC : Hid (∀ W, Calls Try.prog 13 #[.agg #[.int .i64 lo.1, .int .i64 lo.2], .agg #[.int .i64 hi.1, .int .i64 hi.2], .int .u32 x, .int .u32 y] W fun e w' => e = .returned (.agg #[.int .i64 (ins lo hi x y).1, .int .i64 (ins lo hi x y).2]) ∧ Grew W w') := Lib.hid (fun W => inside_c lo hi x y W hb.2.1 hx hy)
  have B1 : Hid (∀ W, Grew w W → Calls Try.prog 11 #[tv t u, .agg #[.int .i64 lo.1, .int .i64 lo.2], .agg #[.int .i64 hi.1, .int .i64 hi.2], .int .i64 c, .int .i64 d] W fun e w' => e = .returned (.tuple #[.agg #[.int .i64 0, .int .i64 0, .int .i64 0, .int .i64 (OvB t lo hi c d).a, .int .i64 (OvB t lo hi c d).b, .int .i64 (OvB t lo hi c d).c, .int .i64 (OvB t lo hi c d).d, .int .i64 (OvB t lo hi c d).e, .int .i64 (OvB t lo hi c d).f], .int .i64 0]) ∧ Grew W w') := Lib.hid (fun W g => by
    have h := bound_c K t u lo hi c d W (hs.grew g) hl
    rw [bA_yes hb] at h
    exact h)
  have A2 : Hid (∀ W, Grew w W → Calls Try.prog 12 #[tv t u, .agg #[.int .i64 (ins lo hi x y).1, .int .i64 (ins lo hi x y).2], .int .i64 (tin c d m)] W fun e w' => e = .returned (.tuple #[.agg #[.int .i64 0, .int .i64 0, .int .i64 0, .int .i64 (OvB t (ins lo hi x y) (ins lo hi x y) (tin c d m) (tin c d m)).a, .int .i64 (OvB t (ins lo hi x y) (ins lo hi x y) (tin c d m) (tin c d m)).b, .int .i64 (OvB t (ins lo hi x y) (ins lo hi x y) (tin c d m) (tin c d m)).c, .int .i64 (OvB t (ins lo hi x y) (ins lo hi x y) (tin c d m) (tin c d m)).d, .int .i64 (OvB t (ins lo hi x y) (ins lo hi x y) (tin c d m) (tin c d m)).e, .int .i64 (OvB t (ins lo hi x y) (ins lo hi x y) (tin c d m) (tin c d m)).f], .int .i64 0]) ∧ Grew W w') := Lib.hid (fun W g => by
    have h := at_c K t u (ins lo hi x y) (tin c d m) W (hs.grew g) hl
    rw [bA_yes hb1] at h
    exact h)
  have F1 := Lib.hid (flowIn_yes _ _ w1')
  obtain ⟨c0, c1, c2⟩ : 0 ≤ c ∧ c ≤ d ∧ d ≤ 1000000000 := hb.2.2
  have TE : Hid (tin c d m = c + (m : Int) % (d - c + 1)) := Lib.hid rfl
  have e1 : ((m : Int)).tmod (d - c + 1) = (m : Int) % (d - c + 1) := Int.tmod_eq_emod_of_nonneg (by omega)
  have e2 := Int.emod_nonneg (m : Int) (show d - c + 1 ≠ 0 by omega)
  have e3 := Int.emod_lt_of_pos (m : Int) (show 0 < d - c + 1 by omega)
  have n1 : ¬ d - c + 1 = 0 := by omega
  have M0 : (0 : Int) ≤ (m : Int) := by omega
  have M1 : (m : Int) < 4294967296 := by omega
  unfold tv at UC B1 A2 ⊢
  clear hs hu K hb hz hzi hti hb1 w1'
  generalize OvB t lo hi c d = k1 at *
  generalize OvB t (ins lo hi x y) (ins lo hi x y) (tin c d m) (tin c d m) = k2 at *
  generalize ins lo hi x y = p at *
  rw [TE.out] at A2
  generalize (m : Int) % (d - c + 1) = r at *
  have k1' : IntKind.i64.wrap (d - c) = d - c := by rw [IntKind.wrap_i64]; omega
  have k3' : IntKind.i64.wrap (d - c + 1) = d - c + 1 := by rw [IntKind.wrap_i64]; omega
  have k5' : IntKind.i64.wrap (m : Int) = (m : Int) := by rw [IntKind.wrap_i64]; omega
  have k7' : IntKind.i64.wrap (c + r) = c + r := by rw [IntKind.wrap_i64]; omega
  have k9' : IntKind.i64.wrap r = r := by rw [IntKind.wrap_i64]; omega
  have HT : Hid (∀ W, Grew (((w.alloc (.cells #[.int .i64 t.v, .int .i64 t.z, .int .i64 t.n, .int .i64 t.r.x, .int .i64 t.r.y, .int .i64 t.r.s, .int .i64 t.r.k.a, .int .i64 t.r.k.b, .int .i64 t.r.k.c, .int .i64 t.r.k.d, .int .i64 t.r.k.e, .int .i64 t.r.k.f, u] 28)).alloc (.cells #[.int .i64 lo.1, .int .i64 lo.2] 30)).alloc (.cells #[.int .i64 hi.1, .int .i64 hi.2] 30)) W → ((W.cell? ⟨w.heap.size, 0, none⟩ = some (.int .i64 t.v) ∧ W.cell? ⟨w.heap.size, 1, none⟩ = some (.int .i64 t.z) ∧ W.cell? ⟨w.heap.size, 2, none⟩ = some (.int .i64 t.n) ∧ W.cell? ⟨w.heap.size, 3, none⟩ = some (.int .i64 t.r.x) ∧ W.cell? ⟨w.heap.size, 4, none⟩ = some (.int .i64 t.r.y) ∧ W.cell? ⟨w.heap.size, 5, none⟩ = some (.int .i64 t.r.s) ∧ W.cell? ⟨w.heap.size, 6, none⟩ = some (.int .i64 t.r.k.a) ∧ W.cell? ⟨w.heap.size, 7, none⟩ = some (.int .i64 t.r.k.b) ∧ W.cell? ⟨w.heap.size, 8, none⟩ = some (.int .i64 t.r.k.c) ∧ W.cell? ⟨w.heap.size, 9, none⟩ = some (.int .i64 t.r.k.d) ∧ W.cell? ⟨w.heap.size, 10, none⟩ = some (.int .i64 t.r.k.e) ∧ W.cell? ⟨w.heap.size, 11, none⟩ = some (.int .i64 t.r.k.f) ∧ W.cell? ⟨w.heap.size, 12, none⟩ = some (u)) ∧ (W.cell? ⟨w.heap.size + 1, 0, none⟩ = some (.int .i64 lo.1) ∧ W.cell? ⟨w.heap.size + 1, 1, none⟩ = some (.int .i64 lo.2)) ∧ (W.cell? ⟨w.heap.size + 1 + 1, 0, none⟩ = some (.int .i64 hi.1) ∧ W.cell? ⟨w.heap.size + 1 + 1, 1, none⟩ = some (.int .i64 hi.2)) ∧ w.heap.size < W.heap.size ∧ w.heap.size + 1 < W.heap.size ∧ w.heap.size + 1 + 1 < W.heap.size)) := Lib.hid (fun W g => by
    have b0 := (((Blk.new w #[.int .i64 t.v, .int .i64 t.z, .int .i64 t.n, .int .i64 t.r.x, .int .i64 t.r.y, .int .i64 t.r.s, .int .i64 t.r.k.a, .int .i64 t.r.k.b, .int .i64 t.r.k.c, .int .i64 t.r.k.d, .int .i64 t.r.k.e, .int .i64 t.r.k.f, u] 28).alloc (.cells #[.int .i64 lo.1, .int .i64 lo.2] 30)).alloc (.cells #[.int .i64 hi.1, .int .i64 hi.2] 30)).grown g
    have b1 := ((blkN (W := w.alloc (.cells #[.int .i64 t.v, .int .i64 t.z, .int .i64 t.n, .int .i64 t.r.x, .int .i64 t.r.y, .int .i64 t.r.s, .int .i64 t.r.k.a, .int .i64 t.r.k.b, .int .i64 t.r.k.c, .int .i64 t.r.k.d, .int .i64 t.r.k.e, .int .i64 t.r.k.f, u] 28)) (k := w.heap.size + 1) (cs := #[.int .i64 lo.1, .int .i64 lo.2]) (t := 30) (by simp)).alloc (.cells #[.int .i64 hi.1, .int .i64 hi.2] 30)).grown g
    have b2 := (blkN (W := (w.alloc (.cells #[.int .i64 t.v, .int .i64 t.z, .int .i64 t.n, .int .i64 t.r.x, .int .i64 t.r.y, .int .i64 t.r.s, .int .i64 t.r.k.a, .int .i64 t.r.k.b, .int .i64 t.r.k.c, .int .i64 t.r.k.d, .int .i64 t.r.k.e, .int .i64 t.r.k.f, u] 28)).alloc (.cells #[.int .i64 lo.1, .int .i64 lo.2] 30)) (k := w.heap.size + 1 + 1) (cs := #[.int .i64 hi.1, .int .i64 hi.2]) (t := 30) (by simp)).grown g
    exact ⟨⟨blkAt b0 rfl, blkAt b0 rfl, blkAt b0 rfl, blkAt b0 rfl, blkAt b0 rfl, blkAt b0 rfl, blkAt b0 rfl, blkAt b0 rfl, blkAt b0 rfl, blkAt b0 rfl, blkAt b0 rfl, blkAt b0 rfl, blkAt b0 rfl⟩, ⟨blkAt b1 rfl, blkAt b1 rfl⟩, ⟨blkAt b2 rfl, blkAt b2 rfl⟩, b0.lt, b1.lt, b2.lt⟩)
  have G0 : Hid (Grew w (((w.alloc (.cells #[.int .i64 t.v, .int .i64 t.z, .int .i64 t.n, .int .i64 t.r.x, .int .i64 t.r.y, .int .i64 t.r.s, .int .i64 t.r.k.a, .int .i64 t.r.k.b, .int .i64 t.r.k.c, .int .i64 t.r.k.d, .int .i64 t.r.k.e, .int .i64 t.r.k.f, u] 28)).alloc (.cells #[.int .i64 lo.1, .int .i64 lo.2] 30)).alloc (.cells #[.int .i64 hi.1, .int .i64 hi.2] 30))) := Lib.hid (((Grew.refl w).alloc _ _).alloc _ _ |>.alloc _ _)
  go_enter Try.func3, Try.ntmps3
  go_wp2_with fail
  refine (HD.out _).mono ?_
  rintro e w1 ⟨rfl, GW⟩
  obtain ⟨⟨t0, t1, t2, t3, t4, t5, t6, t7, t8, t9, t10, t11, t12⟩, ⟨l0, l1⟩, ⟨h0, h1⟩, q0, q1, q2⟩ := HT.out w1 GW
  go_wp2_with fail
  refine (UC.out _ (G0.out.trans GW)).mono ?_
  rintro e w2 ⟨rfl, g2⟩
  have GW := GW.trans g2
  clear g2
  clear t0 t1 t2 t3 t4 t5 t6 t7 t8 t9 t10 t11 t12 l0 l1 h0 h1 q0 q1 q2 
  obtain ⟨⟨t0, t1, t2, t3, t4, t5, t6, t7, t8, t9, t10, t11, t12⟩, ⟨l0, l1⟩, ⟨h0, h1⟩, q0, q1, q2⟩ := HT.out w2 GW
  go_wp2_with fail
  refine (B1.out _ (G0.out.trans GW)).mono ?_
  rintro e w5 ⟨rfl, g5⟩
  have GW := GW.trans g5
  clear g5
  clear t0 t1 t2 t3 t4 t5 t6 t7 t8 t9 t10 t11 t12 l0 l1 h0 h1 q0 q1 q2 
  obtain ⟨⟨t0, t1, t2, t3, t4, t5, t6, t7, t8, t9, t10, t11, t12⟩, ⟨l0, l1⟩, ⟨h0, h1⟩, q0, q1, q2⟩ := HT.out w5 GW
  go_wp2_with fail
  obtain ⟨w6, hw⟩ : ∃ W, w5.alloc (.cells #[.int .i64 0, .int .i64 0, .int .i64 0, .int .i64 k1.a, .int .i64 k1.b, .int .i64 k1.c, .int .i64 k1.d, .int .i64 k1.e, .int .i64 k1.f] 25) = W := ⟨_, rfl⟩
  have A1 : Hid (Blk w6 w5.heap.size #[.int .i64 0, .int .i64 0, .int .i64 0, .int .i64 k1.a, .int .i64 k1.b, .int .i64 k1.c, .int .i64 k1.d, .int .i64 k1.e, .int .i64 k1.f] 25) := Lib.hid (by rw [← hw]; exact Blk.new _ _ _)
  have GW : Grew _ w6 := GW.trans (by rw [← hw]; exact (Grew.refl _).alloc _ _)
  try rw [hw]
  clear hw
  clear t0 t1 t2 t3 t4 t5 t6 t7 t8 t9 t10 t11 t12 l0 l1 h0 h1 q0 q1 q2 
  have HW := Lib.hid GW
  clear GW HD UC B1
  have KS : Hid (∀ W, Grew w6 W → (W.cell? ⟨w.heap.size, 0, none⟩ = some (.int .i64 t.v) ∧ W.cell? ⟨w.heap.size, 1, none⟩ = some (.int .i64 t.z) ∧ W.cell? ⟨w.heap.size, 2, none⟩ = some (.int .i64 t.n) ∧ W.cell? ⟨w.heap.size, 3, none⟩ = some (.int .i64 t.r.x) ∧ W.cell? ⟨w.heap.size, 4, none⟩ = some (.int .i64 t.r.y) ∧ W.cell? ⟨w.heap.size, 5, none⟩ = some (.int .i64 t.r.s) ∧ W.cell? ⟨w.heap.size, 6, none⟩ = some (.int .i64 t.r.k.a) ∧ W.cell? ⟨w.heap.size, 7, none⟩ = some (.int .i64 t.r.k.b) ∧ W.cell? ⟨w.heap.size, 8, none⟩ = some (.int .i64 t.r.k.c) ∧ W.cell? ⟨w.heap.size, 9, none⟩ = some (.int .i64 t.r.k.d) ∧ W.cell? ⟨w.heap.size, 10, none⟩ = some (.int .i64 t.r.k.e) ∧ W.cell? ⟨w.heap.size, 11, none⟩ = some (.int .i64 t.r.k.f) ∧ W.cell? ⟨w.heap.size, 12, none⟩ = some (u) ∧ W.cell? ⟨w.heap.size + 1, 0, none⟩ = some (.int .i64 lo.1) ∧ W.cell? ⟨w.heap.size + 1, 1, none⟩ = some (.int .i64 lo.2) ∧ W.cell? ⟨w.heap.size + 1 + 1, 0, none⟩ = some (.int .i64 hi.1) ∧ W.cell? ⟨w.heap.size + 1 + 1, 1, none⟩ = some (.int .i64 hi.2))) := Lib.hid (fun W g => by
    obtain ⟨⟨t0, t1, t2, t3, t4, t5, t6, t7, t8, t9, t10, t11, t12⟩, ⟨l0, l1⟩, ⟨h0, h1⟩, _⟩ := HT.out W (HW.out.trans g)
    exact ⟨t0, t1, t2, t3, t4, t5, t6, t7, t8, t9, t10, t11, t12, l0, l1, h0, h1⟩)
  have GA := Grew.refl w6
  go_cut [20, 21] from 40 to 58 (fun s20 s21 wx => ∃ B, s20 = .pointer (some ⟨B, 0, none⟩) ∧ s21 = .int .i64 0 ∧ Hid (Blk wx B #[.int .i64 0, .int .i64 0, .int .i64 0, .int .i64 k2.a, .int .i64 k2.b, .int .i64 k2.c, .int .i64 k2.d, .int .i64 k2.e, .int .i64 k2.f] 25) ∧ Grew w6 wx)
  case first =>
    go_region_held3 (fun W => W.cell? ⟨w.heap.size, 0, none⟩ = some (.int .i64 t.v) ∧ W.cell? ⟨w.heap.size, 1, none⟩ = some (.int .i64 t.z) ∧ W.cell? ⟨w.heap.size, 2, none⟩ = some (.int .i64 t.n) ∧ W.cell? ⟨w.heap.size, 3, none⟩ = some (.int .i64 t.r.x) ∧ W.cell? ⟨w.heap.size, 4, none⟩ = some (.int .i64 t.r.y) ∧ W.cell? ⟨w.heap.size, 5, none⟩ = some (.int .i64 t.r.s) ∧ W.cell? ⟨w.heap.size, 6, none⟩ = some (.int .i64 t.r.k.a) ∧ W.cell? ⟨w.heap.size, 7, none⟩ = some (.int .i64 t.r.k.b) ∧ W.cell? ⟨w.heap.size, 8, none⟩ = some (.int .i64 t.r.k.c) ∧ W.cell? ⟨w.heap.size, 9, none⟩ = some (.int .i64 t.r.k.d) ∧ W.cell? ⟨w.heap.size, 10, none⟩ = some (.int .i64 t.r.k.e) ∧ W.cell? ⟨w.heap.size, 11, none⟩ = some (.int .i64 t.r.k.f) ∧ W.cell? ⟨w.heap.size, 12, none⟩ = some (u) ∧ W.cell? ⟨w.heap.size + 1, 0, none⟩ = some (.int .i64 lo.1) ∧ W.cell? ⟨w.heap.size + 1, 1, none⟩ = some (.int .i64 lo.2) ∧ W.cell? ⟨w.heap.size + 1 + 1, 0, none⟩ = some (.int .i64 hi.1) ∧ W.cell? ⟨w.heap.size + 1 + 1, 1, none⟩ = some (.int .i64 hi.2)) (exact KS.out _ (by (repeat' (first | (with_reducible exact Grew.refl _) | (with_reducible assumption) | (with_reducible refine Grew.alloc ?_ _ _) | (with_reducible refine Grew.drew ?_) | (with_reducible refine Grew.drewN ?_ _) | (with_reducible refine Grew.setCell ?_ ?_ _) | go_size))))
      (first
        | (go_at_call 13; refine (IC.out _).mono ?_; rintro e w7 ⟨rfl, gn⟩; (first | (have BK := Lib.hid ((Blk.new _ _ _).grown gn)) | (have BK := Lib.hid ((Blk.drew (Blk.new _ _ _)).grown gn)) | (have BK := Lib.hid (BK.out.grown gn)) | skip); (try rw [World.size_drew] at BK); have GA : Grew w6 w7 := Grew.trans (by (repeat' (first | (with_reducible exact Grew.refl _) | (with_reducible assumption) | (with_reducible refine Grew.alloc ?_ _ _) | (with_reducible refine Grew.drew ?_) | (with_reducible refine Grew.drewN ?_ _) | (with_reducible refine Grew.setCell ?_ ?_ _) | go_size))) gn; have zq := GA.size; clear gn)
        | (go_at_call 12; refine (A2.out _ (G0.out.trans (HW.out.trans (by (repeat' (first | (with_reducible exact Grew.refl _) | (with_reducible assumption) | (with_reducible refine Grew.alloc ?_ _ _) | (with_reducible refine Grew.drew ?_) | (with_reducible refine Grew.drewN ?_ _) | (with_reducible refine Grew.setCell ?_ ?_ _) | go_size)))))).mono ?_; rintro e w8 ⟨rfl, gn⟩; (first | (have BK := Lib.hid ((Blk.new _ _ _).grown gn)) | (have BK := Lib.hid ((Blk.drew (Blk.new _ _ _)).grown gn)) | (have BK := Lib.hid (BK.out.grown gn)) | skip); (try rw [World.size_drew] at BK); have GA : Grew w6 w8 := Grew.trans (by (repeat' (first | (with_reducible exact Grew.refl _) | (with_reducible assumption) | (with_reducible refine Grew.alloc ?_ _ _) | (with_reducible refine Grew.drew ?_) | (with_reducible refine Grew.drewN ?_ _) | (with_reducible refine Grew.setCell ?_ ?_ _) | go_size))) gn; have zq := GA.size; (try (have yl := BK.out.lt)); (try ((have y0 := blkAt BK.out (i := 0) (v := .int .i64 0) rfl); (have v0 := blkFz BK.out (i := 0) (by simp)); (have y1 := blkAt BK.out (i := 1) (v := .int .i64 0) rfl); (have v1 := blkFz BK.out (i := 1) (by simp)); (have y2 := blkAt BK.out (i := 2) (v := .int .i64 0) rfl); (have v2 := blkFz BK.out (i := 2) (by simp)); (have y3 := blkAt BK.out (i := 3) (v := .int .i64 0) rfl); (have v3 := blkFz BK.out (i := 3) (by simp)); (have y4 := blkAt BK.out (i := 4) (v := .int .i64 0) rfl); (have v4 := blkFz BK.out (i := 4) (by simp)); (have y5 := blkAt BK.out (i := 5) (v := .int .i64 0) rfl); (have v5 := blkFz BK.out (i := 5) (by simp)); (have y6 := blkAt BK.out (i := 6) (v := .int .i64 0) rfl); (have v6 := blkFz BK.out (i := 6) (by simp)); (have y7 := blkAt BK.out (i := 7) (v := .int .i64 0) rfl); (have v7 := blkFz BK.out (i := 7) (by simp)); (have y8 := blkAt BK.out (i := 8) (v := .int .i64 0) rfl); (have v8 := blkFz BK.out (i := 8) (by simp)))); clear gn))
    all_goals (go_wp2_with fail; go_meet)
    all_goals first
      | (have _ := BK.out; exact ⟨_, rfl, rfl, Lib.hid (Blk.put9 BK.out), Grew.put9 GA (by omega)⟩)
      | exact ⟨_, rfl, rfl, Lib.hid (Blk.new _ _ _), Grew.alloc GA _ _⟩
  case rest =>
    clear KS GA IC A2
    obtain ⟨B2, rfl, rfl, H2, GN⟩ := hcut
    have H1 := Lib.hid (A1.out.grown GN)
    have HW := Lib.hid (HW.out.trans GN)
    clear GN
    have pb := H1.out.lt
    have p0 := blkAt H1.out (i := 0) rfl
    have p1 := blkAt H1.out (i := 1) rfl
    have p2 := blkAt H1.out (i := 2) rfl
    have p3 := blkAt H1.out (i := 3) rfl
    have p4 := blkAt H1.out (i := 4) rfl
    have p5 := blkAt H1.out (i := 5) rfl
    have p6 := blkAt H1.out (i := 6) rfl
    have p7 := blkAt H1.out (i := 7) rfl
    have p8 := blkAt H1.out (i := 8) rfl
    have qb := H2.out.lt
    have q0 := blkAt H2.out (i := 0) rfl
    have q1 := blkAt H2.out (i := 1) rfl
    have q2 := blkAt H2.out (i := 2) rfl
    have q3 := blkAt H2.out (i := 3) rfl
    have q4 := blkAt H2.out (i := 4) rfl
    have q5 := blkAt H2.out (i := 5) rfl
    have q6 := blkAt H2.out (i := 6) rfl
    have q7 := blkAt H2.out (i := 7) rfl
    have q8 := blkAt H2.out (i := 8) rfl
    go_wp2_with fail
    refine (F1.out _).mono ?_
    rintro e w9 ⟨rfl, g9⟩
    go_wp2_with fail
    go_ret
    exact ⟨rfl, (G0.out.trans HW.out).trans g9⟩
theorem within_true (K : Hl.Code) (t : Ed) (u : Value) (lo hi : Pt) (c d : Int) (x y m : Nat) (w : World) (hs : Rs w u t.l) (hl : t.l.length ≤ 9223372036854775807) (hx : x < 4294967296) (hy : y < 4294967296) (hm : m < 4294967296) :
    Calls Try.prog 3 #[tv t u, .agg #[.int .i64 lo.1, .int .i64 lo.2], .agg #[.int .i64 hi.1, .int .i64 hi.2], .int .i64 c, .int .i64 d, .int .u32 x, .int .u32 y, .int .u32 m] w fun e w' => e = .returned (.bool true) ∧ Grew w w' := by
  by_cases hu : Usb t lo hi c d
  · exact within_ok K t u lo hi c d x y m w hs hl hx hy hm hu
  · exact within_bad K t u lo hi c d x y m w hs hl hx hy hm hu
end Td
end Go.Proofs.Ytpiajdahmcelnaa
