/-
  The law TideAfter.
-/
import Derived.Test.YtpiajdahmcelnaaMTdS
namespace Go.Proofs.Ytpiajdahmcelnaa
open Go.RowKit Hl
namespace Td
set_option maxRecDepth 100000
set_option maxHeartbeats 8000000 in
theorem after_bad (K : Hl.Code) (t : Ed) (u : Value) (x : Pt) (c d : Int) (m : Nat) (w : World) (_hm : m < 4294967296) (hu : ¬ Usb (dry t) x x c d) :
    Calls Try.prog 7 #[tv t u, .agg #[.int .i64 x.1, .int .i64 x.2], .int .i64 c, .int .i64 d, .int .u32 m] w fun e w' => e = .returned (.bool true) ∧ Grew w w' := by
  have HD : Hid (∀ W, Calls Try.prog 9 #[] W fun e w' => e = .returned (.bool true) ∧ Grew W w') := Lib.hid (fun W => head_true K W)
  have UC : Hid (∀ W, Calls Try.prog 10 #[.agg #[.int .i64 t.v, .int .i64 t.z, .int .i64 t.n, .int .i64 t.r.x, .int .i64 t.r.y, .int .i64 t.r.s, .int .i64 t.r.k.a, .int .i64 t.r.k.b, .int .i64 t.r.k.c, .int .i64 t.r.k.d, .int .i64 t.r.k.e, .int .i64 t.r.k.f, .slice none 0 0], .agg #[.int .i64 x.1, .int .i64 x.2], .agg #[.int .i64 x.1, .int .i64 x.2], .int .i64 c, .int .i64 d] W fun e w' => e = .returned (.bool false) ∧ Grew W w') := Lib.hid (fun W => by
    have h := usable_c (dry t) (.slice none 0 0) x x c d W (Rs.nil _ _ _) (Nat.zero_le _)
    rw [decide_eq_false hu] at h
    exact h)
  unfold tv
  clear hu K
  go_enter Try.func7, Try.ntmps7
  go_wp2_with fail
  refine (HD.out _).mono ?_
  rintro e w1 ⟨rfl, g1⟩
  have BT := Lib.hid (((Blk.new w #[.int .i64 t.v, .int .i64 t.z, .int .i64 t.n, .int .i64 t.r.x, .int .i64 t.r.y, .int .i64 t.r.s, .int .i64 t.r.k.a, .int .i64 t.r.k.b, .int .i64 t.r.k.c, .int .i64 t.r.k.d, .int .i64 t.r.k.e, .int .i64 t.r.k.f, u] 28).alloc (.cells #[.int .i64 x.1, .int .i64 x.2] 30)).grown g1)
  have BX := Lib.hid ((blkN (W := w.alloc (.cells #[.int .i64 t.v, .int .i64 t.z, .int .i64 t.n, .int .i64 t.r.x, .int .i64 t.r.y, .int .i64 t.r.s, .int .i64 t.r.k.a, .int .i64 t.r.k.b, .int .i64 t.r.k.c, .int .i64 t.r.k.d, .int .i64 t.r.k.e, .int .i64 t.r.k.f, u] 28)) (k := w.heap.size + 1) (cs := #[.int .i64 x.1, .int .i64 x.2]) (t := 30) (by simp)).grown g1)
  have GW : Grew w w1 := (((Grew.refl w).alloc _ _).alloc _ _).trans g1
  clear g1
  have t0 := blkAt BT.out (i := 0) rfl
  have t1 := blkAt BT.out (i := 1) rfl
  have t2 := blkAt BT.out (i := 2) rfl
  have t3 := blkAt BT.out (i := 3) rfl
  have t4 := blkAt BT.out (i := 4) rfl
  have t5 := blkAt BT.out (i := 5) rfl
  have t6 := blkAt BT.out (i := 6) rfl
  have t7 := blkAt BT.out (i := 7) rfl
  have t8 := blkAt BT.out (i := 8) rfl
  have t9 := blkAt BT.out (i := 9) rfl
  have t10 := blkAt BT.out (i := 10) rfl
  have t11 := blkAt BT.out (i := 11) rfl
  have t12 := blkAt BT.out (i := 12) rfl
  have l0 := blkAt BX.out (i := 0) rfl
  have l1 := blkAt BX.out (i := 1) rfl
  have y12 := blkFz BT.out (i := 12) (by simp)
  have q0 := BT.out.lt
  have q1 := BX.out.lt
  go_wp2_with fail
  obtain ⟨w2, hw⟩ : ∃ W, w1.setCell ⟨w.heap.size, 12, none⟩ (.slice none 0 0) = W := ⟨_, rfl⟩
  have BT := Lib.hid (show Blk w2 w.heap.size #[.int .i64 t.v, .int .i64 t.z, .int .i64 t.n, .int .i64 t.r.x, .int .i64 t.r.y, .int .i64 t.r.s, .int .i64 t.r.k.a, .int .i64 t.r.k.b, .int .i64 t.r.k.c, .int .i64 t.r.k.d, .int .i64 t.r.k.e, .int .i64 t.r.k.f, .slice none 0 0] 28 by rw [← hw]; exact BT.out.set _)
  have BX := Lib.hid (show Blk w2 (w.heap.size + 1) #[.int .i64 x.1, .int .i64 x.2] 30 by rw [← hw]; exact BX.out.other (by omega) _)
  have G0 : Hid (Grew w w2) := Lib.hid (by rw [← hw]; exact GW.setCell (Nat.le_refl _) _)
  try rw [hw]
  clear hw GW y12
  clear t0 t1 t2 t3 t4 t5 t6 t7 t8 t9 t10 t11 t12 l0 l1 q0 q1
  have HT : Hid (∀ W, Grew w2 W → ((W.cell? ⟨w.heap.size, 0, none⟩ = some (.int .i64 t.v) ∧ W.cell? ⟨w.heap.size, 1, none⟩ = some (.int .i64 t.z) ∧ W.cell? ⟨w.heap.size, 2, none⟩ = some (.int .i64 t.n) ∧ W.cell? ⟨w.heap.size, 3, none⟩ = some (.int .i64 t.r.x) ∧ W.cell? ⟨w.heap.size, 4, none⟩ = some (.int .i64 t.r.y) ∧ W.cell? ⟨w.heap.size, 5, none⟩ = some (.int .i64 t.r.s) ∧ W.cell? ⟨w.heap.size, 6, none⟩ = some (.int .i64 t.r.k.a) ∧ W.cell? ⟨w.heap.size, 7, none⟩ = some (.int .i64 t.r.k.b) ∧ W.cell? ⟨w.heap.size, 8, none⟩ = some (.int .i64 t.r.k.c) ∧ W.cell? ⟨w.heap.size, 9, none⟩ = some (.int .i64 t.r.k.d) ∧ W.cell? ⟨w.heap.size, 10, none⟩ = some (.int .i64 t.r.k.e) ∧ W.cell? ⟨w.heap.size, 11, none⟩ = some (.int .i64 t.r.k.f) ∧ W.cell? ⟨w.heap.size, 12, none⟩ = some (.slice none 0 0)) ∧ (W.cell? ⟨w.heap.size + 1, 0, none⟩ = some (.int .i64 x.1) ∧ W.cell? ⟨w.heap.size + 1, 1, none⟩ = some (.int .i64 x.2)) ∧ w.heap.size < W.heap.size ∧ w.heap.size + 1 < W.heap.size)) := Lib.hid (fun W g => by
    have b0 := BT.out.grown g
    have b1 := BX.out.grown g
    exact ⟨⟨blkAt b0 rfl, blkAt b0 rfl, blkAt b0 rfl, blkAt b0 rfl, blkAt b0 rfl, blkAt b0 rfl, blkAt b0 rfl, blkAt b0 rfl, blkAt b0 rfl, blkAt b0 rfl, blkAt b0 rfl, blkAt b0 rfl, blkAt b0 rfl⟩, ⟨blkAt b1 rfl, blkAt b1 rfl⟩, b0.lt, b1.lt⟩)
  have GW : Grew w2 w2 := Grew.refl _
  refine (UC.out _).mono ?_
  rintro e w3 ⟨rfl, g3⟩
  go_wp2_with fail
  go_ret
  exact ⟨rfl, (G0.out.trans GW).trans g3⟩
set_option maxHeartbeats 16000000 in
theorem after_ok (K : Hl.Code) (t : Ed) (u : Value) (x : Pt) (c d : Int) (m : Nat) (w : World) (hm : m < 4294967296) (hu : Usb (dry t) x x c d) :
    Calls Try.prog 7 #[tv t u, .agg #[.int .i64 x.1, .int .i64 x.2], .int .i64 c, .int .i64 d, .int .u32 m] w fun e w' => e = .returned (.bool true) ∧ Grew w w' := by
  have hb := hu.ok
  have hti := tin_in hb.2.2.2.1 m
  have hb1 : BOk (dry t) x x c (tin c d m) := ⟨hb.1, hb.2.1, ⟨hb.2.2.1, hti.1, by have := hb.2.2.2.2; omega⟩⟩
  have hb2 : BOk (dry t) x x (tin c d m) d := ⟨hb.1, hb.2.1, ⟨by have := hb.2.2.1; omega, hti.2, hb.2.2.2.2⟩⟩
  have hk : Bok t.r.k := hb.1.2.2.2.1
  have HD : Hid (∀ W, Calls Try.prog 9 #[] W fun e w' => e = .returned (.bool true) ∧ Grew W w') := Lib.hid (fun W => head_true K W)
  have UC : Hid (∀ W, Calls Try.prog 10 #[.agg #[.int .i64 t.v, .int .i64 t.z, .int .i64 t.n, .int .i64 t.r.x, .int .i64 t.r.y, .int .i64 t.r.s, .int .i64 t.r.k.a, .int .i64 t.r.k.b, .int .i64 t.r.k.c, .int .i64 t.r.k.d, .int .i64 t.r.k.e, .int .i64 t.r.k.f, .slice none 0 0], .agg #[.int .i64 x.1, .int .i64 x.2], .agg #[.int .i64 x.1, .int .i64 x.2], .int .i64 c, .int .i64 d] W fun e w' => e = .returned (.bool true) ∧ Grew W w') := Lib.hid (fun W => by
    have h := usable_c (dry t) (.slice none 0 0) x x c d W (Rs.nil _ _ _) (Nat.zero_le _)
    rw [decide_eq_true hu] at h
    exact h)
  have D1 : Hid (∀ W, Calls Try.prog 19 #[.agg #[.int .i64 t.v, .int .i64 t.z, .int .i64 t.n, .int .i64 t.r.x, .int .i64 t.r.y, .int .i64 t.r.s, .int .i64 t.r.k.a, .int .i64 t.r.k.b, .int .i64 t.r.k.c, .int .i64 t.r.k.d, .int .i64 t.r.k.e, .int .i64 t.r.k.f, .slice none 0 0], .agg #[.int .i64 x.1, .int .i64 x.2], .agg #[.int .i64 x.1, .int .i64 x.2], .int .i64 (c), .int .i64 (d)] W (DSays (drl t.r.k (d - c)) W)) := Lib.hid (fun W => by
    have h := drift_g K (dry t) (.slice none 0 0) x x (c) (d) W (Rs.nil _ _ _) (Nat.zero_le _) hb
    rw [ovB_dry hb] at h
    exact h)
  have D2 : Hid (∀ W, Calls Try.prog 19 #[.agg #[.int .i64 t.v, .int .i64 t.z, .int .i64 t.n, .int .i64 t.r.x, .int .i64 t.r.y, .int .i64 t.r.s, .int .i64 t.r.k.a, .int .i64 t.r.k.b, .int .i64 t.r.k.c, .int .i64 t.r.k.d, .int .i64 t.r.k.e, .int .i64 t.r.k.f, .slice none 0 0], .agg #[.int .i64 x.1, .int .i64 x.2], .agg #[.int .i64 x.1, .int .i64 x.2], .int .i64 (c), .int .i64 (tin c d m)] W (DSays (drl t.r.k (tin c d m - c)) W)) := Lib.hid (fun W => by
    have h := drift_g K (dry t) (.slice none 0 0) x x (c) (tin c d m) W (Rs.nil _ _ _) (Nat.zero_le _) hb1
    rw [ovB_dry hb1] at h
    exact h)
  have D3 : Hid (∀ W, Calls Try.prog 19 #[.agg #[.int .i64 t.v, .int .i64 t.z, .int .i64 t.n, .int .i64 t.r.x, .int .i64 t.r.y, .int .i64 t.r.s, .int .i64 t.r.k.a, .int .i64 t.r.k.b, .int .i64 t.r.k.c, .int .i64 t.r.k.d, .int .i64 t.r.k.e, .int .i64 t.r.k.f, .slice none 0 0], .agg #[.int .i64 x.1, .int .i64 x.2], .agg #[.int .i64 x.1, .int .i64 x.2], .int .i64 (tin c d m), .int .i64 (d)] W (DSays (drl t.r.k (d - tin c d m)) W)) := Lib.hid (fun W => by
    have h := drift_g K (dry t) (.slice none 0 0) x x (tin c d m) (d) W (Rs.nil _ _ _) (Nat.zero_le _) hb2
    rw [ovB_dry hb2] at h
    exact h)
  have sa := ca_sum t.r.k.a t.r.k.b (tin c d m - c) (d - tin c d m) (d - c) (by omega)
  have sb := ca_sum t.r.k.c t.r.k.d (tin c d m - c) (d - tin c d m) (d - c) (by omega)
  have X1 : Hid (∀ q lo hi, IsHull (drl t.r.k (d - c)) q → IsBox q lo hi → _) := Lib.hid (fun q lo hi h b => drl_box hk (by omega) h b)
  have X2 : Hid (∀ q lo hi, IsHull (drl t.r.k (tin c d m - c)) q → IsBox q lo hi → _) := Lib.hid (fun q lo hi h b => drl_box hk (by omega) h b)
  have X3 : Hid (∀ q lo hi, IsHull (drl t.r.k (d - tin c d m)) q → IsBox q lo hi → _) := Lib.hid (fun q lo hi h b => drl_box hk (by omega) h b)
  have BC : Hid (∀ (p : List Pt) (v : Value) (W : World), Sl W v p → Vl p → Calls Try.prog 23 #[v] W (BoxSays p W)) := Lib.hid K.box_ok
  obtain ⟨c0, c1, c2⟩ : 0 ≤ c ∧ c ≤ d ∧ d ≤ 1000000000 := hb.2.2
  have TE : Hid (tin c d m = c + (m : Int) % (d - c + 1)) := Lib.hid rfl
  have e1 : ((m : Int)).tmod (d - c + 1) = (m : Int) % (d - c + 1) := Int.tmod_eq_emod_of_nonneg (by omega)
  have e2 := Int.emod_nonneg (m : Int) (show d - c + 1 ≠ 0 by omega)
  have e3 := Int.emod_lt_of_pos (m : Int) (show 0 < d - c + 1 by omega)
  have n1 : ¬ d - c + 1 = 0 := by omega
  have M0 : (0 : Int) ≤ (m : Int) := by omega
  have M1 : (m : Int) < 4294967296 := by omega
  unfold tv
  clear hu K hb hti hb1 hb2 hk
  generalize drl t.r.k (d - c) = L1 at *
  generalize drl t.r.k (tin c d m - c) = L2 at *
  generalize drl t.r.k (d - tin c d m) = L3 at *
  generalize Ca t.r.k.a t.r.k.b (d - c) = A1 at *
  generalize Ca t.r.k.a t.r.k.b (tin c d m - c) = A2 at *
  generalize Ca t.r.k.a t.r.k.b (d - tin c d m) = A3 at *
  generalize Ca t.r.k.c t.r.k.d (d - c) = C1 at *
  generalize Ca t.r.k.c t.r.k.d (tin c d m - c) = C2 at *
  generalize Ca t.r.k.c t.r.k.d (d - tin c d m) = C3 at *
  rw [TE.out] at D2 D3
  generalize (m : Int) % (d - c + 1) = r at *
  have k1' : IntKind.i64.wrap (d - c) = d - c := by rw [IntKind.wrap_i64]; omega
  have k3' : IntKind.i64.wrap (d - c + 1) = d - c + 1 := by rw [IntKind.wrap_i64]; omega
  have k5' : IntKind.i64.wrap (m : Int) = (m : Int) := by rw [IntKind.wrap_i64]; omega
  have k7' : IntKind.i64.wrap (c + r) = c + r := by rw [IntKind.wrap_i64]; omega
  have k9' : IntKind.i64.wrap r = r := by rw [IntKind.wrap_i64]; omega
  go_enter Try.func7, Try.ntmps7
  go_wp2_with fail
  refine (HD.out _).mono ?_
  rintro e w1 ⟨rfl, g1⟩
  have BT := Lib.hid (((Blk.new w #[.int .i64 t.v, .int .i64 t.z, .int .i64 t.n, .int .i64 t.r.x, .int .i64 t.r.y, .int .i64 t.r.s, .int .i64 t.r.k.a, .int .i64 t.r.k.b, .int .i64 t.r.k.c, .int .i64 t.r.k.d, .int .i64 t.r.k.e, .int .i64 t.r.k.f, u] 28).alloc (.cells #[.int .i64 x.1, .int .i64 x.2] 30)).grown g1)
  have BX := Lib.hid ((blkN (W := w.alloc (.cells #[.int .i64 t.v, .int .i64 t.z, .int .i64 t.n, .int .i64 t.r.x, .int .i64 t.r.y, .int .i64 t.r.s, .int .i64 t.r.k.a, .int .i64 t.r.k.b, .int .i64 t.r.k.c, .int .i64 t.r.k.d, .int .i64 t.r.k.e, .int .i64 t.r.k.f, u] 28)) (k := w.heap.size + 1) (cs := #[.int .i64 x.1, .int .i64 x.2]) (t := 30) (by simp)).grown g1)
  have GW : Grew w w1 := (((Grew.refl w).alloc _ _).alloc _ _).trans g1
  clear g1
  have t0 := blkAt BT.out (i := 0) rfl
  have t1 := blkAt BT.out (i := 1) rfl
  have t2 := blkAt BT.out (i := 2) rfl
  have t3 := blkAt BT.out (i := 3) rfl
  have t4 := blkAt BT.out (i := 4) rfl
  have t5 := blkAt BT.out (i := 5) rfl
  have t6 := blkAt BT.out (i := 6) rfl
  have t7 := blkAt BT.out (i := 7) rfl
  have t8 := blkAt BT.out (i := 8) rfl
  have t9 := blkAt BT.out (i := 9) rfl
  have t10 := blkAt BT.out (i := 10) rfl
  have t11 := blkAt BT.out (i := 11) rfl
  have t12 := blkAt BT.out (i := 12) rfl
  have l0 := blkAt BX.out (i := 0) rfl
  have l1 := blkAt BX.out (i := 1) rfl
  have y12 := blkFz BT.out (i := 12) (by simp)
  have q0 := BT.out.lt
  have q1 := BX.out.lt
  go_wp2_with fail
  obtain ⟨w2, hw⟩ : ∃ W, w1.setCell ⟨w.heap.size, 12, none⟩ (.slice none 0 0) = W := ⟨_, rfl⟩
  have BT := Lib.hid (show Blk w2 w.heap.size #[.int .i64 t.v, .int .i64 t.z, .int .i64 t.n, .int .i64 t.r.x, .int .i64 t.r.y, .int .i64 t.r.s, .int .i64 t.r.k.a, .int .i64 t.r.k.b, .int .i64 t.r.k.c, .int .i64 t.r.k.d, .int .i64 t.r.k.e, .int .i64 t.r.k.f, .slice none 0 0] 28 by rw [← hw]; exact BT.out.set _)
  have BX := Lib.hid (show Blk w2 (w.heap.size + 1) #[.int .i64 x.1, .int .i64 x.2] 30 by rw [← hw]; exact BX.out.other (by omega) _)
  have G0 : Hid (Grew w w2) := Lib.hid (by rw [← hw]; exact GW.setCell (Nat.le_refl _) _)
  try rw [hw]
  clear hw GW y12
  clear t0 t1 t2 t3 t4 t5 t6 t7 t8 t9 t10 t11 t12 l0 l1 q0 q1
  have HT : Hid (∀ W, Grew w2 W → ((W.cell? ⟨w.heap.size, 0, none⟩ = some (.int .i64 t.v) ∧ W.cell? ⟨w.heap.size, 1, none⟩ = some (.int .i64 t.z) ∧ W.cell? ⟨w.heap.size, 2, none⟩ = some (.int .i64 t.n) ∧ W.cell? ⟨w.heap.size, 3, none⟩ = some (.int .i64 t.r.x) ∧ W.cell? ⟨w.heap.size, 4, none⟩ = some (.int .i64 t.r.y) ∧ W.cell? ⟨w.heap.size, 5, none⟩ = some (.int .i64 t.r.s) ∧ W.cell? ⟨w.heap.size, 6, none⟩ = some (.int .i64 t.r.k.a) ∧ W.cell? ⟨w.heap.size, 7, none⟩ = some (.int .i64 t.r.k.b) ∧ W.cell? ⟨w.heap.size, 8, none⟩ = some (.int .i64 t.r.k.c) ∧ W.cell? ⟨w.heap.size, 9, none⟩ = some (.int .i64 t.r.k.d) ∧ W.cell? ⟨w.heap.size, 10, none⟩ = some (.int .i64 t.r.k.e) ∧ W.cell? ⟨w.heap.size, 11, none⟩ = some (.int .i64 t.r.k.f) ∧ W.cell? ⟨w.heap.size, 12, none⟩ = some (.slice none 0 0)) ∧ (W.cell? ⟨w.heap.size + 1, 0, none⟩ = some (.int .i64 x.1) ∧ W.cell? ⟨w.heap.size + 1, 1, none⟩ = some (.int .i64 x.2)) ∧ w.heap.size < W.heap.size ∧ w.heap.size + 1 < W.heap.size)) := Lib.hid (fun W g => by
    have b0 := BT.out.grown g
    have b1 := BX.out.grown g
    exact ⟨⟨blkAt b0 rfl, blkAt b0 rfl, blkAt b0 rfl, blkAt b0 rfl, blkAt b0 rfl, blkAt b0 rfl, blkAt b0 rfl, blkAt b0 rfl, blkAt b0 rfl, blkAt b0 rfl, blkAt b0 rfl, blkAt b0 rfl, blkAt b0 rfl⟩, ⟨blkAt b1 rfl, blkAt b1 rfl⟩, b0.lt, b1.lt⟩)
  have GW : Grew w2 w2 := Grew.refl _
  refine (UC.out _).mono ?_
  rintro e w3 ⟨rfl, g3⟩
  have GW := GW.trans g3
  clear g3
  obtain ⟨⟨t0, t1, t2, t3, t4, t5, t6, t7, t8, t9, t10, t11, t12⟩, ⟨l0, l1⟩, q0, q1⟩ := HT.out w3 GW
  go_wp2_with fail
  refine (D1.out _).mono ?_
  rintro e w4 ⟨v1, k1, rfl, hz1, hd1, g4⟩
  have GW := GW.trans g4
  clear t0 t1 t2 t3 t4 t5 t6 t7 t8 t9 t10 t11 t12 l0 l1 q0 q1
  obtain ⟨⟨t0, t1, t2, t3, t4, t5, t6, t7, t8, t9, t10, t11, t12⟩, ⟨l0, l1⟩, q0, q1⟩ := HT.out w4 GW
  go_wp2_with fail
  refine (D2.out _).mono ?_
  rintro e w5 ⟨v2, k2, rfl, hz2, hd2, g5⟩
  have GW := GW.trans g5
  clear t0 t1 t2 t3 t4 t5 t6 t7 t8 t9 t10 t11 t12 l0 l1 q0 q1
  obtain ⟨⟨t0, t1, t2, t3, t4, t5, t6, t7, t8, t9, t10, t11, t12⟩, ⟨l0, l1⟩, q0, q1⟩ := HT.out w5 GW
  go_wp2_with fail
  refine (D3.out _).mono ?_
  rintro e w6 ⟨v3, k3, rfl, hz3, hd3, g6⟩
  have GW := GW.trans g6
  clear t0 t1 t2 t3 t4 t5 t6 t7 t8 t9 t10 t11 t12 l0 l1 q0 q1
  obtain ⟨⟨t0, t1, t2, t3, t4, t5, t6, t7, t8, t9, t10, t11, t12⟩, ⟨l0, l1⟩, q0, q1⟩ := HT.out w6 GW
  skip
  have hd1 := Lib.hid hd1
  have hd2 := Lib.hid hd2
  have hd3 := Lib.hid hd3
  have hz1' := hz1
  clear hz1
  rcases hz1' with z | z | z
  rotate_left
  · subst z
    clear hd1 hd2 hd3
    go_wp2_with fail
    go_ret
    exact ⟨rfl, G0.out.trans GW⟩
  · subst z
    clear hd1 hd2 hd3
    go_wp2_with fail
    go_ret
    exact ⟨rfl, G0.out.trans GW⟩
  subst z
  have hz2' := hz2
  clear hz2
  rcases hz2' with z | z | z
  rotate_left
  · subst z
    clear hd1 hd2 hd3
    go_wp2_with fail
    go_ret
    exact ⟨rfl, G0.out.trans GW⟩
  · subst z
    clear hd1 hd2 hd3
    go_wp2_with fail
    go_ret
    exact ⟨rfl, G0.out.trans GW⟩
  subst z
  have hz3' := hz3
  clear hz3
  rcases hz3' with z | z | z
  rotate_left
  · subst z
    clear hd1 hd2 hd3
    go_wp2_with fail
    go_ret
    exact ⟨rfl, G0.out.trans GW⟩
  · subst z
    clear hd1 hd2 hd3
    go_wp2_with fail
    go_ret
    exact ⟨rfl, G0.out.trans GW⟩
  subst z
  obtain ⟨o1, ho1, hv1, s1⟩ := hd1.out rfl
  obtain ⟨o2, ho2, hv2, s2⟩ := hd2.out rfl
  obtain ⟨o3, ho3, hv3, s3⟩ := hd3.out rfl
  have S1 := Lib.hid ((s1.grown g5).grown g6)
  have S2 := Lib.hid (s2.grown g6)
  have S3 := Lib.hid s3
  clear s1 s2 s3 hd1 hd2 hd3 g4 g5 g6
  have HW := Lib.hid GW
  clear GW HT BT BX D1 D2 D3 UC HD
  clear t0 t1 t2 t3 t4 t5 t6 t7 t8 t9 t10 t11 t12 l0 l1 q0 q1
  go_wp2_with fail
  have G6 := Grew.refl w6
  obtain ⟨⟨a1, a2⟩, ⟨a3, a4⟩⟩ := sa
  obtain ⟨⟨a5, a6⟩, ⟨a7, a8⟩⟩ := sb
  refine (BC.out o1 _ _ (S1.out.grown G6) hv1).mono ?_
  rintro e w7 ⟨lo1, hi1, hb1, rfl, g7⟩
  have bd1 := box_bd hv1.2.1 hb1
  obtain ⟨⟨za1, zb1⟩, zc1, zd1⟩ := X1.out _ _ _ ho1 hb1
  rw [za1, zb1, zc1, zd1] at bd1
  clear hb1
  have G6 := G6.trans g7
  clear g7
  go_wp2_with fail
  obtain ⟨w8, hw⟩ : ∃ W, (w7.alloc (.cells #[.int .i64 A1.1, .int .i64 C1.1] 30)).alloc (.cells #[.int .i64 A1.2, .int .i64 C1.2] 30) = W := ⟨_, rfl⟩
  have Q1 := Lib.hid (show Blk w8 w7.heap.size #[.int .i64 A1.1, .int .i64 C1.1] 30 by rw [← hw]; exact (Blk.new _ _ _).alloc _)
  have R1 := Lib.hid (show Blk w8 (w7.heap.size + 1) #[.int .i64 A1.2, .int .i64 C1.2] 30 by rw [← hw]; exact blkN (by simp))
  have G6 : Grew w6 w8 := by rw [← hw]; exact (G6.alloc _ _).alloc _ _
  try rw [hw]
  clear hw
  refine (BC.out o2 _ _ (S2.out.grown G6) hv2).mono ?_
  rintro e w9 ⟨lo2, hi2, hb2, rfl, g9⟩
  have bd2 := box_bd hv2.2.1 hb2
  obtain ⟨⟨za2, zb2⟩, zc2, zd2⟩ := X2.out _ _ _ ho2 hb2
  rw [za2, zb2, zc2, zd2] at bd2
  clear hb2
  have G6 := G6.trans g9
  have Q1 := Lib.hid (Q1.out.grown g9)
  have R1 := Lib.hid (R1.out.grown g9)
  clear g9
  go_wp2_with fail
  obtain ⟨w10, hw⟩ : ∃ W, (w9.alloc (.cells #[.int .i64 A2.1, .int .i64 C2.1] 30)).alloc (.cells #[.int .i64 A2.2, .int .i64 C2.2] 30) = W := ⟨_, rfl⟩
  have Q2 := Lib.hid (show Blk w10 w9.heap.size #[.int .i64 A2.1, .int .i64 C2.1] 30 by rw [← hw]; exact (Blk.new _ _ _).alloc _)
  have R2 := Lib.hid (show Blk w10 (w9.heap.size + 1) #[.int .i64 A2.2, .int .i64 C2.2] 30 by rw [← hw]; exact blkN (by simp))
  have Q1 := Lib.hid (show Blk w10 w7.heap.size _ _ by rw [← hw]; exact (Q1.out.alloc _).alloc _)
  have R1 := Lib.hid (show Blk w10 (w7.heap.size + 1) _ _ by rw [← hw]; exact (R1.out.alloc _).alloc _)
  have G6 : Grew w6 w10 := by rw [← hw]; exact (G6.alloc _ _).alloc _ _
  try rw [hw]
  clear hw
  refine (BC.out o3 _ _ (S3.out.grown G6) hv3).mono ?_
  rintro e w11 ⟨lo3, hi3, hb3, rfl, g11⟩
  have bd3 := box_bd hv3.2.1 hb3
  obtain ⟨⟨za3, zb3⟩, zc3, zd3⟩ := X3.out _ _ _ ho3 hb3
  rw [za3, zb3, zc3, zd3] at bd3
  clear hb3
  have G6 := G6.trans g11
  have Q1 := Lib.hid (Q1.out.grown g11)
  have R1 := Lib.hid (R1.out.grown g11)
  have Q2 := Lib.hid (Q2.out.grown g11)
  have R2 := Lib.hid (R2.out.grown g11)
  clear g11
  have Q10 := blkAt Q1.out (i := 0) rfl
  have Q11 := blkAt Q1.out (i := 1) rfl
  have Q1b := Q1.out.lt
  have R10 := blkAt R1.out (i := 0) rfl
  have R11 := blkAt R1.out (i := 1) rfl
  have R1b := R1.out.lt
  have Q20 := blkAt Q2.out (i := 0) rfl
  have Q21 := blkAt Q2.out (i := 1) rfl
  have Q2b := Q2.out.lt
  have R20 := blkAt R2.out (i := 0) rfl
  have R21 := blkAt R2.out (i := 1) rfl
  have R2b := R2.out.lt
  have kk0 : IntKind.i64.wrap (A2.1 + A3.1) = A2.1 + A3.1 := by rw [IntKind.wrap_i64]; omega
  have kk1 : IntKind.i64.wrap (A2.2 + A3.2) = A2.2 + A3.2 := by rw [IntKind.wrap_i64]; omega
  have kk2 : IntKind.i64.wrap (C2.1 + C3.1) = C2.1 + C3.1 := by rw [IntKind.wrap_i64]; omega
  have kk3 : IntKind.i64.wrap (C2.2 + C3.2) = C2.2 + C3.2 := by rw [IntKind.wrap_i64]; omega
  have kk4 : IntKind.i64.wrap (A1.1 - 1) = A1.1 - 1 := by rw [IntKind.wrap_i64]; omega
  have kk5 : IntKind.i64.wrap (C1.1 - 1) = C1.1 - 1 := by rw [IntKind.wrap_i64]; omega
  have kk6 : IntKind.i64.wrap (A1.2 + 1) = A1.2 + 1 := by rw [IntKind.wrap_i64]; omega
  have kk7 : IntKind.i64.wrap (C1.2 + 1) = C1.2 + 1 := by rw [IntKind.wrap_i64]; omega
  clear bd1 bd2 bd3 BC X1 X2 X3 S1 S2 S3 ho1 ho2 ho3 hv1 hv2 hv3
  go_wp2_with fail
  go_ret
  exact ⟨rfl, G0.out.trans (HW.out.trans ((G6.alloc _ _).alloc _ _))⟩
theorem after_true (K : Hl.Code) (t : Ed) (u : Value) (x : Pt) (c d : Int) (m : Nat) (w : World) (hm : m < 4294967296) :
    Calls Try.prog 7 #[tv t u, .agg #[.int .i64 x.1, .int .i64 x.2], .int .i64 c, .int .i64 d, .int .u32 m] w fun e w' => e = .returned (.bool true) ∧ Grew w w' := by
  by_cases hu : Usb (dry t) x x c d
  · exact after_ok K t u x c d m w hm hu
  · exact after_bad K t u x c d m w hm hu
end Td
end Go.Proofs.Ytpiajdahmcelnaa
