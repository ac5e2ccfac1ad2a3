/-
  The reference: what holds at a place, the slots that are touched.
-/
import Derived.Test.YtpiajdahmcelnaaGreatMTdZa
namespace Go.Proofs.YtpiajdahmcelnaaGreat
open Go.RowKit Hl
namespace Td
set_option maxRecDepth 100000
theorem R.run_max (a b : Int) : ∃ M : Int, (∀ (ts : Array TypeId) (t : TypeId) (W : World), Sem.run Tryz.prog (Builtin.max_ ts t #[.int .i64 a, .int .i64 b]) W = .ok (.int .i64 M) W) ∧ (a ≤ M ∧ b ≤ M ∧ (M = a ∨ M = b)) := by
  by_cases h : a < b
  · exact ⟨b, fun ts t W => by simp [Builtin.max_, Builtin.max2, h], by omega⟩
  · exact ⟨a, fun ts t W => by simp [Builtin.max_, Builtin.max2, h], by omega⟩
theorem R.run_min (a b : Int) : ∃ M : Int, (∀ (ts : Array TypeId) (t : TypeId) (W : World), Sem.run Tryz.prog (Builtin.min_ ts t #[.int .i64 a, .int .i64 b]) W = .ok (.int .i64 M) W) ∧ (M ≤ a ∧ M ≤ b ∧ (M = a ∨ M = b)) := by
  by_cases h : b < a
  · exact ⟨b, fun ts t W => by simp [Builtin.min_, Builtin.min2, h], by omega⟩
  · exact ⟨a, fun ts t W => by simp [Builtin.min_, Builtin.min2, h], by omega⟩
set_option maxHeartbeats 16000000 in
theorem R.touched_c (t : Ed) (u : Value) (c d : Int) (w : World) (hs : Rs w u t.l) (ht : Tok t) (hc : Tms c d) :
    Calls Tryz.prog 52 #[tv t u, .int .i64 c, .int .i64 d] w fun e w' => e = .returned (.tuple #[.int .i64 (max (-1) (sl t.z c)), .int .i64 (min t.n (sl t.z d))]) ∧ Grew w w' := by
  obtain ⟨ua, uc, rfl, _⟩ := hs.shape
  have SL : Hid (∀ (m : Int) (W : World), -1000000000 ≤ m ∧ m ≤ 2000000000 → Calls Tryz.prog 43 #[.agg #[.int .i64 t.v, .int .i64 t.z, .int .i64 t.n, .int .i64 t.r.x, .int .i64 t.r.y, .int .i64 t.r.s, .int .i64 t.r.k.a, .int .i64 t.r.k.b, .int .i64 t.r.k.c, .int .i64 t.r.k.d, .int .i64 t.r.k.e, .int .i64 t.r.k.f, .slice ua t.l.length uc], .int .i64 m] W fun e w' => e = .returned (.int .i64 (sl t.z m)) ∧ Grew W w') := Lib.hid (fun m W h => R.slot_c t _ m W ht.2.1 h)
  obtain ⟨c0, c1, c2⟩ := hc
  clear hs
  obtain ⟨M1, em1, m1⟩ := R.run_max (-1) (sl t.z c)
  obtain ⟨M2, em2, m2⟩ := R.run_min t.n (sl t.z d)
  have E1 : Hid (max (-1) (sl t.z c) = M1) := Lib.hid (by omega)
  have E2 : Hid (min t.n (sl t.z d) = M2) := Lib.hid (by omega)
  rw [E1.out, E2.out]
  clear m1 m2 E1 E2 ht
  generalize sl t.z = F at *
  unfold tv
  have KS : Hid (∀ W, Grew (w.alloc (.cells #[.int .i64 t.v, .int .i64 t.z, .int .i64 t.n, .int .i64 t.r.x, .int .i64 t.r.y, .int .i64 t.r.s, .int .i64 t.r.k.a, .int .i64 t.r.k.b, .int .i64 t.r.k.c, .int .i64 t.r.k.d, .int .i64 t.r.k.e, .int .i64 t.r.k.f, .slice ua t.l.length uc] 28)) W → (W.cell? ⟨w.heap.size, 0, none⟩ = some (.int .i64 t.v) ∧ W.cell? ⟨w.heap.size, 1, none⟩ = some (.int .i64 t.z) ∧ W.cell? ⟨w.heap.size, 2, none⟩ = some (.int .i64 t.n) ∧ W.cell? ⟨w.heap.size, 3, none⟩ = some (.int .i64 t.r.x) ∧ W.cell? ⟨w.heap.size, 4, none⟩ = some (.int .i64 t.r.y) ∧ W.cell? ⟨w.heap.size, 5, none⟩ = some (.int .i64 t.r.s) ∧ W.cell? ⟨w.heap.size, 6, none⟩ = some (.int .i64 t.r.k.a) ∧ W.cell? ⟨w.heap.size, 7, none⟩ = some (.int .i64 t.r.k.b) ∧ W.cell? ⟨w.heap.size, 8, none⟩ = some (.int .i64 t.r.k.c) ∧ W.cell? ⟨w.heap.size, 9, none⟩ = some (.int .i64 t.r.k.d) ∧ W.cell? ⟨w.heap.size, 10, none⟩ = some (.int .i64 t.r.k.e) ∧ W.cell? ⟨w.heap.size, 11, none⟩ = some (.int .i64 t.r.k.f) ∧ W.cell? ⟨w.heap.size, 12, none⟩ = some (.slice ua t.l.length uc))) := Lib.hid (fun W g => by
    have b0 := (Blk.new w #[.int .i64 t.v, .int .i64 t.z, .int .i64 t.n, .int .i64 t.r.x, .int .i64 t.r.y, .int .i64 t.r.s, .int .i64 t.r.k.a, .int .i64 t.r.k.b, .int .i64 t.r.k.c, .int .i64 t.r.k.d, .int .i64 t.r.k.e, .int .i64 t.r.k.f, .slice ua t.l.length uc] 28).grown g
    exact ⟨blkAt b0 rfl, blkAt b0 rfl, blkAt b0 rfl, blkAt b0 rfl, blkAt b0 rfl, blkAt b0 rfl, blkAt b0 rfl, blkAt b0 rfl, blkAt b0 rfl, blkAt b0 rfl, blkAt b0 rfl, blkAt b0 rfl, blkAt b0 rfl⟩)
  have G0 : Grew w (w.alloc (.cells #[.int .i64 t.v, .int .i64 t.z, .int .i64 t.n, .int .i64 t.r.x, .int .i64 t.r.y, .int .i64 t.r.s, .int .i64 t.r.k.a, .int .i64 t.r.k.b, .int .i64 t.r.k.c, .int .i64 t.r.k.d, .int .i64 t.r.k.e, .int .i64 t.r.k.f, .slice ua t.l.length uc] 28)) := (Grew.refl w).alloc _ _
  go_enter Tryz.func52, Tryz.ntmps52
  go_wp2_with fail
  obtain ⟨V, hV⟩ : ∃ V, w.alloc (.cells #[.int .i64 t.v, .int .i64 t.z, .int .i64 t.n, .int .i64 t.r.x, .int .i64 t.r.y, .int .i64 t.r.s, .int .i64 t.r.k.a, .int .i64 t.r.k.b, .int .i64 t.r.k.c, .int .i64 t.r.k.d, .int .i64 t.r.k.e, .int .i64 t.r.k.f, .slice ua t.l.length uc] 28) = V := ⟨_, rfl⟩
  rw [hV] at KS G0
  try rw [hV]
  clear hV
  have GA := Grew.refl V
  go_region_held3 (fun W => W.cell? ⟨w.heap.size, 0, none⟩ = some (.int .i64 t.v) ∧ W.cell? ⟨w.heap.size, 1, none⟩ = some (.int .i64 t.z) ∧ W.cell? ⟨w.heap.size, 2, none⟩ = some (.int .i64 t.n) ∧ W.cell? ⟨w.heap.size, 3, none⟩ = some (.int .i64 t.r.x) ∧ W.cell? ⟨w.heap.size, 4, none⟩ = some (.int .i64 t.r.y) ∧ W.cell? ⟨w.heap.size, 5, none⟩ = some (.int .i64 t.r.s) ∧ W.cell? ⟨w.heap.size, 6, none⟩ = some (.int .i64 t.r.k.a) ∧ W.cell? ⟨w.heap.size, 7, none⟩ = some (.int .i64 t.r.k.b) ∧ W.cell? ⟨w.heap.size, 8, none⟩ = some (.int .i64 t.r.k.c) ∧ W.cell? ⟨w.heap.size, 9, none⟩ = some (.int .i64 t.r.k.d) ∧ W.cell? ⟨w.heap.size, 10, none⟩ = some (.int .i64 t.r.k.e) ∧ W.cell? ⟨w.heap.size, 11, none⟩ = some (.int .i64 t.r.k.f) ∧ W.cell? ⟨w.heap.size, 12, none⟩ = some (.slice ua t.l.length uc)) (exact KS.out _ (by (repeat' (first | (with_reducible exact Grew.refl _) | (with_reducible assumption) | (with_reducible refine Grew.alloc ?_ _ _) | (with_reducible refine Grew.drew ?_) | (with_reducible refine Grew.drewN ?_ _) | (with_reducible refine Grew.setCell ?_ ?_ _) | go_size))))
    (first
      | (go_at_call 43; refine (SL.out _ _ (by omega)).mono ?_; rintro e w1 ⟨rfl, gn⟩; have GA : Grew V w1 := Grew.trans (by (repeat' (first | (with_reducible exact Grew.refl _) | (with_reducible assumption) | (with_reducible refine Grew.alloc ?_ _ _) | (with_reducible refine Grew.drew ?_) | (with_reducible refine Grew.drewN ?_ _) | (with_reducible refine Grew.setCell ?_ ?_ _) | go_size))) gn; clear gn))
  all_goals
    go_wp2_with fail
    refine bodyPost_ret (v := .tuple #[.int .i64 M1, .int .i64 M2]) (by simp [results, Tryz.results52, go_sem]) rfl ⟨rfl, G0.trans (by (repeat' (first | (with_reducible exact Grew.refl _) | (with_reducible assumption) | (with_reducible refine Grew.alloc ?_ _ _) | (with_reducible refine Grew.drew ?_) | (with_reducible refine Grew.drewN ?_ _) | (with_reducible refine Grew.setCell ?_ ?_ _) | go_size)))⟩
set_option maxHeartbeats 16000000 in
theorem R.holds_c (t : Ed) (u : Value) (x : Pt) (c : Int) (w : World) (hs : Rs w u t.l) (hl : t.l.length ≤ 9223372036854775807) (ht : Tok t) (hx : Plc x) (hc : 0 ≤ c ∧ c ≤ 1000000000) :
    Calls Tryz.prog 21 #[tv t u, .agg #[.int .i64 x.1, .int .i64 x.2], .int .i64 c] w fun e w' => e = .returned (.agg #[.int .i64 0, .int .i64 0, .int .i64 0, .int .i64 (Hd t (bk x.1) (bk x.2) (sl t.z c)).a, .int .i64 (Hd t (bk x.1) (bk x.2) (sl t.z c)).b, .int .i64 (Hd t (bk x.1) (bk x.2) (sl t.z c)).c, .int .i64 (Hd t (bk x.1) (bk x.2) (sl t.z c)).d, .int .i64 (Hd t (bk x.1) (bk x.2) (sl t.z c)).e, .int .i64 (Hd t (bk x.1) (bk x.2) (sl t.z c)).f]) ∧ Grew w w' := by
  obtain ⟨ua, uc, rfl, _⟩ := hs.shape
  have SL : Hid (∀ (m : Int) (W : World), -1000000000 ≤ m ∧ m ≤ 2000000000 → Calls Tryz.prog 43 #[.agg #[.int .i64 t.v, .int .i64 t.z, .int .i64 t.n, .int .i64 t.r.x, .int .i64 t.r.y, .int .i64 t.r.s, .int .i64 t.r.k.a, .int .i64 t.r.k.b, .int .i64 t.r.k.c, .int .i64 t.r.k.d, .int .i64 t.r.k.e, .int .i64 t.r.k.f, .slice ua t.l.length uc], .int .i64 m] W fun e w' => e = .returned (.int .i64 (sl t.z m)) ∧ Grew W w') := Lib.hid (fun m W h => R.slot_c t _ m W ht.2.1 h)
  have OF : Hid (∀ (a b s : Int) (W : World), Grew w W → Calls Tryz.prog 41 #[.agg #[.int .i64 t.v, .int .i64 t.z, .int .i64 t.n, .int .i64 t.r.x, .int .i64 t.r.y, .int .i64 t.r.s, .int .i64 t.r.k.a, .int .i64 t.r.k.b, .int .i64 t.r.k.c, .int .i64 t.r.k.d, .int .i64 t.r.k.e, .int .i64 t.r.k.f, .slice ua t.l.length uc], .int .i64 a, .int .i64 b, .int .i64 s] W fun e w' => e = .returned (.agg #[.int .i64 0, .int .i64 0, .int .i64 0, .int .i64 (Hd t a b s).a, .int .i64 (Hd t a b s).b, .int .i64 (Hd t a b s).c, .int .i64 (Hd t a b s).d, .int .i64 (Hd t a b s).e, .int .i64 (Hd t a b s).f]) ∧ Grew W w') := Lib.hid (fun a b s W g => R.of_c t _ a b s W (hs.grew g) hl)
  have BK : Hid (∀ (n : Int) (W : World), -1000000000 ≤ n ∧ n ≤ 1000000000 → Calls Tryz.prog 42 #[.int .i64 n] W fun e w' => e = .returned (.int .i64 (bk n)) ∧ W = w') := Lib.hid (fun n W h => R.block_c n W h)
  obtain ⟨⟨a0, a1⟩, ⟨a2, a3⟩⟩ := hx
  obtain ⟨c0, c1⟩ := hc
  clear hs hl ht
  obtain ⟨H, hH⟩ : ∃ H, Hd t = H := ⟨_, rfl⟩
  rw [hH] at OF ⊢
  clear hH
  generalize sl t.z = F at *
  generalize bk = E at *
  unfold tv
  go_enter Tryz.func21, Tryz.ntmps21
  go_wp2_with fail
  obtain ⟨V2, hV2⟩ : ∃ V, (w.alloc (.cells #[.int .i64 t.v, .int .i64 t.z, .int .i64 t.n, .int .i64 t.r.x, .int .i64 t.r.y, .int .i64 t.r.s, .int .i64 t.r.k.a, .int .i64 t.r.k.b, .int .i64 t.r.k.c, .int .i64 t.r.k.d, .int .i64 t.r.k.e, .int .i64 t.r.k.f, .slice ua t.l.length uc] 28)).alloc (.cells #[.int .i64 x.1, .int .i64 x.2] 30) = V := ⟨_, rfl⟩
  have zv : V2.heap.size = w.heap.size + 1 + 1 := by rw [← hV2]; simp
  have KS : Hid (∀ W, Grew V2 W → (W.cell? ⟨w.heap.size, 0, none⟩ = some (.int .i64 t.v) ∧ W.cell? ⟨w.heap.size, 1, none⟩ = some (.int .i64 t.z) ∧ W.cell? ⟨w.heap.size, 2, none⟩ = some (.int .i64 t.n) ∧ W.cell? ⟨w.heap.size, 3, none⟩ = some (.int .i64 t.r.x) ∧ W.cell? ⟨w.heap.size, 4, none⟩ = some (.int .i64 t.r.y) ∧ W.cell? ⟨w.heap.size, 5, none⟩ = some (.int .i64 t.r.s) ∧ W.cell? ⟨w.heap.size, 6, none⟩ = some (.int .i64 t.r.k.a) ∧ W.cell? ⟨w.heap.size, 7, none⟩ = some (.int .i64 t.r.k.b) ∧ W.cell? ⟨w.heap.size, 8, none⟩ = some (.int .i64 t.r.k.c) ∧ W.cell? ⟨w.heap.size, 9, none⟩ = some (.int .i64 t.r.k.d) ∧ W.cell? ⟨w.heap.size, 10, none⟩ = some (.int .i64 t.r.k.e) ∧ W.cell? ⟨w.heap.size, 11, none⟩ = some (.int .i64 t.r.k.f) ∧ W.cell? ⟨w.heap.size, 12, none⟩ = some (.slice ua t.l.length uc) ∧ W.cell? ⟨w.heap.size + 1, 0, none⟩ = some (.int .i64 x.1) ∧ W.cell? ⟨w.heap.size + 1, 1, none⟩ = some (.int .i64 x.2))) := Lib.hid (fun W g => by
    subst hV2
    have b0 := ((Blk.new w #[.int .i64 t.v, .int .i64 t.z, .int .i64 t.n, .int .i64 t.r.x, .int .i64 t.r.y, .int .i64 t.r.s, .int .i64 t.r.k.a, .int .i64 t.r.k.b, .int .i64 t.r.k.c, .int .i64 t.r.k.d, .int .i64 t.r.k.e, .int .i64 t.r.k.f, .slice ua t.l.length uc] 28).alloc (.cells #[.int .i64 x.1, .int .i64 x.2] 30)).grown g
    have b1 := (blkN (W := w.alloc (.cells #[.int .i64 t.v, .int .i64 t.z, .int .i64 t.n, .int .i64 t.r.x, .int .i64 t.r.y, .int .i64 t.r.s, .int .i64 t.r.k.a, .int .i64 t.r.k.b, .int .i64 t.r.k.c, .int .i64 t.r.k.d, .int .i64 t.r.k.e, .int .i64 t.r.k.f, .slice ua t.l.length uc] 28)) (k := w.heap.size + 1) (cs := #[.int .i64 x.1, .int .i64 x.2]) (t := 30) (by simp)).grown g
    exact ⟨blkAt b0 rfl, blkAt b0 rfl, blkAt b0 rfl, blkAt b0 rfl, blkAt b0 rfl, blkAt b0 rfl, blkAt b0 rfl, blkAt b0 rfl, blkAt b0 rfl, blkAt b0 rfl, blkAt b0 rfl, blkAt b0 rfl, blkAt b0 rfl, blkAt b1 rfl, blkAt b1 rfl⟩)
  have GV2 : Grew w V2 := by rw [← hV2]; exact ((Grew.refl _).alloc _ _).alloc _ _
  try rw [hV2]
  clear hV2
  obtain ⟨V, hV⟩ : ∃ V, V2.alloc (.cells #[.int .i64 0, .int .i64 0, .int .i64 0, .int .i64 0, .int .i64 0, .int .i64 0, .int .i64 0, .int .i64 0, .int .i64 0] 25) = V := ⟨_, rfl⟩
  have RB : Hid (∀ W, Grew V W → Blk W (w.heap.size + 1 + 1) #[.int .i64 0, .int .i64 0, .int .i64 0, .int .i64 0, .int .i64 0, .int .i64 0, .int .i64 0, .int .i64 0, .int .i64 0] 25) := Lib.hid (fun W g => by
    subst hV
    exact (blkN (W := V2) (k := w.heap.size + 1 + 1) (cs := #[.int .i64 0, .int .i64 0, .int .i64 0, .int .i64 0, .int .i64 0, .int .i64 0, .int .i64 0, .int .i64 0, .int .i64 0]) (t := 25) zv).grown g)
  have G2 : Grew V2 V := by rw [← hV]; exact (Grew.refl _).alloc _ _
  try rw [hV]
  clear hV
  have GA := Grew.refl V
  go_region_held3 (fun W => W.cell? ⟨w.heap.size, 0, none⟩ = some (.int .i64 t.v) ∧ W.cell? ⟨w.heap.size, 1, none⟩ = some (.int .i64 t.z) ∧ W.cell? ⟨w.heap.size, 2, none⟩ = some (.int .i64 t.n) ∧ W.cell? ⟨w.heap.size, 3, none⟩ = some (.int .i64 t.r.x) ∧ W.cell? ⟨w.heap.size, 4, none⟩ = some (.int .i64 t.r.y) ∧ W.cell? ⟨w.heap.size, 5, none⟩ = some (.int .i64 t.r.s) ∧ W.cell? ⟨w.heap.size, 6, none⟩ = some (.int .i64 t.r.k.a) ∧ W.cell? ⟨w.heap.size, 7, none⟩ = some (.int .i64 t.r.k.b) ∧ W.cell? ⟨w.heap.size, 8, none⟩ = some (.int .i64 t.r.k.c) ∧ W.cell? ⟨w.heap.size, 9, none⟩ = some (.int .i64 t.r.k.d) ∧ W.cell? ⟨w.heap.size, 10, none⟩ = some (.int .i64 t.r.k.e) ∧ W.cell? ⟨w.heap.size, 11, none⟩ = some (.int .i64 t.r.k.f) ∧ W.cell? ⟨w.heap.size, 12, none⟩ = some (.slice ua t.l.length uc) ∧ W.cell? ⟨w.heap.size + 1, 0, none⟩ = some (.int .i64 x.1) ∧ W.cell? ⟨w.heap.size + 1, 1, none⟩ = some (.int .i64 x.2)) (exact KS.out _ (by (repeat' (first | (with_reducible exact Grew.refl _) | (with_reducible assumption) | (with_reducible refine Grew.alloc ?_ _ _) | (with_reducible refine Grew.drew ?_) | (with_reducible refine Grew.drewN ?_ _) | (with_reducible refine Grew.setCell ?_ ?_ _) | go_size))))
    (first
      | (go_at_call 42; refine (BK.out _ _ (by omega)).mono ?_; rintro e w1 ⟨rfl, rfl⟩)
      | (go_at_call 43; refine (SL.out _ _ (by omega)).mono ?_; rintro e w1 ⟨rfl, gn⟩; have GA : Grew V w1 := Grew.trans (by (repeat' (first | (with_reducible exact Grew.refl _) | (with_reducible assumption) | (with_reducible refine Grew.alloc ?_ _ _) | (with_reducible refine Grew.drew ?_) | (with_reducible refine Grew.drewN ?_ _) | (with_reducible refine Grew.setCell ?_ ?_ _) | go_size))) gn; clear gn; have GB : Grew V2 w1 := G2.trans GA; have BW := RB.out _ GA; have zb := BW.lt; have y0 := blkAt BW (i := 0) (v := .int .i64 0) rfl; have v0 := blkFz BW (i := 0) (by simp); have y1 := blkAt BW (i := 1) (v := .int .i64 0) rfl; have v1 := blkFz BW (i := 1) (by simp); have y2 := blkAt BW (i := 2) (v := .int .i64 0) rfl; have v2 := blkFz BW (i := 2) (by simp); have y3 := blkAt BW (i := 3) (v := .int .i64 0) rfl; have v3 := blkFz BW (i := 3) (by simp); have y4 := blkAt BW (i := 4) (v := .int .i64 0) rfl; have v4 := blkFz BW (i := 4) (by simp); have y5 := blkAt BW (i := 5) (v := .int .i64 0) rfl; have v5 := blkFz BW (i := 5) (by simp); have y6 := blkAt BW (i := 6) (v := .int .i64 0) rfl; have v6 := blkFz BW (i := 6) (by simp); have y7 := blkAt BW (i := 7) (v := .int .i64 0) rfl; have v7 := blkFz BW (i := 7) (by simp); have y8 := blkAt BW (i := 8) (v := .int .i64 0) rfl; have v8 := blkFz BW (i := 8) (by simp))
      | (go_at_call 41; refine (OF.out _ _ _ _ ((GV2.trans G2).trans (by (repeat' (first | (with_reducible exact Grew.refl _) | (with_reducible assumption) | (with_reducible refine Grew.alloc ?_ _ _) | (with_reducible refine Grew.drew ?_) | (with_reducible refine Grew.drewN ?_ _) | (with_reducible refine Grew.setCell ?_ ?_ _) | go_size))))).mono ?_; rintro e w1 ⟨rfl, gn⟩; have GA : Grew V w1 := Grew.trans (by (repeat' (first | (with_reducible exact Grew.refl _) | (with_reducible assumption) | (with_reducible refine Grew.alloc ?_ _ _) | (with_reducible refine Grew.drew ?_) | (with_reducible refine Grew.drewN ?_ _) | (with_reducible refine Grew.setCell ?_ ?_ _) | go_size))) gn; clear gn; have GB : Grew V2 w1 := G2.trans GA; have BW := RB.out _ GA; have zb := BW.lt; have y0 := blkAt BW (i := 0) (v := .int .i64 0) rfl; have v0 := blkFz BW (i := 0) (by simp); have y1 := blkAt BW (i := 1) (v := .int .i64 0) rfl; have v1 := blkFz BW (i := 1) (by simp); have y2 := blkAt BW (i := 2) (v := .int .i64 0) rfl; have v2 := blkFz BW (i := 2) (by simp); have y3 := blkAt BW (i := 3) (v := .int .i64 0) rfl; have v3 := blkFz BW (i := 3) (by simp); have y4 := blkAt BW (i := 4) (v := .int .i64 0) rfl; have v4 := blkFz BW (i := 4) (by simp); have y5 := blkAt BW (i := 5) (v := .int .i64 0) rfl; have v5 := blkFz BW (i := 5) (by simp); have y6 := blkAt BW (i := 6) (v := .int .i64 0) rfl; have v6 := blkFz BW (i := 6) (by simp); have y7 := blkAt BW (i := 7) (v := .int .i64 0) rfl; have v7 := blkFz BW (i := 7) (by simp); have y8 := blkAt BW (i := 8) (v := .int .i64 0) rfl; have v8 := blkFz BW (i := 8) (by simp)))
  all_goals
    go_wp2_with fail
    generalize hU : World.setCell (World.setCell _ _ _) _ _ = U
    have BU : Blk U (w.heap.size + 1 + 1) #[.int .i64 0, .int .i64 0, .int .i64 0, .int .i64 (H (E x.1) (E x.2) (F c)).a, .int .i64 (H (E x.1) (E x.2) (F c)).b, .int .i64 (H (E x.1) (E x.2) (F c)).c, .int .i64 (H (E x.1) (E x.2) (F c)).d, .int .i64 (H (E x.1) (E x.2) (F c)).e, .int .i64 (H (E x.1) (E x.2) (F c)).f] 25 := by rw [← hU]; exact Blk.put9 (RB.out _ (by (repeat' (first | (with_reducible exact Grew.refl _) | (with_reducible assumption) | (with_reducible refine Grew.alloc ?_ _ _) | (with_reducible refine Grew.drew ?_) | (with_reducible refine Grew.drewN ?_ _) | (with_reducible refine Grew.setCell ?_ ?_ _) | go_size))))
    have GU : Grew w U := by rw [← hU]; exact Grew.put9 ((GV2.trans G2).trans (by (repeat' (first | (with_reducible exact Grew.refl _) | (with_reducible assumption) | (with_reducible refine Grew.alloc ?_ _ _) | (with_reducible refine Grew.drew ?_) | (with_reducible refine Grew.drewN ?_ _) | (with_reducible refine Grew.setCell ?_ ?_ _) | go_size)))) (by omega)
    clear hU GA GV2 G2 RB y0 v0 y1 v1 y2 v2 y3 v3 y4 v4 y5 v5 y6 v6 y7 v7 y8 v8
    have u0 := blkAt BU (i := 0) rfl
    have u1 := blkAt BU (i := 1) rfl
    have u2 := blkAt BU (i := 2) rfl
    have u3 := blkAt BU (i := 3) rfl
    have u4 := blkAt BU (i := 4) rfl
    have u5 := blkAt BU (i := 5) rfl
    have u6 := blkAt BU (i := 6) rfl
    have u7 := blkAt BU (i := 7) rfl
    have u8 := blkAt BU (i := 8) rfl
    refine bodyPost_ret (v := .agg #[.int .i64 0, .int .i64 0, .int .i64 0, .int .i64 (H (E x.1) (E x.2) (F c)).a, .int .i64 (H (E x.1) (E x.2) (F c)).b, .int .i64 (H (E x.1) (E x.2) (F c)).c, .int .i64 (H (E x.1) (E x.2) (F c)).d, .int .i64 (H (E x.1) (E x.2) (F c)).e, .int .i64 (H (E x.1) (E x.2) (F c)).f]) (by simp [results, Tryz.results21, go_sem, u0, u1, u2, u3, u4, u5, u6, u7, u8]) rfl ⟨rfl, GU⟩
end Td
end Go.Proofs.YtpiajdahmcelnaaGreat
