/-
  The landed package tide: Bound, where it has an answer.
-/
import Derived.Test.YtpiajdahmcelnaaGreatMTdI
namespace Go.Proofs.YtpiajdahmcelnaaGreat
open Go.RowKit Hl
namespace Td
set_option maxRecDepth 100000

set_option maxHeartbeats 16000000 in
theorem bound_ok (K : Hl.Code) (t : Ed) (u : Value) (lo hi : Pt) (c d : Int) (w : World) (hs : Rs w u t.l) (h1 : Tok t) (h2 : Rec lo hi) (h3 : Tms c d) :
    ∃ k, OvB t lo hi c d = k ∧ Calls Tryz.prog 10 #[tv t u, .agg #[.int .i64 lo.1, .int .i64 lo.2], .agg #[.int .i64 hi.1, .int .i64 hi.2], .int .i64 c, .int .i64 d] w fun e w' => e = .returned (.tuple #[.agg #[.int .i64 0, .int .i64 0, .int .i64 0, .int .i64 k.a, .int .i64 k.b, .int .i64 k.c, .int .i64 k.d, .int .i64 k.e, .int .i64 k.f], .int .i64 0]) ∧ Grew w w' := by
  refine ⟨_, rfl, ?_⟩
  have hl : t.l.length ≤ 9223372036854775807 := by have := h1.2.2.2.2.2.1; omega
  have C1 : Hid (∀ W, Grew w W → Calls Tryz.prog 8 #[tv t u] W fun e w' => e = .returned (.bool true) ∧ Grew W w') := Lib.hid (fun W g => by
    have h := valid_c t u W (hs.grew g) hl
    rwa [decide_eq_true h1] at h)
  have C2 : Hid (∀ W, Calls Tryz.prog 28 #[.agg #[.int .i64 lo.1, .int .i64 lo.2], .agg #[.int .i64 hi.1, .int .i64 hi.2]] W fun e w' => e = .returned (.bool true) ∧ Grew W w') := Lib.hid (fun W => by
    have h := isRectangle_c K lo hi W
    rwa [decide_eq_true h2] at h)
  have C3 : Hid (∀ W, Calls Tryz.prog 29 #[.int .i64 c, .int .i64 d] W fun e w' => e = .returned (.bool true) ∧ W = w') := Lib.hid (fun W => by
    have h := areTimes_c c d W
    rwa [decide_eq_true (p := 0 ≤ c ∧ c ≤ d ∧ d ≤ 1000000000) h3] at h)
  have hf := few_of h1 h2 h3
  obtain ⟨a, ha⟩ := cut1_some h1.2.2.2.2.2.2.2 (sl t.z c) (bk lo.2) (bk lo.1)
  obtain ⟨z, hz⟩ := cut2_some h1.2.2.2.2.2.2.2 (sl t.z d) (bk hi.2) (bk hi.1)
  have haz : a ≤ z := cut_le ha hz (by unfold Few6 at hf; unfold bef; omega)
  have OV := bl_ov h1 hf.2.1.2.1 hf.2.2.2.1 hf.1.2.1 ha hz
  have D1 : Hid (∀ W, Grew w W → ∀ B1 B2 B3, Sees W B1 B2 B3 t u (sl t.z c) (bk lo.2) (bk lo.1) (sl t.z d) (bk hi.2) (bk hi.1) → SeqStopsK Fence.wide 4 Tryz.prog 48 #[.pointer (some ⟨B1, 0, none⟩), .pointer (some ⟨B2, 0, none⟩), .pointer (some ⟨B3, 0, none⟩)] encF (Below W.heap.size) (fun ys => ys = bl t.r ((t.l.take z).drop a) (sl t.z c) (bk lo.2) (bk lo.1) (sl t.z d) (bk hi.2) (bk hi.1)) (fun _ => True) 4002 W) := Lib.hid (fun W g B1 B2 B3 hc => blocks_stops 4 (by omega) B1 B2 B3 t u _ _ _ _ _ _ a z W (hs.grew g) hc h1.2.2.2.2.2.1 (fun i hi => (h1.2.2.2.2.2.2.1 i hi).1) h1.2.2.2.1 ha hz haz hf)
  have PX : Hid (∀ W (x1 x2 cc : Int), Plc (x1, x2) ∧ (0 ≤ cc ∧ cc ≤ 1000000000) → Calls Tryz.prog 31 #[.agg #[.int .i64 t.v, .int .i64 t.z, .int .i64 t.n, .int .i64 t.r.x, .int .i64 t.r.y, .int .i64 t.r.s, .int .i64 t.r.k.a, .int .i64 t.r.k.b, .int .i64 t.r.k.c, .int .i64 t.r.k.d, .int .i64 t.r.k.e, .int .i64 t.r.k.f, u], .agg #[.int .i64 x1, .int .i64 x2], .int .i64 cc] W fun e w' => e = .returned (.agg #[.int .i64 (sl t.z cc), .int .i64 (bk x2), .int .i64 (bk x1)]) ∧ Grew W w') := Lib.hid (fun W x1 x2 cc h => by
    have := spotAt_c t u (x1, x2) cc W h1.2.1 h.2 h.1
    unfold tv at this
    exact this)
  have PL : Hid (Plc (lo.1, lo.2) ∧ (0 ≤ c ∧ c ≤ 1000000000)) := Lib.hid ⟨h2.1, by unfold Tms at h3; omega⟩
  have PR : Hid (Plc (hi.1, hi.2) ∧ (0 ≤ d ∧ d ≤ 1000000000)) := Lib.hid ⟨h2.2.1, by unfold Tms at h3; omega⟩
  have hK : Hid (OvB t lo hi c d = Ov t (bk lo.1) (bk hi.1) (bk lo.2) (bk hi.2) (sl t.z c) (sl t.z d)) := Lib.hid rfl
  rw [hK.out]
  clear hK hf ha hz haz h1 h2 h3 hl
  obtain ⟨xs, hx⟩ : ∃ xs, bl t.r ((t.l.take z).drop a) (sl t.z c) (bk lo.2) (bk lo.1) (sl t.z d) (bk hi.2) (bk hi.1) = xs := ⟨_, rfl⟩
  rw [hx] at D1 OV
  clear hx
  generalize Ov t (bk lo.1) (bk hi.1) (bk lo.2) (bk hi.2) (sl t.z c) (sl t.z d) = k at *
  unfold tv at C1 ⊢
  clear K hs
  have RB : Hid (∀ W, Grew ((((w.alloc (.cells #[.int .i64 t.v, .int .i64 t.z, .int .i64 t.n, .int .i64 t.r.x, .int .i64 t.r.y, .int .i64 t.r.s, .int .i64 t.r.k.a, .int .i64 t.r.k.b, .int .i64 t.r.k.c, .int .i64 t.r.k.d, .int .i64 t.r.k.e, .int .i64 t.r.k.f, u] 28)).alloc (.cells #[.int .i64 lo.1, .int .i64 lo.2] 30)).alloc (.cells #[.int .i64 hi.1, .int .i64 hi.2] 30)).alloc (.cells #[.int .i64 0, .int .i64 0, .int .i64 0, .int .i64 0, .int .i64 0, .int .i64 0, .int .i64 0, .int .i64 0, .int .i64 0] 25)) W → Blk W (w.heap.size + 1 + 1 + 1) #[.int .i64 0, .int .i64 0, .int .i64 0, .int .i64 0, .int .i64 0, .int .i64 0, .int .i64 0, .int .i64 0, .int .i64 0] 25) := Lib.hid (fun W g => (blkN (by simp)).grown g)
  have J1 : Hid (∀ W B1 B2 B3, Grew w W → Sees W B1 B2 B3 t u (sl t.z c) (bk lo.2) (bk lo.1) (sl t.z d) (bk hi.2) (bk hi.1) → Calls Tryz.prog 32 #[.func (.func 48) #[] #[.pointer (some ⟨B1, 0, none⟩), .pointer (some ⟨B2, 0, none⟩), .pointer (some ⟨B3, 0, none⟩)], .func (.func 33) #[] #[]] W fun e w' => e = .returned (.agg #[.int .i64 k.a, .int .i64 k.b]) ∧ Grew W w') := Lib.hid (fun W B1 B2 B3 g hc => by
    have h := joined_c 33 enter_bound1 pU pU_ok bound1_c _ xs W (D1.out W g B1 B2 B3 hc)
    rw [OV.1] at h
    exact h)
  have J2 : Hid (∀ W B1 B2 B3, Grew w W → Sees W B1 B2 B3 t u (sl t.z c) (bk lo.2) (bk lo.1) (sl t.z d) (bk hi.2) (bk hi.1) → Calls Tryz.prog 32 #[.func (.func 48) #[] #[.pointer (some ⟨B1, 0, none⟩), .pointer (some ⟨B2, 0, none⟩), .pointer (some ⟨B3, 0, none⟩)], .func (.func 34) #[] #[]] W fun e w' => e = .returned (.agg #[.int .i64 k.c, .int .i64 k.d]) ∧ Grew W w') := Lib.hid (fun W B1 B2 B3 g hc => by
    have h := joined_c 34 enter_bound2 pV pV_ok bound2_c _ xs W (D1.out W g B1 B2 B3 hc)
    rw [OV.2.1] at h
    exact h)
  have J3 : Hid (∀ W B1 B2 B3, Grew w W → Sees W B1 B2 B3 t u (sl t.z c) (bk lo.2) (bk lo.1) (sl t.z d) (bk hi.2) (bk hi.1) → Calls Tryz.prog 32 #[.func (.func 48) #[] #[.pointer (some ⟨B1, 0, none⟩), .pointer (some ⟨B2, 0, none⟩), .pointer (some ⟨B3, 0, none⟩)], .func (.func 35) #[] #[]] W fun e w' => e = .returned (.agg #[.int .i64 k.e, .int .i64 k.f]) ∧ Grew W w') := Lib.hid (fun W B1 B2 B3 g hc => by
    have h := joined_c 35 enter_bound3 pH pH_ok bound3_c _ xs W (D1.out W g B1 B2 B3 hc)
    rw [OV.2.2] at h
    exact h)
  clear OV D1
  rcases t with ⟨tv, tz, tn, ⟨rx, ry, rs, ⟨ra, rb, rc, rd, rp, rq⟩⟩, l⟩
  simp only at C1 PX RB ⊢
  rcases k with ⟨ka, kb, kc, kd, ke, kf⟩
  simp only at J1 J2 J3 ⊢
  go_enter Tryz.func10, Tryz.ntmps10
  go_wp2_with fail
  refine (C1.out _ (by (repeat' (first | (with_reducible exact Grew.refl _) | (with_reducible assumption) | (with_reducible refine Grew.alloc ?_ _ _) | (with_reducible refine Grew.drew ?_) | (with_reducible refine Grew.drewN ?_ _) | (with_reducible refine Grew.setCell ?_ ?_ _) | go_size)))).mono ?_
  rintro e w1 ⟨rfl, g1⟩
  have G10 : Grew ((((w.alloc (.cells #[.int .i64 tv, .int .i64 tz, .int .i64 tn, .int .i64 rx, .int .i64 ry, .int .i64 rs, .int .i64 ra, .int .i64 rb, .int .i64 rc, .int .i64 rd, .int .i64 rp, .int .i64 rq, u] 28)).alloc (.cells #[.int .i64 lo.1, .int .i64 lo.2] 30)).alloc (.cells #[.int .i64 hi.1, .int .i64 hi.2] 30)).alloc (.cells #[.int .i64 0, .int .i64 0, .int .i64 0, .int .i64 0, .int .i64 0, .int .i64 0, .int .i64 0, .int .i64 0, .int .i64 0] 25)) w1 := g1
  obtain ⟨c1, f1, z1⟩ := laid g1
  try simp at z1
  have G1 : Grew w w1 := Grew.trans (by (repeat' (first | (with_reducible exact Grew.refl _) | (with_reducible assumption) | (with_reducible refine Grew.alloc ?_ _ _) | (with_reducible refine Grew.drew ?_) | (with_reducible refine Grew.drewN ?_ _) | (with_reducible refine Grew.setCell ?_ ?_ _) | go_size))) g1
  clear g1
  have z1_0 : w.heap.size < w1.heap.size := by omega
  have z1_1 : w.heap.size + 1 < w1.heap.size := by omega
  have z1_2 : w.heap.size + 1 + 1 < w1.heap.size := by omega
  have z1_3 : w.heap.size + 1 + 1 + 1 < w1.heap.size := by omega
  go_wp2_with fail
  refine (C2.out _).mono ?_
  rintro e w2 ⟨rfl, g2⟩
  have G20 : Grew ((((w.alloc (.cells #[.int .i64 tv, .int .i64 tz, .int .i64 tn, .int .i64 rx, .int .i64 ry, .int .i64 rs, .int .i64 ra, .int .i64 rb, .int .i64 rc, .int .i64 rd, .int .i64 rp, .int .i64 rq, u] 28)).alloc (.cells #[.int .i64 lo.1, .int .i64 lo.2] 30)).alloc (.cells #[.int .i64 hi.1, .int .i64 hi.2] 30)).alloc (.cells #[.int .i64 0, .int .i64 0, .int .i64 0, .int .i64 0, .int .i64 0, .int .i64 0, .int .i64 0, .int .i64 0, .int .i64 0] 25)) w2 := Grew.trans G10 g2
  obtain ⟨c2, f2, z2⟩ := laid g2
  try simp at z2
  have G2 : Grew w w2 := Grew.trans (by (repeat' (first | (with_reducible exact Grew.refl _) | (with_reducible assumption) | (with_reducible refine Grew.alloc ?_ _ _) | (with_reducible refine Grew.drew ?_) | (with_reducible refine Grew.drewN ?_ _) | (with_reducible refine Grew.setCell ?_ ?_ _) | go_size))) g2
  clear g2
  have z2_0 : w.heap.size < w2.heap.size := by omega
  have z2_1 : w.heap.size + 1 < w2.heap.size := by omega
  have z2_2 : w.heap.size + 1 + 1 < w2.heap.size := by omega
  have z2_3 : w.heap.size + 1 + 1 + 1 < w2.heap.size := by omega
  go_wp2_with fail
  refine (C3.out _).mono ?_
  rintro e w3 ⟨rfl, rfl⟩
  have KS : Hid (∀ W W', (W.cell? ⟨w.heap.size, 0, none⟩ = some (.int .i64 tv) ∧ W.cell? ⟨w.heap.size, 1, none⟩ = some (.int .i64 tz) ∧ W.cell? ⟨w.heap.size, 2, none⟩ = some (.int .i64 tn) ∧ W.cell? ⟨w.heap.size, 3, none⟩ = some (.int .i64 rx) ∧ W.cell? ⟨w.heap.size, 4, none⟩ = some (.int .i64 ry) ∧ W.cell? ⟨w.heap.size, 5, none⟩ = some (.int .i64 rs) ∧ W.cell? ⟨w.heap.size, 6, none⟩ = some (.int .i64 ra) ∧ W.cell? ⟨w.heap.size, 7, none⟩ = some (.int .i64 rb) ∧ W.cell? ⟨w.heap.size, 8, none⟩ = some (.int .i64 rc) ∧ W.cell? ⟨w.heap.size, 9, none⟩ = some (.int .i64 rd) ∧ W.cell? ⟨w.heap.size, 10, none⟩ = some (.int .i64 rp) ∧ W.cell? ⟨w.heap.size, 11, none⟩ = some (.int .i64 rq) ∧ W.cell? ⟨w.heap.size, 12, none⟩ = some (u) ∧ W.cell? ⟨w.heap.size + 1, 0, none⟩ = some (.int .i64 lo.1) ∧ W.cell? ⟨w.heap.size + 1, 1, none⟩ = some (.int .i64 lo.2) ∧ W.cell? ⟨w.heap.size + 1 + 1, 0, none⟩ = some (.int .i64 hi.1) ∧ W.cell? ⟨w.heap.size + 1 + 1, 1, none⟩ = some (.int .i64 hi.2) ∧ Grew w2 W) → Grew W W' → (W'.cell? ⟨w.heap.size, 0, none⟩ = some (.int .i64 tv) ∧ W'.cell? ⟨w.heap.size, 1, none⟩ = some (.int .i64 tz) ∧ W'.cell? ⟨w.heap.size, 2, none⟩ = some (.int .i64 tn) ∧ W'.cell? ⟨w.heap.size, 3, none⟩ = some (.int .i64 rx) ∧ W'.cell? ⟨w.heap.size, 4, none⟩ = some (.int .i64 ry) ∧ W'.cell? ⟨w.heap.size, 5, none⟩ = some (.int .i64 rs) ∧ W'.cell? ⟨w.heap.size, 6, none⟩ = some (.int .i64 ra) ∧ W'.cell? ⟨w.heap.size, 7, none⟩ = some (.int .i64 rb) ∧ W'.cell? ⟨w.heap.size, 8, none⟩ = some (.int .i64 rc) ∧ W'.cell? ⟨w.heap.size, 9, none⟩ = some (.int .i64 rd) ∧ W'.cell? ⟨w.heap.size, 10, none⟩ = some (.int .i64 rp) ∧ W'.cell? ⟨w.heap.size, 11, none⟩ = some (.int .i64 rq) ∧ W'.cell? ⟨w.heap.size, 12, none⟩ = some (u) ∧ W'.cell? ⟨w.heap.size + 1, 0, none⟩ = some (.int .i64 lo.1) ∧ W'.cell? ⟨w.heap.size + 1, 1, none⟩ = some (.int .i64 lo.2) ∧ W'.cell? ⟨w.heap.size + 1 + 1, 0, none⟩ = some (.int .i64 hi.1) ∧ W'.cell? ⟨w.heap.size + 1 + 1, 1, none⟩ = some (.int .i64 hi.2) ∧ Grew w2 W')) := Lib.hid (by
    rintro W W' ⟨a0, a1, a2, a3, a4, a5, a6, a7, a8, a9, a10, a11, a12, a13, a14, a15, a16, g0⟩ gg
    have sz := g0.size
    have x1 : w.heap.size < W.heap.size := by omega
    have x2 : w.heap.size + 1 < W.heap.size := by omega
    have x3 : w.heap.size + 1 + 1 < W.heap.size := by omega
    exact ⟨(gg.cell x1).trans a0, (gg.cell x1).trans a1, (gg.cell x1).trans a2, (gg.cell x1).trans a3, (gg.cell x1).trans a4, (gg.cell x1).trans a5, (gg.cell x1).trans a6, (gg.cell x1).trans a7, (gg.cell x1).trans a8, (gg.cell x1).trans a9, (gg.cell x1).trans a10, (gg.cell x1).trans a11, (gg.cell x1).trans a12, (gg.cell x2).trans a13, (gg.cell x2).trans a14, (gg.cell x3).trans a15, (gg.cell x3).trans a16, g0.trans gg⟩)
  have KD : Hid (∀ W, (W.cell? ⟨w.heap.size, 0, none⟩ = some (.int .i64 tv) ∧ W.cell? ⟨w.heap.size, 1, none⟩ = some (.int .i64 tz) ∧ W.cell? ⟨w.heap.size, 2, none⟩ = some (.int .i64 tn) ∧ W.cell? ⟨w.heap.size, 3, none⟩ = some (.int .i64 rx) ∧ W.cell? ⟨w.heap.size, 4, none⟩ = some (.int .i64 ry) ∧ W.cell? ⟨w.heap.size, 5, none⟩ = some (.int .i64 rs) ∧ W.cell? ⟨w.heap.size, 6, none⟩ = some (.int .i64 ra) ∧ W.cell? ⟨w.heap.size, 7, none⟩ = some (.int .i64 rb) ∧ W.cell? ⟨w.heap.size, 8, none⟩ = some (.int .i64 rc) ∧ W.cell? ⟨w.heap.size, 9, none⟩ = some (.int .i64 rd) ∧ W.cell? ⟨w.heap.size, 10, none⟩ = some (.int .i64 rp) ∧ W.cell? ⟨w.heap.size, 11, none⟩ = some (.int .i64 rq) ∧ W.cell? ⟨w.heap.size, 12, none⟩ = some (u) ∧ W.cell? ⟨w.heap.size + 1, 0, none⟩ = some (.int .i64 lo.1) ∧ W.cell? ⟨w.heap.size + 1, 1, none⟩ = some (.int .i64 lo.2) ∧ W.cell? ⟨w.heap.size + 1 + 1, 0, none⟩ = some (.int .i64 hi.1) ∧ W.cell? ⟨w.heap.size + 1 + 1, 1, none⟩ = some (.int .i64 hi.2) ∧ Grew w2 W) → (W.drew.cell? ⟨w.heap.size, 0, none⟩ = some (.int .i64 tv) ∧ W.drew.cell? ⟨w.heap.size, 1, none⟩ = some (.int .i64 tz) ∧ W.drew.cell? ⟨w.heap.size, 2, none⟩ = some (.int .i64 tn) ∧ W.drew.cell? ⟨w.heap.size, 3, none⟩ = some (.int .i64 rx) ∧ W.drew.cell? ⟨w.heap.size, 4, none⟩ = some (.int .i64 ry) ∧ W.drew.cell? ⟨w.heap.size, 5, none⟩ = some (.int .i64 rs) ∧ W.drew.cell? ⟨w.heap.size, 6, none⟩ = some (.int .i64 ra) ∧ W.drew.cell? ⟨w.heap.size, 7, none⟩ = some (.int .i64 rb) ∧ W.drew.cell? ⟨w.heap.size, 8, none⟩ = some (.int .i64 rc) ∧ W.drew.cell? ⟨w.heap.size, 9, none⟩ = some (.int .i64 rd) ∧ W.drew.cell? ⟨w.heap.size, 10, none⟩ = some (.int .i64 rp) ∧ W.drew.cell? ⟨w.heap.size, 11, none⟩ = some (.int .i64 rq) ∧ W.drew.cell? ⟨w.heap.size, 12, none⟩ = some (u) ∧ W.drew.cell? ⟨w.heap.size + 1, 0, none⟩ = some (.int .i64 lo.1) ∧ W.drew.cell? ⟨w.heap.size + 1, 1, none⟩ = some (.int .i64 lo.2) ∧ W.drew.cell? ⟨w.heap.size + 1 + 1, 0, none⟩ = some (.int .i64 hi.1) ∧ W.drew.cell? ⟨w.heap.size + 1 + 1, 1, none⟩ = some (.int .i64 hi.2) ∧ Grew w2 W.drew)) := Lib.hid (fun W h => KS.out W _ h (Grew.refl W).drew)
  have Q1 : Hid (∀ W (x1 x2 cc : Int), (W.cell? ⟨w.heap.size, 0, none⟩ = some (.int .i64 tv) ∧ W.cell? ⟨w.heap.size, 1, none⟩ = some (.int .i64 tz) ∧ W.cell? ⟨w.heap.size, 2, none⟩ = some (.int .i64 tn) ∧ W.cell? ⟨w.heap.size, 3, none⟩ = some (.int .i64 rx) ∧ W.cell? ⟨w.heap.size, 4, none⟩ = some (.int .i64 ry) ∧ W.cell? ⟨w.heap.size, 5, none⟩ = some (.int .i64 rs) ∧ W.cell? ⟨w.heap.size, 6, none⟩ = some (.int .i64 ra) ∧ W.cell? ⟨w.heap.size, 7, none⟩ = some (.int .i64 rb) ∧ W.cell? ⟨w.heap.size, 8, none⟩ = some (.int .i64 rc) ∧ W.cell? ⟨w.heap.size, 9, none⟩ = some (.int .i64 rd) ∧ W.cell? ⟨w.heap.size, 10, none⟩ = some (.int .i64 rp) ∧ W.cell? ⟨w.heap.size, 11, none⟩ = some (.int .i64 rq) ∧ W.cell? ⟨w.heap.size, 12, none⟩ = some (u) ∧ W.cell? ⟨w.heap.size + 1, 0, none⟩ = some (.int .i64 lo.1) ∧ W.cell? ⟨w.heap.size + 1, 1, none⟩ = some (.int .i64 lo.2) ∧ W.cell? ⟨w.heap.size + 1 + 1, 0, none⟩ = some (.int .i64 hi.1) ∧ W.cell? ⟨w.heap.size + 1 + 1, 1, none⟩ = some (.int .i64 hi.2) ∧ Grew w2 W) → Plc (x1, x2) ∧ (0 ≤ cc ∧ cc ≤ 1000000000) → Calls Tryz.prog 31 #[.agg #[.int .i64 tv, .int .i64 tz, .int .i64 tn, .int .i64 rx, .int .i64 ry, .int .i64 rs, .int .i64 ra, .int .i64 rb, .int .i64 rc, .int .i64 rd, .int .i64 rp, .int .i64 rq, u], .agg #[.int .i64 x1, .int .i64 x2], .int .i64 cc] W fun e w' => e = .returned (.agg #[.int .i64 (sl tz cc), .int .i64 (bk x2), .int .i64 (bk x1)]) ∧ (w'.cell? ⟨w.heap.size, 0, none⟩ = some (.int .i64 tv) ∧ w'.cell? ⟨w.heap.size, 1, none⟩ = some (.int .i64 tz) ∧ w'.cell? ⟨w.heap.size, 2, none⟩ = some (.int .i64 tn) ∧ w'.cell? ⟨w.heap.size, 3, none⟩ = some (.int .i64 rx) ∧ w'.cell? ⟨w.heap.size, 4, none⟩ = some (.int .i64 ry) ∧ w'.cell? ⟨w.heap.size, 5, none⟩ = some (.int .i64 rs) ∧ w'.cell? ⟨w.heap.size, 6, none⟩ = some (.int .i64 ra) ∧ w'.cell? ⟨w.heap.size, 7, none⟩ = some (.int .i64 rb) ∧ w'.cell? ⟨w.heap.size, 8, none⟩ = some (.int .i64 rc) ∧ w'.cell? ⟨w.heap.size, 9, none⟩ = some (.int .i64 rd) ∧ w'.cell? ⟨w.heap.size, 10, none⟩ = some (.int .i64 rp) ∧ w'.cell? ⟨w.heap.size, 11, none⟩ = some (.int .i64 rq) ∧ w'.cell? ⟨w.heap.size, 12, none⟩ = some (u) ∧ w'.cell? ⟨w.heap.size + 1, 0, none⟩ = some (.int .i64 lo.1) ∧ w'.cell? ⟨w.heap.size + 1, 1, none⟩ = some (.int .i64 lo.2) ∧ w'.cell? ⟨w.heap.size + 1 + 1, 0, none⟩ = some (.int .i64 hi.1) ∧ w'.cell? ⟨w.heap.size + 1 + 1, 1, none⟩ = some (.int .i64 hi.2) ∧ Grew w2 w')) := Lib.hid (fun W x1 x2 cc h hp => by
    refine (PX.out W x1 x2 cc hp).mono ?_
    rintro e w' ⟨rfl, gg⟩
    exact ⟨rfl, KS.out _ _ h gg⟩)
  have Q3 : Hid (∀ W, (W.cell? ⟨w.heap.size, 0, none⟩ = some (.int .i64 tv) ∧ W.cell? ⟨w.heap.size, 1, none⟩ = some (.int .i64 tz) ∧ W.cell? ⟨w.heap.size, 2, none⟩ = some (.int .i64 tn) ∧ W.cell? ⟨w.heap.size, 3, none⟩ = some (.int .i64 rx) ∧ W.cell? ⟨w.heap.size, 4, none⟩ = some (.int .i64 ry) ∧ W.cell? ⟨w.heap.size, 5, none⟩ = some (.int .i64 rs) ∧ W.cell? ⟨w.heap.size, 6, none⟩ = some (.int .i64 ra) ∧ W.cell? ⟨w.heap.size, 7, none⟩ = some (.int .i64 rb) ∧ W.cell? ⟨w.heap.size, 8, none⟩ = some (.int .i64 rc) ∧ W.cell? ⟨w.heap.size, 9, none⟩ = some (.int .i64 rd) ∧ W.cell? ⟨w.heap.size, 10, none⟩ = some (.int .i64 rp) ∧ W.cell? ⟨w.heap.size, 11, none⟩ = some (.int .i64 rq) ∧ W.cell? ⟨w.heap.size, 12, none⟩ = some (u) ∧ W.cell? ⟨w.heap.size + 1, 0, none⟩ = some (.int .i64 lo.1) ∧ W.cell? ⟨w.heap.size + 1, 1, none⟩ = some (.int .i64 lo.2) ∧ W.cell? ⟨w.heap.size + 1 + 1, 0, none⟩ = some (.int .i64 hi.1) ∧ W.cell? ⟨w.heap.size + 1 + 1, 1, none⟩ = some (.int .i64 hi.2) ∧ Grew w2 W) → Calls Tryz.prog 30 #[.agg #[.int .i64 tv, .int .i64 tz, .int .i64 tn, .int .i64 rx, .int .i64 ry, .int .i64 rs, .int .i64 ra, .int .i64 rb, .int .i64 rc, .int .i64 rd, .int .i64 rp, .int .i64 rq, u], .agg #[.int .i64 (sl tz c), .int .i64 (bk lo.2), .int .i64 (bk lo.1)], .agg #[.int .i64 (sl tz d), .int .i64 (bk hi.2), .int .i64 (bk hi.1)]] W fun e w' => ∃ B1 B2 B3, e = .returned (.func (.func 48) #[] #[.pointer (some ⟨B1, 0, none⟩), .pointer (some ⟨B2, 0, none⟩), .pointer (some ⟨B3, 0, none⟩)]) ∧ (w'.cell? ⟨w.heap.size, 0, none⟩ = some (.int .i64 tv) ∧ w'.cell? ⟨w.heap.size, 1, none⟩ = some (.int .i64 tz) ∧ w'.cell? ⟨w.heap.size, 2, none⟩ = some (.int .i64 tn) ∧ w'.cell? ⟨w.heap.size, 3, none⟩ = some (.int .i64 rx) ∧ w'.cell? ⟨w.heap.size, 4, none⟩ = some (.int .i64 ry) ∧ w'.cell? ⟨w.heap.size, 5, none⟩ = some (.int .i64 rs) ∧ w'.cell? ⟨w.heap.size, 6, none⟩ = some (.int .i64 ra) ∧ w'.cell? ⟨w.heap.size, 7, none⟩ = some (.int .i64 rb) ∧ w'.cell? ⟨w.heap.size, 8, none⟩ = some (.int .i64 rc) ∧ w'.cell? ⟨w.heap.size, 9, none⟩ = some (.int .i64 rd) ∧ w'.cell? ⟨w.heap.size, 10, none⟩ = some (.int .i64 rp) ∧ w'.cell? ⟨w.heap.size, 11, none⟩ = some (.int .i64 rq) ∧ w'.cell? ⟨w.heap.size, 12, none⟩ = some (u) ∧ w'.cell? ⟨w.heap.size + 1, 0, none⟩ = some (.int .i64 lo.1) ∧ w'.cell? ⟨w.heap.size + 1, 1, none⟩ = some (.int .i64 lo.2) ∧ w'.cell? ⟨w.heap.size + 1 + 1, 0, none⟩ = some (.int .i64 hi.1) ∧ w'.cell? ⟨w.heap.size + 1 + 1, 1, none⟩ = some (.int .i64 hi.2) ∧ Grew w2 w') ∧ Hid (Sees w' B1 B2 B3 ⟨tv, tz, tn, ⟨rx, ry, rs, ⟨ra, rb, rc, rd, rp, rq⟩⟩, l⟩ u (sl tz c) (bk lo.2) (bk lo.1) (sl tz d) (bk hi.2) (bk hi.1))) := Lib.hid (fun W h => by
    refine (blocks_c ⟨tv, tz, tn, ⟨rx, ry, rs, ⟨ra, rb, rc, rd, rp, rq⟩⟩, l⟩ u (sl tz c) (bk lo.2) (bk lo.1) (sl tz d) (bk hi.2) (bk hi.1) W).mono ?_
    rintro e w' ⟨rfl, gg, sees⟩
    exact ⟨_, _, _, rfl, KS.out _ _ h gg, Lib.hid sees⟩)
  have S0 : w2.cell? ⟨w.heap.size, 0, none⟩ = some (.int .i64 tv) ∧ w2.cell? ⟨w.heap.size, 1, none⟩ = some (.int .i64 tz) ∧ w2.cell? ⟨w.heap.size, 2, none⟩ = some (.int .i64 tn) ∧ w2.cell? ⟨w.heap.size, 3, none⟩ = some (.int .i64 rx) ∧ w2.cell? ⟨w.heap.size, 4, none⟩ = some (.int .i64 ry) ∧ w2.cell? ⟨w.heap.size, 5, none⟩ = some (.int .i64 rs) ∧ w2.cell? ⟨w.heap.size, 6, none⟩ = some (.int .i64 ra) ∧ w2.cell? ⟨w.heap.size, 7, none⟩ = some (.int .i64 rb) ∧ w2.cell? ⟨w.heap.size, 8, none⟩ = some (.int .i64 rc) ∧ w2.cell? ⟨w.heap.size, 9, none⟩ = some (.int .i64 rd) ∧ w2.cell? ⟨w.heap.size, 10, none⟩ = some (.int .i64 rp) ∧ w2.cell? ⟨w.heap.size, 11, none⟩ = some (.int .i64 rq) ∧ w2.cell? ⟨w.heap.size, 12, none⟩ = some (u) ∧ w2.cell? ⟨w.heap.size + 1, 0, none⟩ = some (.int .i64 lo.1) ∧ w2.cell? ⟨w.heap.size + 1, 1, none⟩ = some (.int .i64 lo.2) ∧ w2.cell? ⟨w.heap.size + 1 + 1, 0, none⟩ = some (.int .i64 hi.1) ∧ w2.cell? ⟨w.heap.size + 1 + 1, 1, none⟩ = some (.int .i64 hi.2) ∧ Grew w2 w2 := ⟨by simp [go_sem, *], by simp [go_sem, *], by simp [go_sem, *], by simp [go_sem, *], by simp [go_sem, *], by simp [go_sem, *], by simp [go_sem, *], by simp [go_sem, *], by simp [go_sem, *], by simp [go_sem, *], by simp [go_sem, *], by simp [go_sem, *], by simp [go_sem, *], by simp [go_sem, *], by simp [go_sem, *], by simp [go_sem, *], by simp [go_sem, *], Grew.refl _⟩
  clear c1 f1 z1 c2 f2 C1 C2 C3
  go_wp2_with fail
  
  go_region_held3 (fun W => W.cell? ⟨w.heap.size, 0, none⟩ = some (.int .i64 tv) ∧ W.cell? ⟨w.heap.size, 1, none⟩ = some (.int .i64 tz) ∧ W.cell? ⟨w.heap.size, 2, none⟩ = some (.int .i64 tn) ∧ W.cell? ⟨w.heap.size, 3, none⟩ = some (.int .i64 rx) ∧ W.cell? ⟨w.heap.size, 4, none⟩ = some (.int .i64 ry) ∧ W.cell? ⟨w.heap.size, 5, none⟩ = some (.int .i64 rs) ∧ W.cell? ⟨w.heap.size, 6, none⟩ = some (.int .i64 ra) ∧ W.cell? ⟨w.heap.size, 7, none⟩ = some (.int .i64 rb) ∧ W.cell? ⟨w.heap.size, 8, none⟩ = some (.int .i64 rc) ∧ W.cell? ⟨w.heap.size, 9, none⟩ = some (.int .i64 rd) ∧ W.cell? ⟨w.heap.size, 10, none⟩ = some (.int .i64 rp) ∧ W.cell? ⟨w.heap.size, 11, none⟩ = some (.int .i64 rq) ∧ W.cell? ⟨w.heap.size, 12, none⟩ = some (u) ∧ W.cell? ⟨w.heap.size + 1, 0, none⟩ = some (.int .i64 lo.1) ∧ W.cell? ⟨w.heap.size + 1, 1, none⟩ = some (.int .i64 lo.2) ∧ W.cell? ⟨w.heap.size + 1 + 1, 0, none⟩ = some (.int .i64 hi.1) ∧ W.cell? ⟨w.heap.size + 1 + 1, 1, none⟩ = some (.int .i64 hi.2) ∧ Grew w2 W) (first | assumption | exact KD.out _ (by assumption)) (first
    | (go_at_call 31; refine (Q1.out _ _ _ _ (by assumption) (by first | exact PL.out | exact PR.out)).mono ?_; rintro e w4 ⟨rfl, S4⟩)
    | (go_at_call 30; refine (Q3.out _ (by assumption)).mono ?_; rintro e w6 ⟨B1, B2, B3, rfl, S6, SE⟩))
  obtain ⟨_, _, _, _, _, _, _, _, _, _, _, _, _, _, _, _, _, G60⟩ := S6
  have G6 : Grew w w6 := Grew.trans G2 G60
  have G60 := Grew.trans G20 G60
  clear S0 S4 Q1 Q3 KS KD G1 G2 G10 G20 PX PL PR
  go_wp2_with fail
  refine (J1.out _ _ _ _ G6 SE.out).mono ?_
  rintro e w7 ⟨rfl, g7⟩
  have SE7 := Lib.hid (SE.out.grew g7)
  have G7 := G6.trans g7
  have G70 := G60.trans g7
  clear g7 SE
  go_wp2_with fail
  refine (J2.out _ _ _ _ G7 SE7.out).mono ?_
  rintro e w8 ⟨rfl, g8⟩
  have SE8 := Lib.hid (SE7.out.grew g8)
  have G8 := G7.trans g8
  have G80 := G70.trans g8
  clear g8 SE7 G7 G70 G6 G60
  go_wp2_with fail
  refine (J3.out _ _ _ _ G8 SE8.out).mono ?_
  rintro e w9 ⟨rfl, g9⟩
  have G9 := G8.trans g9
  have G90 := G80.trans g9
  clear g9 SE8 G8 G80
  have RK9 : Blk w9 (w.heap.size + 1 + 1 + 1) #[.int .i64 0, .int .i64 0, .int .i64 0, .int .i64 0, .int .i64 0, .int .i64 0, .int .i64 0, .int .i64 0, .int .i64 0] 25 := RB.out w9 G90
  have rz0 : w9.frozen? ⟨w.heap.size + 1 + 1 + 1, 0, none⟩ = false := blkFz RK9 (by simp)
  have rz1 : w9.frozen? ⟨w.heap.size + 1 + 1 + 1, 1, none⟩ = false := blkFz RK9 (by simp)
  have rz2 : w9.frozen? ⟨w.heap.size + 1 + 1 + 1, 2, none⟩ = false := blkFz RK9 (by simp)
  have rz3 : w9.frozen? ⟨w.heap.size + 1 + 1 + 1, 3, none⟩ = false := blkFz RK9 (by simp)
  have rz4 : w9.frozen? ⟨w.heap.size + 1 + 1 + 1, 4, none⟩ = false := blkFz RK9 (by simp)
  have rz5 : w9.frozen? ⟨w.heap.size + 1 + 1 + 1, 5, none⟩ = false := blkFz RK9 (by simp)
  have rz6 : w9.frozen? ⟨w.heap.size + 1 + 1 + 1, 6, none⟩ = false := blkFz RK9 (by simp)
  have rz7 : w9.frozen? ⟨w.heap.size + 1 + 1 + 1, 7, none⟩ = false := blkFz RK9 (by simp)
  have rz8 : w9.frozen? ⟨w.heap.size + 1 + 1 + 1, 8, none⟩ = false := blkFz RK9 (by simp)
  have ry0 : w9.cell? ⟨w.heap.size + 1 + 1 + 1, 0, none⟩ = some (.int .i64 0) := blkAt RK9 rfl
  have ry1 : w9.cell? ⟨w.heap.size + 1 + 1 + 1, 1, none⟩ = some (.int .i64 0) := blkAt RK9 rfl
  have ry2 : w9.cell? ⟨w.heap.size + 1 + 1 + 1, 2, none⟩ = some (.int .i64 0) := blkAt RK9 rfl
  have ry3 : w9.cell? ⟨w.heap.size + 1 + 1 + 1, 3, none⟩ = some (.int .i64 0) := blkAt RK9 rfl
  have ry4 : w9.cell? ⟨w.heap.size + 1 + 1 + 1, 4, none⟩ = some (.int .i64 0) := blkAt RK9 rfl
  have ry5 : w9.cell? ⟨w.heap.size + 1 + 1 + 1, 5, none⟩ = some (.int .i64 0) := blkAt RK9 rfl
  have ry6 : w9.cell? ⟨w.heap.size + 1 + 1 + 1, 6, none⟩ = some (.int .i64 0) := blkAt RK9 rfl
  have ry7 : w9.cell? ⟨w.heap.size + 1 + 1 + 1, 7, none⟩ = some (.int .i64 0) := blkAt RK9 rfl
  have ry8 : w9.cell? ⟨w.heap.size + 1 + 1 + 1, 8, none⟩ = some (.int .i64 0) := blkAt RK9 rfl
  have s9 := RK9.lt
  have gs9 := G9.size
  go_wp2_with fail
  refine bodyPost_ret (v := .tuple #[.agg #[.int .i64 0, .int .i64 0, .int .i64 0, .int .i64 ka, .int .i64 kb, .int .i64 kc, .int .i64 kd, .int .i64 ke, .int .i64 kf], .int .i64 0]) (by simp [results, Tryz.results10, go_sem, *]) rfl ⟨rfl, (by (repeat' (first | (with_reducible exact Grew.refl _) | (with_reducible assumption) | (with_reducible refine Grew.alloc ?_ _ _) | (with_reducible refine Grew.drew ?_) | (with_reducible refine Grew.drewN ?_ _) | (with_reducible refine Grew.setCell ?_ ?_ _) | go_size)))⟩
end Td
end Go.Proofs.YtpiajdahmcelnaaGreat
