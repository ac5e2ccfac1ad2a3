/-
  The landed package tide: Bound and At.
-/
import Derived.Test.YtpiajdahmcelnaaGreatMTdLst
namespace Go.Proofs.YtpiajdahmcelnaaGreat
open Go.RowKit Hl
namespace Td
set_option maxRecDepth 100000

theorem bound1_c (f : Fw) (w : World) : Calls Tryz.prog 33 #[.agg #[.int .i64 f.x, .int .i64 f.y, .int .i64 f.s, .int .i64 f.k.a, .int .i64 f.k.b, .int .i64 f.k.c, .int .i64 f.k.d, .int .i64 f.k.e, .int .i64 f.k.f]] w fun e w' => e = .returned (.agg #[.int .i64 (pU f).1, .int .i64 (pU f).2]) ∧ Grew w w' := by
  unfold pU
  rcases f with ⟨x, y, s, ⟨a, b, c, d, e0, f0⟩⟩
  simp only
  go_enter Tryz.func33, Tryz.ntmps33
  go_wp2_with fail
  refine bodyPost_ret (v := .agg #[.int .i64 a, .int .i64 b]) (by simp [results, Tryz.results33, go_sem, *]) rfl ⟨rfl, (by (repeat' (first | (with_reducible exact Grew.refl _) | (with_reducible assumption) | (with_reducible refine Grew.alloc ?_ _ _) | (with_reducible refine Grew.drew ?_) | (with_reducible refine Grew.drewN ?_ _) | (with_reducible refine Grew.setCell ?_ ?_ _) | go_size)))⟩
theorem enter_bound1 : ∀ args w, (callFunc 33 args).run Tryz.prog w = .ok (.enter 33 args) w := fun _ _ => by kernel_rfl
theorem bound2_c (f : Fw) (w : World) : Calls Tryz.prog 34 #[.agg #[.int .i64 f.x, .int .i64 f.y, .int .i64 f.s, .int .i64 f.k.a, .int .i64 f.k.b, .int .i64 f.k.c, .int .i64 f.k.d, .int .i64 f.k.e, .int .i64 f.k.f]] w fun e w' => e = .returned (.agg #[.int .i64 (pV f).1, .int .i64 (pV f).2]) ∧ Grew w w' := by
  unfold pV
  rcases f with ⟨x, y, s, ⟨a, b, c, d, e0, f0⟩⟩
  simp only
  go_enter Tryz.func34, Tryz.ntmps34
  go_wp2_with fail
  refine bodyPost_ret (v := .agg #[.int .i64 c, .int .i64 d]) (by simp [results, Tryz.results34, go_sem, *]) rfl ⟨rfl, (by (repeat' (first | (with_reducible exact Grew.refl _) | (with_reducible assumption) | (with_reducible refine Grew.alloc ?_ _ _) | (with_reducible refine Grew.drew ?_) | (with_reducible refine Grew.drewN ?_ _) | (with_reducible refine Grew.setCell ?_ ?_ _) | go_size)))⟩
theorem enter_bound2 : ∀ args w, (callFunc 34 args).run Tryz.prog w = .ok (.enter 34 args) w := fun _ _ => by kernel_rfl
theorem bound3_c (f : Fw) (w : World) : Calls Tryz.prog 35 #[.agg #[.int .i64 f.x, .int .i64 f.y, .int .i64 f.s, .int .i64 f.k.a, .int .i64 f.k.b, .int .i64 f.k.c, .int .i64 f.k.d, .int .i64 f.k.e, .int .i64 f.k.f]] w fun e w' => e = .returned (.agg #[.int .i64 (pH f).1, .int .i64 (pH f).2]) ∧ Grew w w' := by
  unfold pH
  rcases f with ⟨x, y, s, ⟨a, b, c, d, e0, f0⟩⟩
  simp only
  go_enter Tryz.func35, Tryz.ntmps35
  go_wp2_with fail
  refine bodyPost_ret (v := .agg #[.int .i64 e0, .int .i64 f0]) (by simp [results, Tryz.results35, go_sem, *]) rfl ⟨rfl, (by (repeat' (first | (with_reducible exact Grew.refl _) | (with_reducible assumption) | (with_reducible refine Grew.alloc ?_ _ _) | (with_reducible refine Grew.drew ?_) | (with_reducible refine Grew.drewN ?_ _) | (with_reducible refine Grew.setCell ?_ ?_ _) | go_size)))⟩
theorem enter_bound3 : ∀ args w, (callFunc 35 args).run Tryz.prog w = .ok (.enter 35 args) w := fun _ _ => by kernel_rfl
theorem blocks_c (t : Ed) (u : Value) (S Y X S' Y' X' : Int) (w : World) : Calls Tryz.prog 30 #[.agg #[.int .i64 t.v, .int .i64 t.z, .int .i64 t.n, .int .i64 t.r.x, .int .i64 t.r.y, .int .i64 t.r.s, .int .i64 t.r.k.a, .int .i64 t.r.k.b, .int .i64 t.r.k.c, .int .i64 t.r.k.d, .int .i64 t.r.k.e, .int .i64 t.r.k.f, u], .agg #[.int .i64 S, .int .i64 Y, .int .i64 X], .agg #[.int .i64 S', .int .i64 Y', .int .i64 X']] w fun e w' => e = .returned (.func (.func 48) #[] #[.pointer (some ⟨w.heap.size + 1 + 1, 0, none⟩), .pointer (some ⟨w.heap.size + 1, 0, none⟩), .pointer (some ⟨w.heap.size, 0, none⟩)]) ∧ Grew w w' ∧ Sees w' (w.heap.size + 1 + 1) (w.heap.size + 1) w.heap.size t u S Y X S' Y' X' := by
  have hmf : ∀ (fn : Fn) (first cap : Array Value) (w : World), (Instr.makeFunc fn first cap).run Tryz.prog w = .ok (.func fn first cap) w := fun _ _ _ _ => rfl
  have HS : Hid (Sees (((w.alloc (.cells #[.int .i64 t.v, .int .i64 t.z, .int .i64 t.n, .int .i64 t.r.x, .int .i64 t.r.y, .int .i64 t.r.s, .int .i64 t.r.k.a, .int .i64 t.r.k.b, .int .i64 t.r.k.c, .int .i64 t.r.k.d, .int .i64 t.r.k.e, .int .i64 t.r.k.f, u] 28)).alloc (.cells #[.int .i64 S, .int .i64 Y, .int .i64 X] 51)).alloc (.cells #[.int .i64 S', .int .i64 Y', .int .i64 X'] 51)) (w.heap.size + 1 + 1) (w.heap.size + 1) w.heap.size t u S Y X S' Y' X') := Lib.hid (by unfold Sees; simp [go_sem])
  go_enter Tryz.func30, Tryz.ntmps30
  go_wp2_with fail
  go_ret
  exact ⟨rfl, (by (repeat' (first | (with_reducible exact Grew.refl _) | (with_reducible assumption) | (with_reducible refine Grew.alloc ?_ _ _) | (with_reducible refine Grew.drew ?_) | (with_reducible refine Grew.drewN ?_ _) | (with_reducible refine Grew.setCell ?_ ?_ _) | go_size))), HS.out⟩
theorem blkFz {W : World} {B : Nat} {cs : Array Value} {t : TypeId} (h : Blk W B cs t) {i : Nat} (_hi : i < cs.size) : W.frozen? ⟨B, i, none⟩ = false := by
  simp [World.frozen?, show W.heap[B]? = _ from h]
theorem sl_bd {z c : Int} (hz : 0 ≤ z ∧ z ≤ 1000000000) (hc : 0 ≤ c ∧ c ≤ 1000000000) : -300000 ≤ sl z c ∧ sl z c ≤ 300000 := by unfold sl; omega
theorem bk_bd {x : Int} (h : -500000 ≤ x ∧ x ≤ 500000) : -60 ≤ bk x ∧ bk x ≤ 60 := by unfold bk; omega
theorem few_of {t : Ed} {lo hi : Pt} {c d : Int} (ht : Tok t) (hr : Rec lo hi) (hc : Tms c d) : Few6 (sl t.z c) (bk lo.2) (bk lo.1) (sl t.z d) (bk hi.2) (bk hi.1) := by
  obtain ⟨⟨⟨a0, a1⟩, ⟨a2, a3⟩⟩, ⟨⟨b0, b1⟩, ⟨b2, b3⟩⟩, h1, h2⟩ := hr
  unfold Tms at hc
  have p := sl_bd ht.2.1 ⟨hc.1, by omega⟩
  have q := sl_bd ht.2.1 ⟨by omega, hc.2.2⟩
  have r1 := bk_bd ⟨a0, a1⟩
  have r2 := bk_bd ⟨a2, a3⟩
  have r3 := bk_bd ⟨b0, b1⟩
  have r4 := bk_bd ⟨b2, b3⟩
  have s1 : sl t.z c ≤ sl t.z d := by unfold sl; omega
  have s2 : bk lo.1 ≤ bk hi.1 := by unfold bk; omega
  have s3 : bk lo.2 ≤ bk hi.2 := by unfold bk; omega
  unfold Few6
  omega
/-- What Bound answers. -/
noncomputable def OvB (t : Ed) (lo hi : Pt) (c d : Int) : Bd := Ov t (bk lo.1) (bk hi.1) (bk lo.2) (bk hi.2) (sl t.z c) (sl t.z d)
def BOk (t : Ed) (lo hi : Pt) (c d : Int) : Prop := Tok t ∧ Rec lo hi ∧ Tms c d
instance (t : Ed) (lo hi : Pt) (c d : Int) : Decidable (BOk t lo hi c d) := by unfold BOk; infer_instance
set_option maxHeartbeats 8000000 in
theorem bound_bad (K : Hl.Code) (t : Ed) (u : Value) (lo hi : Pt) (c d : Int) (w : World) (hs : Rs w u t.l) (hl : t.l.length ≤ 9223372036854775807) (hb : ¬ BOk t lo hi c d) :
    Calls Tryz.prog 10 #[tv t u, .agg #[.int .i64 lo.1, .int .i64 lo.2], .agg #[.int .i64 hi.1, .int .i64 hi.2], .int .i64 c, .int .i64 d] w fun e w' => e = .returned (.tuple #[.agg #[.int .i64 0, .int .i64 0, .int .i64 0, .int .i64 0, .int .i64 0, .int .i64 0, .int .i64 0, .int .i64 0, .int .i64 0], .int .i64 1]) ∧ Grew w w' := by
  by_cases h1 : Tok t
  · by_cases h2 : Rec lo hi
    · have h3 : ¬ Tms c d := fun h3 => hb ⟨h1, h2, h3⟩
      have C1 : Hid (∀ W, Grew w W → Calls Tryz.prog 8 #[tv t u] W fun e w' => e = .returned (.bool true) ∧ Grew W w') := Lib.hid (fun W g => by
        have h := valid_c t u W (hs.grew g) hl
        rwa [decide_eq_true h1] at h)
      have C2 : Hid (∀ W, Calls Tryz.prog 28 #[.agg #[.int .i64 lo.1, .int .i64 lo.2], .agg #[.int .i64 hi.1, .int .i64 hi.2]] W fun e w' => e = .returned (.bool true) ∧ Grew W w') := Lib.hid (fun W => by
        have h := isRectangle_c K lo hi W
        rwa [decide_eq_true h2] at h)
      have C3 : Hid (∀ W, Calls Tryz.prog 29 #[.int .i64 c, .int .i64 d] W fun e w' => e = .returned (.bool false) ∧ W = w') := Lib.hid (fun W => by
        have h := areTimes_c c d W
        rwa [decide_eq_false (p := 0 ≤ c ∧ c ≤ d ∧ d ≤ 1000000000) h3] at h)
      unfold tv at C1 ⊢
      clear K hs
      have RB : Hid (∀ W, Grew ((((w.alloc (.cells #[.int .i64 t.v, .int .i64 t.z, .int .i64 t.n, .int .i64 t.r.x, .int .i64 t.r.y, .int .i64 t.r.s, .int .i64 t.r.k.a, .int .i64 t.r.k.b, .int .i64 t.r.k.c, .int .i64 t.r.k.d, .int .i64 t.r.k.e, .int .i64 t.r.k.f, u] 28)).alloc (.cells #[.int .i64 lo.1, .int .i64 lo.2] 30)).alloc (.cells #[.int .i64 hi.1, .int .i64 hi.2] 30)).alloc (.cells #[.int .i64 0, .int .i64 0, .int .i64 0, .int .i64 0, .int .i64 0, .int .i64 0, .int .i64 0, .int .i64 0, .int .i64 0] 25)) W → Blk W (w.heap.size + 1 + 1 + 1) #[.int .i64 0, .int .i64 0, .int .i64 0, .int .i64 0, .int .i64 0, .int .i64 0, .int .i64 0, .int .i64 0, .int .i64 0] 25) := Lib.hid (fun W g => (blkN (by simp)).grown g)
      clear h1 h2 h3 hb
      go_enter Tryz.func10, Tryz.ntmps10
      go_wp2_with fail
      refine (C1.out _ (by (repeat' (first | (with_reducible exact Grew.refl _) | (with_reducible assumption) | (with_reducible refine Grew.alloc ?_ _ _) | (with_reducible refine Grew.drew ?_) | (with_reducible refine Grew.drewN ?_ _) | (with_reducible refine Grew.setCell ?_ ?_ _) | go_size)))).mono ?_
      rintro e w1 ⟨rfl, g1⟩
      have G10 : Grew ((((w.alloc (.cells #[.int .i64 t.v, .int .i64 t.z, .int .i64 t.n, .int .i64 t.r.x, .int .i64 t.r.y, .int .i64 t.r.s, .int .i64 t.r.k.a, .int .i64 t.r.k.b, .int .i64 t.r.k.c, .int .i64 t.r.k.d, .int .i64 t.r.k.e, .int .i64 t.r.k.f, u] 28)).alloc (.cells #[.int .i64 lo.1, .int .i64 lo.2] 30)).alloc (.cells #[.int .i64 hi.1, .int .i64 hi.2] 30)).alloc (.cells #[.int .i64 0, .int .i64 0, .int .i64 0, .int .i64 0, .int .i64 0, .int .i64 0, .int .i64 0, .int .i64 0, .int .i64 0] 25)) w1 := g1
      obtain ⟨c1, f1, z1⟩ := laid g1
      try simp at z1
      have G1 : Grew w w1 := Grew.trans (by (repeat' (first | (with_reducible exact Grew.refl _) | (with_reducible assumption) | (with_reducible refine Grew.alloc ?_ _ _) | (with_reducible refine Grew.drew ?_) | (with_reducible refine Grew.drewN ?_ _) | (with_reducible refine Grew.setCell ?_ ?_ _) | go_size))) g1
      clear g1
      have z1_0 : w.heap.size < w1.heap.size := by omega
      have z1_1 : w.heap.size + 1 < w1.heap.size := by omega
      have z1_2 : w.heap.size + 1 + 1 < w1.heap.size := by omega
      have z1_3 : w.heap.size + 1 + 1 + 1 < w1.heap.size := by omega
      go_wp2_with fail
      refine (C2.out _).mono ?_
      rintro e w2 ⟨rfl, g2⟩
      have G20 : Grew ((((w.alloc (.cells #[.int .i64 t.v, .int .i64 t.z, .int .i64 t.n, .int .i64 t.r.x, .int .i64 t.r.y, .int .i64 t.r.s, .int .i64 t.r.k.a, .int .i64 t.r.k.b, .int .i64 t.r.k.c, .int .i64 t.r.k.d, .int .i64 t.r.k.e, .int .i64 t.r.k.f, u] 28)).alloc (.cells #[.int .i64 lo.1, .int .i64 lo.2] 30)).alloc (.cells #[.int .i64 hi.1, .int .i64 hi.2] 30)).alloc (.cells #[.int .i64 0, .int .i64 0, .int .i64 0, .int .i64 0, .int .i64 0, .int .i64 0, .int .i64 0, .int .i64 0, .int .i64 0] 25)) w2 := Grew.trans G10 g2
      obtain ⟨c2, f2, z2⟩ := laid g2
      try simp at z2
      have G2 : Grew w w2 := Grew.trans (by (repeat' (first | (with_reducible exact Grew.refl _) | (with_reducible assumption) | (with_reducible refine Grew.alloc ?_ _ _) | (with_reducible refine Grew.drew ?_) | (with_reducible refine Grew.drewN ?_ _) | (with_reducible refine Grew.setCell ?_ ?_ _) | go_size))) g2
      clear g2
      have z2_0 : w.heap.size < w2.heap.size := by omega
      have z2_1 : w.heap.size + 1 < w2.heap.size := by omega
      have z2_2 : w.heap.size + 1 + 1 < w2.heap.size := by omega
      have z2_3 : w.heap.size + 1 + 1 + 1 < w2.heap.size := by omega
      go_wp2_with fail
      refine (C3.out _).mono ?_
      rintro e w3 ⟨rfl, rfl⟩
      have RK2 : Blk w2 (w.heap.size + 1 + 1 + 1) #[.int .i64 0, .int .i64 0, .int .i64 0, .int .i64 0, .int .i64 0, .int .i64 0, .int .i64 0, .int .i64 0, .int .i64 0] 25 := RB.out w2 G20
      have rz0 : w2.frozen? ⟨w.heap.size + 1 + 1 + 1, 0, none⟩ = false := blkFz RK2 (by simp)
      have rz1 : w2.frozen? ⟨w.heap.size + 1 + 1 + 1, 1, none⟩ = false := blkFz RK2 (by simp)
      have rz2 : w2.frozen? ⟨w.heap.size + 1 + 1 + 1, 2, none⟩ = false := blkFz RK2 (by simp)
      have rz3 : w2.frozen? ⟨w.heap.size + 1 + 1 + 1, 3, none⟩ = false := blkFz RK2 (by simp)
      have rz4 : w2.frozen? ⟨w.heap.size + 1 + 1 + 1, 4, none⟩ = false := blkFz RK2 (by simp)
      have rz5 : w2.frozen? ⟨w.heap.size + 1 + 1 + 1, 5, none⟩ = false := blkFz RK2 (by simp)
      have rz6 : w2.frozen? ⟨w.heap.size + 1 + 1 + 1, 6, none⟩ = false := blkFz RK2 (by simp)
      have rz7 : w2.frozen? ⟨w.heap.size + 1 + 1 + 1, 7, none⟩ = false := blkFz RK2 (by simp)
      have rz8 : w2.frozen? ⟨w.heap.size + 1 + 1 + 1, 8, none⟩ = false := blkFz RK2 (by simp)
      go_wp2_with fail
      refine bodyPost_ret (v := .tuple #[.agg #[.int .i64 0, .int .i64 0, .int .i64 0, .int .i64 0, .int .i64 0, .int .i64 0, .int .i64 0, .int .i64 0, .int .i64 0], .int .i64 1]) (by simp [results, Tryz.results10, go_sem, *]) rfl ⟨rfl, (by (repeat' (first | (with_reducible exact Grew.refl _) | (with_reducible assumption) | (with_reducible refine Grew.alloc ?_ _ _) | (with_reducible refine Grew.drew ?_) | (with_reducible refine Grew.drewN ?_ _) | (with_reducible refine Grew.setCell ?_ ?_ _) | go_size)))⟩
    · have C1 : Hid (∀ W, Grew w W → Calls Tryz.prog 8 #[tv t u] W fun e w' => e = .returned (.bool true) ∧ Grew W w') := Lib.hid (fun W g => by
        have h := valid_c t u W (hs.grew g) hl
        rwa [decide_eq_true h1] at h)
      have C2 : Hid (∀ W, Calls Tryz.prog 28 #[.agg #[.int .i64 lo.1, .int .i64 lo.2], .agg #[.int .i64 hi.1, .int .i64 hi.2]] W fun e w' => e = .returned (.bool false) ∧ Grew W w') := Lib.hid (fun W => by
        have h := isRectangle_c K lo hi W
        rwa [decide_eq_false h2] at h)
      unfold tv at C1 ⊢
      clear K hs
      have RB : Hid (∀ W, Grew ((((w.alloc (.cells #[.int .i64 t.v, .int .i64 t.z, .int .i64 t.n, .int .i64 t.r.x, .int .i64 t.r.y, .int .i64 t.r.s, .int .i64 t.r.k.a, .int .i64 t.r.k.b, .int .i64 t.r.k.c, .int .i64 t.r.k.d, .int .i64 t.r.k.e, .int .i64 t.r.k.f, u] 28)).alloc (.cells #[.int .i64 lo.1, .int .i64 lo.2] 30)).alloc (.cells #[.int .i64 hi.1, .int .i64 hi.2] 30)).alloc (.cells #[.int .i64 0, .int .i64 0, .int .i64 0, .int .i64 0, .int .i64 0, .int .i64 0, .int .i64 0, .int .i64 0, .int .i64 0] 25)) W → Blk W (w.heap.size + 1 + 1 + 1) #[.int .i64 0, .int .i64 0, .int .i64 0, .int .i64 0, .int .i64 0, .int .i64 0, .int .i64 0, .int .i64 0, .int .i64 0] 25) := Lib.hid (fun W g => (blkN (by simp)).grown g)
      clear h1 h2 hb
      go_enter Tryz.func10, Tryz.ntmps10
      go_wp2_with fail
      refine (C1.out _ (by (repeat' (first | (with_reducible exact Grew.refl _) | (with_reducible assumption) | (with_reducible refine Grew.alloc ?_ _ _) | (with_reducible refine Grew.drew ?_) | (with_reducible refine Grew.drewN ?_ _) | (with_reducible refine Grew.setCell ?_ ?_ _) | go_size)))).mono ?_
      rintro e w1 ⟨rfl, g1⟩
      have G10 : Grew ((((w.alloc (.cells #[.int .i64 t.v, .int .i64 t.z, .int .i64 t.n, .int .i64 t.r.x, .int .i64 t.r.y, .int .i64 t.r.s, .int .i64 t.r.k.a, .int .i64 t.r.k.b, .int .i64 t.r.k.c, .int .i64 t.r.k.d, .int .i64 t.r.k.e, .int .i64 t.r.k.f, u] 28)).alloc (.cells #[.int .i64 lo.1, .int .i64 lo.2] 30)).alloc (.cells #[.int .i64 hi.1, .int .i64 hi.2] 30)).alloc (.cells #[.int .i64 0, .int .i64 0, .int .i64 0, .int .i64 0, .int .i64 0, .int .i64 0, .int .i64 0, .int .i64 0, .int .i64 0] 25)) w1 := g1
      obtain ⟨c1, f1, z1⟩ := laid g1
      try simp at z1
      have G1 : Grew w w1 := Grew.trans (by (repeat' (first | (with_reducible exact Grew.refl _) | (with_reducible assumption) | (with_reducible refine Grew.alloc ?_ _ _) | (with_reducible refine Grew.drew ?_) | (with_reducible refine Grew.drewN ?_ _) | (with_reducible refine Grew.setCell ?_ ?_ _) | go_size))) g1
      clear g1
      have z1_0 : w.heap.size < w1.heap.size := by omega
      have z1_1 : w.heap.size + 1 < w1.heap.size := by omega
      have z1_2 : w.heap.size + 1 + 1 < w1.heap.size := by omega
      have z1_3 : w.heap.size + 1 + 1 + 1 < w1.heap.size := by omega
      go_wp2_with fail
      refine (C2.out _).mono ?_
      rintro e w2 ⟨rfl, g2⟩
      have G20 : Grew ((((w.alloc (.cells #[.int .i64 t.v, .int .i64 t.z, .int .i64 t.n, .int .i64 t.r.x, .int .i64 t.r.y, .int .i64 t.r.s, .int .i64 t.r.k.a, .int .i64 t.r.k.b, .int .i64 t.r.k.c, .int .i64 t.r.k.d, .int .i64 t.r.k.e, .int .i64 t.r.k.f, u] 28)).alloc (.cells #[.int .i64 lo.1, .int .i64 lo.2] 30)).alloc (.cells #[.int .i64 hi.1, .int .i64 hi.2] 30)).alloc (.cells #[.int .i64 0, .int .i64 0, .int .i64 0, .int .i64 0, .int .i64 0, .int .i64 0, .int .i64 0, .int .i64 0, .int .i64 0] 25)) w2 := Grew.trans G10 g2
      obtain ⟨c2, f2, z2⟩ := laid g2
      try simp at z2
      have G2 : Grew w w2 := Grew.trans (by (repeat' (first | (with_reducible exact Grew.refl _) | (with_reducible assumption) | (with_reducible refine Grew.alloc ?_ _ _) | (with_reducible refine Grew.drew ?_) | (with_reducible refine Grew.drewN ?_ _) | (with_reducible refine Grew.setCell ?_ ?_ _) | go_size))) g2
      clear g2
      have z2_0 : w.heap.size < w2.heap.size := by omega
      have z2_1 : w.heap.size + 1 < w2.heap.size := by omega
      have z2_2 : w.heap.size + 1 + 1 < w2.heap.size := by omega
      have z2_3 : w.heap.size + 1 + 1 + 1 < w2.heap.size := by omega
      have RK2 : Blk w2 (w.heap.size + 1 + 1 + 1) #[.int .i64 0, .int .i64 0, .int .i64 0, .int .i64 0, .int .i64 0, .int .i64 0, .int .i64 0, .int .i64 0, .int .i64 0] 25 := RB.out w2 G20
      have rz0 : w2.frozen? ⟨w.heap.size + 1 + 1 + 1, 0, none⟩ = false := blkFz RK2 (by simp)
      have rz1 : w2.frozen? ⟨w.heap.size + 1 + 1 + 1, 1, none⟩ = false := blkFz RK2 (by simp)
      have rz2 : w2.frozen? ⟨w.heap.size + 1 + 1 + 1, 2, none⟩ = false := blkFz RK2 (by simp)
      have rz3 : w2.frozen? ⟨w.heap.size + 1 + 1 + 1, 3, none⟩ = false := blkFz RK2 (by simp)
      have rz4 : w2.frozen? ⟨w.heap.size + 1 + 1 + 1, 4, none⟩ = false := blkFz RK2 (by simp)
      have rz5 : w2.frozen? ⟨w.heap.size + 1 + 1 + 1, 5, none⟩ = false := blkFz RK2 (by simp)
      have rz6 : w2.frozen? ⟨w.heap.size + 1 + 1 + 1, 6, none⟩ = false := blkFz RK2 (by simp)
      have rz7 : w2.frozen? ⟨w.heap.size + 1 + 1 + 1, 7, none⟩ = false := blkFz RK2 (by simp)
      have rz8 : w2.frozen? ⟨w.heap.size + 1 + 1 + 1, 8, none⟩ = false := blkFz RK2 (by simp)
      go_wp2_with fail
      refine bodyPost_ret (v := .tuple #[.agg #[.int .i64 0, .int .i64 0, .int .i64 0, .int .i64 0, .int .i64 0, .int .i64 0, .int .i64 0, .int .i64 0, .int .i64 0], .int .i64 1]) (by simp [results, Tryz.results10, go_sem, *]) rfl ⟨rfl, (by (repeat' (first | (with_reducible exact Grew.refl _) | (with_reducible assumption) | (with_reducible refine Grew.alloc ?_ _ _) | (with_reducible refine Grew.drew ?_) | (with_reducible refine Grew.drewN ?_ _) | (with_reducible refine Grew.setCell ?_ ?_ _) | go_size)))⟩
  · have C1 : Hid (∀ W, Grew w W → Calls Tryz.prog 8 #[tv t u] W fun e w' => e = .returned (.bool false) ∧ Grew W w') := Lib.hid (fun W g => by
      have h := valid_c t u W (hs.grew g) hl
      rwa [decide_eq_false h1] at h)
    unfold tv at C1 ⊢
    clear K hs
    have RB : Hid (∀ W, Grew ((((w.alloc (.cells #[.int .i64 t.v, .int .i64 t.z, .int .i64 t.n, .int .i64 t.r.x, .int .i64 t.r.y, .int .i64 t.r.s, .int .i64 t.r.k.a, .int .i64 t.r.k.b, .int .i64 t.r.k.c, .int .i64 t.r.k.d, .int .i64 t.r.k.e, .int .i64 t.r.k.f, u] 28)).alloc (.cells #[.int .i64 lo.1, .int .i64 lo.2] 30)).alloc (.cells #[.int .i64 hi.1, .int .i64 hi.2] 30)).alloc (.cells #[.int .i64 0, .int .i64 0, .int .i64 0, .int .i64 0, .int .i64 0, .int .i64 0, .int .i64 0, .int .i64 0, .int .i64 0] 25)) W → Blk W (w.heap.size + 1 + 1 + 1) #[.int .i64 0, .int .i64 0, .int .i64 0, .int .i64 0, .int .i64 0, .int .i64 0, .int .i64 0, .int .i64 0, .int .i64 0] 25) := Lib.hid (fun W g => (blkN (by simp)).grown g)
    clear h1 hb
    go_enter Tryz.func10, Tryz.ntmps10
    go_wp2_with fail
    refine (C1.out _ (by (repeat' (first | (with_reducible exact Grew.refl _) | (with_reducible assumption) | (with_reducible refine Grew.alloc ?_ _ _) | (with_reducible refine Grew.drew ?_) | (with_reducible refine Grew.drewN ?_ _) | (with_reducible refine Grew.setCell ?_ ?_ _) | go_size)))).mono ?_
    rintro e w1 ⟨rfl, g1⟩
    have G10 : Grew ((((w.alloc (.cells #[.int .i64 t.v, .int .i64 t.z, .int .i64 t.n, .int .i64 t.r.x, .int .i64 t.r.y, .int .i64 t.r.s, .int .i64 t.r.k.a, .int .i64 t.r.k.b, .int .i64 t.r.k.c, .int .i64 t.r.k.d, .int .i64 t.r.k.e, .int .i64 t.r.k.f, u] 28)).alloc (.cells #[.int .i64 lo.1, .int .i64 lo.2] 30)).alloc (.cells #[.int .i64 hi.1, .int .i64 hi.2] 30)).alloc (.cells #[.int .i64 0, .int .i64 0, .int .i64 0, .int .i64 0, .int .i64 0, .int .i64 0, .int .i64 0, .int .i64 0, .int .i64 0] 25)) w1 := g1
    obtain ⟨c1, f1, z1⟩ := laid g1
    try simp at z1
    have G1 : Grew w w1 := Grew.trans (by (repeat' (first | (with_reducible exact Grew.refl _) | (with_reducible assumption) | (with_reducible refine Grew.alloc ?_ _ _) | (with_reducible refine Grew.drew ?_) | (with_reducible refine Grew.drewN ?_ _) | (with_reducible refine Grew.setCell ?_ ?_ _) | go_size))) g1
    clear g1
    have z1_0 : w.heap.size < w1.heap.size := by omega
    have z1_1 : w.heap.size + 1 < w1.heap.size := by omega
    have z1_2 : w.heap.size + 1 + 1 < w1.heap.size := by omega
    have z1_3 : w.heap.size + 1 + 1 + 1 < w1.heap.size := by omega
    have RK1 : Blk w1 (w.heap.size + 1 + 1 + 1) #[.int .i64 0, .int .i64 0, .int .i64 0, .int .i64 0, .int .i64 0, .int .i64 0, .int .i64 0, .int .i64 0, .int .i64 0] 25 := RB.out w1 G10
    have rz0 : w1.frozen? ⟨w.heap.size + 1 + 1 + 1, 0, none⟩ = false := blkFz RK1 (by simp)
    have rz1 : w1.frozen? ⟨w.heap.size + 1 + 1 + 1, 1, none⟩ = false := blkFz RK1 (by simp)
    have rz2 : w1.frozen? ⟨w.heap.size + 1 + 1 + 1, 2, none⟩ = false := blkFz RK1 (by simp)
    have rz3 : w1.frozen? ⟨w.heap.size + 1 + 1 + 1, 3, none⟩ = false := blkFz RK1 (by simp)
    have rz4 : w1.frozen? ⟨w.heap.size + 1 + 1 + 1, 4, none⟩ = false := blkFz RK1 (by simp)
    have rz5 : w1.frozen? ⟨w.heap.size + 1 + 1 + 1, 5, none⟩ = false := blkFz RK1 (by simp)
    have rz6 : w1.frozen? ⟨w.heap.size + 1 + 1 + 1, 6, none⟩ = false := blkFz RK1 (by simp)
    have rz7 : w1.frozen? ⟨w.heap.size + 1 + 1 + 1, 7, none⟩ = false := blkFz RK1 (by simp)
    have rz8 : w1.frozen? ⟨w.heap.size + 1 + 1 + 1, 8, none⟩ = false := blkFz RK1 (by simp)
    go_wp2_with fail
    refine bodyPost_ret (v := .tuple #[.agg #[.int .i64 0, .int .i64 0, .int .i64 0, .int .i64 0, .int .i64 0, .int .i64 0, .int .i64 0, .int .i64 0, .int .i64 0], .int .i64 1]) (by simp [results, Tryz.results10, go_sem, *]) rfl ⟨rfl, (by (repeat' (first | (with_reducible exact Grew.refl _) | (with_reducible assumption) | (with_reducible refine Grew.alloc ?_ _ _) | (with_reducible refine Grew.drew ?_) | (with_reducible refine Grew.drewN ?_ _) | (with_reducible refine Grew.setCell ?_ ?_ _) | go_size)))⟩
end Td
end Go.Proofs.YtpiajdahmcelnaaGreat
