/-
  The laws of layer 13: what is usable, a place inside, the way between.
-/
import Derived.Test.YtpiajdahmcelnaaMTdN
import Derived.Test.YtpiajdahmcelnaaMTdO
namespace Go.Proofs.Ytpiajdahmcelnaa
open Go.RowKit Hl
namespace Td
set_option maxRecDepth 100000
def Usb (t : Ed) (lo hi : Pt) (c d : Int) : Prop := R.Few t.l.length t.n lo hi c d ∧ Tok t ∧ Rec lo hi ∧ Tms c d
instance (t : Ed) (lo hi : Pt) (c d : Int) : Decidable (Usb t lo hi c d) := by unfold Usb; infer_instance
theorem usb_and (t : Ed) (lo hi : Pt) (c d : Int) : decide (Usb t lo hi c d) = (decide (R.Few t.l.length t.n lo hi c d) && (decide (Tok t) && (decide (Rec lo hi) && decide (0 ≤ c ∧ c ≤ d ∧ d ≤ 1000000000)))) := by
  rw [Bool.eq_iff_iff]
  simp only [Bool.and_eq_true, decide_eq_true_eq]
  rfl
theorem Usb.ok {t : Ed} {lo hi : Pt} {c d : Int} (h : Usb t lo hi c d) : BOk t lo hi c d := h.2
set_option maxHeartbeats 4000000 in
theorem usable_c (t : Ed) (u : Value) (lo hi : Pt) (c d : Int) (w : World) (hs : Rs w u t.l) (hl : t.l.length ≤ 9223372036854775807) :
    Calls Try.prog 10 #[tv t u, .agg #[.int .i64 lo.1, .int .i64 lo.2], .agg #[.int .i64 hi.1, .int .i64 hi.2], .int .i64 c, .int .i64 d] w fun e w' => e = .returned (.bool (decide (Usb t lo hi c d))) ∧ Grew w w' := by
  rw [usb_and]
  have C1 : Hid (∀ W, Grew w W → Calls Try.prog 27 #[tv t u, .agg #[.int .i64 lo.1, .int .i64 lo.2], .agg #[.int .i64 hi.1, .int .i64 hi.2], .int .i64 c, .int .i64 d] W fun e w' => e = .returned (.bool (decide (R.Few t.l.length t.n lo hi c d))) ∧ Grew W w') := Lib.hid (fun W g => R.few_c t u lo hi c d W (hs.grew g) hl)
  have C2 : Hid (∀ W, Grew w W → Calls Try.prog 28 #[tv t u] W fun e w' => e = .returned (.bool (decide (Tok t))) ∧ Grew W w') := Lib.hid (fun W g => R.valid_c t u W (hs.grew g) hl)
  have C3 := Lib.hid (rectangle_c lo hi)
  have C4 := Lib.hid (time_c c d)
  unfold tv at C1 C2 ⊢
  clear hs
  generalize decide (R.Few t.l.length t.n lo hi c d) = r1 at *
  generalize decide (Tok t) = r2 at *
  generalize decide (Rec lo hi) = r3 at *
  generalize decide (0 ≤ c ∧ c ≤ d ∧ d ≤ 1000000000) = r4 at *
  go_enter Try.func10, Try.ntmps10
  go_wp2_with fail
  refine (C1.out _ (by (repeat' (first | (with_reducible exact Grew.refl _) | (with_reducible assumption) | (with_reducible refine Grew.alloc ?_ _ _) | (with_reducible refine Grew.drew ?_) | (with_reducible refine Grew.drewN ?_ _) | (with_reducible refine Grew.setCell ?_ ?_ _) | go_size)))).mono ?_
  rintro e w1 ⟨rfl, g1⟩
  obtain ⟨c1, f1, z1⟩ := laid g1
  try simp at z1
  have G1 : Grew w w1 := Grew.trans (by (repeat' (first | (with_reducible exact Grew.refl _) | (with_reducible assumption) | (with_reducible refine Grew.alloc ?_ _ _) | (with_reducible refine Grew.drew ?_) | (with_reducible refine Grew.drewN ?_ _) | (with_reducible refine Grew.setCell ?_ ?_ _) | go_size))) g1
  clear g1
  have z1_0 : w.heap.size < w1.heap.size := by omega
  have z1_1 : w.heap.size + 1 < w1.heap.size := by omega
  have z1_2 : w.heap.size + 1 + 1 < w1.heap.size := by omega
  cases r1
  · go_wp2_with fail
    go_ret
    exact ⟨by first | rfl | (simp; done) | (simp; omega), (by (repeat' (first | (with_reducible exact Grew.refl _) | (with_reducible assumption) | (with_reducible refine Grew.alloc ?_ _ _) | (with_reducible refine Grew.drew ?_) | (with_reducible refine Grew.drewN ?_ _) | (with_reducible refine Grew.setCell ?_ ?_ _) | go_size)))⟩
  · go_wp2_with fail
    refine (C2.out _ G1).mono ?_
    rintro e w2 ⟨rfl, g2⟩
    obtain ⟨c2, f2, z2⟩ := laid g2
    try simp at z2
    have G2 : Grew w w2 := Grew.trans (by (repeat' (first | (with_reducible exact Grew.refl _) | (with_reducible assumption) | (with_reducible refine Grew.alloc ?_ _ _) | (with_reducible refine Grew.drew ?_) | (with_reducible refine Grew.drewN ?_ _) | (with_reducible refine Grew.setCell ?_ ?_ _) | go_size))) g2
    clear g2
    have z2_0 : w.heap.size < w2.heap.size := by omega
    have z2_1 : w.heap.size + 1 < w2.heap.size := by omega
    have z2_2 : w.heap.size + 1 + 1 < w2.heap.size := by omega
    cases r2
    · go_wp2_with fail
      go_ret
      exact ⟨by first | rfl | (simp; done) | (simp; omega), (by (repeat' (first | (with_reducible exact Grew.refl _) | (with_reducible assumption) | (with_reducible refine Grew.alloc ?_ _ _) | (with_reducible refine Grew.drew ?_) | (with_reducible refine Grew.drewN ?_ _) | (with_reducible refine Grew.setCell ?_ ?_ _) | go_size)))⟩
    · go_wp2_with fail
      refine (C3.out _).mono ?_
      rintro e w3 ⟨rfl, g3⟩
      obtain ⟨c3, f3, z3⟩ := laid g3
      try simp at z3
      have G3 : Grew w w3 := Grew.trans (by (repeat' (first | (with_reducible exact Grew.refl _) | (with_reducible assumption) | (with_reducible refine Grew.alloc ?_ _ _) | (with_reducible refine Grew.drew ?_) | (with_reducible refine Grew.drewN ?_ _) | (with_reducible refine Grew.setCell ?_ ?_ _) | go_size))) g3
      clear g3
      have z3_0 : w.heap.size < w3.heap.size := by omega
      have z3_1 : w.heap.size + 1 < w3.heap.size := by omega
      have z3_2 : w.heap.size + 1 + 1 < w3.heap.size := by omega
      cases r3
      · go_wp2_with fail
        go_ret
        exact ⟨by first | rfl | (simp; done) | (simp; omega), (by (repeat' (first | (with_reducible exact Grew.refl _) | (with_reducible assumption) | (with_reducible refine Grew.alloc ?_ _ _) | (with_reducible refine Grew.drew ?_) | (with_reducible refine Grew.drewN ?_ _) | (with_reducible refine Grew.setCell ?_ ?_ _) | go_size)))⟩
      · go_wp2_with fail
        refine (C4.out _).mono ?_
        rintro e w4 ⟨rfl, rfl⟩
        cases r4
        · go_wp2_with fail
          go_ret
          exact ⟨by first | rfl | (simp; done) | (simp; omega), (by (repeat' (first | (with_reducible exact Grew.refl _) | (with_reducible assumption) | (with_reducible refine Grew.alloc ?_ _ _) | (with_reducible refine Grew.drew ?_) | (with_reducible refine Grew.drewN ?_ _) | (with_reducible refine Grew.setCell ?_ ?_ _) | go_size)))⟩
        · go_wp2_with fail
          go_ret
          exact ⟨by first | rfl | (simp; done) | (simp; omega), (by (repeat' (first | (with_reducible exact Grew.refl _) | (with_reducible assumption) | (with_reducible refine Grew.alloc ?_ _ _) | (with_reducible refine Grew.drew ?_) | (with_reducible refine Grew.drewN ?_ _) | (with_reducible refine Grew.setCell ?_ ?_ _) | go_size)))⟩
def ins (lo hi : Pt) (x y : Nat) : Pt := (lo.1 + (x : Int) % (hi.1 - lo.1 + 1), lo.2 + (y : Int) % (hi.2 - lo.2 + 1))
theorem ins_in {lo hi : Pt} (h : lo.1 ≤ hi.1 ∧ lo.2 ≤ hi.2) (x y : Nat) : (lo.1 ≤ (ins lo hi x y).1 ∧ (ins lo hi x y).1 ≤ hi.1) ∧ (lo.2 ≤ (ins lo hi x y).2 ∧ (ins lo hi x y).2 ≤ hi.2) := by
  have h1 := Int.emod_nonneg (x : Int) (show hi.1 - lo.1 + 1 ≠ 0 by omega)
  have h2 := Int.emod_lt_of_pos (x : Int) (show 0 < hi.1 - lo.1 + 1 by omega)
  have h3 := Int.emod_nonneg (y : Int) (show hi.2 - lo.2 + 1 ≠ 0 by omega)
  have h4 := Int.emod_lt_of_pos (y : Int) (show 0 < hi.2 - lo.2 + 1 by omega)
  unfold ins
  simp only
  omega
set_option maxHeartbeats 8000000 in
theorem inside_c (lo hi : Pt) (x y : Nat) (w : World) (h : Rec lo hi) (hx : x < 4294967296) (hy : y < 4294967296) :
    Calls Try.prog 13 #[.agg #[.int .i64 lo.1, .int .i64 lo.2], .agg #[.int .i64 hi.1, .int .i64 hi.2], .int .u32 x, .int .u32 y] w fun e w' => e = .returned (.agg #[.int .i64 (ins lo hi x y).1, .int .i64 (ins lo hi x y).2]) ∧ Grew w w' := by
  have hin := ins_in h.2.2 x y
  obtain ⟨⟨⟨a0, a1⟩, ⟨a2, a3⟩⟩, ⟨⟨b0, b1⟩, ⟨b2, b3⟩⟩, o1, o2⟩ := h
  rcases lo with ⟨lx, ly⟩
  rcases hi with ⟨hx', hy'⟩
  simp only at *
  unfold ins at *
  simp only at *
  have AT := Lib.hid lat_c
  have m1 : ((x : Int)).tmod (hx' - lx + 1) = (x : Int) % (hx' - lx + 1) := Int.tmod_eq_emod_of_nonneg (by omega)
  have m2 : ((y : Int)).tmod (hy' - ly + 1) = (y : Int) % (hy' - ly + 1) := Int.tmod_eq_emod_of_nonneg (by omega)
  have g1 := Int.emod_nonneg (x : Int) (show hx' - lx + 1 ≠ 0 by omega)
  have g2 := Int.emod_nonneg (y : Int) (show hy' - ly + 1 ≠ 0 by omega)
  have X0 : (0 : Int) ≤ (x : Int) := by omega
  have X1 : (x : Int) < 4294967296 := by omega
  have Y0 : (0 : Int) ≤ (y : Int) := by omega
  have Y1 : (y : Int) < 4294967296 := by omega
  have n1 : ¬ hx' - lx + 1 = 0 := by omega
  have n2 : ¬ hy' - ly + 1 = 0 := by omega
  have k1 : IntKind.i64.wrap (hx' - lx) = hx' - lx := by rw [IntKind.wrap_i64]; omega
  have k2 : IntKind.i64.wrap (hy' - ly) = hy' - ly := by rw [IntKind.wrap_i64]; omega
  have k3 : IntKind.i64.wrap (hx' - lx + 1) = hx' - lx + 1 := by rw [IntKind.wrap_i64]; omega
  have k4 : IntKind.i64.wrap (hy' - ly + 1) = hy' - ly + 1 := by rw [IntKind.wrap_i64]; omega
  have k5 : IntKind.i64.wrap (x : Int) = (x : Int) := by rw [IntKind.wrap_i64]; omega
  have k6 : IntKind.i64.wrap (y : Int) = (y : Int) := by rw [IntKind.wrap_i64]; omega
  generalize (x : Int) % (hx' - lx + 1) = X at *
  generalize (y : Int) % (hy' - ly + 1) = Y at *
  have k7 : IntKind.i64.wrap (lx + X) = lx + X := by rw [IntKind.wrap_i64]; omega
  have k8 : IntKind.i64.wrap (ly + Y) = ly + Y := by rw [IntKind.wrap_i64]; omega
  have k9 : IntKind.i64.wrap X = X := by rw [IntKind.wrap_i64]; omega
  have k10 : IntKind.i64.wrap Y = Y := by rw [IntKind.wrap_i64]; omega
  go_enter Try.func13, Try.ntmps13
  go_wp2_with fail
  go_region_held3 (fun W => W.cell? ⟨w.heap.size, 0, none⟩ = some (.int .i64 lx) ∧ W.cell? ⟨w.heap.size, 1, none⟩ = some (.int .i64 ly) ∧ W.cell? ⟨w.heap.size + 1, 0, none⟩ = some (.int .i64 hx') ∧ W.cell? ⟨w.heap.size + 1, 1, none⟩ = some (.int .i64 hy')) (simp [go_sem, *])
    (first | (go_at_call 17; refine (AT.out _ _ _).mono ?_; rintro e w1 ⟨rfl, gn⟩; obtain ⟨c1, f1, z1⟩ := laid gn; (try simp at z1); (try simp only [World.size_drew, World.cell?_drew] at c1); have G1 : Grew w w1 := Grew.trans (by (repeat' (first | (with_reducible exact Grew.refl _) | (with_reducible assumption) | (with_reducible refine Grew.alloc ?_ _ _) | (with_reducible refine Grew.drew ?_) | (with_reducible refine Grew.drewN ?_ _) | (with_reducible refine Grew.setCell ?_ ?_ _) | go_size))) gn; (have z1_0 : w.heap.size < w1.heap.size := (by omega)); (have z1_1 : w.heap.size + 1 < w1.heap.size := (by omega)); (have z1_2 : w.heap.size + 1 + 1 < w1.heap.size := (by omega)); clear gn))
  all_goals go_wp2_with fail
  all_goals refine bodyPost_ret (v := .agg #[.int .i64 (lx + X), .int .i64 (ly + Y)]) (by simp [results, Try.results13, go_sem, *]) rfl ⟨rfl, (by (repeat' (first | (with_reducible exact Grew.refl _) | (with_reducible assumption) | (with_reducible refine Grew.alloc ?_ _ _) | (with_reducible refine Grew.drew ?_) | (with_reducible refine Grew.drewN ?_ _) | (with_reducible refine Grew.setCell ?_ ?_ _) | go_size)))⟩
theorem flowIn_yes (k m : Bd) (h : Wi k m) (w : World) : Calls Try.prog 14 #[.agg #[.int .i64 0, .int .i64 0, .int .i64 0, .int .i64 k.a, .int .i64 k.b, .int .i64 k.c, .int .i64 k.d, .int .i64 k.e, .int .i64 k.f], .agg #[.int .i64 0, .int .i64 0, .int .i64 0, .int .i64 m.a, .int .i64 m.b, .int .i64 m.c, .int .i64 m.d, .int .i64 m.e, .int .i64 m.f]] w fun e w' => e = .returned (.bool true) ∧ Grew w w' := by
  have := R.flowIn_c 0 0 0 k.a k.b k.c k.d k.e k.f 0 0 0 m.a m.b m.c m.d m.e m.f w
  rwa [decide_eq_true h.1, decide_eq_true h.2.1, decide_eq_true h.2.2] at this
theorem bk_mono {a b : Int} (h : a ≤ b) : bk a ≤ bk b := by unfold bk; omega
theorem sl_mono {z a b : Int} (h : a ≤ b) : sl z a ≤ sl z b := by unfold sl; omega
theorem ovB_lst {t : Ed} {lo hi : Pt} {c d : Int} (h : BOk t lo hi c d) : Lst (Hs t (bk lo.1) (bk hi.1) (bk lo.2) (bk hi.2) (sl t.z c) (sl t.z d)) (OvB t lo hi c d) :=
  Ov_lst t (bk_mono h.2.1.2.2.1) (bk_mono h.2.1.2.2.2) (sl_mono h.2.2.2.1)
theorem ovB_mono {t : Ed} {lo hi lo' hi' : Pt} {c d c' d' : Int} (h : BOk t lo hi c d) (h' : BOk t lo' hi' c' d') (h1 : lo.1 ≤ lo'.1 ∧ lo.2 ≤ lo'.2) (h2 : hi'.1 ≤ hi.1 ∧ hi'.2 ≤ hi.2) (h3 : c ≤ c' ∧ d' ≤ d) : Wi (OvB t lo' hi' c' d') (OvB t lo hi c d) := by
  refine (ovB_lst h').wi (ovB_lst h) ?_
  rintro k ⟨x, y, s, hb, rfl⟩
  refine ⟨x, y, s, ?_, rfl⟩
  have a1 := bk_mono h1.1
  have a2 := bk_mono h1.2
  have a3 := bk_mono h2.1
  have a4 := bk_mono h2.2
  have a5 := sl_mono (z := t.z) h3.1
  have a6 := sl_mono (z := t.z) h3.2
  unfold Bx at *
  omega
theorem plc_ins {lo hi : Pt} (h : Rec lo hi) (x y : Nat) : Plc (ins lo hi x y) := by
  obtain ⟨⟨a0, a1⟩, a2, a3⟩ := ins_in h.2.2 x y
  obtain ⟨⟨⟨b0, b1⟩, ⟨b2, b3⟩⟩, ⟨⟨c0, c1⟩, ⟨c2, c3⟩⟩, _⟩ := h
  exact ⟨⟨by omega, by omega⟩, ⟨by omega, by omega⟩⟩
def tin (c d : Int) (m : Nat) : Int := c + (m : Int) % (d - c + 1)
theorem tin_in {c d : Int} (h : c ≤ d) (m : Nat) : c ≤ tin c d m ∧ tin c d m ≤ d := by
  have h1 := Int.emod_nonneg (m : Int) (show d - c + 1 ≠ 0 by omega)
  have h2 := Int.emod_lt_of_pos (m : Int) (show 0 < d - c + 1 by omega)
  unfold tin
  omega
end Td
end Go.Proofs.Ytpiajdahmcelnaa
