/-
  Sums of carried bounds, the box of a drift.
  A place that is carried along lies in the hull.
-/
import Derived.Test.YtpiajdahmcelnaaMTdP
import Derived.Test.YtpiajdahmcelnaaMHullCg
namespace Go.Proofs.Ytpiajdahmcelnaa
open Go.RowKit Hl
namespace Td
set_option maxRecDepth 100000
def dry (t : Ed) : Ed := ⟨t.v, t.z, t.n, t.r, []⟩
theorem ovB_dry {t : Ed} {lo hi : Pt} {c d : Int} (h : BOk (dry t) lo hi c d) : OvB (dry t) lo hi c d = t.r.k := by
  have h1 := h.2.1.2.2
  have h2 := h.2.2
  have b1 := bk_mono h1.1
  have b2 := bk_mono h1.2
  have b3 : sl (dry t).z c ≤ sl (dry t).z d := sl_mono h2.2.1
  exact Ov_is ((Lst.one _).of_iff fun k => ⟨fun e => ⟨bk lo.1, bk lo.2, sl (dry t).z c, by unfold Bx; omega, e⟩, fun ⟨_, _, _, _, e⟩ => e⟩)
theorem ca_le {k : Bd} (hk : Bok k) {n : Int} (hn : 0 ≤ n) : (Ca k.a k.b n).1 ≤ (Ca k.a k.b n).2 ∧ (Ca k.c k.d n).1 ≤ (Ca k.c k.d n).2 := by
  have m1 : k.a * n ≤ k.b * n := Int.mul_le_mul_of_nonneg_right hk.1.2.1 hn
  have m2 : k.c * n ≤ k.d * n := Int.mul_le_mul_of_nonneg_right hk.2.1.2.1 hn
  have f1 := Ex.fl_spec (k.a * n) (b := 100) (by decide)
  have f2 := Ex.ce_spec (k.b * n) (b := 100) (by decide)
  have f3 := Ex.fl_spec (k.c * n) (b := 100) (by decide)
  have f4 := Ex.ce_spec (k.d * n) (b := 100) (by decide)
  show Ex.fl (k.a * n) 100 ≤ Ex.ce (k.b * n) 100 ∧ Ex.fl (k.c * n) 100 ≤ Ex.ce (k.d * n) 100
  omega
theorem drl_box {k : Bd} (hk : Bok k) {n : Int} (hn : 0 ≤ n) {q : List Pt} (hq : IsHull (drl k n) q) {lo hi : Pt} (hb : IsBox q lo hi) : (lo.1 = (Ca k.a k.b n).1 ∧ lo.2 = (Ca k.c k.d n).1) ∧ (hi.1 = (Ca k.a k.b n).2 ∧ hi.2 = (Ca k.c k.d n).2) := by
  have hl := ca_le hk hn
  obtain ⟨b1, b2, b3, b4⟩ := hb
  unfold drl at hq
  generalize (Ca k.a k.b n).1 = x1 at *
  generalize (Ca k.a k.b n).2 = x2 at *
  generalize (Ca k.c k.d n).1 = y1 at *
  generalize (Ca k.c k.d n).2 = y2 at *
  have e1 : IsMin q 1 0 x1 := min_hull hq (by intro x hx; simp only [List.mem_cons, List.not_mem_nil, or_false] at hx; rcases hx with rfl | rfl | rfl | rfl <;> simp only <;> omega) ⟨(x1, y1), by simp, by simp only; omega⟩
  have e2 : IsMin q (-1) 0 (-x2) := min_hull hq (by intro x hx; simp only [List.mem_cons, List.not_mem_nil, or_false] at hx; rcases hx with rfl | rfl | rfl | rfl <;> simp only <;> omega) ⟨(x2, y1), by simp, by simp only; omega⟩
  have e3 : IsMin q 0 1 y1 := min_hull hq (by intro x hx; simp only [List.mem_cons, List.not_mem_nil, or_false] at hx; rcases hx with rfl | rfl | rfl | rfl <;> simp only <;> omega) ⟨(x1, y1), by simp, by simp only; omega⟩
  have e4 : IsMin q 0 (-1) (-y2) := min_hull hq (by intro x hx; simp only [List.mem_cons, List.not_mem_nil, or_false] at hx; rcases hx with rfl | rfl | rfl | rfl <;> simp only <;> omega) ⟨(x1, y2), by simp, by simp only; omega⟩
  have d1 := b1.one e1
  have d2 := b2.one e2
  have d3 := b3.one e3
  have d4 := b4.one e4
  omega
theorem ca_sum (a b n m s : Int) (h : s = n + m) : ((Ca a b n).1 + (Ca a b m).1 ≤ (Ca a b s).1 ∧ (Ca a b s).1 - 1 ≤ (Ca a b n).1 + (Ca a b m).1) ∧ ((Ca a b s).2 ≤ (Ca a b n).2 + (Ca a b m).2 ∧ (Ca a b n).2 + (Ca a b m).2 ≤ (Ca a b s).2 + 1) := by
  subst h
  have e1 : a * (n + m) = a * n + a * m := Int.mul_add a n m
  have e2 : b * (n + m) = b * n + b * m := Int.mul_add b n m
  have f1 := Ex.fl_spec (a * n) (b := 100) (by decide)
  have f2 := Ex.fl_spec (a * m) (b := 100) (by decide)
  have f3 := Ex.fl_spec (a * (n + m)) (b := 100) (by decide)
  have f4 := Ex.ce_spec (b * n) (b := 100) (by decide)
  have f5 := Ex.ce_spec (b * m) (b := 100) (by decide)
  have f6 := Ex.ce_spec (b * (n + m)) (b := 100) (by decide)
  show (Ex.fl (a * n) 100 + Ex.fl (a * m) 100 ≤ Ex.fl (a * (n + m)) 100 ∧ Ex.fl (a * (n + m)) 100 - 1 ≤ Ex.fl (a * n) 100 + Ex.fl (a * m) 100) ∧ (Ex.ce (b * (n + m)) 100 ≤ Ex.ce (b * n) 100 + Ex.ce (b * m) 100 ∧ Ex.ce (b * n) 100 + Ex.ce (b * m) 100 ≤ Ex.ce (b * (n + m)) 100 + 1)
  omega
theorem box_bd {q : List Pt} (hq : Plcs q) {lo hi : Pt} (hb : IsBox q lo hi) : ((-1000000 ≤ lo.1 ∧ lo.1 ≤ 1000000) ∧ (-1000000 ≤ lo.2 ∧ lo.2 ≤ 1000000)) ∧ ((-1000000 ≤ hi.1 ∧ hi.1 ≤ 1000000) ∧ (-1000000 ≤ hi.2 ∧ hi.2 ≤ 1000000)) := by
  obtain ⟨b1, b2, b3, b4⟩ := hb
  have c1 := minc_bd hq (by omega) (by omega) b1
  have c2 := minc_bd hq (by omega) (by omega) b2
  have c3 := minc_bd hq (by omega) (by omega) b3
  have c4 := minc_bd hq (by omega) (by omega) b4
  omega
def DSays (l : List Pt) (w : World) (e : Ending) (w' : World) : Prop := ∃ v k, e = .returned (.tuple #[v, .int .i64 k]) ∧ (k = 0 ∨ k = 1 ∨ k = 3) ∧ (k = 0 → ∃ q, IsHull l q ∧ Vl q ∧ Sl w' v q) ∧ Grew w w'
theorem drift_g (K : Hl.Code) (t : Ed) (u : Value) (lo hi : Pt) (c d : Int) (w : World) (hs : Rs w u t.l) (hl : t.l.length ≤ 9223372036854775807) (hb : BOk t lo hi c d) :
    Calls Try.prog 19 #[tv t u, .agg #[.int .i64 lo.1, .int .i64 lo.2], .agg #[.int .i64 hi.1, .int .i64 hi.2], .int .i64 c, .int .i64 d] w (DSays (drl (OvB t lo hi c d) (d - c)) w) := by
  by_cases h1 : 100000 < d - c
  · refine (drift_far K t u lo hi c d w hs hl hb h1).mono ?_
    rintro e w' ⟨rfl, g⟩
    exact ⟨_, _, rfl, by decide, fun h => absurd h (by decide), g⟩
  · by_cases h2 : Plcs (drl (OvB t lo hi c d) (d - c))
    · refine (drift_yes K t u lo hi c d w hs hl hb (by omega) h2).mono ?_
      rintro e w' ⟨q, v, hq, hv, rfl, hsl, g⟩
      exact ⟨_, _, rfl, by decide, fun _ => ⟨q, hq, hv, hsl⟩, g⟩
    · refine (drift_rng K t u lo hi c d w hs hl hb (by omega) h2).mono ?_
      rintro e w' ⟨rfl, g⟩
      exact ⟨_, _, rfl, by decide, fun h => absurd h (by decide), g⟩
end Td
end Go.Proofs.Ytpiajdahmcelnaa
namespace Go.Proofs.Ytpiajdahmcelnaa
open Go.RowKit Hl
namespace Td
set_option maxRecDepth 100000
def lin (a b x : Int) : Int := a + (b - a) * (x % 1001) / 1000
theorem lin_p {a b x : Int} (h : a ≤ b) : 0 ≤ (b - a) * (x % 1001) ∧ (b - a) * (x % 1001) ≤ (b - a) * 1000 := by
  have h1 := Int.emod_nonneg x (show (1001 : Int) ≠ 0 by decide)
  have h2 := Int.emod_lt_of_pos x (show (0 : Int) < 1001 by decide)
  exact ⟨Int.mul_nonneg (by omega) h1, Int.mul_le_mul_of_nonneg_left (by omega) (by omega)⟩
theorem lin_in {a b : Int} (h : a ≤ b) (x : Int) : a ≤ lin a b x ∧ lin a b x ≤ b := by
  have p := lin_p (x := x) h
  unfold lin
  generalize (b - a) * (x % 1001) = P at *
  omega
set_option maxHeartbeats 4000000 in
theorem lbet_c (a b x : Int) (w : World) (h : a ≤ b) (h1 : -5000 ≤ a) (h2 : b ≤ 5000) (hx : 0 ≤ x ∧ x < 65536) :
    Calls Try.prog 20 #[.int .i64 a, .int .i64 b, .int .i64 x] w fun e w' => e = .returned (.int .i64 (lin a b x)) ∧ Grew w w' := by
  have p := lin_p (x := x) h
  have r1 := Int.emod_nonneg x (show (1001 : Int) ≠ 0 by decide)
  have r2 := Int.emod_lt_of_pos x (show (0 : Int) < 1001 by decide)
  have e1 : x.tmod 1001 = x % 1001 := Int.tmod_eq_emod_of_nonneg hx.1
  unfold lin
  generalize x % 1001 = R at *
  have e2 : ((b - a) * R).tdiv 1000 = (b - a) * R / 1000 := Int.tdiv_eq_ediv_of_nonneg p.1
  have k1 : IntKind.i64.wrap (b - a) = b - a := by rw [IntKind.wrap_i64]; omega
  have k2 : IntKind.i64.wrap R = R := by rw [IntKind.wrap_i64]; omega
  have k3 : IntKind.i64.wrap ((b - a) * R) = (b - a) * R := by
    rw [IntKind.wrap_i64]
    generalize (b - a) * R = P at *
    omega
  have k4 : IntKind.i64.wrap ((b - a) * R / 1000) = (b - a) * R / 1000 := by
    rw [IntKind.wrap_i64]
    generalize (b - a) * R = P at *
    omega
  have k5 : IntKind.i64.wrap (a + (b - a) * R / 1000) = a + (b - a) * R / 1000 := by
    rw [IntKind.wrap_i64]
    generalize (b - a) * R = P at *
    omega
  go_enter Try.func20, Try.ntmps20
  go_wp2_with fail
  go_ret
  exact ⟨rfl, Grew.refl _⟩
theorem tfl (n : Int) : (n.tmod 100 < 0 → Ex.fl n 100 = n.tdiv 100 - 1) ∧ (¬ n.tmod 100 < 0 → Ex.fl n 100 = n.tdiv 100) := by
  have f := Ex.fl_spec n (b := 100) (by decide)
  by_cases h : 0 ≤ n
  · have e1 := Int.tmod_eq_emod_of_nonneg (a := n) (b := 100) h
    have e2 := Int.tdiv_eq_ediv_of_nonneg (a := n) (b := 100) h
    omega
  · obtain ⟨m, rfl⟩ : ∃ m, n = -m := ⟨-n, by omega⟩
    have e1 := Int.tmod_eq_emod_of_nonneg (a := m) (b := 100) (by omega)
    have e2 := Int.tdiv_eq_ediv_of_nonneg (a := m) (b := 100) (by omega)
    have e3 := Int.neg_tmod m 100
    have e4 := Int.neg_tdiv m 100
    omega
set_option maxHeartbeats 4000000 in
theorem lfloor_c (n : Int) (w : World) (h : -10000000000000 ≤ n ∧ n ≤ 10000000000000) :
    Calls Try.prog 21 #[.int .i64 n] w fun e w' => e = .returned (.int .i64 (Ex.fl n 100)) ∧ Grew w w' := by
  have t := tfl n
  have f := Ex.fl_spec n (b := 100) (by decide)
  have k1 : IntKind.i64.wrap (Ex.fl n 100) = Ex.fl n 100 := by rw [IntKind.wrap_i64]; omega
  have m1 : -100 ≤ n.tmod 100 ∧ n.tmod 100 ≤ 100 := by
    have a1 := Int.mul_tdiv_add_tmod n 100
    omega
  have k3 : IntKind.i64.wrap (n.tmod 100) = n.tmod 100 := by rw [IntKind.wrap_i64]; omega
  by_cases c : n.tmod 100 < 0
  · have e := t.1 c
    clear t
    have k2 : IntKind.i64.wrap (n.tdiv 100) = n.tdiv 100 := by rw [IntKind.wrap_i64]; omega
    rw [e] at k1 ⊢
    clear f e
    go_enter Try.func21, Try.ntmps21
    go_wp2_with fail
    go_ret
    exact ⟨rfl, Grew.refl _⟩
  · have e := t.2 c
    clear t
    rw [e] at k1 ⊢
    clear f e
    go_enter Try.func21, Try.ntmps21
    go_wp2_with fail
    go_ret
    exact ⟨rfl, Grew.refl _⟩
def way (a b x y k n : Int) : Int := lin a b x * k + lin a b y * (n - k)
theorem way_in {a b : Int} (h : a ≤ b) (x y : Int) {k n : Int} (hk : 0 ≤ k ∧ k ≤ n) : a * n ≤ way a b x y k n ∧ way a b x y k n ≤ b * n := by
  have l1 := lin_in h x
  have l2 := lin_in h y
  have p1 : a * k ≤ lin a b x * k := Int.mul_le_mul_of_nonneg_right l1.1 hk.1
  have p2 : lin a b x * k ≤ b * k := Int.mul_le_mul_of_nonneg_right l1.2 hk.1
  have p3 : a * (n - k) ≤ lin a b y * (n - k) := Int.mul_le_mul_of_nonneg_right l2.1 (by omega)
  have p4 : lin a b y * (n - k) ≤ b * (n - k) := Int.mul_le_mul_of_nonneg_right l2.2 (by omega)
  have p5 : a * (n - k) = a * n - a * k := Int.mul_sub a n k
  have p6 : b * (n - k) = b * n - b * k := Int.mul_sub b n k
  unfold way
  omega
theorem fl_way {a b u n : Int} (h : a * n ≤ u ∧ u ≤ b * n) : ((Ca a b n).1 ≤ Ex.fl u 100 ∧ Ex.fl u 100 ≤ (Ca a b n).2) ∧ ((Ca a b n).1 ≤ Ex.ce u 100 ∧ Ex.ce u 100 ≤ (Ca a b n).2) := by
  have f1 := Ex.fl_spec (a * n) (b := 100) (by decide)
  have f2 := Ex.fl_spec u (b := 100) (by decide)
  have f3 := Ex.ce_spec u (b := 100) (by decide)
  have f4 := Ex.ce_spec (b * n) (b := 100) (by decide)
  show (Ex.fl (a * n) 100 ≤ Ex.fl u 100 ∧ Ex.fl u 100 ≤ Ex.ce (b * n) 100) ∧ (Ex.fl (a * n) 100 ≤ Ex.ce u 100 ∧ Ex.ce u 100 ≤ Ex.ce (b * n) 100)
  omega
theorem mul_two {u x1 x2 x : Int} (h : x1 ≤ x ∧ x ≤ x2) : u * x1 ≤ u * x ∨ u * x2 ≤ u * x := by
  by_cases hu : 0 ≤ u
  · exact Or.inl (Int.mul_le_mul_of_nonneg_left h.1 hu)
  · exact Or.inr (Int.mul_le_mul_of_nonpos_left (by omega) h.2)
theorem drl_has {k : Bd} {n : Int} {q : List Pt} (hq : IsHull (drl k n) q) {x : Pt} (h1 : (Ca k.a k.b n).1 ≤ x.1 ∧ x.1 ≤ (Ca k.a k.b n).2) (h2 : (Ca k.c k.d n).1 ≤ x.2 ∧ x.2 ≤ (Ca k.c k.d n).2) : Hl.Hs q x := by
  refine hs_of_least (drl k n) hq.1 hq.2.2 fun u v z => ?_
  unfold drl af
  have m1 := mul_two (u := u) h1
  have m2 := mul_two (u := v) h2
  rcases m1 with m1 | m1 <;> rcases m2 with m2 | m2
  · exact ⟨((Ca k.a k.b n).1, (Ca k.c k.d n).1), by simp, by simp only; omega⟩
  · exact ⟨((Ca k.a k.b n).1, (Ca k.c k.d n).2), by simp, by simp only; omega⟩
  · exact ⟨((Ca k.a k.b n).2, (Ca k.c k.d n).1), by simp, by simp only; omega⟩
  · exact ⟨((Ca k.a k.b n).2, (Ca k.c k.d n).2), by simp, by simp only; omega⟩
theorem drl_plc {k : Bd} {n : Int} (hp : Plcs (drl k n)) {x : Pt} (h1 : (Ca k.a k.b n).1 ≤ x.1 ∧ x.1 ≤ (Ca k.a k.b n).2) (h2 : (Ca k.c k.d n).1 ≤ x.2 ∧ x.2 ≤ (Ca k.c k.d n).2) : Plc x := by
  have p0 : Plc ((Ca k.a k.b n).1, (Ca k.c k.d n).1) := hp 0 (by simp [drl])
  have p2 : Plc ((Ca k.a k.b n).2, (Ca k.c k.d n).2) := hp 2 (by simp [drl])
  unfold Plc at *
  simp only at p0 p2
  omega
end Td
end Go.Proofs.Ytpiajdahmcelnaa
