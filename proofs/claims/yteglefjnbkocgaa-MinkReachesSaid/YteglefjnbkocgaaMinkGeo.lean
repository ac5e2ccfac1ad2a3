/-
  Plain geometry of sums of polygons: all sums, reaches, order, shifts, mirrors. No program.
  Plain geometry: a sum has at most as many corners as both polygons together. No program.
  Plain geometry of disks with eight sides. No program.
-/
import Derived.Test.YteglefjnbkocgaaHullFur
import Derived.Test.YteglefjnbkocgaaCutGeo
namespace Go.Proofs.Yteglefjnbkocgaa
open Hl
namespace Mk

def plus (x y : Pt) : Pt := (x.1 + y.1, x.2 + y.2)
def neg (x : Pt) : Pt := (-x.1, -x.2)
/-- All sums of a place of the one and a place of the other one. -/
def sums (p q : List Pt) : List Pt := p.flatMap fun x => q.map (plus x)
theorem mem_sums {p q : List Pt} {z : Pt} : z ∈ sums p q ↔ ∃ x, x ∈ p ∧ ∃ y, y ∈ q ∧ plus x y = z := by
  unfold sums
  rw [List.mem_flatMap]
  constructor
  · rintro ⟨x, hx, h⟩
    obtain ⟨y, hy, e⟩ := List.mem_map.1 h
    exact ⟨x, hx, y, hy, e⟩
  · rintro ⟨x, hx, y, hy, e⟩
    exact ⟨x, hx, List.mem_map.2 ⟨y, hy, e⟩⟩
theorem sums_mem {p q : List Pt} {x y : Pt} (hx : x ∈ p) (hy : y ∈ q) : plus x y ∈ sums p q := mem_sums.2 ⟨x, hx, y, hy, rfl⟩
theorem plus_comm (x y : Pt) : plus x y = plus y x := by unfold plus; rw [Int.add_comm, Int.add_comm x.2]
theorem plus_assoc (x y z : Pt) : plus (plus x y) z = plus x (plus y z) := by unfold plus; rw [Int.add_assoc, Int.add_assoc]
theorem neg_neg (x : Pt) : neg (neg x) = x := by unfold neg; rcases x with ⟨a, b⟩; simp
theorem plus_neg (x : Pt) : plus x (neg x) = (0, 0) := by unfold plus neg; rcases x with ⟨a, b⟩; simp; omega
theorem af_plus (u v k : Int) (x y : Pt) : af u v k (plus x y) = af u v 0 x + af u v k y := by unfold af plus; grind
theorem af_zero (u v k : Int) (x : Pt) : af u v k x = af u v 0 x + k := by unfold af; omega
theorem af_neg (u v k : Int) (x : Pt) : af u v k (neg x) = af (-u) (-v) k x := by unfold af neg; grind

/-- Which places a hull is made of is all that matters. -/
theorem hull_congr {l m s : List Pt} (h : IsHull l s) (e : ∀ x, x ∈ l ↔ x ∈ m) : IsHull m s := ⟨h.1, fun x hx => (e x).1 (h.2.1 x hx), fun x hx => h.2.2 x ((e x).2 hx)⟩
/-- A sum has the sum of any two places that the polygons have. -/
theorem sum_has {p q s : List Pt} (hp : Pg p) (hq : Pg q) (hs : IsHull (sums p q) s) {x y : Pt} (hx : Hs p x) (hy : Hs q y) : Hs s (plus x y) := by
  refine hs_of_least (sums p q) hs.1 hs.2.2 fun u v k => ?_
  obtain ⟨i, hi, ei⟩ := hs_least hp hx u v 0
  obtain ⟨j, hj, ej⟩ := hs_least hq hy u v k
  refine ⟨plus (at' p i) (at' q j), sums_mem (at_mem hi) (at_mem hj), ?_⟩
  rw [af_plus, af_plus]
  omega
theorem min_all {p : List Pt} {u v m : Int} (h : IsMin p u v m) : ∀ x, x ∈ p → m ≤ u * x.1 + v * x.2 := h.2
theorem min_sum {p q s : List Pt} (hs : IsHull (sums p q) s) {u v a b : Int} (ha : IsMin p u v a) (hb : IsMin q u v b) : IsMin s u v (a + b) := by
  refine min_hull hs (fun x hx => ?_) ?_
  · obtain ⟨y, hy, z, hz, rfl⟩ := mem_sums.1 hx
    have h1 := ha.2 y hy
    have h2 := hb.2 z hz
    unfold plus
    simp only
    grind
  · obtain ⟨⟨y, hy, ey⟩, _⟩ := ha
    obtain ⟨⟨z, hz, ez⟩, _⟩ := hb
    refine ⟨plus y z, sums_mem hy hz, ?_⟩
    unfold plus
    simp only
    grind
theorem sum_comm {p q s : List Pt} (hs : IsHull (sums p q) s) : IsHull (sums q p) s := hull_congr hs fun x => by
  rw [mem_sums, mem_sums]
  constructor <;> rintro ⟨a, ha, b, hb, e⟩ <;> exact ⟨b, hb, a, ha, by rw [plus_comm]; exact e⟩
/-- Three polygons. -/
theorem sum_three {p q r a s : List Pt} (_hp : Pg p) (_hq : Pg q) (hr : Pg r) (ha : IsHull (sums p q) a) (hs : IsHull (sums a r) s) : IsHull (sums (sums p q) r) s := by
  refine ⟨hs.1, fun x hx => ?_, fun x hx => ?_⟩
  · obtain ⟨y, hy, z, hz, rfl⟩ := mem_sums.1 (hs.2.1 x hx)
    exact sums_mem (ha.2.1 y hy) hz
  · obtain ⟨y, hy, z, hz, rfl⟩ := mem_sums.1 hx
    exact sum_has ha.1 hr hs (ha.2.2 y hy) ((hull_self hr).2.2 z hz)
theorem sum_assoc {p q r a c s t : List Pt} (hp : Pg p) (hq : Pg q) (hr : Pg r) (ha : IsHull (sums p q) a) (hs : IsHull (sums a r) s) (hc : IsHull (sums q r) c) (ht : IsHull (sums p c) t) : s = t := by
  refine hull_unique (sum_three hp hq hr ha hs) (hull_congr (sum_three hq hr hp hc (sum_comm ht)) fun x => ?_)
  constructor
  · intro h
    obtain ⟨w, hw, x', hx', rfl⟩ := mem_sums.1 h
    obtain ⟨y, hy, z, hz, rfl⟩ := mem_sums.1 hw
    rw [plus_comm, ← plus_assoc]
    exact sums_mem (sums_mem hx' hy) hz
  · intro h
    obtain ⟨w, hw, z, hz, rfl⟩ := mem_sums.1 h
    obtain ⟨x', hx', y, hy, rfl⟩ := mem_sums.1 hw
    rw [plus_assoc, plus_comm]
    exact sums_mem (sums_mem hy hz) hx'

/-! ### Shifts -/
def shift (p : List Pt) (b : Pt) : List Pt := p.map fun x => plus x b
theorem shift_len (p : List Pt) (b : Pt) : (shift p b).length = p.length := List.length_map ..
theorem shift_at {p : List Pt} {b : Pt} {i : Nat} (h : i < p.length) : at' (shift p b) i = plus (at' p i) b := by
  unfold at' shift
  rw [List.getD_eq_getElem?_getD, List.getD_eq_getElem?_getD, List.getElem?_map, List.getElem?_eq_getElem h]
  rfl
theorem cr_plus (a b c z : Pt) : cr (plus a z) (plus b z) (plus c z) = cr a b c := by unfold cr plus; grind
theorem ls_plus (a b z : Pt) : ls (plus a z) (plus b z) ↔ ls a b := by unfold ls plus; simp only; omega
theorem btw_plus (a b x z : Pt) : btw (plus a z) (plus b z) (plus x z) ↔ btw a b x := by unfold btw plus; simp only; omega
theorem plus_inj {a b z : Pt} (h : plus a z = plus b z) : a = b := by
  unfold plus at h
  injection h with h1 h2
  exact Prod.ext (by omega) (by omega)
theorem shift_pg {p : List Pt} (h : Pg p) (b : Pt) : Pg (shift p b) := by
  refine ⟨by rw [shift_len]; exact h.1, fun i h1 h2 => ?_, fun h2 => ?_⟩
  · rw [shift_len] at h2
    rw [shift_at (by omega), shift_at h2, ls_plus]
    exact h.2.1 i h1 h2
  · rw [shift_len] at h2 ⊢
    intro i k hi hk n1 n2
    rw [shift_at hi, shift_at hk, shift_at (nx_lt (by omega)), cr_plus]
    exact h.2.2 h2 i k hi hk n1 n2
theorem shift_hs {p : List Pt} (h : Pg p) (b x : Pt) : Hs (shift p b) (plus x b) ↔ Hs p x := by
  have h0 := h.1
  unfold Hs Ins
  rw [shift_len]
  split
  · rw [shift_at (by omega)]
    exact ⟨fun e => plus_inj e, fun e => by rw [e]⟩
  · split
    · rw [shift_at (by omega), shift_at (by omega), cr_plus, btw_plus]
    · constructor
      · intro g i hi
        have := g i hi
        rwa [shift_at hi, shift_at (nx_lt (by omega)), cr_plus] at this
      · intro g i hi
        rw [shift_at hi, shift_at (nx_lt (by omega)), cr_plus]
        exact g i hi
theorem mem_shift {p : List Pt} {b z : Pt} : z ∈ shift p b ↔ ∃ x, x ∈ p ∧ plus x b = z := List.mem_map
/-- The sum with a single place is the shifted polygon. -/
theorem shift_sum {p : List Pt} (h : Pg p) (b : Pt) : IsHull (sums p [b]) (shift p b) := by
  refine hull_congr (hull_self (shift_pg h b)) fun x => ?_
  rw [mem_shift, mem_sums]
  constructor
  · rintro ⟨y, hy, e⟩; exact ⟨y, hy, b, List.mem_singleton.2 rfl, e⟩
  · rintro ⟨y, hy, c, hc, e⟩; rw [List.mem_singleton] at hc; subst hc; exact ⟨y, hy, e⟩
/-- Shifting one of both polygons shifts their sum. -/
theorem sum_shift {p q s : List Pt} (hs : IsHull (sums p q) s) (b : Pt) : IsHull (sums (shift p b) q) (shift s b) := by
  refine ⟨shift_pg hs.1 b, fun x hx => ?_, fun x hx => ?_⟩
  · obtain ⟨y, hy, rfl⟩ := mem_shift.1 hx
    obtain ⟨a, ha, c, hc, rfl⟩ := mem_sums.1 (hs.2.1 y hy)
    rw [plus_assoc, plus_comm c, ← plus_assoc]
    exact sums_mem (mem_shift.2 ⟨a, ha, rfl⟩) hc
  · obtain ⟨a, ha, c, hc, rfl⟩ := mem_sums.1 hx
    obtain ⟨y, hy, rfl⟩ := mem_shift.1 ha
    rw [plus_assoc, plus_comm b, ← plus_assoc, shift_hs hs.1]
    exact hs.2.2 _ (sums_mem hy hc)

/-! ### Mirrors -/
def mirror (p : List Pt) : List Pt := p.map neg
theorem mem_mirror {p : List Pt} {z : Pt} : z ∈ mirror p ↔ neg z ∈ p := by
  unfold mirror
  rw [List.mem_map]
  constructor
  · rintro ⟨x, hx, rfl⟩; rwa [neg_neg]
  · intro h; exact ⟨neg z, h, neg_neg z⟩
theorem mirror_has {p m : List Pt} (hp : Pg p) (hm : IsHull (mirror p) m) {x : Pt} (hx : Hs p x) : Hs m (neg x) := by
  refine hs_of_least (mirror p) hm.1 hm.2.2 fun u v k => ?_
  obtain ⟨i, hi, ei⟩ := hs_least hp hx (-u) (-v) k
  refine ⟨neg (at' p i), mem_mirror.2 (by rw [neg_neg]; exact at_mem hi), ?_⟩
  rw [af_neg, af_neg]
  exact ei
theorem hs_three_i {p : List Pt} (h : 3 ≤ p.length) {x : Pt} : Hs p x ↔ Ins p.length (at' p) x := by unfold Hs; rw [if_neg (by omega), if_neg (by omega)]
/-- A corner alone is least in some direction. -/
theorem corner_strict {p : List Pt} (h : Pg p) {i : Nat} (hi : i < p.length) : ∃ u v k : Int, ∀ j, j < p.length → j ≠ i → af u v k (at' p i) < af u v k (at' p j) := by
  by_cases h1 : p.length = 1
  · exact ⟨0, 0, 0, fun j hj hne => by omega⟩
  by_cases h2 : p.length = 2
  · have hne : at' p 0 ≠ at' p 1 := pg_ne h (by omega)
    obtain ⟨o, ho, ho2, hc⟩ : ∃ o, o < 2 ∧ at' p i ≠ at' p o ∧ ∀ j, j < 2 → j ≠ i → j = o := by
      rcases (show i = 0 ∨ i = 1 by omega) with rfl | rfl
      · exact ⟨1, by omega, hne, fun j _ _ => by omega⟩
      · exact ⟨0, by omega, hne.symm, fun j _ _ => by omega⟩
    obtain ⟨u, v, k, e⟩ : ∃ u v k : Int, ∀ y, dt (at' p i) (at' p o) y = af u v k y := ⟨_, _, _, dt_af _ _⟩
    refine ⟨u, v, k, fun j hj hne2 => ?_⟩
    have := dt_pos ho2
    rw [hc j (by omega) hne2, ← e, ← e, dt_self]
    exact this
  · have h3 : 3 ≤ p.length := by have := h.1; omega
    have hc := h.2.2 (by omega)
    have t := turn hc h3 hi
    obtain ⟨u, v, k, e⟩ : ∃ u v k : Int, ∀ y, cr (at' p (pv p.length i)) (at' p i) y + cr (at' p i) (at' p ((i + 1) % p.length)) y = af u v k y := ⟨_, _, _, fun y => by rw [cr_af, cr_af, af_add]⟩
    refine ⟨u, v, k, fun j hj hne => ?_⟩
    have hall : ∀ x, x ∈ p → 0 ≤ cr (at' p (pv p.length i)) (at' p i) x ∧ 0 ≤ cr (at' p i) (at' p ((i + 1) % p.length)) x := fun x hx => by
      have hin := (hs_three_i h3).1 ((hull_self h).2.2 x hx)
      exact ⟨ins_pv hin hi, hin i hi⟩
    obtain ⟨a1, a2⟩ := hall _ (at_mem hj)
    have ne : cr (at' p (pv p.length i)) (at' p i) (at' p j) + cr (at' p i) (at' p ((i + 1) % p.length)) (at' p j) ≠ 0 := fun e => by
      have := only_corner t (by omega) (show cr (at' p i) (at' p ((i + 1) % p.length)) (at' p j) = 0 by omega)
      exact corners_ne hc h3 hj hi hne this
    have z : cr (at' p (pv p.length i)) (at' p i) (at' p i) + cr (at' p i) (at' p ((i + 1) % p.length)) (at' p i) = 0 := by rw [cr_self', cr_self]; rfl
    rw [← e, ← e]
    omega
/-- What alone is least in some direction is a corner of the hull. -/
theorem corner_in {l s : List Pt} (hs : IsHull l s) {x : Pt} (hx : x ∈ l) {u v k : Int} (h : ∀ y, y ∈ l → y ≠ x → af u v k x < af u v k y) : x ∈ s := by
  obtain ⟨j, hj, e⟩ := hs_least hs.1 (hs.2.2 x hx) u v k
  by_cases g : at' s j = x
  · rw [← g]; exact at_mem hj
  · have := h _ (hs.2.1 _ (at_mem hj)) g
    omega
theorem mirror_back {p m : List Pt} (hp : Pg p) (hm : IsHull (mirror p) m) : IsHull (mirror m) p := by
  refine ⟨hp, fun x hx => ?_, fun x hx => ?_⟩
  · rw [mem_mirror]
    obtain ⟨i, hi, rfl⟩ := mem_at hx
    obtain ⟨u, v, k, h⟩ := corner_strict hp hi
    refine corner_in hm (mem_mirror.2 (by rw [neg_neg]; exact at_mem hi)) (u := -u) (v := -v) (k := k) fun y hy hne => ?_
    have hy' := mem_mirror.1 hy
    obtain ⟨j, hj, ej⟩ := mem_at hy'
    have hji : j ≠ i := fun e => hne (by rw [← neg_neg y, ← ej, e])
    have := h j hj hji
    rw [← neg_neg y, af_neg, af_neg, Int.neg_neg, Int.neg_neg, ← ej]
    exact this
  · have h1 := hm.2.1 _ (mem_mirror.1 hx)
    rw [mem_mirror, neg_neg] at h1
    exact (hull_self hp).2.2 x h1
theorem mirror_iff {p m : List Pt} (hp : Pg p) (hm : IsHull (mirror p) m) (x : Pt) : Hs m (neg x) ↔ Hs p x :=
  ⟨fun h => by have := mirror_has hm.1 (mirror_back hp hm) h; rwa [neg_neg] at this, mirror_has hp hm⟩
/-- The sum with the mirror has 0, 0. -/
theorem mirror_zero {p m s : List Pt} (hp : Pg p) (hm : IsHull (mirror p) m) (hs : IsHull (sums p m) s) : Hs s (0, 0) := by
  have h0 : Hs p (at' p 0) := hs_corner hp hp.1
  have := sum_has hp hm.1 hs h0 (mirror_has hp hm h0)
  rwa [plus_neg] at this
end Mk
end Go.Proofs.Yteglefjnbkocgaa
namespace Go.Proofs.Yteglefjnbkocgaa
open Hl
namespace Mk

/-- The cross and the dot product of two vectors. -/
def xp (a b : Pt) : Int := a.1 * b.2 - a.2 * b.1
def dp (a b : Pt) : Int := a.1 * b.1 + a.2 * b.2
def sub (a b : Pt) : Pt := (a.1 - b.1, a.2 - b.2)
theorem lag (d w z : Pt) : dp d d * xp w z = dp d w * xp d z - xp d w * dp d z := by unfold dp xp; grind
theorem lag2 (d w z : Pt) : dp d d * dp w z = dp d w * dp d z + xp d w * xp d z := by unfold dp xp; grind
theorem cr_xp (a b c : Pt) : cr a b c = xp (sub b a) (sub c a) := by unfold cr xp sub; grind
theorem xp_sub (d x y z : Pt) : xp d (sub x z) - xp d (sub y z) = xp d (sub x y) := by unfold xp sub; grind
theorem xp_swap (a b : Pt) : xp a b = -(xp b a) := by unfold xp; grind
theorem dp_comm (a b : Pt) : dp a b = dp b a := by unfold dp; grind
theorem xp_neg (d a b : Pt) : xp d (sub a b) = -(xp d (sub b a)) := by unfold xp sub; grind
theorem dp_neg (d a b : Pt) : dp d (sub a b) = -(dp d (sub b a)) := by unfold dp sub; grind
theorem sq_nonneg (a : Int) : 0 ≤ a * a := by rw [← Int.natAbs_mul_self]; omega
theorem sq_pos {a : Int} (h : a ≠ 0) : 0 < a * a := by
  rcases Int.lt_or_gt_of_ne h with g | g
  · exact Int.mul_pos_of_neg_of_neg g g
  · exact Int.mul_pos g g
theorem dd_pos {d : Pt} (h : d ≠ (0, 0)) : 0 < dp d d := by
  unfold dp
  have h1 := sq_nonneg d.1
  have h2 := sq_nonneg d.2
  by_cases e1 : d.1 = 0
  · by_cases e2 : d.2 = 0
    · exact absurd (Prod.ext e1 e2) h
    · have := sq_pos e2
      omega
  · have := sq_pos e1
    omega
theorem sub_ne {a b : Pt} (h : a ≠ b) : sub a b ≠ (0, 0) := fun e => h (by
  unfold sub at e
  injection e with e1 e2
  exact Prod.ext (by omega) (by omega))
/-- The same direction. -/
def Par (d w : Pt) : Prop := xp d w = 0 ∧ 0 < dp d w
theorem xp_dp {d w : Pt} (hd : d ≠ (0, 0)) (hw : w ≠ (0, 0)) (h : xp d w = 0) : dp d w ≠ 0 := fun e => by
  have := lag2 d w w
  rw [h, e, Int.zero_mul] at this
  have := Int.mul_pos (dd_pos hd) (dd_pos hw)
  omega
theorem pos_of_mul {a b : Int} (hb : 0 ≤ b) (h : 0 < a * b) : 0 < a := by
  rcases Int.lt_or_le 0 a with g | g
  · exact g
  · have := Int.mul_nonneg (show 0 ≤ -a by omega) hb
    rw [Int.neg_mul] at this
    omega
/-- Sides of s, and directions of sides of p. -/
def Sd (p : List Pt) (d : Pt) (i : Nat) : Prop := i < p.length ∧ Par d (sub (at' p ((i + 1) % p.length)) (at' p i))
theorem side_pos {p : List Pt} (hp : Pg p) (h3 : 3 ≤ p.length) {d : Pt} {i : Nat} (hi : i < p.length) (hz : xp d (sub (at' p ((i + 1) % p.length)) (at' p i)) = 0) (hl : ∀ l, l < p.length → 0 ≤ xp d (sub (at' p l) (at' p i))) (hd : d ≠ (0, 0)) : Sd p d i := by
  refine ⟨hi, hz, ?_⟩
  have hc := hp.2.2 (by omega)
  obtain ⟨k, hk, k1, k2⟩ : ∃ k, k < p.length ∧ k ≠ i ∧ k ≠ (i + 1) % p.length := ⟨pv p.length i, pv_lt (by omega), fun e => by
    have := pv_next hi
    rw [e] at this
    exact nx_ne (by omega) hi this, fun e => nx_pv h3 hi e.symm⟩
  have c := hc i k hi hk k1 k2
  rw [cr_xp] at c
  have g := hl k hk
  have e := lag d (sub (at' p ((i + 1) % p.length)) (at' p i)) (sub (at' p k) (at' p i))
  rw [hz, Int.zero_mul, Int.sub_zero] at e
  exact pos_of_mul g (by rw [← e]; exact Int.mul_pos (dd_pos hd) c)
/-- Two corners that lie farthest on one side of a direction: a side has this direction. -/
theorem side_dir {p : List Pt} (hp : Pg p) {d : Pt} (hd : d ≠ (0, 0)) {a b : Nat} (ha : a < p.length) (hb : b < p.length) (hne : at' p a ≠ at' p b) (hl : ∀ l, l < p.length → 0 ≤ xp d (sub (at' p l) (at' p a))) (e : xp d (sub (at' p b) (at' p a)) = 0) : ∃ i, Sd p d i := by
  have hab : a ≠ b := fun h => hne (by rw [h])
  by_cases h2 : p.length = 2
  · have nz := xp_dp hd (sub_ne (fun h => hne h.symm)) e
    have na : (a + 1) % p.length = b := by rw [h2]; omega
    have nb : (b + 1) % p.length = a := by rw [h2]; omega
    rcases Int.lt_or_gt_of_ne nz with g | g
    · exact ⟨b, hb, by rw [nb, xp_neg, e]; rfl, by rw [nb, dp_neg]; omega⟩
    · exact ⟨a, ha, by rw [na]; exact e, by rw [na]; exact g⟩
  · have h3 : 3 ≤ p.length := by omega
    have af_e : ∀ l, af (-d.2) d.1 0 (at' p l) - af (-d.2) d.1 0 (at' p a) = xp d (sub (at' p l) (at' p a)) := fun l => by unfold af xp sub; grind
    have hlb : ∀ l, l < p.length → 0 ≤ xp d (sub (at' p l) (at' p b)) := fun l hll => by
      have h1 := hl l hll
      have h2 := xp_sub d (at' p l) (at' p b) (at' p a)
      omega
    rcases Ct.least_near hp (u := -d.2) (v := d.1) (k := 0) (N := af (-d.2) d.1 0 (at' p a)) (fun l hll => by have := af_e l; have := hl l hll; omega) ha hb hab rfl (by have := af_e b; omega) with h | h | h
    · exact ⟨a, side_pos hp h3 ha (by rw [← h]; exact e) hl hd⟩
    · exact ⟨b, side_pos hp h3 hb (by rw [← h, xp_neg, e]; rfl) hlb hd⟩
    · exfalso
      have hc := hp.2.2 (by omega)
      have z : ∀ l, l < p.length → xp d (sub (at' p l) (at' p a)) = 0 := fun l hll => by have := af_e l; have := h l hll; omega
      have t := three_not hc h3
      refine t ?_
      have w1 : xp d (sub (at' p 1) (at' p 0)) = 0 := by have := xp_sub d (at' p 1) (at' p 0) (at' p a); have := z 1 (by omega); have := z 0 (by omega); omega
      have w2 : xp d (sub (at' p 2) (at' p 0)) = 0 := by have := xp_sub d (at' p 2) (at' p 0) (at' p a); have := z 2 (by omega); have := z 0 (by omega); omega
      have L := lag d (sub (at' p 1) (at' p 0)) (sub (at' p 2) (at' p 0))
      rw [w1, w2, Int.mul_zero, Int.zero_mul, Int.sub_zero] at L
      rw [cr_xp]
      rcases Int.mul_eq_zero.1 L with g | g
      · have := dd_pos hd; omega
      · exact g
theorem par_sign {d w : Pt} (h : Par d w) : (∀ z, 0 ≤ xp d z → 0 ≤ xp w z) ∧ (∀ z, xp w z = 0 → xp d z = 0) := by
  have hw : 0 < dp w w := dd_pos (fun e => by have := h.2; rw [e] at this; simp [dp] at this)
  have key : ∀ z, dp w w * xp d z = dp w d * xp w z := fun z => by
    have := lag w d z
    rw [xp_swap w d, h.1, Int.neg_zero, Int.zero_mul, Int.sub_zero] at this
    exact this
  have hd : 0 < dp w d := by rw [dp_comm]; exact h.2
  constructor
  · intro z hz
    refine nonneg_of hd ?_
    rw [← key]
    exact Int.mul_nonneg (Int.le_of_lt hw) hz
  · intro z hz
    have := key z
    rw [hz, Int.mul_zero] at this
    rcases Int.mul_eq_zero.1 this with g | g
    · omega
    · exact g
/-- Two sides of a polygon have different directions. -/
theorem sides_apart {s : List Pt} (hs : Pg s) (h3 : 3 ≤ s.length) {i j : Nat} (hi : i < s.length) (hj : j < s.length) {w : Pt} (h1 : Par (sub (at' s ((i + 1) % s.length)) (at' s i)) w) (h2 : Par (sub (at' s ((j + 1) % s.length)) (at' s j)) w) : i = j := by
  have hc := hs.2.2 (by omega)
  have left : ∀ a l, a < s.length → l < s.length → 0 ≤ xp (sub (at' s ((a + 1) % s.length)) (at' s a)) (sub (at' s l) (at' s a)) := fun a l ha hl => by
    rw [← cr_xp]
    exact (hs_three_i h3).1 ((hull_self hs).2.2 _ (at_mem hl)) a ha
  have zero : ∀ a l, a < s.length → l < s.length → xp (sub (at' s ((a + 1) % s.length)) (at' s a)) (sub (at' s l) (at' s a)) = 0 → l = a ∨ l = (a + 1) % s.length := fun a l ha hl e => by
    rw [← cr_xp] at e
    by_cases g : l = a
    · exact Or.inl g
    · by_cases g2 : l = (a + 1) % s.length
      · exact Or.inr g2
      · have := hc a l ha hl g g2
        omega
  have p1 := (par_sign h1).1 _ (left i j hi hj)
  have p2 := (par_sign h2).1 _ (left j i hj hi)
  have n1 := xp_neg w (at' s i) (at' s j)
  have z1 := zero i j hi hj ((par_sign h1).2 _ (by omega))
  have z2 := zero j i hj hi ((par_sign h2).2 _ (by omega))
  rcases z1 with e | e
  · exact e.symm
  · rcases z2 with g | g
    · exact g
    · exfalso
      by_cases w1 : i + 1 < s.length
      · rw [Nat.mod_eq_of_lt w1] at e
        by_cases w2 : j + 1 < s.length
        · rw [Nat.mod_eq_of_lt w2] at g; omega
        · have : j + 1 = s.length := by omega
          rw [this, Nat.mod_self] at g
          omega
      · have : i + 1 = s.length := by omega
        rw [this, Nat.mod_self] at e
        subst e
        rw [Nat.mod_eq_of_lt (by omega)] at g
        omega
/-- A sum has at most as many corners as both polygons together. -/
theorem sum_count {p q s : List Pt} (hp : Pg p) (hq : Pg q) (hs : IsHull (sums p q) s) : s.length ≤ p.length + q.length := by
  by_cases h3 : 3 ≤ s.length
  · have each : ∀ j, j < s.length → (∃ i, Sd p (sub (at' s ((j + 1) % s.length)) (at' s j)) i) ∨ ∃ i, Sd q (sub (at' s ((j + 1) % s.length)) (at' s j)) i := fun j hj => by
      have hj1 : (j + 1) % s.length < s.length := nx_lt (by omega)
      have hd : sub (at' s ((j + 1) % s.length)) (at' s j) ≠ (0, 0) := sub_ne (pg_distinct hs.1 hj1 hj (nx_ne (by omega) hj))
      obtain ⟨d, ed⟩ : ∃ d, d = sub (at' s ((j + 1) % s.length)) (at' s j) := ⟨_, rfl⟩
      rw [← ed] at hd ⊢
      obtain ⟨x, hx, y, hy, exy⟩ := mem_sums.1 (hs.2.1 _ (at_mem hj))
      obtain ⟨x', hx', y', hy', exy'⟩ := mem_sums.1 (hs.2.1 _ (at_mem hj1))
      have left : ∀ a b, a ∈ p → b ∈ q → 0 ≤ xp d (sub (plus a b) (at' s j)) := fun a b ha hb => by
        rw [ed, ← cr_xp]
        exact (hs_three_i h3).1 (hs.2.2 _ (sums_mem ha hb)) j hj
      have e0 : xp d (sub (plus x' y') (at' s j)) = 0 := by rw [exy', ed]; unfold xp; grind
      have sp : ∀ a b c e, xp d (sub (plus a b) (plus c e)) = xp d (sub a c) + xp d (sub b e) := fun a b c e => by unfold xp sub plus; grind
      have self : ∀ a, xp d (sub a a) = 0 := fun a => by unfold xp sub; grind
      have l1 : ∀ a, a ∈ p → 0 ≤ xp d (sub a x) := fun a ha => by have := left a y ha hy; rw [← exy, sp, self] at this; omega
      have l2 : ∀ b, b ∈ q → 0 ≤ xp d (sub b y) := fun b hb => by have := left x b hx hb; rw [← exy, sp, self] at this; omega
      rw [← exy, sp] at e0
      have m1 := l1 x' hx'
      have m2 := l2 y' hy'
      obtain ⟨a, ha, rfl⟩ := mem_at hx
      obtain ⟨b, hb, rfl⟩ := mem_at hy
      obtain ⟨a', ha', rfl⟩ := mem_at hx'
      obtain ⟨b', hb', rfl⟩ := mem_at hy'
      by_cases g : at' p a = at' p a'
      · by_cases g2 : at' q b = at' q b'
        · exfalso
          apply hd
          rw [ed, ← exy, ← exy', g, g2]
          unfold sub
          simp
        · exact Or.inr (side_dir hq hd hb hb' g2 (fun l hl => l2 _ (at_mem hl)) (by omega))
      · exact Or.inl (side_dir hp hd ha ha' g (fun l hl => l1 _ (at_mem hl)) (by omega))
    have lab : ∀ j, ∃ z : Pt, j < s.length → (z.2 = 0 ∧ 0 ≤ z.1 ∧ Sd p (sub (at' s ((j + 1) % s.length)) (at' s j)) z.1.toNat) ∨ (z.2 = 1 ∧ 0 ≤ z.1 ∧ Sd q (sub (at' s ((j + 1) % s.length)) (at' s j)) z.1.toNat) := fun j => by
      by_cases hj : j < s.length
      · rcases each j hj with ⟨i, h⟩ | ⟨i, h⟩
        · exact ⟨((i : Int), 0), fun _ => Or.inl ⟨rfl, by simp, by simpa using h⟩⟩
        · exact ⟨((i : Int), 1), fun _ => Or.inr ⟨rfl, by simp, by simpa using h⟩⟩
      · exact ⟨(0, 0), fun h => absurd h hj⟩
    have L : (((List.range p.length).map fun i : Nat => ((i : Int), (0 : Int))) ++ ((List.range q.length).map fun i : Nat => ((i : Int), (1 : Int)))).length = p.length + q.length := by simp
    rw [← L]
    refine count_le (fun j => Classical.choose (lab j)) s.length _ (fun i j hi hj hne e => ?_) (fun j hj => ?_)
    · have c1 := Classical.choose_spec (lab i) hi
      have c2 := Classical.choose_spec (lab j) hj
      rw [show Classical.choose (lab i) = Classical.choose (lab j) from e] at c1
      generalize Classical.choose (lab j) = z at c1 c2
      rcases c1 with ⟨a1, _, b1⟩ | ⟨a1, _, b1⟩ <;> rcases c2 with ⟨a2, _, b2⟩ | ⟨a2, _, b2⟩
      · exact hne (sides_apart hs.1 h3 hi hj b1.2 b2.2)
      · omega
      · omega
      · exact hne (sides_apart hs.1 h3 hi hj b1.2 b2.2)
    · have c := Classical.choose_spec (lab j) hj
      show Classical.choose (lab j) ∈ _
      generalize Classical.choose (lab j) = z at c
      rw [List.mem_append, List.mem_map, List.mem_map]
      rcases c with ⟨a, b, c⟩ | ⟨a, b, c⟩
      · exact Or.inl ⟨z.1.toNat, List.mem_range.2 c.1, Prod.ext (by simp; omega) a.symm⟩
      · exact Or.inr ⟨z.1.toNat, List.mem_range.2 c.1, Prod.ext (by simp; omega) a.symm⟩
  · have := hp.1
    have := hq.1
    omega
end Mk
end Go.Proofs.Yteglefjnbkocgaa
namespace Go.Proofs.Yteglefjnbkocgaa
open Hl
namespace Mk

/-- m is the least integer with m * m at least 2 * n * n. -/
def Wd (n m : Int) : Prop := 0 ≤ m ∧ 2 * n * n ≤ m * m ∧ ∀ j : Int, 0 ≤ j → 2 * n * n ≤ j * j → m ≤ j
theorem sq_le {a b : Int} (hb : 0 ≤ b) (h : a * a ≤ b * b) : a ≤ b := by
  rcases Int.lt_or_le b a with g | g
  · have := Int.mul_self_lt_mul_self hb g
    omega
  · exact g
theorem wd_range {n m : Int} (hn : 0 ≤ n) (h : Wd n m) : n ≤ m ∧ m ≤ 2 * n := by
  have h0 := Int.mul_nonneg hn hn
  constructor
  · refine sq_le h.1 ?_
    have := h.2.1
    rw [Int.mul_assoc] at this
    omega
  · refine h.2.2 _ (by omega) ?_
    rw [Int.mul_assoc, show 2 * n * (2 * n) = 4 * (n * n) by grind]
    omega
theorem wd_unique {n m m' : Int} (h : Wd n m) (h' : Wd n m') : m = m' := by
  have a := h.2.2 m' h'.1 h'.2.1
  have b := h'.2.2 m h.1 h.2.1
  omega
theorem wd_add {n k m l M : Int} (_hn : 0 ≤ n) (hk : 0 ≤ k) (h1 : Wd n m) (h2 : Wd k l) (h : Wd (n + k) M) : M ≤ m + l := by
  have a1 := h1.2.1
  have a2 := h2.2.1
  refine h.2.2 _ (by have := h1.1; have := h2.1; omega) ?_
  have c : 2 * (n * k) ≤ m * l := by
    refine sq_le (Int.mul_nonneg h1.1 h2.1) ?_
    have h3 : 2 * n * n * (2 * k * k) ≤ m * m * (l * l) := Int.mul_le_mul a1 a2 (by rw [Int.mul_assoc]; have := Int.mul_nonneg hk hk; omega) (sq_nonneg m)
    have e1 : 2 * (n * k) * (2 * (n * k)) = 2 * n * n * (2 * k * k) := by grind
    have e2 : m * l * (m * l) = m * m * (l * l) := by grind
    rw [e1, e2]
    exact h3
  have e1 : 2 * (n + k) * (n + k) = 2 * n * n + 2 * k * k + 2 * (2 * (n * k)) := by grind
  have e2 : (m + l) * (m + l) = m * m + l * l + 2 * (m * l) := by grind
  rw [e1, e2]
  omega
/-- What the disk of n has. -/
def In (n m : Int) (x : Pt) : Prop := Keeps (-n) n (-n) n (-m) m (-m) m x
def diskL (n m : Int) : List Pt := octL (-n) n (-n) n (-m) m (-m) m
theorem disk_bd {n m : Int} (hn : 0 ≤ n) (h1 : n ≤ m) (h2 : m ≤ 2 * n) : Bd (-n) n (-n) n (-m) m (-m) m :=
  ⟨⟨-n, 0, by omega⟩, ⟨n, 0, by omega⟩, ⟨0, -n, by omega⟩, ⟨0, n, by omega⟩, ⟨-n, n - m, by omega⟩, ⟨n, m - n, by omega⟩, ⟨-n, m - n, by omega⟩, ⟨n, n - m, by omega⟩⟩
theorem keeps_af {a b c d s t i j : Int} {q : List Pt} (hq : Pg q) (h : ∀ y, y ∈ q → Keeps a b c d s t i j y) {x : Pt} (hx : Hs q x) : Keeps a b c d s t i j x := by
  have each : ∀ u v k : Int, (∀ y, y ∈ q → 0 ≤ af u v k y) → 0 ≤ af u v k x := fun u v k g => by
    obtain ⟨l, hl, e⟩ := hs_least hq hx u v k
    have := g _ (at_mem hl)
    omega
  have e1 := each 1 0 (-a) (fun y hy => by have := (h y hy).1; unfold af; omega)
  have e2 := each (-1) 0 b (fun y hy => by have := (h y hy).1; unfold af; omega)
  have e3 := each 0 1 (-c) (fun y hy => by have := (h y hy).2.1; unfold af; omega)
  have e4 := each 0 (-1) d (fun y hy => by have := (h y hy).2.1; unfold af; omega)
  have e5 := each 1 1 (-s) (fun y hy => by have := (h y hy).2.2.1; unfold af; omega)
  have e6 := each (-1) (-1) t (fun y hy => by have := (h y hy).2.2.1; unfold af; omega)
  have e7 := each 1 (-1) (-i) (fun y hy => by have := (h y hy).2.2.2; unfold af; omega)
  have e8 := each (-1) 1 j (fun y hy => by have := (h y hy).2.2.2; unfold af; omega)
  unfold af at e1 e2 e3 e4 e5 e6 e7 e8
  refine ⟨⟨?_, ?_⟩, ⟨?_, ?_⟩, ⟨?_, ?_⟩, ?_, ?_⟩ <;> omega
theorem disk_has {n m : Int} (hn : 0 ≤ n) (h1 : n ≤ m) (h2 : m ≤ 2 * n) {q : List Pt} (hq : IsHull (diskL n m) q) (x : Pt) : Hs q x ↔ In n m x := by
  have B := disk_bd hn h1 h2
  constructor
  · exact fun h => keeps_af hq.1 (fun y hy => oct_keeps B y (hq.2.1 y hy)) h
  · exact fun h => hs_of_least _ hq.1 hq.2.2 (fun u v k => oct_least h u v k)
theorem in_near {n m : Int} (hn : 0 ≤ n) (h : Wd n m) {x : Pt} (hx : x.1 * x.1 + x.2 * x.2 ≤ n * n) : In n m x := by
  have a1 := sq_nonneg x.1
  have a2 := sq_nonneg x.2
  have m2 := h.2.1
  rw [Int.mul_assoc] at m2
  have p1 : (x.1 + x.2) * (x.1 + x.2) + (x.1 - x.2) * (x.1 - x.2) = 2 * (x.1 * x.1 + x.2 * x.2) := by grind
  have q1 := sq_nonneg (x.1 + x.2)
  have q2 := sq_nonneg (x.1 - x.2)
  have both : ∀ {a b : Int}, 0 ≤ b → a * a ≤ b * b → -b ≤ a ∧ a ≤ b := fun {a b} hb hab => by
    have u := sq_le hb hab
    have v := sq_le (a := -a) hb (by rw [Int.neg_mul_neg]; exact hab)
    omega
  exact ⟨both hn (by omega), both hn (by omega), both h.1 (by omega), both h.1 (by omega)⟩
theorem in_far {n m : Int} {x : Pt} (h : In n m x) : -n ≤ x.1 ∧ x.1 ≤ n ∧ -n ≤ x.2 ∧ x.2 ≤ n := ⟨h.1.1, h.1.2, h.2.1.1, h.2.1.2⟩
theorem split_add {e a b : Int} (h0 : 0 ≤ e) (ha : 0 ≤ a) (hb : 0 ≤ b) (h : e ≤ a + b) : ∃ c d, e = c + d ∧ 0 ≤ c ∧ c ≤ a ∧ 0 ≤ d ∧ d ≤ b := by
  rcases Int.lt_or_le a e with g | g
  · exact ⟨a, e - a, by omega⟩
  · exact ⟨e, 0, by omega⟩
/-- The corners of the disk of a sum are sums of what both disks have. -/
theorem disk_split {n k m l M : Int} (hn : 0 ≤ n) (hk : 0 ≤ k) (h1 : Wd n m) (h2 : Wd k l) (h : Wd (n + k) M) {y : Pt} (hy : y ∈ diskL (n + k) M) : ∃ a b, In n m a ∧ In k l b ∧ plus a b = y := by
  have hM := wd_add hn hk h1 h2 h
  have r1 := wd_range hn h1
  have r2 := wd_range hk h2
  have r := wd_range (show 0 ≤ n + k by omega) h
  obtain ⟨c, d, e, c0, c1, d0, d1⟩ := split_add (e := M - (n + k)) (a := m - n) (b := l - k) (by omega) (by omega) (by omega) (by omega)
  have mk : ∀ a1 a2 b1 b2 : Int, In n m (a1, a2) → In k l (b1, b2) → (a1 + b1, a2 + b2) = y → ∃ a b, In n m a ∧ In k l b ∧ plus a b = y := fun a1 a2 b1 b2 u v w => ⟨(a1, a2), (b1, b2), u, v, w⟩
  unfold diskL octL at hy
  simp only [List.mem_cons, List.mem_nil_iff, or_false] at hy
  unfold In Keeps at mk
  simp only at mk
  rcases hy with rfl | rfl | rfl | rfl | rfl | rfl | rfl | rfl
  · exact mk n (-c) k (-d) (by omega) (by omega) (Prod.ext (by simp) (by simp; omega))
  · exact mk n c k d (by omega) (by omega) (Prod.ext (by simp) (by simp; omega))
  · exact mk c n d k (by omega) (by omega) (Prod.ext (by simp; omega) (by simp))
  · exact mk (-c) n (-d) k (by omega) (by omega) (Prod.ext (by simp; omega) (by simp))
  · exact mk (-n) c (-k) d (by omega) (by omega) (Prod.ext (by simp; omega) (by simp; omega))
  · exact mk (-n) (-c) (-k) (-d) (by omega) (by omega) (Prod.ext (by simp; omega) (by simp; omega))
  · exact mk (-c) (-n) (-d) (-k) (by omega) (by omega) (Prod.ext (by simp; omega) (by simp; omega))
  · exact mk c (-n) d (-k) (by omega) (by omega) (Prod.ext (by simp; omega) (by simp; omega))
/-- The sum of two disks has the disk of the sum. -/
theorem disk_sum {n k m l M : Int} (hn : 0 ≤ n) (hk : 0 ≤ k) (h1 : Wd n m) (h2 : Wd k l) (h : Wd (n + k) M) {p q s d : List Pt} (hp : IsHull (diskL n m) p) (hq : IsHull (diskL k l) q) (hs : IsHull (sums p q) s) (hd : IsHull (diskL (n + k) M) d) {y : Pt} (hy : y ∈ d) : Hs s y := by
  have r1 := wd_range hn h1
  have r2 := wd_range hk h2
  obtain ⟨a, b, ha, hb, rfl⟩ := disk_split hn hk h1 h2 h (hd.2.1 y hy)
  exact sum_has hp.1 hq.1 hs ((disk_has hn r1.1 r1.2 hp a).2 ha) ((disk_has hk r2.1 r2.2 hq b).2 hb)
end Mk
end Go.Proofs.Yteglefjnbkocgaa
