/-
  The law HullMatchesReference, under what package hull owes.
-/
import Derived.Test.YthcfbfgfpophmaaHullRC
import Derived.Test.YthcfbfgfpophmaaHullSm
namespace Go.Proofs.Ythcfbfgfpophmaa
open Go.RowKit
namespace Hl

def HullIs (l : List Pt) (k : Int) (r : List Pt) : Prop := (4000 < l.length ∧ k = 2 ∧ r = []) ∨ (l.length ≤ 4000 ∧ (l = [] ∨ ¬ Plcs l) ∧ k = 1 ∧ r = []) ∨ (l.length ≤ 4000 ∧ ¬ (l = [] ∨ ¬ Plcs l) ∧ ∃ q, IsHull l q ∧ ((q.length ≤ 64 ∧ k = 0 ∧ r = q) ∨ (64 < q.length ∧ k = 2 ∧ r = [])))
theorem HullIs.one {l r r' : List Pt} {k k' : Int} (h : HullIs l k r) (h' : HullIs l k' r') : k = k' ∧ r = r' := by
  rcases h with ⟨a, rfl, rfl⟩ | ⟨a, b, rfl, rfl⟩ | ⟨a, b, q, hq, h⟩ <;> rcases h' with ⟨a', rfl, rfl⟩ | ⟨a', b', rfl, rfl⟩ | ⟨a', b', q', hq', h'⟩ <;> first | exact ⟨rfl, rfl⟩ | (exfalso; omega) | exact absurd b b' | exact absurd b' b | skip
  have e := hull_unique hq hq'
  subst e
  rcases h with ⟨c, rfl, rfl⟩ | ⟨c, rfl, rfl⟩ <;> rcases h' with ⟨c', rfl, rfl⟩ | ⟨c', rfl, rfl⟩ <;> first | exact ⟨rfl, rfl⟩ | (exfalso; omega)
def EmptyIs (l : List Pt) (k : Int) (w : World) (e : Ending) (w' : World) : Prop := ∃ v r, HullIs l k r ∧ e = .returned (.tuple #[v, .int .i64 k]) ∧ Sl w' v r ∧ Grew w w'
def HullR (l : List Pt) (w : World) (e : Ending) (w' : World) : Prop := ∃ v k r, HullIs l k r ∧ e = .returned (.tuple #[v, .int .i64 k]) ∧ Sl w' v r ∧ Grew w w'
theorem HullR.of {l : List Pt} {f : FuncId} {v : Value} {w : World} (hl : l.length ≤ 9223372036854775807) (h1 : 4000 < l.length → Calls Try.prog f #[v] w (Empty 2 w)) (h2 : l.length ≤ 4000 → (l = [] ∨ ¬ Plcs l) → Calls Try.prog f #[v] w (Empty 1 w)) (h3 : l.length ≤ 4000 → l ≠ [] → Plcs l → Calls Try.prog f #[v] w (HullSays l w)) : Calls Try.prog f #[v] w (HullR l w) := by
  by_cases a : 4000 < l.length
  · refine (h1 a).mono ?_
    rintro e w' ⟨v', rfl, s, g⟩
    exact ⟨v', 2, [], Or.inl ⟨a, rfl, rfl⟩, rfl, s, g⟩
  · by_cases b : l = [] ∨ ¬ Plcs l
    · refine (h2 (by omega) b).mono ?_
      rintro e w' ⟨v', rfl, s, g⟩
      exact ⟨v', 1, [], Or.inr (Or.inl ⟨by omega, b, rfl, rfl⟩), rfl, s, g⟩
    · have hp : Plcs l := by
        by_cases hp : Plcs l
        · exact hp
        · exact absurd (Or.inr hp) b
      refine (h3 (by omega) (fun e => b (Or.inl e)) hp).mono ?_
      rintro e w' ⟨q, hq, ⟨c, v', rfl, s, g⟩ | ⟨c, v', rfl, s, g⟩⟩
      · exact ⟨v', 0, q, Or.inr (Or.inr ⟨by omega, b, q, hq, Or.inl ⟨c, rfl, rfl⟩⟩), rfl, s, g⟩
      · exact ⟨v', 2, [], Or.inr (Or.inr ⟨by omega, b, q, hq, Or.inr ⟨c, rfl, rfl⟩⟩), rfl, s, g⟩
theorem k_hull (K : Code) (l : List Pt) (v : Value) (w : World) (hs : Sl w v l) (hl : l.length ≤ 9223372036854775807) : Calls Try.prog 12 #[v] w (HullR l w) := HullR.of hl (K.hull_big l v w hs hl) (K.hull_bad l v w hs) (K.hull_ok l v w hs)
theorem r_hull (l : List Pt) (v : Value) (w : World) (hs : Sl w v l) (hl : l.length ≤ 9223372036854775807) : Calls Try.prog 13 #[v] w (HullR l w) := HullR.of hl (r_hull_big l v w hs hl) (r_hull_bad l v w hs) (r_hull_ok l v w hs)
def HasIs (p : List Pt) (x : Pt) (r : Bool) (k : Int) : Prop := (Vl p ∧ Plc x ∧ k = 0 ∧ (r = true ↔ Hs p x)) ∨ (¬ (Vl p ∧ Plc x) ∧ k = 1 ∧ r = false)
theorem HasIs.one {p : List Pt} {x : Pt} {r r' : Bool} {k k' : Int} (h : HasIs p x r k) (h' : HasIs p x r' k') : r = r' ∧ k = k' := by
  rcases h with ⟨a, b, rfl, c⟩ | ⟨a, rfl, rfl⟩ <;> rcases h' with ⟨a', b', rfl, c'⟩ | ⟨a', rfl, rfl⟩
  · exact ⟨Bool.eq_iff_iff.2 (c.trans c'.symm), rfl⟩
  · exact absurd ⟨a, b⟩ a'
  · exact absurd ⟨a', b'⟩ a
  · exact ⟨rfl, rfl⟩
def HasR (p : List Pt) (x : Pt) (w : World) (e : Ending) (w' : World) : Prop := ∃ r k, HasIs p x r k ∧ e = .returned (.tuple #[.bool r, .int .i64 k]) ∧ Grew w w'
theorem k_has (K : Code) (p : List Pt) (x : Pt) (v : Value) (w : World) (hs : Sl w v p) (hl : p.length ≤ 9223372036854775807) : Calls Try.prog 17 #[v, .agg #[.int .i64 x.1, .int .i64 x.2]] w (HasR p x w) := by
  by_cases h : Vl p ∧ Plc x
  · refine (K.has_ok p x v w hs h.1 h.2).mono ?_
    rintro e w' ⟨r, rfl, hr, g⟩
    exact ⟨r, 0, Or.inl ⟨h.1, h.2, rfl, hr⟩, rfl, g⟩
  · refine (K.has_bad p x v w hs hl h).mono ?_
    rintro e w' ⟨rfl, g⟩
    exact ⟨false, 1, Or.inr ⟨h, rfl, rfl⟩, rfl, g⟩
theorem r_has (p : List Pt) (x : Pt) (v : Value) (w : World) (hs : Sl w v p) (hl : p.length ≤ 9223372036854775807) : Calls Try.prog 18 #[v, .agg #[.int .i64 x.1, .int .i64 x.2]] w (HasR p x w) := by
  by_cases h : Vl p ∧ Plc x
  · refine (r_has_ok p x v w hs h.1 h.2).mono ?_
    rintro e w' ⟨r, rfl, hr, g⟩
    exact ⟨r, 0, Or.inl ⟨h.1, h.2, rfl, hr⟩, rfl, g⟩
  · refine (r_has_bad p x v w hs hl h).mono ?_
    rintro e w' ⟨rfl, g⟩
    exact ⟨false, 1, Or.inr ⟨h, rfl, rfl⟩, rfl, g⟩
def BoxIs (p : List Pt) (lo hi : Pt) (k : Int) : Prop := (Vl p ∧ IsBox p lo hi ∧ k = 0) ∨ (¬ Vl p ∧ lo = (0, 0) ∧ hi = (0, 0) ∧ k = 1)
theorem BoxIs.one {p : List Pt} {lo hi lo' hi' : Pt} {k k' : Int} (h : BoxIs p lo hi k) (h' : BoxIs p lo' hi' k') : lo = lo' ∧ hi = hi' ∧ k = k' := by
  rcases h with ⟨a, b, rfl⟩ | ⟨a, rfl, rfl, rfl⟩ <;> rcases h' with ⟨a', b', rfl⟩ | ⟨a', rfl, rfl, rfl⟩
  · obtain ⟨p1, p2, p3, p4⟩ := b
    obtain ⟨q1, q2, q3, q4⟩ := b'
    have e1 := p1.one q1
    have e2 := p2.one q2
    have e3 := p3.one q3
    have e4 := p4.one q4
    exact ⟨Prod.ext e1 e3, Prod.ext (by omega) (by omega), rfl⟩
  · exact absurd a a'
  · exact absurd a' a
  · exact ⟨rfl, rfl, rfl⟩
def BoxR (p : List Pt) (w : World) (e : Ending) (w' : World) : Prop := ∃ lo hi k, BoxIs p lo hi k ∧ e = .returned (.tuple #[.agg #[.int .i64 lo.1, .int .i64 lo.2], .agg #[.int .i64 hi.1, .int .i64 hi.2], .int .i64 k]) ∧ Grew w w'
def EightIs (p q : List Pt) (k : Int) : Prop := (Vl p ∧ IsOct p q ∧ k = 0) ∨ (¬ Vl p ∧ q = [] ∧ k = 1)
theorem oct_one {p q q' : List Pt} (h : IsOct p q) (h' : IsOct p q') : q = q' := by
  obtain ⟨a, b, c, d, s, t, i, j, h1, h2, h3, h4, h5, h6, h7, h8, hq⟩ := h
  obtain ⟨a', b', c', d', s', t', i', j', k1, k2, k3, k4, k5, k6, k7, k8, hr⟩ := h'
  obtain rfl := k1.one h1
  obtain rfl : b' = b := by have := k2.one h2; omega
  obtain rfl := k3.one h3
  obtain rfl : d' = d := by have := k4.one h4; omega
  obtain rfl := k5.one h5
  obtain rfl : t' = t := by have := k6.one h6; omega
  obtain rfl := k7.one h7
  obtain rfl : j' = j := by have := k8.one h8; omega
  exact hull_unique hq hr
theorem EightIs.one {p q q' : List Pt} {k k' : Int} (h : EightIs p q k) (h' : EightIs p q' k') : q = q' ∧ k = k' := by
  rcases h with ⟨a, b, rfl⟩ | ⟨a, rfl, rfl⟩ <;> rcases h' with ⟨a', b', rfl⟩ | ⟨a', rfl, rfl⟩
  · exact ⟨oct_one b b', rfl⟩
  · exact absurd a a'
  · exact absurd a' a
  · exact ⟨rfl, rfl⟩
def EightR (p : List Pt) (w : World) (e : Ending) (w' : World) : Prop := ∃ v q k, EightIs p q k ∧ e = .returned (.tuple #[v, .int .i64 k]) ∧ Sl w' v q ∧ q.length ≤ 64 ∧ Grew w w'
def AreaIs (p : List Pt) (n k : Int) : Prop := (Vl p ∧ n = area p.length (at' p) ∧ k = 0) ∨ (¬ Vl p ∧ n = 0 ∧ k = 1)
theorem AreaIs.one {p : List Pt} {n n' k k' : Int} (h : AreaIs p n k) (h' : AreaIs p n' k') : n = n' ∧ k = k' := by
  rcases h with ⟨a, rfl, rfl⟩ | ⟨a, rfl, rfl⟩ <;> rcases h' with ⟨a', rfl, rfl⟩ | ⟨a', rfl, rfl⟩
  · exact ⟨rfl, rfl⟩
  · exact absurd a a'
  · exact absurd a' a
  · exact ⟨rfl, rfl⟩
def AreaR (p : List Pt) (w : World) (e : Ending) (w' : World) : Prop := ∃ n k, AreaIs p n k ∧ e = .returned (.tuple #[.int .i64 n, .int .i64 k]) ∧ Grew w w'

theorem k_box (K : Code) (p : List Pt) (v : Value) (w : World) (hs : Sl w v p) (hl : p.length ≤ 9223372036854775807) : Calls Try.prog 19 #[v] w (BoxR p w) := by
  by_cases h : Vl p
  · refine (K.box_ok p v w hs h).mono ?_
    rintro e w' ⟨lo, hi, hb, rfl, g⟩
    exact ⟨lo, hi, 0, Or.inl ⟨h, hb, rfl⟩, rfl, g⟩
  · refine (K.box_bad p v w hs hl h).mono ?_
    rintro e w' ⟨rfl, g⟩
    exact ⟨(0, 0), (0, 0), 1, Or.inr ⟨h, rfl, rfl, rfl⟩, rfl, g⟩
theorem k_eight (K : Code) (p : List Pt) (v : Value) (w : World) (hs : Sl w v p) (hl : p.length ≤ 9223372036854775807) : Calls Try.prog 21 #[v] w (EightR p w) := by
  by_cases h : Vl p
  · refine (K.eight_ok p v w hs h).mono ?_
    rintro e w' ⟨q, v', hb, rfl, s, g⟩
    exact ⟨v', q, 0, Or.inl ⟨h, hb, rfl⟩, rfl, s, by have := (oct_facts h hb).2.1; omega, g⟩
  · refine (K.eight_bad p v w hs hl h).mono ?_
    rintro e w' ⟨v', rfl, s, g⟩
    exact ⟨v', [], 1, Or.inr ⟨h, rfl, rfl⟩, rfl, s, by decide, g⟩
theorem k_area (K : Code) (p : List Pt) (v : Value) (w : World) (hs : Sl w v p) (hl : p.length ≤ 9223372036854775807) : Calls Try.prog 23 #[v] w (AreaR p w) := by
  by_cases h : Vl p
  · refine (K.area_ok p v w hs h).mono ?_
    rintro e w' ⟨rfl, g⟩
    exact ⟨_, 0, Or.inl ⟨h, rfl, rfl⟩, rfl, g⟩
  · refine (K.area_bad p v w hs hl h).mono ?_
    rintro e w' ⟨rfl, g⟩
    exact ⟨0, 1, Or.inr ⟨h, rfl, rfl⟩, rfl, g⟩

theorem r_box (p : List Pt) (v : Value) (w : World) (hs : Sl w v p) (hl : p.length ≤ 9223372036854775807) : Calls Try.prog 20 #[v] w (BoxR p w) := by
  by_cases h : Vl p
  · refine (r_box_ok p v w hs h).mono ?_
    rintro e w' ⟨lo, hi, hb, rfl, g⟩
    exact ⟨lo, hi, 0, Or.inl ⟨h, hb, rfl⟩, rfl, g⟩
  · refine (r_box_bad p v w hs hl h).mono ?_
    rintro e w' ⟨rfl, g⟩
    exact ⟨(0, 0), (0, 0), 1, Or.inr ⟨h, rfl, rfl, rfl⟩, rfl, g⟩
theorem r_eight (p : List Pt) (v : Value) (w : World) (hs : Sl w v p) (hl : p.length ≤ 9223372036854775807) : Calls Try.prog 22 #[v] w (EightR p w) := by
  by_cases h : Vl p
  · refine (r_eight_ok p v w hs h).mono ?_
    rintro e w' ⟨q, v', hb, rfl, s, g⟩
    exact ⟨v', q, 0, Or.inl ⟨h, hb, rfl⟩, rfl, s, by have := (oct_facts h hb).2.1; omega, g⟩
  · refine (r_eight_bad p v w hs hl h).mono ?_
    rintro e w' ⟨v', rfl, s, g⟩
    exact ⟨v', [], 1, Or.inr ⟨h, rfl, rfl⟩, rfl, s, by decide, g⟩
theorem r_area (p : List Pt) (v : Value) (w : World) (hs : Sl w v p) (hl : p.length ≤ 9223372036854775807) : Calls Try.prog 24 #[v] w (AreaR p w) := by
  by_cases h : Vl p
  · refine (r_area_ok p v w hs h).mono ?_
    rintro e w' ⟨rfl, g⟩
    exact ⟨_, 0, Or.inl ⟨h, rfl, rfl⟩, rfl, g⟩
  · refine (r_area_bad p v w hs hl h).mono ?_
    rintro e w' ⟨rfl, g⟩
    exact ⟨0, 1, Or.inr ⟨h, rfl, rfl⟩, rfl, g⟩

theorem hull_few {l r : List Pt} {k : Int} (h : HullIs l k r) : r.length ≤ 9223372036854775807 := by
  rcases h with ⟨_, _, rfl⟩ | ⟨_, _, _, rfl⟩ | ⟨_, _, q, _, ⟨a, _, rfl⟩ | ⟨_, _, rfl⟩⟩
  · decide
  · decide
  · omega
  · decide
set_option maxRecDepth 100000 in
set_option maxHeartbeats 4000000 in
theorem match_few (K : Code) (l p : List Pt) (x : Pt) (v v' : Value) (w : World) (HL : Hid (Sl w v l)) (HP : Hid (Sl w v' p)) (LL : Hid (l.length ≤ 9223372036854775807)) (PB : Hid (p.length ≤ 9223372036854775807)) (F1 : Hid (l.length ≤ 80)) (F2 : Hid (p.length ≤ 80)) : Calls Try.prog 3 #[v, v', .agg #[.int .i64 x.1, .int .i64 x.2]] w fun e w' => e = .returned (.bool true) ∧ Grew w w' := by
  go_enter Try.func3, Try.ntmps3
  go_wp2_with fail
  refine (head_true K _).mono ?_
  rintro e w1 ⟨rfl, g1⟩
  obtain ⟨c1, f1, z1⟩ := laid g1
  try simp at z1
  have G1 : Grew w w1 := Grew.trans (by (repeat' (first | (with_reducible exact Grew.refl _) | (with_reducible assumption) | (with_reducible refine Grew.alloc ?_ _ _) | (with_reducible refine Grew.drew ?_) | (with_reducible refine Grew.drewN ?_ _) | (with_reducible refine Grew.setCell ?_ ?_ _) | go_size))) g1
  clear g1
  have z1_0 : w.heap.size < w1.heap.size := by omega
  have z1_0a : w.heap.size < w1.heap.size + 1 := by omega
  have z1_0b : w.heap.size < w1.heap.size + 1 + 1 := by omega
  go_wp2_with fail
  refine (few_yes l v _ (HL.out.grown (by (repeat' (first | (with_reducible exact Grew.refl _) | (with_reducible assumption) | (with_reducible refine Grew.alloc ?_ _ _) | (with_reducible refine Grew.drew ?_) | (with_reducible refine Grew.drewN ?_ _) | (with_reducible refine Grew.setCell ?_ ?_ _) | go_size)))) F1.out).mono ?_
  rintro e w2 ⟨rfl, g2⟩
  obtain ⟨c2, f2, z2⟩ := laid g2
  try simp at z2
  have G2 : Grew w w2 := Grew.trans (by (repeat' (first | (with_reducible exact Grew.refl _) | (with_reducible assumption) | (with_reducible refine Grew.alloc ?_ _ _) | (with_reducible refine Grew.drew ?_) | (with_reducible refine Grew.drewN ?_ _) | (with_reducible refine Grew.setCell ?_ ?_ _) | go_size))) g2
  clear g2
  have z2_0 : w.heap.size < w2.heap.size := by omega
  have z2_0a : w.heap.size < w2.heap.size + 1 := by omega
  have z2_0b : w.heap.size < w2.heap.size + 1 + 1 := by omega
  go_wp2_with fail
  refine (few_yes p v' _ (HP.out.grown (by (repeat' (first | (with_reducible exact Grew.refl _) | (with_reducible assumption) | (with_reducible refine Grew.alloc ?_ _ _) | (with_reducible refine Grew.drew ?_) | (with_reducible refine Grew.drewN ?_ _) | (with_reducible refine Grew.setCell ?_ ?_ _) | go_size)))) F2.out).mono ?_
  rintro e w3 ⟨rfl, g3⟩
  obtain ⟨c3, f3, z3⟩ := laid g3
  try simp at z3
  have G3 : Grew w w3 := Grew.trans (by (repeat' (first | (with_reducible exact Grew.refl _) | (with_reducible assumption) | (with_reducible refine Grew.alloc ?_ _ _) | (with_reducible refine Grew.drew ?_) | (with_reducible refine Grew.drewN ?_ _) | (with_reducible refine Grew.setCell ?_ ?_ _) | go_size))) g3
  clear g3
  have z3_0 : w.heap.size < w3.heap.size := by omega
  have z3_0a : w.heap.size < w3.heap.size + 1 := by omega
  have z3_0b : w.heap.size < w3.heap.size + 1 + 1 := by omega
  go_wp2_with fail
  refine (k_hull K l v _ (HL.out.grown (by (repeat' (first | (with_reducible exact Grew.refl _) | (with_reducible assumption) | (with_reducible refine Grew.alloc ?_ _ _) | (with_reducible refine Grew.drew ?_) | (with_reducible refine Grew.drewN ?_ _) | (with_reducible refine Grew.setCell ?_ ?_ _) | go_size)))) LL.out).mono ?_
  rintro e w4 ⟨v1, k1, r1, i1, rfl, s_4, g4⟩
  obtain ⟨c4, f4, z4⟩ := laid g4
  try simp at z4
  have G4 : Grew w w4 := Grew.trans (by (repeat' (first | (with_reducible exact Grew.refl _) | (with_reducible assumption) | (with_reducible refine Grew.alloc ?_ _ _) | (with_reducible refine Grew.drew ?_) | (with_reducible refine Grew.drewN ?_ _) | (with_reducible refine Grew.setCell ?_ ?_ _) | go_size))) g4
  clear g4
  have z4_0 : w.heap.size < w4.heap.size := by omega
  have z4_0a : w.heap.size < w4.heap.size + 1 := by omega
  have z4_0b : w.heap.size < w4.heap.size + 1 + 1 := by omega
  go_wp2_with fail
  refine (r_hull l v _ (HL.out.grown (by (repeat' (first | (with_reducible exact Grew.refl _) | (with_reducible assumption) | (with_reducible refine Grew.alloc ?_ _ _) | (with_reducible refine Grew.drew ?_) | (with_reducible refine Grew.drewN ?_ _) | (with_reducible refine Grew.setCell ?_ ?_ _) | go_size)))) LL.out).mono ?_
  rintro e w5 ⟨v2, k2, r2, i2, rfl, t_5, g5⟩
  obtain ⟨rfl, rfl⟩ := i1.one i2
  have I1 := Lib.hid i1
  clear i1 i2
  have s_5 := s_4.grown (Grew.trans (a := w4) (by (repeat' (first | (with_reducible exact Grew.refl _) | (with_reducible assumption) | (with_reducible refine Grew.alloc ?_ _ _) | (with_reducible refine Grew.drew ?_) | (with_reducible refine Grew.drewN ?_ _) | (with_reducible refine Grew.setCell ?_ ?_ _) | go_size))) g5)
  obtain ⟨c5, f5, z5⟩ := laid g5
  try simp at z5
  have G5 : Grew w w5 := Grew.trans (by (repeat' (first | (with_reducible exact Grew.refl _) | (with_reducible assumption) | (with_reducible refine Grew.alloc ?_ _ _) | (with_reducible refine Grew.drew ?_) | (with_reducible refine Grew.drewN ?_ _) | (with_reducible refine Grew.setCell ?_ ?_ _) | go_size))) g5
  clear g5
  have z5_0 : w.heap.size < w5.heap.size := by omega
  have z5_0a : w.heap.size < w5.heap.size + 1 := by omega
  have z5_0b : w.heap.size < w5.heap.size + 1 + 1 := by omega
  go_wp2_with fail
  refine ((same_any r1 r1 _ _ _ (s_5.grown (by (repeat' (first | (with_reducible exact Grew.refl _) | (with_reducible assumption) | (with_reducible refine Grew.alloc ?_ _ _) | (with_reducible refine Grew.drew ?_) | (with_reducible refine Grew.drewN ?_ _) | (with_reducible refine Grew.setCell ?_ ?_ _) | go_size)))) (t_5.grown (by (repeat' (first | (with_reducible exact Grew.refl _) | (with_reducible assumption) | (with_reducible refine Grew.alloc ?_ _ _) | (with_reducible refine Grew.drew ?_) | (with_reducible refine Grew.drewN ?_ _) | (with_reducible refine Grew.setCell ?_ ?_ _) | go_size)))) (hull_few I1.out)).mono fun _ _ t => t.to rfl).mono ?_
  rintro e w6 ⟨rfl, g6⟩
  have s_6 := s_5.grown (Grew.trans (a := w5) (by (repeat' (first | (with_reducible exact Grew.refl _) | (with_reducible assumption) | (with_reducible refine Grew.alloc ?_ _ _) | (with_reducible refine Grew.drew ?_) | (with_reducible refine Grew.drewN ?_ _) | (with_reducible refine Grew.setCell ?_ ?_ _) | go_size))) g6)
  have t_6 := t_5.grown (Grew.trans (a := w5) (by (repeat' (first | (with_reducible exact Grew.refl _) | (with_reducible assumption) | (with_reducible refine Grew.alloc ?_ _ _) | (with_reducible refine Grew.drew ?_) | (with_reducible refine Grew.drewN ?_ _) | (with_reducible refine Grew.setCell ?_ ?_ _) | go_size))) g6)
  obtain ⟨c6, f6, z6⟩ := laid g6
  try simp at z6
  have G6 : Grew w w6 := Grew.trans (by (repeat' (first | (with_reducible exact Grew.refl _) | (with_reducible assumption) | (with_reducible refine Grew.alloc ?_ _ _) | (with_reducible refine Grew.drew ?_) | (with_reducible refine Grew.drewN ?_ _) | (with_reducible refine Grew.setCell ?_ ?_ _) | go_size))) g6
  clear g6
  have z6_0 : w.heap.size < w6.heap.size := by omega
  have z6_0a : w.heap.size < w6.heap.size + 1 := by omega
  have z6_0b : w.heap.size < w6.heap.size + 1 + 1 := by omega
  go_wp2_with fail
  refine (K.valid p v' _ (HP.out.grown (by (repeat' (first | (with_reducible exact Grew.refl _) | (with_reducible assumption) | (with_reducible refine Grew.alloc ?_ _ _) | (with_reducible refine Grew.drew ?_) | (with_reducible refine Grew.drewN ?_ _) | (with_reducible refine Grew.setCell ?_ ?_ _) | go_size)))) PB.out).mono ?_
  rintro e w7 ⟨b1, rfl, j1, g7⟩
  have J1 := Lib.hid j1
  clear j1
  obtain ⟨c7, f7, z7⟩ := laid g7
  try simp at z7
  have G7 : Grew w w7 := Grew.trans (by (repeat' (first | (with_reducible exact Grew.refl _) | (with_reducible assumption) | (with_reducible refine Grew.alloc ?_ _ _) | (with_reducible refine Grew.drew ?_) | (with_reducible refine Grew.drewN ?_ _) | (with_reducible refine Grew.setCell ?_ ?_ _) | go_size))) g7
  clear g7
  have z7_0 : w.heap.size < w7.heap.size := by omega
  have z7_0a : w.heap.size < w7.heap.size + 1 := by omega
  have z7_0b : w.heap.size < w7.heap.size + 1 + 1 := by omega
  go_wp2_with fail
  refine (rvalid_any p v' _ (HP.out.grown (by (repeat' (first | (with_reducible exact Grew.refl _) | (with_reducible assumption) | (with_reducible refine Grew.alloc ?_ _ _) | (with_reducible refine Grew.drew ?_) | (with_reducible refine Grew.drewN ?_ _) | (with_reducible refine Grew.setCell ?_ ?_ _) | go_size)))) PB.out).mono ?_
  rintro e w8 ⟨b2, rfl, j2, g8⟩
  obtain rfl : b1 = b2 := Bool.eq_iff_iff.2 (J1.out.trans j2.symm)
  clear j2 J1
  obtain ⟨c8, f8, z8⟩ := laid g8
  try simp at z8
  have G8 : Grew w w8 := Grew.trans (by (repeat' (first | (with_reducible exact Grew.refl _) | (with_reducible assumption) | (with_reducible refine Grew.alloc ?_ _ _) | (with_reducible refine Grew.drew ?_) | (with_reducible refine Grew.drewN ?_ _) | (with_reducible refine Grew.setCell ?_ ?_ _) | go_size))) g8
  clear g8
  have z8_0 : w.heap.size < w8.heap.size := by omega
  have z8_0a : w.heap.size < w8.heap.size + 1 := by omega
  have z8_0b : w.heap.size < w8.heap.size + 1 + 1 := by omega
  go_wp2_with fail
  refine (k_has K p x v' _ (HP.out.grown (by (repeat' (first | (with_reducible exact Grew.refl _) | (with_reducible assumption) | (with_reducible refine Grew.alloc ?_ _ _) | (with_reducible refine Grew.drew ?_) | (with_reducible refine Grew.drewN ?_ _) | (with_reducible refine Grew.setCell ?_ ?_ _) | go_size)))) PB.out).mono ?_
  rintro e w9 ⟨b3, k3, i3, rfl, g9⟩
  obtain ⟨c9, f9, z9⟩ := laid g9
  try simp at z9
  have G9 : Grew w w9 := Grew.trans (by (repeat' (first | (with_reducible exact Grew.refl _) | (with_reducible assumption) | (with_reducible refine Grew.alloc ?_ _ _) | (with_reducible refine Grew.drew ?_) | (with_reducible refine Grew.drewN ?_ _) | (with_reducible refine Grew.setCell ?_ ?_ _) | go_size))) g9
  clear g9
  have z9_0 : w.heap.size < w9.heap.size := by omega
  have z9_0a : w.heap.size < w9.heap.size + 1 := by omega
  have z9_0b : w.heap.size < w9.heap.size + 1 + 1 := by omega
  go_wp2_with fail
  refine (r_has p x v' _ (HP.out.grown (by (repeat' (first | (with_reducible exact Grew.refl _) | (with_reducible assumption) | (with_reducible refine Grew.alloc ?_ _ _) | (with_reducible refine Grew.drew ?_) | (with_reducible refine Grew.drewN ?_ _) | (with_reducible refine Grew.setCell ?_ ?_ _) | go_size)))) PB.out).mono ?_
  rintro e w10 ⟨b4, k4, i4, rfl, g10⟩
  obtain ⟨rfl, rfl⟩ := i3.one i4
  clear i3 i4
  obtain ⟨c10, f10, z10⟩ := laid g10
  try simp at z10
  have G10 : Grew w w10 := Grew.trans (by (repeat' (first | (with_reducible exact Grew.refl _) | (with_reducible assumption) | (with_reducible refine Grew.alloc ?_ _ _) | (with_reducible refine Grew.drew ?_) | (with_reducible refine Grew.drewN ?_ _) | (with_reducible refine Grew.setCell ?_ ?_ _) | go_size))) g10
  clear g10
  have z10_0 : w.heap.size < w10.heap.size := by omega
  have z10_0a : w.heap.size < w10.heap.size + 1 := by omega
  have z10_0b : w.heap.size < w10.heap.size + 1 + 1 := by omega
  go_wp2_with fail
  refine (k_box K p v' _ (HP.out.grown (by (repeat' (first | (with_reducible exact Grew.refl _) | (with_reducible assumption) | (with_reducible refine Grew.alloc ?_ _ _) | (with_reducible refine Grew.drew ?_) | (with_reducible refine Grew.drewN ?_ _) | (with_reducible refine Grew.setCell ?_ ?_ _) | go_size)))) PB.out).mono ?_
  rintro e w11 ⟨lo, hi, k5, i5, rfl, g11⟩
  obtain ⟨c11, f11, z11⟩ := laid g11
  try simp at z11
  have G11 : Grew w w11 := Grew.trans (by (repeat' (first | (with_reducible exact Grew.refl _) | (with_reducible assumption) | (with_reducible refine Grew.alloc ?_ _ _) | (with_reducible refine Grew.drew ?_) | (with_reducible refine Grew.drewN ?_ _) | (with_reducible refine Grew.setCell ?_ ?_ _) | go_size))) g11
  clear g11
  have z11_0 : w.heap.size < w11.heap.size := by omega
  have z11_0a : w.heap.size < w11.heap.size + 1 := by omega
  have z11_0b : w.heap.size < w11.heap.size + 1 + 1 := by omega
  go_wp2_with fail
  refine (r_box p v' _ (HP.out.grown (by (repeat' (first | (with_reducible exact Grew.refl _) | (with_reducible assumption) | (with_reducible refine Grew.alloc ?_ _ _) | (with_reducible refine Grew.drew ?_) | (with_reducible refine Grew.drewN ?_ _) | (with_reducible refine Grew.setCell ?_ ?_ _) | go_size)))) PB.out).mono ?_
  rintro e w12 ⟨lo', hi', k6, i6, rfl, g12⟩
  obtain ⟨rfl, rfl, rfl⟩ := i5.one i6
  clear i5 i6
  obtain ⟨c12, f12, z12⟩ := laid g12
  try simp at z12
  have G12 : Grew w w12 := Grew.trans (by (repeat' (first | (with_reducible exact Grew.refl _) | (with_reducible assumption) | (with_reducible refine Grew.alloc ?_ _ _) | (with_reducible refine Grew.drew ?_) | (with_reducible refine Grew.drewN ?_ _) | (with_reducible refine Grew.setCell ?_ ?_ _) | go_size))) g12
  clear g12
  have z12_0 : w.heap.size < w12.heap.size := by omega
  have z12_0a : w.heap.size < w12.heap.size + 1 := by omega
  have z12_0b : w.heap.size < w12.heap.size + 1 + 1 := by omega
  have z12_1 : w11.heap.size < w12.heap.size := by omega
  have z12_1a : w11.heap.size < w12.heap.size + 1 := by omega
  have z12_1b : w11.heap.size < w12.heap.size + 1 + 1 := by omega
  have z12_2 : w11.heap.size + 1 < w12.heap.size := by omega
  have z12_2a : w11.heap.size + 1 < w12.heap.size + 1 := by omega
  have z12_2b : w11.heap.size + 1 < w12.heap.size + 1 + 1 := by omega
  go_wp2_with fail
  refine (k_eight K p v' _ (HP.out.grown (by (repeat' (first | (with_reducible exact Grew.refl _) | (with_reducible assumption) | (with_reducible refine Grew.alloc ?_ _ _) | (with_reducible refine Grew.drew ?_) | (with_reducible refine Grew.drewN ?_ _) | (with_reducible refine Grew.setCell ?_ ?_ _) | go_size)))) PB.out).mono ?_
  rintro e w13 ⟨v7, q7, k7, i7, rfl, e_13, _, g13⟩
  obtain ⟨c13, f13, z13⟩ := laid g13
  try simp at z13
  have G13 : Grew w w13 := Grew.trans (by (repeat' (first | (with_reducible exact Grew.refl _) | (with_reducible assumption) | (with_reducible refine Grew.alloc ?_ _ _) | (with_reducible refine Grew.drew ?_) | (with_reducible refine Grew.drewN ?_ _) | (with_reducible refine Grew.setCell ?_ ?_ _) | go_size))) g13
  clear g13
  have z13_0 : w.heap.size < w13.heap.size := by omega
  have z13_0a : w.heap.size < w13.heap.size + 1 := by omega
  have z13_0b : w.heap.size < w13.heap.size + 1 + 1 := by omega
  have z13_1 : w11.heap.size < w13.heap.size := by omega
  have z13_1a : w11.heap.size < w13.heap.size + 1 := by omega
  have z13_1b : w11.heap.size < w13.heap.size + 1 + 1 := by omega
  have z13_2 : w11.heap.size + 1 < w13.heap.size := by omega
  have z13_2a : w11.heap.size + 1 < w13.heap.size + 1 := by omega
  have z13_2b : w11.heap.size + 1 < w13.heap.size + 1 + 1 := by omega
  have z13_3 : w12.heap.size < w13.heap.size := by omega
  have z13_3a : w12.heap.size < w13.heap.size + 1 := by omega
  have z13_3b : w12.heap.size < w13.heap.size + 1 + 1 := by omega
  have z13_4 : w12.heap.size + 1 < w13.heap.size := by omega
  have z13_4a : w12.heap.size + 1 < w13.heap.size + 1 := by omega
  have z13_4b : w12.heap.size + 1 < w13.heap.size + 1 + 1 := by omega
  go_wp2_with fail
  refine (r_eight p v' _ (HP.out.grown (by (repeat' (first | (with_reducible exact Grew.refl _) | (with_reducible assumption) | (with_reducible refine Grew.alloc ?_ _ _) | (with_reducible refine Grew.drew ?_) | (with_reducible refine Grew.drewN ?_ _) | (with_reducible refine Grew.setCell ?_ ?_ _) | go_size)))) PB.out).mono ?_
  rintro e w14 ⟨v8, q8, k8, i8, rfl, h_14, q64, g14⟩
  obtain ⟨rfl, rfl⟩ := i7.one i8
  clear i7 i8
  have e_14 := e_13.grown (Grew.trans (a := w13) (by (repeat' (first | (with_reducible exact Grew.refl _) | (with_reducible assumption) | (with_reducible refine Grew.alloc ?_ _ _) | (with_reducible refine Grew.drew ?_) | (with_reducible refine Grew.drewN ?_ _) | (with_reducible refine Grew.setCell ?_ ?_ _) | go_size))) g14)
  obtain ⟨c14, f14, z14⟩ := laid g14
  try simp at z14
  have G14 : Grew w w14 := Grew.trans (by (repeat' (first | (with_reducible exact Grew.refl _) | (with_reducible assumption) | (with_reducible refine Grew.alloc ?_ _ _) | (with_reducible refine Grew.drew ?_) | (with_reducible refine Grew.drewN ?_ _) | (with_reducible refine Grew.setCell ?_ ?_ _) | go_size))) g14
  clear g14
  have z14_0 : w.heap.size < w14.heap.size := by omega
  have z14_0a : w.heap.size < w14.heap.size + 1 := by omega
  have z14_0b : w.heap.size < w14.heap.size + 1 + 1 := by omega
  have z14_1 : w11.heap.size < w14.heap.size := by omega
  have z14_1a : w11.heap.size < w14.heap.size + 1 := by omega
  have z14_1b : w11.heap.size < w14.heap.size + 1 + 1 := by omega
  have z14_2 : w11.heap.size + 1 < w14.heap.size := by omega
  have z14_2a : w11.heap.size + 1 < w14.heap.size + 1 := by omega
  have z14_2b : w11.heap.size + 1 < w14.heap.size + 1 + 1 := by omega
  have z14_3 : w12.heap.size < w14.heap.size := by omega
  have z14_3a : w12.heap.size < w14.heap.size + 1 := by omega
  have z14_3b : w12.heap.size < w14.heap.size + 1 + 1 := by omega
  have z14_4 : w12.heap.size + 1 < w14.heap.size := by omega
  have z14_4a : w12.heap.size + 1 < w14.heap.size + 1 := by omega
  have z14_4b : w12.heap.size + 1 < w14.heap.size + 1 + 1 := by omega
  go_wp2_with fail
  refine ((same_any q7 q7 _ _ _ (e_14.grown (by (repeat' (first | (with_reducible exact Grew.refl _) | (with_reducible assumption) | (with_reducible refine Grew.alloc ?_ _ _) | (with_reducible refine Grew.drew ?_) | (with_reducible refine Grew.drewN ?_ _) | (with_reducible refine Grew.setCell ?_ ?_ _) | go_size)))) (h_14.grown (by (repeat' (first | (with_reducible exact Grew.refl _) | (with_reducible assumption) | (with_reducible refine Grew.alloc ?_ _ _) | (with_reducible refine Grew.drew ?_) | (with_reducible refine Grew.drewN ?_ _) | (with_reducible refine Grew.setCell ?_ ?_ _) | go_size)))) (by omega)).mono fun _ _ t => t.to rfl).mono ?_
  rintro e w15 ⟨rfl, g15⟩
  obtain ⟨c15, f15, z15⟩ := laid g15
  try simp at z15
  have G15 : Grew w w15 := Grew.trans (by (repeat' (first | (with_reducible exact Grew.refl _) | (with_reducible assumption) | (with_reducible refine Grew.alloc ?_ _ _) | (with_reducible refine Grew.drew ?_) | (with_reducible refine Grew.drewN ?_ _) | (with_reducible refine Grew.setCell ?_ ?_ _) | go_size))) g15
  clear g15
  have z15_0 : w.heap.size < w15.heap.size := by omega
  have z15_0a : w.heap.size < w15.heap.size + 1 := by omega
  have z15_0b : w.heap.size < w15.heap.size + 1 + 1 := by omega
  have z15_1 : w11.heap.size < w15.heap.size := by omega
  have z15_1a : w11.heap.size < w15.heap.size + 1 := by omega
  have z15_1b : w11.heap.size < w15.heap.size + 1 + 1 := by omega
  have z15_2 : w11.heap.size + 1 < w15.heap.size := by omega
  have z15_2a : w11.heap.size + 1 < w15.heap.size + 1 := by omega
  have z15_2b : w11.heap.size + 1 < w15.heap.size + 1 + 1 := by omega
  have z15_3 : w12.heap.size < w15.heap.size := by omega
  have z15_3a : w12.heap.size < w15.heap.size + 1 := by omega
  have z15_3b : w12.heap.size < w15.heap.size + 1 + 1 := by omega
  have z15_4 : w12.heap.size + 1 < w15.heap.size := by omega
  have z15_4a : w12.heap.size + 1 < w15.heap.size + 1 := by omega
  have z15_4b : w12.heap.size + 1 < w15.heap.size + 1 + 1 := by omega
  go_wp2_with fail
  refine (k_area K p v' _ (HP.out.grown (by (repeat' (first | (with_reducible exact Grew.refl _) | (with_reducible assumption) | (with_reducible refine Grew.alloc ?_ _ _) | (with_reducible refine Grew.drew ?_) | (with_reducible refine Grew.drewN ?_ _) | (with_reducible refine Grew.setCell ?_ ?_ _) | go_size)))) PB.out).mono ?_
  rintro e w16 ⟨n9, k9, i9, rfl, g16⟩
  obtain ⟨c16, f16, z16⟩ := laid g16
  try simp at z16
  have G16 : Grew w w16 := Grew.trans (by (repeat' (first | (with_reducible exact Grew.refl _) | (with_reducible assumption) | (with_reducible refine Grew.alloc ?_ _ _) | (with_reducible refine Grew.drew ?_) | (with_reducible refine Grew.drewN ?_ _) | (with_reducible refine Grew.setCell ?_ ?_ _) | go_size))) g16
  clear g16
  have z16_0 : w.heap.size < w16.heap.size := by omega
  have z16_0a : w.heap.size < w16.heap.size + 1 := by omega
  have z16_0b : w.heap.size < w16.heap.size + 1 + 1 := by omega
  have z16_1 : w11.heap.size < w16.heap.size := by omega
  have z16_1a : w11.heap.size < w16.heap.size + 1 := by omega
  have z16_1b : w11.heap.size < w16.heap.size + 1 + 1 := by omega
  have z16_2 : w11.heap.size + 1 < w16.heap.size := by omega
  have z16_2a : w11.heap.size + 1 < w16.heap.size + 1 := by omega
  have z16_2b : w11.heap.size + 1 < w16.heap.size + 1 + 1 := by omega
  have z16_3 : w12.heap.size < w16.heap.size := by omega
  have z16_3a : w12.heap.size < w16.heap.size + 1 := by omega
  have z16_3b : w12.heap.size < w16.heap.size + 1 + 1 := by omega
  have z16_4 : w12.heap.size + 1 < w16.heap.size := by omega
  have z16_4a : w12.heap.size + 1 < w16.heap.size + 1 := by omega
  have z16_4b : w12.heap.size + 1 < w16.heap.size + 1 + 1 := by omega
  go_wp2_with fail
  refine (r_area p v' _ (HP.out.grown (by (repeat' (first | (with_reducible exact Grew.refl _) | (with_reducible assumption) | (with_reducible refine Grew.alloc ?_ _ _) | (with_reducible refine Grew.drew ?_) | (with_reducible refine Grew.drewN ?_ _) | (with_reducible refine Grew.setCell ?_ ?_ _) | go_size)))) PB.out).mono ?_
  rintro e w17 ⟨n10, k10, i10, rfl, g17⟩
  obtain ⟨rfl, rfl⟩ := i9.one i10
  clear i9 i10
  obtain ⟨c17, f17, z17⟩ := laid g17
  try simp at z17
  have G17 : Grew w w17 := Grew.trans (by (repeat' (first | (with_reducible exact Grew.refl _) | (with_reducible assumption) | (with_reducible refine Grew.alloc ?_ _ _) | (with_reducible refine Grew.drew ?_) | (with_reducible refine Grew.drewN ?_ _) | (with_reducible refine Grew.setCell ?_ ?_ _) | go_size))) g17
  clear g17
  have z17_0 : w.heap.size < w17.heap.size := by omega
  have z17_0a : w.heap.size < w17.heap.size + 1 := by omega
  have z17_0b : w.heap.size < w17.heap.size + 1 + 1 := by omega
  have z17_1 : w11.heap.size < w17.heap.size := by omega
  have z17_1a : w11.heap.size < w17.heap.size + 1 := by omega
  have z17_1b : w11.heap.size < w17.heap.size + 1 + 1 := by omega
  have z17_2 : w11.heap.size + 1 < w17.heap.size := by omega
  have z17_2a : w11.heap.size + 1 < w17.heap.size + 1 := by omega
  have z17_2b : w11.heap.size + 1 < w17.heap.size + 1 + 1 := by omega
  have z17_3 : w12.heap.size < w17.heap.size := by omega
  have z17_3a : w12.heap.size < w17.heap.size + 1 := by omega
  have z17_3b : w12.heap.size < w17.heap.size + 1 + 1 := by omega
  have z17_4 : w12.heap.size + 1 < w17.heap.size := by omega
  have z17_4a : w12.heap.size + 1 < w17.heap.size + 1 := by omega
  have z17_4b : w12.heap.size + 1 < w17.heap.size + 1 + 1 := by omega
  go_wp2_with fail
  go_ret
  exact ⟨rfl, by (repeat' (first | (with_reducible exact Grew.refl _) | (with_reducible assumption) | (with_reducible refine Grew.alloc ?_ _ _) | (with_reducible refine Grew.drew ?_) | (with_reducible refine Grew.drewN ?_ _) | (with_reducible refine Grew.setCell ?_ ?_ _) | go_size))⟩

set_option maxRecDepth 100000 in
set_option maxHeartbeats 4000000 in
theorem match_few_no (K : Code) (l p : List Pt) (x : Pt) (v v' : Value) (w : World) (HL : Hid (Sl w v l)) (HP : Hid (Sl w v' p)) (LL : Hid (l.length ≤ 9223372036854775807)) (PB : Hid (p.length ≤ 9223372036854775807)) (F1 : Hid (l.length ≤ 80)) (F2 : Hid (¬ p.length ≤ 80)) : Calls Try.prog 3 #[v, v', .agg #[.int .i64 x.1, .int .i64 x.2]] w fun e w' => e = .returned (.bool true) ∧ Grew w w' := by
  go_enter Try.func3, Try.ntmps3
  go_wp2_with fail
  refine (head_true K _).mono ?_
  rintro e w1 ⟨rfl, g1⟩
  obtain ⟨c1, f1, z1⟩ := laid g1
  try simp at z1
  have G1 : Grew w w1 := Grew.trans (by (repeat' (first | (with_reducible exact Grew.refl _) | (with_reducible assumption) | (with_reducible refine Grew.alloc ?_ _ _) | (with_reducible refine Grew.drew ?_) | (with_reducible refine Grew.drewN ?_ _) | (with_reducible refine Grew.setCell ?_ ?_ _) | go_size))) g1
  clear g1
  have z1_0 : w.heap.size < w1.heap.size := by omega
  have z1_0a : w.heap.size < w1.heap.size + 1 := by omega
  have z1_0b : w.heap.size < w1.heap.size + 1 + 1 := by omega
  go_wp2_with fail
  refine (few_yes l v _ (HL.out.grown (by (repeat' (first | (with_reducible exact Grew.refl _) | (with_reducible assumption) | (with_reducible refine Grew.alloc ?_ _ _) | (with_reducible refine Grew.drew ?_) | (with_reducible refine Grew.drewN ?_ _) | (with_reducible refine Grew.setCell ?_ ?_ _) | go_size)))) F1.out).mono ?_
  rintro e w2 ⟨rfl, g2⟩
  obtain ⟨c2, f2, z2⟩ := laid g2
  try simp at z2
  have G2 : Grew w w2 := Grew.trans (by (repeat' (first | (with_reducible exact Grew.refl _) | (with_reducible assumption) | (with_reducible refine Grew.alloc ?_ _ _) | (with_reducible refine Grew.drew ?_) | (with_reducible refine Grew.drewN ?_ _) | (with_reducible refine Grew.setCell ?_ ?_ _) | go_size))) g2
  clear g2
  have z2_0 : w.heap.size < w2.heap.size := by omega
  have z2_0a : w.heap.size < w2.heap.size + 1 := by omega
  have z2_0b : w.heap.size < w2.heap.size + 1 + 1 := by omega
  go_wp2_with fail
  refine (few_no p v' _ (HP.out.grown (by (repeat' (first | (with_reducible exact Grew.refl _) | (with_reducible assumption) | (with_reducible refine Grew.alloc ?_ _ _) | (with_reducible refine Grew.drew ?_) | (with_reducible refine Grew.drewN ?_ _) | (with_reducible refine Grew.setCell ?_ ?_ _) | go_size)))) F2.out).mono ?_
  rintro e w3 ⟨rfl, g3⟩
  obtain ⟨c3, f3, z3⟩ := laid g3
  try simp at z3
  have G3 : Grew w w3 := Grew.trans (by (repeat' (first | (with_reducible exact Grew.refl _) | (with_reducible assumption) | (with_reducible refine Grew.alloc ?_ _ _) | (with_reducible refine Grew.drew ?_) | (with_reducible refine Grew.drewN ?_ _) | (with_reducible refine Grew.setCell ?_ ?_ _) | go_size))) g3
  clear g3
  have z3_0 : w.heap.size < w3.heap.size := by omega
  have z3_0a : w.heap.size < w3.heap.size + 1 := by omega
  have z3_0b : w.heap.size < w3.heap.size + 1 + 1 := by omega
  go_wp2_with fail
  go_ret
  exact ⟨rfl, by (repeat' (first | (with_reducible exact Grew.refl _) | (with_reducible assumption) | (with_reducible refine Grew.alloc ?_ _ _) | (with_reducible refine Grew.drew ?_) | (with_reducible refine Grew.drewN ?_ _) | (with_reducible refine Grew.setCell ?_ ?_ _) | go_size))⟩

set_option maxRecDepth 100000 in
set_option maxHeartbeats 4000000 in
theorem match_big (K : Code) (l p : List Pt) (x : Pt) (A : Option Addr) (c : Nat) (v' : Value) (w : World) (HL : Hid (Sl w (.slice A l.length c) l)) (HP : Hid (Sl w v' p)) (LL : Hid (l.length ≤ 9223372036854775807)) (PB : Hid (p.length ≤ 9223372036854775807)) (B : (4000 : Int) < (l.length : Int)) (F1 : Hid (¬ l.length ≤ 80)) (F2 : Hid (p.length ≤ 80)) : Calls Try.prog 3 #[.slice A l.length c, v', .agg #[.int .i64 x.1, .int .i64 x.2]] w fun e w' => e = .returned (.bool true) ∧ Grew w w' := by
  go_enter Try.func3, Try.ntmps3
  go_wp2_with fail
  refine (head_true K _).mono ?_
  rintro e w1 ⟨rfl, g1⟩
  obtain ⟨c1, f1, z1⟩ := laid g1
  try simp at z1
  have G1 : Grew w w1 := Grew.trans (by (repeat' (first | (with_reducible exact Grew.refl _) | (with_reducible assumption) | (with_reducible refine Grew.alloc ?_ _ _) | (with_reducible refine Grew.drew ?_) | (with_reducible refine Grew.drewN ?_ _) | (with_reducible refine Grew.setCell ?_ ?_ _) | go_size))) g1
  clear g1
  have z1_0 : w.heap.size < w1.heap.size := by omega
  have z1_0a : w.heap.size < w1.heap.size + 1 := by omega
  have z1_0b : w.heap.size < w1.heap.size + 1 + 1 := by omega
  go_wp2_with fail
  refine (few_no l _ _ (HL.out.grown (by (repeat' (first | (with_reducible exact Grew.refl _) | (with_reducible assumption) | (with_reducible refine Grew.alloc ?_ _ _) | (with_reducible refine Grew.drew ?_) | (with_reducible refine Grew.drewN ?_ _) | (with_reducible refine Grew.setCell ?_ ?_ _) | go_size)))) F1.out).mono ?_
  rintro e w2 ⟨rfl, g2⟩
  obtain ⟨c2, f2, z2⟩ := laid g2
  try simp at z2
  have G2 : Grew w w2 := Grew.trans (by (repeat' (first | (with_reducible exact Grew.refl _) | (with_reducible assumption) | (with_reducible refine Grew.alloc ?_ _ _) | (with_reducible refine Grew.drew ?_) | (with_reducible refine Grew.drewN ?_ _) | (with_reducible refine Grew.setCell ?_ ?_ _) | go_size))) g2
  clear g2
  have z2_0 : w.heap.size < w2.heap.size := by omega
  have z2_0a : w.heap.size < w2.heap.size + 1 := by omega
  have z2_0b : w.heap.size < w2.heap.size + 1 + 1 := by omega
  go_wp2_with fail
  refine (few_yes p v' _ (HP.out.grown (by (repeat' (first | (with_reducible exact Grew.refl _) | (with_reducible assumption) | (with_reducible refine Grew.alloc ?_ _ _) | (with_reducible refine Grew.drew ?_) | (with_reducible refine Grew.drewN ?_ _) | (with_reducible refine Grew.setCell ?_ ?_ _) | go_size)))) F2.out).mono ?_
  rintro e w3 ⟨rfl, g3⟩
  obtain ⟨c3, f3, z3⟩ := laid g3
  try simp at z3
  have G3 : Grew w w3 := Grew.trans (by (repeat' (first | (with_reducible exact Grew.refl _) | (with_reducible assumption) | (with_reducible refine Grew.alloc ?_ _ _) | (with_reducible refine Grew.drew ?_) | (with_reducible refine Grew.drewN ?_ _) | (with_reducible refine Grew.setCell ?_ ?_ _) | go_size))) g3
  clear g3
  have z3_0 : w.heap.size < w3.heap.size := by omega
  have z3_0a : w.heap.size < w3.heap.size + 1 := by omega
  have z3_0b : w.heap.size < w3.heap.size + 1 + 1 := by omega
  go_wp2_with fail
  refine (k_hull K l _ _ (HL.out.grown (by (repeat' (first | (with_reducible exact Grew.refl _) | (with_reducible assumption) | (with_reducible refine Grew.alloc ?_ _ _) | (with_reducible refine Grew.drew ?_) | (with_reducible refine Grew.drewN ?_ _) | (with_reducible refine Grew.setCell ?_ ?_ _) | go_size)))) LL.out).mono ?_
  rintro e w4 ⟨v1, k1, r1, i1, rfl, s_4, g4⟩
  obtain ⟨c4, f4, z4⟩ := laid g4
  try simp at z4
  have G4 : Grew w w4 := Grew.trans (by (repeat' (first | (with_reducible exact Grew.refl _) | (with_reducible assumption) | (with_reducible refine Grew.alloc ?_ _ _) | (with_reducible refine Grew.drew ?_) | (with_reducible refine Grew.drewN ?_ _) | (with_reducible refine Grew.setCell ?_ ?_ _) | go_size))) g4
  clear g4
  have z4_0 : w.heap.size < w4.heap.size := by omega
  have z4_0a : w.heap.size < w4.heap.size + 1 := by omega
  have z4_0b : w.heap.size < w4.heap.size + 1 + 1 := by omega
  go_wp2_with fail
  refine (r_hull l _ _ (HL.out.grown (by (repeat' (first | (with_reducible exact Grew.refl _) | (with_reducible assumption) | (with_reducible refine Grew.alloc ?_ _ _) | (with_reducible refine Grew.drew ?_) | (with_reducible refine Grew.drewN ?_ _) | (with_reducible refine Grew.setCell ?_ ?_ _) | go_size)))) LL.out).mono ?_
  rintro e w5 ⟨v2, k2, r2, i2, rfl, t_5, g5⟩
  obtain ⟨rfl, rfl⟩ := i1.one i2
  have I1 := Lib.hid i1
  clear i1 i2
  have s_5 := s_4.grown (Grew.trans (a := w4) (by (repeat' (first | (with_reducible exact Grew.refl _) | (with_reducible assumption) | (with_reducible refine Grew.alloc ?_ _ _) | (with_reducible refine Grew.drew ?_) | (with_reducible refine Grew.drewN ?_ _) | (with_reducible refine Grew.setCell ?_ ?_ _) | go_size))) g5)
  obtain ⟨c5, f5, z5⟩ := laid g5
  try simp at z5
  have G5 : Grew w w5 := Grew.trans (by (repeat' (first | (with_reducible exact Grew.refl _) | (with_reducible assumption) | (with_reducible refine Grew.alloc ?_ _ _) | (with_reducible refine Grew.drew ?_) | (with_reducible refine Grew.drewN ?_ _) | (with_reducible refine Grew.setCell ?_ ?_ _) | go_size))) g5
  clear g5
  have z5_0 : w.heap.size < w5.heap.size := by omega
  have z5_0a : w.heap.size < w5.heap.size + 1 := by omega
  have z5_0b : w.heap.size < w5.heap.size + 1 + 1 := by omega
  go_wp2_with fail
  refine ((same_any r1 r1 _ _ _ (s_5.grown (by (repeat' (first | (with_reducible exact Grew.refl _) | (with_reducible assumption) | (with_reducible refine Grew.alloc ?_ _ _) | (with_reducible refine Grew.drew ?_) | (with_reducible refine Grew.drewN ?_ _) | (with_reducible refine Grew.setCell ?_ ?_ _) | go_size)))) (t_5.grown (by (repeat' (first | (with_reducible exact Grew.refl _) | (with_reducible assumption) | (with_reducible refine Grew.alloc ?_ _ _) | (with_reducible refine Grew.drew ?_) | (with_reducible refine Grew.drewN ?_ _) | (with_reducible refine Grew.setCell ?_ ?_ _) | go_size)))) (hull_few I1.out)).mono fun _ _ t => t.to rfl).mono ?_
  rintro e w6 ⟨rfl, g6⟩
  have s_6 := s_5.grown (Grew.trans (a := w5) (by (repeat' (first | (with_reducible exact Grew.refl _) | (with_reducible assumption) | (with_reducible refine Grew.alloc ?_ _ _) | (with_reducible refine Grew.drew ?_) | (with_reducible refine Grew.drewN ?_ _) | (with_reducible refine Grew.setCell ?_ ?_ _) | go_size))) g6)
  have t_6 := t_5.grown (Grew.trans (a := w5) (by (repeat' (first | (with_reducible exact Grew.refl _) | (with_reducible assumption) | (with_reducible refine Grew.alloc ?_ _ _) | (with_reducible refine Grew.drew ?_) | (with_reducible refine Grew.drewN ?_ _) | (with_reducible refine Grew.setCell ?_ ?_ _) | go_size))) g6)
  obtain ⟨c6, f6, z6⟩ := laid g6
  try simp at z6
  have G6 : Grew w w6 := Grew.trans (by (repeat' (first | (with_reducible exact Grew.refl _) | (with_reducible assumption) | (with_reducible refine Grew.alloc ?_ _ _) | (with_reducible refine Grew.drew ?_) | (with_reducible refine Grew.drewN ?_ _) | (with_reducible refine Grew.setCell ?_ ?_ _) | go_size))) g6
  clear g6
  have z6_0 : w.heap.size < w6.heap.size := by omega
  have z6_0a : w.heap.size < w6.heap.size + 1 := by omega
  have z6_0b : w.heap.size < w6.heap.size + 1 + 1 := by omega
  go_wp2_with fail
  refine (K.valid p v' _ (HP.out.grown (by (repeat' (first | (with_reducible exact Grew.refl _) | (with_reducible assumption) | (with_reducible refine Grew.alloc ?_ _ _) | (with_reducible refine Grew.drew ?_) | (with_reducible refine Grew.drewN ?_ _) | (with_reducible refine Grew.setCell ?_ ?_ _) | go_size)))) PB.out).mono ?_
  rintro e w7 ⟨b1, rfl, j1, g7⟩
  have J1 := Lib.hid j1
  clear j1
  obtain ⟨c7, f7, z7⟩ := laid g7
  try simp at z7
  have G7 : Grew w w7 := Grew.trans (by (repeat' (first | (with_reducible exact Grew.refl _) | (with_reducible assumption) | (with_reducible refine Grew.alloc ?_ _ _) | (with_reducible refine Grew.drew ?_) | (with_reducible refine Grew.drewN ?_ _) | (with_reducible refine Grew.setCell ?_ ?_ _) | go_size))) g7
  clear g7
  have z7_0 : w.heap.size < w7.heap.size := by omega
  have z7_0a : w.heap.size < w7.heap.size + 1 := by omega
  have z7_0b : w.heap.size < w7.heap.size + 1 + 1 := by omega
  go_wp2_with fail
  refine (rvalid_any p v' _ (HP.out.grown (by (repeat' (first | (with_reducible exact Grew.refl _) | (with_reducible assumption) | (with_reducible refine Grew.alloc ?_ _ _) | (with_reducible refine Grew.drew ?_) | (with_reducible refine Grew.drewN ?_ _) | (with_reducible refine Grew.setCell ?_ ?_ _) | go_size)))) PB.out).mono ?_
  rintro e w8 ⟨b2, rfl, j2, g8⟩
  obtain rfl : b1 = b2 := Bool.eq_iff_iff.2 (J1.out.trans j2.symm)
  clear j2 J1
  obtain ⟨c8, f8, z8⟩ := laid g8
  try simp at z8
  have G8 : Grew w w8 := Grew.trans (by (repeat' (first | (with_reducible exact Grew.refl _) | (with_reducible assumption) | (with_reducible refine Grew.alloc ?_ _ _) | (with_reducible refine Grew.drew ?_) | (with_reducible refine Grew.drewN ?_ _) | (with_reducible refine Grew.setCell ?_ ?_ _) | go_size))) g8
  clear g8
  have z8_0 : w.heap.size < w8.heap.size := by omega
  have z8_0a : w.heap.size < w8.heap.size + 1 := by omega
  have z8_0b : w.heap.size < w8.heap.size + 1 + 1 := by omega
  go_wp2_with fail
  refine (k_has K p x v' _ (HP.out.grown (by (repeat' (first | (with_reducible exact Grew.refl _) | (with_reducible assumption) | (with_reducible refine Grew.alloc ?_ _ _) | (with_reducible refine Grew.drew ?_) | (with_reducible refine Grew.drewN ?_ _) | (with_reducible refine Grew.setCell ?_ ?_ _) | go_size)))) PB.out).mono ?_
  rintro e w9 ⟨b3, k3, i3, rfl, g9⟩
  obtain ⟨c9, f9, z9⟩ := laid g9
  try simp at z9
  have G9 : Grew w w9 := Grew.trans (by (repeat' (first | (with_reducible exact Grew.refl _) | (with_reducible assumption) | (with_reducible refine Grew.alloc ?_ _ _) | (with_reducible refine Grew.drew ?_) | (with_reducible refine Grew.drewN ?_ _) | (with_reducible refine Grew.setCell ?_ ?_ _) | go_size))) g9
  clear g9
  have z9_0 : w.heap.size < w9.heap.size := by omega
  have z9_0a : w.heap.size < w9.heap.size + 1 := by omega
  have z9_0b : w.heap.size < w9.heap.size + 1 + 1 := by omega
  go_wp2_with fail
  refine (r_has p x v' _ (HP.out.grown (by (repeat' (first | (with_reducible exact Grew.refl _) | (with_reducible assumption) | (with_reducible refine Grew.alloc ?_ _ _) | (with_reducible refine Grew.drew ?_) | (with_reducible refine Grew.drewN ?_ _) | (with_reducible refine Grew.setCell ?_ ?_ _) | go_size)))) PB.out).mono ?_
  rintro e w10 ⟨b4, k4, i4, rfl, g10⟩
  obtain ⟨rfl, rfl⟩ := i3.one i4
  clear i3 i4
  obtain ⟨c10, f10, z10⟩ := laid g10
  try simp at z10
  have G10 : Grew w w10 := Grew.trans (by (repeat' (first | (with_reducible exact Grew.refl _) | (with_reducible assumption) | (with_reducible refine Grew.alloc ?_ _ _) | (with_reducible refine Grew.drew ?_) | (with_reducible refine Grew.drewN ?_ _) | (with_reducible refine Grew.setCell ?_ ?_ _) | go_size))) g10
  clear g10
  have z10_0 : w.heap.size < w10.heap.size := by omega
  have z10_0a : w.heap.size < w10.heap.size + 1 := by omega
  have z10_0b : w.heap.size < w10.heap.size + 1 + 1 := by omega
  go_wp2_with fail
  refine (k_box K p v' _ (HP.out.grown (by (repeat' (first | (with_reducible exact Grew.refl _) | (with_reducible assumption) | (with_reducible refine Grew.alloc ?_ _ _) | (with_reducible refine Grew.drew ?_) | (with_reducible refine Grew.drewN ?_ _) | (with_reducible refine Grew.setCell ?_ ?_ _) | go_size)))) PB.out).mono ?_
  rintro e w11 ⟨lo, hi, k5, i5, rfl, g11⟩
  obtain ⟨c11, f11, z11⟩ := laid g11
  try simp at z11
  have G11 : Grew w w11 := Grew.trans (by (repeat' (first | (with_reducible exact Grew.refl _) | (with_reducible assumption) | (with_reducible refine Grew.alloc ?_ _ _) | (with_reducible refine Grew.drew ?_) | (with_reducible refine Grew.drewN ?_ _) | (with_reducible refine Grew.setCell ?_ ?_ _) | go_size))) g11
  clear g11
  have z11_0 : w.heap.size < w11.heap.size := by omega
  have z11_0a : w.heap.size < w11.heap.size + 1 := by omega
  have z11_0b : w.heap.size < w11.heap.size + 1 + 1 := by omega
  go_wp2_with fail
  refine (r_box p v' _ (HP.out.grown (by (repeat' (first | (with_reducible exact Grew.refl _) | (with_reducible assumption) | (with_reducible refine Grew.alloc ?_ _ _) | (with_reducible refine Grew.drew ?_) | (with_reducible refine Grew.drewN ?_ _) | (with_reducible refine Grew.setCell ?_ ?_ _) | go_size)))) PB.out).mono ?_
  rintro e w12 ⟨lo', hi', k6, i6, rfl, g12⟩
  obtain ⟨rfl, rfl, rfl⟩ := i5.one i6
  clear i5 i6
  obtain ⟨c12, f12, z12⟩ := laid g12
  try simp at z12
  have G12 : Grew w w12 := Grew.trans (by (repeat' (first | (with_reducible exact Grew.refl _) | (with_reducible assumption) | (with_reducible refine Grew.alloc ?_ _ _) | (with_reducible refine Grew.drew ?_) | (with_reducible refine Grew.drewN ?_ _) | (with_reducible refine Grew.setCell ?_ ?_ _) | go_size))) g12
  clear g12
  have z12_0 : w.heap.size < w12.heap.size := by omega
  have z12_0a : w.heap.size < w12.heap.size + 1 := by omega
  have z12_0b : w.heap.size < w12.heap.size + 1 + 1 := by omega
  have z12_1 : w11.heap.size < w12.heap.size := by omega
  have z12_1a : w11.heap.size < w12.heap.size + 1 := by omega
  have z12_1b : w11.heap.size < w12.heap.size + 1 + 1 := by omega
  have z12_2 : w11.heap.size + 1 < w12.heap.size := by omega
  have z12_2a : w11.heap.size + 1 < w12.heap.size + 1 := by omega
  have z12_2b : w11.heap.size + 1 < w12.heap.size + 1 + 1 := by omega
  go_wp2_with fail
  refine (k_eight K p v' _ (HP.out.grown (by (repeat' (first | (with_reducible exact Grew.refl _) | (with_reducible assumption) | (with_reducible refine Grew.alloc ?_ _ _) | (with_reducible refine Grew.drew ?_) | (with_reducible refine Grew.drewN ?_ _) | (with_reducible refine Grew.setCell ?_ ?_ _) | go_size)))) PB.out).mono ?_
  rintro e w13 ⟨v7, q7, k7, i7, rfl, e_13, _, g13⟩
  obtain ⟨c13, f13, z13⟩ := laid g13
  try simp at z13
  have G13 : Grew w w13 := Grew.trans (by (repeat' (first | (with_reducible exact Grew.refl _) | (with_reducible assumption) | (with_reducible refine Grew.alloc ?_ _ _) | (with_reducible refine Grew.drew ?_) | (with_reducible refine Grew.drewN ?_ _) | (with_reducible refine Grew.setCell ?_ ?_ _) | go_size))) g13
  clear g13
  have z13_0 : w.heap.size < w13.heap.size := by omega
  have z13_0a : w.heap.size < w13.heap.size + 1 := by omega
  have z13_0b : w.heap.size < w13.heap.size + 1 + 1 := by omega
  have z13_1 : w11.heap.size < w13.heap.size := by omega
  have z13_1a : w11.heap.size < w13.heap.size + 1 := by omega
  have z13_1b : w11.heap.size < w13.heap.size + 1 + 1 := by omega
  have z13_2 : w11.heap.size + 1 < w13.heap.size := by omega
  have z13_2a : w11.heap.size + 1 < w13.heap.size + 1 := by omega
  have z13_2b : w11.heap.size + 1 < w13.heap.size + 1 + 1 := by omega
  have z13_3 : w12.heap.size < w13.heap.size := by omega
  have z13_3a : w12.heap.size < w13.heap.size + 1 := by omega
  have z13_3b : w12.heap.size < w13.heap.size + 1 + 1 := by omega
  have z13_4 : w12.heap.size + 1 < w13.heap.size := by omega
  have z13_4a : w12.heap.size + 1 < w13.heap.size + 1 := by omega
  have z13_4b : w12.heap.size + 1 < w13.heap.size + 1 + 1 := by omega
  go_wp2_with fail
  refine (r_eight p v' _ (HP.out.grown (by (repeat' (first | (with_reducible exact Grew.refl _) | (with_reducible assumption) | (with_reducible refine Grew.alloc ?_ _ _) | (with_reducible refine Grew.drew ?_) | (with_reducible refine Grew.drewN ?_ _) | (with_reducible refine Grew.setCell ?_ ?_ _) | go_size)))) PB.out).mono ?_
  rintro e w14 ⟨v8, q8, k8, i8, rfl, h_14, q64, g14⟩
  obtain ⟨rfl, rfl⟩ := i7.one i8
  clear i7 i8
  have e_14 := e_13.grown (Grew.trans (a := w13) (by (repeat' (first | (with_reducible exact Grew.refl _) | (with_reducible assumption) | (with_reducible refine Grew.alloc ?_ _ _) | (with_reducible refine Grew.drew ?_) | (with_reducible refine Grew.drewN ?_ _) | (with_reducible refine Grew.setCell ?_ ?_ _) | go_size))) g14)
  obtain ⟨c14, f14, z14⟩ := laid g14
  try simp at z14
  have G14 : Grew w w14 := Grew.trans (by (repeat' (first | (with_reducible exact Grew.refl _) | (with_reducible assumption) | (with_reducible refine Grew.alloc ?_ _ _) | (with_reducible refine Grew.drew ?_) | (with_reducible refine Grew.drewN ?_ _) | (with_reducible refine Grew.setCell ?_ ?_ _) | go_size))) g14
  clear g14
  have z14_0 : w.heap.size < w14.heap.size := by omega
  have z14_0a : w.heap.size < w14.heap.size + 1 := by omega
  have z14_0b : w.heap.size < w14.heap.size + 1 + 1 := by omega
  have z14_1 : w11.heap.size < w14.heap.size := by omega
  have z14_1a : w11.heap.size < w14.heap.size + 1 := by omega
  have z14_1b : w11.heap.size < w14.heap.size + 1 + 1 := by omega
  have z14_2 : w11.heap.size + 1 < w14.heap.size := by omega
  have z14_2a : w11.heap.size + 1 < w14.heap.size + 1 := by omega
  have z14_2b : w11.heap.size + 1 < w14.heap.size + 1 + 1 := by omega
  have z14_3 : w12.heap.size < w14.heap.size := by omega
  have z14_3a : w12.heap.size < w14.heap.size + 1 := by omega
  have z14_3b : w12.heap.size < w14.heap.size + 1 + 1 := by omega
  have z14_4 : w12.heap.size + 1 < w14.heap.size := by omega
  have z14_4a : w12.heap.size + 1 < w14.heap.size + 1 := by omega
  have z14_4b : w12.heap.size + 1 < w14.heap.size + 1 + 1 := by omega
  go_wp2_with fail
  refine ((same_any q7 q7 _ _ _ (e_14.grown (by (repeat' (first | (with_reducible exact Grew.refl _) | (with_reducible assumption) | (with_reducible refine Grew.alloc ?_ _ _) | (with_reducible refine Grew.drew ?_) | (with_reducible refine Grew.drewN ?_ _) | (with_reducible refine Grew.setCell ?_ ?_ _) | go_size)))) (h_14.grown (by (repeat' (first | (with_reducible exact Grew.refl _) | (with_reducible assumption) | (with_reducible refine Grew.alloc ?_ _ _) | (with_reducible refine Grew.drew ?_) | (with_reducible refine Grew.drewN ?_ _) | (with_reducible refine Grew.setCell ?_ ?_ _) | go_size)))) (by omega)).mono fun _ _ t => t.to rfl).mono ?_
  rintro e w15 ⟨rfl, g15⟩
  obtain ⟨c15, f15, z15⟩ := laid g15
  try simp at z15
  have G15 : Grew w w15 := Grew.trans (by (repeat' (first | (with_reducible exact Grew.refl _) | (with_reducible assumption) | (with_reducible refine Grew.alloc ?_ _ _) | (with_reducible refine Grew.drew ?_) | (with_reducible refine Grew.drewN ?_ _) | (with_reducible refine Grew.setCell ?_ ?_ _) | go_size))) g15
  clear g15
  have z15_0 : w.heap.size < w15.heap.size := by omega
  have z15_0a : w.heap.size < w15.heap.size + 1 := by omega
  have z15_0b : w.heap.size < w15.heap.size + 1 + 1 := by omega
  have z15_1 : w11.heap.size < w15.heap.size := by omega
  have z15_1a : w11.heap.size < w15.heap.size + 1 := by omega
  have z15_1b : w11.heap.size < w15.heap.size + 1 + 1 := by omega
  have z15_2 : w11.heap.size + 1 < w15.heap.size := by omega
  have z15_2a : w11.heap.size + 1 < w15.heap.size + 1 := by omega
  have z15_2b : w11.heap.size + 1 < w15.heap.size + 1 + 1 := by omega
  have z15_3 : w12.heap.size < w15.heap.size := by omega
  have z15_3a : w12.heap.size < w15.heap.size + 1 := by omega
  have z15_3b : w12.heap.size < w15.heap.size + 1 + 1 := by omega
  have z15_4 : w12.heap.size + 1 < w15.heap.size := by omega
  have z15_4a : w12.heap.size + 1 < w15.heap.size + 1 := by omega
  have z15_4b : w12.heap.size + 1 < w15.heap.size + 1 + 1 := by omega
  go_wp2_with fail
  refine (k_area K p v' _ (HP.out.grown (by (repeat' (first | (with_reducible exact Grew.refl _) | (with_reducible assumption) | (with_reducible refine Grew.alloc ?_ _ _) | (with_reducible refine Grew.drew ?_) | (with_reducible refine Grew.drewN ?_ _) | (with_reducible refine Grew.setCell ?_ ?_ _) | go_size)))) PB.out).mono ?_
  rintro e w16 ⟨n9, k9, i9, rfl, g16⟩
  obtain ⟨c16, f16, z16⟩ := laid g16
  try simp at z16
  have G16 : Grew w w16 := Grew.trans (by (repeat' (first | (with_reducible exact Grew.refl _) | (with_reducible assumption) | (with_reducible refine Grew.alloc ?_ _ _) | (with_reducible refine Grew.drew ?_) | (with_reducible refine Grew.drewN ?_ _) | (with_reducible refine Grew.setCell ?_ ?_ _) | go_size))) g16
  clear g16
  have z16_0 : w.heap.size < w16.heap.size := by omega
  have z16_0a : w.heap.size < w16.heap.size + 1 := by omega
  have z16_0b : w.heap.size < w16.heap.size + 1 + 1 := by omega
  have z16_1 : w11.heap.size < w16.heap.size := by omega
  have z16_1a : w11.heap.size < w16.heap.size + 1 := by omega
  have z16_1b : w11.heap.size < w16.heap.size + 1 + 1 := by omega
  have z16_2 : w11.heap.size + 1 < w16.heap.size := by omega
  have z16_2a : w11.heap.size + 1 < w16.heap.size + 1 := by omega
  have z16_2b : w11.heap.size + 1 < w16.heap.size + 1 + 1 := by omega
  have z16_3 : w12.heap.size < w16.heap.size := by omega
  have z16_3a : w12.heap.size < w16.heap.size + 1 := by omega
  have z16_3b : w12.heap.size < w16.heap.size + 1 + 1 := by omega
  have z16_4 : w12.heap.size + 1 < w16.heap.size := by omega
  have z16_4a : w12.heap.size + 1 < w16.heap.size + 1 := by omega
  have z16_4b : w12.heap.size + 1 < w16.heap.size + 1 + 1 := by omega
  go_wp2_with fail
  refine (r_area p v' _ (HP.out.grown (by (repeat' (first | (with_reducible exact Grew.refl _) | (with_reducible assumption) | (with_reducible refine Grew.alloc ?_ _ _) | (with_reducible refine Grew.drew ?_) | (with_reducible refine Grew.drewN ?_ _) | (with_reducible refine Grew.setCell ?_ ?_ _) | go_size)))) PB.out).mono ?_
  rintro e w17 ⟨n10, k10, i10, rfl, g17⟩
  obtain ⟨rfl, rfl⟩ := i9.one i10
  clear i9 i10
  obtain ⟨c17, f17, z17⟩ := laid g17
  try simp at z17
  have G17 : Grew w w17 := Grew.trans (by (repeat' (first | (with_reducible exact Grew.refl _) | (with_reducible assumption) | (with_reducible refine Grew.alloc ?_ _ _) | (with_reducible refine Grew.drew ?_) | (with_reducible refine Grew.drewN ?_ _) | (with_reducible refine Grew.setCell ?_ ?_ _) | go_size))) g17
  clear g17
  have z17_0 : w.heap.size < w17.heap.size := by omega
  have z17_0a : w.heap.size < w17.heap.size + 1 := by omega
  have z17_0b : w.heap.size < w17.heap.size + 1 + 1 := by omega
  have z17_1 : w11.heap.size < w17.heap.size := by omega
  have z17_1a : w11.heap.size < w17.heap.size + 1 := by omega
  have z17_1b : w11.heap.size < w17.heap.size + 1 + 1 := by omega
  have z17_2 : w11.heap.size + 1 < w17.heap.size := by omega
  have z17_2a : w11.heap.size + 1 < w17.heap.size + 1 := by omega
  have z17_2b : w11.heap.size + 1 < w17.heap.size + 1 + 1 := by omega
  have z17_3 : w12.heap.size < w17.heap.size := by omega
  have z17_3a : w12.heap.size < w17.heap.size + 1 := by omega
  have z17_3b : w12.heap.size < w17.heap.size + 1 + 1 := by omega
  have z17_4 : w12.heap.size + 1 < w17.heap.size := by omega
  have z17_4a : w12.heap.size + 1 < w17.heap.size + 1 := by omega
  have z17_4b : w12.heap.size + 1 < w17.heap.size + 1 + 1 := by omega
  go_wp2_with fail
  go_ret
  exact ⟨rfl, by (repeat' (first | (with_reducible exact Grew.refl _) | (with_reducible assumption) | (with_reducible refine Grew.alloc ?_ _ _) | (with_reducible refine Grew.drew ?_) | (with_reducible refine Grew.drewN ?_ _) | (with_reducible refine Grew.setCell ?_ ?_ _) | go_size))⟩

set_option maxRecDepth 100000 in
set_option maxHeartbeats 4000000 in
theorem match_big_no (K : Code) (l p : List Pt) (x : Pt) (A : Option Addr) (c : Nat) (v' : Value) (w : World) (HL : Hid (Sl w (.slice A l.length c) l)) (HP : Hid (Sl w v' p)) (LL : Hid (l.length ≤ 9223372036854775807)) (PB : Hid (p.length ≤ 9223372036854775807)) (B : (4000 : Int) < (l.length : Int)) (F1 : Hid (¬ l.length ≤ 80)) (F2 : Hid (¬ p.length ≤ 80)) : Calls Try.prog 3 #[.slice A l.length c, v', .agg #[.int .i64 x.1, .int .i64 x.2]] w fun e w' => e = .returned (.bool true) ∧ Grew w w' := by
  go_enter Try.func3, Try.ntmps3
  go_wp2_with fail
  refine (head_true K _).mono ?_
  rintro e w1 ⟨rfl, g1⟩
  obtain ⟨c1, f1, z1⟩ := laid g1
  try simp at z1
  have G1 : Grew w w1 := Grew.trans (by (repeat' (first | (with_reducible exact Grew.refl _) | (with_reducible assumption) | (with_reducible refine Grew.alloc ?_ _ _) | (with_reducible refine Grew.drew ?_) | (with_reducible refine Grew.drewN ?_ _) | (with_reducible refine Grew.setCell ?_ ?_ _) | go_size))) g1
  clear g1
  have z1_0 : w.heap.size < w1.heap.size := by omega
  have z1_0a : w.heap.size < w1.heap.size + 1 := by omega
  have z1_0b : w.heap.size < w1.heap.size + 1 + 1 := by omega
  go_wp2_with fail
  refine (few_no l _ _ (HL.out.grown (by (repeat' (first | (with_reducible exact Grew.refl _) | (with_reducible assumption) | (with_reducible refine Grew.alloc ?_ _ _) | (with_reducible refine Grew.drew ?_) | (with_reducible refine Grew.drewN ?_ _) | (with_reducible refine Grew.setCell ?_ ?_ _) | go_size)))) F1.out).mono ?_
  rintro e w2 ⟨rfl, g2⟩
  obtain ⟨c2, f2, z2⟩ := laid g2
  try simp at z2
  have G2 : Grew w w2 := Grew.trans (by (repeat' (first | (with_reducible exact Grew.refl _) | (with_reducible assumption) | (with_reducible refine Grew.alloc ?_ _ _) | (with_reducible refine Grew.drew ?_) | (with_reducible refine Grew.drewN ?_ _) | (with_reducible refine Grew.setCell ?_ ?_ _) | go_size))) g2
  clear g2
  have z2_0 : w.heap.size < w2.heap.size := by omega
  have z2_0a : w.heap.size < w2.heap.size + 1 := by omega
  have z2_0b : w.heap.size < w2.heap.size + 1 + 1 := by omega
  go_wp2_with fail
  refine (few_no p v' _ (HP.out.grown (by (repeat' (first | (with_reducible exact Grew.refl _) | (with_reducible assumption) | (with_reducible refine Grew.alloc ?_ _ _) | (with_reducible refine Grew.drew ?_) | (with_reducible refine Grew.drewN ?_ _) | (with_reducible refine Grew.setCell ?_ ?_ _) | go_size)))) F2.out).mono ?_
  rintro e w3 ⟨rfl, g3⟩
  obtain ⟨c3, f3, z3⟩ := laid g3
  try simp at z3
  have G3 : Grew w w3 := Grew.trans (by (repeat' (first | (with_reducible exact Grew.refl _) | (with_reducible assumption) | (with_reducible refine Grew.alloc ?_ _ _) | (with_reducible refine Grew.drew ?_) | (with_reducible refine Grew.drewN ?_ _) | (with_reducible refine Grew.setCell ?_ ?_ _) | go_size))) g3
  clear g3
  have z3_0 : w.heap.size < w3.heap.size := by omega
  have z3_0a : w.heap.size < w3.heap.size + 1 := by omega
  have z3_0b : w.heap.size < w3.heap.size + 1 + 1 := by omega
  go_wp2_with fail
  go_ret
  exact ⟨rfl, by (repeat' (first | (with_reducible exact Grew.refl _) | (with_reducible assumption) | (with_reducible refine Grew.alloc ?_ _ _) | (with_reducible refine Grew.drew ?_) | (with_reducible refine Grew.drewN ?_ _) | (with_reducible refine Grew.setCell ?_ ?_ _) | go_size))⟩

set_option maxRecDepth 100000 in
set_option maxHeartbeats 4000000 in
theorem match_mid (K : Code) (l p : List Pt) (x : Pt) (A : Option Addr) (c : Nat) (v' : Value) (w : World) (HL : Hid (Sl w (.slice A l.length c) l)) (HP : Hid (Sl w v' p)) (LL : Hid (l.length ≤ 9223372036854775807)) (PB : Hid (p.length ≤ 9223372036854775807)) (B : (l.length : Int) ≤ 4000) (F1 : Hid (¬ l.length ≤ 80)) : Calls Try.prog 3 #[.slice A l.length c, v', .agg #[.int .i64 x.1, .int .i64 x.2]] w fun e w' => e = .returned (.bool true) ∧ Grew w w' := by
  go_enter Try.func3, Try.ntmps3
  go_wp2_with fail
  refine (head_true K _).mono ?_
  rintro e w1 ⟨rfl, g1⟩
  obtain ⟨c1, f1, z1⟩ := laid g1
  try simp at z1
  have G1 : Grew w w1 := Grew.trans (by (repeat' (first | (with_reducible exact Grew.refl _) | (with_reducible assumption) | (with_reducible refine Grew.alloc ?_ _ _) | (with_reducible refine Grew.drew ?_) | (with_reducible refine Grew.drewN ?_ _) | (with_reducible refine Grew.setCell ?_ ?_ _) | go_size))) g1
  clear g1
  have z1_0 : w.heap.size < w1.heap.size := by omega
  have z1_0a : w.heap.size < w1.heap.size + 1 := by omega
  have z1_0b : w.heap.size < w1.heap.size + 1 + 1 := by omega
  go_wp2_with fail
  refine (few_no l _ _ (HL.out.grown (by (repeat' (first | (with_reducible exact Grew.refl _) | (with_reducible assumption) | (with_reducible refine Grew.alloc ?_ _ _) | (with_reducible refine Grew.drew ?_) | (with_reducible refine Grew.drewN ?_ _) | (with_reducible refine Grew.setCell ?_ ?_ _) | go_size)))) F1.out).mono ?_
  rintro e w2 ⟨rfl, g2⟩
  obtain ⟨c2, f2, z2⟩ := laid g2
  try simp at z2
  have G2 : Grew w w2 := Grew.trans (by (repeat' (first | (with_reducible exact Grew.refl _) | (with_reducible assumption) | (with_reducible refine Grew.alloc ?_ _ _) | (with_reducible refine Grew.drew ?_) | (with_reducible refine Grew.drewN ?_ _) | (with_reducible refine Grew.setCell ?_ ?_ _) | go_size))) g2
  clear g2
  have z2_0 : w.heap.size < w2.heap.size := by omega
  have z2_0a : w.heap.size < w2.heap.size + 1 := by omega
  have z2_0b : w.heap.size < w2.heap.size + 1 + 1 := by omega
  go_wp2_with fail
  go_ret
  exact ⟨rfl, by (repeat' (first | (with_reducible exact Grew.refl _) | (with_reducible assumption) | (with_reducible refine Grew.alloc ?_ _ _) | (with_reducible refine Grew.drew ?_) | (with_reducible refine Grew.drewN ?_ _) | (with_reducible refine Grew.setCell ?_ ?_ _) | go_size))⟩

theorem match_true (K : Code) (l p : List Pt) (x : Pt) (v v' : Value) (w : World) (hs : Sl w v l) (hp : Sl w v' p) (hl : l.length ≤ 9223372036854775807) (hl' : p.length ≤ 9223372036854775807) : Calls Try.prog 3 #[v, v', .agg #[.int .i64 x.1, .int .i64 x.2]] w fun e w' => e = .returned (.bool true) ∧ Grew w w' := by
  by_cases h1 : l.length ≤ 80
  · by_cases h2 : p.length ≤ 80
    · exact match_few K l p x v v' w (Lib.hid hs) (Lib.hid hp) (Lib.hid hl) (Lib.hid hl') (Lib.hid h1) (Lib.hid h2)
    · exact match_few_no K l p x v v' w (Lib.hid hs) (Lib.hid hp) (Lib.hid hl) (Lib.hid hl') (Lib.hid h1) (Lib.hid h2)
  · obtain ⟨A, c, e⟩ := hs.shape
    subst e
    by_cases h4 : 4000 < l.length
    · by_cases h2 : p.length ≤ 80
      · exact match_big K l p x A c v' w (Lib.hid hs) (Lib.hid hp) (Lib.hid hl) (Lib.hid hl') (by omega) (Lib.hid h1) (Lib.hid h2)
      · exact match_big_no K l p x A c v' w (Lib.hid hs) (Lib.hid hp) (Lib.hid hl) (Lib.hid hl') (by omega) (Lib.hid h1) (Lib.hid h2)
    · exact match_mid K l p x A c v' w (Lib.hid hs) (Lib.hid hp) (Lib.hid hl) (Lib.hid hl') (by omega) (Lib.hid h1)
end Hl
end Go.Proofs.Ythcfbfgfpophmaa
