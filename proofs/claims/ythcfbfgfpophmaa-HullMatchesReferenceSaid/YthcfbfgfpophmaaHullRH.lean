/-
  The reference's Hull and Has.
-/
import Derived.Test.YthcfbfgfpophmaaHullAro
import Derived.Test.YthcfbfgfpophmaaHullSm
namespace Go.Proofs.Ythcfbfgfpophmaa
open Go.RowKit
namespace Hl
theorem r_hull_big (l : List Pt) (v : Value) (w : World) (hs : Sl w v l) (h2 : l.length ≤ 9223372036854775807) (h : 4000 < l.length) : Calls Try.prog 13 #[v] w (Empty 2 w) := by
  obtain ⟨a, c, rfl⟩ := hs.shape
  have h' : (4000 : Int) < (l.length : Int) := by omega
  clear hs
  go_enter Try.func13, Try.ntmps13
  go_wp2_with fail
  go_ret2
  exact ⟨_, rfl, Or.inl ⟨rfl, none, 0, rfl⟩, by (repeat' (first | (with_reducible exact Grew.refl _) | (with_reducible assumption) | (with_reducible refine Grew.alloc ?_ _ _) | (with_reducible refine Grew.drew ?_) | (with_reducible refine Grew.drewN ?_ _) | (with_reducible refine Grew.setCell ?_ ?_ _) | go_size))⟩
theorem r_hull_none (v : Value) (w : World) (hs : Sl w v []) : Calls Try.prog 13 #[v] w (Empty 1 w) := by
  obtain ⟨a, c, rfl⟩ := hs.shape
  clear hs
  go_enter Try.func13, Try.ntmps13
  go_wp2_with fail
  go_ret2
  exact ⟨_, rfl, Or.inl ⟨rfl, none, 0, rfl⟩, by (repeat' (first | (with_reducible exact Grew.refl _) | (with_reducible assumption) | (with_reducible refine Grew.alloc ?_ _ _) | (with_reducible refine Grew.drew ?_) | (with_reducible refine Grew.drewN ?_ _) | (with_reducible refine Grew.setCell ?_ ?_ _) | go_size))⟩
theorem r_hull_bad (l : List Pt) (v : Value) (w : World) (hs : Sl w v l) (h2 : l.length ≤ 4000) (h : l = [] ∨ ¬ Plcs l) : Calls Try.prog 13 #[v] w (Empty 1 w) := by
  by_cases h0 : l = []
  · subst h0; exact r_hull_none v w hs
  · obtain ⟨b, o, c, rfl, hr⟩ := hs.row h0
    have hp : ¬ Plcs l := h.elim (fun e => absurd e h0) id
    have p1 : 0 < l.length := List.length_pos_iff.2 h0
    have n0 : ((l.length : Int) == 0) = false := by rw [beq_eq_false_iff_ne]; omega
    have h4 : (l.length : Int) ≤ 4000 := by omega
    have PB := Lib.hid ((places_any l b o c · · (by omega)) )
    have HR := Lib.hid hr
    have HP := Lib.hid hp
    clear hs hr hp h h0 p1
    go_enter Try.func13, Try.ntmps13
    go_wp2_with fail
    refine ((PB.out _ HR.out).mono fun _ _ t => t.un HP.out).mono ?_
    rintro e w1 ⟨rfl, G1⟩
    go_wp2_with fail
    go_ret2
    exact ⟨_, rfl, Or.inl ⟨rfl, none, 0, rfl⟩, by (repeat' (first | (with_reducible exact Grew.refl _) | (with_reducible assumption) | (with_reducible refine Grew.alloc ?_ _ _) | (with_reducible refine Grew.drew ?_) | (with_reducible refine Grew.drewN ?_ _) | (with_reducible refine Grew.setCell ?_ ?_ _) | go_size))⟩
theorem r_hull_ok (l : List Pt) (v : Value) (w : World) (hs : Sl w v l) (h2 : l.length ≤ 4000) (h0 : l ≠ []) (hp : Plcs l) : Calls Try.prog 13 #[v] w (HullSays l w) := by
  obtain ⟨b, o, c, rfl, hr⟩ := hs.row h0
  have p1 : 0 < l.length := List.length_pos_iff.2 h0
  have n0 : ((l.length : Int) == 0) = false := by rw [beq_eq_false_iff_ne]; omega
  have h4 : (l.length : Int) ≤ 4000 := by omega
  have PB := Lib.hid ((places_any l b o c · · (by omega)) )
  have AB := Lib.hid ((around_any l b o c · · (by omega) (by omega) hp))
  have HR := Lib.hid hr
  have HP := Lib.hid hp
  clear hs hr hp h0 p1
  go_enter Try.func13, Try.ntmps13
  go_wp2_with fail
  refine ((PB.out _ HR.out).mono fun _ _ t => t.to HP.out).mono ?_
  rintro e w1 ⟨rfl, G1⟩
  go_wp2_with fail
  refine (AB.out _ (HR.out.grown (by (repeat' (first | (with_reducible exact Grew.refl _) | (with_reducible assumption) | (with_reducible refine Grew.alloc ?_ _ _) | (with_reducible refine Grew.drew ?_) | (with_reducible refine Grew.drewN ?_ _) | (with_reducible refine Grew.setCell ?_ ?_ _) | go_size))))).mono ?_
  rintro e w2 ⟨v, q, hq, rfl, hs, g2⟩
  have G2 : Grew w w2 := Grew.trans (by (repeat' (first | (with_reducible exact Grew.refl _) | (with_reducible assumption) | (with_reducible refine Grew.alloc ?_ _ _) | (with_reducible refine Grew.drew ?_) | (with_reducible refine Grew.drewN ?_ _) | (with_reducible refine Grew.setCell ?_ ?_ _) | go_size))) g2
  have HQ := Lib.hid hq
  have E := Lib.hid hs
  clear g2 hq hs
  obtain ⟨b2, o2, c2, rfl, _⟩ := E.out.row (fun e => by have := HQ.out.1.1; rw [e] at this; exact absurd this (by decide))
  by_cases h6 : q.length ≤ 64
  · have h6' : (q.length : Int) ≤ 64 := by omega
    go_wp2_with fail
    go_ret2
    exact ⟨q, HQ.out, Or.inl ⟨h6, _, rfl, E.out, G2⟩⟩
  · have h6' : (64 : Int) < (q.length : Int) := by omega
    have h7 : 64 < q.length := by omega
    clear h6
    go_wp2_with fail
    go_ret2
    exact ⟨q, HQ.out, Or.inr ⟨h7, _, rfl, Or.inl ⟨rfl, none, 0, rfl⟩, G2⟩⟩
theorem r_has_ok (p : List Pt) (x : Pt) (v : Value) (w : World) (hs : Sl w v p) (hv : Vl p) (hx : Plc x) : Calls Try.prog 18 #[v, .agg #[.int .i64 x.1, .int .i64 x.2]] w (HasSays p x w) := by
  obtain ⟨b, o, c, rfl, hr⟩ := hs.row (fun e => by rw [e] at hv; exact absurd hv.1.1 (by decide))
  have V := Lib.hid hv
  have X := Lib.hid hx
  have HR := Lib.hid hr
  have IN := Lib.hid ((inside_any p x b o c · · hv.2.1 hx hv.1.1 (by have := hv.1.2; omega)))
  have P64 : Hid (p.length ≤ 80) := Lib.hid (by have := hv.1.2; omega)
  clear hs hv hx hr
  go_enter Try.func18, Try.ntmps18
  go_wp2_with fail
  refine (rvalid_yes p _ _ ((Sl.of (c := c) HR.out).grown (by (repeat' (first | (with_reducible exact Grew.refl _) | (with_reducible assumption) | (with_reducible refine Grew.alloc ?_ _ _) | (with_reducible refine Grew.drew ?_) | (with_reducible refine Grew.drewN ?_ _) | (with_reducible refine Grew.setCell ?_ ?_ _) | go_size)))) P64.out V.out).mono ?_
  rintro e w1 ⟨rfl, g1⟩
  obtain ⟨c1, f1, z1⟩ := laid g1
  try simp at z1
  have G1 : Grew w w1 := Grew.trans (by (repeat' (first | (with_reducible exact Grew.refl _) | (with_reducible assumption) | (with_reducible refine Grew.alloc ?_ _ _) | (with_reducible refine Grew.drew ?_) | (with_reducible refine Grew.drewN ?_ _) | (with_reducible refine Grew.setCell ?_ ?_ _) | go_size))) g1
  clear g1
  have z1_0 : w.heap.size < w1.heap.size := by omega
  go_wp2_with fail
  refine (rplace_yes x _ X.out).mono ?_
  rintro e w1 ⟨rfl, g1⟩
  obtain ⟨c1, f1, z1⟩ := laid g1
  try simp at z1
  have G1 : Grew w w1 := Grew.trans (by (repeat' (first | (with_reducible exact Grew.refl _) | (with_reducible assumption) | (with_reducible refine Grew.alloc ?_ _ _) | (with_reducible refine Grew.drew ?_) | (with_reducible refine Grew.drewN ?_ _) | (with_reducible refine Grew.setCell ?_ ?_ _) | go_size))) g1
  clear g1
  have z1_0 : w.heap.size < w1.heap.size := by omega
  go_wp2_with fail
  refine (IN.out _ (HR.out.grown (by (repeat' (first | (with_reducible exact Grew.refl _) | (with_reducible assumption) | (with_reducible refine Grew.alloc ?_ _ _) | (with_reducible refine Grew.drew ?_) | (with_reducible refine Grew.drewN ?_ _) | (with_reducible refine Grew.setCell ?_ ?_ _) | go_size))))).mono ?_
  rintro e w3 ⟨r, rfl, hr, g3⟩
  have G3 : Grew w w3 := Grew.trans (by (repeat' (first | (with_reducible exact Grew.refl _) | (with_reducible assumption) | (with_reducible refine Grew.alloc ?_ _ _) | (with_reducible refine Grew.drew ?_) | (with_reducible refine Grew.drewN ?_ _) | (with_reducible refine Grew.setCell ?_ ?_ _) | go_size))) g3
  clear g3
  go_wp2_with fail
  go_ret2
  exact ⟨r, rfl, hr, G3⟩

end Hl
end Go.Proofs.Ythcfbfgfpophmaa
