/-
  The reference's Corners, Box, Octagon, Eight; Has of what is no polygon.
-/
import Derived.Test.YthcfbfgfpophmaaHullRB
import Derived.Test.YthcfbfgfpophmaaHullOct
import Derived.RegionTactic
import Derived.ChangeAlike
namespace Go.Proofs.Ythcfbfgfpophmaa
open Go.RowKit
namespace Hl
theorem min_bd {p : List Pt} {u v m : Int} (hp : Plcs p) (hu : u = -1 ∨ u = 0 ∨ u = 1) (hv : v = -1 ∨ v = 0 ∨ v = 1) (h : IsMin p u v m) : -1000000 ≤ m ∧ m ≤ 1000000 := by
  obtain ⟨⟨x, hx, e⟩, _⟩ := h
  obtain ⟨i, hi, ei⟩ := mem_at hx
  have := hp i hi
  rw [ei] at this
  obtain ⟨_, _⟩ := one_bd hu this.1
  obtain ⟨_, _⟩ := one_bd hv this.2
  omega
def CornersSays (p : List Pt) (w : World) (e : Ending) (w' : World) : Prop := ∃ lo hi : Pt, IsBox p lo hi ∧ e = .returned (.tuple #[.agg #[.int .i64 lo.1, .int .i64 lo.2], .agg #[.int .i64 hi.1, .int .i64 hi.2]]) ∧ Grew w w'
set_option maxRecDepth 100000 in
set_option maxHeartbeats 2000000 in
theorem corners_any (p : List Pt) (b o c : Nat) (w : World) (hr : Row w b o p) (hp : Plcs p) (h1 : 1 ≤ p.length) (h2 : p.length ≤ 9223372036854775807) : Calls Try.prog 41 #[.slice (some ⟨b, o, none⟩) p.length c] w (CornersSays p w) := by
  have HR := Lib.hid hr
  have PL := Lib.hid hp
  have L1 := Lib.hid h1
  have L2 := Lib.hid h2
  clear hr hp h1 h2
  go_enter Try.func41, Try.ntmps41
  go_wp2_with fail
  refine (bounds_any p (1) (0) (by decide) (by decide) b o c _ (HR.out.grown (by (repeat' (first | (with_reducible exact Grew.refl _) | (with_reducible assumption) | (with_reducible refine Grew.alloc ?_ _ _) | (with_reducible refine Grew.drew ?_) | (with_reducible refine Grew.drewN ?_ _) | (with_reducible refine Grew.setCell ?_ ?_ _) | go_size)))) PL.out L1.out L2.out).mono ?_
  rintro e w1 ⟨x0, x1, m1, n1, rfl, g1⟩
  have G1 : Grew w w1 := Grew.trans (by (repeat' (first | (with_reducible exact Grew.refl _) | (with_reducible assumption) | (with_reducible refine Grew.alloc ?_ _ _) | (with_reducible refine Grew.drew ?_) | (with_reducible refine Grew.drewN ?_ _) | (with_reducible refine Grew.setCell ?_ ?_ _) | go_size))) g1
  have M1 := Lib.hid m1
  have N1 := Lib.hid n1
  obtain ⟨x00, x01⟩ := min_bd (u := 1) (v := 0) PL.out (by decide) (by decide) m1
  obtain ⟨x10, x11⟩ := min_bd (u := -(1)) (v := -(0)) PL.out (by decide) (by decide) n1
  clear m1 n1
  obtain ⟨c1, f1, z1⟩ := laid g1
  try simp at z1
  clear g1
  have y0 : w.heap.size < w1.heap.size := by omega
  have y1 : w.heap.size + 1 < w1.heap.size := by omega
  go_wp2_with fail
  refine (bounds_any p (0) (1) (by decide) (by decide) b o c _ (HR.out.grown (by (repeat' (first | (with_reducible exact Grew.refl _) | (with_reducible assumption) | (with_reducible refine Grew.alloc ?_ _ _) | (with_reducible refine Grew.drew ?_) | (with_reducible refine Grew.drewN ?_ _) | (with_reducible refine Grew.setCell ?_ ?_ _) | go_size)))) PL.out L1.out L2.out).mono ?_
  rintro e w2 ⟨y2, y3, m2, n2, rfl, g2⟩
  have G2 : Grew w w2 := Grew.trans (by (repeat' (first | (with_reducible exact Grew.refl _) | (with_reducible assumption) | (with_reducible refine Grew.alloc ?_ _ _) | (with_reducible refine Grew.drew ?_) | (with_reducible refine Grew.drewN ?_ _) | (with_reducible refine Grew.setCell ?_ ?_ _) | go_size))) g2
  have M2 := Lib.hid m2
  have N2 := Lib.hid n2
  obtain ⟨y20, y21⟩ := min_bd (u := 0) (v := 1) PL.out (by decide) (by decide) m2
  obtain ⟨y30, y31⟩ := min_bd (u := -(0)) (v := -(1)) PL.out (by decide) (by decide) n2
  clear m2 n2
  obtain ⟨c2, f2, z2⟩ := laid g2
  try simp at z2
  clear g2
  have y4 : w.heap.size < w2.heap.size := by omega
  have y5 : w.heap.size + 1 < w2.heap.size := by omega
  have k0 : w2.cell? ⟨w.heap.size, 0, none⟩ = some (.int .i64 0) := by simp [go_sem, *]
  have h0 : w2.frozen? ⟨w.heap.size, 0, none⟩ = false := by simp [go_sem, *]
  have k1 : w2.cell? ⟨w.heap.size, 1, none⟩ = some (.int .i64 0) := by simp [go_sem, *]
  have h1 : w2.frozen? ⟨w.heap.size, 1, none⟩ = false := by simp [go_sem, *]
  have k2 : w2.cell? ⟨w.heap.size + 1, 0, none⟩ = some (.int .i64 0) := by simp [go_sem, *]
  have h2 : w2.frozen? ⟨w.heap.size + 1, 0, none⟩ = false := by simp [go_sem, *]
  have k3 : w2.cell? ⟨w.heap.size + 1, 1, none⟩ = some (.int .i64 0) := by simp [go_sem, *]
  have h3 : w2.frozen? ⟨w.heap.size + 1, 1, none⟩ = false := by simp [go_sem, *]
  clear c1 f1 c2 f2
  go_wp2_with fail
  refine bodyPost_ret (v := .tuple #[.agg #[.int .i64 x0, .int .i64 y2], .agg #[.int .i64 x1, .int .i64 y3]]) (by simp [results, Try.results41, go_sem, *]) rfl (show CornersSays p w (.returned (.tuple #[.agg #[.int .i64 x0, .int .i64 y2], .agg #[.int .i64 x1, .int .i64 y3]])) _ from ⟨(x0, y2), (x1, y3), ⟨M1.out, by simpa using N1.out, M2.out, by simpa using N2.out⟩, rfl, by (repeat' (first | (with_reducible exact Grew.refl _) | (with_reducible assumption) | (with_reducible refine Grew.alloc ?_ _ _) | (with_reducible refine Grew.drew ?_) | (with_reducible refine Grew.drewN ?_ _) | (with_reducible refine Grew.setCell ?_ ?_ _) | go_size))⟩)
set_option maxRecDepth 100000 in
set_option maxHeartbeats 2000000 in
theorem r_box_ok (p : List Pt) (v : Value) (w : World) (hs : Sl w v p) (hv : Vl p) : Calls Try.prog 20 #[v] w (BoxSays p w) := by
  obtain ⟨b, o, c, rfl, hr⟩ := hs.row (fun e => by rw [e] at hv; exact absurd hv.1.1 (by decide))
  have V := Lib.hid hv
  have HR := Lib.hid hr
  have P64 : Hid (p.length ≤ 80) := Lib.hid (by have := hv.1.2; omega)
  have CO := Lib.hid (corners_any p b o c · · hv.2.1 hv.1.1 (by have := hv.1.2; omega))
  clear hs hv hr
  go_enter Try.func20, Try.ntmps20
  go_wp2_with fail
  refine (rvalid_yes p _ _ ((Sl.of (c := c) HR.out).grown (by (repeat' (first | (with_reducible exact Grew.refl _) | (with_reducible assumption) | (with_reducible refine Grew.alloc ?_ _ _) | (with_reducible refine Grew.drew ?_) | (with_reducible refine Grew.drewN ?_ _) | (with_reducible refine Grew.setCell ?_ ?_ _) | go_size)))) P64.out V.out).mono ?_
  rintro e w1 ⟨rfl, g1⟩
  obtain ⟨c1, f1, z1⟩ := laid g1
  try simp at z1
  have G1 : Grew w w1 := Grew.trans (by (repeat' (first | (with_reducible exact Grew.refl _) | (with_reducible assumption) | (with_reducible refine Grew.alloc ?_ _ _) | (with_reducible refine Grew.drew ?_) | (with_reducible refine Grew.drewN ?_ _) | (with_reducible refine Grew.setCell ?_ ?_ _) | go_size))) g1
  clear g1
  have y0 : w.heap.size < w1.heap.size := by omega
  have y1 : w.heap.size + 1 < w1.heap.size := by omega
  go_wp2_with fail
  refine (CO.out _ (HR.out.grown (by (repeat' (first | (with_reducible exact Grew.refl _) | (with_reducible assumption) | (with_reducible refine Grew.alloc ?_ _ _) | (with_reducible refine Grew.drew ?_) | (with_reducible refine Grew.drewN ?_ _) | (with_reducible refine Grew.setCell ?_ ?_ _) | go_size))))).mono ?_
  rintro e w2 ⟨lo, hi, hb, rfl, g2⟩
  have HB := Lib.hid hb
  obtain ⟨c2, f2, z2⟩ := laid g2
  try simp at z2
  have G2 : Grew w w2 := Grew.trans (by (repeat' (first | (with_reducible exact Grew.refl _) | (with_reducible assumption) | (with_reducible refine Grew.alloc ?_ _ _) | (with_reducible refine Grew.drew ?_) | (with_reducible refine Grew.drewN ?_ _) | (with_reducible refine Grew.setCell ?_ ?_ _) | go_size))) g2
  clear g2 hb
  have y4 : w.heap.size < w2.heap.size := by omega
  have y5 : w.heap.size + 1 < w2.heap.size := by omega
  have k0 : w2.cell? ⟨w.heap.size, 0, none⟩ = some (.int .i64 0) := by simp [go_sem, *]
  have h0 : w2.frozen? ⟨w.heap.size, 0, none⟩ = false := by simp [go_sem, *]
  have k1 : w2.cell? ⟨w.heap.size, 1, none⟩ = some (.int .i64 0) := by simp [go_sem, *]
  have h1 : w2.frozen? ⟨w.heap.size, 1, none⟩ = false := by simp [go_sem, *]
  have k2 : w2.cell? ⟨w.heap.size + 1, 0, none⟩ = some (.int .i64 0) := by simp [go_sem, *]
  have h2 : w2.frozen? ⟨w.heap.size + 1, 0, none⟩ = false := by simp [go_sem, *]
  have k3 : w2.cell? ⟨w.heap.size + 1, 1, none⟩ = some (.int .i64 0) := by simp [go_sem, *]
  have h3 : w2.frozen? ⟨w.heap.size + 1, 1, none⟩ = false := by simp [go_sem, *]
  clear c1 f1 c2 f2
  go_wp2_with fail
  go_region
  all_goals
    go_wp2_with fail
    refine bodyPost_ret (v := .tuple #[.agg #[.int .i64 lo.1, .int .i64 lo.2], .agg #[.int .i64 hi.1, .int .i64 hi.2], .int .i64 0]) (by simp [results, Try.results20, go_sem, *]) rfl (show BoxSays p w (.returned (.tuple #[.agg #[.int .i64 lo.1, .int .i64 lo.2], .agg #[.int .i64 hi.1, .int .i64 hi.2], .int .i64 0])) _ from ⟨lo, hi, HB.out, rfl, by (repeat' (first | (with_reducible exact Grew.refl _) | (with_reducible assumption) | (with_reducible refine Grew.alloc ?_ _ _) | (with_reducible refine Grew.drew ?_) | (with_reducible refine Grew.drewN ?_ _) | (with_reducible refine Grew.setCell ?_ ?_ _) | go_size))⟩)
set_option maxRecDepth 100000 in
set_option maxHeartbeats 2000000 in
theorem r_box_bad (p : List Pt) (v : Value) (w : World) (hs : Sl w v p) (h2 : p.length ≤ 9223372036854775807) (hv : ¬ Vl p) : Calls Try.prog 20 #[v] w fun e w' => e = .returned (.tuple #[.agg #[.int .i64 ((0, 0) : Pt).1, .int .i64 ((0, 0) : Pt).2], .agg #[.int .i64 ((0, 0) : Pt).1, .int .i64 ((0, 0) : Pt).2], .int .i64 1]) ∧ Grew w w' := by
  have V := Lib.hid hv
  have HS := Lib.hid hs
  have L2 := Lib.hid h2
  clear hs hv h2
  go_enter Try.func20, Try.ntmps20
  go_wp2_with fail
  refine ((rvalid_any p v _ (HS.out.grown (by (repeat' (first | (with_reducible exact Grew.refl _) | (with_reducible assumption) | (with_reducible refine Grew.alloc ?_ _ _) | (with_reducible refine Grew.drew ?_) | (with_reducible refine Grew.drewN ?_ _) | (with_reducible refine Grew.setCell ?_ ?_ _) | go_size)))) L2.out).mono fun _ _ t => t.un V.out).mono ?_
  rintro e w1 ⟨rfl, g1⟩
  obtain ⟨c1, f1, z1⟩ := laid g1
  try simp at z1
  have G1 : Grew w w1 := Grew.trans (by (repeat' (first | (with_reducible exact Grew.refl _) | (with_reducible assumption) | (with_reducible refine Grew.alloc ?_ _ _) | (with_reducible refine Grew.drew ?_) | (with_reducible refine Grew.drewN ?_ _) | (with_reducible refine Grew.setCell ?_ ?_ _) | go_size))) g1
  clear g1
  have y0 : w.heap.size < w1.heap.size := by omega
  have y1 : w.heap.size + 1 < w1.heap.size := by omega
  have k0 : w1.cell? ⟨w.heap.size, 0, none⟩ = some (.int .i64 0) := by simp [go_sem, *]
  have h0 : w1.frozen? ⟨w.heap.size, 0, none⟩ = false := by simp [go_sem, *]
  have k1 : w1.cell? ⟨w.heap.size, 1, none⟩ = some (.int .i64 0) := by simp [go_sem, *]
  have h1 : w1.frozen? ⟨w.heap.size, 1, none⟩ = false := by simp [go_sem, *]
  have k2 : w1.cell? ⟨w.heap.size + 1, 0, none⟩ = some (.int .i64 0) := by simp [go_sem, *]
  have h2 : w1.frozen? ⟨w.heap.size + 1, 0, none⟩ = false := by simp [go_sem, *]
  have k3 : w1.cell? ⟨w.heap.size + 1, 1, none⟩ = some (.int .i64 0) := by simp [go_sem, *]
  have h3 : w1.frozen? ⟨w.heap.size + 1, 1, none⟩ = false := by simp [go_sem, *]
  clear c1 f1
  go_wp2_with fail
  refine bodyPost_ret (v := .tuple #[.agg #[.int .i64 0, .int .i64 0], .agg #[.int .i64 0, .int .i64 0], .int .i64 1]) (by simp [results, Try.results20, go_sem, *]) rfl ⟨rfl, by (repeat' (first | (with_reducible exact Grew.refl _) | (with_reducible assumption) | (with_reducible refine Grew.alloc ?_ _ _) | (with_reducible refine Grew.drew ?_) | (with_reducible refine Grew.drewN ?_ _) | (with_reducible refine Grew.setCell ?_ ?_ _) | go_size))⟩
theorem r_has_bad (p : List Pt) (x : Pt) (v : Value) (w : World) (hs : Sl w v p) (h2 : p.length ≤ 9223372036854775807) (h : ¬ (Vl p ∧ Plc x)) : Calls Try.prog 18 #[v, .agg #[.int .i64 x.1, .int .i64 x.2]] w fun e w' => e = .returned (.tuple #[.bool false, .int .i64 1]) ∧ Grew w w' := by
  have HS := Lib.hid hs
  have L2 := Lib.hid h2
  by_cases hv : Vl p
  · have V := Lib.hid hv
    have X : Hid (¬ Plc x) := Lib.hid (fun t => h ⟨hv, t⟩)
    clear hs h2 h hv
    go_enter Try.func18, Try.ntmps18
    go_wp2_with fail
    refine (((rvalid_any p v _ (HS.out.grown (by (repeat' (first | (with_reducible exact Grew.refl _) | (with_reducible assumption) | (with_reducible refine Grew.alloc ?_ _ _) | (with_reducible refine Grew.drew ?_) | (with_reducible refine Grew.drewN ?_ _) | (with_reducible refine Grew.setCell ?_ ?_ _) | go_size)))) L2.out).mono fun _ _ t => t.to V.out)).mono ?_
    rintro e w1 ⟨rfl, g1⟩
    obtain ⟨c1, f1, z1⟩ := laid g1
    try simp at z1
    have G1 : Grew w w1 := Grew.trans (by (repeat' (first | (with_reducible exact Grew.refl _) | (with_reducible assumption) | (with_reducible refine Grew.alloc ?_ _ _) | (with_reducible refine Grew.drew ?_) | (with_reducible refine Grew.drewN ?_ _) | (with_reducible refine Grew.setCell ?_ ?_ _) | go_size))) g1
    clear g1
    have z1_0 : w.heap.size < w1.heap.size := by omega
    go_wp2_with fail
    refine (rplace_no x _ X.out).mono ?_
    rintro e w2 ⟨rfl, g2⟩
    obtain ⟨c2, f2, z2⟩ := laid g2
    try simp at z2
    have G2 : Grew w w2 := Grew.trans (by (repeat' (first | (with_reducible exact Grew.refl _) | (with_reducible assumption) | (with_reducible refine Grew.alloc ?_ _ _) | (with_reducible refine Grew.drew ?_) | (with_reducible refine Grew.drewN ?_ _) | (with_reducible refine Grew.setCell ?_ ?_ _) | go_size))) g2
    clear g2
    have z2_0 : w.heap.size < w2.heap.size := by omega
    go_wp2_with fail
    go_ret2
    exact ⟨rfl, by (repeat' (first | (with_reducible exact Grew.refl _) | (with_reducible assumption) | (with_reducible refine Grew.alloc ?_ _ _) | (with_reducible refine Grew.drew ?_) | (with_reducible refine Grew.drewN ?_ _) | (with_reducible refine Grew.setCell ?_ ?_ _) | go_size))⟩
  · have V := Lib.hid hv
    clear hs h2 h hv
    go_enter Try.func18, Try.ntmps18
    go_wp2_with fail
    refine (((rvalid_any p v _ (HS.out.grown (by (repeat' (first | (with_reducible exact Grew.refl _) | (with_reducible assumption) | (with_reducible refine Grew.alloc ?_ _ _) | (with_reducible refine Grew.drew ?_) | (with_reducible refine Grew.drewN ?_ _) | (with_reducible refine Grew.setCell ?_ ?_ _) | go_size)))) L2.out).mono fun _ _ t => t.un V.out)).mono ?_
    rintro e w1 ⟨rfl, g1⟩
    obtain ⟨c1, f1, z1⟩ := laid g1
    try simp at z1
    have G1 : Grew w w1 := Grew.trans (by (repeat' (first | (with_reducible exact Grew.refl _) | (with_reducible assumption) | (with_reducible refine Grew.alloc ?_ _ _) | (with_reducible refine Grew.drew ?_) | (with_reducible refine Grew.drewN ?_ _) | (with_reducible refine Grew.setCell ?_ ?_ _) | go_size))) g1
    clear g1
    have z1_0 : w.heap.size < w1.heap.size := by omega
    go_wp2_with fail
    go_ret2
    exact ⟨rfl, by (repeat' (first | (with_reducible exact Grew.refl _) | (with_reducible assumption) | (with_reducible refine Grew.alloc ?_ _ _) | (with_reducible refine Grew.drew ?_) | (with_reducible refine Grew.drewN ?_ _) | (with_reducible refine Grew.setCell ?_ ?_ _) | go_size))⟩

def OctSays (p : List Pt) (w : World) (e : Ending) (w' : World) : Prop := ∃ q v, IsOct p q ∧ e = .returned v ∧ Sl w' v q ∧ Grew w w'
theorem oct_plcs {p : List Pt} {a b c d s t i j : Int} (hp : Plcs p) (h1 : IsMin p 1 0 a) (h2 : IsMin p (-1) 0 (-b)) (h3 : IsMin p 0 1 c) (h4 : IsMin p 0 (-1) (-d)) (h5 : IsMin p 1 1 s) (h6 : IsMin p (-1) (-1) (-t)) (h7 : IsMin p 1 (-1) i) (h8 : IsMin p (-1) 1 (-j)) : Plcs (octL a b c d s t i j) := by
  obtain ⟨B, _⟩ := bd_of h1 h2 h3 h4 h5 h6 h7 h8
  refine plcs_of (fun x hx => ?_)
  have hk := oct_keeps B x hx
  obtain ⟨y1, g1, e1⟩ := h1.1
  obtain ⟨y2, g2, e2⟩ := h2.1
  obtain ⟨y3, g3, e3⟩ := h3.1
  obtain ⟨y4, g4, e4⟩ := h4.1
  obtain ⟨n1, l1, r1⟩ := mem_at g1
  obtain ⟨n2, l2, r2⟩ := mem_at g2
  obtain ⟨n3, l3, r3⟩ := mem_at g3
  obtain ⟨n4, l4, r4⟩ := mem_at g4
  have p1 := hp n1 l1
  have p2 := hp n2 l2
  have p3 := hp n3 l3
  have p4 := hp n4 l4
  rw [r1] at p1
  rw [r2] at p2
  rw [r3] at p3
  rw [r4] at p4
  unfold Keeps at hk
  unfold Plc at p1 p2 p3 p4 ⊢
  omega
set_option maxRecDepth 100000 in
set_option maxHeartbeats 2000000 in
theorem octagon_any (p : List Pt) (b o c : Nat) (w : World) (hr : Row w b o p) (hp : Plcs p) (h1 : 1 ≤ p.length) (h2 : p.length ≤ 9223372036854775807) : Calls Try.prog 45 #[.slice (some ⟨b, o, none⟩) p.length c] w (OctSays p w) := by
  have HR := Lib.hid hr
  have PL := Lib.hid hp
  have L1 := Lib.hid h1
  have L2 := Lib.hid h2
  clear hr hp h1 h2
  go_enter Try.func45, Try.ntmps45
  go_wp2_with fail
  refine (bounds_any p (1) (0) (by decide) (by decide) b o c _ (HR.out.grown (by (repeat' (first | (with_reducible exact Grew.refl _) | (with_reducible assumption) | (with_reducible refine Grew.alloc ?_ _ _) | (with_reducible refine Grew.drew ?_) | (with_reducible refine Grew.drewN ?_ _) | (with_reducible refine Grew.setCell ?_ ?_ _) | go_size)))) PL.out L1.out L2.out).mono ?_
  rintro e w1 ⟨xa, xb, m1, n1, rfl, g1⟩
  have G1 : Grew w w1 := Grew.trans (by (repeat' (first | (with_reducible exact Grew.refl _) | (with_reducible assumption) | (with_reducible refine Grew.alloc ?_ _ _) | (with_reducible refine Grew.drew ?_) | (with_reducible refine Grew.drewN ?_ _) | (with_reducible refine Grew.setCell ?_ ?_ _) | go_size))) g1
  have M1 := Lib.hid m1
  have N1 := Lib.hid n1
  obtain ⟨xa0, xa1⟩ := min_bd (u := 1) (v := 0) PL.out (by decide) (by decide) m1
  obtain ⟨xb0, xb1⟩ := min_bd (u := -(1)) (v := -(0)) PL.out (by decide) (by decide) n1
  clear m1 n1
  clear g1
  go_wp2_with fail
  refine (bounds_any p (0) (1) (by decide) (by decide) b o c _ (HR.out.grown (by (repeat' (first | (with_reducible exact Grew.refl _) | (with_reducible assumption) | (with_reducible refine Grew.alloc ?_ _ _) | (with_reducible refine Grew.drew ?_) | (with_reducible refine Grew.drewN ?_ _) | (with_reducible refine Grew.setCell ?_ ?_ _) | go_size)))) PL.out L1.out L2.out).mono ?_
  rintro e w2 ⟨xc, xd, m2, n2, rfl, g2⟩
  have G2 : Grew w w2 := Grew.trans (by (repeat' (first | (with_reducible exact Grew.refl _) | (with_reducible assumption) | (with_reducible refine Grew.alloc ?_ _ _) | (with_reducible refine Grew.drew ?_) | (with_reducible refine Grew.drewN ?_ _) | (with_reducible refine Grew.setCell ?_ ?_ _) | go_size))) g2
  have M2 := Lib.hid m2
  have N2 := Lib.hid n2
  obtain ⟨xc0, xc1⟩ := min_bd (u := 0) (v := 1) PL.out (by decide) (by decide) m2
  obtain ⟨xd0, xd1⟩ := min_bd (u := -(0)) (v := -(1)) PL.out (by decide) (by decide) n2
  clear m2 n2
  clear g2
  go_wp2_with fail
  refine (bounds_any p (1) (1) (by decide) (by decide) b o c _ (HR.out.grown (by (repeat' (first | (with_reducible exact Grew.refl _) | (with_reducible assumption) | (with_reducible refine Grew.alloc ?_ _ _) | (with_reducible refine Grew.drew ?_) | (with_reducible refine Grew.drewN ?_ _) | (with_reducible refine Grew.setCell ?_ ?_ _) | go_size)))) PL.out L1.out L2.out).mono ?_
  rintro e w3 ⟨xs, xt, m3, n3, rfl, g3⟩
  have G3 : Grew w w3 := Grew.trans (by (repeat' (first | (with_reducible exact Grew.refl _) | (with_reducible assumption) | (with_reducible refine Grew.alloc ?_ _ _) | (with_reducible refine Grew.drew ?_) | (with_reducible refine Grew.drewN ?_ _) | (with_reducible refine Grew.setCell ?_ ?_ _) | go_size))) g3
  have M3 := Lib.hid m3
  have N3 := Lib.hid n3
  obtain ⟨xs0, xs1⟩ := min_bd (u := 1) (v := 1) PL.out (by decide) (by decide) m3
  obtain ⟨xt0, xt1⟩ := min_bd (u := -(1)) (v := -(1)) PL.out (by decide) (by decide) n3
  clear m3 n3
  clear g3
  go_wp2_with fail
  refine (bounds_any p (1) (-1) (by decide) (by decide) b o c _ (HR.out.grown (by (repeat' (first | (with_reducible exact Grew.refl _) | (with_reducible assumption) | (with_reducible refine Grew.alloc ?_ _ _) | (with_reducible refine Grew.drew ?_) | (with_reducible refine Grew.drewN ?_ _) | (with_reducible refine Grew.setCell ?_ ?_ _) | go_size)))) PL.out L1.out L2.out).mono ?_
  rintro e w4 ⟨xi, xj, m4, n4, rfl, g4⟩
  have G4 : Grew w w4 := Grew.trans (by (repeat' (first | (with_reducible exact Grew.refl _) | (with_reducible assumption) | (with_reducible refine Grew.alloc ?_ _ _) | (with_reducible refine Grew.drew ?_) | (with_reducible refine Grew.drewN ?_ _) | (with_reducible refine Grew.setCell ?_ ?_ _) | go_size))) g4
  have M4 := Lib.hid m4
  have N4 := Lib.hid n4
  obtain ⟨xi0, xi1⟩ := min_bd (u := 1) (v := -1) PL.out (by decide) (by decide) m4
  obtain ⟨xj0, xj1⟩ := min_bd (u := -(1)) (v := -(-1)) PL.out (by decide) (by decide) n4
  clear m4 n4
  clear g4
  have a1 := M1.out
  have a2 : IsMin p (-1) 0 (-xb) := by simpa using N1.out
  have a3 := M2.out
  have a4 : IsMin p 0 (-1) (-xd) := by simpa using N2.out
  have a5 := M3.out
  have a6 := N3.out
  have a7 := M4.out
  have a8 : IsMin p (-1) 1 (-xj) := by simpa using N4.out
  have PO := Lib.hid (oct_plcs PL.out a1 a2 a3 a4 a5 a6 a7 a8)
  have IO : Hid (∀ q, IsHull (octL xa xb xc xd xs xt xi xj) q → IsOct p q) := Lib.hid (fun q hq => ⟨xa, xb, xc, xd, xs, xt, xi, xj, a1, a2, a3, a4, a5, a6, a7, a8, hq⟩)
  clear a1 a2 a3 a4 a5 a6 a7 a8
  go_wp2_with fail
  refine (around_any (octL xa xb xc xd xs xt xi xj) _ _ _ _ (row_new (octL xa xb xc xd xs xt xi xj) _ rfl _ _) (by simp [octL]) (by simp [octL]) PO.out).mono ?_
  rintro e w5 ⟨v, q, hq, rfl, hs, g5⟩
  have G5 : Grew w w5 := Grew.trans (by (repeat' (first | (with_reducible exact Grew.refl _) | (with_reducible assumption) | (with_reducible refine Grew.alloc ?_ _ _) | (with_reducible refine Grew.drew ?_) | (with_reducible refine Grew.drewN ?_ _) | (with_reducible refine Grew.setCell ?_ ?_ _) | go_size))) g5
  have E := Lib.hid hs
  have HQ := Lib.hid (IO.out q hq)
  clear g5 hq hs
  go_wp2_with fail
  go_ret
  exact ⟨q, _, HQ.out, rfl, E.out, G5⟩
theorem r_eight_ok (p : List Pt) (v : Value) (w : World) (hs : Sl w v p) (hv : Vl p) : Calls Try.prog 22 #[v] w (EightSays p w) := by
  obtain ⟨b, o, c, rfl, hr⟩ := hs.row (fun e => by rw [e] at hv; exact absurd hv.1.1 (by decide))
  have V := Lib.hid hv
  have HR := Lib.hid hr
  have P64 : Hid (p.length ≤ 80) := Lib.hid (by have := hv.1.2; omega)
  have OC := Lib.hid (octagon_any p b o c · · hv.2.1 hv.1.1 (by have := hv.1.2; omega))
  clear hs hv hr
  go_enter Try.func22, Try.ntmps22
  go_wp2_with fail
  refine (rvalid_yes p _ _ ((Sl.of (c := c) HR.out).grown (by (repeat' (first | (with_reducible exact Grew.refl _) | (with_reducible assumption) | (with_reducible refine Grew.alloc ?_ _ _) | (with_reducible refine Grew.drew ?_) | (with_reducible refine Grew.drewN ?_ _) | (with_reducible refine Grew.setCell ?_ ?_ _) | go_size)))) P64.out V.out).mono ?_
  rintro e w1 ⟨rfl, G1⟩
  go_wp2_with fail
  refine (OC.out _ (HR.out.grown (by (repeat' (first | (with_reducible exact Grew.refl _) | (with_reducible assumption) | (with_reducible refine Grew.alloc ?_ _ _) | (with_reducible refine Grew.drew ?_) | (with_reducible refine Grew.drewN ?_ _) | (with_reducible refine Grew.setCell ?_ ?_ _) | go_size))))).mono ?_
  rintro e w2 ⟨q, v, hq, rfl, hs, g2⟩
  have G2 : Grew w w2 := Grew.trans (by (repeat' (first | (with_reducible exact Grew.refl _) | (with_reducible assumption) | (with_reducible refine Grew.alloc ?_ _ _) | (with_reducible refine Grew.drew ?_) | (with_reducible refine Grew.drewN ?_ _) | (with_reducible refine Grew.setCell ?_ ?_ _) | go_size))) g2
  have E := Lib.hid hs
  have HQ := Lib.hid hq
  clear g2 hq hs
  go_wp2_with fail
  go_ret2
  exact ⟨q, _, HQ.out, rfl, E.out, G2⟩
theorem r_eight_bad (p : List Pt) (v : Value) (w : World) (hs : Sl w v p) (h2 : p.length ≤ 9223372036854775807) (hv : ¬ Vl p) : Calls Try.prog 22 #[v] w (Empty 1 w) := by
  have V := Lib.hid hv
  have HS := Lib.hid hs
  have L2 := Lib.hid h2
  clear hs hv h2
  go_enter Try.func22, Try.ntmps22
  go_wp2_with fail
  refine ((rvalid_any p v _ HS.out L2.out).mono fun _ _ t => t.un V.out).mono ?_
  rintro e w1 ⟨rfl, G1⟩
  go_wp2_with fail
  go_ret2
  exact ⟨_, rfl, Or.inl ⟨rfl, none, 0, rfl⟩, G1⟩
end Hl
end Go.Proofs.Ythcfbfgfpophmaa
