/-
  The law HullLeast, under what package hull owes.
-/
import Derived.Test.YthcfbfgfpophmaaHullHasL
namespace Go.Proofs.Ythcfbfgfpophmaa
open Go.RowKit
namespace Hl

def AllB (r : Bool) (q l : List Pt) (k : Nat) : Prop := r = true ↔ ∀ j, j < k → Hs q (at' l j)
set_option maxRecDepth 100000 in
set_option maxHeartbeats 4000000 in
theorem least_all (K : Code) (l q : List Pt) (v' : Value) (b o c : Nat) (w : World) (L80 : (l.length : Int) ≤ 80) (HR : Hid (Row w b o l)) (HO : Hid (Sl w v' q)) (H : Hid (l.length ≤ 80)) (BL : Hid (l.length ≤ 9223372036854775807)) (H2 : Hid (q.length ≤ 80)) (NE : Hid (l ≠ [])) (PL : Hid (Plcs l)) (V : Hid (Vl q)) (IN : Hid (∀ k, k < l.length → ∀ w, Sl w v' q → Calls Try.prog 25 #[v', .agg #[.int .i64 (at' l k).1, .int .i64 (at' l k).2]] w (Tells (Hs q (at' l k)) w))) : Calls Try.prog 4 #[.slice (some ⟨b, o, none⟩) l.length c, v'] w fun e w' => e = .returned (.bool true) ∧ Grew w w' := by
  go_enter Try.func4, Try.ntmps4
  go_wp2_with fail
  refine (head_true K _).mono ?_
  rintro e w1 ⟨rfl, g1⟩
  obtain ⟨c1, f1, z1⟩ := laid g1
  try simp at z1
  have G1 : Grew w w1 := Grew.trans (by (repeat' (first | (with_reducible exact Grew.refl _) | (with_reducible assumption) | (with_reducible refine Grew.alloc ?_ _ _) | (with_reducible refine Grew.drew ?_) | (with_reducible refine Grew.drewN ?_ _) | (with_reducible refine Grew.setCell ?_ ?_ _) | go_size))) g1
  clear g1
  go_wp2_with fail
  refine (few_yes l _ _ ((Sl.of (c := c) HR.out).grown (by (repeat' (first | (with_reducible exact Grew.refl _) | (with_reducible assumption) | (with_reducible refine Grew.alloc ?_ _ _) | (with_reducible refine Grew.drew ?_) | (with_reducible refine Grew.drewN ?_ _) | (with_reducible refine Grew.setCell ?_ ?_ _) | go_size)))) H.out).mono ?_
  rintro e w2 ⟨rfl, g2⟩
  obtain ⟨c2, f2, z2⟩ := laid g2
  try simp at z2
  have G2 : Grew w w2 := Grew.trans (by (repeat' (first | (with_reducible exact Grew.refl _) | (with_reducible assumption) | (with_reducible refine Grew.alloc ?_ _ _) | (with_reducible refine Grew.drew ?_) | (with_reducible refine Grew.drewN ?_ _) | (with_reducible refine Grew.setCell ?_ ?_ _) | go_size))) g2
  clear g2
  go_wp2_with fail
  refine (few_yes q v' _ (HO.out.grown (by (repeat' (first | (with_reducible exact Grew.refl _) | (with_reducible assumption) | (with_reducible refine Grew.alloc ?_ _ _) | (with_reducible refine Grew.drew ?_) | (with_reducible refine Grew.drewN ?_ _) | (with_reducible refine Grew.setCell ?_ ?_ _) | go_size)))) H2.out).mono ?_
  rintro e w3 ⟨rfl, g3⟩
  obtain ⟨c3, f3, z3⟩ := laid g3
  try simp at z3
  have G3 : Grew w w3 := Grew.trans (by (repeat' (first | (with_reducible exact Grew.refl _) | (with_reducible assumption) | (with_reducible refine Grew.alloc ?_ _ _) | (with_reducible refine Grew.drew ?_) | (with_reducible refine Grew.drewN ?_ _) | (with_reducible refine Grew.setCell ?_ ?_ _) | go_size))) g3
  clear g3
  go_wp2_with fail
  refine (K.hull_ok l _ _ ((Sl.of (c := c) HR.out).grown (by (repeat' (first | (with_reducible exact Grew.refl _) | (with_reducible assumption) | (with_reducible refine Grew.alloc ?_ _ _) | (with_reducible refine Grew.drew ?_) | (with_reducible refine Grew.drewN ?_ _) | (with_reducible refine Grew.setCell ?_ ?_ _) | go_size)))) (by have := H.out; omega) NE.out PL.out).mono ?_
  rintro e w4 ⟨p, hp, ⟨h64, v4, rfl, hs4, g4⟩ | ⟨h64, v4, rfl, hs4, g4⟩⟩
  · obtain ⟨b1, o1, n1, rfl, hq⟩ := hs4.row (fun e => by have := hp.1.1; rw [e] at this; exact absurd this (by decide))
    have HQ := Lib.hid hq
    clear hq hs4
    have ME : Hid (∀ i, i < p.length → at' p i ∈ l) := Lib.hid (fun i hi => hp.2.1 _ (at_mem hi))
    have PP : Hid (Plcs p) := Lib.hid (fun i hi => by
      obtain ⟨j, hj, e⟩ := mem_at (ME.out i hi)
      rw [← e]; exact PL.out j hj)
    have VP : Hid (Vl p) := Lib.hid (vl_of hp.1 h64 PP.out)
    have HI : Hid (∀ i, i < l.length → Hs p (at' l i)) := Lib.hid (fun i hi => hp.2.2 _ (at_mem hi))
    have P64 : (p.length : Int) ≤ 64 := by omega
    clear hp h64
    obtain ⟨c4, f4, z4⟩ := laid g4
    try simp at z4
    have G4 : Grew w w4 := Grew.trans (by (repeat' (first | (with_reducible exact Grew.refl _) | (with_reducible assumption) | (with_reducible refine Grew.alloc ?_ _ _) | (with_reducible refine Grew.drew ?_) | (with_reducible refine Grew.drewN ?_ _) | (with_reducible refine Grew.setCell ?_ ?_ _) | go_size))) g4
    clear g4
    have S4 := HQ.out.1
    go_wp2_with fail
    refine (rvalid_yes q v' _ (HO.out.grown (by (repeat' (first | (with_reducible exact Grew.refl _) | (with_reducible assumption) | (with_reducible refine Grew.alloc ?_ _ _) | (with_reducible refine Grew.drew ?_) | (with_reducible refine Grew.drewN ?_ _) | (with_reducible refine Grew.setCell ?_ ?_ _) | go_size)))) H2.out V.out).mono ?_
    rintro e w5 ⟨rfl, g5⟩
    have R5 : Grew w4 w5 := Grew.trans (by (repeat' (first | (with_reducible exact Grew.refl _) | (with_reducible assumption) | (with_reducible refine Grew.alloc ?_ _ _) | (with_reducible refine Grew.drew ?_) | (with_reducible refine Grew.drewN ?_ _) | (with_reducible refine Grew.setCell ?_ ?_ _) | go_size))) g5
    clear g5
    clear c1 f1 c2 f2 c3 f3 c4 f4
    clear z1 G1 z2 G2 z3 G3
    go_wp2_with fail
    go_loopw [5, 8, 44] (fun u t i wr => ∃ (k : Nat) (r : Bool), k ≤ l.length ∧ u = .bool true ∧ t = .bool r ∧ i = .int .i64 k ∧ Grew w4 wr ∧ AllB r q l k) (fun _ _ i _ => l.length - (intOf i).toNat)
    case atStart => exact ⟨0, true, Nat.zero_le _, rfl, rfl, rfl, R5, ⟨fun _ j hj => by omega, fun _ => rfl⟩⟩
    case round =>
      clear R5
      obtain ⟨k, r, hk, rfl, rfl, rfl, G, D⟩ := hrel
      by_cases hlt : k < l.length
      · cases r
        · obtain ⟨s0, s1⟩ := (HR.out.grown (Grew.trans G4 G)).2 k hlt
          have hb := (HR.out.grown (Grew.trans G4 G)).1
          have i0 : (0 : Int) ≤ (k : Int) := by omega
          have i1 : (k : Int) < (l.length : Int) := by omega
          go_wp2_with fail
          refine (has_yes K p (at' l k) _ _ (Sl.of ((HQ.out.grown G).grown (by (repeat' (first | (with_reducible exact Grew.refl _) | (with_reducible assumption) | (with_reducible refine Grew.alloc ?_ _ _) | (with_reducible refine Grew.drew ?_) | (with_reducible refine Grew.drewN ?_ _) | (with_reducible refine Grew.setCell ?_ ?_ _) | go_size))))) VP.out (PL.out k hlt) (HI.out k hlt)).mono ?_
          rintro e w7 ⟨rfl, g7⟩
          obtain ⟨c7, f7, z7⟩ := laid g7
          try simp at z7
          have G7 : Grew w4 w7 := Grew.trans (by (repeat' (first | (with_reducible exact Grew.refl _) | (with_reducible assumption) | (with_reducible refine Grew.alloc ?_ _ _) | (with_reducible refine Grew.drew ?_) | (with_reducible refine Grew.drewN ?_ _) | (with_reducible refine Grew.setCell ?_ ?_ _) | go_size))) g7
          clear g7
          have z70 : wr.heap.size < w7.heap.size := by omega
          go_wp2_with fail
          have E : AllB false q l (k + 1) := ⟨fun h => (by cases h), fun h => D.2 (fun j hj => h j (by omega))⟩
          go_roundw
          case rel => exact ⟨k + 1, false, by omega, rfl, rfl, by go_num, G7, E⟩
          case measure => simp [intOf]; omega
        · obtain ⟨s0, s1⟩ := (HR.out.grown (Grew.trans G4 G)).2 k hlt
          have hb := (HR.out.grown (Grew.trans G4 G)).1
          have i0 : (0 : Int) ≤ (k : Int) := by omega
          have i1 : (k : Int) < (l.length : Int) := by omega
          go_wp2_with fail
          refine (has_yes K p (at' l k) _ _ (Sl.of ((HQ.out.grown G).grown (by (repeat' (first | (with_reducible exact Grew.refl _) | (with_reducible assumption) | (with_reducible refine Grew.alloc ?_ _ _) | (with_reducible refine Grew.drew ?_) | (with_reducible refine Grew.drewN ?_ _) | (with_reducible refine Grew.setCell ?_ ?_ _) | go_size))))) VP.out (PL.out k hlt) (HI.out k hlt)).mono ?_
          rintro e w7 ⟨rfl, g7⟩
          obtain ⟨c7, f7, z7⟩ := laid g7
          try simp at z7
          have G7 : Grew w4 w7 := Grew.trans (by (repeat' (first | (with_reducible exact Grew.refl _) | (with_reducible assumption) | (with_reducible refine Grew.alloc ?_ _ _) | (with_reducible refine Grew.drew ?_) | (with_reducible refine Grew.drewN ?_ _) | (with_reducible refine Grew.setCell ?_ ?_ _) | go_size))) g7
          clear g7
          have z70 : wr.heap.size < w7.heap.size := by omega
          go_wp2_with fail
          refine (IN.out k hlt _ ((HO.out.grown G4).grown (by (repeat' (first | (with_reducible exact Grew.refl _) | (with_reducible assumption) | (with_reducible refine Grew.alloc ?_ _ _) | (with_reducible refine Grew.drew ?_) | (with_reducible refine Grew.drewN ?_ _) | (with_reducible refine Grew.setCell ?_ ?_ _) | go_size))))).mono ?_
          rintro e w8 ⟨r', rfl, hr', g8⟩
          have G8 : Grew w4 w8 := Grew.trans (by (repeat' (first | (with_reducible exact Grew.refl _) | (with_reducible assumption) | (with_reducible refine Grew.alloc ?_ _ _) | (with_reducible refine Grew.drew ?_) | (with_reducible refine Grew.drewN ?_ _) | (with_reducible refine Grew.setCell ?_ ?_ _) | go_size))) g8
          clear g8
          have E : AllB r' q l (k + 1) := by
            unfold AllB
            rw [hr']
            constructor
            · intro h j hj
              by_cases e : j = k
              · rw [e]; exact h
              · exact (D.1 rfl) j (by omega)
            · intro h; exact h k (by omega)
          clear hr'
          go_wp2_with fail
          cases r'
          all_goals
            go_wp2_with fail
            go_roundw
            case rel => exact ⟨k + 1, by omega, by omega, E⟩
            case measure => simp [intOf]; omega
      · cases r
        · go_wp2_with fail
          obtain ⟨wo, rfl⟩ : ∃ wo : World, wo = wr := ⟨_, rfl⟩
          have Go := G
          clear G
          go_loopw [5, 71] (fun u i wr => ∃ k : Nat, k ≤ p.length ∧ u = .bool true ∧ i = .int .i64 k ∧ Grew w4 wr) (fun _ i _ => p.length - (intOf i).toNat)
          case atStart => exact ⟨0, Nat.zero_le _, rfl, rfl, Go⟩
          case round =>
            clear Go
            obtain ⟨k, hk, rfl, rfl, G⟩ := hrel
            by_cases hlt : k < p.length
            · obtain ⟨s0, s1⟩ := (HQ.out.grown G).2 k hlt
              have hb := (HQ.out.grown G).1
              have i0 : (0 : Int) ≤ (k : Int) := by omega
              have i1 : (k : Int) < (p.length : Int) := by omega
              go_wp2_with fail
              refine (hasl_yes l (at' p k) _ _ _ _ ((HR.out.grown (Grew.trans G4 G)).grown (by (repeat' (first | (with_reducible exact Grew.refl _) | (with_reducible assumption) | (with_reducible refine Grew.alloc ?_ _ _) | (with_reducible refine Grew.drew ?_) | (with_reducible refine Grew.drewN ?_ _) | (with_reducible refine Grew.setCell ?_ ?_ _) | go_size)))) BL.out (ME.out k hlt)).mono ?_
              rintro e w9 ⟨rfl, g9⟩
              obtain ⟨c9, f9, z9⟩ := laid g9
              try simp at z9
              have G9 : Grew w4 w9 := Grew.trans (by (repeat' (first | (with_reducible exact Grew.refl _) | (with_reducible assumption) | (with_reducible refine Grew.alloc ?_ _ _) | (with_reducible refine Grew.drew ?_) | (with_reducible refine Grew.drewN ?_ _) | (with_reducible refine Grew.setCell ?_ ?_ _) | go_size))) g9
              clear g9
              have z90 : wr.heap.size < w9.heap.size := by omega
              go_wp2_with fail
              go_roundw
              case rel => exact ⟨k + 1, by omega, rfl, by go_num, G9⟩
              case measure => simp [intOf]; omega
            · go_wp2_with fail
              refine ((K.valid p _ _ (Sl.of (HQ.out.grown G)) (by omega)).mono fun _ _ t => t.to VP.out).mono ?_
              rintro e w11 ⟨rfl, g11⟩
              have G11 : Grew w4 w11 := Grew.trans (by (repeat' (first | (with_reducible exact Grew.refl _) | (with_reducible assumption) | (with_reducible refine Grew.alloc ?_ _ _) | (with_reducible refine Grew.drew ?_) | (with_reducible refine Grew.drewN ?_ _) | (with_reducible refine Grew.setCell ?_ ?_ _) | go_size))) g11
              clear g11
              go_wp2_with fail
              go_ret
              exact ⟨rfl, Grew.trans G4 G11⟩
        · have AI : Hid (∀ i, i < p.length → Hs q (at' p i)) := Lib.hid (fun i hi => by
            obtain ⟨j, hj, e⟩ := mem_at (ME.out i hi)
            rw [← e]; exact D.1 rfl j (by omega))
          clear D
          go_wp2_with fail
          obtain ⟨wo, rfl⟩ : ∃ wo : World, wo = wr := ⟨_, rfl⟩
          have Go := G
          clear G
          go_loopw [5, 71] (fun u i wr => ∃ k : Nat, k ≤ p.length ∧ u = .bool true ∧ i = .int .i64 k ∧ Grew w4 wr) (fun _ i _ => p.length - (intOf i).toNat)
          case atStart => exact ⟨0, Nat.zero_le _, rfl, rfl, Go⟩
          case round =>
            clear Go
            obtain ⟨k, hk, rfl, rfl, G⟩ := hrel
            by_cases hlt : k < p.length
            · obtain ⟨s0, s1⟩ := (HQ.out.grown G).2 k hlt
              have hb := (HQ.out.grown G).1
              have i0 : (0 : Int) ≤ (k : Int) := by omega
              have i1 : (k : Int) < (p.length : Int) := by omega
              go_wp2_with fail
              refine (hasl_yes l (at' p k) _ _ _ _ ((HR.out.grown (Grew.trans G4 G)).grown (by (repeat' (first | (with_reducible exact Grew.refl _) | (with_reducible assumption) | (with_reducible refine Grew.alloc ?_ _ _) | (with_reducible refine Grew.drew ?_) | (with_reducible refine Grew.drewN ?_ _) | (with_reducible refine Grew.setCell ?_ ?_ _) | go_size)))) BL.out (ME.out k hlt)).mono ?_
              rintro e w9 ⟨rfl, g9⟩
              obtain ⟨c9, f9, z9⟩ := laid g9
              try simp at z9
              have G9 : Grew w4 w9 := Grew.trans (by (repeat' (first | (with_reducible exact Grew.refl _) | (with_reducible assumption) | (with_reducible refine Grew.alloc ?_ _ _) | (with_reducible refine Grew.drew ?_) | (with_reducible refine Grew.drewN ?_ _) | (with_reducible refine Grew.setCell ?_ ?_ _) | go_size))) g9
              clear g9
              have z90 : wr.heap.size < w9.heap.size := by omega
              go_wp2_with fail
              refine (has_yes K q (at' p k) _ _ ((HO.out.grown G4).grown (by (repeat' (first | (with_reducible exact Grew.refl _) | (with_reducible assumption) | (with_reducible refine Grew.alloc ?_ _ _) | (with_reducible refine Grew.drew ?_) | (with_reducible refine Grew.drewN ?_ _) | (with_reducible refine Grew.setCell ?_ ?_ _) | go_size)))) V.out (PP.out k hlt) (AI.out k hlt)).mono ?_
              rintro e w10 ⟨rfl, g10⟩
              obtain ⟨c10, f10, z10⟩ := laid g10
              try simp at z10
              have G10 : Grew w4 w10 := Grew.trans (by (repeat' (first | (with_reducible exact Grew.refl _) | (with_reducible assumption) | (with_reducible refine Grew.alloc ?_ _ _) | (with_reducible refine Grew.drew ?_) | (with_reducible refine Grew.drewN ?_ _) | (with_reducible refine Grew.setCell ?_ ?_ _) | go_size))) g10
              clear g10
              go_wp2_with fail
              go_roundw
              case rel => exact ⟨k + 1, by omega, rfl, by go_num, G10⟩
              case measure => simp [intOf]; omega
            · go_wp2_with fail
              refine ((K.valid p _ _ (Sl.of (HQ.out.grown G)) (by omega)).mono fun _ _ t => t.to VP.out).mono ?_
              rintro e w11 ⟨rfl, g11⟩
              have G11 : Grew w4 w11 := Grew.trans (by (repeat' (first | (with_reducible exact Grew.refl _) | (with_reducible assumption) | (with_reducible refine Grew.alloc ?_ _ _) | (with_reducible refine Grew.drew ?_) | (with_reducible refine Grew.drewN ?_ _) | (with_reducible refine Grew.setCell ?_ ?_ _) | go_size))) g11
              clear g11
              go_wp2_with fail
              go_ret
              exact ⟨rfl, Grew.trans G4 G11⟩
  · obtain ⟨a, n, rfl⟩ := hs4.shape
    have G4 : Grew w w4 := Grew.trans (by (repeat' (first | (with_reducible exact Grew.refl _) | (with_reducible assumption) | (with_reducible refine Grew.alloc ?_ _ _) | (with_reducible refine Grew.drew ?_) | (with_reducible refine Grew.drewN ?_ _) | (with_reducible refine Grew.setCell ?_ ?_ _) | go_size))) g4
    clear g4 hs4 hp h64
    go_wp2_with fail
    go_ret
    exact ⟨rfl, by (repeat' (first | (with_reducible exact Grew.refl _) | (with_reducible assumption) | (with_reducible refine Grew.alloc ?_ _ _) | (with_reducible refine Grew.drew ?_) | (with_reducible refine Grew.drewN ?_ _) | (with_reducible refine Grew.setCell ?_ ?_ _) | go_size))⟩

set_option maxRecDepth 100000 in
set_option maxHeartbeats 4000000 in
theorem least_some (K : Code) (l q : List Pt) (v' : Value) (b o c : Nat) (w : World) (L80 : (l.length : Int) ≤ 80) (HR : Hid (Row w b o l)) (HO : Hid (Sl w v' q)) (H : Hid (l.length ≤ 80)) (BL : Hid (l.length ≤ 9223372036854775807)) (H2 : Hid (q.length ≤ 80)) (NE : Hid (l ≠ [])) (PL : Hid (Plcs l)) (V : Hid (¬ Vl q)) : Calls Try.prog 4 #[.slice (some ⟨b, o, none⟩) l.length c, v'] w fun e w' => e = .returned (.bool true) ∧ Grew w w' := by
  go_enter Try.func4, Try.ntmps4
  go_wp2_with fail
  refine (head_true K _).mono ?_
  rintro e w1 ⟨rfl, g1⟩
  obtain ⟨c1, f1, z1⟩ := laid g1
  try simp at z1
  have G1 : Grew w w1 := Grew.trans (by (repeat' (first | (with_reducible exact Grew.refl _) | (with_reducible assumption) | (with_reducible refine Grew.alloc ?_ _ _) | (with_reducible refine Grew.drew ?_) | (with_reducible refine Grew.drewN ?_ _) | (with_reducible refine Grew.setCell ?_ ?_ _) | go_size))) g1
  clear g1
  go_wp2_with fail
  refine (few_yes l _ _ ((Sl.of (c := c) HR.out).grown (by (repeat' (first | (with_reducible exact Grew.refl _) | (with_reducible assumption) | (with_reducible refine Grew.alloc ?_ _ _) | (with_reducible refine Grew.drew ?_) | (with_reducible refine Grew.drewN ?_ _) | (with_reducible refine Grew.setCell ?_ ?_ _) | go_size)))) H.out).mono ?_
  rintro e w2 ⟨rfl, g2⟩
  obtain ⟨c2, f2, z2⟩ := laid g2
  try simp at z2
  have G2 : Grew w w2 := Grew.trans (by (repeat' (first | (with_reducible exact Grew.refl _) | (with_reducible assumption) | (with_reducible refine Grew.alloc ?_ _ _) | (with_reducible refine Grew.drew ?_) | (with_reducible refine Grew.drewN ?_ _) | (with_reducible refine Grew.setCell ?_ ?_ _) | go_size))) g2
  clear g2
  go_wp2_with fail
  refine (few_yes q v' _ (HO.out.grown (by (repeat' (first | (with_reducible exact Grew.refl _) | (with_reducible assumption) | (with_reducible refine Grew.alloc ?_ _ _) | (with_reducible refine Grew.drew ?_) | (with_reducible refine Grew.drewN ?_ _) | (with_reducible refine Grew.setCell ?_ ?_ _) | go_size)))) H2.out).mono ?_
  rintro e w3 ⟨rfl, g3⟩
  obtain ⟨c3, f3, z3⟩ := laid g3
  try simp at z3
  have G3 : Grew w w3 := Grew.trans (by (repeat' (first | (with_reducible exact Grew.refl _) | (with_reducible assumption) | (with_reducible refine Grew.alloc ?_ _ _) | (with_reducible refine Grew.drew ?_) | (with_reducible refine Grew.drewN ?_ _) | (with_reducible refine Grew.setCell ?_ ?_ _) | go_size))) g3
  clear g3
  go_wp2_with fail
  refine (K.hull_ok l _ _ ((Sl.of (c := c) HR.out).grown (by (repeat' (first | (with_reducible exact Grew.refl _) | (with_reducible assumption) | (with_reducible refine Grew.alloc ?_ _ _) | (with_reducible refine Grew.drew ?_) | (with_reducible refine Grew.drewN ?_ _) | (with_reducible refine Grew.setCell ?_ ?_ _) | go_size)))) (by have := H.out; omega) NE.out PL.out).mono ?_
  rintro e w4 ⟨p, hp, ⟨h64, v4, rfl, hs4, g4⟩ | ⟨h64, v4, rfl, hs4, g4⟩⟩
  · obtain ⟨b1, o1, n1, rfl, hq⟩ := hs4.row (fun e => by have := hp.1.1; rw [e] at this; exact absurd this (by decide))
    have HQ := Lib.hid hq
    clear hq hs4
    have ME : Hid (∀ i, i < p.length → at' p i ∈ l) := Lib.hid (fun i hi => hp.2.1 _ (at_mem hi))
    have PP : Hid (Plcs p) := Lib.hid (fun i hi => by
      obtain ⟨j, hj, e⟩ := mem_at (ME.out i hi)
      rw [← e]; exact PL.out j hj)
    have VP : Hid (Vl p) := Lib.hid (vl_of hp.1 h64 PP.out)
    have HI : Hid (∀ i, i < l.length → Hs p (at' l i)) := Lib.hid (fun i hi => hp.2.2 _ (at_mem hi))
    have P64 : (p.length : Int) ≤ 64 := by omega
    clear hp h64
    obtain ⟨c4, f4, z4⟩ := laid g4
    try simp at z4
    have G4 : Grew w w4 := Grew.trans (by (repeat' (first | (with_reducible exact Grew.refl _) | (with_reducible assumption) | (with_reducible refine Grew.alloc ?_ _ _) | (with_reducible refine Grew.drew ?_) | (with_reducible refine Grew.drewN ?_ _) | (with_reducible refine Grew.setCell ?_ ?_ _) | go_size))) g4
    clear g4
    have S4 := HQ.out.1
    go_wp2_with fail
    refine (rvalid_no q v' _ (HO.out.grown (by (repeat' (first | (with_reducible exact Grew.refl _) | (with_reducible assumption) | (with_reducible refine Grew.alloc ?_ _ _) | (with_reducible refine Grew.drew ?_) | (with_reducible refine Grew.drewN ?_ _) | (with_reducible refine Grew.setCell ?_ ?_ _) | go_size)))) H2.out V.out).mono ?_
    rintro e w5 ⟨rfl, g5⟩
    have R5 : Grew w4 w5 := Grew.trans (by (repeat' (first | (with_reducible exact Grew.refl _) | (with_reducible assumption) | (with_reducible refine Grew.alloc ?_ _ _) | (with_reducible refine Grew.drew ?_) | (with_reducible refine Grew.drewN ?_ _) | (with_reducible refine Grew.setCell ?_ ?_ _) | go_size))) g5
    clear g5
    clear c1 f1 c2 f2 c3 f3 c4 f4
    clear z1 G1 z2 G2 z3 G3
    go_wp2_with fail
    go_loopw [5, 8, 44] (fun u t i wr => ∃ (k : Nat), k ≤ l.length ∧ u = .bool true ∧ t = .bool false ∧ i = .int .i64 k ∧ Grew w4 wr) (fun _ _ i _ => l.length - (intOf i).toNat)
    case atStart => exact ⟨0, Nat.zero_le _, rfl, rfl, rfl, R5⟩
    case round =>
      clear R5
      obtain ⟨k, hk, rfl, rfl, rfl, G⟩ := hrel
      by_cases hlt : k < l.length
      · obtain ⟨s0, s1⟩ := (HR.out.grown (Grew.trans G4 G)).2 k hlt
        have hb := (HR.out.grown (Grew.trans G4 G)).1
        have i0 : (0 : Int) ≤ (k : Int) := by omega
        have i1 : (k : Int) < (l.length : Int) := by omega
        go_wp2_with fail
        refine (has_yes K p (at' l k) _ _ (Sl.of ((HQ.out.grown G).grown (by (repeat' (first | (with_reducible exact Grew.refl _) | (with_reducible assumption) | (with_reducible refine Grew.alloc ?_ _ _) | (with_reducible refine Grew.drew ?_) | (with_reducible refine Grew.drewN ?_ _) | (with_reducible refine Grew.setCell ?_ ?_ _) | go_size))))) VP.out (PL.out k hlt) (HI.out k hlt)).mono ?_
        rintro e w7 ⟨rfl, g7⟩
        obtain ⟨c7, f7, z7⟩ := laid g7
        try simp at z7
        have G7 : Grew w4 w7 := Grew.trans (by (repeat' (first | (with_reducible exact Grew.refl _) | (with_reducible assumption) | (with_reducible refine Grew.alloc ?_ _ _) | (with_reducible refine Grew.drew ?_) | (with_reducible refine Grew.drewN ?_ _) | (with_reducible refine Grew.setCell ?_ ?_ _) | go_size))) g7
        clear g7
        have z70 : wr.heap.size < w7.heap.size := by omega
        go_wp2_with fail
        go_roundw
        case rel => exact ⟨k + 1, by omega, rfl, rfl, by go_num, G7⟩
        case measure => simp [intOf]; omega
      · go_wp2_with fail
        obtain ⟨wo, rfl⟩ : ∃ wo : World, wo = wr := ⟨_, rfl⟩
        have Go := G
        clear G
        go_loopw [5, 71] (fun u i wr => ∃ k : Nat, k ≤ p.length ∧ u = .bool true ∧ i = .int .i64 k ∧ Grew w4 wr) (fun _ i _ => p.length - (intOf i).toNat)
        case atStart => exact ⟨0, Nat.zero_le _, rfl, rfl, Go⟩
        case round =>
          clear Go
          obtain ⟨k, hk, rfl, rfl, G⟩ := hrel
          by_cases hlt : k < p.length
          · obtain ⟨s0, s1⟩ := (HQ.out.grown G).2 k hlt
            have hb := (HQ.out.grown G).1
            have i0 : (0 : Int) ≤ (k : Int) := by omega
            have i1 : (k : Int) < (p.length : Int) := by omega
            go_wp2_with fail
            refine (hasl_yes l (at' p k) _ _ _ _ ((HR.out.grown (Grew.trans G4 G)).grown (by (repeat' (first | (with_reducible exact Grew.refl _) | (with_reducible assumption) | (with_reducible refine Grew.alloc ?_ _ _) | (with_reducible refine Grew.drew ?_) | (with_reducible refine Grew.drewN ?_ _) | (with_reducible refine Grew.setCell ?_ ?_ _) | go_size)))) BL.out (ME.out k hlt)).mono ?_
            rintro e w9 ⟨rfl, g9⟩
            obtain ⟨c9, f9, z9⟩ := laid g9
            try simp at z9
            have G9 : Grew w4 w9 := Grew.trans (by (repeat' (first | (with_reducible exact Grew.refl _) | (with_reducible assumption) | (with_reducible refine Grew.alloc ?_ _ _) | (with_reducible refine Grew.drew ?_) | (with_reducible refine Grew.drewN ?_ _) | (with_reducible refine Grew.setCell ?_ ?_ _) | go_size))) g9
            clear g9
            have z90 : wr.heap.size < w9.heap.size := by omega
            go_wp2_with fail
            go_roundw
            case rel => exact ⟨k + 1, by omega, rfl, by go_num, G9⟩
            case measure => simp [intOf]; omega
          · go_wp2_with fail
            refine ((K.valid p _ _ (Sl.of (HQ.out.grown G)) (by omega)).mono fun _ _ t => t.to VP.out).mono ?_
            rintro e w11 ⟨rfl, g11⟩
            have G11 : Grew w4 w11 := Grew.trans (by (repeat' (first | (with_reducible exact Grew.refl _) | (with_reducible assumption) | (with_reducible refine Grew.alloc ?_ _ _) | (with_reducible refine Grew.drew ?_) | (with_reducible refine Grew.drewN ?_ _) | (with_reducible refine Grew.setCell ?_ ?_ _) | go_size))) g11
            clear g11
            go_wp2_with fail
            go_ret
            exact ⟨rfl, Grew.trans G4 G11⟩
  · obtain ⟨a, n, rfl⟩ := hs4.shape
    have G4 : Grew w w4 := Grew.trans (by (repeat' (first | (with_reducible exact Grew.refl _) | (with_reducible assumption) | (with_reducible refine Grew.alloc ?_ _ _) | (with_reducible refine Grew.drew ?_) | (with_reducible refine Grew.drewN ?_ _) | (with_reducible refine Grew.setCell ?_ ?_ _) | go_size))) g4
    clear g4 hs4 hp h64
    go_wp2_with fail
    go_ret
    exact ⟨rfl, by (repeat' (first | (with_reducible exact Grew.refl _) | (with_reducible assumption) | (with_reducible refine Grew.alloc ?_ _ _) | (with_reducible refine Grew.drew ?_) | (with_reducible refine Grew.drewN ?_ _) | (with_reducible refine Grew.setCell ?_ ?_ _) | go_size))⟩

theorem Empty.shape {k : Int} {w : World} {e : Ending} {w' : World} (h : Empty k w e w') : (∃ a c, e = .returned (.tuple #[.slice a 0 c, .int .i64 k])) ∧ Grew w w' := by
  obtain ⟨v, rfl, hs, g⟩ := h
  obtain ⟨a, c, e⟩ := hs.shape
  subst e
  exact ⟨⟨a, c, rfl⟩, g⟩
set_option maxRecDepth 100000 in
set_option maxHeartbeats 4000000 in
theorem least_empty (K : Code) (l q : List Pt) (v v' : Value) (w : World) (k : Int) (hk : k = 1 ∨ k = 2) (HS : Hid (Sl w v l)) (HO : Hid (Sl w v' q)) (H : Hid (l.length ≤ 80)) (H2 : Hid (q.length ≤ 80)) (EM : Hid (∀ w, Sl w v l → Calls Try.prog 12 #[v] w fun e w' => ∃ a c, e = .returned (.tuple #[.slice a 0 c, .int .i64 k]) ∧ Grew w w')) : Calls Try.prog 4 #[v, v'] w fun e w' => e = .returned (.bool true) ∧ Grew w w' := by
  rcases hk with rfl | rfl
  · skip
    go_enter Try.func4, Try.ntmps4
    go_wp2_with fail
    refine (head_true K _).mono ?_
    rintro e w1 ⟨rfl, g1⟩
    obtain ⟨c1, f1, z1⟩ := laid g1
    try simp at z1
    have G1 : Grew w w1 := Grew.trans (by (repeat' (first | (with_reducible exact Grew.refl _) | (with_reducible assumption) | (with_reducible refine Grew.alloc ?_ _ _) | (with_reducible refine Grew.drew ?_) | (with_reducible refine Grew.drewN ?_ _) | (with_reducible refine Grew.setCell ?_ ?_ _) | go_size))) g1
    clear g1
    go_wp2_with fail
    refine (few_yes l v _ (HS.out.grown (by (repeat' (first | (with_reducible exact Grew.refl _) | (with_reducible assumption) | (with_reducible refine Grew.alloc ?_ _ _) | (with_reducible refine Grew.drew ?_) | (with_reducible refine Grew.drewN ?_ _) | (with_reducible refine Grew.setCell ?_ ?_ _) | go_size)))) H.out).mono ?_
    rintro e w2 ⟨rfl, g2⟩
    obtain ⟨c2, f2, z2⟩ := laid g2
    try simp at z2
    have G2 : Grew w w2 := Grew.trans (by (repeat' (first | (with_reducible exact Grew.refl _) | (with_reducible assumption) | (with_reducible refine Grew.alloc ?_ _ _) | (with_reducible refine Grew.drew ?_) | (with_reducible refine Grew.drewN ?_ _) | (with_reducible refine Grew.setCell ?_ ?_ _) | go_size))) g2
    clear g2
    go_wp2_with fail
    refine (few_yes q v' _ (HO.out.grown (by (repeat' (first | (with_reducible exact Grew.refl _) | (with_reducible assumption) | (with_reducible refine Grew.alloc ?_ _ _) | (with_reducible refine Grew.drew ?_) | (with_reducible refine Grew.drewN ?_ _) | (with_reducible refine Grew.setCell ?_ ?_ _) | go_size)))) H2.out).mono ?_
    rintro e w3 ⟨rfl, g3⟩
    obtain ⟨c3, f3, z3⟩ := laid g3
    try simp at z3
    have G3 : Grew w w3 := Grew.trans (by (repeat' (first | (with_reducible exact Grew.refl _) | (with_reducible assumption) | (with_reducible refine Grew.alloc ?_ _ _) | (with_reducible refine Grew.drew ?_) | (with_reducible refine Grew.drewN ?_ _) | (with_reducible refine Grew.setCell ?_ ?_ _) | go_size))) g3
    clear g3
    go_wp2_with fail
    refine (EM.out _ (HS.out.grown (by (repeat' (first | (with_reducible exact Grew.refl _) | (with_reducible assumption) | (with_reducible refine Grew.alloc ?_ _ _) | (with_reducible refine Grew.drew ?_) | (with_reducible refine Grew.drewN ?_ _) | (with_reducible refine Grew.setCell ?_ ?_ _) | go_size))))).mono ?_
    rintro e w4 ⟨a, c, rfl, g4⟩
    obtain ⟨c4, f4, z4⟩ := laid g4
    try simp at z4
    have G4 : Grew w w4 := Grew.trans (by (repeat' (first | (with_reducible exact Grew.refl _) | (with_reducible assumption) | (with_reducible refine Grew.alloc ?_ _ _) | (with_reducible refine Grew.drew ?_) | (with_reducible refine Grew.drewN ?_ _) | (with_reducible refine Grew.setCell ?_ ?_ _) | go_size))) g4
    clear g4
    go_wp2_with fail
    go_ret
    exact ⟨rfl, by (repeat' (first | (with_reducible exact Grew.refl _) | (with_reducible assumption) | (with_reducible refine Grew.alloc ?_ _ _) | (with_reducible refine Grew.drew ?_) | (with_reducible refine Grew.drewN ?_ _) | (with_reducible refine Grew.setCell ?_ ?_ _) | go_size))⟩
  · skip
    go_enter Try.func4, Try.ntmps4
    go_wp2_with fail
    refine (head_true K _).mono ?_
    rintro e w1 ⟨rfl, g1⟩
    obtain ⟨c1, f1, z1⟩ := laid g1
    try simp at z1
    have G1 : Grew w w1 := Grew.trans (by (repeat' (first | (with_reducible exact Grew.refl _) | (with_reducible assumption) | (with_reducible refine Grew.alloc ?_ _ _) | (with_reducible refine Grew.drew ?_) | (with_reducible refine Grew.drewN ?_ _) | (with_reducible refine Grew.setCell ?_ ?_ _) | go_size))) g1
    clear g1
    go_wp2_with fail
    refine (few_yes l v _ (HS.out.grown (by (repeat' (first | (with_reducible exact Grew.refl _) | (with_reducible assumption) | (with_reducible refine Grew.alloc ?_ _ _) | (with_reducible refine Grew.drew ?_) | (with_reducible refine Grew.drewN ?_ _) | (with_reducible refine Grew.setCell ?_ ?_ _) | go_size)))) H.out).mono ?_
    rintro e w2 ⟨rfl, g2⟩
    obtain ⟨c2, f2, z2⟩ := laid g2
    try simp at z2
    have G2 : Grew w w2 := Grew.trans (by (repeat' (first | (with_reducible exact Grew.refl _) | (with_reducible assumption) | (with_reducible refine Grew.alloc ?_ _ _) | (with_reducible refine Grew.drew ?_) | (with_reducible refine Grew.drewN ?_ _) | (with_reducible refine Grew.setCell ?_ ?_ _) | go_size))) g2
    clear g2
    go_wp2_with fail
    refine (few_yes q v' _ (HO.out.grown (by (repeat' (first | (with_reducible exact Grew.refl _) | (with_reducible assumption) | (with_reducible refine Grew.alloc ?_ _ _) | (with_reducible refine Grew.drew ?_) | (with_reducible refine Grew.drewN ?_ _) | (with_reducible refine Grew.setCell ?_ ?_ _) | go_size)))) H2.out).mono ?_
    rintro e w3 ⟨rfl, g3⟩
    obtain ⟨c3, f3, z3⟩ := laid g3
    try simp at z3
    have G3 : Grew w w3 := Grew.trans (by (repeat' (first | (with_reducible exact Grew.refl _) | (with_reducible assumption) | (with_reducible refine Grew.alloc ?_ _ _) | (with_reducible refine Grew.drew ?_) | (with_reducible refine Grew.drewN ?_ _) | (with_reducible refine Grew.setCell ?_ ?_ _) | go_size))) g3
    clear g3
    go_wp2_with fail
    refine (EM.out _ (HS.out.grown (by (repeat' (first | (with_reducible exact Grew.refl _) | (with_reducible assumption) | (with_reducible refine Grew.alloc ?_ _ _) | (with_reducible refine Grew.drew ?_) | (with_reducible refine Grew.drewN ?_ _) | (with_reducible refine Grew.setCell ?_ ?_ _) | go_size))))).mono ?_
    rintro e w4 ⟨a, c, rfl, g4⟩
    obtain ⟨c4, f4, z4⟩ := laid g4
    try simp at z4
    have G4 : Grew w w4 := Grew.trans (by (repeat' (first | (with_reducible exact Grew.refl _) | (with_reducible assumption) | (with_reducible refine Grew.alloc ?_ _ _) | (with_reducible refine Grew.drew ?_) | (with_reducible refine Grew.drewN ?_ _) | (with_reducible refine Grew.setCell ?_ ?_ _) | go_size))) g4
    clear g4
    go_wp2_with fail
    go_ret
    exact ⟨rfl, by (repeat' (first | (with_reducible exact Grew.refl _) | (with_reducible assumption) | (with_reducible refine Grew.alloc ?_ _ _) | (with_reducible refine Grew.drew ?_) | (with_reducible refine Grew.drewN ?_ _) | (with_reducible refine Grew.setCell ?_ ?_ _) | go_size))⟩

theorem least_true (K : Code) (l q : List Pt) (v v' : Value) (w : World) (hs : Sl w v l) (ho : Sl w v' q) : Calls Try.prog 4 #[v, v'] w fun e w' => e = .returned (.bool true) ∧ Grew w w' := by
  have HS := Lib.hid hs
  have HO := Lib.hid ho
  by_cases h : l.length ≤ 80
  · have H := Lib.hid h
    by_cases h2 : q.length ≤ 80
    · have H2 := Lib.hid h2
      by_cases h0 : l = [] ∨ ¬ Plcs l
      · refine least_empty K l q v v' w 1 (Or.inl rfl) HS HO H H2 (Lib.hid (fun w s => (K.hull_bad l v w s (by omega) h0).mono fun _ _ t => ?_))
        obtain ⟨⟨a, c, e⟩, g⟩ := t.shape
        exact ⟨a, c, e, g⟩
      · have hn : l ≠ [] := fun e => h0 (Or.inl e)
        have hp : Plcs l := by
          by_cases hp : Plcs l
          · exact hp
          · exact absurd (Or.inr hp) h0
        obtain ⟨b, o, c, rfl, hr⟩ := hs.row hn
        by_cases hv : Vl q
        · refine least_all K l q v' b o c w (by omega) (Lib.hid hr) HO H (Lib.hid (by omega)) H2 (Lib.hid hn) (Lib.hid hp) (Lib.hid hv) (Lib.hid (fun k hk w s => ?_))
          obtain ⟨b', o', c', rfl, hr'⟩ := s.row (fun e => by rw [e] at hv; exact absurd hv.1.1 (by decide))
          exact inside_any q (at' l k) b' o' c' w hr' hv.2.1 (hp k hk) hv.1.1 (by omega)
        · exact least_some K l q v' b o c w (by omega) (Lib.hid hr) HO H (Lib.hid (by omega)) H2 (Lib.hid hn) (Lib.hid hp) (Lib.hid hv)
    · have H2 := Lib.hid h2
      clear hs ho h h2
      go_enter Try.func4, Try.ntmps4
      go_wp2_with fail
      refine (head_true K _).mono ?_
      rintro e w1 ⟨rfl, g1⟩
      obtain ⟨c1, f1, z1⟩ := laid g1
      try simp at z1
      have G1 : Grew w w1 := Grew.trans (by (repeat' (first | (with_reducible exact Grew.refl _) | (with_reducible assumption) | (with_reducible refine Grew.alloc ?_ _ _) | (with_reducible refine Grew.drew ?_) | (with_reducible refine Grew.drewN ?_ _) | (with_reducible refine Grew.setCell ?_ ?_ _) | go_size))) g1
      clear g1
      go_wp2_with fail
      refine (few_yes l v _ (HS.out.grown (by (repeat' (first | (with_reducible exact Grew.refl _) | (with_reducible assumption) | (with_reducible refine Grew.alloc ?_ _ _) | (with_reducible refine Grew.drew ?_) | (with_reducible refine Grew.drewN ?_ _) | (with_reducible refine Grew.setCell ?_ ?_ _) | go_size)))) H.out).mono ?_
      rintro e w2 ⟨rfl, g2⟩
      obtain ⟨c2, f2, z2⟩ := laid g2
      try simp at z2
      have G2 : Grew w w2 := Grew.trans (by (repeat' (first | (with_reducible exact Grew.refl _) | (with_reducible assumption) | (with_reducible refine Grew.alloc ?_ _ _) | (with_reducible refine Grew.drew ?_) | (with_reducible refine Grew.drewN ?_ _) | (with_reducible refine Grew.setCell ?_ ?_ _) | go_size))) g2
      clear g2
      go_wp2_with fail
      refine (few_no q v' _ (HO.out.grown (by (repeat' (first | (with_reducible exact Grew.refl _) | (with_reducible assumption) | (with_reducible refine Grew.alloc ?_ _ _) | (with_reducible refine Grew.drew ?_) | (with_reducible refine Grew.drewN ?_ _) | (with_reducible refine Grew.setCell ?_ ?_ _) | go_size)))) H2.out).mono ?_
      rintro e w3 ⟨rfl, g3⟩
      obtain ⟨c3, f3, z3⟩ := laid g3
      try simp at z3
      have G3 : Grew w w3 := Grew.trans (by (repeat' (first | (with_reducible exact Grew.refl _) | (with_reducible assumption) | (with_reducible refine Grew.alloc ?_ _ _) | (with_reducible refine Grew.drew ?_) | (with_reducible refine Grew.drewN ?_ _) | (with_reducible refine Grew.setCell ?_ ?_ _) | go_size))) g3
      clear g3
      go_wp2_with fail
      go_ret
      exact ⟨rfl, by (repeat' (first | (with_reducible exact Grew.refl _) | (with_reducible assumption) | (with_reducible refine Grew.alloc ?_ _ _) | (with_reducible refine Grew.drew ?_) | (with_reducible refine Grew.drewN ?_ _) | (with_reducible refine Grew.setCell ?_ ?_ _) | go_size))⟩
  · have H := Lib.hid h
    clear hs ho h
    go_enter Try.func4, Try.ntmps4
    go_wp2_with fail
    refine (head_true K _).mono ?_
    rintro e w1 ⟨rfl, g1⟩
    obtain ⟨c1, f1, z1⟩ := laid g1
    try simp at z1
    have G1 : Grew w w1 := Grew.trans (by (repeat' (first | (with_reducible exact Grew.refl _) | (with_reducible assumption) | (with_reducible refine Grew.alloc ?_ _ _) | (with_reducible refine Grew.drew ?_) | (with_reducible refine Grew.drewN ?_ _) | (with_reducible refine Grew.setCell ?_ ?_ _) | go_size))) g1
    clear g1
    go_wp2_with fail
    refine (few_no l v _ (HS.out.grown (by (repeat' (first | (with_reducible exact Grew.refl _) | (with_reducible assumption) | (with_reducible refine Grew.alloc ?_ _ _) | (with_reducible refine Grew.drew ?_) | (with_reducible refine Grew.drewN ?_ _) | (with_reducible refine Grew.setCell ?_ ?_ _) | go_size)))) H.out).mono ?_
    rintro e w2 ⟨rfl, g2⟩
    obtain ⟨c2, f2, z2⟩ := laid g2
    try simp at z2
    have G2 : Grew w w2 := Grew.trans (by (repeat' (first | (with_reducible exact Grew.refl _) | (with_reducible assumption) | (with_reducible refine Grew.alloc ?_ _ _) | (with_reducible refine Grew.drew ?_) | (with_reducible refine Grew.drewN ?_ _) | (with_reducible refine Grew.setCell ?_ ?_ _) | go_size))) g2
    clear g2
    go_wp2_with fail
    go_ret
    exact ⟨rfl, by (repeat' (first | (with_reducible exact Grew.refl _) | (with_reducible assumption) | (with_reducible refine Grew.alloc ?_ _ _) | (with_reducible refine Grew.drew ?_) | (with_reducible refine Grew.drewN ?_ _) | (with_reducible refine Grew.setCell ?_ ?_ _) | go_size))⟩
end Hl
end Go.Proofs.Ythcfbfgfpophmaa
