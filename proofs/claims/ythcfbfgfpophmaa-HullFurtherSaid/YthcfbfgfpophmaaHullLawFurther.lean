/-
  The law HullFurther, under what package hull owes.
-/
import Derived.Test.YthcfbfgfpophmaaHullFur
import Derived.Test.YthcfbfgfpophmaaHullSm
namespace Go.Proofs.Ythcfbfgfpophmaa
open Go.RowKit
namespace Hl

def Says (m : List Pt) (k : Int) (r : List Pt) : Prop := (k = 0 ∧ IsHull m r ∧ r.length ≤ 64 ∧ Plcs m) ∨ ((k == 0) = false ∧ (k != 0) = true)
theorem hull_says (K : Code) (m : List Pt) (hm : m.length ≤ 4000) (v : Value) (w : World) (hs : Sl w v m) : Calls Try.prog 12 #[v] w fun e w' => ∃ v' k r, e = .returned (.tuple #[v', .int .i64 k]) ∧ Says m k r ∧ Sl w' v' r ∧ Grew w w' := by
  by_cases h : m = [] ∨ ¬ Plcs m
  · refine (K.hull_bad m v w hs hm h).mono ?_
    rintro e w' ⟨v', rfl, s, g⟩
    exact ⟨v', 1, [], rfl, Or.inr ⟨by decide, by decide⟩, s, g⟩
  · have hp : Plcs m := by
      by_cases hp : Plcs m
      · exact hp
      · exact absurd (Or.inr hp) h
    refine (K.hull_ok m v w hs hm (fun e => h (Or.inl e)) hp).mono ?_
    rintro e w' ⟨q, hq, ⟨h64, v', rfl, s, g⟩ | ⟨h64, v', rfl, s, g⟩⟩
    · exact ⟨v', 0, q, rfl, Or.inl ⟨rfl, hq, h64, hp⟩, s, g⟩
    · exact ⟨v', 2, [], rfl, Or.inr ⟨by decide, by decide⟩, s, g⟩
theorem says_nil {k : Int} {r : List Pt} (h : Says [] k r) : (k == 0) = false := by
  rcases h with ⟨_, hq, _⟩ | ⟨h, _⟩
  · exfalso
    have h1 := hq.1.1
    have := hq.2.1 _ (at_mem (p := r) (i := 0) (by omega))
    cases this
  · exact h
theorem bne_false {k : Int} (h : (k == 0) = false) : (k != 0) = true := by
  rw [bne_iff_ne]
  rwa [beq_eq_false_iff_ne] at h
theorem says_facts {l p q : List Pt} {x : Pt} (hp : IsHull l p) (h2 : p.length ≤ 64) (hq : IsHull (l ++ [x]) q) (h6 : q.length ≤ 64) (hm : Plcs (l ++ [x])) : Vl p ∧ Vl q ∧ Plc x := by
  have hl : Plcs l := fun i hi => by
    obtain ⟨j, hj, e⟩ := mem_at (List.mem_append.2 (Or.inl (at_mem hi)) : at' l i ∈ l ++ [x])
    rw [← e]; exact hm j hj
  have hx : Plc x := by
    obtain ⟨j, hj, e⟩ := mem_at (List.mem_append.2 (Or.inr (List.mem_singleton.2 rfl)) : x ∈ l ++ [x])
    rw [← e]; exact hm j hj
  exact ⟨vl_of hp.1 h2 (hull_plcs hp hl), vl_of hq.1 h6 (hull_plcs hq hm), hx⟩
set_option maxRecDepth 100000 in
set_option maxHeartbeats 4000000 in
theorem further_row (K : Code) (l : List Pt) (x : Pt) (b o c : Nat) (w : World) (L79 : (l.length : Int) ≤ 79) (HR : Hid (Row w b o l)) : Calls Try.prog 9 #[.slice (some ⟨b, o, none⟩) l.length c, .agg #[.int .i64 x.1, .int .i64 x.2]] w fun e w' => e = .returned (.bool true) ∧ Grew w w' := by
  go_enter Try.func9, Try.ntmps9
  go_wp2_with fail
  refine (head_true K _).mono ?_
  rintro e w1 ⟨rfl, g1⟩
  obtain ⟨c1, f1, z1⟩ := laid g1
  try simp at z1
  have G1 : Grew w w1 := Grew.trans (by (repeat' (first | (with_reducible exact Grew.refl _) | (with_reducible assumption) | (with_reducible refine Grew.alloc ?_ _ _) | (with_reducible refine Grew.drew ?_) | (with_reducible refine Grew.drewN ?_ _) | (with_reducible refine Grew.setCell ?_ ?_ _) | go_size))) g1
  clear g1
  have z1_0 : w.heap.size < w1.heap.size := by omega
  go_wp2_with fail
  refine (hull_says K l (by omega) _ _ ((Sl.of (c := c) HR.out).grown (by (repeat' (first | (with_reducible exact Grew.refl _) | (with_reducible assumption) | (with_reducible refine Grew.alloc ?_ _ _) | (with_reducible refine Grew.drew ?_) | (with_reducible refine Grew.drewN ?_ _) | (with_reducible refine Grew.setCell ?_ ?_ _) | go_size))))).mono ?_
  rintro e w2 ⟨v2, k2, p, rfl, say2, hs2, g2⟩
  obtain ⟨c2, f2, z2⟩ := laid g2
  try simp at z2
  have G2 : Grew w w2 := Grew.trans (by (repeat' (first | (with_reducible exact Grew.refl _) | (with_reducible assumption) | (with_reducible refine Grew.alloc ?_ _ _) | (with_reducible refine Grew.drew ?_) | (with_reducible refine Grew.drewN ?_ _) | (with_reducible refine Grew.setCell ?_ ?_ _) | go_size))) g2
  clear g2
  have z2_0 : w.heap.size < w2.heap.size := by omega
  have E2 := Lib.hid hs2
  clear hs2
  have S2 := Lib.hid say2
  clear say2
  go_wp2_with fail
  have x0 : w2.cell? ⟨w.heap.size, 0, none⟩ = some (.int .i64 x.1) := by simp [go_sem, *]
  have x1 : w2.cell? ⟨w.heap.size, 1, none⟩ = some (.int .i64 x.2) := by simp [go_sem, *]
  have xb : w.heap.size < w2.heap.size := by omega
  clear c1 f1 c2 f2 z1 G1
  refine wp_region_held_drew (S := (fun w' => w'.cell? ⟨w.heap.size, 0, none⟩ = some (.int .i64 x.1) ∧ w'.cell? ⟨w.heap.size, 1, none⟩ = some (.int .i64 x.2))) (by kernel_rfl) ⟨(Grew.cell (Grew.drew (Grew.refl w2)) xb).trans x0, (Grew.cell (Grew.drew (Grew.refl w2)) xb).trans x1⟩ (fun hHeld => ?_)
  have G : Grew w2 w2.drew := Grew.drew (Grew.refl _)
  obtain ⟨u, eu⟩ : ∃ u, w2.drew = u := ⟨_, rfl⟩
  rw [eu] at hHeld G ⊢
  clear eu
  refine wpAnyH_take (i := 1) (oi := ⟨some 28, _, _, _, _, _⟩) (v := ?_) rfl (by kernel_rfl) (by kernel_rfl) (by kernel_rfl) (fun _ _ _ h => h) (Or.inl ⟨by rfl, ?_⟩) (by assumption) ?_
  rotate_left
  · intro w hSw; (try dsimp only at hSw); go_simp; (try with_reducible rfl)
  try simp only [Act.put, List.setIfInBounds_toArray, List.set_cons_zero, List.set_cons_succ]
  refine wpAnyH_take (i := 3) (oi := ⟨some 30, _, _, _, _, _⟩) (v := ?_) rfl (by kernel_rfl) (by kernel_rfl) (by kernel_rfl) (fun _ _ _ h => h) (Or.inl ⟨by rfl, ?_⟩) (by assumption) ?_
  rotate_left
  · intro w hSw; (try dsimp only at hSw); go_simp; (try with_reducible rfl)
  try simp only [Act.put, List.setIfInBounds_toArray, List.set_cons_zero, List.set_cons_succ]
  refine wpAnyH_ready (rs := [0, 4]) (by kernel_rfl) (by simp) ?_
  refine AllReadyH.cons (o := ⟨some 27, _, _, _, _, _⟩) rfl (fun KK hK => ?_) ?_
  · rw [if_pos (by rfl)]
    refine wp_build0 _ rfl w2.heap.size G.size ?_
    intro g0 u0 hg0 own GX
    have GC : Grew w2 u0 := GX w2 G
    have hg0' : g0 < u0.heap.size := (World.ownsRow.lt own g0 rfl).2
    clear G GX hg0
    refine hK.out _ _ ⟨(Grew.cell GC xb).trans x0, (Grew.cell GC xb).trans x1⟩ (fun h1 => ?_)
    clear hK KK hHeld
    have hHeld := h1
    clear h1
    have G := GC
    clear GC
    try simp only [Act.put, List.setIfInBounds_toArray, List.set_cons_zero, List.set_cons_succ]
    refine wpAnyH_ready (rs := [2, 4]) (by kernel_rfl) (by simp) ?_
    refine AllReadyH.cons (o := ⟨some 29, _, _, _, _, _⟩) rfl (fun KK hK => ?_) ?_
    · rw [if_pos (by rfl)]
      refine wp_append_pts _ _ _ rfl w2.heap.size _ [] l b o c rfl own rfl (HR.out.grown (Grew.trans G2 G)) (by simp <;> omega) G.size ?_
      intro a2 u02 own' GY GR
      have GC : Grew w2 u02 := GY w2 (Nat.le_refl _) G
      clear own
      have own := own'
      clear own' G GY GR hg0'
      refine hK.out _ _ ⟨(Grew.cell GC xb).trans x0, (Grew.cell GC xb).trans x1⟩ (fun h1 => ?_)
      clear hK KK hHeld
      have hHeld := h1
      clear h1
      have G := GC
      clear GC
      try simp only [Act.put, List.setIfInBounds_toArray, List.set_cons_zero, List.set_cons_succ]
      refine wpAnyH_ready (rs := [4]) (by kernel_rfl) (by simp) ?_
      refine AllReadyH.cons (o := ⟨some 31, _, _, _, _, _⟩) rfl (fun KK hK => ?_) AllReadyH.nil
      go_simp
      have row : Row (World.alloc u02 (.cells #[.int .i64 x.1, .int .i64 x.2] 24)) u02.heap.size 0 [x] := row_new [x] _ rfl _ _
      have GX : ∀ W : World, Grew W u02 → Grew W (World.alloc u02 (.cells #[.int .i64 x.1, .int .i64 x.2] 24)) := fun W g => Grew.alloc g _ _
      obtain ⟨u024, eu⟩ : ∃ W, World.alloc u02 (.cells #[.int .i64 x.1, .int .i64 x.2] 24) = W := ⟨_, rfl⟩
      obtain ⟨g4, eg⟩ : ∃ g, u02.heap.size = g := ⟨_, rfl⟩
      rw [eu] at row GX
      rw [eg] at row
      rw [eu, eg]
      have GC : Grew w2 u024 := GX w2 G
      have own' := own.grew (GX _ (Grew.refl _))
      clear own
      have own := own'
      clear own'
      clear G GX eu eg
      refine hK.out _ _ ⟨(Grew.cell GC xb).trans x0, (Grew.cell GC xb).trans x1⟩ (fun h1 => ?_)
      clear hK KK hHeld
      have hHeld := h1
      clear h1
      have G := GC
      clear GC
      try simp only [Act.put, List.setIfInBounds_toArray, List.set_cons_zero, List.set_cons_succ]
      refine wpAnyH_ready (rs := [5]) (by kernel_rfl) (by simp) ?_
      refine AllReadyH.cons (o := ⟨some 32, _, _, _, _, _⟩) rfl (fun KK hK => ?_) AllReadyH.nil
      rw [if_pos (by rfl)]
      refine wp_append_pts _ _ _ rfl w2.heap.size _ ([] ++ l) [x] g4 0 1 rfl own rfl row (by simp <;> omega) G.size ?_
      intro a5 u0245 own' GY GR
      have GC : Grew w2 u0245 := GY w2 (Nat.le_refl _) G
      clear own
      have own := own'
      clear own' G GY GR row
      refine hK.out _ _ ⟨(Grew.cell GC xb).trans x0, (Grew.cell GC xb).trans x1⟩ (fun h1 => ?_)
      clear hK KK hHeld
      have hHeld := h1
      clear h1
      have G := GC
      clear GC
      try simp only [Act.put, List.setIfInBounds_toArray, List.set_cons_zero, List.set_cons_succ]
      refine wpAnyH_ready (rs := [6]) (by kernel_rfl) (by simp) ?_
      refine AllReadyH.cons (o := ⟨some 33, _, _, _, _, _⟩) rfl (fun KK hK => ?_) AllReadyH.nil
      go_simp
      refine (hull_says K ([] ++ l ++ [x]) (by simp <;> omega) _ _ own.sl).mono ?_
      rintro e u02456 ⟨v6, k6, q, rfl, say6, hs6, g6⟩
      have GC : Grew w2 u02456 := Grew.trans G g6
      clear G g6 own
      refine hK.out _ _ ⟨(Grew.cell GC xb).trans x0, (Grew.cell GC xb).trans x1⟩ (fun h1 => ?_)
      clear hK KK hHeld
      have hHeld := h1
      clear h1
      have G := GC
      clear GC
      try simp only [Act.put, List.setIfInBounds_toArray, List.set_cons_zero, List.set_cons_succ]
      refine wpAnyH_take (i := 7) (oi := ⟨some 26, _, _, _, _, _⟩) (v := ?_) rfl (by kernel_rfl) (by kernel_rfl) (by kernel_rfl) (fun _ _ _ h => h) (Or.inl ⟨by rfl, ?_⟩) (by assumption) ?_
      rotate_left
      · intro w hSw; (try dsimp only at hSw); go_simp; (try with_reducible rfl)
      try simp only [Act.put, List.setIfInBounds_toArray, List.set_cons_zero, List.set_cons_succ]
      refine wpAnyH_take (i := 8) (oi := ⟨some 34, _, _, _, _, _⟩) (v := ?_) rfl (by kernel_rfl) (by kernel_rfl) (by kernel_rfl) (fun _ _ _ h => h) (Or.inl ⟨by rfl, ?_⟩) (by assumption) ?_
      rotate_left
      · intro w hSw; (try dsimp only at hSw); go_simp; (try with_reducible rfl)
      try simp only [Act.put, List.setIfInBounds_toArray, List.set_cons_zero, List.set_cons_succ]
      refine wpAnyH_take (i := 9) (oi := ⟨some 35, _, _, _, _, _⟩) (v := ?_) rfl (by kernel_rfl) (by kernel_rfl) (by kernel_rfl) (fun _ _ _ h => h) (Or.inl ⟨by rfl, ?_⟩) (by assumption) ?_
      rotate_left
      · intro w hSw; (try dsimp only at hSw); go_simp; (try with_reducible rfl)
      try simp only [Act.put, List.setIfInBounds_toArray, List.set_cons_zero, List.set_cons_succ]
      refine wpAnyH_take (i := 10) (oi := ⟨some 8, _, _, _, _, _⟩) (v := ?_) rfl (by kernel_rfl) (by kernel_rfl) (by kernel_rfl) (fun _ _ _ h => h) (Or.inl ⟨by rfl, ?_⟩) (by assumption) ?_
      rotate_left
      · intro w hSw; (try dsimp only at hSw); go_simp; (try with_reducible rfl)
      try simp only [Act.put, List.setIfInBounds_toArray, List.set_cons_zero, List.set_cons_succ]
      refine wpAnyH_take (i := 11) (oi := ⟨some 9, _, _, _, _, _⟩) (v := ?_) rfl (by kernel_rfl) (by kernel_rfl) (by kernel_rfl) (fun _ _ _ h => h) (Or.inl ⟨by rfl, ?_⟩) (by assumption) ?_
      rotate_left
      · intro w hSw; (try dsimp only at hSw); go_simp; (try with_reducible rfl)
      try simp only [Act.put, List.setIfInBounds_toArray, List.set_cons_zero, List.set_cons_succ]
      refine wpAnyH_done (by kernel_rfl) ?_ _
      have say2 := S2.out
      clear S2
      rcases say2 with ⟨rfl, hp, h2, _⟩ | ⟨n1, n2⟩
      · rcases say6 with ⟨rfl, hq, h6, hm⟩ | ⟨n1, n2⟩
        · have E6 := Lib.hid hs6
          rw [List.nil_append] at hq hm
          obtain ⟨vp, vq, px⟩ := says_facts hp h2 hq h6 hm
          have VP := Lib.hid vp
          have VQ := Lib.hid vq
          have X := Lib.hid px
          obtain ⟨b2, o2, c2, rfl, hr2⟩ := E2.out.row (fun e => by have := vp.1.1; rw [e] at this; exact absurd this (by decide))
          have P64 : (p.length : Int) ≤ 64 := by omega
          obtain ⟨N, hN⟩ : ∃ N, area p.length (at' p) = N := ⟨_, rfl⟩
          obtain ⟨M, hM⟩ : ∃ M, area q.length (at' q) = M := ⟨_, rfl⟩
          have AP : Hid (∀ (v : Value) (w : World), Sl w v p → Calls Try.prog 23 #[v] w fun e w' => e = .returned (.tuple #[.int .i64 N, .int .i64 0]) ∧ Grew w w') := Lib.hid (fun v w s => by have t := K.area_ok p v w s VP.out; rwa [hN] at t)
          have AQ : Hid (∀ (v : Value) (w : World), Sl w v q → Calls Try.prog 23 #[v] w fun e w' => e = .returned (.tuple #[.int .i64 M, .int .i64 0]) ∧ Grew w w') := Lib.hid (fun v w s => by have t := K.area_ok q v w s VQ.out; rwa [hM] at t)
          have U0 : u02456.cell? ⟨w.heap.size, 0, none⟩ = some (.int .i64 x.1) := (Grew.cell G xb).trans x0
          have U1 : u02456.cell? ⟨w.heap.size, 1, none⟩ = some (.int .i64 x.2) := (Grew.cell G xb).trans x1
          by_cases hx : Hs p x
          · have eq := further_in hp hq hx
            have EQ : Hid (p = q) := Lib.hid eq.symm
            have A := Lib.hid hx
            have hMN : M = N := by rw [← hM, ← hN, eq]
            clear hx eq hp hq hm hs6 vp vq px hr2 hN hM
            subst hMN
            have nn : ¬ M < M := Int.lt_irrefl M
            by_cases h3 : (p.length : Int) < 3
            · go_wp2_with fail
              refine (has_yes K p x _ _ (E2.out.grown G) VP.out X.out A.out).mono ?_
              rintro e w7 ⟨rfl, g7⟩
              have G7 : Grew w2 w7 := Grew.trans G g7
              have Q7 : Grew u02456 w7 := g7
              clear g7 U0 U1
              go_wp2_with fail
              refine (AP.out _ _ (E2.out.grown G7)).mono ?_
              rintro e w8 ⟨rfl, g8⟩
              have G8 : Grew w2 w8 := Grew.trans G7 g8
              have Q8 : Grew u02456 w8 := Grew.trans Q7 g8
              clear g8 Q7 G7
              go_wp2_with fail
              refine (AQ.out _ _ (E6.out.grown Q8)).mono ?_
              rintro e w9 ⟨rfl, g9⟩
              have G9 : Grew w2 w9 := Grew.trans G8 g9
              have Q9 : Grew u02456 w9 := Grew.trans Q8 g9
              clear g9 Q8 G8
              go_wp2_with fail
              refine ((same_any p q _ _ _ (E2.out.grown G9) (E6.out.grown Q9) (by omega)).mono fun _ _ t => t.to EQ.out).mono ?_
              rintro e w10 ⟨rfl, g10⟩
              have G10 : Grew w2 w10 := Grew.trans G9 g10
              clear g10 Q9 G9
              go_wp2_with fail
              go_ret
              exact ⟨rfl, Grew.trans G2 G10⟩
            · have h3' : (3 : Int) ≤ (p.length : Int) := by omega
              clear h3
              go_wp2_with fail
              refine (has_yes K p x _ _ (E2.out.grown G) VP.out X.out A.out).mono ?_
              rintro e w7 ⟨rfl, g7⟩
              have G7 : Grew w2 w7 := Grew.trans G g7
              have Q7 : Grew u02456 w7 := g7
              clear g7 U0 U1
              go_wp2_with fail
              refine (AP.out _ _ (E2.out.grown G7)).mono ?_
              rintro e w8 ⟨rfl, g8⟩
              have G8 : Grew w2 w8 := Grew.trans G7 g8
              have Q8 : Grew u02456 w8 := Grew.trans Q7 g8
              clear g8 Q7 G7
              go_wp2_with fail
              refine (AQ.out _ _ (E6.out.grown Q8)).mono ?_
              rintro e w9 ⟨rfl, g9⟩
              have G9 : Grew w2 w9 := Grew.trans G8 g9
              have Q9 : Grew u02456 w9 := Grew.trans Q8 g9
              clear g9 Q8 G8
              go_wp2_with fail
              refine ((same_any p q _ _ _ (E2.out.grown G9) (E6.out.grown Q9) (by omega)).mono fun _ _ t => t.to EQ.out).mono ?_
              rintro e w10 ⟨rfl, g10⟩
              have G10 : Grew w2 w10 := Grew.trans G9 g10
              clear g10 Q9 G9
              go_wp2_with fail
              go_ret
              exact ⟨rfl, Grew.trans G2 G10⟩
          · have NQ := Lib.hid (further_out hq hx)
            have A := Lib.hid hx
            by_cases h3 : (p.length : Int) < 3
            · have le : N ≤ M := by rw [← hM, ← hN, area_small (by omega)]; exact area_nonneg hq.1
              clear hx hp hq hm hs6 vp vq px hr2 hN hM
              have nn : ¬ M < N := by omega
              go_wp2_with fail
              refine (has_no K p x _ _ (E2.out.grown G) VP.out X.out A.out).mono ?_
              rintro e w7 ⟨rfl, g7⟩
              have G7 : Grew w2 w7 := Grew.trans G g7
              have Q7 : Grew u02456 w7 := g7
              clear g7 U0 U1
              go_wp2_with fail
              refine (AP.out _ _ (E2.out.grown G7)).mono ?_
              rintro e w8 ⟨rfl, g8⟩
              have G8 : Grew w2 w8 := Grew.trans G7 g8
              have Q8 : Grew u02456 w8 := Grew.trans Q7 g8
              clear g8 Q7 G7
              go_wp2_with fail
              refine (AQ.out _ _ (E6.out.grown Q8)).mono ?_
              rintro e w9 ⟨rfl, g9⟩
              have G9 : Grew w2 w9 := Grew.trans G8 g9
              have Q9 : Grew u02456 w9 := Grew.trans Q8 g9
              clear g9 Q8 G8
              go_wp2_with fail
              refine ((same_any p q _ _ _ (E2.out.grown G9) (E6.out.grown Q9) (by omega)).mono fun _ _ t => t.un NQ.out).mono ?_
              rintro e w10 ⟨rfl, g10⟩
              have G10 : Grew w2 w10 := Grew.trans G9 g10
              clear g10 Q9 G9
              go_wp2_with fail
              go_ret
              exact ⟨rfl, Grew.trans G2 G10⟩
            · have lt : N < M := by rw [← hM, ← hN]; exact area_more hp hq (by omega) hx
              clear hx hp hq hm hs6 vp vq px hr2 hN hM
              have nn : ¬ M < N := by omega
              have h3' : (3 : Int) ≤ (p.length : Int) := by omega
              clear h3
              have ne1 : (M == N) = false := by rw [beq_eq_false_iff_ne]; omega
              go_wp2_with fail
              refine (has_no K p x _ _ (E2.out.grown G) VP.out X.out A.out).mono ?_
              rintro e w7 ⟨rfl, g7⟩
              have G7 : Grew w2 w7 := Grew.trans G g7
              have Q7 : Grew u02456 w7 := g7
              clear g7 U0 U1
              go_wp2_with fail
              refine (AP.out _ _ (E2.out.grown G7)).mono ?_
              rintro e w8 ⟨rfl, g8⟩
              have G8 : Grew w2 w8 := Grew.trans G7 g8
              have Q8 : Grew u02456 w8 := Grew.trans Q7 g8
              clear g8 Q7 G7
              go_wp2_with fail
              refine (AQ.out _ _ (E6.out.grown Q8)).mono ?_
              rintro e w9 ⟨rfl, g9⟩
              have G9 : Grew w2 w9 := Grew.trans G8 g9
              have Q9 : Grew u02456 w9 := Grew.trans Q8 g9
              clear g9 Q8 G8
              go_wp2_with fail
              refine ((same_any p q _ _ _ (E2.out.grown G9) (E6.out.grown Q9) (by omega)).mono fun _ _ t => t.un NQ.out).mono ?_
              rintro e w10 ⟨rfl, g10⟩
              have G10 : Grew w2 w10 := Grew.trans G9 g10
              clear g10 Q9 G9
              go_wp2_with fail
              go_ret
              exact ⟨rfl, Grew.trans G2 G10⟩
        · go_wp2_with fail
          go_ret
          exact ⟨rfl, Grew.trans G2 G⟩
      · go_wp2_with fail
        go_ret
        exact ⟨rfl, Grew.trans G2 G⟩
    · refine AllReadyH.cons (o := ⟨some 31, _, _, _, _, _⟩) rfl (fun KK hK => ?_) AllReadyH.nil
      go_simp
      have row : Row (World.alloc u0 (.cells #[.int .i64 x.1, .int .i64 x.2] 24)) u0.heap.size 0 [x] := row_new [x] _ rfl _ _
      have GX : ∀ W : World, Grew W u0 → Grew W (World.alloc u0 (.cells #[.int .i64 x.1, .int .i64 x.2] 24)) := fun W g => Grew.alloc g _ _
      obtain ⟨u04, eu⟩ : ∃ W, World.alloc u0 (.cells #[.int .i64 x.1, .int .i64 x.2] 24) = W := ⟨_, rfl⟩
      obtain ⟨g4, eg⟩ : ∃ g, u0.heap.size = g := ⟨_, rfl⟩
      rw [eu] at row GX
      rw [eg] at row
      rw [eu, eg]
      have GC : Grew w2 u04 := GX w2 G
      have own' := own.grew (GX _ (Grew.refl _))
      clear own
      have own := own'
      clear own'
      have ne0 : some g4 ≠ some g0 := fun e => by have := Option.some.inj e; omega
      have hg0'' : g0 < u04.heap.size := Nat.lt_of_lt_of_le hg0' (GX _ (Grew.refl _)).size
      clear hg0'
      have hg0' := hg0''
      clear hg0''
      clear G GX eu eg
      refine hK.out _ _ ⟨(Grew.cell GC xb).trans x0, (Grew.cell GC xb).trans x1⟩ (fun h1 => ?_)
      clear hK KK hHeld
      have hHeld := h1
      clear h1
      have G := GC
      clear GC
      try simp only [Act.put, List.setIfInBounds_toArray, List.set_cons_zero, List.set_cons_succ]
      refine wpAnyH_ready (rs := [2]) (by kernel_rfl) (by simp) ?_
      refine AllReadyH.cons (o := ⟨some 29, _, _, _, _, _⟩) rfl (fun KK hK => ?_) AllReadyH.nil
      rw [if_pos (by rfl)]
      refine wp_append_pts _ _ _ rfl w2.heap.size _ [] l b o c rfl own rfl (HR.out.grown (Grew.trans G2 G)) (by simp <;> omega) G.size ?_
      intro a2 u042 own' GY GR
      have GC : Grew w2 u042 := GY w2 (Nat.le_refl _) G
      have row' := GR _ _ _ row ne0
      clear row
      have row := row'
      clear row'
      clear own
      have own := own'
      clear own' G GY GR hg0'
      refine hK.out _ _ ⟨(Grew.cell GC xb).trans x0, (Grew.cell GC xb).trans x1⟩ (fun h1 => ?_)
      clear hK KK hHeld
      have hHeld := h1
      clear h1
      have G := GC
      clear GC
      try simp only [Act.put, List.setIfInBounds_toArray, List.set_cons_zero, List.set_cons_succ]
      refine wpAnyH_ready (rs := [5]) (by kernel_rfl) (by simp) ?_
      refine AllReadyH.cons (o := ⟨some 32, _, _, _, _, _⟩) rfl (fun KK hK => ?_) AllReadyH.nil
      rw [if_pos (by rfl)]
      refine wp_append_pts _ _ _ rfl w2.heap.size _ ([] ++ l) [x] g4 0 1 rfl own rfl row (by simp <;> omega) G.size ?_
      intro a5 u0425 own' GY GR
      have GC : Grew w2 u0425 := GY w2 (Nat.le_refl _) G
      clear own
      have own := own'
      clear own' G GY GR row
      refine hK.out _ _ ⟨(Grew.cell GC xb).trans x0, (Grew.cell GC xb).trans x1⟩ (fun h1 => ?_)
      clear hK KK hHeld
      have hHeld := h1
      clear h1
      have G := GC
      clear GC
      try simp only [Act.put, List.setIfInBounds_toArray, List.set_cons_zero, List.set_cons_succ]
      refine wpAnyH_ready (rs := [6]) (by kernel_rfl) (by simp) ?_
      refine AllReadyH.cons (o := ⟨some 33, _, _, _, _, _⟩) rfl (fun KK hK => ?_) AllReadyH.nil
      go_simp
      refine (hull_says K ([] ++ l ++ [x]) (by simp <;> omega) _ _ own.sl).mono ?_
      rintro e u04256 ⟨v6, k6, q, rfl, say6, hs6, g6⟩
      have GC : Grew w2 u04256 := Grew.trans G g6
      clear G g6 own
      refine hK.out _ _ ⟨(Grew.cell GC xb).trans x0, (Grew.cell GC xb).trans x1⟩ (fun h1 => ?_)
      clear hK KK hHeld
      have hHeld := h1
      clear h1
      have G := GC
      clear GC
      try simp only [Act.put, List.setIfInBounds_toArray, List.set_cons_zero, List.set_cons_succ]
      refine wpAnyH_take (i := 7) (oi := ⟨some 26, _, _, _, _, _⟩) (v := ?_) rfl (by kernel_rfl) (by kernel_rfl) (by kernel_rfl) (fun _ _ _ h => h) (Or.inl ⟨by rfl, ?_⟩) (by assumption) ?_
      rotate_left
      · intro w hSw; (try dsimp only at hSw); go_simp; (try with_reducible rfl)
      try simp only [Act.put, List.setIfInBounds_toArray, List.set_cons_zero, List.set_cons_succ]
      refine wpAnyH_take (i := 8) (oi := ⟨some 34, _, _, _, _, _⟩) (v := ?_) rfl (by kernel_rfl) (by kernel_rfl) (by kernel_rfl) (fun _ _ _ h => h) (Or.inl ⟨by rfl, ?_⟩) (by assumption) ?_
      rotate_left
      · intro w hSw; (try dsimp only at hSw); go_simp; (try with_reducible rfl)
      try simp only [Act.put, List.setIfInBounds_toArray, List.set_cons_zero, List.set_cons_succ]
      refine wpAnyH_take (i := 9) (oi := ⟨some 35, _, _, _, _, _⟩) (v := ?_) rfl (by kernel_rfl) (by kernel_rfl) (by kernel_rfl) (fun _ _ _ h => h) (Or.inl ⟨by rfl, ?_⟩) (by assumption) ?_
      rotate_left
      · intro w hSw; (try dsimp only at hSw); go_simp; (try with_reducible rfl)
      try simp only [Act.put, List.setIfInBounds_toArray, List.set_cons_zero, List.set_cons_succ]
      refine wpAnyH_take (i := 10) (oi := ⟨some 8, _, _, _, _, _⟩) (v := ?_) rfl (by kernel_rfl) (by kernel_rfl) (by kernel_rfl) (fun _ _ _ h => h) (Or.inl ⟨by rfl, ?_⟩) (by assumption) ?_
      rotate_left
      · intro w hSw; (try dsimp only at hSw); go_simp; (try with_reducible rfl)
      try simp only [Act.put, List.setIfInBounds_toArray, List.set_cons_zero, List.set_cons_succ]
      refine wpAnyH_take (i := 11) (oi := ⟨some 9, _, _, _, _, _⟩) (v := ?_) rfl (by kernel_rfl) (by kernel_rfl) (by kernel_rfl) (fun _ _ _ h => h) (Or.inl ⟨by rfl, ?_⟩) (by assumption) ?_
      rotate_left
      · intro w hSw; (try dsimp only at hSw); go_simp; (try with_reducible rfl)
      try simp only [Act.put, List.setIfInBounds_toArray, List.set_cons_zero, List.set_cons_succ]
      refine wpAnyH_done (by kernel_rfl) ?_ _
      have say2 := S2.out
      clear S2
      rcases say2 with ⟨rfl, hp, h2, _⟩ | ⟨n1, n2⟩
      · rcases say6 with ⟨rfl, hq, h6, hm⟩ | ⟨n1, n2⟩
        · have E6 := Lib.hid hs6
          rw [List.nil_append] at hq hm
          obtain ⟨vp, vq, px⟩ := says_facts hp h2 hq h6 hm
          have VP := Lib.hid vp
          have VQ := Lib.hid vq
          have X := Lib.hid px
          obtain ⟨b2, o2, c2, rfl, hr2⟩ := E2.out.row (fun e => by have := vp.1.1; rw [e] at this; exact absurd this (by decide))
          have P64 : (p.length : Int) ≤ 64 := by omega
          obtain ⟨N, hN⟩ : ∃ N, area p.length (at' p) = N := ⟨_, rfl⟩
          obtain ⟨M, hM⟩ : ∃ M, area q.length (at' q) = M := ⟨_, rfl⟩
          have AP : Hid (∀ (v : Value) (w : World), Sl w v p → Calls Try.prog 23 #[v] w fun e w' => e = .returned (.tuple #[.int .i64 N, .int .i64 0]) ∧ Grew w w') := Lib.hid (fun v w s => by have t := K.area_ok p v w s VP.out; rwa [hN] at t)
          have AQ : Hid (∀ (v : Value) (w : World), Sl w v q → Calls Try.prog 23 #[v] w fun e w' => e = .returned (.tuple #[.int .i64 M, .int .i64 0]) ∧ Grew w w') := Lib.hid (fun v w s => by have t := K.area_ok q v w s VQ.out; rwa [hM] at t)
          have U0 : u04256.cell? ⟨w.heap.size, 0, none⟩ = some (.int .i64 x.1) := (Grew.cell G xb).trans x0
          have U1 : u04256.cell? ⟨w.heap.size, 1, none⟩ = some (.int .i64 x.2) := (Grew.cell G xb).trans x1
          by_cases hx : Hs p x
          · have eq := further_in hp hq hx
            have EQ : Hid (p = q) := Lib.hid eq.symm
            have A := Lib.hid hx
            have hMN : M = N := by rw [← hM, ← hN, eq]
            clear hx eq hp hq hm hs6 vp vq px hr2 hN hM
            subst hMN
            have nn : ¬ M < M := Int.lt_irrefl M
            by_cases h3 : (p.length : Int) < 3
            · go_wp2_with fail
              refine (has_yes K p x _ _ (E2.out.grown G) VP.out X.out A.out).mono ?_
              rintro e w7 ⟨rfl, g7⟩
              have G7 : Grew w2 w7 := Grew.trans G g7
              have Q7 : Grew u04256 w7 := g7
              clear g7 U0 U1
              go_wp2_with fail
              refine (AP.out _ _ (E2.out.grown G7)).mono ?_
              rintro e w8 ⟨rfl, g8⟩
              have G8 : Grew w2 w8 := Grew.trans G7 g8
              have Q8 : Grew u04256 w8 := Grew.trans Q7 g8
              clear g8 Q7 G7
              go_wp2_with fail
              refine (AQ.out _ _ (E6.out.grown Q8)).mono ?_
              rintro e w9 ⟨rfl, g9⟩
              have G9 : Grew w2 w9 := Grew.trans G8 g9
              have Q9 : Grew u04256 w9 := Grew.trans Q8 g9
              clear g9 Q8 G8
              go_wp2_with fail
              refine ((same_any p q _ _ _ (E2.out.grown G9) (E6.out.grown Q9) (by omega)).mono fun _ _ t => t.to EQ.out).mono ?_
              rintro e w10 ⟨rfl, g10⟩
              have G10 : Grew w2 w10 := Grew.trans G9 g10
              clear g10 Q9 G9
              go_wp2_with fail
              go_ret
              exact ⟨rfl, Grew.trans G2 G10⟩
            · have h3' : (3 : Int) ≤ (p.length : Int) := by omega
              clear h3
              go_wp2_with fail
              refine (has_yes K p x _ _ (E2.out.grown G) VP.out X.out A.out).mono ?_
              rintro e w7 ⟨rfl, g7⟩
              have G7 : Grew w2 w7 := Grew.trans G g7
              have Q7 : Grew u04256 w7 := g7
              clear g7 U0 U1
              go_wp2_with fail
              refine (AP.out _ _ (E2.out.grown G7)).mono ?_
              rintro e w8 ⟨rfl, g8⟩
              have G8 : Grew w2 w8 := Grew.trans G7 g8
              have Q8 : Grew u04256 w8 := Grew.trans Q7 g8
              clear g8 Q7 G7
              go_wp2_with fail
              refine (AQ.out _ _ (E6.out.grown Q8)).mono ?_
              rintro e w9 ⟨rfl, g9⟩
              have G9 : Grew w2 w9 := Grew.trans G8 g9
              have Q9 : Grew u04256 w9 := Grew.trans Q8 g9
              clear g9 Q8 G8
              go_wp2_with fail
              refine ((same_any p q _ _ _ (E2.out.grown G9) (E6.out.grown Q9) (by omega)).mono fun _ _ t => t.to EQ.out).mono ?_
              rintro e w10 ⟨rfl, g10⟩
              have G10 : Grew w2 w10 := Grew.trans G9 g10
              clear g10 Q9 G9
              go_wp2_with fail
              go_ret
              exact ⟨rfl, Grew.trans G2 G10⟩
          · have NQ := Lib.hid (further_out hq hx)
            have A := Lib.hid hx
            by_cases h3 : (p.length : Int) < 3
            · have le : N ≤ M := by rw [← hM, ← hN, area_small (by omega)]; exact area_nonneg hq.1
              clear hx hp hq hm hs6 vp vq px hr2 hN hM
              have nn : ¬ M < N := by omega
              go_wp2_with fail
              refine (has_no K p x _ _ (E2.out.grown G) VP.out X.out A.out).mono ?_
              rintro e w7 ⟨rfl, g7⟩
              have G7 : Grew w2 w7 := Grew.trans G g7
              have Q7 : Grew u04256 w7 := g7
              clear g7 U0 U1
              go_wp2_with fail
              refine (AP.out _ _ (E2.out.grown G7)).mono ?_
              rintro e w8 ⟨rfl, g8⟩
              have G8 : Grew w2 w8 := Grew.trans G7 g8
              have Q8 : Grew u04256 w8 := Grew.trans Q7 g8
              clear g8 Q7 G7
              go_wp2_with fail
              refine (AQ.out _ _ (E6.out.grown Q8)).mono ?_
              rintro e w9 ⟨rfl, g9⟩
              have G9 : Grew w2 w9 := Grew.trans G8 g9
              have Q9 : Grew u04256 w9 := Grew.trans Q8 g9
              clear g9 Q8 G8
              go_wp2_with fail
              refine ((same_any p q _ _ _ (E2.out.grown G9) (E6.out.grown Q9) (by omega)).mono fun _ _ t => t.un NQ.out).mono ?_
              rintro e w10 ⟨rfl, g10⟩
              have G10 : Grew w2 w10 := Grew.trans G9 g10
              clear g10 Q9 G9
              go_wp2_with fail
              go_ret
              exact ⟨rfl, Grew.trans G2 G10⟩
            · have lt : N < M := by rw [← hM, ← hN]; exact area_more hp hq (by omega) hx
              clear hx hp hq hm hs6 vp vq px hr2 hN hM
              have nn : ¬ M < N := by omega
              have h3' : (3 : Int) ≤ (p.length : Int) := by omega
              clear h3
              have ne1 : (M == N) = false := by rw [beq_eq_false_iff_ne]; omega
              go_wp2_with fail
              refine (has_no K p x _ _ (E2.out.grown G) VP.out X.out A.out).mono ?_
              rintro e w7 ⟨rfl, g7⟩
              have G7 : Grew w2 w7 := Grew.trans G g7
              have Q7 : Grew u04256 w7 := g7
              clear g7 U0 U1
              go_wp2_with fail
              refine (AP.out _ _ (E2.out.grown G7)).mono ?_
              rintro e w8 ⟨rfl, g8⟩
              have G8 : Grew w2 w8 := Grew.trans G7 g8
              have Q8 : Grew u04256 w8 := Grew.trans Q7 g8
              clear g8 Q7 G7
              go_wp2_with fail
              refine (AQ.out _ _ (E6.out.grown Q8)).mono ?_
              rintro e w9 ⟨rfl, g9⟩
              have G9 : Grew w2 w9 := Grew.trans G8 g9
              have Q9 : Grew u04256 w9 := Grew.trans Q8 g9
              clear g9 Q8 G8
              go_wp2_with fail
              refine ((same_any p q _ _ _ (E2.out.grown G9) (E6.out.grown Q9) (by omega)).mono fun _ _ t => t.un NQ.out).mono ?_
              rintro e w10 ⟨rfl, g10⟩
              have G10 : Grew w2 w10 := Grew.trans G9 g10
              clear g10 Q9 G9
              go_wp2_with fail
              go_ret
              exact ⟨rfl, Grew.trans G2 G10⟩
        · go_wp2_with fail
          go_ret
          exact ⟨rfl, Grew.trans G2 G⟩
      · go_wp2_with fail
        go_ret
        exact ⟨rfl, Grew.trans G2 G⟩
  · refine AllReadyH.cons (o := ⟨some 31, _, _, _, _, _⟩) rfl (fun KK hK => ?_) AllReadyH.nil
    go_simp
    have row : Row (World.alloc u (.cells #[.int .i64 x.1, .int .i64 x.2] 24)) u.heap.size 0 [x] := row_new [x] _ rfl _ _
    have GX : ∀ W : World, Grew W u → Grew W (World.alloc u (.cells #[.int .i64 x.1, .int .i64 x.2] 24)) := fun W g => Grew.alloc g _ _
    obtain ⟨u4, eu⟩ : ∃ W, World.alloc u (.cells #[.int .i64 x.1, .int .i64 x.2] 24) = W := ⟨_, rfl⟩
    obtain ⟨g4, eg⟩ : ∃ g, u.heap.size = g := ⟨_, rfl⟩
    rw [eu] at row GX
    rw [eg] at row
    rw [eu, eg]
    have GC : Grew w2 u4 := GX w2 G
    clear G GX eu eg
    refine hK.out _ _ ⟨(Grew.cell GC xb).trans x0, (Grew.cell GC xb).trans x1⟩ (fun h1 => ?_)
    clear hK KK hHeld
    have hHeld := h1
    clear h1
    have G := GC
    clear GC
    try simp only [Act.put, List.setIfInBounds_toArray, List.set_cons_zero, List.set_cons_succ]
    refine wpAnyH_ready (rs := [0]) (by kernel_rfl) (by simp) ?_
    refine AllReadyH.cons (o := ⟨some 27, _, _, _, _, _⟩) rfl (fun KK hK => ?_) AllReadyH.nil
    rw [if_pos (by rfl)]
    refine wp_build0 _ rfl w2.heap.size G.size ?_
    intro g0 u40 hg0 own GX
    have GC : Grew w2 u40 := GX w2 G
    have row' := row.grown (GX _ (Grew.refl _))
    have ne0 : some g4 ≠ some g0 := fun e => by have := row.1; have := Option.some.inj e; omega
    clear row
    have row := row'
    clear row'
    have hg0' : g0 < u40.heap.size := (World.ownsRow.lt own g0 rfl).2
    clear G GX hg0
    refine hK.out _ _ ⟨(Grew.cell GC xb).trans x0, (Grew.cell GC xb).trans x1⟩ (fun h1 => ?_)
    clear hK KK hHeld
    have hHeld := h1
    clear h1
    have G := GC
    clear GC
    try simp only [Act.put, List.setIfInBounds_toArray, List.set_cons_zero, List.set_cons_succ]
    refine wpAnyH_ready (rs := [2]) (by kernel_rfl) (by simp) ?_
    refine AllReadyH.cons (o := ⟨some 29, _, _, _, _, _⟩) rfl (fun KK hK => ?_) AllReadyH.nil
    rw [if_pos (by rfl)]
    refine wp_append_pts _ _ _ rfl w2.heap.size _ [] l b o c rfl own rfl (HR.out.grown (Grew.trans G2 G)) (by simp <;> omega) G.size ?_
    intro a2 u402 own' GY GR
    have GC : Grew w2 u402 := GY w2 (Nat.le_refl _) G
    have row' := GR _ _ _ row ne0
    clear row
    have row := row'
    clear row'
    clear own
    have own := own'
    clear own' G GY GR hg0'
    refine hK.out _ _ ⟨(Grew.cell GC xb).trans x0, (Grew.cell GC xb).trans x1⟩ (fun h1 => ?_)
    clear hK KK hHeld
    have hHeld := h1
    clear h1
    have G := GC
    clear GC
    try simp only [Act.put, List.setIfInBounds_toArray, List.set_cons_zero, List.set_cons_succ]
    refine wpAnyH_ready (rs := [5]) (by kernel_rfl) (by simp) ?_
    refine AllReadyH.cons (o := ⟨some 32, _, _, _, _, _⟩) rfl (fun KK hK => ?_) AllReadyH.nil
    rw [if_pos (by rfl)]
    refine wp_append_pts _ _ _ rfl w2.heap.size _ ([] ++ l) [x] g4 0 1 rfl own rfl row (by simp <;> omega) G.size ?_
    intro a5 u4025 own' GY GR
    have GC : Grew w2 u4025 := GY w2 (Nat.le_refl _) G
    clear own
    have own := own'
    clear own' G GY GR row
    refine hK.out _ _ ⟨(Grew.cell GC xb).trans x0, (Grew.cell GC xb).trans x1⟩ (fun h1 => ?_)
    clear hK KK hHeld
    have hHeld := h1
    clear h1
    have G := GC
    clear GC
    try simp only [Act.put, List.setIfInBounds_toArray, List.set_cons_zero, List.set_cons_succ]
    refine wpAnyH_ready (rs := [6]) (by kernel_rfl) (by simp) ?_
    refine AllReadyH.cons (o := ⟨some 33, _, _, _, _, _⟩) rfl (fun KK hK => ?_) AllReadyH.nil
    go_simp
    refine (hull_says K ([] ++ l ++ [x]) (by simp <;> omega) _ _ own.sl).mono ?_
    rintro e u40256 ⟨v6, k6, q, rfl, say6, hs6, g6⟩
    have GC : Grew w2 u40256 := Grew.trans G g6
    clear G g6 own
    refine hK.out _ _ ⟨(Grew.cell GC xb).trans x0, (Grew.cell GC xb).trans x1⟩ (fun h1 => ?_)
    clear hK KK hHeld
    have hHeld := h1
    clear h1
    have G := GC
    clear GC
    try simp only [Act.put, List.setIfInBounds_toArray, List.set_cons_zero, List.set_cons_succ]
    refine wpAnyH_take (i := 7) (oi := ⟨some 26, _, _, _, _, _⟩) (v := ?_) rfl (by kernel_rfl) (by kernel_rfl) (by kernel_rfl) (fun _ _ _ h => h) (Or.inl ⟨by rfl, ?_⟩) (by assumption) ?_
    rotate_left
    · intro w hSw; (try dsimp only at hSw); go_simp; (try with_reducible rfl)
    try simp only [Act.put, List.setIfInBounds_toArray, List.set_cons_zero, List.set_cons_succ]
    refine wpAnyH_take (i := 8) (oi := ⟨some 34, _, _, _, _, _⟩) (v := ?_) rfl (by kernel_rfl) (by kernel_rfl) (by kernel_rfl) (fun _ _ _ h => h) (Or.inl ⟨by rfl, ?_⟩) (by assumption) ?_
    rotate_left
    · intro w hSw; (try dsimp only at hSw); go_simp; (try with_reducible rfl)
    try simp only [Act.put, List.setIfInBounds_toArray, List.set_cons_zero, List.set_cons_succ]
    refine wpAnyH_take (i := 9) (oi := ⟨some 35, _, _, _, _, _⟩) (v := ?_) rfl (by kernel_rfl) (by kernel_rfl) (by kernel_rfl) (fun _ _ _ h => h) (Or.inl ⟨by rfl, ?_⟩) (by assumption) ?_
    rotate_left
    · intro w hSw; (try dsimp only at hSw); go_simp; (try with_reducible rfl)
    try simp only [Act.put, List.setIfInBounds_toArray, List.set_cons_zero, List.set_cons_succ]
    refine wpAnyH_take (i := 10) (oi := ⟨some 8, _, _, _, _, _⟩) (v := ?_) rfl (by kernel_rfl) (by kernel_rfl) (by kernel_rfl) (fun _ _ _ h => h) (Or.inl ⟨by rfl, ?_⟩) (by assumption) ?_
    rotate_left
    · intro w hSw; (try dsimp only at hSw); go_simp; (try with_reducible rfl)
    try simp only [Act.put, List.setIfInBounds_toArray, List.set_cons_zero, List.set_cons_succ]
    refine wpAnyH_take (i := 11) (oi := ⟨some 9, _, _, _, _, _⟩) (v := ?_) rfl (by kernel_rfl) (by kernel_rfl) (by kernel_rfl) (fun _ _ _ h => h) (Or.inl ⟨by rfl, ?_⟩) (by assumption) ?_
    rotate_left
    · intro w hSw; (try dsimp only at hSw); go_simp; (try with_reducible rfl)
    try simp only [Act.put, List.setIfInBounds_toArray, List.set_cons_zero, List.set_cons_succ]
    refine wpAnyH_done (by kernel_rfl) ?_ _
    have say2 := S2.out
    clear S2
    rcases say2 with ⟨rfl, hp, h2, _⟩ | ⟨n1, n2⟩
    · rcases say6 with ⟨rfl, hq, h6, hm⟩ | ⟨n1, n2⟩
      · have E6 := Lib.hid hs6
        rw [List.nil_append] at hq hm
        obtain ⟨vp, vq, px⟩ := says_facts hp h2 hq h6 hm
        have VP := Lib.hid vp
        have VQ := Lib.hid vq
        have X := Lib.hid px
        obtain ⟨b2, o2, c2, rfl, hr2⟩ := E2.out.row (fun e => by have := vp.1.1; rw [e] at this; exact absurd this (by decide))
        have P64 : (p.length : Int) ≤ 64 := by omega
        obtain ⟨N, hN⟩ : ∃ N, area p.length (at' p) = N := ⟨_, rfl⟩
        obtain ⟨M, hM⟩ : ∃ M, area q.length (at' q) = M := ⟨_, rfl⟩
        have AP : Hid (∀ (v : Value) (w : World), Sl w v p → Calls Try.prog 23 #[v] w fun e w' => e = .returned (.tuple #[.int .i64 N, .int .i64 0]) ∧ Grew w w') := Lib.hid (fun v w s => by have t := K.area_ok p v w s VP.out; rwa [hN] at t)
        have AQ : Hid (∀ (v : Value) (w : World), Sl w v q → Calls Try.prog 23 #[v] w fun e w' => e = .returned (.tuple #[.int .i64 M, .int .i64 0]) ∧ Grew w w') := Lib.hid (fun v w s => by have t := K.area_ok q v w s VQ.out; rwa [hM] at t)
        have U0 : u40256.cell? ⟨w.heap.size, 0, none⟩ = some (.int .i64 x.1) := (Grew.cell G xb).trans x0
        have U1 : u40256.cell? ⟨w.heap.size, 1, none⟩ = some (.int .i64 x.2) := (Grew.cell G xb).trans x1
        by_cases hx : Hs p x
        · have eq := further_in hp hq hx
          have EQ : Hid (p = q) := Lib.hid eq.symm
          have A := Lib.hid hx
          have hMN : M = N := by rw [← hM, ← hN, eq]
          clear hx eq hp hq hm hs6 vp vq px hr2 hN hM
          subst hMN
          have nn : ¬ M < M := Int.lt_irrefl M
          by_cases h3 : (p.length : Int) < 3
          · go_wp2_with fail
            refine (has_yes K p x _ _ (E2.out.grown G) VP.out X.out A.out).mono ?_
            rintro e w7 ⟨rfl, g7⟩
            have G7 : Grew w2 w7 := Grew.trans G g7
            have Q7 : Grew u40256 w7 := g7
            clear g7 U0 U1
            go_wp2_with fail
            refine (AP.out _ _ (E2.out.grown G7)).mono ?_
            rintro e w8 ⟨rfl, g8⟩
            have G8 : Grew w2 w8 := Grew.trans G7 g8
            have Q8 : Grew u40256 w8 := Grew.trans Q7 g8
            clear g8 Q7 G7
            go_wp2_with fail
            refine (AQ.out _ _ (E6.out.grown Q8)).mono ?_
            rintro e w9 ⟨rfl, g9⟩
            have G9 : Grew w2 w9 := Grew.trans G8 g9
            have Q9 : Grew u40256 w9 := Grew.trans Q8 g9
            clear g9 Q8 G8
            go_wp2_with fail
            refine ((same_any p q _ _ _ (E2.out.grown G9) (E6.out.grown Q9) (by omega)).mono fun _ _ t => t.to EQ.out).mono ?_
            rintro e w10 ⟨rfl, g10⟩
            have G10 : Grew w2 w10 := Grew.trans G9 g10
            clear g10 Q9 G9
            go_wp2_with fail
            go_ret
            exact ⟨rfl, Grew.trans G2 G10⟩
          · have h3' : (3 : Int) ≤ (p.length : Int) := by omega
            clear h3
            go_wp2_with fail
            refine (has_yes K p x _ _ (E2.out.grown G) VP.out X.out A.out).mono ?_
            rintro e w7 ⟨rfl, g7⟩
            have G7 : Grew w2 w7 := Grew.trans G g7
            have Q7 : Grew u40256 w7 := g7
            clear g7 U0 U1
            go_wp2_with fail
            refine (AP.out _ _ (E2.out.grown G7)).mono ?_
            rintro e w8 ⟨rfl, g8⟩
            have G8 : Grew w2 w8 := Grew.trans G7 g8
            have Q8 : Grew u40256 w8 := Grew.trans Q7 g8
            clear g8 Q7 G7
            go_wp2_with fail
            refine (AQ.out _ _ (E6.out.grown Q8)).mono ?_
            rintro e w9 ⟨rfl, g9⟩
            have G9 : Grew w2 w9 := Grew.trans G8 g9
            have Q9 : Grew u40256 w9 := Grew.trans Q8 g9
            clear g9 Q8 G8
            go_wp2_with fail
            refine ((same_any p q _ _ _ (E2.out.grown G9) (E6.out.grown Q9) (by omega)).mono fun _ _ t => t.to EQ.out).mono ?_
            rintro e w10 ⟨rfl, g10⟩
            have G10 : Grew w2 w10 := Grew.trans G9 g10
            clear g10 Q9 G9
            go_wp2_with fail
            go_ret
            exact ⟨rfl, Grew.trans G2 G10⟩
        · have NQ := Lib.hid (further_out hq hx)
          have A := Lib.hid hx
          by_cases h3 : (p.length : Int) < 3
          · have le : N ≤ M := by rw [← hM, ← hN, area_small (by omega)]; exact area_nonneg hq.1
            clear hx hp hq hm hs6 vp vq px hr2 hN hM
            have nn : ¬ M < N := by omega
            go_wp2_with fail
            refine (has_no K p x _ _ (E2.out.grown G) VP.out X.out A.out).mono ?_
            rintro e w7 ⟨rfl, g7⟩
            have G7 : Grew w2 w7 := Grew.trans G g7
            have Q7 : Grew u40256 w7 := g7
            clear g7 U0 U1
            go_wp2_with fail
            refine (AP.out _ _ (E2.out.grown G7)).mono ?_
            rintro e w8 ⟨rfl, g8⟩
            have G8 : Grew w2 w8 := Grew.trans G7 g8
            have Q8 : Grew u40256 w8 := Grew.trans Q7 g8
            clear g8 Q7 G7
            go_wp2_with fail
            refine (AQ.out _ _ (E6.out.grown Q8)).mono ?_
            rintro e w9 ⟨rfl, g9⟩
            have G9 : Grew w2 w9 := Grew.trans G8 g9
            have Q9 : Grew u40256 w9 := Grew.trans Q8 g9
            clear g9 Q8 G8
            go_wp2_with fail
            refine ((same_any p q _ _ _ (E2.out.grown G9) (E6.out.grown Q9) (by omega)).mono fun _ _ t => t.un NQ.out).mono ?_
            rintro e w10 ⟨rfl, g10⟩
            have G10 : Grew w2 w10 := Grew.trans G9 g10
            clear g10 Q9 G9
            go_wp2_with fail
            go_ret
            exact ⟨rfl, Grew.trans G2 G10⟩
          · have lt : N < M := by rw [← hM, ← hN]; exact area_more hp hq (by omega) hx
            clear hx hp hq hm hs6 vp vq px hr2 hN hM
            have nn : ¬ M < N := by omega
            have h3' : (3 : Int) ≤ (p.length : Int) := by omega
            clear h3
            have ne1 : (M == N) = false := by rw [beq_eq_false_iff_ne]; omega
            go_wp2_with fail
            refine (has_no K p x _ _ (E2.out.grown G) VP.out X.out A.out).mono ?_
            rintro e w7 ⟨rfl, g7⟩
            have G7 : Grew w2 w7 := Grew.trans G g7
            have Q7 : Grew u40256 w7 := g7
            clear g7 U0 U1
            go_wp2_with fail
            refine (AP.out _ _ (E2.out.grown G7)).mono ?_
            rintro e w8 ⟨rfl, g8⟩
            have G8 : Grew w2 w8 := Grew.trans G7 g8
            have Q8 : Grew u40256 w8 := Grew.trans Q7 g8
            clear g8 Q7 G7
            go_wp2_with fail
            refine (AQ.out _ _ (E6.out.grown Q8)).mono ?_
            rintro e w9 ⟨rfl, g9⟩
            have G9 : Grew w2 w9 := Grew.trans G8 g9
            have Q9 : Grew u40256 w9 := Grew.trans Q8 g9
            clear g9 Q8 G8
            go_wp2_with fail
            refine ((same_any p q _ _ _ (E2.out.grown G9) (E6.out.grown Q9) (by omega)).mono fun _ _ t => t.un NQ.out).mono ?_
            rintro e w10 ⟨rfl, g10⟩
            have G10 : Grew w2 w10 := Grew.trans G9 g10
            clear g10 Q9 G9
            go_wp2_with fail
            go_ret
            exact ⟨rfl, Grew.trans G2 G10⟩
      · go_wp2_with fail
        go_ret
        exact ⟨rfl, Grew.trans G2 G⟩
    · go_wp2_with fail
      go_ret
      exact ⟨rfl, Grew.trans G2 G⟩

set_option maxRecDepth 100000 in
set_option maxHeartbeats 4000000 in
theorem further_nil (K : Code) (x : Pt) (c : Nat) (w : World) (HS : Hid (Sl w (.slice none 0 c) [])) : Calls Try.prog 9 #[.slice none 0 c, .agg #[.int .i64 x.1, .int .i64 x.2]] w fun e w' => e = .returned (.bool true) ∧ Grew w w' := by
  go_enter Try.func9, Try.ntmps9
  go_wp2_with fail
  refine (head_true K _).mono ?_
  rintro e w1 ⟨rfl, g1⟩
  obtain ⟨c1, f1, z1⟩ := laid g1
  try simp at z1
  have G1 : Grew w w1 := Grew.trans (by (repeat' (first | (with_reducible exact Grew.refl _) | (with_reducible assumption) | (with_reducible refine Grew.alloc ?_ _ _) | (with_reducible refine Grew.drew ?_) | (with_reducible refine Grew.drewN ?_ _) | (with_reducible refine Grew.setCell ?_ ?_ _) | go_size))) g1
  clear g1
  have z1_0 : w.heap.size < w1.heap.size := by omega
  go_wp2_with fail
  refine (hull_says K [] (by simp) _ _ (HS.out.grown (by (repeat' (first | (with_reducible exact Grew.refl _) | (with_reducible assumption) | (with_reducible refine Grew.alloc ?_ _ _) | (with_reducible refine Grew.drew ?_) | (with_reducible refine Grew.drewN ?_ _) | (with_reducible refine Grew.setCell ?_ ?_ _) | go_size))))).mono ?_
  rintro e w2 ⟨v2, k2, p, rfl, say2, hs2, g2⟩
  obtain ⟨c2, f2, z2⟩ := laid g2
  try simp at z2
  have G2 : Grew w w2 := Grew.trans (by (repeat' (first | (with_reducible exact Grew.refl _) | (with_reducible assumption) | (with_reducible refine Grew.alloc ?_ _ _) | (with_reducible refine Grew.drew ?_) | (with_reducible refine Grew.drewN ?_ _) | (with_reducible refine Grew.setCell ?_ ?_ _) | go_size))) g2
  clear g2
  have z2_0 : w.heap.size < w2.heap.size := by omega
  have E2 := Lib.hid hs2
  clear hs2
  have S2 := Lib.hid say2
  clear say2
  go_wp2_with fail
  have x0 : w2.cell? ⟨w.heap.size, 0, none⟩ = some (.int .i64 x.1) := by simp [go_sem, *]
  have x1 : w2.cell? ⟨w.heap.size, 1, none⟩ = some (.int .i64 x.2) := by simp [go_sem, *]
  have xb : w.heap.size < w2.heap.size := by omega
  clear c1 f1 c2 f2 z1 G1
  have n2 := says_nil S2.out
  have n1 := bne_false n2
  refine wp_region_held_drew (S := (fun w' => w'.cell? ⟨w.heap.size, 0, none⟩ = some (.int .i64 x.1) ∧ w'.cell? ⟨w.heap.size, 1, none⟩ = some (.int .i64 x.2))) (by kernel_rfl) ⟨(Grew.cell (Grew.drew (Grew.refl w2)) xb).trans x0, (Grew.cell (Grew.drew (Grew.refl w2)) xb).trans x1⟩ (fun hHeld => ?_)
  have G : Grew w2 w2.drew := Grew.drew (Grew.refl _)
  obtain ⟨u, eu⟩ : ∃ u, w2.drew = u := ⟨_, rfl⟩
  rw [eu] at hHeld G ⊢
  clear eu
  refine wpAnyH_take (i := 1) (oi := ⟨some 28, _, _, _, _, _⟩) (v := ?_) rfl (by kernel_rfl) (by kernel_rfl) (by kernel_rfl) (fun _ _ _ h => h) (Or.inl ⟨by rfl, ?_⟩) (by assumption) ?_
  rotate_left
  · intro w hSw; (try dsimp only at hSw); go_simp; (try with_reducible rfl)
  try simp only [Act.put, List.setIfInBounds_toArray, List.set_cons_zero, List.set_cons_succ]
  refine wpAnyH_take (i := 3) (oi := ⟨some 30, _, _, _, _, _⟩) (v := ?_) rfl (by kernel_rfl) (by kernel_rfl) (by kernel_rfl) (fun _ _ _ h => h) (Or.inl ⟨by rfl, ?_⟩) (by assumption) ?_
  rotate_left
  · intro w hSw; (try dsimp only at hSw); go_simp; (try with_reducible rfl)
  try simp only [Act.put, List.setIfInBounds_toArray, List.set_cons_zero, List.set_cons_succ]
  refine wpAnyH_ready (rs := [0, 4]) (by kernel_rfl) (by simp) ?_
  refine AllReadyH.cons (o := ⟨some 27, _, _, _, _, _⟩) rfl (fun KK hK => ?_) ?_
  · rw [if_pos (by rfl)]
    refine wp_build0 _ rfl w2.heap.size G.size ?_
    intro g0 u0 hg0 own GX
    have GC : Grew w2 u0 := GX w2 G
    have hg0' : g0 < u0.heap.size := (World.ownsRow.lt own g0 rfl).2
    clear G GX hg0
    refine hK.out _ _ ⟨(Grew.cell GC xb).trans x0, (Grew.cell GC xb).trans x1⟩ (fun h1 => ?_)
    clear hK KK hHeld
    have hHeld := h1
    clear h1
    have G := GC
    clear GC
    try simp only [Act.put, List.setIfInBounds_toArray, List.set_cons_zero, List.set_cons_succ]
    refine wpAnyH_ready (rs := [2, 4]) (by kernel_rfl) (by simp) ?_
    refine AllReadyH.cons (o := ⟨some 29, _, _, _, _, _⟩) rfl (fun KK hK => ?_) ?_
    · rw [if_pos (by rfl)]
      refine wp_append_none _ _ _ rfl _ rfl _ rfl ?_
      have GC := G
      clear G
      refine hK.out _ _ ⟨(Grew.cell GC xb).trans x0, (Grew.cell GC xb).trans x1⟩ (fun h1 => ?_)
      clear hK KK hHeld
      have hHeld := h1
      clear h1
      have G := GC
      clear GC
      try simp only [Act.put, List.setIfInBounds_toArray, List.set_cons_zero, List.set_cons_succ]
      refine wpAnyH_ready (rs := [4]) (by kernel_rfl) (by simp) ?_
      refine AllReadyH.cons (o := ⟨some 31, _, _, _, _, _⟩) rfl (fun KK hK => ?_) AllReadyH.nil
      go_simp
      have row : Row (World.alloc u0 (.cells #[.int .i64 x.1, .int .i64 x.2] 24)) u0.heap.size 0 [x] := row_new [x] _ rfl _ _
      have GX : ∀ W : World, Grew W u0 → Grew W (World.alloc u0 (.cells #[.int .i64 x.1, .int .i64 x.2] 24)) := fun W g => Grew.alloc g _ _
      obtain ⟨u04, eu⟩ : ∃ W, World.alloc u0 (.cells #[.int .i64 x.1, .int .i64 x.2] 24) = W := ⟨_, rfl⟩
      obtain ⟨g4, eg⟩ : ∃ g, u0.heap.size = g := ⟨_, rfl⟩
      rw [eu] at row GX
      rw [eg] at row
      rw [eu, eg]
      have GC : Grew w2 u04 := GX w2 G
      have own' := own.grew (GX _ (Grew.refl _))
      clear own
      have own := own'
      clear own'
      clear G GX eu eg
      refine hK.out _ _ ⟨(Grew.cell GC xb).trans x0, (Grew.cell GC xb).trans x1⟩ (fun h1 => ?_)
      clear hK KK hHeld
      have hHeld := h1
      clear h1
      have G := GC
      clear GC
      try simp only [Act.put, List.setIfInBounds_toArray, List.set_cons_zero, List.set_cons_succ]
      refine wpAnyH_ready (rs := [5]) (by kernel_rfl) (by simp) ?_
      refine AllReadyH.cons (o := ⟨some 32, _, _, _, _, _⟩) rfl (fun KK hK => ?_) AllReadyH.nil
      rw [if_pos (by rfl)]
      refine wp_append_pts _ _ _ rfl w2.heap.size _ [] [x] g4 0 1 rfl own rfl row (by simp <;> omega) G.size ?_
      intro a5 u045 own' GY GR
      have GC : Grew w2 u045 := GY w2 (Nat.le_refl _) G
      clear own
      have own := own'
      clear own' G GY GR row
      refine hK.out _ _ ⟨(Grew.cell GC xb).trans x0, (Grew.cell GC xb).trans x1⟩ (fun h1 => ?_)
      clear hK KK hHeld
      have hHeld := h1
      clear h1
      have G := GC
      clear GC
      try simp only [Act.put, List.setIfInBounds_toArray, List.set_cons_zero, List.set_cons_succ]
      refine wpAnyH_ready (rs := [6]) (by kernel_rfl) (by simp) ?_
      refine AllReadyH.cons (o := ⟨some 33, _, _, _, _, _⟩) rfl (fun KK hK => ?_) AllReadyH.nil
      go_simp
      refine (hull_says K ([] ++ [x]) (by simp <;> omega) _ _ own.sl).mono ?_
      rintro e u0456 ⟨v6, k6, q, rfl, say6, hs6, g6⟩
      have GC : Grew w2 u0456 := Grew.trans G g6
      clear G g6 own
      refine hK.out _ _ ⟨(Grew.cell GC xb).trans x0, (Grew.cell GC xb).trans x1⟩ (fun h1 => ?_)
      clear hK KK hHeld
      have hHeld := h1
      clear h1
      have G := GC
      clear GC
      try simp only [Act.put, List.setIfInBounds_toArray, List.set_cons_zero, List.set_cons_succ]
      refine wpAnyH_take (i := 7) (oi := ⟨some 26, _, _, _, _, _⟩) (v := ?_) rfl (by kernel_rfl) (by kernel_rfl) (by kernel_rfl) (fun _ _ _ h => h) (Or.inl ⟨by rfl, ?_⟩) (by assumption) ?_
      rotate_left
      · intro w hSw; (try dsimp only at hSw); go_simp; (try with_reducible rfl)
      try simp only [Act.put, List.setIfInBounds_toArray, List.set_cons_zero, List.set_cons_succ]
      refine wpAnyH_take (i := 8) (oi := ⟨some 34, _, _, _, _, _⟩) (v := ?_) rfl (by kernel_rfl) (by kernel_rfl) (by kernel_rfl) (fun _ _ _ h => h) (Or.inl ⟨by rfl, ?_⟩) (by assumption) ?_
      rotate_left
      · intro w hSw; (try dsimp only at hSw); go_simp; (try with_reducible rfl)
      try simp only [Act.put, List.setIfInBounds_toArray, List.set_cons_zero, List.set_cons_succ]
      refine wpAnyH_take (i := 9) (oi := ⟨some 35, _, _, _, _, _⟩) (v := ?_) rfl (by kernel_rfl) (by kernel_rfl) (by kernel_rfl) (fun _ _ _ h => h) (Or.inl ⟨by rfl, ?_⟩) (by assumption) ?_
      rotate_left
      · intro w hSw; (try dsimp only at hSw); go_simp; (try with_reducible rfl)
      try simp only [Act.put, List.setIfInBounds_toArray, List.set_cons_zero, List.set_cons_succ]
      refine wpAnyH_take (i := 10) (oi := ⟨some 8, _, _, _, _, _⟩) (v := ?_) rfl (by kernel_rfl) (by kernel_rfl) (by kernel_rfl) (fun _ _ _ h => h) (Or.inl ⟨by rfl, ?_⟩) (by assumption) ?_
      rotate_left
      · intro w hSw; (try dsimp only at hSw); go_simp; (try with_reducible rfl)
      try simp only [Act.put, List.setIfInBounds_toArray, List.set_cons_zero, List.set_cons_succ]
      refine wpAnyH_take (i := 11) (oi := ⟨some 9, _, _, _, _, _⟩) (v := ?_) rfl (by kernel_rfl) (by kernel_rfl) (by kernel_rfl) (fun _ _ _ h => h) (Or.inl ⟨by rfl, ?_⟩) (by assumption) ?_
      rotate_left
      · intro w hSw; (try dsimp only at hSw); go_simp; (try with_reducible rfl)
      try simp only [Act.put, List.setIfInBounds_toArray, List.set_cons_zero, List.set_cons_succ]
      refine wpAnyH_done (by kernel_rfl) ?_ _
      go_wp2_with fail
      go_ret
      exact ⟨rfl, Grew.trans G2 G⟩
    · refine AllReadyH.cons (o := ⟨some 31, _, _, _, _, _⟩) rfl (fun KK hK => ?_) AllReadyH.nil
      go_simp
      have row : Row (World.alloc u0 (.cells #[.int .i64 x.1, .int .i64 x.2] 24)) u0.heap.size 0 [x] := row_new [x] _ rfl _ _
      have GX : ∀ W : World, Grew W u0 → Grew W (World.alloc u0 (.cells #[.int .i64 x.1, .int .i64 x.2] 24)) := fun W g => Grew.alloc g _ _
      obtain ⟨u04, eu⟩ : ∃ W, World.alloc u0 (.cells #[.int .i64 x.1, .int .i64 x.2] 24) = W := ⟨_, rfl⟩
      obtain ⟨g4, eg⟩ : ∃ g, u0.heap.size = g := ⟨_, rfl⟩
      rw [eu] at row GX
      rw [eg] at row
      rw [eu, eg]
      have GC : Grew w2 u04 := GX w2 G
      have own' := own.grew (GX _ (Grew.refl _))
      clear own
      have own := own'
      clear own'
      have ne0 : some g4 ≠ some g0 := fun e => by have := Option.some.inj e; omega
      have hg0'' : g0 < u04.heap.size := Nat.lt_of_lt_of_le hg0' (GX _ (Grew.refl _)).size
      clear hg0'
      have hg0' := hg0''
      clear hg0''
      clear G GX eu eg
      refine hK.out _ _ ⟨(Grew.cell GC xb).trans x0, (Grew.cell GC xb).trans x1⟩ (fun h1 => ?_)
      clear hK KK hHeld
      have hHeld := h1
      clear h1
      have G := GC
      clear GC
      try simp only [Act.put, List.setIfInBounds_toArray, List.set_cons_zero, List.set_cons_succ]
      refine wpAnyH_ready (rs := [2]) (by kernel_rfl) (by simp) ?_
      refine AllReadyH.cons (o := ⟨some 29, _, _, _, _, _⟩) rfl (fun KK hK => ?_) AllReadyH.nil
      rw [if_pos (by rfl)]
      refine wp_append_none _ _ _ rfl _ rfl _ rfl ?_
      have GC := G
      clear G
      refine hK.out _ _ ⟨(Grew.cell GC xb).trans x0, (Grew.cell GC xb).trans x1⟩ (fun h1 => ?_)
      clear hK KK hHeld
      have hHeld := h1
      clear h1
      have G := GC
      clear GC
      try simp only [Act.put, List.setIfInBounds_toArray, List.set_cons_zero, List.set_cons_succ]
      refine wpAnyH_ready (rs := [5]) (by kernel_rfl) (by simp) ?_
      refine AllReadyH.cons (o := ⟨some 32, _, _, _, _, _⟩) rfl (fun KK hK => ?_) AllReadyH.nil
      rw [if_pos (by rfl)]
      refine wp_append_pts _ _ _ rfl w2.heap.size _ [] [x] g4 0 1 rfl own rfl row (by simp <;> omega) G.size ?_
      intro a5 u045 own' GY GR
      have GC : Grew w2 u045 := GY w2 (Nat.le_refl _) G
      clear own
      have own := own'
      clear own' G GY GR row
      refine hK.out _ _ ⟨(Grew.cell GC xb).trans x0, (Grew.cell GC xb).trans x1⟩ (fun h1 => ?_)
      clear hK KK hHeld
      have hHeld := h1
      clear h1
      have G := GC
      clear GC
      try simp only [Act.put, List.setIfInBounds_toArray, List.set_cons_zero, List.set_cons_succ]
      refine wpAnyH_ready (rs := [6]) (by kernel_rfl) (by simp) ?_
      refine AllReadyH.cons (o := ⟨some 33, _, _, _, _, _⟩) rfl (fun KK hK => ?_) AllReadyH.nil
      go_simp
      refine (hull_says K ([] ++ [x]) (by simp <;> omega) _ _ own.sl).mono ?_
      rintro e u0456 ⟨v6, k6, q, rfl, say6, hs6, g6⟩
      have GC : Grew w2 u0456 := Grew.trans G g6
      clear G g6 own
      refine hK.out _ _ ⟨(Grew.cell GC xb).trans x0, (Grew.cell GC xb).trans x1⟩ (fun h1 => ?_)
      clear hK KK hHeld
      have hHeld := h1
      clear h1
      have G := GC
      clear GC
      try simp only [Act.put, List.setIfInBounds_toArray, List.set_cons_zero, List.set_cons_succ]
      refine wpAnyH_take (i := 7) (oi := ⟨some 26, _, _, _, _, _⟩) (v := ?_) rfl (by kernel_rfl) (by kernel_rfl) (by kernel_rfl) (fun _ _ _ h => h) (Or.inl ⟨by rfl, ?_⟩) (by assumption) ?_
      rotate_left
      · intro w hSw; (try dsimp only at hSw); go_simp; (try with_reducible rfl)
      try simp only [Act.put, List.setIfInBounds_toArray, List.set_cons_zero, List.set_cons_succ]
      refine wpAnyH_take (i := 8) (oi := ⟨some 34, _, _, _, _, _⟩) (v := ?_) rfl (by kernel_rfl) (by kernel_rfl) (by kernel_rfl) (fun _ _ _ h => h) (Or.inl ⟨by rfl, ?_⟩) (by assumption) ?_
      rotate_left
      · intro w hSw; (try dsimp only at hSw); go_simp; (try with_reducible rfl)
      try simp only [Act.put, List.setIfInBounds_toArray, List.set_cons_zero, List.set_cons_succ]
      refine wpAnyH_take (i := 9) (oi := ⟨some 35, _, _, _, _, _⟩) (v := ?_) rfl (by kernel_rfl) (by kernel_rfl) (by kernel_rfl) (fun _ _ _ h => h) (Or.inl ⟨by rfl, ?_⟩) (by assumption) ?_
      rotate_left
      · intro w hSw; (try dsimp only at hSw); go_simp; (try with_reducible rfl)
      try simp only [Act.put, List.setIfInBounds_toArray, List.set_cons_zero, List.set_cons_succ]
      refine wpAnyH_take (i := 10) (oi := ⟨some 8, _, _, _, _, _⟩) (v := ?_) rfl (by kernel_rfl) (by kernel_rfl) (by kernel_rfl) (fun _ _ _ h => h) (Or.inl ⟨by rfl, ?_⟩) (by assumption) ?_
      rotate_left
      · intro w hSw; (try dsimp only at hSw); go_simp; (try with_reducible rfl)
      try simp only [Act.put, List.setIfInBounds_toArray, List.set_cons_zero, List.set_cons_succ]
      refine wpAnyH_take (i := 11) (oi := ⟨some 9, _, _, _, _, _⟩) (v := ?_) rfl (by kernel_rfl) (by kernel_rfl) (by kernel_rfl) (fun _ _ _ h => h) (Or.inl ⟨by rfl, ?_⟩) (by assumption) ?_
      rotate_left
      · intro w hSw; (try dsimp only at hSw); go_simp; (try with_reducible rfl)
      try simp only [Act.put, List.setIfInBounds_toArray, List.set_cons_zero, List.set_cons_succ]
      refine wpAnyH_done (by kernel_rfl) ?_ _
      go_wp2_with fail
      go_ret
      exact ⟨rfl, Grew.trans G2 G⟩
  · refine AllReadyH.cons (o := ⟨some 31, _, _, _, _, _⟩) rfl (fun KK hK => ?_) AllReadyH.nil
    go_simp
    have row : Row (World.alloc u (.cells #[.int .i64 x.1, .int .i64 x.2] 24)) u.heap.size 0 [x] := row_new [x] _ rfl _ _
    have GX : ∀ W : World, Grew W u → Grew W (World.alloc u (.cells #[.int .i64 x.1, .int .i64 x.2] 24)) := fun W g => Grew.alloc g _ _
    obtain ⟨u4, eu⟩ : ∃ W, World.alloc u (.cells #[.int .i64 x.1, .int .i64 x.2] 24) = W := ⟨_, rfl⟩
    obtain ⟨g4, eg⟩ : ∃ g, u.heap.size = g := ⟨_, rfl⟩
    rw [eu] at row GX
    rw [eg] at row
    rw [eu, eg]
    have GC : Grew w2 u4 := GX w2 G
    clear G GX eu eg
    refine hK.out _ _ ⟨(Grew.cell GC xb).trans x0, (Grew.cell GC xb).trans x1⟩ (fun h1 => ?_)
    clear hK KK hHeld
    have hHeld := h1
    clear h1
    have G := GC
    clear GC
    try simp only [Act.put, List.setIfInBounds_toArray, List.set_cons_zero, List.set_cons_succ]
    refine wpAnyH_ready (rs := [0]) (by kernel_rfl) (by simp) ?_
    refine AllReadyH.cons (o := ⟨some 27, _, _, _, _, _⟩) rfl (fun KK hK => ?_) AllReadyH.nil
    rw [if_pos (by rfl)]
    refine wp_build0 _ rfl w2.heap.size G.size ?_
    intro g0 u40 hg0 own GX
    have GC : Grew w2 u40 := GX w2 G
    have row' := row.grown (GX _ (Grew.refl _))
    have ne0 : some g4 ≠ some g0 := fun e => by have := row.1; have := Option.some.inj e; omega
    clear row
    have row := row'
    clear row'
    have hg0' : g0 < u40.heap.size := (World.ownsRow.lt own g0 rfl).2
    clear G GX hg0
    refine hK.out _ _ ⟨(Grew.cell GC xb).trans x0, (Grew.cell GC xb).trans x1⟩ (fun h1 => ?_)
    clear hK KK hHeld
    have hHeld := h1
    clear h1
    have G := GC
    clear GC
    try simp only [Act.put, List.setIfInBounds_toArray, List.set_cons_zero, List.set_cons_succ]
    refine wpAnyH_ready (rs := [2]) (by kernel_rfl) (by simp) ?_
    refine AllReadyH.cons (o := ⟨some 29, _, _, _, _, _⟩) rfl (fun KK hK => ?_) AllReadyH.nil
    rw [if_pos (by rfl)]
    refine wp_append_none _ _ _ rfl _ rfl _ rfl ?_
    have GC := G
    clear G
    refine hK.out _ _ ⟨(Grew.cell GC xb).trans x0, (Grew.cell GC xb).trans x1⟩ (fun h1 => ?_)
    clear hK KK hHeld
    have hHeld := h1
    clear h1
    have G := GC
    clear GC
    try simp only [Act.put, List.setIfInBounds_toArray, List.set_cons_zero, List.set_cons_succ]
    refine wpAnyH_ready (rs := [5]) (by kernel_rfl) (by simp) ?_
    refine AllReadyH.cons (o := ⟨some 32, _, _, _, _, _⟩) rfl (fun KK hK => ?_) AllReadyH.nil
    rw [if_pos (by rfl)]
    refine wp_append_pts _ _ _ rfl w2.heap.size _ [] [x] g4 0 1 rfl own rfl row (by simp <;> omega) G.size ?_
    intro a5 u405 own' GY GR
    have GC : Grew w2 u405 := GY w2 (Nat.le_refl _) G
    clear own
    have own := own'
    clear own' G GY GR row
    refine hK.out _ _ ⟨(Grew.cell GC xb).trans x0, (Grew.cell GC xb).trans x1⟩ (fun h1 => ?_)
    clear hK KK hHeld
    have hHeld := h1
    clear h1
    have G := GC
    clear GC
    try simp only [Act.put, List.setIfInBounds_toArray, List.set_cons_zero, List.set_cons_succ]
    refine wpAnyH_ready (rs := [6]) (by kernel_rfl) (by simp) ?_
    refine AllReadyH.cons (o := ⟨some 33, _, _, _, _, _⟩) rfl (fun KK hK => ?_) AllReadyH.nil
    go_simp
    refine (hull_says K ([] ++ [x]) (by simp <;> omega) _ _ own.sl).mono ?_
    rintro e u4056 ⟨v6, k6, q, rfl, say6, hs6, g6⟩
    have GC : Grew w2 u4056 := Grew.trans G g6
    clear G g6 own
    refine hK.out _ _ ⟨(Grew.cell GC xb).trans x0, (Grew.cell GC xb).trans x1⟩ (fun h1 => ?_)
    clear hK KK hHeld
    have hHeld := h1
    clear h1
    have G := GC
    clear GC
    try simp only [Act.put, List.setIfInBounds_toArray, List.set_cons_zero, List.set_cons_succ]
    refine wpAnyH_take (i := 7) (oi := ⟨some 26, _, _, _, _, _⟩) (v := ?_) rfl (by kernel_rfl) (by kernel_rfl) (by kernel_rfl) (fun _ _ _ h => h) (Or.inl ⟨by rfl, ?_⟩) (by assumption) ?_
    rotate_left
    · intro w hSw; (try dsimp only at hSw); go_simp; (try with_reducible rfl)
    try simp only [Act.put, List.setIfInBounds_toArray, List.set_cons_zero, List.set_cons_succ]
    refine wpAnyH_take (i := 8) (oi := ⟨some 34, _, _, _, _, _⟩) (v := ?_) rfl (by kernel_rfl) (by kernel_rfl) (by kernel_rfl) (fun _ _ _ h => h) (Or.inl ⟨by rfl, ?_⟩) (by assumption) ?_
    rotate_left
    · intro w hSw; (try dsimp only at hSw); go_simp; (try with_reducible rfl)
    try simp only [Act.put, List.setIfInBounds_toArray, List.set_cons_zero, List.set_cons_succ]
    refine wpAnyH_take (i := 9) (oi := ⟨some 35, _, _, _, _, _⟩) (v := ?_) rfl (by kernel_rfl) (by kernel_rfl) (by kernel_rfl) (fun _ _ _ h => h) (Or.inl ⟨by rfl, ?_⟩) (by assumption) ?_
    rotate_left
    · intro w hSw; (try dsimp only at hSw); go_simp; (try with_reducible rfl)
    try simp only [Act.put, List.setIfInBounds_toArray, List.set_cons_zero, List.set_cons_succ]
    refine wpAnyH_take (i := 10) (oi := ⟨some 8, _, _, _, _, _⟩) (v := ?_) rfl (by kernel_rfl) (by kernel_rfl) (by kernel_rfl) (fun _ _ _ h => h) (Or.inl ⟨by rfl, ?_⟩) (by assumption) ?_
    rotate_left
    · intro w hSw; (try dsimp only at hSw); go_simp; (try with_reducible rfl)
    try simp only [Act.put, List.setIfInBounds_toArray, List.set_cons_zero, List.set_cons_succ]
    refine wpAnyH_take (i := 11) (oi := ⟨some 9, _, _, _, _, _⟩) (v := ?_) rfl (by kernel_rfl) (by kernel_rfl) (by kernel_rfl) (fun _ _ _ h => h) (Or.inl ⟨by rfl, ?_⟩) (by assumption) ?_
    rotate_left
    · intro w hSw; (try dsimp only at hSw); go_simp; (try with_reducible rfl)
    try simp only [Act.put, List.setIfInBounds_toArray, List.set_cons_zero, List.set_cons_succ]
    refine wpAnyH_done (by kernel_rfl) ?_ _
    go_wp2_with fail
    go_ret
    exact ⟨rfl, Grew.trans G2 G⟩

set_option maxRecDepth 100000 in
set_option maxHeartbeats 4000000 in
theorem further_zero (K : Code) (x : Pt) (A : Addr) (c : Nat) (w : World) (HS : Hid (Sl w (.slice (some A) 0 c) [])) : Calls Try.prog 9 #[.slice (some A) 0 c, .agg #[.int .i64 x.1, .int .i64 x.2]] w fun e w' => e = .returned (.bool true) ∧ Grew w w' := by
  go_enter Try.func9, Try.ntmps9
  go_wp2_with fail
  refine (head_true K _).mono ?_
  rintro e w1 ⟨rfl, g1⟩
  obtain ⟨c1, f1, z1⟩ := laid g1
  try simp at z1
  have G1 : Grew w w1 := Grew.trans (by (repeat' (first | (with_reducible exact Grew.refl _) | (with_reducible assumption) | (with_reducible refine Grew.alloc ?_ _ _) | (with_reducible refine Grew.drew ?_) | (with_reducible refine Grew.drewN ?_ _) | (with_reducible refine Grew.setCell ?_ ?_ _) | go_size))) g1
  clear g1
  have z1_0 : w.heap.size < w1.heap.size := by omega
  go_wp2_with fail
  refine (hull_says K [] (by simp) _ _ (HS.out.grown (by (repeat' (first | (with_reducible exact Grew.refl _) | (with_reducible assumption) | (with_reducible refine Grew.alloc ?_ _ _) | (with_reducible refine Grew.drew ?_) | (with_reducible refine Grew.drewN ?_ _) | (with_reducible refine Grew.setCell ?_ ?_ _) | go_size))))).mono ?_
  rintro e w2 ⟨v2, k2, p, rfl, say2, hs2, g2⟩
  obtain ⟨c2, f2, z2⟩ := laid g2
  try simp at z2
  have G2 : Grew w w2 := Grew.trans (by (repeat' (first | (with_reducible exact Grew.refl _) | (with_reducible assumption) | (with_reducible refine Grew.alloc ?_ _ _) | (with_reducible refine Grew.drew ?_) | (with_reducible refine Grew.drewN ?_ _) | (with_reducible refine Grew.setCell ?_ ?_ _) | go_size))) g2
  clear g2
  have z2_0 : w.heap.size < w2.heap.size := by omega
  have E2 := Lib.hid hs2
  clear hs2
  have S2 := Lib.hid say2
  clear say2
  go_wp2_with fail
  have x0 : w2.cell? ⟨w.heap.size, 0, none⟩ = some (.int .i64 x.1) := by simp [go_sem, *]
  have x1 : w2.cell? ⟨w.heap.size, 1, none⟩ = some (.int .i64 x.2) := by simp [go_sem, *]
  have xb : w.heap.size < w2.heap.size := by omega
  clear c1 f1 c2 f2 z1 G1
  have n2 := says_nil S2.out
  have n1 := bne_false n2
  refine wp_region_held_drew (S := (fun w' => w'.cell? ⟨w.heap.size, 0, none⟩ = some (.int .i64 x.1) ∧ w'.cell? ⟨w.heap.size, 1, none⟩ = some (.int .i64 x.2))) (by kernel_rfl) ⟨(Grew.cell (Grew.drew (Grew.refl w2)) xb).trans x0, (Grew.cell (Grew.drew (Grew.refl w2)) xb).trans x1⟩ (fun hHeld => ?_)
  have G : Grew w2 w2.drew := Grew.drew (Grew.refl _)
  obtain ⟨u, eu⟩ : ∃ u, w2.drew = u := ⟨_, rfl⟩
  rw [eu] at hHeld G ⊢
  clear eu
  refine wpAnyH_take (i := 1) (oi := ⟨some 28, _, _, _, _, _⟩) (v := ?_) rfl (by kernel_rfl) (by kernel_rfl) (by kernel_rfl) (fun _ _ _ h => h) (Or.inl ⟨by rfl, ?_⟩) (by assumption) ?_
  rotate_left
  · intro w hSw; (try dsimp only at hSw); go_simp; (try with_reducible rfl)
  try simp only [Act.put, List.setIfInBounds_toArray, List.set_cons_zero, List.set_cons_succ]
  refine wpAnyH_take (i := 3) (oi := ⟨some 30, _, _, _, _, _⟩) (v := ?_) rfl (by kernel_rfl) (by kernel_rfl) (by kernel_rfl) (fun _ _ _ h => h) (Or.inl ⟨by rfl, ?_⟩) (by assumption) ?_
  rotate_left
  · intro w hSw; (try dsimp only at hSw); go_simp; (try with_reducible rfl)
  try simp only [Act.put, List.setIfInBounds_toArray, List.set_cons_zero, List.set_cons_succ]
  refine wpAnyH_ready (rs := [0, 4]) (by kernel_rfl) (by simp) ?_
  refine AllReadyH.cons (o := ⟨some 27, _, _, _, _, _⟩) rfl (fun KK hK => ?_) ?_
  · rw [if_pos (by rfl)]
    refine wp_build0 _ rfl w2.heap.size G.size ?_
    intro g0 u0 hg0 own GX
    have GC : Grew w2 u0 := GX w2 G
    have hg0' : g0 < u0.heap.size := (World.ownsRow.lt own g0 rfl).2
    clear G GX hg0
    refine hK.out _ _ ⟨(Grew.cell GC xb).trans x0, (Grew.cell GC xb).trans x1⟩ (fun h1 => ?_)
    clear hK KK hHeld
    have hHeld := h1
    clear h1
    have G := GC
    clear GC
    try simp only [Act.put, List.setIfInBounds_toArray, List.set_cons_zero, List.set_cons_succ]
    refine wpAnyH_ready (rs := [2, 4]) (by kernel_rfl) (by simp) ?_
    refine AllReadyH.cons (o := ⟨some 29, _, _, _, _, _⟩) rfl (fun KK hK => ?_) ?_
    · rw [if_pos (by rfl)]
      refine wp_append_zero _ _ _ rfl w2.heap.size _ A c rfl own rfl G.size ?_
      intro a2 u02 own' GY GR
      have GC : Grew w2 u02 := GY w2 (Nat.le_refl _) G
      clear own
      have own := own'
      clear own' G GY GR hg0'
      refine hK.out _ _ ⟨(Grew.cell GC xb).trans x0, (Grew.cell GC xb).trans x1⟩ (fun h1 => ?_)
      clear hK KK hHeld
      have hHeld := h1
      clear h1
      have G := GC
      clear GC
      try simp only [Act.put, List.setIfInBounds_toArray, List.set_cons_zero, List.set_cons_succ]
      refine wpAnyH_ready (rs := [4]) (by kernel_rfl) (by simp) ?_
      refine AllReadyH.cons (o := ⟨some 31, _, _, _, _, _⟩) rfl (fun KK hK => ?_) AllReadyH.nil
      go_simp
      have row : Row (World.alloc u02 (.cells #[.int .i64 x.1, .int .i64 x.2] 24)) u02.heap.size 0 [x] := row_new [x] _ rfl _ _
      have GX : ∀ W : World, Grew W u02 → Grew W (World.alloc u02 (.cells #[.int .i64 x.1, .int .i64 x.2] 24)) := fun W g => Grew.alloc g _ _
      obtain ⟨u024, eu⟩ : ∃ W, World.alloc u02 (.cells #[.int .i64 x.1, .int .i64 x.2] 24) = W := ⟨_, rfl⟩
      obtain ⟨g4, eg⟩ : ∃ g, u02.heap.size = g := ⟨_, rfl⟩
      rw [eu] at row GX
      rw [eg] at row
      rw [eu, eg]
      have GC : Grew w2 u024 := GX w2 G
      have own' := own.grew (GX _ (Grew.refl _))
      clear own
      have own := own'
      clear own'
      clear G GX eu eg
      refine hK.out _ _ ⟨(Grew.cell GC xb).trans x0, (Grew.cell GC xb).trans x1⟩ (fun h1 => ?_)
      clear hK KK hHeld
      have hHeld := h1
      clear h1
      have G := GC
      clear GC
      try simp only [Act.put, List.setIfInBounds_toArray, List.set_cons_zero, List.set_cons_succ]
      refine wpAnyH_ready (rs := [5]) (by kernel_rfl) (by simp) ?_
      refine AllReadyH.cons (o := ⟨some 32, _, _, _, _, _⟩) rfl (fun KK hK => ?_) AllReadyH.nil
      rw [if_pos (by rfl)]
      refine wp_append_pts _ _ _ rfl w2.heap.size _ [] [x] g4 0 1 rfl own rfl row (by simp <;> omega) G.size ?_
      intro a5 u0245 own' GY GR
      have GC : Grew w2 u0245 := GY w2 (Nat.le_refl _) G
      clear own
      have own := own'
      clear own' G GY GR row
      refine hK.out _ _ ⟨(Grew.cell GC xb).trans x0, (Grew.cell GC xb).trans x1⟩ (fun h1 => ?_)
      clear hK KK hHeld
      have hHeld := h1
      clear h1
      have G := GC
      clear GC
      try simp only [Act.put, List.setIfInBounds_toArray, List.set_cons_zero, List.set_cons_succ]
      refine wpAnyH_ready (rs := [6]) (by kernel_rfl) (by simp) ?_
      refine AllReadyH.cons (o := ⟨some 33, _, _, _, _, _⟩) rfl (fun KK hK => ?_) AllReadyH.nil
      go_simp
      refine (hull_says K ([] ++ [x]) (by simp <;> omega) _ _ own.sl).mono ?_
      rintro e u02456 ⟨v6, k6, q, rfl, say6, hs6, g6⟩
      have GC : Grew w2 u02456 := Grew.trans G g6
      clear G g6 own
      refine hK.out _ _ ⟨(Grew.cell GC xb).trans x0, (Grew.cell GC xb).trans x1⟩ (fun h1 => ?_)
      clear hK KK hHeld
      have hHeld := h1
      clear h1
      have G := GC
      clear GC
      try simp only [Act.put, List.setIfInBounds_toArray, List.set_cons_zero, List.set_cons_succ]
      refine wpAnyH_take (i := 7) (oi := ⟨some 26, _, _, _, _, _⟩) (v := ?_) rfl (by kernel_rfl) (by kernel_rfl) (by kernel_rfl) (fun _ _ _ h => h) (Or.inl ⟨by rfl, ?_⟩) (by assumption) ?_
      rotate_left
      · intro w hSw; (try dsimp only at hSw); go_simp; (try with_reducible rfl)
      try simp only [Act.put, List.setIfInBounds_toArray, List.set_cons_zero, List.set_cons_succ]
      refine wpAnyH_take (i := 8) (oi := ⟨some 34, _, _, _, _, _⟩) (v := ?_) rfl (by kernel_rfl) (by kernel_rfl) (by kernel_rfl) (fun _ _ _ h => h) (Or.inl ⟨by rfl, ?_⟩) (by assumption) ?_
      rotate_left
      · intro w hSw; (try dsimp only at hSw); go_simp; (try with_reducible rfl)
      try simp only [Act.put, List.setIfInBounds_toArray, List.set_cons_zero, List.set_cons_succ]
      refine wpAnyH_take (i := 9) (oi := ⟨some 35, _, _, _, _, _⟩) (v := ?_) rfl (by kernel_rfl) (by kernel_rfl) (by kernel_rfl) (fun _ _ _ h => h) (Or.inl ⟨by rfl, ?_⟩) (by assumption) ?_
      rotate_left
      · intro w hSw; (try dsimp only at hSw); go_simp; (try with_reducible rfl)
      try simp only [Act.put, List.setIfInBounds_toArray, List.set_cons_zero, List.set_cons_succ]
      refine wpAnyH_take (i := 10) (oi := ⟨some 8, _, _, _, _, _⟩) (v := ?_) rfl (by kernel_rfl) (by kernel_rfl) (by kernel_rfl) (fun _ _ _ h => h) (Or.inl ⟨by rfl, ?_⟩) (by assumption) ?_
      rotate_left
      · intro w hSw; (try dsimp only at hSw); go_simp; (try with_reducible rfl)
      try simp only [Act.put, List.setIfInBounds_toArray, List.set_cons_zero, List.set_cons_succ]
      refine wpAnyH_take (i := 11) (oi := ⟨some 9, _, _, _, _, _⟩) (v := ?_) rfl (by kernel_rfl) (by kernel_rfl) (by kernel_rfl) (fun _ _ _ h => h) (Or.inl ⟨by rfl, ?_⟩) (by assumption) ?_
      rotate_left
      · intro w hSw; (try dsimp only at hSw); go_simp; (try with_reducible rfl)
      try simp only [Act.put, List.setIfInBounds_toArray, List.set_cons_zero, List.set_cons_succ]
      refine wpAnyH_done (by kernel_rfl) ?_ _
      go_wp2_with fail
      go_ret
      exact ⟨rfl, Grew.trans G2 G⟩
    · refine AllReadyH.cons (o := ⟨some 31, _, _, _, _, _⟩) rfl (fun KK hK => ?_) AllReadyH.nil
      go_simp
      have row : Row (World.alloc u0 (.cells #[.int .i64 x.1, .int .i64 x.2] 24)) u0.heap.size 0 [x] := row_new [x] _ rfl _ _
      have GX : ∀ W : World, Grew W u0 → Grew W (World.alloc u0 (.cells #[.int .i64 x.1, .int .i64 x.2] 24)) := fun W g => Grew.alloc g _ _
      obtain ⟨u04, eu⟩ : ∃ W, World.alloc u0 (.cells #[.int .i64 x.1, .int .i64 x.2] 24) = W := ⟨_, rfl⟩
      obtain ⟨g4, eg⟩ : ∃ g, u0.heap.size = g := ⟨_, rfl⟩
      rw [eu] at row GX
      rw [eg] at row
      rw [eu, eg]
      have GC : Grew w2 u04 := GX w2 G
      have own' := own.grew (GX _ (Grew.refl _))
      clear own
      have own := own'
      clear own'
      have ne0 : some g4 ≠ some g0 := fun e => by have := Option.some.inj e; omega
      have hg0'' : g0 < u04.heap.size := Nat.lt_of_lt_of_le hg0' (GX _ (Grew.refl _)).size
      clear hg0'
      have hg0' := hg0''
      clear hg0''
      clear G GX eu eg
      refine hK.out _ _ ⟨(Grew.cell GC xb).trans x0, (Grew.cell GC xb).trans x1⟩ (fun h1 => ?_)
      clear hK KK hHeld
      have hHeld := h1
      clear h1
      have G := GC
      clear GC
      try simp only [Act.put, List.setIfInBounds_toArray, List.set_cons_zero, List.set_cons_succ]
      refine wpAnyH_ready (rs := [2]) (by kernel_rfl) (by simp) ?_
      refine AllReadyH.cons (o := ⟨some 29, _, _, _, _, _⟩) rfl (fun KK hK => ?_) AllReadyH.nil
      rw [if_pos (by rfl)]
      refine wp_append_zero _ _ _ rfl w2.heap.size _ A c rfl own rfl G.size ?_
      intro a2 u042 own' GY GR
      have GC : Grew w2 u042 := GY w2 (Nat.le_refl _) G
      have row' := GR _ _ _ row ne0
      clear row
      have row := row'
      clear row'
      clear own
      have own := own'
      clear own' G GY GR hg0'
      refine hK.out _ _ ⟨(Grew.cell GC xb).trans x0, (Grew.cell GC xb).trans x1⟩ (fun h1 => ?_)
      clear hK KK hHeld
      have hHeld := h1
      clear h1
      have G := GC
      clear GC
      try simp only [Act.put, List.setIfInBounds_toArray, List.set_cons_zero, List.set_cons_succ]
      refine wpAnyH_ready (rs := [5]) (by kernel_rfl) (by simp) ?_
      refine AllReadyH.cons (o := ⟨some 32, _, _, _, _, _⟩) rfl (fun KK hK => ?_) AllReadyH.nil
      rw [if_pos (by rfl)]
      refine wp_append_pts _ _ _ rfl w2.heap.size _ [] [x] g4 0 1 rfl own rfl row (by simp <;> omega) G.size ?_
      intro a5 u0425 own' GY GR
      have GC : Grew w2 u0425 := GY w2 (Nat.le_refl _) G
      clear own
      have own := own'
      clear own' G GY GR row
      refine hK.out _ _ ⟨(Grew.cell GC xb).trans x0, (Grew.cell GC xb).trans x1⟩ (fun h1 => ?_)
      clear hK KK hHeld
      have hHeld := h1
      clear h1
      have G := GC
      clear GC
      try simp only [Act.put, List.setIfInBounds_toArray, List.set_cons_zero, List.set_cons_succ]
      refine wpAnyH_ready (rs := [6]) (by kernel_rfl) (by simp) ?_
      refine AllReadyH.cons (o := ⟨some 33, _, _, _, _, _⟩) rfl (fun KK hK => ?_) AllReadyH.nil
      go_simp
      refine (hull_says K ([] ++ [x]) (by simp <;> omega) _ _ own.sl).mono ?_
      rintro e u04256 ⟨v6, k6, q, rfl, say6, hs6, g6⟩
      have GC : Grew w2 u04256 := Grew.trans G g6
      clear G g6 own
      refine hK.out _ _ ⟨(Grew.cell GC xb).trans x0, (Grew.cell GC xb).trans x1⟩ (fun h1 => ?_)
      clear hK KK hHeld
      have hHeld := h1
      clear h1
      have G := GC
      clear GC
      try simp only [Act.put, List.setIfInBounds_toArray, List.set_cons_zero, List.set_cons_succ]
      refine wpAnyH_take (i := 7) (oi := ⟨some 26, _, _, _, _, _⟩) (v := ?_) rfl (by kernel_rfl) (by kernel_rfl) (by kernel_rfl) (fun _ _ _ h => h) (Or.inl ⟨by rfl, ?_⟩) (by assumption) ?_
      rotate_left
      · intro w hSw; (try dsimp only at hSw); go_simp; (try with_reducible rfl)
      try simp only [Act.put, List.setIfInBounds_toArray, List.set_cons_zero, List.set_cons_succ]
      refine wpAnyH_take (i := 8) (oi := ⟨some 34, _, _, _, _, _⟩) (v := ?_) rfl (by kernel_rfl) (by kernel_rfl) (by kernel_rfl) (fun _ _ _ h => h) (Or.inl ⟨by rfl, ?_⟩) (by assumption) ?_
      rotate_left
      · intro w hSw; (try dsimp only at hSw); go_simp; (try with_reducible rfl)
      try simp only [Act.put, List.setIfInBounds_toArray, List.set_cons_zero, List.set_cons_succ]
      refine wpAnyH_take (i := 9) (oi := ⟨some 35, _, _, _, _, _⟩) (v := ?_) rfl (by kernel_rfl) (by kernel_rfl) (by kernel_rfl) (fun _ _ _ h => h) (Or.inl ⟨by rfl, ?_⟩) (by assumption) ?_
      rotate_left
      · intro w hSw; (try dsimp only at hSw); go_simp; (try with_reducible rfl)
      try simp only [Act.put, List.setIfInBounds_toArray, List.set_cons_zero, List.set_cons_succ]
      refine wpAnyH_take (i := 10) (oi := ⟨some 8, _, _, _, _, _⟩) (v := ?_) rfl (by kernel_rfl) (by kernel_rfl) (by kernel_rfl) (fun _ _ _ h => h) (Or.inl ⟨by rfl, ?_⟩) (by assumption) ?_
      rotate_left
      · intro w hSw; (try dsimp only at hSw); go_simp; (try with_reducible rfl)
      try simp only [Act.put, List.setIfInBounds_toArray, List.set_cons_zero, List.set_cons_succ]
      refine wpAnyH_take (i := 11) (oi := ⟨some 9, _, _, _, _, _⟩) (v := ?_) rfl (by kernel_rfl) (by kernel_rfl) (by kernel_rfl) (fun _ _ _ h => h) (Or.inl ⟨by rfl, ?_⟩) (by assumption) ?_
      rotate_left
      · intro w hSw; (try dsimp only at hSw); go_simp; (try with_reducible rfl)
      try simp only [Act.put, List.setIfInBounds_toArray, List.set_cons_zero, List.set_cons_succ]
      refine wpAnyH_done (by kernel_rfl) ?_ _
      go_wp2_with fail
      go_ret
      exact ⟨rfl, Grew.trans G2 G⟩
  · refine AllReadyH.cons (o := ⟨some 31, _, _, _, _, _⟩) rfl (fun KK hK => ?_) AllReadyH.nil
    go_simp
    have row : Row (World.alloc u (.cells #[.int .i64 x.1, .int .i64 x.2] 24)) u.heap.size 0 [x] := row_new [x] _ rfl _ _
    have GX : ∀ W : World, Grew W u → Grew W (World.alloc u (.cells #[.int .i64 x.1, .int .i64 x.2] 24)) := fun W g => Grew.alloc g _ _
    obtain ⟨u4, eu⟩ : ∃ W, World.alloc u (.cells #[.int .i64 x.1, .int .i64 x.2] 24) = W := ⟨_, rfl⟩
    obtain ⟨g4, eg⟩ : ∃ g, u.heap.size = g := ⟨_, rfl⟩
    rw [eu] at row GX
    rw [eg] at row
    rw [eu, eg]
    have GC : Grew w2 u4 := GX w2 G
    clear G GX eu eg
    refine hK.out _ _ ⟨(Grew.cell GC xb).trans x0, (Grew.cell GC xb).trans x1⟩ (fun h1 => ?_)
    clear hK KK hHeld
    have hHeld := h1
    clear h1
    have G := GC
    clear GC
    try simp only [Act.put, List.setIfInBounds_toArray, List.set_cons_zero, List.set_cons_succ]
    refine wpAnyH_ready (rs := [0]) (by kernel_rfl) (by simp) ?_
    refine AllReadyH.cons (o := ⟨some 27, _, _, _, _, _⟩) rfl (fun KK hK => ?_) AllReadyH.nil
    rw [if_pos (by rfl)]
    refine wp_build0 _ rfl w2.heap.size G.size ?_
    intro g0 u40 hg0 own GX
    have GC : Grew w2 u40 := GX w2 G
    have row' := row.grown (GX _ (Grew.refl _))
    have ne0 : some g4 ≠ some g0 := fun e => by have := row.1; have := Option.some.inj e; omega
    clear row
    have row := row'
    clear row'
    have hg0' : g0 < u40.heap.size := (World.ownsRow.lt own g0 rfl).2
    clear G GX hg0
    refine hK.out _ _ ⟨(Grew.cell GC xb).trans x0, (Grew.cell GC xb).trans x1⟩ (fun h1 => ?_)
    clear hK KK hHeld
    have hHeld := h1
    clear h1
    have G := GC
    clear GC
    try simp only [Act.put, List.setIfInBounds_toArray, List.set_cons_zero, List.set_cons_succ]
    refine wpAnyH_ready (rs := [2]) (by kernel_rfl) (by simp) ?_
    refine AllReadyH.cons (o := ⟨some 29, _, _, _, _, _⟩) rfl (fun KK hK => ?_) AllReadyH.nil
    rw [if_pos (by rfl)]
    refine wp_append_zero _ _ _ rfl w2.heap.size _ A c rfl own rfl G.size ?_
    intro a2 u402 own' GY GR
    have GC : Grew w2 u402 := GY w2 (Nat.le_refl _) G
    have row' := GR _ _ _ row ne0
    clear row
    have row := row'
    clear row'
    clear own
    have own := own'
    clear own' G GY GR hg0'
    refine hK.out _ _ ⟨(Grew.cell GC xb).trans x0, (Grew.cell GC xb).trans x1⟩ (fun h1 => ?_)
    clear hK KK hHeld
    have hHeld := h1
    clear h1
    have G := GC
    clear GC
    try simp only [Act.put, List.setIfInBounds_toArray, List.set_cons_zero, List.set_cons_succ]
    refine wpAnyH_ready (rs := [5]) (by kernel_rfl) (by simp) ?_
    refine AllReadyH.cons (o := ⟨some 32, _, _, _, _, _⟩) rfl (fun KK hK => ?_) AllReadyH.nil
    rw [if_pos (by rfl)]
    refine wp_append_pts _ _ _ rfl w2.heap.size _ [] [x] g4 0 1 rfl own rfl row (by simp <;> omega) G.size ?_
    intro a5 u4025 own' GY GR
    have GC : Grew w2 u4025 := GY w2 (Nat.le_refl _) G
    clear own
    have own := own'
    clear own' G GY GR row
    refine hK.out _ _ ⟨(Grew.cell GC xb).trans x0, (Grew.cell GC xb).trans x1⟩ (fun h1 => ?_)
    clear hK KK hHeld
    have hHeld := h1
    clear h1
    have G := GC
    clear GC
    try simp only [Act.put, List.setIfInBounds_toArray, List.set_cons_zero, List.set_cons_succ]
    refine wpAnyH_ready (rs := [6]) (by kernel_rfl) (by simp) ?_
    refine AllReadyH.cons (o := ⟨some 33, _, _, _, _, _⟩) rfl (fun KK hK => ?_) AllReadyH.nil
    go_simp
    refine (hull_says K ([] ++ [x]) (by simp <;> omega) _ _ own.sl).mono ?_
    rintro e u40256 ⟨v6, k6, q, rfl, say6, hs6, g6⟩
    have GC : Grew w2 u40256 := Grew.trans G g6
    clear G g6 own
    refine hK.out _ _ ⟨(Grew.cell GC xb).trans x0, (Grew.cell GC xb).trans x1⟩ (fun h1 => ?_)
    clear hK KK hHeld
    have hHeld := h1
    clear h1
    have G := GC
    clear GC
    try simp only [Act.put, List.setIfInBounds_toArray, List.set_cons_zero, List.set_cons_succ]
    refine wpAnyH_take (i := 7) (oi := ⟨some 26, _, _, _, _, _⟩) (v := ?_) rfl (by kernel_rfl) (by kernel_rfl) (by kernel_rfl) (fun _ _ _ h => h) (Or.inl ⟨by rfl, ?_⟩) (by assumption) ?_
    rotate_left
    · intro w hSw; (try dsimp only at hSw); go_simp; (try with_reducible rfl)
    try simp only [Act.put, List.setIfInBounds_toArray, List.set_cons_zero, List.set_cons_succ]
    refine wpAnyH_take (i := 8) (oi := ⟨some 34, _, _, _, _, _⟩) (v := ?_) rfl (by kernel_rfl) (by kernel_rfl) (by kernel_rfl) (fun _ _ _ h => h) (Or.inl ⟨by rfl, ?_⟩) (by assumption) ?_
    rotate_left
    · intro w hSw; (try dsimp only at hSw); go_simp; (try with_reducible rfl)
    try simp only [Act.put, List.setIfInBounds_toArray, List.set_cons_zero, List.set_cons_succ]
    refine wpAnyH_take (i := 9) (oi := ⟨some 35, _, _, _, _, _⟩) (v := ?_) rfl (by kernel_rfl) (by kernel_rfl) (by kernel_rfl) (fun _ _ _ h => h) (Or.inl ⟨by rfl, ?_⟩) (by assumption) ?_
    rotate_left
    · intro w hSw; (try dsimp only at hSw); go_simp; (try with_reducible rfl)
    try simp only [Act.put, List.setIfInBounds_toArray, List.set_cons_zero, List.set_cons_succ]
    refine wpAnyH_take (i := 10) (oi := ⟨some 8, _, _, _, _, _⟩) (v := ?_) rfl (by kernel_rfl) (by kernel_rfl) (by kernel_rfl) (fun _ _ _ h => h) (Or.inl ⟨by rfl, ?_⟩) (by assumption) ?_
    rotate_left
    · intro w hSw; (try dsimp only at hSw); go_simp; (try with_reducible rfl)
    try simp only [Act.put, List.setIfInBounds_toArray, List.set_cons_zero, List.set_cons_succ]
    refine wpAnyH_take (i := 11) (oi := ⟨some 9, _, _, _, _, _⟩) (v := ?_) rfl (by kernel_rfl) (by kernel_rfl) (by kernel_rfl) (fun _ _ _ h => h) (Or.inl ⟨by rfl, ?_⟩) (by assumption) ?_
    rotate_left
    · intro w hSw; (try dsimp only at hSw); go_simp; (try with_reducible rfl)
    try simp only [Act.put, List.setIfInBounds_toArray, List.set_cons_zero, List.set_cons_succ]
    refine wpAnyH_done (by kernel_rfl) ?_ _
    go_wp2_with fail
    go_ret
    exact ⟨rfl, Grew.trans G2 G⟩

set_option maxRecDepth 100000 in
set_option maxHeartbeats 4000000 in
theorem further_many (K : Code) (n : Nat) (x : Pt) (A0 : Option Addr) (c : Nat) (w : World) (h : (79 : Int) < (n : Int)) : Calls Try.prog 9 #[.slice A0 n c, .agg #[.int .i64 x.1, .int .i64 x.2]] w fun e w' => e = .returned (.bool true) ∧ Grew w w' := by
  go_enter Try.func9, Try.ntmps9
  go_wp2_with fail
  refine (head_true K _).mono ?_
  rintro e w1 ⟨rfl, g1⟩
  obtain ⟨c1, f1, z1⟩ := laid g1
  try simp at z1
  have G1 : Grew w w1 := Grew.trans (by (repeat' (first | (with_reducible exact Grew.refl _) | (with_reducible assumption) | (with_reducible refine Grew.alloc ?_ _ _) | (with_reducible refine Grew.drew ?_) | (with_reducible refine Grew.drewN ?_ _) | (with_reducible refine Grew.setCell ?_ ?_ _) | go_size))) g1
  clear g1
  have z1_0 : w.heap.size < w1.heap.size := by omega
  go_wp2_with fail
  go_ret
  exact ⟨rfl, by (repeat' (first | (with_reducible exact Grew.refl _) | (with_reducible assumption) | (with_reducible refine Grew.alloc ?_ _ _) | (with_reducible refine Grew.drew ?_) | (with_reducible refine Grew.drewN ?_ _) | (with_reducible refine Grew.setCell ?_ ?_ _) | go_size))⟩

theorem further_true (K : Code) (l : List Pt) (x : Pt) (v : Value) (w : World) (hs : Sl w v l) : Calls Try.prog 9 #[v, .agg #[.int .i64 x.1, .int .i64 x.2]] w fun e w' => e = .returned (.bool true) ∧ Grew w w' := by
  by_cases h1 : l.length ≤ 79
  · by_cases h0 : l = []
    · subst h0
      obtain ⟨A0, c0, e⟩ := hs.shape
      subst e
      cases A0 with
      | none => exact further_nil K x c0 w (Lib.hid hs)
      | some A => exact further_zero K x A c0 w (Lib.hid hs)
    · obtain ⟨b, o, c, rfl, hr⟩ := hs.row h0
      exact further_row K l x b o c w (by omega) (Lib.hid hr)
  · obtain ⟨A0, c0, e⟩ := hs.shape
    subst e
    exact further_many K l.length x A0 c0 w (by omega)
end Hl
end Go.Proofs.Ythcfbfgfpophmaa
