/-
  The reference function Common of layer 4.
-/
import Derived.Test.YtmijlfbmmegfbaaGreatCutRf
import Derived.Test.YtmijlfbmmegfbaaGreatCutRl
namespace Go.Proofs.YtmijlfbmmegfbaaGreat
open Go.RowKit Hl Ex
namespace Ct
set_option maxRecDepth 100000
def cutL (p q : List Pt) : List Pt := corL (corL (croL p q) p) q
theorem mem_cutL {p q : List Pt} {y : Pt} : y ∈ cutL p q ↔ C3 p q y := by
  unfold cutL C3
  rw [mem_corL, mem_corL, mem_croL]
  exact ⟨fun ⟨⟨a, b⟩, c⟩ => ⟨a, b, c⟩, fun ⟨a, b, c⟩ => ⟨⟨a, b⟩, c⟩⟩
theorem nil_iff {l : List Pt} {S : Pt → Prop} (h : ∀ y, y ∈ l ↔ S y) : l.length = 0 ↔ ¬ ∃ y, S y := by
  constructor
  · rintro e ⟨y, hy⟩
    have g := (h y).2 hy
    rw [List.length_eq_zero_iff.1 e] at g
    cases g
  · intro e
    cases l with
    | nil => rfl
    | cons x l => exact absurd ⟨x, (h x).1 (by simp)⟩ e
/-- The list in which the reference looks for the least place. -/
def selL (p q : List Pt) : List Pt := if (corL p q).length = 0 then (if (corL q p).length = 0 then cutL p q else corL q p) else corL p q
theorem mem_selL {p q : List Pt} {y : Pt} : y ∈ selL p q ↔ Sel p q y := by
  have e1 : (corL p q).length = 0 ↔ ¬ ∃ z, C1 p q z := nil_iff (fun y => mem_corL)
  have e2 : (corL q p).length = 0 ↔ ¬ ∃ z, C1 q p z := nil_iff (fun y => mem_corL)
  unfold selL Sel
  by_cases h1 : (corL p q).length = 0
  · have n1 := e1.1 h1
    rw [if_pos h1]
    by_cases h2 : (corL q p).length = 0
    · have n2 := e2.1 h2
      rw [if_pos h2, mem_cutL]
      exact ⟨fun h => Or.inr (Or.inr ⟨n1, n2, h⟩), fun h => by
        rcases h with h | ⟨_, h⟩ | ⟨_, _, h⟩
        · exact absurd ⟨y, h⟩ n1
        · exact absurd ⟨y, h⟩ n2
        · exact h⟩
    · rw [if_neg h2, mem_corL]
      exact ⟨fun h => Or.inr (Or.inl ⟨n1, h⟩), fun h => by
        rcases h with h | ⟨_, h⟩ | ⟨_, n2, h⟩
        · exact absurd ⟨y, h⟩ n1
        · exact h
        · exact absurd (e2.2 n2) h2⟩
  · rw [if_neg h1, mem_corL]
    exact ⟨fun h => Or.inl h, fun h => by
      rcases h with h | ⟨n1, _⟩ | ⟨n1, _, _⟩
      · exact h
      · exact absurd (e1.2 n1) h1
      · exact absurd (e1.2 n1) h1⟩
theorem sel_says {p q : List Pt} {w w' : World} {m : Pt} (h : m ∈ selL p q ∧ ∀ z, z ∈ selL p q → z ≠ m → ls m z) (g : Grew w w') : CommonSays p q w (.returned (.tuple #[.agg #[.int .i64 m.1, .int .i64 m.2], .bool true, .int .i64 0])) w' :=
  Or.inl ⟨m, ⟨mem_selL.1 h.1, fun z hz => h.2 z (mem_selL.2 hz)⟩, rfl, g⟩
theorem sel_none {p q : List Pt} {w w' : World} (h : (selL p q).length = 0) (g : Grew w w') : CommonSays p q w (.returned (.tuple #[.agg #[.int .i64 0, .int .i64 0], .bool false, .int .i64 0])) w' :=
  Or.inr ⟨(nil_iff (fun _ => mem_selL)).1 h, rfl, g⟩
set_option maxHeartbeats 8000000 in
theorem common_ok_r (p q : List Pt) (v v' : Value) (w : World) (hs : Sl w v p) (hs' : Sl w v' q) (hp : Vl p) (hq : Vl q) : Calls Tryz.prog 18 #[v, v'] w (CommonSays p q w) := by
  obtain ⟨b, o, c, rfl, hr⟩ := hs.row (fun e => by have := hp.1.1; rw [e] at this; cases this)
  obtain ⟨b', o', c', rfl, hr'⟩ := hs'.row (fun e => by have := hq.1.1; rw [e] at this; cases this)
  have A : Hid (∀ W, Grew w W → Calls Tryz.prog 31 #[.slice (some ⟨b, o, none⟩) p.length c] W fun e w' => e = .returned (.bool true) ∧ Grew W w') := Lib.hid (fun W g => rvalid_yes p _ W (hs.grown g) (by have := hp.1.2; omega) hp)
  have B : Hid (∀ W, Grew w W → Calls Tryz.prog 31 #[.slice (some ⟨b', o', none⟩) q.length c'] W fun e w' => e = .returned (.bool true) ∧ Grew W w') := Lib.hid (fun W g => rvalid_yes q _ W (hs'.grown g) (by have := hq.1.2; omega) hq)
  have D := Lib.hid (fun W (g : Grew w W) => crossings_r p q b o c b' o' c' W (hr.grown g) (hr'.grown g) hp hq)
  have C1 := Lib.hid (fun W (g : Grew w W) => corners_r p q (.slice (some ⟨b, o, none⟩) p.length c) b' o' c' W (Or.inr ⟨b, o, c, rfl, hr.grown g⟩) (hr'.grown g) hp.2.1 hq (by have := hp.1.2; omega))
  have C2 := Lib.hid (fun W (g : Grew w W) => corners_r q p (.slice (some ⟨b', o', none⟩) q.length c') b o c W (Or.inr ⟨b', o', c', rfl, hr'.grown g⟩) (hr.grown g) hq.2.1 hp (by have := hq.1.2; omega))
  have K1 : Hid (∀ l v W, Grew w W → Sl W v l → Plcs l → l.length ≤ 20000 → Calls Tryz.prog 41 #[v, .slice (some ⟨b, o, none⟩) p.length c] W (CorSays l p W)) := Lib.hid (fun l v W g s hl h2 => corners_r l p v b o c W s (hr.grown g) hl hp h2)
  have K2 : Hid (∀ l v W, Grew w W → Sl W v l → Plcs l → l.length ≤ 20000 → Calls Tryz.prog 41 #[v, .slice (some ⟨b', o', none⟩) q.length c'] W (CorSays l q W)) := Lib.hid (fun l v W g s hl h2 => corners_r l q v b' o' c' W s (hr'.grown g) hl hq h2)
  have PC : Hid (Plcs (croL p q) ∧ (croL p q).length ≤ 20000) := Lib.hid ⟨fun i hi => by
    obtain ⟨_, k, ⟨_, hk⟩, g⟩ := mem_croL.1 (at_mem hi)
    exact xf_plc hq.2.1 hk g, by have := croL_len p q hq.1.2; have := hp.1.2; omega⟩
  have PD : Hid (Plcs (corL (croL p q) p) ∧ (corL (croL p q) p).length ≤ 20000) := Lib.hid ⟨fun i hi => by
    obtain ⟨j, hj, e⟩ := mem_at (mem_corL.1 (at_mem hi)).1
    rw [← e]; exact PC.out.1 j hj, by have := corL_len (croL p q) p; have := PC.out.2; omega⟩
  have LE : Hid (∀ l v W, Sl W v l → l.length ≠ 0 → l.length ≤ 20000 → Calls Tryz.prog 43 #[v] W (LeastSays l W)) := Lib.hid (fun l v W s h0 h2 => by
    obtain ⟨bb, oo, cc, rfl, rr⟩ := s.row (fun e => h0 (by rw [e]; rfl))
    exact least_r l bb oo cc W rr (by omega) (by omega))
  have LS : Hid ((corL p q).length ≤ 20000 ∧ (corL q p).length ≤ 20000 ∧ (cutL p q).length ≤ 20000) := Lib.hid ⟨by have := corL_len p q; have := hp.1.2; omega, by have := corL_len q p; have := hq.1.2; omega, by have := corL_len (corL (croL p q) p) q; have := PD.out.2; unfold cutL; omega⟩
  have HX := Lib.hid (Blk.new w #[.int .i64 0, .int .i64 0] 26)
  have SEL := Lib.hid (show selL p q = if (corL p q).length = 0 then (if (corL q p).length = 0 then cutL p q else corL q p) else corL p q from rfl)
  clear hs hs' hr hr' hp hq
  generalize p.length = n at *
  generalize q.length = k at *
  go_enter Tryz.func18, Tryz.ntmps18
  go_wp2_with fail
  refine (A.out _ (by (repeat' (first | (with_reducible exact Grew.refl _) | (with_reducible assumption) | (with_reducible refine Grew.alloc ?_ _ _) | (with_reducible refine Grew.drew ?_) | (with_reducible refine Grew.drewN ?_ _) | (with_reducible refine Grew.setCell ?_ ?_ _) | go_size)))).mono ?_
  rintro e v1 ⟨rfl, g1⟩
  have G1 : Grew w v1 := Grew.trans (by (repeat' (first | (with_reducible exact Grew.refl _) | (with_reducible assumption) | (with_reducible refine Grew.alloc ?_ _ _) | (with_reducible refine Grew.drew ?_) | (with_reducible refine Grew.drewN ?_ _) | (with_reducible refine Grew.setCell ?_ ?_ _) | go_size))) g1
  have HX := Lib.hid (HX.out.grown g1)
  clear g1
  go_wp2_with fail
  refine (B.out _ G1).mono ?_
  rintro e v2 ⟨rfl, g2⟩
  have G2 : Grew w v2 := Grew.trans G1 g2
  have HX := Lib.hid (HX.out.grown g2)
  clear g2 G1
  go_wp2_with fail
  refine (C1.out _ G2).mono ?_
  rintro e v3 ⟨u1, rfl, ho, g3⟩
  have O1 := Lib.hid ho
  obtain ⟨ua, uc, rfl⟩ := ho.sl.shape
  have G3 : Grew w v3 := Grew.trans G2 g3
  have HX := Lib.hid (HX.out.grown g3)
  clear ho g3 G2
  by_cases z1 : (corL p q).length = 0
  · rw [if_pos z1] at SEL
    have Z1 := Lib.hid z1
    have y1 : (((corL p q).length : Int) == 0) = true := by rw [beq_iff_eq]; omega
    clear z1
    generalize (corL p q).length = N1 at *
    go_wp2_with fail
    refine (C2.out _ G3).mono ?_
    rintro e v4 ⟨u2, rfl, ho, g4⟩
    have O2 := Lib.hid ho
    obtain ⟨ub, ud, rfl⟩ := ho.sl.shape
    have G4 : Grew w v4 := Grew.trans G3 g4
    have HX := Lib.hid (HX.out.grown g4)
    clear ho g4 G3 y1
    by_cases z2 : (corL q p).length = 0
    · rw [if_pos z2] at SEL
      have y2 : (((corL q p).length : Int) == 0) = true := by rw [beq_iff_eq]; omega
      clear z2
      generalize (corL q p).length = N2 at *
      go_wp2_with fail
      refine (D.out _ G4).mono ?_
      rintro e v5 ⟨u3, rfl, ho, g5⟩
      have O3 := Lib.hid ho
      have G5 : Grew w v5 := Grew.trans G4 g5
      have HX := Lib.hid (HX.out.grown g5)
      clear ho g5 G4 y2
      go_wp2_with fail
      refine (K1.out _ _ _ G5 O3.out.sl PC.out.1 PC.out.2).mono ?_
      rintro e v6 ⟨u4, rfl, ho, g6⟩
      have O4 := Lib.hid ho
      have G6 : Grew w v6 := Grew.trans G5 g6
      have HX := Lib.hid (HX.out.grown g6)
      clear ho g6 G5
      go_wp2_with fail
      refine (K2.out _ _ _ G6 O4.out.sl PD.out.1 PD.out.2).mono ?_
      rintro e v7 ⟨u5, rfl, ho, g7⟩
      have O5 := Lib.hid (show Sl v7 u5 (cutL p q) from ho.sl)
      obtain ⟨ue, uf, rfl⟩ := O5.out.shape
      have G7 : Grew w v7 := Grew.trans G6 g7
      have HX := Lib.hid (HX.out.grown g7)
      clear ho g7 G6
      obtain ⟨⟨x0, x1⟩, f0, f1⟩ := HX.out.two
      have lx := HX.out.lt
      by_cases z3 : (cutL p q).length = 0
      · have SE : Hid ((selL p q).length = 0) := Lib.hid (by rw [SEL.out]; exact z3)
        have y3 : (((cutL p q).length : Int) == 0) = true := by rw [beq_iff_eq]; omega
        clear z3
        generalize (cutL p q).length = N3 at *
        go_wp2_with fail
        refine bodyPost_ret (v := .tuple #[.agg #[.int .i64 0, .int .i64 0], .bool false, .int .i64 0]) (by simp [results, Tryz.results18, go_sem, *]) rfl (sel_none SE.out (by (repeat' (first | (with_reducible exact Grew.refl _) | (with_reducible assumption) | (with_reducible refine Grew.alloc ?_ _ _) | (with_reducible refine Grew.drew ?_) | (with_reducible refine Grew.drewN ?_ _) | (with_reducible refine Grew.setCell ?_ ?_ _) | go_size))))
      · have LX := Lib.hid (LE.out _ _ v7 O5.out z3 LS.out.2.2)
        have y3 : (((cutL p q).length : Int) == 0) = false := by rw [beq_eq_false_iff_ne]; omega
        clear z3
        generalize (cutL p q).length = N3 at *
        go_wp2_with fail
        refine LX.out.mono ?_
        rintro e v8 ⟨m, rfl, hm, g8⟩
        have HM := Lib.hid (show m ∈ selL p q ∧ ∀ z, z ∈ selL p q → z ≠ m → ls m z by rw [SEL.out]; exact hm)
        have G8 : Grew w v8 := Grew.trans G7 g8
        have HX := Lib.hid (HX.out.grown g8)
        clear hm g8 x0 x1 f0 f1 lx G7
        obtain ⟨⟨x0, x1⟩, f0, f1⟩ := HX.out.two
        have lx := HX.out.lt
        go_wp2_with fail
        refine bodyPost_ret (v := .tuple #[.agg #[.int .i64 m.1, .int .i64 m.2], .bool true, .int .i64 0]) (by simp [results, Tryz.results18, go_sem, *]) rfl (sel_says HM.out (by (repeat' (first | (with_reducible exact Grew.refl _) | (with_reducible assumption) | (with_reducible refine Grew.alloc ?_ _ _) | (with_reducible refine Grew.drew ?_) | (with_reducible refine Grew.drewN ?_ _) | (with_reducible refine Grew.setCell ?_ ?_ _) | go_size))))
    · rw [if_neg z2] at SEL
      have LX := Lib.hid (LE.out _ _ v4 O2.out.sl z2 LS.out.2.1)
      have y2 : (((corL q p).length : Int) == 0) = false := by rw [beq_eq_false_iff_ne]; omega
      clear z2
      generalize (corL q p).length = N2 at *
      go_wp2_with fail
      refine LX.out.mono ?_
      rintro e v8 ⟨m, rfl, hm, g8⟩
      have HM := Lib.hid (show m ∈ selL p q ∧ ∀ z, z ∈ selL p q → z ≠ m → ls m z by rw [SEL.out]; exact hm)
      have G8 : Grew w v8 := Grew.trans G4 g8
      have HX := Lib.hid (HX.out.grown g8)
      clear hm g8 G4
      obtain ⟨⟨x0, x1⟩, f0, f1⟩ := HX.out.two
      have lx := HX.out.lt
      go_wp2_with fail
      refine bodyPost_ret (v := .tuple #[.agg #[.int .i64 m.1, .int .i64 m.2], .bool true, .int .i64 0]) (by simp [results, Tryz.results18, go_sem, *]) rfl (sel_says HM.out (by (repeat' (first | (with_reducible exact Grew.refl _) | (with_reducible assumption) | (with_reducible refine Grew.alloc ?_ _ _) | (with_reducible refine Grew.drew ?_) | (with_reducible refine Grew.drewN ?_ _) | (with_reducible refine Grew.setCell ?_ ?_ _) | go_size))))
  · rw [if_neg z1] at SEL
    have LX := Lib.hid (LE.out _ _ v3 O1.out.sl z1 LS.out.1)
    have y1 : (((corL p q).length : Int) == 0) = false := by rw [beq_eq_false_iff_ne]; omega
    clear z1
    generalize (corL p q).length = N1 at *
    go_wp2_with fail
    refine LX.out.mono ?_
    rintro e v8 ⟨m, rfl, hm, g8⟩
    have HM := Lib.hid (show m ∈ selL p q ∧ ∀ z, z ∈ selL p q → z ≠ m → ls m z by rw [SEL.out]; exact hm)
    have G8 : Grew w v8 := Grew.trans G3 g8
    have HX := Lib.hid (HX.out.grown g8)
    clear hm g8 G3
    obtain ⟨⟨x0, x1⟩, f0, f1⟩ := HX.out.two
    have lx := HX.out.lt
    go_wp2_with fail
    refine bodyPost_ret (v := .tuple #[.agg #[.int .i64 m.1, .int .i64 m.2], .bool true, .int .i64 0]) (by simp [results, Tryz.results18, go_sem, *]) rfl (sel_says HM.out (by (repeat' (first | (with_reducible exact Grew.refl _) | (with_reducible assumption) | (with_reducible refine Grew.alloc ?_ _ _) | (with_reducible refine Grew.drew ?_) | (with_reducible refine Grew.drewN ?_ _) | (with_reducible refine Grew.setCell ?_ ?_ _) | go_size))))
theorem common_bad_r (p q : List Pt) (v v' : Value) (w : World) (hs : Sl w v p) (hs' : Sl w v' q) (hm : p.length ≤ 9223372036854775807) (hm' : q.length ≤ 9223372036854775807) (hb : ¬ (Vl p ∧ Vl q)) : Calls Tryz.prog 18 #[v, v'] w fun e w' => e = .returned (.tuple #[.agg #[.int .i64 0, .int .i64 0], .bool false, .int .i64 1]) ∧ Grew w w' := by
  have A : Hid (∀ W, Grew w W → Calls Tryz.prog 31 #[v] W (Tells (Vl p) W)) := Lib.hid (fun W g => rvalid_any p _ W (hs.grown g) hm)
  have B : Hid (∀ W, Grew w W → Calls Tryz.prog 31 #[v'] W (Tells (Vl q) W)) := Lib.hid (fun W g => rvalid_any q _ W (hs'.grown g) hm')
  have BAD : Hid (∀ r s : Bool, (r = true ↔ Vl p) → (s = true ↔ Vl q) → r = false ∨ s = false) := Lib.hid (fun r s e f => by
    cases r
    · exact Or.inl rfl
    · cases s
      · exact Or.inr rfl
      · exact absurd ⟨e.1 rfl, f.1 rfl⟩ hb)
  have HX := Lib.hid (Blk.new w #[.int .i64 0, .int .i64 0] 26)
  clear hs hs' hm hm' hb
  go_enter Tryz.func18, Tryz.ntmps18
  go_wp2_with fail
  refine (A.out _ (by (repeat' (first | (with_reducible exact Grew.refl _) | (with_reducible assumption) | (with_reducible refine Grew.alloc ?_ _ _) | (with_reducible refine Grew.drew ?_) | (with_reducible refine Grew.drewN ?_ _) | (with_reducible refine Grew.setCell ?_ ?_ _) | go_size)))).mono ?_
  rintro e v1 ⟨r, rfl, hr, g1⟩
  have G1 : Grew w v1 := Grew.trans (by (repeat' (first | (with_reducible exact Grew.refl _) | (with_reducible assumption) | (with_reducible refine Grew.alloc ?_ _ _) | (with_reducible refine Grew.drew ?_) | (with_reducible refine Grew.drewN ?_ _) | (with_reducible refine Grew.setCell ?_ ?_ _) | go_size))) g1
  have H1 := Lib.hid hr
  have HX := Lib.hid (HX.out.grown g1)
  clear g1 hr A
  go_wp2_with fail
  refine (B.out _ G1).mono ?_
  rintro e v2 ⟨s, rfl, hs, g2⟩
  have BD := BAD.out r s H1.out hs
  have G2 : Grew w v2 := Grew.trans G1 g2
  obtain ⟨⟨x0, x1⟩, f0, f1⟩ := (HX.out.grown g2).two
  have lx := (HX.out.grown g2).lt
  clear g2 hs G1 B BAD H1 HX
  rcases BD with rfl | rfl
  · go_wp2_with fail
    refine bodyPost_ret (v := .tuple #[.agg #[.int .i64 0, .int .i64 0], .bool false, .int .i64 1]) (by simp [results, Tryz.results18, go_sem, *]) rfl ⟨rfl, (by (repeat' (first | (with_reducible exact Grew.refl _) | (with_reducible assumption) | (with_reducible refine Grew.alloc ?_ _ _) | (with_reducible refine Grew.drew ?_) | (with_reducible refine Grew.drewN ?_ _) | (with_reducible refine Grew.setCell ?_ ?_ _) | go_size)))⟩
  · cases r
    · go_wp2_with fail
      refine bodyPost_ret (v := .tuple #[.agg #[.int .i64 0, .int .i64 0], .bool false, .int .i64 1]) (by simp [results, Tryz.results18, go_sem, *]) rfl ⟨rfl, (by (repeat' (first | (with_reducible exact Grew.refl _) | (with_reducible assumption) | (with_reducible refine Grew.alloc ?_ _ _) | (with_reducible refine Grew.drew ?_) | (with_reducible refine Grew.drewN ?_ _) | (with_reducible refine Grew.setCell ?_ ?_ _) | go_size)))⟩
    · go_wp2_with fail
      refine bodyPost_ret (v := .tuple #[.agg #[.int .i64 0, .int .i64 0], .bool false, .int .i64 1]) (by simp [results, Tryz.results18, go_sem, *]) rfl ⟨rfl, (by (repeat' (first | (with_reducible exact Grew.refl _) | (with_reducible assumption) | (with_reducible refine Grew.alloc ?_ _ _) | (with_reducible refine Grew.drew ?_) | (with_reducible refine Grew.drewN ?_ _) | (with_reducible refine Grew.setCell ?_ ?_ _) | go_size)))⟩
end Ct
end Go.Proofs.YtmijlfbmmegfbaaGreat
