/-
  The reference functions both, Met, Meet, Apart, Lies, Within, least of layer 4.
-/
import Derived.Test.YtmijlfbmmegfbaaGreatCutRd
import Derived.Deep.QuietTactic
import Derived.BigQuiet
namespace Go.Proofs.YtmijlfbmmegfbaaGreat
open Go.RowKit Hl Ex
namespace Ct
set_option maxRecDepth 100000
theorem mem_corL {p q : List Pt} {y : Pt} : y ∈ corL p q ↔ y ∈ p ∧ Hs q y := by
  unfold corL corF
  rw [List.mem_flatMap]
  constructor
  · rintro ⟨i, hi, hy⟩
    by_cases g : hsB q (at' p i) = true
    · rw [if_pos g] at hy
      obtain rfl : y = at' p i := by simpa using hy
      exact ⟨at_mem (List.mem_range.1 hi), hsB_iff.1 g⟩
    · rw [if_neg g] at hy; cases hy
  · rintro ⟨hy, g⟩
    obtain ⟨i, hi, rfl⟩ := mem_at hy
    exact ⟨i, List.mem_range.2 hi, by rw [if_pos (hsB_iff.2 g)]; simp⟩
theorem mem_croL {p q : List Pt} {y : Pt} : y ∈ croL p q ↔ ∃ i k, (i < p.length ∧ k < q.length) ∧ XF (at' p i) (at' p ((i + 1) % p.length)) (at' q k) (at' q ((k + 1) % q.length)) y := by
  unfold croL croK croJ croF XF
  rw [List.mem_flatMap]
  constructor
  · rintro ⟨i, hi, hy⟩
    obtain ⟨k, hk, hy⟩ := List.mem_flatMap.1 hy
    split at hy
    · rename_i g
      exact ⟨i, k, ⟨List.mem_range.1 hi, List.mem_range.1 hk⟩, g, (mem_crL _ _ _ _ _).1 hy⟩
    · cases hy
  · rintro ⟨i, k, ⟨hi, hk⟩, g, hy⟩
    exact ⟨i, List.mem_range.2 hi, List.mem_flatMap.2 ⟨k, List.mem_range.2 hk, by rw [if_pos g]; exact (mem_crL _ _ _ _ _).2 hy⟩⟩
theorem corL_len (p q : List Pt) : (corL p q).length ≤ p.length := corK_len p q p.length
theorem croL_len (p q : List Pt) (hq : q.length ≤ 64) : (croL p q).length ≤ 256 * p.length := croK_len p q p.length hq
def bothR (p q : List Pt) : List Pt := (([] : List Pt) ++ corL p q) ++ corL q p ++ croL p q
theorem mem_bothR {p q : List Pt} {y : Pt} : y ∈ bothR p q ↔ BothS p q y := by
  unfold bothR BothS
  rw [List.nil_append, List.mem_append, List.mem_append, mem_corL, mem_corL, mem_croL, mem_list, mem_list]
  constructor
  · rintro ((⟨⟨i, hi, e⟩, g⟩ | ⟨⟨i, hi, e⟩, g⟩) | g)
    · exact Or.inl ⟨i, hi, e, g⟩
    · exact Or.inr (Or.inl ⟨i, hi, e, g⟩)
    · exact Or.inr (Or.inr g)
  · rintro (⟨i, hi, e, g⟩ | ⟨i, hi, e, g⟩ | g)
    · exact Or.inl (Or.inl ⟨⟨i, hi, e⟩, g⟩)
    · exact Or.inl (Or.inr ⟨⟨i, hi, e⟩, g⟩)
    · exact Or.inr g
theorem corL_full {p q : List Pt} : (corL p q).length = p.length ↔ ∀ y, y ∈ p → Hs q y := by
  have g : ∀ k, (corK p q k).length = k ↔ ∀ i, i < k → hsB q (at' p i) = true := by
    intro k
    induction k with
    | zero => exact ⟨fun _ i hi => absurd hi (Nat.not_lt_zero _), fun _ => rfl⟩
    | succ k ih =>
      have le := corK_len p q k
      cases h : hsB q (at' p k)
      · rw [corK_no h]
        exact ⟨fun e => by omega, fun e => by rw [e k (by omega)] at h; cases h⟩
      · rw [corK_yes h, List.length_append]
        have : ([at' p k] : List Pt).length = 1 := rfl
        constructor
        · intro e i hi
          by_cases z : i = k
          · rw [z]; exact h
          · exact ih.1 (by omega) i (by omega)
        · intro e
          have := ih.2 (fun i hi => e i (by omega))
          omega
  rw [← corK_all, g]
  constructor
  · intro h y hy
    obtain ⟨i, hi, rfl⟩ := mem_at hy
    exact hsB_iff.1 (h i hi)
  · exact fun h i hi => hsB_iff.2 (h _ (at_mem hi))
theorem xf_plc {q : List Pt} (hq : Plcs q) {a b : Pt} {k : Nat} (hk : k < q.length) {y : Pt} (g : XF a b (at' q k) (at' q ((k + 1) % q.length)) y) : Plc y := by
  obtain ⟨_, m, n, hw, h1, h2⟩ := g
  have hc := hq k hk
  have hd := hq _ (Nat.mod_lt (k + 1) (show 0 < q.length by omega))
  exact ⟨wr_bounds hw.1 hw.2.1 hc.1 hd.1 h1, wr_bounds hw.1 hw.2.1 hc.2 hd.2 h2⟩
theorem bothS_plc {p q : List Pt} (hp : Plcs p) (hq : Plcs q) {y : Pt} (h : BothS p q y) : Plc y := by
  rcases h with ⟨i, hi, rfl, _⟩ | ⟨k, hk, rfl, _⟩ | ⟨i, k, ⟨_, hk⟩, g⟩
  · exact hp i hi
  · exact hq k hk
  · exact xf_plc hq hk g
def BothSays (p q : List Pt) (w : World) (e : Ending) (w' : World) : Prop := ∃ v, e = .returned v ∧ Hl.Own w.heap.size w' v (bothR p q) ∧ Grew w w'
set_option maxHeartbeats 4000000 in
theorem both_r (p q : List Pt) (b o c b' o' c' : Nat) (w : World) (hr : Row w b o p) (hr' : Row w b' o' q) (hp : Vl p) (hq : Vl q) : Calls Tryz.prog 38 #[.slice (some ⟨b, o, none⟩) p.length c, .slice (some ⟨b', o', none⟩) q.length c'] w (BothSays p q w) := by
  have C1 := Lib.hid (fun W (g : Grew w W) => corners_r p q (.slice (some ⟨b, o, none⟩) p.length c) b' o' c' W (Or.inr ⟨b, o, c, rfl, hr.grown g⟩) (hr'.grown g) hp.2.1 hq (by have := hp.1.2; omega))
  have C2 := Lib.hid (fun W (g : Grew w W) => corners_r q p (.slice (some ⟨b', o', none⟩) q.length c') b o c W (Or.inr ⟨b', o', c', rfl, hr'.grown g⟩) (hr.grown g) hq.2.1 hp (by have := hq.1.2; omega))
  have C3 := Lib.hid (fun W (g : Grew w W) => crossings_r p q b o c b' o' c' W (hr.grown g) (hr'.grown g) hp hq)
  have LN : Hid ((corL p q).length ≤ 64 ∧ (corL q p).length ≤ 64 ∧ (croL p q).length ≤ 16384) := Lib.hid (by
    have := corL_len p q
    have := corL_len q p
    have := croL_len p q hq.1.2
    have := hp.1.2
    have := hq.1.2
    omega)
  clear hr hr' hp hq
  generalize p.length = n at *
  generalize q.length = m at *
  go_enter Tryz.func38, Tryz.ntmps38
  go_wp2_with fail
  refine (C1.out _ (Grew.refl _)).mono ?_
  rintro e v1 ⟨u1, rfl, ho, g1⟩
  have O1 := Lib.hid ho
  have G1 := Lib.hid g1
  clear ho g1
  go_wp2_with (at_builtin; go_must (refine wpl_app _ rfl _ _ rfl w.heap.size w.heap.size _ _ [] (corL p q) rfl (Own.nil _ _) rfl O1.out (by have := LN.out; simp; omega) G1.out.size ?_; intro x1 y1 own1 gr1; have H1 := Lib.hid (Grew.grown G1.out gr1 (fun k hk => by cases hk)); have P1 := Lib.hid own1; clear own1 gr1))
  refine (C2.out _ H1.out).mono ?_
  rintro e v2 ⟨u2, rfl, ho, g2⟩
  have O2 := Lib.hid ho
  have G2 := Lib.hid (Grew.trans H1.out g2)
  have P1 := Lib.hid (P1.out.grew g2)
  clear ho g2
  go_wp2_with (at_builtin; go_must (refine wpl_app _ rfl _ _ rfl w.heap.size _ _ _ ([] ++ corL p q) (corL q p) rfl P1.out rfl O2.out (by have := LN.out; rw [List.nil_append]; omega) G2.out.size ?_; intro x2 y2 own2 gr2; have H2 := Lib.hid (Grew.grown G2.out gr2 (fun k hk => P1.out.block k hk)); have P2 := Lib.hid own2; clear own2 gr2))
  refine (C3.out _ H2.out).mono ?_
  rintro e v3 ⟨u3, rfl, ho, g3⟩
  have O3 := Lib.hid ho
  have G3 := Lib.hid (Grew.trans H2.out g3)
  have P2 := Lib.hid (P2.out.grew g3)
  clear ho g3
  go_wp2_with (at_builtin; go_must (refine wpl_app _ rfl _ _ rfl w.heap.size _ _ _ (([] ++ corL p q) ++ corL q p) (croL p q) rfl P2.out rfl O3.out (by have := LN.out; rw [List.nil_append, List.length_append]; omega) G3.out.size ?_; intro x3 y3 own3 gr3; have H3 := Lib.hid (Grew.grown G3.out gr3 (fun k hk => P2.out.block k hk)); have P3 := Lib.hid own3; clear own3 gr3))
  go_ret
  exact ⟨_, rfl, P3.out, H3.out⟩
theorem bothR_len {p q : List Pt} (hp : Vl p) (hq : Vl q) : (bothR p q).length ≤ 4000000 := by
  have := corL_len p q
  have := corL_len q p
  have := croL_len p q hq.1.2
  have := hp.1.2
  have := hq.1.2
  unfold bothR
  rw [List.nil_append, List.length_append, List.length_append]
  omega
theorem met_r (p q : List Pt) (b o c b' o' c' : Nat) (w : World) (hr : Row w b o p) (hr' : Row w b' o' q) (hp : Vl p) (hq : Vl q) : Calls Tryz.prog 37 #[.slice (some ⟨b, o, none⟩) p.length c, .slice (some ⟨b', o', none⟩) q.length c'] w (PolS (BothS p q) w) := by
  have B := Lib.hid (both_r p q b o c b' o' c' w hr hr' hp hq)
  have D : Hid (∀ v W, Sl W v (bothR p q) → Calls Tryz.prog 32 #[v] W (PolS (BothS p q) W)) := Lib.hid (fun v W s => polygon_r (BothS p q) (bothR p q) v W s (fun _ => mem_bothR) (fun y hy => bothS_plc hp.2.1 hq.2.1 hy) (bothR_len hp hq))
  clear hr hr' hp hq
  generalize p.length = n at *
  generalize q.length = m at *
  go_enter Tryz.func37, Tryz.ntmps37
  go_wp2_with fail
  refine B.out.mono ?_
  rintro e v1 ⟨u, rfl, ho, g1⟩
  have DU := Lib.hid (D.out u v1 ho.sl)
  have G1 := Lib.hid g1
  clear ho g1 B D
  go_wp2_with fail
  refine DU.out.mono ?_
  rintro e v2 ⟨u2, sm, r, rfl, hk, hs, g2⟩
  have HK := Lib.hid hk
  have HS := Lib.hid hs
  have G2 := Lib.hid (Grew.trans G1.out g2)
  clear hk hs g2 DU
  go_wp2_with fail
  refine bodyPost_ret (v := .tuple #[u2, .bool sm]) (by simp [results, Tryz.results37, go_sem, *]) rfl ⟨u2, sm, r, rfl, HK.out, HS.out, G2.out⟩
theorem meet_ok_r (p q : List Pt) (v v' : Value) (w : World) (hs : Sl w v p) (hs' : Sl w v' q) (hp : Vl p) (hq : Vl q) : Calls Tryz.prog 12 #[v, v'] w (PolySays (BothS p q) w) := by
  obtain ⟨b, o, c, rfl, hr⟩ := hs.row (fun e => by have := hp.1.1; rw [e] at this; cases this)
  obtain ⟨b', o', c', rfl, hr'⟩ := hs'.row (fun e => by have := hq.1.1; rw [e] at this; cases this)
  have A : Hid (∀ W, Grew w W → Calls Tryz.prog 31 #[.slice (some ⟨b, o, none⟩) p.length c] W fun e w' => e = .returned (.bool true) ∧ Grew W w') := Lib.hid (fun W g => rvalid_yes p _ W (hs.grown g) (by have := hp.1.2; omega) hp)
  have B : Hid (∀ W, Grew w W → Calls Tryz.prog 31 #[.slice (some ⟨b', o', none⟩) q.length c'] W fun e w' => e = .returned (.bool true) ∧ Grew W w') := Lib.hid (fun W g => rvalid_yes q _ W (hs'.grown g) (by have := hq.1.2; omega) hq)
  have D := Lib.hid (fun W (g : Grew w W) => met_r p q b o c b' o' c' W (hr.grown g) (hr'.grown g) hp hq)
  clear hs hs' hr hr' hp hq
  generalize p.length = n at *
  generalize q.length = m at *
  go_enter Tryz.func12, Tryz.ntmps12
  go_wp2_with fail
  refine (A.out _ (Grew.refl _)).mono ?_
  rintro e v1 ⟨rfl, g1⟩
  have G1 : Grew w v1 := g1
  clear g1
  go_wp2_with fail
  refine (B.out _ G1).mono ?_
  rintro e v2 ⟨rfl, g2⟩
  have G2 : Grew w v2 := Grew.trans G1 g2
  clear g2 G1
  go_wp2_with fail
  refine (D.out _ G2).mono ?_
  rintro e v4 ⟨u4, sm, r, rfl, hk, hs4, g4⟩
  have HK := Lib.hid hk
  have HS := Lib.hid hs4
  have G4 : Grew w v4 := Grew.trans G2 g4
  clear hk hs4 g4 G2 D
  go_wp2_with fail
  refine bodyPost_ret (v := .tuple #[u4, .bool sm, .int .i64 0]) (by simp [results, Tryz.results12, go_sem, *]) rfl (PolS.says HK.out HS.out G4)
theorem meet_bad0 (p q : List Pt) (v v' : Value) (w : World) (hs : Sl w v p) (hs' : Sl w v' q) (hm : p.length ≤ 9223372036854775807) (hm' : q.length ≤ 9223372036854775807) (hb : ¬ (Vl p ∧ Vl q)) : Calls Tryz.prog 12 #[v, v'] w fun e w' => e = .returned (.tuple #[.slice none 0 0, .bool false, .int .i64 1]) ∧ Grew w w' := by
  have A : Hid (∀ W, Grew w W → Calls Tryz.prog 31 #[v] W (Tells (Vl p) W)) := Lib.hid (fun W g => rvalid_any p _ W (hs.grown g) hm)
  have B : Hid (∀ W, Grew w W → Calls Tryz.prog 31 #[v'] W (Tells (Vl q) W)) := Lib.hid (fun W g => rvalid_any q _ W (hs'.grown g) hm')
  have BAD : Hid (∀ r s : Bool, (r = true ↔ Vl p) → (s = true ↔ Vl q) → r = false ∨ s = false) := Lib.hid (fun r s e f => by
    cases r
    · exact Or.inl rfl
    · cases s
      · exact Or.inr rfl
      · exact absurd ⟨e.1 rfl, f.1 rfl⟩ hb)
  clear hs hs' hm hm' hb
  go_enter Tryz.func12, Tryz.ntmps12
  go_wp2_with fail
  refine (A.out _ (by (repeat' (first | (with_reducible exact Grew.refl _) | (with_reducible assumption) | (with_reducible refine Grew.alloc ?_ _ _) | (with_reducible refine Grew.drew ?_) | (with_reducible refine Grew.drewN ?_ _) | (with_reducible refine Grew.setCell ?_ ?_ _) | go_size)))).mono ?_
  rintro e v1 ⟨r, rfl, hr, g1⟩
  have G1 : Grew w v1 := Grew.trans (by (repeat' (first | (with_reducible exact Grew.refl _) | (with_reducible assumption) | (with_reducible refine Grew.alloc ?_ _ _) | (with_reducible refine Grew.drew ?_) | (with_reducible refine Grew.drewN ?_ _) | (with_reducible refine Grew.setCell ?_ ?_ _) | go_size))) g1
  have H1 := Lib.hid hr
  clear g1 hr A
  go_wp2_with fail
  refine (B.out _ G1).mono ?_
  rintro e v2 ⟨s, rfl, hs, g2⟩
  have BD := BAD.out r s H1.out hs
  have G2 : Grew w v2 := Grew.trans G1 g2
  clear g2 hs G1 B BAD H1
  rcases BD with rfl | rfl
  · go_wp2_with fail
    refine bodyPost_ret (v := .tuple #[.slice none 0 0, .bool false, .int .i64 1]) (by simp [results, Tryz.results12, go_sem, *]) rfl ⟨rfl, G2⟩
  · cases r
    · go_wp2_with fail
      refine bodyPost_ret (v := .tuple #[.slice none 0 0, .bool false, .int .i64 1]) (by simp [results, Tryz.results12, go_sem, *]) rfl ⟨rfl, G2⟩
    · go_wp2_with fail
      refine bodyPost_ret (v := .tuple #[.slice none 0 0, .bool false, .int .i64 1]) (by simp [results, Tryz.results12, go_sem, *]) rfl ⟨rfl, G2⟩
theorem apart_ok_r (p q : List Pt) (v v' : Value) (w : World) (hs : Sl w v p) (hs' : Sl w v' q) (hp : Vl p) (hq : Vl q) : Calls Tryz.prog 14 #[v, v'] w (YesNo (¬ ∃ y, BothS p q y) w) := by
  obtain ⟨b, o, c, rfl, hr⟩ := hs.row (fun e => by have := hp.1.1; rw [e] at this; cases this)
  obtain ⟨b', o', c', rfl, hr'⟩ := hs'.row (fun e => by have := hq.1.1; rw [e] at this; cases this)
  have A : Hid (∀ W, Grew w W → Calls Tryz.prog 31 #[.slice (some ⟨b, o, none⟩) p.length c] W fun e w' => e = .returned (.bool true) ∧ Grew W w') := Lib.hid (fun W g => rvalid_yes p _ W (hs.grown g) (by have := hp.1.2; omega) hp)
  have B : Hid (∀ W, Grew w W → Calls Tryz.prog 31 #[.slice (some ⟨b', o', none⟩) q.length c'] W fun e w' => e = .returned (.bool true) ∧ Grew W w') := Lib.hid (fun W g => rvalid_yes q _ W (hs'.grown g) (by have := hq.1.2; omega) hq)
  have D := Lib.hid (fun W (g : Grew w W) => both_r p q b o c b' o' c' W (hr.grown g) (hr'.grown g) hp hq)
  have BL := Lib.hid (bothR_len hp hq)
  clear hs hs' hr hr' hp hq
  generalize p.length = n at *
  generalize q.length = m at *
  go_enter Tryz.func14, Tryz.ntmps14
  go_wp2_with fail
  refine (A.out _ (Grew.refl _)).mono ?_
  rintro e v1 ⟨rfl, g1⟩
  have G1 : Grew w v1 := g1
  clear g1
  go_wp2_with fail
  refine (B.out _ G1).mono ?_
  rintro e v2 ⟨rfl, g2⟩
  have G2 : Grew w v2 := Grew.trans G1 g2
  clear g2 G1
  go_wp2_with fail
  refine (D.out _ G2).mono ?_
  rintro e v4 ⟨u4, rfl, ho, g4⟩
  have G4 : Grew w v4 := Grew.trans G2 g4
  obtain ⟨ua, uc, rfl⟩ := ho.sl.shape
  clear ho g4 G2 D
  by_cases z : (bothR p q).length = 0
  · have NN : Hid (¬ ∃ y, BothS p q y) := Lib.hid (fun ⟨y, hy⟩ => by
      have g := mem_bothR.2 hy
      rw [List.length_eq_zero_iff.1 z] at g
      cases g)
    have z2 : (((bothR p q).length : Int) == 0) = true := by rw [beq_iff_eq]; omega
    clear z
    generalize (bothR p q).length = N at *
    go_wp2_with fail
    refine bodyPost_ret (v := .tuple #[.bool true, .int .i64 0]) (by simp [results, Tryz.results14, go_sem, *]) rfl ⟨true, rfl, ⟨fun _ => NN.out, fun _ => rfl⟩, G4⟩
  · have NN : Hid (∃ y, BothS p q y) := Lib.hid (by
      have h0 : 0 < (bothR p q).length := by omega
      exact ⟨_, mem_bothR.1 (at_mem h0)⟩)
    have z2 : (((bothR p q).length : Int) == 0) = false := by rw [beq_eq_false_iff_ne]; omega
    clear z
    generalize (bothR p q).length = N at *
    go_wp2_with fail
    refine bodyPost_ret (v := .tuple #[.bool false, .int .i64 0]) (by simp [results, Tryz.results14, go_sem, *]) rfl ⟨false, rfl, ⟨fun e => (by cases e), fun g => absurd NN.out g⟩, G4⟩
theorem apart_bad_r (p q : List Pt) (v v' : Value) (w : World) (hs : Sl w v p) (hs' : Sl w v' q) (hm : p.length ≤ 9223372036854775807) (hm' : q.length ≤ 9223372036854775807) (hb : ¬ (Vl p ∧ Vl q)) : Calls Tryz.prog 14 #[v, v'] w fun e w' => e = .returned (.tuple #[.bool false, .int .i64 1]) ∧ Grew w w' := by
  have A : Hid (∀ W, Grew w W → Calls Tryz.prog 31 #[v] W (Tells (Vl p) W)) := Lib.hid (fun W g => rvalid_any p _ W (hs.grown g) hm)
  have B : Hid (∀ W, Grew w W → Calls Tryz.prog 31 #[v'] W (Tells (Vl q) W)) := Lib.hid (fun W g => rvalid_any q _ W (hs'.grown g) hm')
  have BAD : Hid (∀ r s : Bool, (r = true ↔ Vl p) → (s = true ↔ Vl q) → r = false ∨ s = false) := Lib.hid (fun r s e f => by
    cases r
    · exact Or.inl rfl
    · cases s
      · exact Or.inr rfl
      · exact absurd ⟨e.1 rfl, f.1 rfl⟩ hb)
  clear hs hs' hm hm' hb
  go_enter Tryz.func14, Tryz.ntmps14
  go_wp2_with fail
  refine (A.out _ (by (repeat' (first | (with_reducible exact Grew.refl _) | (with_reducible assumption) | (with_reducible refine Grew.alloc ?_ _ _) | (with_reducible refine Grew.drew ?_) | (with_reducible refine Grew.drewN ?_ _) | (with_reducible refine Grew.setCell ?_ ?_ _) | go_size)))).mono ?_
  rintro e v1 ⟨r, rfl, hr, g1⟩
  have G1 : Grew w v1 := Grew.trans (by (repeat' (first | (with_reducible exact Grew.refl _) | (with_reducible assumption) | (with_reducible refine Grew.alloc ?_ _ _) | (with_reducible refine Grew.drew ?_) | (with_reducible refine Grew.drewN ?_ _) | (with_reducible refine Grew.setCell ?_ ?_ _) | go_size))) g1
  have H1 := Lib.hid hr
  clear g1 hr A
  go_wp2_with fail
  refine (B.out _ G1).mono ?_
  rintro e v2 ⟨s, rfl, hs, g2⟩
  have BD := BAD.out r s H1.out hs
  have G2 : Grew w v2 := Grew.trans G1 g2
  clear g2 hs G1 B BAD H1
  rcases BD with rfl | rfl
  · go_wp2_with fail
    refine bodyPost_ret (v := .tuple #[.bool false, .int .i64 1]) (by simp [results, Tryz.results14, go_sem, *]) rfl ⟨rfl, G2⟩
  · cases r
    · go_wp2_with fail
      refine bodyPost_ret (v := .tuple #[.bool false, .int .i64 1]) (by simp [results, Tryz.results14, go_sem, *]) rfl ⟨rfl, G2⟩
    · go_wp2_with fail
      refine bodyPost_ret (v := .tuple #[.bool false, .int .i64 1]) (by simp [results, Tryz.results14, go_sem, *]) rfl ⟨rfl, G2⟩
theorem lies_r (p q : List Pt) (b o c b' o' c' : Nat) (w : World) (hr : Row w b o p) (hr' : Row w b' o' q) (hp : Vl p) (hq : Vl q) : Calls Tryz.prog 39 #[.slice (some ⟨b, o, none⟩) p.length c, .slice (some ⟨b', o', none⟩) q.length c'] w (Tells (∀ y, y ∈ p → Hs q y) w) := by
  have D := Lib.hid (corners_r p q (.slice (some ⟨b, o, none⟩) p.length c) b' o' c' w (Or.inr ⟨b, o, c, rfl, hr⟩) hr' hp.2.1 hq (by have := hp.1.2; omega))
  have FU := Lib.hid (corL_full (p := p) (q := q))
  clear hr hr' hp hq
  generalize q.length = m at *
  go_enter Tryz.func39, Tryz.ntmps39
  go_wp2_with fail
  refine D.out.mono ?_
  rintro e v4 ⟨u4, rfl, ho, g4⟩
  have G4 : Grew w v4 := g4
  obtain ⟨ua, uc, rfl⟩ := ho.sl.shape
  clear ho g4 D
  by_cases z : (corL p q).length = p.length
  · have NN := Lib.hid (FU.out.1 z)
    have z2 : (((corL p q).length : Int) == (p.length : Int)) = true := by rw [beq_iff_eq]; omega
    clear z FU
    generalize (corL p q).length = N at *
    generalize p.length = n at *
    go_wp2_with fail
    go_ret
    exact Tells.yes NN.out (by first | rfl | simp [z2]) G4
  · have NN := Lib.hid (fun h => z (FU.out.2 h))
    have z2 : (((corL p q).length : Int) == (p.length : Int)) = false := by rw [beq_eq_false_iff_ne]; omega
    clear z FU
    generalize (corL p q).length = N at *
    generalize p.length = n at *
    go_wp2_with fail
    go_ret
    exact Tells.no NN.out (by first | rfl | simp [z2]) G4
theorem within_ok_r (p q : List Pt) (v v' : Value) (w : World) (hs : Sl w v p) (hs' : Sl w v' q) (hp : Vl p) (hq : Vl q) : Calls Tryz.prog 16 #[v, v'] w (YesNo (∀ y, y ∈ p → Hs q y) w) := by
  obtain ⟨b, o, c, rfl, hr⟩ := hs.row (fun e => by have := hp.1.1; rw [e] at this; cases this)
  obtain ⟨b', o', c', rfl, hr'⟩ := hs'.row (fun e => by have := hq.1.1; rw [e] at this; cases this)
  have A : Hid (∀ W, Grew w W → Calls Tryz.prog 31 #[.slice (some ⟨b, o, none⟩) p.length c] W fun e w' => e = .returned (.bool true) ∧ Grew W w') := Lib.hid (fun W g => rvalid_yes p _ W (hs.grown g) (by have := hp.1.2; omega) hp)
  have B : Hid (∀ W, Grew w W → Calls Tryz.prog 31 #[.slice (some ⟨b', o', none⟩) q.length c'] W fun e w' => e = .returned (.bool true) ∧ Grew W w') := Lib.hid (fun W g => rvalid_yes q _ W (hs'.grown g) (by have := hq.1.2; omega) hq)
  have D := Lib.hid (fun W (g : Grew w W) => lies_r p q b o c b' o' c' W (hr.grown g) (hr'.grown g) hp hq)
  clear hs hs' hr hr' hp hq
  generalize p.length = n at *
  generalize q.length = m at *
  go_enter Tryz.func16, Tryz.ntmps16
  go_wp2_with fail
  refine (A.out _ (Grew.refl _)).mono ?_
  rintro e v1 ⟨rfl, g1⟩
  have G1 : Grew w v1 := g1
  clear g1
  go_wp2_with fail
  refine (B.out _ G1).mono ?_
  rintro e v2 ⟨rfl, g2⟩
  have G2 : Grew w v2 := Grew.trans G1 g2
  clear g2 G1
  go_wp2_with fail
  refine (D.out _ G2).mono ?_
  rintro e v4 ⟨r, rfl, hk, g4⟩
  have HK := Lib.hid hk
  have G4 : Grew w v4 := Grew.trans G2 g4
  clear hk g4 G2 D
  go_wp2_with fail
  refine bodyPost_ret (v := .tuple #[.bool r, .int .i64 0]) (by simp [results, Tryz.results16, go_sem, *]) rfl ⟨r, rfl, HK.out, G4⟩
theorem within_bad_r (p q : List Pt) (v v' : Value) (w : World) (hs : Sl w v p) (hs' : Sl w v' q) (hm : p.length ≤ 9223372036854775807) (hm' : q.length ≤ 9223372036854775807) (hb : ¬ (Vl p ∧ Vl q)) : Calls Tryz.prog 16 #[v, v'] w fun e w' => e = .returned (.tuple #[.bool false, .int .i64 1]) ∧ Grew w w' := by
  have A : Hid (∀ W, Grew w W → Calls Tryz.prog 31 #[v] W (Tells (Vl p) W)) := Lib.hid (fun W g => rvalid_any p _ W (hs.grown g) hm)
  have B : Hid (∀ W, Grew w W → Calls Tryz.prog 31 #[v'] W (Tells (Vl q) W)) := Lib.hid (fun W g => rvalid_any q _ W (hs'.grown g) hm')
  have BAD : Hid (∀ r s : Bool, (r = true ↔ Vl p) → (s = true ↔ Vl q) → r = false ∨ s = false) := Lib.hid (fun r s e f => by
    cases r
    · exact Or.inl rfl
    · cases s
      · exact Or.inr rfl
      · exact absurd ⟨e.1 rfl, f.1 rfl⟩ hb)
  clear hs hs' hm hm' hb
  go_enter Tryz.func16, Tryz.ntmps16
  go_wp2_with fail
  refine (A.out _ (by (repeat' (first | (with_reducible exact Grew.refl _) | (with_reducible assumption) | (with_reducible refine Grew.alloc ?_ _ _) | (with_reducible refine Grew.drew ?_) | (with_reducible refine Grew.drewN ?_ _) | (with_reducible refine Grew.setCell ?_ ?_ _) | go_size)))).mono ?_
  rintro e v1 ⟨r, rfl, hr, g1⟩
  have G1 : Grew w v1 := Grew.trans (by (repeat' (first | (with_reducible exact Grew.refl _) | (with_reducible assumption) | (with_reducible refine Grew.alloc ?_ _ _) | (with_reducible refine Grew.drew ?_) | (with_reducible refine Grew.drewN ?_ _) | (with_reducible refine Grew.setCell ?_ ?_ _) | go_size))) g1
  have H1 := Lib.hid hr
  clear g1 hr A
  go_wp2_with fail
  refine (B.out _ G1).mono ?_
  rintro e v2 ⟨s, rfl, hs, g2⟩
  have BD := BAD.out r s H1.out hs
  have G2 : Grew w v2 := Grew.trans G1 g2
  clear g2 hs G1 B BAD H1
  rcases BD with rfl | rfl
  · go_wp2_with fail
    refine bodyPost_ret (v := .tuple #[.bool false, .int .i64 1]) (by simp [results, Tryz.results16, go_sem, *]) rfl ⟨rfl, G2⟩
  · cases r
    · go_wp2_with fail
      refine bodyPost_ret (v := .tuple #[.bool false, .int .i64 1]) (by simp [results, Tryz.results16, go_sem, *]) rfl ⟨rfl, G2⟩
    · go_wp2_with fail
      refine bodyPost_ret (v := .tuple #[.bool false, .int .i64 1]) (by simp [results, Tryz.results16, go_sem, *]) rfl ⟨rfl, G2⟩
end Ct
end Go.Proofs.YtmijlfbmmegfbaaGreat
