/-
  The landed crossings, Meet, Apart, Within, Common; all contracts of the landed package, in one.
-/
import Derived.Test.YtmijlfbmmegfbaaGreatCutCk
import Derived.Test.YtmijlfbmmegfbaaGreatHullCk
namespace Go.Proofs.YtmijlfbmmegfbaaGreat
open Go.RowKit Go.Shelf Hl
namespace Ct
def SideT (q : List Pt) (a b : Pt) (l : List Pt) : Prop := (∀ y, y ∈ l ↔ ∃ k, k < q.length ∧ XF a b (at' q k) (at' q ((k + 1) % q.length)) y) ∧ l.length ≤ 8
theorem side_gath {q : List Pt} (hq : Pg q) {a b : Pt} {l : List Pt} (h : Gath (fun k l => CrossT a b (at' q k) (at' q ((k + 1) % q.length)) l) (List.range q.length) l) : SideT q a b l := by
  constructor
  · intro y
    rw [h.mem (F := fun k y => XF a b (at' q k) (at' q ((k + 1) % q.length)) y) (fun k l hl => hl.1)]
    constructor
    · rintro ⟨k, hk, g⟩; exact ⟨k, List.mem_range.1 hk, g⟩
    · rintro ⟨k, hk, g⟩; exact ⟨k, List.mem_range.2 hk, g⟩
  · have h1 := h.len (P := fun k => decide (Df (cr a b (at' q k)) (cr a b (at' q ((k + 1) % q.length))))) (c := 0) (fun k l hl => by have := hl.2; omega)
    have h2 := cross_two hq (-(b.2 - a.2)) (b.1 - a.1) ((b.2 - a.2) * a.1 - (b.1 - a.1) * a.2)
    simp only [← cr_af] at h2
    omega
set_option maxRecDepth 100000 in
set_option maxHeartbeats 4000000 in
theorem cross1_c (q : List Pt) (b' o' c' Bq : Nat) (a b : Pt) (w : World) (hr : Row w b' o' q) (hq : Vl q) (hB : Blk w Bq #[.slice (some ⟨b', o', none⟩) q.length c'] 22) (ha : Plc a) (hb : Plc b) :
    Calls Tryz.prog 66 (#[.agg #[.int .i64 a.1, .int .i64 a.2], .agg #[.int .i64 b.1, .int .i64 b.2]] ++ #[.pointer (some ⟨Bq, 0, none⟩)]) w (SideSays (SideT q a b) w) := by
  have TC : Hid (∀ W, Calls Tryz.prog 67 #[.agg #[.int .i64 a.1, .int .i64 a.2], .agg #[.int .i64 b.1, .int .i64 b.2]] W fun e w' => e = .returned (.agg #[.int .i64 (thr a b).1, .int .i64 (thr a b).2.1, .int .i64 (thr a b).2.2]) ∧ Grew W w') := Lib.hid (fun W => through_c a b W ha hb)
  have KC : Hid (∀ Bs Ba Bb W, Grew w W → Blk W Bs #[.int .i64 (thr a b).1, .int .i64 (thr a b).2.1, .int .i64 (thr a b).2.2] 44 → Blk W Ba #[.int .i64 a.1, .int .i64 a.2] 26 → Blk W Bb #[.int .i64 b.1, .int .i64 b.2] 26 → Calls Tryz.prog 28 #[.slice (some ⟨b', o', none⟩) q.length c', .func (.func 68) #[] #[.pointer (some ⟨Bs, 0, none⟩), .pointer (some ⟨Ba, 0, none⟩), .pointer (some ⟨Bb, 0, none⟩)]] W (KeepSays (fun k l => CrossT a b (at' q k) (at' q ((k + 1) % q.length)) l) q.length W)) := Lib.hid (fun Bs Ba Bb W g h1 h2 h3 => keep_c 68 _ (enters_of Tryz.func68 (by kernel_rfl) rfl) q b' o' c' W (hr.grown g) hq.1.1 hq.1.2 _ (fun i l hl => by have := hl.2; split at this <;> omega) (fun i W' g' => cross11_c Bs Ba Bb a b _ _ W' (h1.grown g') (h2.grown g') (h3.grown g') ha hb (at_plc hq.2.1 i) (at_plc hq.2.1 _)))
  have FIN : Hid (∀ l, Gath (fun k l => CrossT a b (at' q k) (at' q ((k + 1) % q.length)) l) (List.range q.length) l → SideT q a b l) := Lib.hid (fun l h => side_gath hq.pg h)
  have HQ := Lib.hid hB
  have XA := Lib.hid (Blk.new w #[.int .i64 a.1, .int .i64 a.2] 26)
  have XB := Lib.hid (Blk.new (w.alloc (.cells #[.int .i64 a.1, .int .i64 a.2] 26)) #[.int .i64 b.1, .int .i64 b.2] 26)
  have G0 : Grew w ((w.alloc (.cells #[.int .i64 a.1, .int .i64 a.2] 26)).alloc (.cells #[.int .i64 b.1, .int .i64 b.2] 26)) := ((Grew.refl w).alloc _ _).alloc _ _
  obtain ⟨A, hA⟩ : ∃ A, thr a b = A := ⟨_, rfl⟩
  rw [hA] at TC KC
  clear hr hq hB ha hb hA
  simp only [List.append_toArray, List.cons_append, List.nil_append]
  generalize q.length = n at *
  go_enter Tryz.func66, Tryz.ntmps66
  go_wp2_with fail
  refine (TC.out _).mono ?_
  rintro e w1 ⟨rfl, g1⟩
  have G1 : Grew w w1 := Grew.trans G0 g1
  have kA := Lib.hid (((XA.out.alloc (.cells #[.int .i64 b.1, .int .i64 b.2] 26)).grown g1).alloc (.cells #[.int .i64 A.1, .int .i64 A.2.1, .int .i64 A.2.2] 44))
  have kB := Lib.hid (by have h := (XB.out.grown g1).alloc (.cells #[.int .i64 A.1, .int .i64 A.2.1, .int .i64 A.2.2] 44); rw [World.size_alloc] at h; exact h)
  have kQ := HQ.out.grown G1
  have q0 := blk_single kQ
  have lQ := kQ.lt
  have lQ1 : Bq < w1.heap.size + 1 := by omega
  clear g1 kQ
  go_wp2_with fail
  refine (KC.out _ _ _ _ (G1.alloc _ _) (Blk.new w1 _ _) kA.out kB.out).mono ?_
  rintro e w2 ⟨v, l, rfl, hg, ho, g2⟩
  have G2 : Grew w w2 := Grew.trans (G1.alloc _ _) g2
  have F2 := Lib.hid (FIN.out l hg)
  have O2 := Lib.hid (own_mono (B' := w.heap.size) ho (by have := G1.size; simp; omega))
  clear hg ho g2
  go_wp2_with fail
  go_ret
  exact ⟨_, l, rfl, F2.out, O2.out, G2⟩
def CrossL (p q l : List Pt) : Prop := (∀ y, y ∈ l ↔ ∃ i k, (i < p.length ∧ k < q.length) ∧ XF (at' p i) (at' p ((i + 1) % p.length)) (at' q k) (at' q ((k + 1) % q.length)) y) ∧ l.length ≤ 8 * p.length
theorem cross_gath {p q l : List Pt} (h : Gath (fun i l => SideT q (at' p i) (at' p ((i + 1) % p.length)) l) (List.range p.length) l) : CrossL p q l := by
  constructor
  · intro y
    rw [h.mem (F := fun i y => ∃ k, k < q.length ∧ XF (at' p i) (at' p ((i + 1) % p.length)) (at' q k) (at' q ((k + 1) % q.length)) y) (fun k l hl => hl.1)]
    constructor
    · rintro ⟨i, hi, k, hk, g⟩; exact ⟨i, k, ⟨List.mem_range.1 hi, hk⟩, g⟩
    · rintro ⟨i, k, ⟨hi, hk⟩, g⟩; exact ⟨i, List.mem_range.2 hi, k, hk, g⟩
  · have := h.len (P := fun _ => false) (c := 8) (fun i l hl => by have := hl.2; simpa using this)
    have e0 : (List.filter (fun _ => false) (List.range p.length)).length = 0 := by rw [List.length_eq_zero_iff, List.filter_eq_nil_iff]; simp
    rw [List.length_range] at this
    omega
def CrossSays (p q : List Pt) (w : World) (e : Ending) (w' : World) : Prop := ∃ v l, e = .returned v ∧ CrossL p q l ∧ Hl.Own w.heap.size w' v l ∧ Grew w w'
set_option maxRecDepth 100000 in
set_option maxHeartbeats 4000000 in
theorem crossings_c (p q : List Pt) (b o c b' o' c' : Nat) (w : World) (hr : Row w b o p) (hr' : Row w b' o' q) (hp : Vl p) (hq : Vl q) : Calls Tryz.prog 36 #[.slice (some ⟨b, o, none⟩) p.length c, .slice (some ⟨b', o', none⟩) q.length c'] w (CrossSays p q w) := by
  have KC : Hid (∀ Bq W, Grew w W → Blk W Bq #[.slice (some ⟨b', o', none⟩) q.length c'] 22 → Calls Tryz.prog 28 #[.slice (some ⟨b, o, none⟩) p.length c, .func (.func 66) #[] #[.pointer (some ⟨Bq, 0, none⟩)]] W (KeepSays (fun i l => SideT q (at' p i) (at' p ((i + 1) % p.length)) l) p.length W)) := Lib.hid (fun Bq W g h1 => keep_c 66 _ (enters_of Tryz.func66 (by kernel_rfl) rfl) p b o c W (hr.grown g) hp.1.1 hp.1.2 _ (fun i l hl => by have := hl.2; omega) (fun i W' g' => cross1_c q b' o' c' Bq _ _ W' (hr'.grown (Grew.trans g g')) hq (h1.grown g') (at_plc hp.2.1 i) (at_plc hp.2.1 _)))
  have FIN : Hid (∀ l, Gath (fun i l => SideT q (at' p i) (at' p ((i + 1) % p.length)) l) (List.range p.length) l → CrossL p q l) := Lib.hid (fun l h => cross_gath h)
  clear hr hr' hp hq
  generalize p.length = n at *
  go_enter Tryz.func36, Tryz.ntmps36
  go_wp2_with fail
  refine (KC.out _ _ ((Grew.refl _).alloc _ _) (Blk.new w _ _)).mono ?_
  rintro e w2 ⟨v, l, rfl, hg, ho, g2⟩
  have F2 := Lib.hid (FIN.out l hg)
  have O2 := Lib.hid (own_mono (B' := w.heap.size) ho (by simp))
  have G2 : Grew w w2 := Grew.trans ((Grew.refl _).alloc _ _) g2
  clear hg ho g2
  go_wp2_with fail
  go_ret
  exact ⟨_, l, rfl, F2.out, O2.out, G2⟩
theorem valid_yes (K : Hl.Code) {p : List Pt} {b o c : Nat} {w : World} (hr : Row w b o p) (hp : Vl p) (W : World) (g : Grew w W) : Calls Tryz.prog 22 #[.slice (some ⟨b, o, none⟩) p.length c] W fun e w' => e = .returned (.bool true) ∧ Grew W w' :=
  (K.valid p _ W (Or.inr ⟨b, o, c, rfl, hr.grown g⟩) (by have := hp.1.2; omega)).mono (by
    rintro e w' ⟨r, rfl, h, g⟩
    rw [h.2 hp]
    exact ⟨rfl, g⟩)
theorem within_row (K : Hl.Code) {p q : List Pt} {b o c b' o' c' : Nat} {w : World} (hr : Row w b o p) (hr' : Row w b' o' q) (hp : Vl p) (hq : Vl q) (W : World) (g : Grew w W) : Calls Tryz.prog 35 #[.slice (some ⟨b, o, none⟩) p.length c, .slice (some ⟨b', o', none⟩) q.length c'] W (FilterSays (p.filter (hsB q)) W) :=
  within_c K p q _ b' o' c' W (hr'.grown g) hq (by have := hp.1.2; omega) (fun x hx => by
    obtain ⟨i, hi, e⟩ := mem_at hx
    rw [← e]; exact hp.2.1 i hi) (fun W' g' => clone_c p b o c W' (hr.grown (Grew.trans g g')) (by have := hp.1.2; omega))
theorem both_list {p q l : List Pt} (h : CrossL p q l) (y : Pt) : y ∈ p.filter (hsB q) ++ q.filter (hsB p) ++ l ↔ BothS p q y := by
  rw [List.mem_append, List.mem_append, mem_hsB, mem_hsB, h.1 y, mem_list, mem_list]
  unfold BothS
  constructor
  · rintro ((⟨⟨i, hi, e⟩, g⟩ | ⟨⟨i, hi, e⟩, g⟩) | g)
    · exact Or.inl ⟨i, hi, e, g⟩
    · exact Or.inr (Or.inl ⟨i, hi, e, g⟩)
    · exact Or.inr (Or.inr g)
  · rintro (⟨i, hi, e, g⟩ | ⟨i, hi, e, g⟩ | g)
    · exact Or.inl (Or.inl ⟨⟨i, hi, e⟩, g⟩)
    · exact Or.inl (Or.inr ⟨⟨i, hi, e⟩, g⟩)
    · exact Or.inr g
theorem both_plc {p q : List Pt} (hp : Plcs p) (hq : Plcs q) {y : Pt} (h : BothS p q y) : Plc y := by
  rcases h with ⟨i, hi, rfl, _⟩ | ⟨i, hi, rfl, _⟩ | ⟨i, k, ⟨hi, hk⟩, g⟩
  · exact hp i hi
  · exact hq i hi
  · exact fr_plc (hq k hk) (hq _ (Nat.mod_lt _ (by omega))) g.2
set_option maxRecDepth 100000 in
set_option maxHeartbeats 4000000 in
theorem meetc_ok (K : Hl.Code) (p q : List Pt) (v v' : Value) (w : World) (hs : Sl w v p) (hs' : Sl w v' q) (hp : Vl p) (hq : Vl q) : Calls Tryz.prog 11 #[v, v'] w (PolySays (BothS p q) w) := by
  obtain ⟨b, o, c, rfl, hr⟩ := hs.row (fun e => by have := hp.1.1; rw [e] at this; cases this)
  obtain ⟨b', o', c', rfl, hr'⟩ := hs'.row (fun e => by have := hq.1.1; rw [e] at this; cases this)
  have WP := Lib.hid (within_row K (c := c) (c' := c') hr hr' hp hq)
  have WQ := Lib.hid (within_row K (c := c') (c' := c) hr' hr hq hp)
  have XC : Hid (∀ W, Grew w W → Calls Tryz.prog 36 #[.slice (some ⟨b, o, none⟩) p.length c, .slice (some ⟨b', o', none⟩) q.length c'] W (CrossSays p q W)) := Lib.hid (fun W g => crossings_c p q b o c b' o' c' W (hr.grown g) (hr'.grown g) hp hq)
  have PC := Lib.hid (valid_yes K (c := c) hr hp)
  have QC := Lib.hid (valid_yes K (c := c') hr' hq)
  have CC : Hid (∀ B v1 v2 v3 l (W : World), CrossL p q l → Hl.Own B W v1 (p.filter (hsB q)) → Hl.Own B W v2 (q.filter (hsB p)) → Hl.Own B W v3 l → Calls Tryz.prog 34 #[.slice (some ⟨W.heap.size, 0, none⟩) 3 3] (W.alloc (.cells #[v1, v2, v3] 22)) fun e w' => ∃ v, e = .returned v ∧ Hid (Sl w' v (p.filter (hsB q) ++ q.filter (hsB p) ++ l)) ∧ Grew W w') := Lib.hid (fun B v1 v2 v3 l W h h1 h2 h3 => by
    have a1 : (p.filter (hsB q)).length ≤ p.length := List.length_filter_le _ _
    have a2 : (q.filter (hsB p)).length ≤ q.length := List.length_filter_le _ _
    have a3 := h.2
    have a4 := hp.1.2
    have a5 := hq.1.2
    refine (concat_any W.heap.size B v1 v2 v3 _ _ l _ (Blk.new W _ _) (h1.alloc _) (h2.alloc _) (h3.alloc _) (by omega) (by omega) (by omega)).mono ?_
    rintro e w' ⟨v, rfl, ho, g⟩
    exact ⟨v, rfl, Lib.hid ho.sl, Grew.trans ((Grew.refl _).alloc _ _) g⟩)
  have OC : Hid (∀ l v W, CrossL p q l → Sl W v (p.filter (hsB q) ++ q.filter (hsB p) ++ l) → Calls Tryz.prog 27 #[v] W (PolySays (BothS p q) W)) := Lib.hid (fun l v W h hs => by
    have a1 : (p.filter (hsB q)).length ≤ p.length := List.length_filter_le _ _
    have a2 : (q.filter (hsB p)).length ≤ q.length := List.length_filter_le _ _
    have a3 := h.2
    have a4 := hp.1.2
    have a5 := hq.1.2
    refine (outer_c K _ v W hs (by rw [List.length_append, List.length_append]; omega) (fun x hx => both_plc hp.2.1 hq.2.1 ((both_list h x).1 hx))).mono ?_
    rintro e w' (⟨r, v, hq, t⟩ | ⟨hn, t⟩)
    · exact Or.inl ⟨r, v, hq.same (both_list h), t⟩
    · exact Or.inr ⟨fun ⟨y, hy⟩ => hn ⟨y, (both_list h y).2 hy⟩, t⟩)
  clear hs hs' hr hr' hp hq
  generalize p.length = n at *
  generalize q.length = m at *
  go_enter Tryz.func11, Tryz.ntmps11
  go_wp2_with fail
  refine (PC.out _ (Grew.refl _)).mono ?_
  rintro e w1 ⟨rfl, g1⟩
  go_wp2_with fail
  refine (QC.out _ g1).mono ?_
  rintro e w2 ⟨rfl, g2⟩
  have G2 : Grew w w2 := Grew.trans g1 g2
  clear g1 g2
  go_wp2_with fail
  refine (WP.out _ G2).mono ?_
  rintro e w3 ⟨v1, rfl, o1, g3⟩
  have G3 : Grew w w3 := Grew.trans G2 g3
  have O1 := Lib.hid (own_mono (B' := w.heap.size) o1 G2.size)
  clear o1 g3
  go_wp2_with fail
  refine (WQ.out _ G3).mono ?_
  rintro e w4 ⟨v2, rfl, o2, g4⟩
  have G4 : Grew w w4 := Grew.trans G3 g4
  have O1 := Lib.hid (O1.out.grew g4)
  have O2 := Lib.hid (own_mono (B' := w.heap.size) o2 G3.size)
  clear o2 g4
  go_wp2_with fail
  refine (XC.out _ G4).mono ?_
  rintro e w5 ⟨v3, l, rfl, hx, o3, g5⟩
  have G5 : Grew w w5 := Grew.trans G4 g5
  have HX := Lib.hid hx
  have C5 := Lib.hid (CC.out w.heap.size v1 v2 v3 l w5 hx (O1.out.grew g5) (O2.out.grew g5) (own_mono o3 G4.size))
  have sh1 := (O1.out.grew g5).sl.shape
  have sh2 := (O2.out.grew g5).sl.shape
  have sh3 := o3.sl.shape
  obtain ⟨a1, c1, rfl⟩ := sh1
  obtain ⟨a2, c2, rfl⟩ := sh2
  obtain ⟨a3, c3, rfl⟩ := sh3
  clear o3 g5 hx O1 O2
  go_wp2_with fail
  refine C5.out.mono ?_
  rintro e w6 ⟨v6, rfl, hs6, g6⟩
  have G6 : Grew w w6 := Grew.trans G5 g6
  have OC6 := Lib.hid (OC.out l v6 w6 HX.out hs6.out)
  clear hs6 g6
  go_wp2_with fail
  refine OC6.out.mono ?_
  rintro e w7 (⟨r, v7, hq, rfl, hs7, g7⟩ | ⟨hn, v7, rfl, hs7, g7⟩)
  · have G7 : Grew w w7 := Grew.trans G6 g7
    clear g7
    go_wp2_with fail
    refine bodyPost_ret (v := .tuple #[v7, .bool true, .int .i64 0]) (by simp [results, Tryz.results11, go_sem, *]) rfl (Or.inl ⟨r, _, hq, rfl, hs7.grown (by (repeat' (first | (with_reducible exact Grew.refl _) | (with_reducible assumption) | (with_reducible refine Grew.alloc ?_ _ _) | (with_reducible refine Grew.drew ?_) | (with_reducible refine Grew.drewN ?_ _) | (with_reducible refine Grew.setCell ?_ ?_ _) | go_size))), (by (repeat' (first | (with_reducible exact Grew.refl _) | (with_reducible assumption) | (with_reducible refine Grew.alloc ?_ _ _) | (with_reducible refine Grew.drew ?_) | (with_reducible refine Grew.drewN ?_ _) | (with_reducible refine Grew.setCell ?_ ?_ _) | go_size)))⟩)
  · have G7 : Grew w w7 := Grew.trans G6 g7
    clear g7
    go_wp2_with fail
    refine bodyPost_ret (v := .tuple #[v7, .bool false, .int .i64 0]) (by simp [results, Tryz.results11, go_sem, *]) rfl (Or.inr ⟨hn, _, rfl, hs7.grown (by (repeat' (first | (with_reducible exact Grew.refl _) | (with_reducible assumption) | (with_reducible refine Grew.alloc ?_ _ _) | (with_reducible refine Grew.drew ?_) | (with_reducible refine Grew.drewN ?_ _) | (with_reducible refine Grew.setCell ?_ ?_ _) | go_size))), (by (repeat' (first | (with_reducible exact Grew.refl _) | (with_reducible assumption) | (with_reducible refine Grew.alloc ?_ _ _) | (with_reducible refine Grew.drew ?_) | (with_reducible refine Grew.drewN ?_ _) | (with_reducible refine Grew.setCell ?_ ?_ _) | go_size)))⟩)
set_option maxRecDepth 100000 in
set_option maxHeartbeats 4000000 in
theorem meetc_bad (K : Hl.Code) (p q : List Pt) (v v' : Value) (w : World) (hs : Sl w v p) (hs' : Sl w v' q) (hl : p.length ≤ 9223372036854775807) (hl' : q.length ≤ 9223372036854775807) (hb : ¬ (Vl p ∧ Vl q)) : Calls Tryz.prog 11 #[v, v'] w (NoSays w) := by
  have PC : Hid (∀ W, Grew w W → Calls Tryz.prog 22 #[v] W fun e w' => ∃ r : Bool, e = .returned (.bool r) ∧ Hid (r = true ↔ Vl p) ∧ Grew W w') := Lib.hid (fun W g => (K.valid p _ W (hs.grown g) hl).mono (by
    rintro e w' ⟨r, rfl, h, g⟩
    exact ⟨r, rfl, Lib.hid h, g⟩))
  have QC : Hid (∀ W, Grew w W → Calls Tryz.prog 22 #[v'] W fun e w' => ∃ r : Bool, e = .returned (.bool r) ∧ Hid (r = true ↔ Vl q) ∧ Grew W w') := Lib.hid (fun W g => (K.valid q _ W (hs'.grown g) hl').mono (by
    rintro e w' ⟨r, rfl, h, g⟩
    exact ⟨r, rfl, Lib.hid h, g⟩))
  have HB := Lib.hid hb
  obtain ⟨sa, sc, rfl⟩ := hs.shape
  obtain ⟨sa', sc', rfl⟩ := hs'.shape

  clear hs hs' hb hl hl'
  go_enter Tryz.func11, Tryz.ntmps11
  go_wp2_with fail
  refine (PC.out _ (Grew.refl _)).mono ?_
  rintro e w1 ⟨r, rfl, hr, g1⟩
  have G1 : Grew w w1 := g1

  cases r
  · clear g1
    go_wp2_with fail
    refine bodyPost_ret (v := .tuple #[.slice none 0 0, .bool false, .int .i64 1]) (by simp [results, Tryz.results11, go_sem, *]) rfl ⟨_, rfl, sl_none _ _ _, (by (repeat' (first | (with_reducible exact Grew.refl _) | (with_reducible assumption) | (with_reducible refine Grew.alloc ?_ _ _) | (with_reducible refine Grew.drew ?_) | (with_reducible refine Grew.drewN ?_ _) | (with_reducible refine Grew.setCell ?_ ?_ _) | go_size)))⟩
  · go_wp2_with fail
    refine (QC.out _ G1).mono ?_
    rintro e w2 ⟨r', rfl, hr', g2⟩
    have G1 : Grew w w2 := Grew.trans G1 g2

    clear g1 g2
    cases r'
    · go_wp2_with fail
      refine bodyPost_ret (v := .tuple #[.slice none 0 0, .bool false, .int .i64 1]) (by simp [results, Tryz.results11, go_sem, *]) rfl ⟨_, rfl, sl_none _ _ _, (by (repeat' (first | (with_reducible exact Grew.refl _) | (with_reducible assumption) | (with_reducible refine Grew.alloc ?_ _ _) | (with_reducible refine Grew.drew ?_) | (with_reducible refine Grew.drewN ?_ _) | (with_reducible refine Grew.setCell ?_ ?_ _) | go_size)))⟩
    · exact absurd ⟨hr.out.1 (by first | rfl | trivial), hr'.out.1 (by first | rfl | trivial)⟩ HB.out
end Ct
end Go.Proofs.YtmijlfbmmegfbaaGreat
namespace Go.Proofs.YtmijlfbmmegfbaaGreat
open Go.RowKit Go.Shelf Hl
namespace Ct
theorem len_mem {l : List Pt} : l.length = 0 ↔ ¬ ∃ y, y ∈ l := by
  constructor
  · intro h ⟨y, hy⟩
    rw [List.length_eq_zero_iff.1 h] at hy
    cases hy
  · intro h
    cases l with
    | nil => rfl
    | cons x l => exact absurd ⟨x, by simp⟩ h
set_option maxRecDepth 100000 in
set_option maxHeartbeats 4000000 in
theorem apartc_ok (K : Hl.Code) (p q : List Pt) (v v' : Value) (w : World) (hs : Sl w v p) (hs' : Sl w v' q) (hp : Vl p) (hq : Vl q) : Calls Tryz.prog 13 #[v, v'] w (YesNo (¬ ∃ y, BothS p q y) w) := by
  obtain ⟨b, o, c, rfl, hr⟩ := hs.row (fun e => by have := hp.1.1; rw [e] at this; cases this)
  obtain ⟨b', o', c', rfl, hr'⟩ := hs'.row (fun e => by have := hq.1.1; rw [e] at this; cases this)
  have WP := Lib.hid (within_row K (c := c) (c' := c') hr hr' hp hq)
  have WQ := Lib.hid (within_row K (c := c') (c' := c) hr' hr hq hp)
  have XC : Hid (∀ W, Grew w W → Calls Tryz.prog 36 #[.slice (some ⟨b, o, none⟩) p.length c, .slice (some ⟨b', o', none⟩) q.length c'] W (CrossSays p q W)) := Lib.hid (fun W g => crossings_c p q b o c b' o' c' W (hr.grown g) (hr'.grown g) hp hq)
  have PC := Lib.hid (valid_yes K (c := c) hr hp)
  have QC := Lib.hid (valid_yes K (c := c') hr' hq)
  have FIN : Hid (∀ l, CrossL p q l → (((p.filter (hsB q)).length = 0 ∧ (q.filter (hsB p)).length = 0 ∧ l.length = 0) ↔ ¬ ∃ y, BothS p q y)) := Lib.hid (fun l h => by
    rw [len_mem, len_mem, len_mem]
    have hb := both_list h
    constructor
    · rintro ⟨h1, h2, h3⟩ ⟨y, hy⟩
      rcases List.mem_append.1 ((hb y).2 hy) with g | g
      · rcases List.mem_append.1 g with g | g
        · exact h1 ⟨y, g⟩
        · exact h2 ⟨y, g⟩
      · exact h3 ⟨y, g⟩
    · exact fun hn => ⟨fun ⟨y, g⟩ => hn ⟨y, (hb y).1 (List.mem_append.2 (Or.inl (List.mem_append.2 (Or.inl g))))⟩, fun ⟨y, g⟩ => hn ⟨y, (hb y).1 (List.mem_append.2 (Or.inl (List.mem_append.2 (Or.inr g))))⟩, fun ⟨y, g⟩ => hn ⟨y, (hb y).1 (List.mem_append.2 (Or.inr g))⟩⟩)
  have NO : Hid ((p.filter (hsB q)).length ≠ 0 ∨ (q.filter (hsB p)).length ≠ 0 → ∃ y, BothS p q y) := Lib.hid (fun h => by
    have key : ∀ (a c : List Pt), (a.filter (hsB c)).length ≠ 0 → ∃ y, y ∈ a ∧ Hs c y := fun a c h => by
      by_cases g : ∃ y, y ∈ a.filter (hsB c)
      · obtain ⟨y, hy⟩ := g
        exact ⟨y, mem_hsB.1 hy⟩
      · exact absurd (len_mem.2 g) h
    rcases h with h | h
    · obtain ⟨y, h1, h2⟩ := key _ _ h
      obtain ⟨i, hi, e⟩ := mem_at h1
      exact ⟨y, Or.inl ⟨i, hi, e, h2⟩⟩
    · obtain ⟨y, h1, h2⟩ := key _ _ h
      obtain ⟨i, hi, e⟩ := mem_at h1
      exact ⟨y, Or.inr (Or.inl ⟨i, hi, e, h2⟩)⟩)
  clear hs hs' hr hr' hp hq
  generalize p.length = n at *
  generalize q.length = m at *
  have W1 : Hid (∀ W, Grew w W → Calls Tryz.prog 35 #[.slice (some ⟨b, o, none⟩) n c, .slice (some ⟨b', o', none⟩) m c'] W fun e w' => ∃ sa sc, e = .returned (.slice sa (p.filter (hsB q)).length sc) ∧ Grew W w') := Lib.hid (fun W g => (WP.out W g).mono (by
    rintro e w' ⟨v, rfl, h, g⟩
    obtain ⟨sa, sc, rfl⟩ := h.sl.shape
    exact ⟨sa, sc, rfl, g⟩))
  have W2 : Hid (∀ W, Grew w W → Calls Tryz.prog 35 #[.slice (some ⟨b', o', none⟩) m c', .slice (some ⟨b, o, none⟩) n c] W fun e w' => ∃ sa sc, e = .returned (.slice sa (q.filter (hsB p)).length sc) ∧ Grew W w') := Lib.hid (fun W g => (WQ.out W g).mono (by
    rintro e w' ⟨v, rfl, h, g⟩
    obtain ⟨sa, sc, rfl⟩ := h.sl.shape
    exact ⟨sa, sc, rfl, g⟩))
  clear WP WQ
  generalize (p.filter (hsB q)).length = k1 at *
  generalize (q.filter (hsB p)).length = k2 at *
  go_enter Tryz.func13, Tryz.ntmps13
  go_wp2_with fail
  refine (PC.out _ (Grew.refl _)).mono ?_
  rintro e w1 ⟨rfl, g1⟩
  go_wp2_with fail
  refine (QC.out _ g1).mono ?_
  rintro e w2 ⟨rfl, g2⟩
  have G2 : Grew w w2 := Grew.trans g1 g2
  clear g1 g2
  by_cases h1 : k1 = 0
  · subst h1
    go_wp2_with fail
    refine (W1.out _ G2).mono ?_
    rintro e w3 ⟨sa, sc, rfl, g3⟩
    have G3 : Grew w w3 := Grew.trans G2 g3
    clear g3
    by_cases h2 : k2 = 0
    · subst h2
      go_wp2_with fail
      refine (W2.out _ G3).mono ?_
      rintro e w4 ⟨sa2, sc2, rfl, g4⟩
      have G4 : Grew w w4 := Grew.trans G3 g4
      clear g4
      go_wp2_with fail
      refine (XC.out _ G4).mono ?_
      rintro e w5 ⟨v3, l, rfl, hx, o3, g5⟩
      have G5 : Grew w w5 := Grew.trans G4 g5
      have F5 := Lib.hid (FIN.out l hx)
      obtain ⟨sa3, sc3, rfl⟩ := o3.sl.shape
      clear hx o3 g5
      generalize l.length = k3 at *
      by_cases h3 : k3 = 0
      · subst h3
        go_wp2_with fail
        go_ret2
        exact ⟨true, rfl, ⟨fun _ => F5.out.1 (by simp), fun _ => rfl⟩, G5⟩
      · have e3 : ((k3 : Int) == 0) = false := by rw [beq_eq_false_iff_ne]; omega
        have H3 := Lib.hid h3
        clear h3
        go_wp2_with fail
        go_ret2
        exact ⟨false, by first | rfl | (simp [*]; done), ⟨fun h => (by cases h), fun h => absurd (F5.out.2 h).2.2 H3.out⟩, G5⟩
    · have e2 : ((k2 : Int) == 0) = false := by rw [beq_eq_false_iff_ne]; omega
      have H2 := Lib.hid (NO.out (Or.inr h2))
      clear h2
      go_wp2_with fail
      refine (W2.out _ G3).mono ?_
      rintro e w4 ⟨sa2, sc2, rfl, g4⟩
      have G4 : Grew w w4 := Grew.trans G3 g4
      clear g4
      go_wp2_with fail
      go_ret2
      exact ⟨false, by first | rfl | (simp [*]; done), ⟨fun h => (by cases h), fun h => absurd H2.out h⟩, G4⟩
  · have e1 : ((k1 : Int) == 0) = false := by rw [beq_eq_false_iff_ne]; omega
    have H1 := Lib.hid (NO.out (Or.inl h1))
    clear h1
    go_wp2_with fail
    refine (W1.out _ G2).mono ?_
    rintro e w3 ⟨sa, sc, rfl, g3⟩
    have G3 : Grew w w3 := Grew.trans G2 g3
    clear g3
    go_wp2_with fail
    go_ret2
    exact ⟨false, by first | rfl | (simp [*]; done), ⟨fun h => (by cases h), fun h => absurd H1.out h⟩, G3⟩
set_option maxRecDepth 100000 in
set_option maxHeartbeats 4000000 in
theorem apartc_bad (K : Hl.Code) (p q : List Pt) (v v' : Value) (w : World) (hs : Sl w v p) (hs' : Sl w v' q) (hl : p.length ≤ 9223372036854775807) (hl' : q.length ≤ 9223372036854775807) (hb : ¬ (Vl p ∧ Vl q)) : Calls Tryz.prog 13 #[v, v'] w fun e w' => e = .returned (.tuple #[.bool false, .int .i64 1]) ∧ Grew w w' := by
  have PC : Hid (∀ W, Grew w W → Calls Tryz.prog 22 #[v] W fun e w' => ∃ r : Bool, e = .returned (.bool r) ∧ Hid (r = true ↔ Vl p) ∧ Grew W w') := Lib.hid (fun W g => (K.valid p _ W (hs.grown g) hl).mono (by
    rintro e w' ⟨r, rfl, h, g⟩
    exact ⟨r, rfl, Lib.hid h, g⟩))
  have QC : Hid (∀ W, Grew w W → Calls Tryz.prog 22 #[v'] W fun e w' => ∃ r : Bool, e = .returned (.bool r) ∧ Hid (r = true ↔ Vl q) ∧ Grew W w') := Lib.hid (fun W g => (K.valid q _ W (hs'.grown g) hl').mono (by
    rintro e w' ⟨r, rfl, h, g⟩
    exact ⟨r, rfl, Lib.hid h, g⟩))
  have HB := Lib.hid hb
  obtain ⟨sa, sc, rfl⟩ := hs.shape
  obtain ⟨sa', sc', rfl⟩ := hs'.shape

  clear hs hs' hb hl hl'
  go_enter Tryz.func13, Tryz.ntmps13
  go_wp2_with fail
  refine (PC.out _ (Grew.refl _)).mono ?_
  rintro e w1 ⟨r, rfl, hr, g1⟩
  have G1 : Grew w w1 := g1

  cases r
  · clear g1
    go_wp2_with fail
    refine bodyPost_ret (v := .tuple #[.bool false, .int .i64 1]) (by simp [results, Tryz.results13, go_sem, *]) rfl ⟨rfl, (by (repeat' (first | (with_reducible exact Grew.refl _) | (with_reducible assumption) | (with_reducible refine Grew.alloc ?_ _ _) | (with_reducible refine Grew.drew ?_) | (with_reducible refine Grew.drewN ?_ _) | (with_reducible refine Grew.setCell ?_ ?_ _) | go_size)))⟩
  · go_wp2_with fail
    refine (QC.out _ G1).mono ?_
    rintro e w2 ⟨r', rfl, hr', g2⟩
    have G1 : Grew w w2 := Grew.trans G1 g2

    clear g1 g2
    cases r'
    · go_wp2_with fail
      refine bodyPost_ret (v := .tuple #[.bool false, .int .i64 1]) (by simp [results, Tryz.results13, go_sem, *]) rfl ⟨rfl, (by (repeat' (first | (with_reducible exact Grew.refl _) | (with_reducible assumption) | (with_reducible refine Grew.alloc ?_ _ _) | (with_reducible refine Grew.drew ?_) | (with_reducible refine Grew.drewN ?_ _) | (with_reducible refine Grew.setCell ?_ ?_ _) | go_size)))⟩
    · exact absurd ⟨hr.out.1 (by first | rfl | trivial), hr'.out.1 (by first | rfl | trivial)⟩ HB.out
set_option maxRecDepth 100000 in
set_option maxHeartbeats 4000000 in
theorem withinc_ok (K : Hl.Code) (p q : List Pt) (v v' : Value) (w : World) (hs : Sl w v p) (hs' : Sl w v' q) (hp : Vl p) (hq : Vl q) : Calls Tryz.prog 15 #[v, v'] w (YesNo (∀ y, y ∈ p → Hs q y) w) := by
  obtain ⟨b, o, c, rfl, hr⟩ := hs.row (fun e => by have := hp.1.1; rw [e] at this; cases this)
  obtain ⟨b', o', c', rfl, hr'⟩ := hs'.row (fun e => by have := hq.1.1; rw [e] at this; cases this)
  have WP := Lib.hid (within_row K (c := c) (c' := c') hr hr' hp hq)
  have WQ := Lib.hid (within_row K (c := c') (c' := c) hr' hr hq hp)
  have XC : Hid (∀ W, Grew w W → Calls Tryz.prog 36 #[.slice (some ⟨b, o, none⟩) p.length c, .slice (some ⟨b', o', none⟩) q.length c'] W (CrossSays p q W)) := Lib.hid (fun W g => crossings_c p q b o c b' o' c' W (hr.grown g) (hr'.grown g) hp hq)
  have PC := Lib.hid (valid_yes K (c := c) hr hp)
  have QC := Lib.hid (valid_yes K (c := c') hr' hq)
  have W1 : Hid (∀ W, Grew w W → Calls Tryz.prog 35 #[.slice (some ⟨b, o, none⟩) p.length c, .slice (some ⟨b', o', none⟩) q.length c'] W fun e w' => ∃ sa sc, e = .returned (.slice sa (p.filter (hsB q)).length sc) ∧ Grew W w') := Lib.hid (fun W g => (WP.out W g).mono (by
    rintro e w' ⟨v, rfl, h, g⟩
    obtain ⟨sa, sc, rfl⟩ := h.sl.shape
    exact ⟨sa, sc, rfl, g⟩))
  have FIN : Hid ((p.filter (hsB q)).length = p.length ↔ ∀ y, y ∈ p → Hs q y) := Lib.hid (by
    rw [List.length_filter_eq_length_iff]
    unfold hsB
    simp only [decide_eq_true_eq])
  clear hs hs' hr hr' hp hq WP WQ XC
  generalize p.length = n at *
  generalize q.length = m at *
  generalize (p.filter (hsB q)).length = k1 at *
  go_enter Tryz.func15, Tryz.ntmps15
  go_wp2_with fail
  refine (PC.out _ (Grew.refl _)).mono ?_
  rintro e w1 ⟨rfl, g1⟩
  go_wp2_with fail
  refine (QC.out _ g1).mono ?_
  rintro e w2 ⟨rfl, g2⟩
  have G2 : Grew w w2 := Grew.trans g1 g2
  clear g1 g2
  go_wp2_with fail
  refine (W1.out _ G2).mono ?_
  rintro e w3 ⟨sa, sc, rfl, g3⟩
  have G3 : Grew w w3 := Grew.trans G2 g3
  clear g3
  have DE : (((k1 : Int) == (n : Int))) = decide (k1 = n) := by
    rw [Bool.eq_iff_iff, beq_iff_eq, decide_eq_true_eq]; omega
  go_wp2_with fail
  go_ret2
  exact ⟨decide (k1 = n), by first | rfl | (simp [*]; done) | (rw [← DE]; rfl), by rw [decide_eq_true_eq]; exact FIN.out, G3⟩
set_option maxRecDepth 100000 in
set_option maxHeartbeats 4000000 in
theorem withinc_bad (K : Hl.Code) (p q : List Pt) (v v' : Value) (w : World) (hs : Sl w v p) (hs' : Sl w v' q) (hl : p.length ≤ 9223372036854775807) (hl' : q.length ≤ 9223372036854775807) (hb : ¬ (Vl p ∧ Vl q)) : Calls Tryz.prog 15 #[v, v'] w fun e w' => e = .returned (.tuple #[.bool false, .int .i64 1]) ∧ Grew w w' := by
  have PC : Hid (∀ W, Grew w W → Calls Tryz.prog 22 #[v] W fun e w' => ∃ r : Bool, e = .returned (.bool r) ∧ Hid (r = true ↔ Vl p) ∧ Grew W w') := Lib.hid (fun W g => (K.valid p _ W (hs.grown g) hl).mono (by
    rintro e w' ⟨r, rfl, h, g⟩
    exact ⟨r, rfl, Lib.hid h, g⟩))
  have QC : Hid (∀ W, Grew w W → Calls Tryz.prog 22 #[v'] W fun e w' => ∃ r : Bool, e = .returned (.bool r) ∧ Hid (r = true ↔ Vl q) ∧ Grew W w') := Lib.hid (fun W g => (K.valid q _ W (hs'.grown g) hl').mono (by
    rintro e w' ⟨r, rfl, h, g⟩
    exact ⟨r, rfl, Lib.hid h, g⟩))
  have HB := Lib.hid hb
  obtain ⟨sa, sc, rfl⟩ := hs.shape
  obtain ⟨sa', sc', rfl⟩ := hs'.shape

  clear hs hs' hb hl hl'
  go_enter Tryz.func15, Tryz.ntmps15
  go_wp2_with fail
  refine (PC.out _ (Grew.refl _)).mono ?_
  rintro e w1 ⟨r, rfl, hr, g1⟩
  have G1 : Grew w w1 := g1

  cases r
  · clear g1
    go_wp2_with fail
    refine bodyPost_ret (v := .tuple #[.bool false, .int .i64 1]) (by simp [results, Tryz.results15, go_sem, *]) rfl ⟨rfl, (by (repeat' (first | (with_reducible exact Grew.refl _) | (with_reducible assumption) | (with_reducible refine Grew.alloc ?_ _ _) | (with_reducible refine Grew.drew ?_) | (with_reducible refine Grew.drewN ?_ _) | (with_reducible refine Grew.setCell ?_ ?_ _) | go_size)))⟩
  · go_wp2_with fail
    refine (QC.out _ G1).mono ?_
    rintro e w2 ⟨r', rfl, hr', g2⟩
    have G1 : Grew w w2 := Grew.trans G1 g2

    clear g1 g2
    cases r'
    · go_wp2_with fail
      refine bodyPost_ret (v := .tuple #[.bool false, .int .i64 1]) (by simp [results, Tryz.results15, go_sem, *]) rfl ⟨rfl, (by (repeat' (first | (with_reducible exact Grew.refl _) | (with_reducible assumption) | (with_reducible refine Grew.alloc ?_ _ _) | (with_reducible refine Grew.drew ?_) | (with_reducible refine Grew.drewN ?_ _) | (with_reducible refine Grew.setCell ?_ ?_ _) | go_size)))⟩
    · exact absurd ⟨hr.out.1 (by first | rfl | trivial), hr'.out.1 (by first | rfl | trivial)⟩ HB.out
end Ct
end Go.Proofs.YtmijlfbmmegfbaaGreat
namespace Go.Proofs.YtmijlfbmmegfbaaGreat
open Go.RowKit Go.Shelf Hl
namespace Ct
theorem sel_one {p q : List Pt} (h : ∃ z, C1 p q z) (y : Pt) : Sel p q y ↔ C1 p q y := by
  constructor
  · rintro (g | ⟨g, _⟩ | ⟨g, _⟩)
    · exact g
    · exact absurd h g
    · exact absurd h g
  · exact Or.inl
theorem sel_two {p q : List Pt} (h : ¬ ∃ z, C1 p q z) (h2 : ∃ z, C1 q p z) (y : Pt) : Sel p q y ↔ C1 q p y := by
  constructor
  · rintro (g | ⟨_, g⟩ | ⟨_, g, _⟩)
    · exact absurd ⟨y, g⟩ h
    · exact g
    · exact absurd h2 g
  · exact fun g => Or.inr (Or.inl ⟨h, g⟩)
theorem sel_three {p q : List Pt} (h : ¬ ∃ z, C1 p q z) (h2 : ¬ ∃ z, C1 q p z) (y : Pt) : Sel p q y ↔ C3 p q y := by
  constructor
  · rintro (g | ⟨_, g⟩ | ⟨_, _, g⟩)
    · exact absurd ⟨y, g⟩ h
    · exact absurd ⟨y, g⟩ h2
    · exact g
  · exact fun g => Or.inr (Or.inr ⟨h, h2, g⟩)
theorem mem_c1 {p q : List Pt} {y : Pt} : y ∈ p.filter (hsB q) ↔ C1 p q y := mem_hsB
theorem mem_c3 {p q l : List Pt} (h : CrossL p q l) {y : Pt} : y ∈ (l.filter (hsB p)).filter (hsB q) ↔ C3 p q y := by
  rw [mem_hsB, mem_hsB, h.1 y, and_assoc]
  exact Iff.rfl
theorem within_own (K : Hl.Code) (l p : List Pt) (v : Value) (b o c B : Nat) (w : World) (ho : Hl.Own B w v l) (hr : Row w b o p) (hv : Vl p) (hl : l.length ≤ 4000000) (hp : ∀ x, x ∈ l → Plc x) : Calls Tryz.prog 35 #[v, .slice (some ⟨b, o, none⟩) p.length c] w (FilterSays (l.filter (hsB p)) w) :=
  within_c K l p v b o c w hr hv hl hp (fun W g => clone_any l B v W (ho.grew g) hl)
set_option maxRecDepth 100000 in
set_option maxHeartbeats 4000000 in
theorem commonc_ok (K : Hl.Code) (p q : List Pt) (v v' : Value) (w : World) (hs : Sl w v p) (hs' : Sl w v' q) (hp : Vl p) (hq : Vl q) : Calls Tryz.prog 17 #[v, v'] w (CommonSays p q w) := by
  obtain ⟨b, o, c, rfl, hr⟩ := hs.row (fun e => by have := hp.1.1; rw [e] at this; cases this)
  obtain ⟨b', o', c', rfl, hr'⟩ := hs'.row (fun e => by have := hq.1.1; rw [e] at this; cases this)
  have WP := Lib.hid (within_row K (c := c) (c' := c') hr hr' hp hq)
  have WQ := Lib.hid (within_row K (c := c') (c' := c) hr' hr hq hp)
  have XC : Hid (∀ W, Grew w W → Calls Tryz.prog 36 #[.slice (some ⟨b, o, none⟩) p.length c, .slice (some ⟨b', o', none⟩) q.length c'] W (CrossSays p q W)) := Lib.hid (fun W g => crossings_c p q b o c b' o' c' W (hr.grown g) (hr'.grown g) hp hq)
  have PC := Lib.hid (valid_yes K (c := c) hr hp)
  have QC := Lib.hid (valid_yes K (c := c') hr' hq)
  have LC : Hid (∀ l v W (S : Pt → Prop), Sl W v l → l.length ≠ 0 → l.length ≤ 4000000 → (∀ y, Sel p q y ↔ y ∈ l) → Calls Tryz.prog 40 #[v] W fun e w' => ∃ m : Pt, (Sel p q m ∧ ∀ z, Sel p q z → z ≠ m → ls m z) ∧ e = .returned (.agg #[.int .i64 m.1, .int .i64 m.2]) ∧ Grew W w') := Lib.hid (fun l v W _ hs h0 h4 he => by
    obtain ⟨g, off, cap, rfl, hr⟩ := hs.row (fun e => h0 (by rw [e]; rfl))
    refine (least_c l g off cap W hr (by omega) h4).mono ?_
    rintro e w' ⟨m, ⟨h1, h2⟩, rfl, gw⟩
    exact ⟨m, ⟨(he m).2 h1, fun z hz hne => h2 z ((he z).1 hz) hne⟩, rfl, gw⟩)
  have len1 : Hid ((p.filter (hsB q)).length ≤ 64) := Lib.hid (Nat.le_trans (List.length_filter_le _ _) hp.1.2)
  have len2 : Hid ((q.filter (hsB p)).length ≤ 64) := Lib.hid (Nat.le_trans (List.length_filter_le _ _) hq.1.2)
  have len3 : Hid (∀ l, CrossL p q l → l.length ≤ 4000) := Lib.hid (fun l h => by have := h.2; have := hp.1.2; omega)
  have WO1 : Hid (∀ B l v W, Grew w W → CrossL p q l → Hl.Own B W v l → Calls Tryz.prog 35 #[v, .slice (some ⟨b, o, none⟩) p.length c] W (FilterSays (l.filter (hsB p)) W)) := Lib.hid (fun B l v W g h ho => within_own K l p v b o c B W ho (hr.grown g) hp (by have := len3.out l h; omega) (fun x hx => by
    obtain ⟨i, k, ⟨hi, hk⟩, gx⟩ := (h.1 x).1 hx
    exact fr_plc (hq.2.1 k hk) (hq.2.1 _ (Nat.mod_lt _ (by omega))) gx.2))
  have WO2 : Hid (∀ B l v W, Grew w W → CrossL p q l → Hl.Own B W v (l.filter (hsB p)) → Calls Tryz.prog 35 #[v, .slice (some ⟨b', o', none⟩) q.length c'] W (FilterSays ((l.filter (hsB p)).filter (hsB q)) W)) := Lib.hid (fun B l v W g h ho => within_own K _ q v b' o' c' B W ho (hr'.grown g) hq (by have := len3.out l h; have := List.length_filter_le (hsB p) l; omega) (fun x hx => by
    obtain ⟨i, k, ⟨hi, hk⟩, gx⟩ := (h.1 x).1 (List.mem_filter.1 hx).1
    exact fr_plc (hq.2.1 k hk) (hq.2.1 _ (Nat.mod_lt _ (by omega))) gx.2))
  have RB := Lib.hid (Two.new w 0 0 26)
  clear hs hs' hr hr' hp hq
  generalize p.length = n at *
  generalize q.length = m at *
  go_enter Tryz.func17, Tryz.ntmps17
  go_wp2_with fail
  refine (PC.out _ ((Grew.refl _).alloc _ _)).mono ?_
  rintro e w1 ⟨rfl, g1⟩
  have G1 : Grew w w1 := Grew.trans ((Grew.refl _).alloc _ _) g1
  have RB1 := Lib.hid (RB.out.grown g1)
  go_wp2_with fail
  refine (QC.out _ G1).mono ?_
  rintro e w2 ⟨rfl, g2⟩
  have G2 : Grew w w2 := Grew.trans G1 g2
  have RB2 := Lib.hid (RB1.out.grown g2)
  clear g1 g2 RB RB1 G1
  go_wp2_with fail
  refine (WP.out _ G2).mono ?_
  rintro e w3 ⟨v1, rfl, o1, g3⟩
  have G3 : Grew w w3 := Grew.trans G2 g3
  have RB3 := Lib.hid (RB2.out.grown g3)
  obtain ⟨sa1, sc1, rfl⟩ := o1.sl.shape
  have S1 := Lib.hid o1.sl
  clear o1 g3 G2 RB2
  by_cases h1 : (p.filter (hsB q)).length = 0
  · have N1 := Lib.hid (len_mem.1 h1)
    rw [h1] at S1 ⊢
    clear h1
    go_wp2_with fail
    refine (WQ.out _ G3).mono ?_
    rintro e w4 ⟨v2, rfl, o2, g4⟩
    have G4 : Grew w w4 := Grew.trans G3 g4
    have RB4 := Lib.hid (RB3.out.grown g4)
    obtain ⟨sa2, sc2, rfl⟩ := o2.sl.shape
    have S2 := Lib.hid o2.sl
    clear o2 g4 G3 RB3 S1
    by_cases h2 : (q.filter (hsB p)).length = 0
    · have N2 := Lib.hid (len_mem.1 h2)
      rw [h2] at S2 ⊢
      clear h2
      go_wp2_with fail
      refine (XC.out _ G4).mono ?_
      rintro e w5 ⟨v3, l, rfl, hx, o3, g5⟩
      have G5 : Grew w w5 := Grew.trans G4 g5
      have RB5 := Lib.hid (RB4.out.grown g5)
      have HX := Lib.hid hx
      have W6 := Lib.hid (WO1.out _ l v3 w5 G5 hx o3)
      obtain ⟨sa3, sc3, rfl⟩ := o3.sl.shape
      clear o3 g5 hx G4 RB4 S2
      go_wp2_with fail
      refine W6.out.mono ?_
      rintro e w6 ⟨v4, rfl, o4, g6⟩
      have G6 : Grew w w6 := Grew.trans G5 g6
      have RB6 := Lib.hid (RB5.out.grown g6)
      have W7 := Lib.hid (WO2.out _ l v4 w6 G6 HX.out o4)
      obtain ⟨sa4, sc4, rfl⟩ := o4.sl.shape
      clear o4 g6 G5 RB5 W6
      go_wp2_with fail
      refine W7.out.mono ?_
      rintro e w7 ⟨v5, rfl, o5, g7⟩
      have G7 : Grew w w7 := Grew.trans G6 g7
      have RB7 := Lib.hid (RB6.out.grown g7)
      have S5 := Lib.hid o5.sl
      obtain ⟨sa5, sc5, rfl⟩ := o5.sl.shape
      have SEL : Hid (∀ y, Sel p q y ↔ y ∈ (l.filter (hsB p)).filter (hsB q)) := Lib.hid (fun y => (sel_three (fun ⟨z, hz⟩ => N1.out ⟨z, mem_c1.2 hz⟩) (fun ⟨z, hz⟩ => N2.out ⟨z, mem_c1.2 hz⟩) y).trans (mem_c3 HX.out).symm)
      have L5 : Hid (((l.filter (hsB p)).filter (hsB q)).length ≤ 4000000) := Lib.hid (by
        have := len3.out l HX.out
        have := List.length_filter_le (hsB p) l
        have := List.length_filter_le (hsB q) (l.filter (hsB p))
        omega)
      clear o5 g7 G6 RB6 W7
      by_cases h3 : ((l.filter (hsB p)).filter (hsB q)).length = 0
      · have N3 := Lib.hid (len_mem.1 h3)
        rw [h3] at S5 ⊢
        clear h3
        obtain ⟨⟨t0, t1, t2⟩, t3, t4⟩ := RB7.out
        go_wp2_with fail
        refine bodyPost_ret (v := .tuple #[.agg #[.int .i64 0, .int .i64 0], .bool false, .int .i64 0]) (by simp [results, Tryz.results17, go_sem, *]) rfl (Or.inr ⟨fun ⟨z, hz⟩ => N3.out ⟨z, (SEL.out z).1 hz⟩, rfl, (by (repeat' (first | (with_reducible exact Grew.refl _) | (with_reducible assumption) | (with_reducible refine Grew.alloc ?_ _ _) | (with_reducible refine Grew.drew ?_) | (with_reducible refine Grew.drewN ?_ _) | (with_reducible refine Grew.setCell ?_ ?_ _) | go_size)))⟩)
      · have LE := Lib.hid (LC.out _ _ w7 (fun _ => True) S5.out h3 L5.out SEL.out)
        have e3 : ((((l.filter (hsB p)).filter (hsB q)).length : Int) == 0) = false := by rw [beq_eq_false_iff_ne]; omega
        clear S5 SEL h3
        generalize ((l.filter (hsB p)).filter (hsB q)).length = k3 at *
        go_wp2_with fail
        refine LE.out.mono ?_
        rintro e w8 ⟨mm, hm, rfl, g8⟩
        have G8 : Grew w w8 := Grew.trans G7 g8
        obtain ⟨⟨t0, t1, t2⟩, t3, t4⟩ := RB7.out.grown g8
        have HM := Lib.hid hm
        clear g8 hm
        go_wp2_with fail
        refine bodyPost_ret (v := .tuple #[.agg #[.int .i64 mm.1, .int .i64 mm.2], .bool true, .int .i64 0]) (by simp [results, Tryz.results17, go_sem, *]) rfl (Or.inl ⟨mm, HM.out, rfl, (by (repeat' (first | (with_reducible exact Grew.refl _) | (with_reducible assumption) | (with_reducible refine Grew.alloc ?_ _ _) | (with_reducible refine Grew.drew ?_) | (with_reducible refine Grew.drewN ?_ _) | (with_reducible refine Grew.setCell ?_ ?_ _) | go_size)))⟩)
    · have LE := Lib.hid (LC.out _ _ w4 (fun _ => True) S2.out h2 (by have := len2.out; omega) (fun y => (sel_two (fun ⟨z, hz⟩ => N1.out ⟨z, mem_c1.2 hz⟩) (by
        by_cases g : ∃ z, C1 q p z
        · exact g
        · exact absurd (len_mem.2 (fun ⟨z, hz⟩ => g ⟨z, mem_c1.1 hz⟩)) h2) y).trans mem_c1.symm))
      have e2 : (((q.filter (hsB p)).length : Int) == 0) = false := by rw [beq_eq_false_iff_ne]; omega
      clear S2 h2 XC WO1 WO2 WP WQ
      generalize (q.filter (hsB p)).length = k2 at *
      go_wp2_with fail
      refine LE.out.mono ?_
      rintro e w8 ⟨mm, hm, rfl, g8⟩
      have G8 : Grew w w8 := Grew.trans G4 g8
      obtain ⟨⟨t0, t1, t2⟩, t3, t4⟩ := RB4.out.grown g8
      have HM := Lib.hid hm
      clear g8 hm
      go_wp2_with fail
      refine bodyPost_ret (v := .tuple #[.agg #[.int .i64 mm.1, .int .i64 mm.2], .bool true, .int .i64 0]) (by simp [results, Tryz.results17, go_sem, *]) rfl (Or.inl ⟨mm, HM.out, rfl, (by (repeat' (first | (with_reducible exact Grew.refl _) | (with_reducible assumption) | (with_reducible refine Grew.alloc ?_ _ _) | (with_reducible refine Grew.drew ?_) | (with_reducible refine Grew.drewN ?_ _) | (with_reducible refine Grew.setCell ?_ ?_ _) | go_size)))⟩)
  · have LE := Lib.hid (LC.out _ _ w3 (fun _ => True) S1.out h1 (by have := len1.out; omega) (fun y => (sel_one (by
      by_cases g : ∃ z, C1 p q z
      · exact g
      · exact absurd (len_mem.2 (fun ⟨z, hz⟩ => g ⟨z, mem_c1.1 hz⟩)) h1) y).trans mem_c1.symm))
    have e1 : (((p.filter (hsB q)).length : Int) == 0) = false := by rw [beq_eq_false_iff_ne]; omega
    clear S1 h1 XC WO1 WO2 WP WQ
    generalize (p.filter (hsB q)).length = k1 at *
    go_wp2_with fail
    refine LE.out.mono ?_
    rintro e w8 ⟨mm, hm, rfl, g8⟩
    have G8 : Grew w w8 := Grew.trans G3 g8
    obtain ⟨⟨t0, t1, t2⟩, t3, t4⟩ := RB3.out.grown g8
    have HM := Lib.hid hm
    clear g8 hm
    go_wp2_with fail
    refine bodyPost_ret (v := .tuple #[.agg #[.int .i64 mm.1, .int .i64 mm.2], .bool true, .int .i64 0]) (by simp [results, Tryz.results17, go_sem, *]) rfl (Or.inl ⟨mm, HM.out, rfl, (by (repeat' (first | (with_reducible exact Grew.refl _) | (with_reducible assumption) | (with_reducible refine Grew.alloc ?_ _ _) | (with_reducible refine Grew.drew ?_) | (with_reducible refine Grew.drewN ?_ _) | (with_reducible refine Grew.setCell ?_ ?_ _) | go_size)))⟩)
set_option maxRecDepth 100000 in
set_option maxHeartbeats 4000000 in
theorem commonc_bad (K : Hl.Code) (p q : List Pt) (v v' : Value) (w : World) (hs : Sl w v p) (hs' : Sl w v' q) (hl : p.length ≤ 9223372036854775807) (hl' : q.length ≤ 9223372036854775807) (hb : ¬ (Vl p ∧ Vl q)) : Calls Tryz.prog 17 #[v, v'] w fun e w' => e = .returned (.tuple #[.agg #[.int .i64 0, .int .i64 0], .bool false, .int .i64 1]) ∧ Grew w w' := by
  have PC : Hid (∀ W, Grew w W → Calls Tryz.prog 22 #[v] W fun e w' => ∃ r : Bool, e = .returned (.bool r) ∧ Hid (r = true ↔ Vl p) ∧ Grew W w') := Lib.hid (fun W g => (K.valid p _ W (hs.grown g) hl).mono (by
    rintro e w' ⟨r, rfl, h, g⟩
    exact ⟨r, rfl, Lib.hid h, g⟩))
  have QC : Hid (∀ W, Grew w W → Calls Tryz.prog 22 #[v'] W fun e w' => ∃ r : Bool, e = .returned (.bool r) ∧ Hid (r = true ↔ Vl q) ∧ Grew W w') := Lib.hid (fun W g => (K.valid q _ W (hs'.grown g) hl').mono (by
    rintro e w' ⟨r, rfl, h, g⟩
    exact ⟨r, rfl, Lib.hid h, g⟩))
  have HB := Lib.hid hb
  obtain ⟨sa, sc, rfl⟩ := hs.shape
  obtain ⟨sa', sc', rfl⟩ := hs'.shape
  have RB := Lib.hid (Two.new w 0 0 26)
  clear hs hs' hb hl hl'
  go_enter Tryz.func17, Tryz.ntmps17
  go_wp2_with fail
  refine (PC.out _ ((Grew.refl _).alloc _ _)).mono ?_
  rintro e w1 ⟨r, rfl, hr, g1⟩
  have G1 : Grew w w1 := Grew.trans ((Grew.refl _).alloc _ _) g1
  obtain ⟨⟨t0, t1, t2⟩, t3, t4⟩ := RB.out.grown g1
  cases r
  · clear g1
    go_wp2_with fail
    refine bodyPost_ret (v := .tuple #[.agg #[.int .i64 0, .int .i64 0], .bool false, .int .i64 1]) (by simp [results, Tryz.results17, go_sem, *]) rfl ⟨rfl, (by (repeat' (first | (with_reducible exact Grew.refl _) | (with_reducible assumption) | (with_reducible refine Grew.alloc ?_ _ _) | (with_reducible refine Grew.drew ?_) | (with_reducible refine Grew.drewN ?_ _) | (with_reducible refine Grew.setCell ?_ ?_ _) | go_size)))⟩
  · go_wp2_with fail
    refine (QC.out _ G1).mono ?_
    rintro e w2 ⟨r', rfl, hr', g2⟩
    have G1 : Grew w w2 := Grew.trans G1 g2
    obtain ⟨⟨t0, t1, t2⟩, t3, t4⟩ := RB.out.grown (Grew.trans g1 g2)
    clear g1 g2
    cases r'
    · go_wp2_with fail
      refine bodyPost_ret (v := .tuple #[.agg #[.int .i64 0, .int .i64 0], .bool false, .int .i64 1]) (by simp [results, Tryz.results17, go_sem, *]) rfl ⟨rfl, (by (repeat' (first | (with_reducible exact Grew.refl _) | (with_reducible assumption) | (with_reducible refine Grew.alloc ?_ _ _) | (with_reducible refine Grew.drew ?_) | (with_reducible refine Grew.drewN ?_ _) | (with_reducible refine Grew.setCell ?_ ?_ _) | go_size)))⟩
    · exact absurd ⟨hr.out.1 (by first | rfl | trivial), hr'.out.1 (by first | rfl | trivial)⟩ HB.out
theorem landed : Code where
  in_ok := inc_ok Hl.landed
  in_bad := inc_bad Hl.landed
  cut_ok := cutc_ok Hl.landed
  cut_bad := cutc_bad Hl.landed
  meet_ok := meetc_ok Hl.landed
  meet_bad := meetc_bad Hl.landed
  apart_ok := apartc_ok Hl.landed
  apart_bad := apartc_bad Hl.landed
  within_ok := withinc_ok Hl.landed
  within_bad := withinc_bad Hl.landed
  common_ok := commonc_ok Hl.landed
  common_bad := commonc_bad Hl.landed
end Ct
end Go.Proofs.YtmijlfbmmegfbaaGreat
