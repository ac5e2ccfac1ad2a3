/-
  Lists of polygons, without a program: what half-planes leave, what two have in common, what is left without a rectangle, sums, boxes.
-/
import Derived.Test.YtlookcbokhknfaaGreatMinkPl
import Derived.Test.YtlookcbokhknfaaGreatHullWrap
namespace Go.Proofs.YtlookcbokhknfaaGreat
open Go.RowKit Hl
namespace Rg
open Ct (Hf ov LeftS BothS Poly WF)
/-- One polygon, or none. -/
def PolR (S : Pt → Prop) (r : Rgn) : Prop := (∃ q, Poly S q ∧ r = [q]) ∨ ((¬ ∃ y, S y) ∧ r = [])
theorem PolR.one {S : Pt → Prop} {r r' : Rgn} (h : PolR S r) (h' : PolR S r') : r = r' := by
  rcases h with ⟨q, hq, rfl⟩ | ⟨n, rfl⟩ <;> rcases h' with ⟨q', hq', rfl⟩ | ⟨n', rfl⟩
  · rw [Ct.poly_one hq hq']
  · exact absurd hq.some n'
  · exact absurd hq'.some n
  · rfl
theorem PolR.len {S : Pt → Prop} {r : Rgn} (h : PolR S r) : r.length ≤ 1 := by
  rcases h with ⟨q, _, rfl⟩ | ⟨_, rfl⟩ <;> simp
theorem PolR.has {S : Pt → Prop} {r : Rgn} (h : PolR S r) (hS : ∀ y, S y → Plc y) {x : Pt} (hx : ∀ u v k : Int, ∃ y, S y ∧ af u v k y ≤ af u v k x) : ∃ q, q ∈ r ∧ Hs q x := by
  rcases h with ⟨q, hq, rfl⟩ | ⟨n, rfl⟩
  · exact ⟨q, by simp, hq.has hS hx⟩
  · obtain ⟨y, hy, _⟩ := hx 0 0 0
    exact absurd ⟨y, hy⟩ n
theorem PolR.vl {S : Pt → Prop} {r : Rgn} (h : PolR S r) (hS : ∀ y, S y → Plc y) : AllV r := by
  rcases h with ⟨q, hq, rfl⟩ | ⟨n, rfl⟩
  · intro p hp
    rw [List.mem_singleton.1 hp]
    exact hq.vl hS
  · intro p hp
    cases hp
def CutC (L : Rgn) (h : Hf) (out : Rgn) : Prop := Col (fun i => PolR (LeftS (nth L i) h)) L.length out
def MetC (a b : Rgn) (out : Rgn) : Prop := Col (fun i => Col (fun k => PolR (BothS (nth a i) (nth b k))) b.length) a.length out
def PieC (p : List Pt) (lo hi : Pt) (out : Rgn) : Prop := ∃ a b m l c d, CutC [p] (1, 0, lo.1 - 1) a ∧ CutC [p] (-1, 0, -hi.1 - 1) b ∧ CutC [p] (-1, 0, -lo.1) m ∧ CutC m (1, 0, hi.1) l ∧ CutC l (0, 1, lo.2 - 1) c ∧ CutC l (0, -1, -hi.2 - 1) d ∧ out = a ++ b ++ c ++ d
def OutC (L : Rgn) (lo hi : Pt) (out : Rgn) : Prop := Col (fun i => PieC (nth L i) lo hi) L.length out
def SumC (L : Rgn) (p : List Pt) (n : Nat) (out : Rgn) : Prop := Col (fun i r => ∃ s, Mk.SumIs (nth L i) p 0 s ∧ r = [s]) n out
theorem CutC.one {L : Rgn} {h : Hf} {a b : Rgn} (g : CutC L h a) (k : CutC L h b) : a = b := Col.one (P := fun i => PolR (LeftS (nth L i) h)) (fun _ _ _ => PolR.one) g k
theorem MetC.one {L M : Rgn} {a b : Rgn} (g : MetC L M a) (k : MetC L M b) : a = b := Col.one (P := fun i => Col (fun k => PolR (BothS (nth L i) (nth M k))) M.length) (fun i _ _ => Col.one (P := fun k => PolR (BothS (nth L i) (nth M k))) (fun _ _ _ => PolR.one)) g k
theorem PieC.one {p : List Pt} {lo hi : Pt} {r r' : Rgn} (g : PieC p lo hi r) (k : PieC p lo hi r') : r = r' := by
  obtain ⟨a, b, m, l, c, d, h1, h2, h3, h4, h5, h6, rfl⟩ := g
  obtain ⟨a', b', m', l', c', d', k1, k2, k3, k4, k5, k6, rfl⟩ := k
  obtain rfl := h1.one k1
  obtain rfl := h2.one k2
  obtain rfl := h3.one k3
  obtain rfl := h4.one k4
  obtain rfl := h5.one k5
  obtain rfl := h6.one k6
  rfl
theorem OutC.one {L : Rgn} {lo hi : Pt} {a b : Rgn} (g : OutC L lo hi a) (k : OutC L lo hi b) : a = b := Col.one (P := fun i => PieC (nth L i) lo hi) (fun _ _ _ => PieC.one) g k
theorem SumC.one {L : Rgn} {p : List Pt} {n : Nat} {a b : Rgn} (g : SumC L p n a) (k : SumC L p n b) : a = b := Col.one (fun _ r r' h h' => by
  obtain ⟨s, hs, rfl⟩ := h
  obtain ⟨s', hs', rfl⟩ := h'
  rw [(hs.one hs').2]) g k
theorem cut_vl {L : Rgn} {h : Hf} {out : Rgn} (hL : AllV L) (g : CutC L h out) : AllV out := by
  intro p hp
  obtain ⟨i, r, hi, hr, hp⟩ := Col.mem g hp
  exact hr.vl (fun y hy => Ct.left_plc2 (hL _ (nth_mem hi)).2.1 hy) p hp
theorem cut_has {L : Rgn} {h : Hf} {out : Rgn} (hL : AllV L) (g : CutC L h out) {x : Pt} (hx : InR L x) (ho : ov h x ≤ 0) : InR out x := by
  obtain ⟨p, hp, hx⟩ := hx
  obtain ⟨i, hi, rfl⟩ := mem_nth hp
  have v := hL _ (nth_mem hi)
  obtain ⟨r, hr, hin⟩ := Col.has g hi
  obtain ⟨q, hq, hqx⟩ := hr.has (fun y hy => Ct.left_plc2 v.2.1 hy) (x := x) (fun a b k => Ct.clip_least v.pg hx ho a b k)
  exact ⟨q, hin q hq, hqx⟩
theorem cut_len {L : Rgn} {h : Hf} {out : Rgn} (g : CutC L h out) : out.length ≤ L.length := by
  have := Col.len (c := 1) (fun _ _ => PolR.len) g
  omega
theorem met_vl {a b out : Rgn} (ha : AllV a) (hb : AllV b) (g : MetC a b out) : AllV out := by
  intro p hp
  obtain ⟨i, r, hi, hr, hp⟩ := Col.mem g hp
  obtain ⟨k, s, hk, hs, hp⟩ := Col.mem hr hp
  exact hs.vl (fun y hy => Ct.both_plc (ha _ (nth_mem hi)).2.1 (hb _ (nth_mem hk)).2.1 hy) p hp
theorem met_has {a b out : Rgn} (ha : AllV a) (hb : AllV b) (g : MetC a b out) {x : Pt} (h1 : InR a x) (h2 : InR b x) : InR out x := by
  obtain ⟨p, hp, hx⟩ := h1
  obtain ⟨i, hi, rfl⟩ := mem_nth hp
  obtain ⟨q, hq, hy⟩ := h2
  obtain ⟨k, hk, rfl⟩ := mem_nth hq
  obtain ⟨r, hr, hin⟩ := Col.has g hi
  obtain ⟨s, hs, hin2⟩ := Col.has hr hk
  have v := ha _ (nth_mem hi)
  have u := hb _ (nth_mem hk)
  obtain ⟨t, ht, htx⟩ := hs.has (fun y hy => Ct.both_plc v.2.1 u.2.1 hy) (x := x) (fun a b k => Ct.both_least v.pg u.pg hx hy a b k)
  exact ⟨t, hin t (hin2 t ht), htx⟩
theorem met_some {a b out : Rgn} (g : MetC a b out) : out ≠ [] ↔ ∃ i k y, i < a.length ∧ k < b.length ∧ BothS (nth a i) (nth b k) y := by
  constructor
  · intro h
    match out, h with
    | p :: out, _ =>
      obtain ⟨i, r, hi, hr, hp⟩ := Col.mem g (show p ∈ p :: out by simp)
      obtain ⟨k, s, hk, hs, hp⟩ := Col.mem hr hp
      rcases hs with ⟨q, hq, rfl⟩ | ⟨_, rfl⟩
      · obtain ⟨y, hy⟩ := hq.some
        exact ⟨i, k, y, hi, hk, hy⟩
      · cases hp
  · rintro ⟨i, k, y, hi, hk, hy⟩ e
    obtain ⟨r, hr, hin⟩ := Col.has g hi
    obtain ⟨s, hs, hin2⟩ := Col.has hr hk
    rcases hs with ⟨q, hq, rfl⟩ | ⟨n, _⟩
    · have := hin q (hin2 q (by simp))
      rw [e] at this
      cases this
    · exact n ⟨y, hy⟩
theorem met_nil {a b o o' : Rgn} (g : MetC a b o) (k : MetC b a o') : o = [] ↔ o' = [] := by
  have e : o ≠ [] ↔ o' ≠ [] := by
    rw [met_some g, met_some k]
    constructor
    · rintro ⟨i, k, y, hi, hk, hy⟩
      exact ⟨k, i, y, hk, hi, hy.swap⟩
    · rintro ⟨i, k, y, hi, hk, hy⟩
      exact ⟨k, i, y, hk, hi, hy.swap⟩
  by_cases h : o = [] <;> by_cases h' : o' = [] <;> simp_all
theorem sum_vl {L : Rgn} {p : List Pt} {n : Nat} {out : Rgn} (hn : n ≤ L.length) (hL : AllV L) (hp : Vl p) (g : SumC L p n out) : AllV out := by
  intro q hq
  obtain ⟨i, r, hi, ⟨s, hs, rfl⟩, hq⟩ := Col.mem g hq
  rw [List.mem_singleton.1 hq]
  exact (Mk.sums_law (hL _ (nth_mem (by omega))) hp hs).1
theorem sum_has {L : Rgn} {p : List Pt} {out : Rgn} (hL : AllV L) (hp : Vl p) (g : SumC L p L.length out) {x y : Pt} (hx : InR L x) (hy : Hs p y) : InR out (Mk.plus x y) := by
  obtain ⟨q, hq, hx⟩ := hx
  obtain ⟨i, hi, rfl⟩ := mem_nth hq
  obtain ⟨r, ⟨s, hs, rfl⟩, hin⟩ := Col.has g hi
  exact ⟨s, hin s (by simp), (Mk.sums_law (hL _ (nth_mem hi)) hp hs).2 x y hx hy⟩
theorem inR_plc {L : Rgn} (hL : AllV L) {x : Pt} (hx : InR L x) : Plc x := by
  obtain ⟨p, hp, hx⟩ := hx
  exact Mk.has_plc (hL p hp).pg (hL p hp).2.1 hx

/-! ### Rectangles -/
def Bx (a b c d : Int) (x : Pt) : Prop := (a ≤ x.1 ∧ x.1 ≤ b) ∧ c ≤ x.2 ∧ x.2 ≤ d
def axis (h : Hf) : Prop := ((h.1 = 1 ∨ h.1 = -1) ∧ h.2.1 = 0) ∨ (h.1 = 0 ∧ (h.2.1 = 1 ∨ h.2.1 = -1))
theorem box_some {p : List Pt} (h : 1 ≤ p.length) : ∃ lo hi, IsBox p lo hi := by
  have a := bounds_min (p := p) (u := 1) (v := 0) h
  have b := bounds_min (p := p) (u := 0) (v := 1) h
  exact ⟨(_, _), (_, _), a.1, a.2, b.1, b.2⟩
theorem left_bx {p : List Pt} (hp : Pg p) {a b c d : Int} (hb : ∀ y, y ∈ p → Bx a b c d y) {h : Hf} {y : Pt} (hy : LeftS p h y) : Bx a b c d y := by
  obtain ⟨lo, hi, B⟩ := box_some hp.1
  have t := Ct.left_box hp B hy
  obtain ⟨⟨y1, g1, e1⟩, _⟩ := B.1
  obtain ⟨⟨y2, g2, e2⟩, _⟩ := B.2.1
  obtain ⟨⟨y3, g3, e3⟩, _⟩ := B.2.2.1
  obtain ⟨⟨y4, g4, e4⟩, _⟩ := B.2.2.2
  have b1 := hb _ g1
  have b2 := hb _ g2
  have b3 := hb _ g3
  have b4 := hb _ g4
  unfold Bx at *
  omega
theorem near_eq {W y c : Int} (hW : 0 < W) (h1 : -W < y * W - c * W) (h2 : y * W - c * W < W) : y = c := by
  have e : y * W - c * W = (y - c) * W := by grind
  rw [e] at h1 h2
  have a : y - c < 1 := Int.lt_of_mul_lt_mul_right (a := W) (by rw [Int.one_mul]; exact h2) (by omega)
  have b : -1 < y - c := Int.lt_of_mul_lt_mul_right (a := W) (by rw [Int.neg_mul, Int.one_mul]; exact h1) (by omega)
  omega
theorem left_axis {p : List Pt} {h : Hf} (hx : axis h) {y : Pt} (hy : LeftS p h y) : ov h y ≤ 0 := by
  rcases hy with ⟨i, hi, rfl, g⟩ | ⟨i, hi, m, n, ⟨hm, hn, hw⟩, ⟨d1, d2⟩, d3, d4⟩
  · exact g
  · generalize at' p i = a at *
    generalize at' p ((i + 1) % p.length) = b at *
    have z : m * ov h a + n * ov h b = 0 := by
      rcases hw with ⟨e1, e2⟩ | ⟨e1, e2⟩ <;> (rw [e1, e2]; grind)
    rcases h with ⟨s, t, c⟩
    unfold ov at *
    unfold axis at hx
    simp only at *
    rcases hx with ⟨e | e, f⟩ | ⟨f, e | e⟩
    · subst e f
      have k : m * a.1 + n * b.1 = c * (m + n) := by grind
      rw [k] at d1 d2
      have := near_eq (by omega) d1 d2
      omega
    · subst e f
      have k : m * a.1 + n * b.1 = -c * (m + n) := by grind
      rw [k] at d1 d2
      have := near_eq (by omega) d1 d2
      omega
    · subst e f
      have k : m * a.2 + n * b.2 = c * (m + n) := by grind
      rw [k] at d3 d4
      have := near_eq (by omega) d3 d4
      omega
    · subst e f
      have k : m * a.2 + n * b.2 = -c * (m + n) := by grind
      rw [k] at d3 d4
      have := near_eq (by omega) d3 d4
      omega
/-- The corners of all polygons are in a rectangle. -/
def InBx (L : Rgn) (a b c d : Int) : Prop := ∀ p, p ∈ L → ∀ y, y ∈ p → Bx a b c d y
theorem inBx_has {L : Rgn} (hL : AllV L) {a b c d : Int} (h : InBx L a b c d) {x : Pt} (hx : InR L x) : Bx a b c d x := by
  obtain ⟨p, hp, hx⟩ := hx
  have hg := (hL p hp).pg
  have k := h p hp
  obtain ⟨j1, l1, g1⟩ := hs_least hg hx 1 0 0
  obtain ⟨j2, l2, g2⟩ := hs_least hg hx (-1) 0 0
  obtain ⟨j3, l3, g3⟩ := hs_least hg hx 0 1 0
  obtain ⟨j4, l4, g4⟩ := hs_least hg hx 0 (-1) 0
  have b1 := k _ (at_mem l1)
  have b2 := k _ (at_mem l2)
  have b3 := k _ (at_mem l3)
  have b4 := k _ (at_mem l4)
  unfold af at g1 g2 g3 g4
  unfold Bx at *
  omega
/-- What an axis-parallel half-plane leaves is in it, and in the rectangle. -/
theorem cut_bx {L : Rgn} (hL : AllV L) {a b c d : Int} (hb : InBx L a b c d) {h : Hf} (hx : axis h) {out : Rgn} (g : CutC L h out) : ∀ p, p ∈ out → ∀ y, y ∈ p → Bx a b c d y ∧ ov h y ≤ 0 := by
  intro p hp y hy
  obtain ⟨i, r, hi, hr, hp⟩ := Col.mem g hp
  have v := hL _ (nth_mem hi)
  have k := hb _ (nth_mem hi)
  rcases hr with ⟨q, hq, rfl⟩ | ⟨_, rfl⟩
  · rw [List.mem_singleton.1 hp] at hy
    have pl : ∀ y, LeftS (nth L i) h y → Plc y := fun y hy => Ct.left_plc2 v.2.1 hy
    have t : Bx a b c d y := hq.within pl (fun y hy => left_bx v.pg k hy) y hy
    refine ⟨t, ?_⟩
    have ax : ∀ y, LeftS (nth L i) h y → ov h y ≤ 0 := fun y hy => left_axis hx hy
    rcases h with ⟨s, u, e⟩
    unfold axis at hx
    unfold ov at *
    simp only at *
    rcases hx with ⟨f | f, f'⟩ | ⟨f, f' | f'⟩ <;> subst f f'
    · have := hq.within pl (a := a) (b := e) (c := c) (d := d) (fun y hy => by have := ax y hy; have := left_bx v.pg k hy; unfold Bx at this; omega) y hy
      omega
    · have := hq.within pl (a := -e) (b := b) (c := c) (d := d) (fun y hy => by have := ax y hy; have := left_bx v.pg k hy; unfold Bx at this; omega) y hy
      omega
    · have := hq.within pl (a := a) (b := b) (c := c) (d := e) (fun y hy => by have := ax y hy; have := left_bx v.pg k hy; unfold Bx at this; omega) y hy
      omega
    · have := hq.within pl (a := a) (b := b) (c := -e) (d := d) (fun y hy => by have := ax y hy; have := left_bx v.pg k hy; unfold Bx at this; omega) y hy
      omega
  · cases hp
theorem one_in {p : List Pt} (hp : Vl p) : AllV [p] := fun q hq => by rw [List.mem_singleton.1 hq]; exact hp
theorem pie_vl {p : List Pt} {lo hi : Pt} {out : Rgn} (hp : Vl p) (g : PieC p lo hi out) : AllV out := by
  obtain ⟨a, b, m, l, c, d, h1, h2, h3, h4, h5, h6, rfl⟩ := g
  have o := one_in hp
  have vl := cut_vl (cut_vl o h3) h4
  intro q hq
  rcases List.mem_append.1 hq with hq | hq
  · rcases List.mem_append.1 hq with hq | hq
    · rcases List.mem_append.1 hq with hq | hq
      · exact cut_vl o h1 q hq
      · exact cut_vl o h2 q hq
    · exact cut_vl vl h5 q hq
  · exact cut_vl vl h6 q hq
theorem inR_app {A B : Rgn} {x : Pt} : InR (A ++ B) x ↔ InR A x ∨ InR B x := by
  unfold InR
  constructor
  · rintro ⟨p, hp, h⟩
    rcases List.mem_append.1 hp with hp | hp
    · exact Or.inl ⟨p, hp, h⟩
    · exact Or.inr ⟨p, hp, h⟩
  · rintro (⟨p, hp, h⟩ | ⟨p, hp, h⟩)
    · exact ⟨p, List.mem_append_left _ hp, h⟩
    · exact ⟨p, List.mem_append_right _ hp, h⟩
theorem pie_has {p : List Pt} {lo hi : Pt} {out : Rgn} (hp : Vl p) (g : PieC p lo hi out) {x : Pt} (hx : Hs p x) (ho : ¬ Bx lo.1 hi.1 lo.2 hi.2 x) : InR out x := by
  obtain ⟨a, b, m, l, c, d, h1, h2, h3, h4, h5, h6, rfl⟩ := g
  have o := one_in hp
  have i : InR [p] x := ⟨p, by simp, hx⟩
  have vm := cut_vl o h3
  have vl := cut_vl vm h4
  rw [inR_app, inR_app, inR_app]
  unfold Bx at ho
  by_cases c1 : x.1 ≤ lo.1 - 1
  · exact Or.inl (Or.inl (Or.inl (cut_has o h1 i (by unfold ov; simp only; omega))))
  by_cases c2 : hi.1 + 1 ≤ x.1
  · exact Or.inl (Or.inl (Or.inr (cut_has o h2 i (by unfold ov; simp only; omega))))
  have im : InR m x := cut_has o h3 i (by unfold ov; simp only; omega)
  have il : InR l x := cut_has vm h4 im (by unfold ov; simp only; omega)
  by_cases c3 : x.2 ≤ lo.2 - 1
  · exact Or.inl (Or.inr (cut_has vl h5 il (by unfold ov; simp only; omega)))
  · exact Or.inr (cut_has vl h6 il (by unfold ov; simp only; omega))
theorem pie_len {p : List Pt} {lo hi : Pt} {out : Rgn} (g : PieC p lo hi out) : out.length ≤ 4 := by
  obtain ⟨a, b, m, l, c, d, h1, h2, h3, h4, h5, h6, rfl⟩ := g
  have := cut_len h1
  have := cut_len h2
  have := cut_len h3
  have := cut_len h4
  have := cut_len h5
  have := cut_len h6
  simp only [List.length_append, List.length_singleton] at *
  omega
theorem pie_only {p : List Pt} {lo hi : Pt} {out : Rgn} (hp : Vl p) {a b c d : Int} (hb : ∀ y, y ∈ p → Bx a b c d y) (g : PieC p lo hi out) {x : Pt} (hx : InR out x) : Bx a b c d x ∧ ¬ Bx lo.1 hi.1 lo.2 hi.2 x := by
  obtain ⟨e, f, m, l, u, v, h1, h2, h3, h4, h5, h6, rfl⟩ := g
  have o := one_in hp
  have hb1 : InBx [p] a b c d := fun q hq => by rw [List.mem_singleton.1 hq]; exact hb
  have vm := cut_vl o h3
  have vl := cut_vl vm h4
  have bm : InBx m a b c d := fun q hq y hy => (cut_bx o hb1 (Or.inl ⟨Or.inr rfl, rfl⟩) h3 q hq y hy).1
  have bl : InBx l a b c d := fun q hq y hy => (cut_bx vm bm (Or.inl ⟨Or.inl rfl, rfl⟩) h4 q hq y hy).1
  rw [inR_app, inR_app, inR_app] at hx
  rcases hx with ((hx | hx) | hx) | hx
  · have := inBx_has (cut_vl o h1) (a := a) (b := lo.1 - 1) (c := c) (d := d) (fun q hq y hy => by have := cut_bx o hb1 (Or.inl ⟨Or.inl rfl, rfl⟩) h1 q hq y hy; unfold Bx ov at *; simp only at *; omega) hx
    have t := inBx_has (cut_vl o h1) (fun q hq y hy => (cut_bx o hb1 (Or.inl ⟨Or.inl rfl, rfl⟩) h1 q hq y hy).1) hx
    exact ⟨t, by unfold Bx at *; omega⟩
  · have := inBx_has (cut_vl o h2) (a := hi.1 + 1) (b := b) (c := c) (d := d) (fun q hq y hy => by have := cut_bx o hb1 (Or.inl ⟨Or.inr rfl, rfl⟩) h2 q hq y hy; unfold Bx ov at *; simp only at *; omega) hx
    have t := inBx_has (cut_vl o h2) (fun q hq y hy => (cut_bx o hb1 (Or.inl ⟨Or.inr rfl, rfl⟩) h2 q hq y hy).1) hx
    exact ⟨t, by unfold Bx at *; omega⟩
  · have := inBx_has (cut_vl vl h5) (a := a) (b := b) (c := c) (d := lo.2 - 1) (fun q hq y hy => by have := cut_bx vl bl (Or.inr ⟨rfl, Or.inl rfl⟩) h5 q hq y hy; unfold Bx ov at *; simp only at *; omega) hx
    have t := inBx_has (cut_vl vl h5) (fun q hq y hy => (cut_bx vl bl (Or.inr ⟨rfl, Or.inl rfl⟩) h5 q hq y hy).1) hx
    exact ⟨t, by unfold Bx at *; omega⟩
  · have := inBx_has (cut_vl vl h6) (a := a) (b := b) (c := hi.2 + 1) (d := d) (fun q hq y hy => by have := cut_bx vl bl (Or.inr ⟨rfl, Or.inr rfl⟩) h6 q hq y hy; unfold Bx ov at *; simp only at *; omega) hx
    have t := inBx_has (cut_vl vl h6) (fun q hq y hy => (cut_bx vl bl (Or.inr ⟨rfl, Or.inr rfl⟩) h6 q hq y hy).1) hx
    exact ⟨t, by unfold Bx at *; omega⟩
theorem out_vl {L : Rgn} {lo hi : Pt} {out : Rgn} (hL : AllV L) (g : OutC L lo hi out) : AllV out := by
  intro q hq
  obtain ⟨i, r, hi', hr, hq⟩ := Col.mem g hq
  exact pie_vl (hL _ (nth_mem hi')) hr q hq
theorem out_has {L : Rgn} {lo hi : Pt} {out : Rgn} (hL : AllV L) (g : OutC L lo hi out) {x : Pt} (hx : InR L x) (ho : ¬ Bx lo.1 hi.1 lo.2 hi.2 x) : InR out x := by
  obtain ⟨p, hp, hx⟩ := hx
  obtain ⟨i, hi', rfl⟩ := mem_nth hp
  obtain ⟨r, hr, hin⟩ := Col.has g hi'
  obtain ⟨q, hq, h⟩ := pie_has (hL _ (nth_mem hi')) hr hx ho
  exact ⟨q, hin q hq, h⟩
theorem out_len {L : Rgn} {lo hi : Pt} {out : Rgn} (g : OutC L lo hi out) : out.length ≤ 4 * L.length := Col.len (fun _ _ => pie_len) g
/-- A polygon is a rectangle. -/
def rectL (lo hi : Pt) : List Pt := [lo, (hi.1, lo.2), hi, (lo.1, hi.2)]
theorem rect_bx {lo hi : Pt} (h1 : lo.1 ≤ hi.1) (h2 : lo.2 ≤ hi.2) : ∀ y, y ∈ rectL lo hi → Bx lo.1 hi.1 lo.2 hi.2 y := by
  intro y hy
  unfold rectL at hy
  unfold Bx
  simp only [List.mem_cons, List.not_mem_nil, or_false] at hy
  rcases hy with rfl | rfl | rfl | rfl <;> (try simp only) <;> refine ⟨⟨?_, ?_⟩, ?_, ?_⟩ <;> omega
theorem rect_has {lo hi x : Pt} (h : Bx lo.1 hi.1 lo.2 hi.2 x) : Hs (rectL lo hi) x := by
  obtain ⟨⟨a1, a2⟩, a3, a4⟩ := h
  rw [hs3 (p := rectL lo hi) (show 3 ≤ 4 by omega)]
  intro i hi'
  have hi' : i < 4 := hi'
  have p1 := Int.mul_nonneg (show 0 ≤ hi.1 - lo.1 by omega) (show 0 ≤ x.2 - lo.2 by omega)
  have p2 := Int.mul_nonneg (show 0 ≤ hi.2 - lo.2 by omega) (show 0 ≤ hi.1 - x.1 by omega)
  have p3 := Int.mul_nonneg (show 0 ≤ hi.1 - lo.1 by omega) (show 0 ≤ hi.2 - x.2 by omega)
  have p4 := Int.mul_nonneg (show 0 ≤ hi.2 - lo.2 by omega) (show 0 ≤ x.1 - lo.1 by omega)
  have : i = 0 ∨ i = 1 ∨ i = 2 ∨ i = 3 := by omega
  rcases this with rfl | rfl | rfl | rfl
  · show 0 ≤ cr lo (hi.1, lo.2) x
    unfold cr; simp only; grind
  · show 0 ≤ cr (hi.1, lo.2) hi x
    unfold cr; simp only; grind
  · show 0 ≤ cr hi (lo.1, hi.2) x
    unfold cr; simp only; grind
  · show 0 ≤ cr (lo.1, hi.2) (at' (rectL lo hi) (4 % 4)) x
    show 0 ≤ cr (lo.1, hi.2) lo x
    unfold cr; simp only; grind
theorem out_only {L : Rgn} {lo hi : Pt} {out : Rgn} (hL : AllV L) (hr : ∀ p, p ∈ L → ∃ a b : Pt, a.1 ≤ b.1 ∧ a.2 ≤ b.2 ∧ p = rectL a b) (g : OutC L lo hi out) {x : Pt} (hx : InR out x) : InR L x ∧ ¬ Bx lo.1 hi.1 lo.2 hi.2 x := by
  obtain ⟨q, hq, hx⟩ := hx
  obtain ⟨i, r, hi', hr', hq⟩ := Col.mem g hq
  obtain ⟨a, b, h1, h2, e⟩ := hr _ (nth_mem hi')
  have t := pie_only (hL _ (nth_mem hi')) (by rw [e]; exact rect_bx h1 h2) hr' ⟨q, hq, hx⟩
  exact ⟨⟨_, nth_mem hi', by rw [e]; exact rect_has t.1⟩, t.2⟩
end Rg
end Go.Proofs.YtlookcbokhknfaaGreat
