/-
  The laws of package mink, without the program.
  Lists of polygons, without a program: what is tidied, what is collected.
  What package hull owes besides: the slices that it hands back are new.
  What mink.Sum owes, with the new memory said.
  Plain geometry: the sum of two eight-sided hulls is the eight-sided hull of the sum. No program.
-/
import Derived.Test.YtlookcbokhknfaaGreatHullWrap
import Derived.Test.YtlookcbokhknfaaGreatHullCm
import Derived.Test.YtlookcbokhknfaaGreatHullLay
import Derived.Test.YtlookcbokhknfaaGreatMinkHul
namespace Go.Proofs.YtlookcbokhknfaaGreat
open Go.RowKit Hl
namespace Mk
theorem has_plc {p : List Pt} (hp : Pg p) (hl : Plcs p) {x : Pt} (hx : Hs p x) : Plc x := by
  obtain ⟨i1, l1, e1⟩ := hs_least hp hx 1 0 0
  obtain ⟨i2, l2, e2⟩ := hs_least hp hx (-1) 0 0
  obtain ⟨i3, l3, e3⟩ := hs_least hp hx 0 1 0
  obtain ⟨i4, l4, e4⟩ := hs_least hp hx 0 (-1) 0
  have p1 := hl i1 l1
  have p2 := hl i2 l2
  have p3 := hl i3 l3
  have p4 := hl i4 l4
  unfold af at e1 e2 e3 e4
  unfold Plc at *
  omega
theorem oct_wide {p q : List Pt} (hg : Pg p) (hpl : Plcs p) (h : IsOct p q) : Vl q ∧ ∀ x, Hs p x → Hs q x := by
  obtain ⟨a, b, c, d, s, t, i, j, h1, h2, h3, h4, h5, h6, h7, h8, hq⟩ := h
  obtain ⟨B, K⟩ := bd_of h1 h2 h3 h4 h5 h6 h7 h8
  have O := oct_keeps B
  have hn : q.length ≤ 8 := hull_le hq
  have hpl : Plcs q := fun n hn => by
    have hk := O _ (hq.2.1 _ (at_mem hn))
    obtain ⟨y1, g1, e1⟩ := h1.1
    obtain ⟨y2, g2, e2⟩ := h2.1
    obtain ⟨y3, g3, e3⟩ := h3.1
    obtain ⟨y4, g4, e4⟩ := h4.1
    obtain ⟨n1, l1, r1⟩ := mem_at g1
    obtain ⟨n2, l2, r2⟩ := mem_at g2
    obtain ⟨n3, l3, r3⟩ := mem_at g3
    obtain ⟨n4, l4, r4⟩ := mem_at g4
    have p1 := hpl n1 l1
    have p2 := hpl n2 l2
    have p3 := hpl n3 l3
    have p4 := hpl n4 l4
    rw [r1] at p1
    rw [r2] at p2
    rw [r3] at p3
    rw [r4] at p4
    unfold Keeps at hk
    unfold Plc at p1 p2 p3 p4 ⊢
    omega
  refine ⟨vl_of hq.1 (by omega) hpl, fun x hx => ?_⟩
  have hk : Keeps a b c d s t i j x := by
    have g : ∀ u v m, IsMin p u v m → m ≤ u * x.1 + v * x.2 := by
      intro u v m hm
      obtain ⟨n, hn, hle⟩ := hs_least hg hx u v 0
      have := hm.2 _ (at_mem hn)
      unfold af at hle
      omega
    have e1 := g _ _ _ h1
    have e2 := g _ _ _ h2
    have e3 := g _ _ _ h3
    have e4 := g _ _ _ h4
    have e5 := g _ _ _ h5
    have e6 := g _ _ _ h6
    have e7 := g _ _ _ h7
    have e8 := g _ _ _ h8
    unfold Keeps
    omega
  exact hs_of_least _ hq.1 hq.2.2 (oct_least hk)
theorem vl_hull {l s : List Pt} (h : IsHull l s) (hl : s.length ≤ 64) (hp : Plcs s) : Vl s := vl_of h.1 hl hp
theorem sum_good {p q r : List Pt} (h : SumIs p q 0 r) (hv : Vl p ∧ Vl q) : ∃ s, IsHull (sums p q) s ∧ Plcs s ∧ ((s.length ≤ 64 ∧ r = s) ∨ (64 < s.length ∧ IsOct s r)) := by
  rcases h with ⟨a, _, _⟩ | ⟨_, s, hs, ⟨_, e, _⟩ | ⟨b, _, c⟩⟩
  · exact absurd hv a
  · exact absurd e (by decide)
  · exact ⟨s, hs, b, c⟩
/-- P6.2 -/
theorem sums_law {p q r : List Pt} (hp : Vl p) (hq : Vl q) (h : SumIs p q 0 r) : Vl r ∧ ∀ x y, Hs p x → Hs q y → Hs r (plus x y) := by
  obtain ⟨s, hs, hl, ⟨a, rfl⟩ | ⟨a, ho⟩⟩ := sum_good h ⟨hp, hq⟩
  · exact ⟨vl_hull hs a hl, fun x y hx hy => sum_has hp.pg hq.pg hs hx hy⟩
  · obtain ⟨v, f⟩ := oct_wide hs.1 hl ho
    exact ⟨v, fun x y hx hy => f _ (sum_has hp.pg hq.pg hs hx hy)⟩
/-- P6.4, the first half -/
theorem SumIs.comm {p q r : List Pt} {k : Int} (h : SumIs p q k r) : SumIs q p k r := by
  rcases h with ⟨a, b, c⟩ | ⟨a, s, hs, d⟩
  · exact Or.inl ⟨fun t => a ⟨t.2, t.1⟩, b, c⟩
  · exact Or.inr ⟨⟨a.2, a.1⟩, s, sum_comm hs, d⟩
theorem one_vl {z : Pt} (hz : Plc z) : Vl [z] := ⟨⟨by simp, by simp⟩, plcs_of (fun x hx => by rw [List.mem_singleton] at hx; subst hx; exact hz), fun i h1 h2 => by simp at h2; omega, fun h => absurd h (by simp)⟩
end Mk
end Go.Proofs.YtlookcbokhknfaaGreat
namespace Go.Proofs.YtlookcbokhknfaaGreat
open Go.RowKit Hl
namespace Rg
abbrev Rgn := List (List Pt)
def nth (L : Rgn) (i : Nat) : List Pt := L.getD i []
theorem nth_get {L : Rgn} {i : Nat} (h : i < L.length) : nth L i = L[i] := by
  unfold nth
  simp [List.getD, h]
theorem nth_mem {L : Rgn} {i : Nat} (h : i < L.length) : nth L i ∈ L := by
  rw [nth_get h]; exact List.getElem_mem h
theorem mem_nth {L : Rgn} {p : List Pt} (h : p ∈ L) : ∃ i, i < L.length ∧ nth L i = p := by
  obtain ⟨i, hi, e⟩ := List.getElem_of_mem h
  exact ⟨i, hi, by rw [nth_get hi]; exact e⟩
theorem nth_map (L : Rgn) : (List.range L.length).map (nth L) = L := by
  apply List.ext_getElem
  · simp
  · intro i h1 h2
    rw [List.getElem_map, List.getElem_range, nth_get h2]
def AllV (L : Rgn) : Prop := ∀ p, p ∈ L → Vl p
def VlR (L : Rgn) : Prop := L.length ≤ 32 ∧ AllV L
/-- The list has a point. -/
def InR (L : Rgn) (x : Pt) : Prop := ∃ p, p ∈ L ∧ Hs p x
/-- A polygon lies within another one. -/
def Lies (p q : List Pt) : Prop := ∀ y, y ∈ p → Hs q y
instance decLies (p q : List Pt) : Decidable (Lies p q) := by unfold Lies; infer_instance
theorem lies_has {p q : List Pt} (hp : Pg p) (hq : Pg q) (h : Lies p q) {x : Pt} (hx : Hs p x) : Hs q x :=
  hs_of_least p hq h fun u v k => by
    obtain ⟨j, hj, g⟩ := hs_least hp hx u v k
    exact ⟨_, at_mem hj, g⟩
theorem own_corner {p : List Pt} (hp : Pg p) {y : Pt} (hy : y ∈ p) : Hs p y := by
  obtain ⟨i, hi, e⟩ := mem_at hy
  rw [← e]; exact hs_corner hp hi
theorem lies_trans {p q r : List Pt} (hq : Pg q) (hr : Pg r) (h : Lies p q) (k : Lies q r) : Lies p r := fun y hy => lies_has hq hr k (h y hy)
theorem lies_anti {p q : List Pt} (hp : Pg p) (hq : Pg q) (h : Lies p q) (k : Lies q p) : p = q := by
  have a : IsHull (p ++ q) p := ⟨hp, fun x hx => List.mem_append_left _ hx, fun x hx => (List.mem_append.1 hx).elim (own_corner hp) (k x)⟩
  have b : IsHull (p ++ q) q := ⟨hq, fun x hx => List.mem_append_right _ hx, fun x hx => (List.mem_append.1 hx).elim (h x) (own_corner hq)⟩
  exact hull_unique a b

/-! ### What lies within another one -/
def Up (L : Rgn) (i k : Nat) : Prop := k ≠ i ∧ Lies (nth L i) (nth L k) ∧ (nth L i ≠ nth L k ∨ k < i)
instance decUp (L : Rgn) (i k : Nat) : Decidable (Up L i k) := by unfold Up; infer_instance
def Cov (L : Rgn) (i : Nat) : Prop := ∃ k, k < L.length ∧ Up L i k
def covB (L : Rgn) (i : Nat) : Bool := (List.range L.length).any fun k => decide (Up L i k)
theorem covB_iff {L : Rgn} {i : Nat} : covB L i = true ↔ Cov L i := by
  unfold covB Cov
  rw [List.any_eq_true]
  constructor
  · rintro ⟨k, hk, h⟩
    exact ⟨k, List.mem_range.1 hk, of_decide_eq_true h⟩
  · rintro ⟨k, hk, h⟩
    exact ⟨k, List.mem_range.2 hk, decide_eq_true h⟩
theorem covB_not {L : Rgn} {i : Nat} : covB L i = false ↔ ¬ Cov L i := by
  rw [← covB_iff]; cases covB L i <;> simp
theorem up_irrefl (L : Rgn) (i : Nat) : ¬ Up L i i := fun h => h.1 rfl
theorem up_trans {L : Rgn} (hL : AllV L) {i j k : Nat} (hi : i < L.length) (hj : j < L.length) (hk : k < L.length) (h : Up L i j) (g : Up L j k) : Up L i k := by
  have vi := (hL _ (nth_mem hi)).pg
  have vj := (hL _ (nth_mem hj)).pg
  have vk := (hL _ (nth_mem hk)).pg
  have t := lies_trans vj vk h.2.1 g.2.1
  have case : nth L i = nth L k → k < i := fun e => by
    have e2 : nth L j = nth L k := lies_anti vj vk g.2.1 (by rw [← e]; exact h.2.1)
    rcases h.2.2 with a | a
    · exact absurd (e.trans e2.symm) a
    · rcases g.2.2 with b | b
      · exact absurd e2 b
      · omega
  refine ⟨fun e => ?_, t, ?_⟩
  · subst e
    have := case rfl
    omega
  · by_cases e : nth L i = nth L k
    · exact Or.inr (case e)
    · exact Or.inl e
/-- Whatever is covered lies within one that stays. -/
theorem up_most {L : Rgn} (hL : AllV L) : ∀ (m i : Nat) (T : List Nat), T.length ≤ m → i < L.length → (∀ j, j < L.length → Up L i j → j ∈ T) → ∃ k, k < L.length ∧ ¬ Cov L k ∧ (k = i ∨ Up L i k)
  | m, i, T, hm, hi, hT => by
    by_cases c : Cov L i
    · obtain ⟨k, hk, u⟩ := c
      match m with
      | 0 => exact absurd (hT k hk u) (by rw [List.length_eq_zero_iff.1 (by omega : T.length = 0)]; simp)
      | m + 1 =>
        have lt : (T.filter fun j => decide (Up L k j)).length < T.length := List.length_filter_lt_length_iff_exists.2 ⟨k, hT k hk u, by simpa using up_irrefl L k⟩
        obtain ⟨z, hz, nz, h⟩ := up_most hL m k (T.filter fun j => decide (Up L k j)) (by omega) hk (fun j hj uj => List.mem_filter.2 ⟨hT j hj (up_trans hL hi hk hj u uj), decide_eq_true uj⟩)
        refine ⟨z, hz, nz, Or.inr ?_⟩
        rcases h with rfl | h
        · exact u
        · exact up_trans hL hi hk hz u h
    · exact ⟨i, hi, c, Or.inl rfl⟩
theorem up_some {L : Rgn} (hL : AllV L) {i : Nat} (hi : i < L.length) : ∃ k, k < L.length ∧ ¬ Cov L k ∧ ∀ x, Hs (nth L i) x → Hs (nth L k) x := by
  obtain ⟨k, hk, nk, h⟩ := up_most hL L.length i (List.range L.length) (by simp) hi (fun j hj _ => List.mem_range.2 hj)
  refine ⟨k, hk, nk, fun x hx => ?_⟩
  rcases h with rfl | h
  · exact hx
  · exact lies_has (hL _ (nth_mem hi)).pg (hL _ (nth_mem hk)).pg h.2.1 hx

/-! ### Those that stay -/
def keptN (L : Rgn) (n : Nat) : Rgn := ((List.range n).filter fun i => !covB L i).map (nth L)
def kept (L : Rgn) : Rgn := keptN L L.length
theorem keptN_yes {L : Rgn} {n : Nat} (h : covB L n = true) : keptN L (n + 1) = keptN L n := by
  unfold keptN
  rw [List.range_succ, List.filter_append]
  simp [h]
theorem keptN_no {L : Rgn} {n : Nat} (h : covB L n = false) : keptN L (n + 1) = keptN L n ++ [nth L n] := by
  unfold keptN
  rw [List.range_succ, List.filter_append]
  simp [h]
theorem keptN_len (L : Rgn) (n : Nat) : (keptN L n).length ≤ n := by
  unfold keptN
  rw [List.length_map]
  have := List.length_filter_le (fun i => !covB L i) (List.range n)
  rwa [List.length_range] at this
theorem kept_len (L : Rgn) : (kept L).length ≤ L.length := keptN_len L _
theorem mem_keptN {L : Rgn} {n : Nat} {p : List Pt} : p ∈ keptN L n ↔ ∃ i, i < n ∧ ¬ Cov L i ∧ nth L i = p := by
  unfold keptN
  rw [List.mem_map]
  constructor
  · rintro ⟨i, hi, e⟩
    obtain ⟨a, b⟩ := List.mem_filter.1 hi
    exact ⟨i, List.mem_range.1 a, covB_not.1 (by simpa using b), e⟩
  · rintro ⟨i, hi, c, e⟩
    exact ⟨i, List.mem_filter.2 ⟨List.mem_range.2 hi, by simpa using covB_not.2 c⟩, e⟩
theorem keptN_sub {L : Rgn} {n : Nat} (hn : n ≤ L.length) {p : List Pt} (h : p ∈ keptN L n) : p ∈ L := by
  obtain ⟨i, hi, _, e⟩ := mem_keptN.1 h
  rw [← e]; exact nth_mem (by omega)
theorem kept_sub {L : Rgn} {p : List Pt} (h : p ∈ kept L) : p ∈ L := keptN_sub (Nat.le_refl _) h
theorem kept_free (L : Rgn) : (kept L).Pairwise fun p q => ¬ Lies p q ∧ ¬ Lies q p := by
  unfold kept keptN
  rw [List.pairwise_map]
  have hs : ((List.range L.length).filter fun i => !covB L i).Pairwise (· < ·) := List.Pairwise.filter _ List.pairwise_lt_range
  refine List.Pairwise.imp_of_mem (fun {a b} ha hb hab => ?_) hs
  obtain ⟨a1, a2⟩ := List.mem_filter.1 ha
  obtain ⟨b1, b2⟩ := List.mem_filter.1 hb
  have na : ¬ Cov L a := covB_not.1 (by simpa using a2)
  have nb : ¬ Cov L b := covB_not.1 (by simpa using b2)
  have la := List.mem_range.1 a1
  have lb := List.mem_range.1 b1
  have key : Lies (nth L b) (nth L a) → False := fun h => nb ⟨a, la, by omega, h, Or.inr hab⟩
  refine ⟨fun h => ?_, key⟩
  by_cases e : nth L a = nth L b
  · exact key (by rw [← e] at h ⊢; exact h)
  · exact na ⟨b, lb, by omega, h, Or.inl e⟩
theorem kept_apart {L : Rgn} {i k : Nat} (hi : i < (kept L).length) (hk : k < (kept L).length) (hne : i ≠ k) : ¬ Lies (nth (kept L) i) (nth (kept L) k) := by
  have h := List.pairwise_iff_getElem.1 (kept_free L)
  rw [nth_get hi, nth_get hk]
  by_cases c : i < k
  · exact (h i k hi hk c).1
  · exact (h k i hk hi (by omega)).2
theorem kept_twice (L : Rgn) : kept (kept L) = kept L := by
  have no : ∀ i, i ∈ List.range (kept L).length → (!covB (kept L) i) = true := fun i hi => by
    have hi := List.mem_range.1 hi
    have : ¬ Cov (kept L) i := fun ⟨k, hk, u⟩ => kept_apart hi hk (fun e => u.1 e.symm) u.2.1
    rw [covB_not.2 this]
    rfl
  have : kept (kept L) = ((List.range (kept L).length).filter fun i => !covB (kept L) i).map (nth (kept L)) := rfl
  rw [this, List.filter_eq_self.2 no, nth_map]

/-! ### The eight-sided hull of points -/
theorem oct_list {l q : List Pt} (hl : Plcs l) (h : IsOct l q) : Vl q ∧ ∀ y, y ∈ l → Hs q y := by
  obtain ⟨a, b, c, d, s, t, i, j, h1, h2, h3, h4, h5, h6, h7, h8, hq⟩ := h
  obtain ⟨B, K⟩ := bd_of h1 h2 h3 h4 h5 h6 h7 h8
  have O := oct_keeps B
  have hn : q.length ≤ 8 := count_le (at' q) q.length (octL a b c d s t i j) (fun i j hi hj hne => pg_distinct hq.1 hi hj hne) (fun i hi => hq.2.1 _ (at_mem hi))
  have pm : ∀ y, y ∈ l → Plc y := fun y hy => by
    obtain ⟨n, hn, e⟩ := mem_at hy
    rw [← e]; exact hl n hn
  have hpl : Plcs q := fun n hn => by
    have hk := O _ (hq.2.1 _ (at_mem hn))
    obtain ⟨y1, g1, e1⟩ := h1.1
    obtain ⟨y2, g2, e2⟩ := h2.1
    obtain ⟨y3, g3, e3⟩ := h3.1
    obtain ⟨y4, g4, e4⟩ := h4.1
    have p1 := pm _ g1
    have p2 := pm _ g2
    have p3 := pm _ g3
    have p4 := pm _ g4
    unfold Keeps at hk
    unfold Plc at p1 p2 p3 p4 ⊢
    omega
  exact ⟨vl_of hq.1 (by omega) hpl, fun y hy => hs_of_least _ hq.1 hq.2.2 (oct_least (K y hy))⟩

/-! ### Tidied lists -/
def TidyIs (L out : Rgn) : Prop := ((kept L).length ≤ 32 ∧ out = kept L) ∨ (32 < (kept L).length ∧ ∃ q, IsOct ((kept L).drop 31).flatten q ∧ out = (kept L).take 31 ++ [q])
theorem tidy_one {L out out' : Rgn} (h : TidyIs L out) (h' : TidyIs L out') : out = out' := by
  rcases h with ⟨a, rfl⟩ | ⟨a, q, o, rfl⟩ <;> rcases h' with ⟨a', rfl⟩ | ⟨a', q', o', rfl⟩
  · rfl
  · omega
  · omega
  · rw [Ct.oct_one o o']
theorem flat_plcs {L : Rgn} (hL : AllV L) : Plcs L.flatten := plcs_of fun x hx => by
  obtain ⟨p, hp, hx⟩ := List.mem_flatten.1 hx
  obtain ⟨n, hn, e⟩ := mem_at hx
  rw [← e]; exact (hL p hp).2.1 n hn
theorem tidy_vl {L out : Rgn} (hL : AllV L) (h : TidyIs L out) : VlR out := by
  have hk : AllV (kept L) := fun p hp => hL p (kept_sub hp)
  rcases h with ⟨a, rfl⟩ | ⟨a, q, o, rfl⟩
  · exact ⟨a, hk⟩
  · have g := oct_list (flat_plcs fun p hp => hk p (List.mem_of_mem_drop hp)) o
    refine ⟨by simp; omega, fun p hp => ?_⟩
    rcases List.mem_append.1 hp with hp | hp
    · exact hk p (List.mem_of_mem_take hp)
    · rw [List.mem_singleton.1 hp]; exact g.1
theorem tidy_has {L out : Rgn} (hL : AllV L) (h : TidyIs L out) {x : Pt} (hx : InR L x) : InR out x := by
  have hk : AllV (kept L) := fun p hp => hL p (kept_sub hp)
  obtain ⟨p, hp, hx⟩ := hx
  obtain ⟨i, hi, rfl⟩ := mem_nth hp
  obtain ⟨k, hk', nk, g⟩ := up_some hL hi
  have hin : nth L k ∈ kept L := mem_keptN.2 ⟨k, hk', nk, rfl⟩
  have hx := g x hx
  rcases h with ⟨a, rfl⟩ | ⟨a, q, o, rfl⟩
  · exact ⟨_, hin, hx⟩
  · rw [← List.take_append_drop 31 (kept L)] at hin
    rcases List.mem_append.1 hin with hin | hin
    · exact ⟨_, List.mem_append_left _ hin, hx⟩
    · have o := oct_list (flat_plcs fun p hp => hk p (List.mem_of_mem_drop hp)) o
      exact ⟨q, by simp, lies_has (hL _ (nth_mem hk')).pg o.1.pg (fun y hy => o.2 y (List.mem_flatten.2 ⟨_, hin, hy⟩)) hx⟩
theorem tidy_same {L out : Rgn} (hl : L.length ≤ 32) (h : TidyIs L out) : out = kept L := by
  have := kept_len L
  rcases h with ⟨_, e⟩ | ⟨a, _⟩
  · exact e
  · omega
theorem tidy_only {L out : Rgn} (hl : L.length ≤ 32) (h : TidyIs L out) {x : Pt} (hx : InR out x) : InR L x := by
  rw [tidy_same hl h] at hx
  obtain ⟨p, hp, hx⟩ := hx
  exact ⟨p, kept_sub hp, hx⟩
theorem tidy_len {L out : Rgn} (h : TidyIs L out) : out.length ≤ L.length := by
  have := kept_len L
  rcases h with ⟨a, rfl⟩ | ⟨a, q, o, rfl⟩
  · exact this
  · simp; omega
theorem tidy_again {L out out' : Rgn} (hl : L.length ≤ 32) (h : TidyIs L out) (h' : TidyIs out out') : out' = out := by
  have e := tidy_same hl h
  have := tidy_len h
  rw [tidy_same (by omega) h', e, kept_twice]
theorem tidy_free {L out : Rgn} (hl : L.length ≤ 32) (h : TidyIs L out) {i k : Nat} (hi : i < out.length) (hk : k < out.length) (hne : i ≠ k) : ¬ Lies (nth out i) (nth out k) := by
  have e := tidy_same hl h
  subst e
  exact kept_apart hi hk hne
theorem tidy_nil {L out : Rgn} (hL : AllV L) (h : TidyIs L out) : out = [] ↔ L = [] := by
  constructor
  · rintro rfl
    match L with
    | [] => rfl
    | p :: L =>
      have hp := (hL p (by simp)).pg
      obtain ⟨q, hq, _⟩ := tidy_has hL h ⟨p, by simp, own_corner hp (at_mem hp.1)⟩
      cases hq
  · rintro rfl
    have := tidy_len h
    exact List.length_eq_zero_iff.1 (by simpa using this)

/-! ### What is collected -/
/-- Lists that P says, one behind the other. -/
def Col (P : Nat → Rgn → Prop) : Nat → Rgn → Prop
  | 0, out => out = []
  | n + 1, out => ∃ a b, Col P n a ∧ P n b ∧ out = a ++ b
theorem Col.one {P : Nat → Rgn → Prop} (hP : ∀ i r r', P i r → P i r' → r = r') : ∀ {n : Nat} {out out' : Rgn}, Col P n out → Col P n out' → out = out'
  | 0, _, _, h, h' => h.trans h'.symm
  | n + 1, _, _, ⟨a, b, h1, h2, e⟩, ⟨a', b', h1', h2', e'⟩ => by
    rw [e, e', Col.one hP h1 h1', hP n b b' h2 h2']
theorem Col.mem {P : Nat → Rgn → Prop} : ∀ {n : Nat} {out : Rgn}, Col P n out → ∀ {p : List Pt}, p ∈ out → ∃ i r, i < n ∧ P i r ∧ p ∈ r
  | 0, _, h, p, hp => by rw [h] at hp; cases hp
  | n + 1, _, ⟨a, b, h1, h2, e⟩, p, hp => by
    rw [e] at hp
    rcases List.mem_append.1 hp with hp | hp
    · obtain ⟨i, r, hi, hr, g⟩ := Col.mem h1 hp
      exact ⟨i, r, by omega, hr, g⟩
    · exact ⟨n, b, by omega, h2, hp⟩
theorem Col.has {P : Nat → Rgn → Prop} : ∀ {n : Nat} {out : Rgn}, Col P n out → ∀ {i : Nat}, i < n → ∃ r, P i r ∧ ∀ p, p ∈ r → p ∈ out
  | 0, _, _, i, hi => by omega
  | n + 1, _, ⟨a, b, h1, h2, e⟩, i, hi => by
    subst e
    by_cases c : i = n
    · subst c
      exact ⟨b, h2, fun p hp => List.mem_append_right _ hp⟩
    · obtain ⟨r, hr, g⟩ := Col.has h1 (show i < n by omega)
      exact ⟨r, hr, fun p hp => List.mem_append_left _ (g p hp)⟩
theorem Col.len {P : Nat → Rgn → Prop} {c : Nat} (hP : ∀ i r, P i r → r.length ≤ c) : ∀ {n : Nat} {out : Rgn}, Col P n out → out.length ≤ c * n
  | 0, _, h => by rw [h]; exact Nat.zero_le _
  | n + 1, _, ⟨a, b, h1, h2, e⟩ => by
    have := Col.len hP h1
    have := hP n b h2
    rw [e, List.length_append, Nat.mul_succ]
    omega
end Rg
end Go.Proofs.YtlookcbokhknfaaGreat
namespace Go.Proofs.YtlookcbokhknfaaGreat
open Go.RowKit
namespace Hl
theorem Own.less {B B' : Nat} {w : World} {v : Value} {p : List Pt} (h : Own B w v p) (hb : B' ≤ B) : Own B' w v p := by
  obtain ⟨hl, h | ⟨g, cap, cur, e, h1, h2⟩⟩ := h
  · exact ⟨hl, Or.inl h⟩
  · exact ⟨hl, Or.inr ⟨g, cap, cur, e, Nat.le_trans hb h1, h2⟩⟩
/-- A slice of the call's own. -/
structure SlN (w w' : World) (v : Value) (p : List Pt) : Prop where
  own : Own w.heap.size w' v p
theorem SlN.sl {w w' : World} {v : Value} {p : List Pt} (h : SlN w w' v p) : Sl w' v p := h.own.sl
theorem SlN.new {w w' : World} {v : Value} {p : List Pt} (h : SlN w w' v p) : ∀ k, v.ownBlock = some k → w.heap.size ≤ k := fun k e => (World.ownsRow.lt h.own k e).1
theorem SlN.grown {w w1 w2 : World} {v : Value} {p : List Pt} (h : SlN w w1 v p) (g : Grew w1 w2) : SlN w w2 v p := ⟨h.own.grew g⟩
theorem SlN.later {w w1 w2 : World} {v : Value} {p : List Pt} (h : SlN w1 w2 v p) (g : Grew w w1) : SlN w w2 v p := ⟨h.own.less g.size⟩
def HullNew (l : List Pt) (w : World) (e : Ending) (w' : World) : Prop := ∃ q, IsHull l q ∧ ((q.length ≤ 64 ∧ ∃ v, e = .returned (.tuple #[v, .int .i64 0]) ∧ SlN w w' v q ∧ Grew w w') ∨ (64 < q.length ∧ Empty 2 w e w'))
def EightNew (p : List Pt) (w : World) (e : Ending) (w' : World) : Prop := ∃ q v, IsOct p q ∧ e = .returned (.tuple #[v, .int .i64 0]) ∧ SlN w w' v q ∧ Grew w w'
theorem HullNew.says {l : List Pt} {w : World} {e : Ending} {w' : World} (h : HullNew l w e w') : HullSays l w e w' := by
  obtain ⟨q, hq, ⟨h1, v, he, hs, g⟩ | h⟩ := h
  · exact ⟨q, hq, Or.inl ⟨h1, v, he, hs.sl, g⟩⟩
  · exact ⟨q, hq, Or.inr h⟩
theorem EightNew.says {p : List Pt} {w : World} {e : Ending} {w' : World} (h : EightNew p w e w') : EightSays p w e w' := by
  obtain ⟨q, v, hq, he, hs, g⟩ := h
  exact ⟨q, v, hq, he, hs.sl, g⟩
structure CodeN : Prop extends Code where
  hull_new : ∀ (l : List Pt) (v : Value) (w : World), Sl w v l → l.length ≤ 4000 → l ≠ [] → Plcs l → Calls Tryz.prog 139 #[v] w (HullNew l w)
  eight_new : ∀ (p : List Pt) (v : Value) (w : World), Sl w v p → Vl p → Calls Tryz.prog 118 #[v] w (EightNew p w)
end Hl
end Go.Proofs.YtlookcbokhknfaaGreat
namespace Go.Proofs.YtlookcbokhknfaaGreat
open Go.RowKit Hl
namespace Mk
def SumNew (p q : List Pt) (w : World) (e : Ending) (w' : World) : Prop := ∃ s, IsHull (sums p q) s ∧ ((¬ Plcs s ∧ Empty 3 w e w') ∨ (Plcs s ∧ ∃ v t, ((s.length ≤ 64 ∧ t = s) ∨ (64 < s.length ∧ IsOct s t)) ∧ e = .returned (.tuple #[v, .int .i64 0]) ∧ SlN w w' v t ∧ Grew w w'))
theorem SumNew.says {p q : List Pt} {w : World} {e : Ending} {w' : World} (h : SumNew p q w e w') : SumSays p q w e w' := by
  obtain ⟨s, hs, h | ⟨h, v, t, ht, he, hn, g⟩⟩ := h
  · exact ⟨s, hs, Or.inl h⟩
  · exact ⟨s, hs, Or.inr ⟨h, v, t, ht, he, hn.sl, g⟩⟩
end Mk
end Go.Proofs.YtlookcbokhknfaaGreat
namespace Go.Proofs.YtlookcbokhknfaaGreat
open Hl
namespace Mk
theorem up_to (g : Nat → Int) : ∀ n : Nat, ∃ N : Int, 0 ≤ N ∧ ∀ l, l < n → g l ≤ N
  | 0 => ⟨0, by omega, fun l h => by omega⟩
  | n + 1 => by
    obtain ⟨N, h0, h⟩ := up_to g n
    by_cases c : g n ≤ N
    · exact ⟨N, h0, fun l hl => by
        rcases (show l < n ∨ l = n by omega) with h1 | rfl
        · exact h l h1
        · exact c⟩
    · exact ⟨g n, by omega, fun l hl => by
        rcases (show l < n ∨ l = n by omega) with h1 | rfl
        · have := h l h1
          omega
        · omega⟩
/-- Where a corner alone is least, no other point of the polygon is as low. -/
theorem hs_strict {t : List Pt} (ht : Pg t) {i : Nat} {u v k : Int} (hst : ∀ j, j < t.length → j ≠ i → af u v k (at' t i) < af u v k (at' t j)) {y : Pt} (hy : Hs t y) (hle : af u v k y ≤ af u v k (at' t i)) : y = at' t i := by
  by_cases hne : y = at' t i
  · exact hne
  · exfalso
    obtain ⟨x, hx⟩ : ∃ x, at' t i = x := ⟨_, rfl⟩
    rw [hx] at hst hle hne
    obtain ⟨a, ha⟩ : ∃ a, x.1 - y.1 = a := ⟨_, rfl⟩
    obtain ⟨b, hb⟩ : ∃ b, x.2 - y.2 = b := ⟨_, rfl⟩
    have pos : 0 < a * a + b * b := by
      by_cases ea : a = 0
      · have eb : b ≠ 0 := fun eb => hne (Prod.ext (by omega) (by omega))
        have := sq_pos eb
        have := sq_nonneg a
        omega
      · have := sq_pos ea
        have := sq_nonneg b
        omega
    have dif : (a * x.1 + b * x.2) - (a * y.1 + b * y.2) = a * a + b * b := by
      rw [← ha, ← hb]
      grind
    obtain ⟨N, N0, hN⟩ := up_to (fun l => (a * x.1 + b * x.2) - (a * (at' t l).1 + b * (at' t l).2)) t.length
    obtain ⟨l, hl, e⟩ := hs_least ht hy (N * u + a) (N * v + b) 0
    have hNl := hN l hl
    unfold af at hst hle e
    have e1 : ∀ z : Pt, (N * u + a) * z.1 + (N * v + b) * z.2 + 0 = N * (u * z.1 + v * z.2) + (a * z.1 + b * z.2) := fun z => by grind
    rw [e1, e1] at e
    by_cases hli : l = i
    · rw [hli, hx] at e
      have := Int.mul_le_mul_of_nonneg_left (show u * y.1 + v * y.2 ≤ u * x.1 + v * x.2 by omega) N0
      omega
    · have h1 := hst l hl hli
      have h2 := Int.mul_le_mul_of_nonneg_left (show u * y.1 + v * y.2 ≤ u * x.1 + v * x.2 by omega) N0
      have h3 := Int.mul_le_mul_of_nonneg_left (show u * x.1 + v * x.2 + 1 ≤ u * (at' t l).1 + v * (at' t l).2 by omega) N0
      rw [Int.mul_add, Int.mul_one] at h3
      omega
theorem octL_split {a b c d s t i j a' b' c' d' s' t' i' j' : Int} {y : Pt} (hy : y ∈ octL (a + a') (b + b') (c + c') (d + d') (s + s') (t + t') (i + i') (j + j')) : ∃ x, x ∈ octL a b c d s t i j ∧ ∃ z, z ∈ octL a' b' c' d' s' t' i' j' ∧ plus x z = y := by
  unfold octL at hy
  simp only [List.mem_cons, List.not_mem_nil, or_false] at hy
  rcases hy with rfl | rfl | rfl | rfl | rfl | rfl | rfl | rfl
  · exact ⟨(b, b - j), by simp [octL], (b', b' - j'), by simp [octL], Prod.ext (by simp only [plus]) (by simp only [plus]; omega)⟩
  · exact ⟨(b, t - b), by simp [octL], (b', t' - b'), by simp [octL], Prod.ext (by simp only [plus]) (by simp only [plus]; omega)⟩
  · exact ⟨(t - d, d), by simp [octL], (t' - d', d'), by simp [octL], Prod.ext (by simp only [plus]; omega) (by simp only [plus])⟩
  · exact ⟨(d + i, d), by simp [octL], (d' + i', d'), by simp [octL], Prod.ext (by simp only [plus]; omega) (by simp only [plus])⟩
  · exact ⟨(a, a - i), by simp [octL], (a', a' - i'), by simp [octL], Prod.ext (by simp only [plus]) (by simp only [plus]; omega)⟩
  · exact ⟨(a, s - a), by simp [octL], (a', s' - a'), by simp [octL], Prod.ext (by simp only [plus]) (by simp only [plus]; omega)⟩
  · exact ⟨(s - c, c), by simp [octL], (s' - c', c'), by simp [octL], Prod.ext (by simp only [plus]; omega) (by simp only [plus])⟩
  · exact ⟨(c + j, c), by simp [octL], (c' + j', c'), by simp [octL], Prod.ext (by simp only [plus]; omega) (by simp only [plus])⟩
theorem keeps_plus {a b c d s t i j a' b' c' d' s' t' i' j' : Int} {x z : Pt} (h : Keeps a b c d s t i j x) (h' : Keeps a' b' c' d' s' t' i' j' z) : Keeps (a + a') (b + b') (c + c') (d + d') (s + s') (t + t') (i + i') (j + j') (plus x z) := by
  unfold Keeps plus at *
  simp only
  omega
theorem oct_sum {p q p8 q8 s r : List Pt} (hp : IsOct p p8) (hq : IsOct q q8) (hs : IsHull (sums p q) s) (hr : IsHull (sums p8 q8) r) : IsOct s r := by
  obtain ⟨a, b, c, d, m, n, i, j, h1, h2, h3, h4, h5, h6, h7, h8, hp8⟩ := hp
  obtain ⟨a', b', c', d', m', n', i', j', g1, g2, g3, g4, g5, g6, g7, g8, hq8⟩ := hq
  have neg2 : ∀ x y : Int, -x + -y = -(x + y) := fun x y => by omega
  refine ⟨a + a', b + b', c + c', d + d', m + m', n + n', i + i', j + j', min_sum hs h1 g1, by rw [← neg2]; exact min_sum hs h2 g2, min_sum hs h3 g3, by rw [← neg2]; exact min_sum hs h4 g4, min_sum hs h5 g5, by rw [← neg2]; exact min_sum hs h6 g6, min_sum hs h7 g7, by rw [← neg2]; exact min_sum hs h8 g8, ?_⟩
  have O := oct_keeps (bd_of h1 h2 h3 h4 h5 h6 h7 h8).1
  have O' := oct_keeps (bd_of g1 g2 g3 g4 g5 g6 g7 g8).1
  have all : ∀ y, y ∈ octL (a + a') (b + b') (c + c') (d + d') (m + m') (n + n') (i + i') (j + j') → Hs r y := fun y hy => by
    obtain ⟨x, hx, z, hz, rfl⟩ := octL_split hy
    exact sum_has hp8.1 hq8.1 hr (hp8.2.2 x hx) (hq8.2.2 z hz)
  refine ⟨hr.1, fun x hx => ?_, all⟩
  obtain ⟨l, hl, rfl⟩ := mem_at hx
  obtain ⟨u, v, k, hst⟩ := corner_strict hr.1 hl
  obtain ⟨x1, hx1, x2, hx2, e⟩ := mem_sums.1 (hr.2.1 _ hx)
  have K := keeps_plus (O x1 (hp8.2.1 _ hx1)) (O' x2 (hq8.2.1 _ hx2))
  rw [e] at K
  obtain ⟨y, hy, hle⟩ := oct_least K u v k
  rw [← hs_strict hr.1 hst (all y hy) hle]
  exact hy
theorem oct_plcs {s r : List Pt} (h : IsOct s r) : Plcs s ↔ Plcs r := by
  obtain ⟨a, b, c, d, m, n, i, j, h1, h2, h3, h4, h5, h6, h7, h8, hr⟩ := h
  obtain ⟨B, K⟩ := bd_of h1 h2 h3 h4 h5 h6 h7 h8
  obtain ⟨m1, m2, m3, m4, _⟩ := oct_min B hr
  have key : ∀ {x y : List Pt}, IsMin x 1 0 a → IsMin x (-1) 0 (-b) → IsMin x 0 1 c → IsMin x 0 (-1) (-d) → IsMin y 1 0 a → IsMin y (-1) 0 (-b) → IsMin y 0 1 c → IsMin y 0 (-1) (-d) → Plcs x → Plcs y := fun {x y} h1 h2 h3 h4 k1 k2 k3 k4 hx l hl => by
    obtain ⟨y1, g1, e1⟩ := h1.1
    obtain ⟨y2, g2, e2⟩ := h2.1
    obtain ⟨y3, g3, e3⟩ := h3.1
    obtain ⟨y4, g4, e4⟩ := h4.1
    obtain ⟨n1, l1, r1⟩ := mem_at g1
    obtain ⟨n2, l2, r2⟩ := mem_at g2
    obtain ⟨n3, l3, r3⟩ := mem_at g3
    obtain ⟨n4, l4, r4⟩ := mem_at g4
    have p1 := hx n1 l1
    have p2 := hx n2 l2
    have p3 := hx n3 l3
    have p4 := hx n4 l4
    rw [r1] at p1
    rw [r2] at p2
    rw [r3] at p3
    rw [r4] at p4
    have q1 := k1.2 _ (at_mem hl)
    have q2 := k2.2 _ (at_mem hl)
    have q3 := k3.2 _ (at_mem hl)
    have q4 := k4.2 _ (at_mem hl)
    unfold Plc at p1 p2 p3 p4 ⊢
    omega
  exact ⟨key h1 h2 h3 h4 m1 m2 m3 m4, key m1 m2 m3 m4 h1 h2 h3 h4⟩
end Mk
end Go.Proofs.YtlookcbokhknfaaGreat
