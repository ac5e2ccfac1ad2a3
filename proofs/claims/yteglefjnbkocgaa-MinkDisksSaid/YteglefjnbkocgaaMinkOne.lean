/-
  One answer for each argument: what the four functions of package mink return, and that it is unique.
  The laws of package mink, without the program.
-/
import Derived.Test.YteglefjnbkocgaaMinkCon
namespace Go.Proofs.Yteglefjnbkocgaa
open Go.RowKit Hl
namespace Mk
def SumIs (p q : List Pt) (k : Int) (r : List Pt) : Prop := (¬ (Vl p ∧ Vl q) ∧ k = 1 ∧ r = []) ∨ ((Vl p ∧ Vl q) ∧ ∃ s, IsHull (sums p q) s ∧ ((¬ Plcs s ∧ k = 3 ∧ r = []) ∨ (Plcs s ∧ k = 0 ∧ ((s.length ≤ 64 ∧ r = s) ∨ (64 < s.length ∧ IsOct s r)))))
def ShfIs (p : List Pt) (z : Pt) (k : Int) (r : List Pt) : Prop := (¬ (Vl p ∧ Plc z) ∧ k = 1 ∧ r = []) ∨ ((Vl p ∧ Plc z) ∧ ((¬ Plcs (shift p z) ∧ k = 3 ∧ r = []) ∨ (Plcs (shift p z) ∧ k = 0 ∧ r = shift p z)))
def MirIs (p : List Pt) (k : Int) (r : List Pt) : Prop := (¬ Vl p ∧ k = 1 ∧ r = []) ∨ (Vl p ∧ k = 0 ∧ IsHull (mirror p) r)
def DskIs (n : Int) (k : Int) (r : List Pt) : Prop := (¬ (0 ≤ n ∧ n ≤ 100000) ∧ k = 1 ∧ r = []) ∨ ((0 ≤ n ∧ n ≤ 100000) ∧ k = 0 ∧ ∃ m, Wd n m ∧ IsHull (diskL n m) r)
/-- It returns the answer of these. -/
def Ans (P : Int → List Pt → Prop) (w : World) (e : Ending) (w' : World) : Prop := ∃ v k r, P k r ∧ e = .returned (.tuple #[v, .int .i64 k]) ∧ Sl w' v r ∧ Grew w w'
theorem oct_same {p q q' : List Pt} (h : IsOct p q) (h' : IsOct p q') : q = q' := by
  obtain ⟨a, b, c, d, s, t, i, j, h1, h2, h3, h4, h5, h6, h7, h8, hq⟩ := h
  obtain ⟨a', b', c', d', s', t', i', j', k1, k2, k3, k4, k5, k6, k7, k8, hr⟩ := h'
  obtain rfl := k1.one h1
  obtain rfl : b' = b := by have := k2.one h2; omega
  obtain rfl := k3.one h3
  obtain rfl : d' = d := by have := k4.one h4; omega
  obtain rfl := k5.one h5
  obtain rfl : t' = t := by have := k6.one h6; omega
  obtain rfl := k7.one h7
  obtain rfl : j' = j := by have := k8.one h8; omega
  exact hull_unique hq hr
theorem SumIs.one {p q r r' : List Pt} {k k' : Int} (h : SumIs p q k r) (h' : SumIs p q k' r') : k = k' ∧ r = r' := by
  rcases h with ⟨a, rfl, rfl⟩ | ⟨a, s, hs, h⟩ <;> rcases h' with ⟨a', rfl, rfl⟩ | ⟨a', s', hs', h'⟩
  · exact ⟨rfl, rfl⟩
  · exact absurd a' a
  · exact absurd a a'
  · obtain rfl := hull_unique hs hs'
    rcases h with ⟨b, rfl, rfl⟩ | ⟨b, rfl, h⟩ <;> rcases h' with ⟨b', rfl, rfl⟩ | ⟨b', rfl, h'⟩
    · exact ⟨rfl, rfl⟩
    · exact absurd b' b
    · exact absurd b b'
    · rcases h with ⟨c, rfl⟩ | ⟨c, h⟩ <;> rcases h' with ⟨c', rfl⟩ | ⟨c', h'⟩
      · exact ⟨rfl, rfl⟩
      · exfalso; omega
      · exfalso; omega
      · exact ⟨rfl, oct_same h h'⟩
theorem ShfIs.one {p r r' : List Pt} {z : Pt} {k k' : Int} (h : ShfIs p z k r) (h' : ShfIs p z k' r') : k = k' ∧ r = r' := by
  rcases h with ⟨a, rfl, rfl⟩ | ⟨a, h⟩ <;> rcases h' with ⟨a', rfl, rfl⟩ | ⟨a', h'⟩
  · exact ⟨rfl, rfl⟩
  · exact absurd a' a
  · exact absurd a a'
  · rcases h with ⟨b, rfl, rfl⟩ | ⟨b, rfl, rfl⟩ <;> rcases h' with ⟨b', rfl, rfl⟩ | ⟨b', rfl, rfl⟩
    · exact ⟨rfl, rfl⟩
    · exact absurd b' b
    · exact absurd b b'
    · exact ⟨rfl, rfl⟩
theorem MirIs.one {p r r' : List Pt} {k k' : Int} (h : MirIs p k r) (h' : MirIs p k' r') : k = k' ∧ r = r' := by
  rcases h with ⟨a, rfl, rfl⟩ | ⟨a, rfl, h⟩ <;> rcases h' with ⟨a', rfl, rfl⟩ | ⟨a', rfl, h'⟩
  · exact ⟨rfl, rfl⟩
  · exact absurd a' a
  · exact absurd a a'
  · exact ⟨rfl, hull_unique h h'⟩
theorem DskIs.one {n : Int} {r r' : List Pt} {k k' : Int} (h : DskIs n k r) (h' : DskIs n k' r') : k = k' ∧ r = r' := by
  rcases h with ⟨a, rfl, rfl⟩ | ⟨a, rfl, m, hm, h⟩ <;> rcases h' with ⟨a', rfl, rfl⟩ | ⟨a', rfl, m', hm', h'⟩
  · exact ⟨rfl, rfl⟩
  · exact absurd a' a
  · exact absurd a a'
  · obtain rfl := wd_unique hm hm'
    exact ⟨rfl, hull_unique h h'⟩
variable {fs fh fm fd : Nat}
theorem Fns.sum (F : Fns fs fh fm fd) (p q : List Pt) (v u : Value) (w : World) (hs : Sl w v p) (hu : Sl w u q) (h1 : p.length ≤ 9223372036854775807) (h2 : q.length ≤ 9223372036854775807) : Calls Try.prog fs #[v, u] w (Ans (SumIs p q) w) := by
  by_cases h : Vl p ∧ Vl q
  · refine (F.sum_ok p q v u w hs hu h.1 h.2).mono ?_
    rintro e w' ⟨s, hh, ⟨b, v', rfl, sl, g⟩ | ⟨b, v', t, ht, rfl, sl, g⟩⟩
    · exact ⟨v', 3, [], Or.inr ⟨h, s, hh, Or.inl ⟨b, rfl, rfl⟩⟩, rfl, sl, g⟩
    · exact ⟨v', 0, t, Or.inr ⟨h, s, hh, Or.inr ⟨b, rfl, ht⟩⟩, rfl, sl, g⟩
  · refine (F.sum_bad p q v u w hs hu h1 h2 h).mono ?_
    rintro e w' ⟨v', rfl, sl, g⟩
    exact ⟨v', 1, [], Or.inl ⟨h, rfl, rfl⟩, rfl, sl, g⟩
theorem Fns.shf (F : Fns fs fh fm fd) (p : List Pt) (z : Pt) (v : Value) (w : World) (hs : Sl w v p) (h1 : p.length ≤ 9223372036854775807) : Calls Try.prog fh #[v, .agg #[.int .i64 z.1, .int .i64 z.2]] w (Ans (ShfIs p z) w) := by
  by_cases h : Vl p ∧ Plc z
  · refine (F.shift_ok p z v w hs h.1 h.2).mono ?_
    rintro e w' (⟨b, v', rfl, sl, g⟩ | ⟨b, v', rfl, sl, g⟩)
    · exact ⟨v', 3, [], Or.inr ⟨h, Or.inl ⟨b, rfl, rfl⟩⟩, rfl, sl, g⟩
    · exact ⟨v', 0, shift p z, Or.inr ⟨h, Or.inr ⟨b, rfl, rfl⟩⟩, rfl, sl, g⟩
  · refine (F.shift_bad p z v w hs h1 h).mono ?_
    rintro e w' ⟨v', rfl, sl, g⟩
    exact ⟨v', 1, [], Or.inl ⟨h, rfl, rfl⟩, rfl, sl, g⟩
theorem Fns.mir (F : Fns fs fh fm fd) (p : List Pt) (v : Value) (w : World) (hs : Sl w v p) (h1 : p.length ≤ 9223372036854775807) : Calls Try.prog fm #[v] w (Ans (MirIs p) w) := by
  by_cases h : Vl p
  · refine (F.mir_ok p v w hs h).mono ?_
    rintro e w' ⟨v', m, hm, rfl, sl, g⟩
    exact ⟨v', 0, m, Or.inr ⟨h, rfl, hm⟩, rfl, sl, g⟩
  · refine (F.mir_bad p v w hs h1 h).mono ?_
    rintro e w' ⟨v', rfl, sl, g⟩
    exact ⟨v', 1, [], Or.inl ⟨h, rfl, rfl⟩, rfl, sl, g⟩
theorem Fns.dsk (F : Fns fs fh fm fd) (n : Int) (w : World) : Calls Try.prog fd #[.int .i64 n] w (Ans (DskIs n) w) := by
  by_cases h : 0 ≤ n ∧ n ≤ 100000
  · refine (F.disk_ok n w h.1 h.2).mono ?_
    rintro e w' ⟨v', m, d, hm, hd, rfl, sl, g⟩
    exact ⟨v', 0, d, Or.inr ⟨h, rfl, m, hm, hd⟩, rfl, sl, g⟩
  · refine (F.disk_bad n w h).mono ?_
    rintro e w' ⟨v', rfl, sl, g⟩
    exact ⟨v', 1, [], Or.inl ⟨h, rfl, rfl⟩, rfl, sl, g⟩
theorem hull_le {l q : List Pt} (h : IsHull l q) : q.length ≤ l.length := by
  have hnd : ∀ i j, i < q.length → j < q.length → i ≠ j → at' q i ≠ at' q j := fun _ _ hi hj hne => pg_distinct h.1 hi hj hne
  exact count_le (at' q) q.length l (fun _ _ hi hj hne => hnd _ _ hi hj hne) (fun _ hi => h.2.1 _ (at_mem hi))
theorem oct_le {p q : List Pt} (h : IsOct p q) : q.length ≤ 8 := by
  obtain ⟨a, b, c, d, s, t, i, j, _, _, _, _, _, _, _, _, hq⟩ := h
  have := hull_le hq
  simpa [octL] using this
theorem SumIs.few {p q r : List Pt} {k : Int} (h : SumIs p q k r) : r.length ≤ 64 := by
  rcases h with ⟨_, _, rfl⟩ | ⟨_, s, hs, ⟨_, _, rfl⟩ | ⟨_, _, ⟨a, rfl⟩ | ⟨_, h⟩⟩⟩
  · decide
  · decide
  · exact a
  · have := oct_le h; omega
theorem ShfIs.few {p r : List Pt} {z : Pt} {k : Int} (h : ShfIs p z k r) : r.length ≤ 64 := by
  rcases h with ⟨_, _, rfl⟩ | ⟨a, ⟨_, _, rfl⟩ | ⟨_, _, rfl⟩⟩
  · decide
  · decide
  · rw [shift_len]; exact a.1.1.2
theorem MirIs.few {p r : List Pt} {k : Int} (h : MirIs p k r) : r.length ≤ 64 := by
  rcases h with ⟨_, _, rfl⟩ | ⟨a, _, h⟩
  · decide
  · have := hull_le h; rw [mirror_len] at this; have := a.1.2; omega
theorem DskIs.few {n : Int} {r : List Pt} {k : Int} (h : DskIs n k r) : r.length ≤ 8 := by
  rcases h with ⟨_, _, rfl⟩ | ⟨_, _, m, _, h⟩
  · decide
  · have := hull_le h; simpa [diskL, octL] using this
end Mk
end Go.Proofs.Yteglefjnbkocgaa
namespace Go.Proofs.Yteglefjnbkocgaa
open Go.RowKit Hl
namespace Mk
theorem has_plc {p : List Pt} (hp : Pg p) (hl : Plcs p) {x : Pt} (hx : Hs p x) : Plc x := by
  obtain ⟨i1, l1, e1⟩ := hs_least hp hx 1 0 0
  obtain ⟨i2, l2, e2⟩ := hs_least hp hx (-1) 0 0
  obtain ⟨i3, l3, e3⟩ := hs_least hp hx 0 1 0
  obtain ⟨i4, l4, e4⟩ := hs_least hp hx 0 (-1) 0
  have p1 := hl i1 l1
  have p2 := hl i2 l2
  have p3 := hl i3 l3
  have p4 := hl i4 l4
  unfold af at e1 e2 e3 e4
  unfold Plc at *
  omega
theorem oct_wide {p q : List Pt} (hg : Pg p) (hpl : Plcs p) (h : IsOct p q) : Vl q ∧ ∀ x, Hs p x → Hs q x := by
  obtain ⟨a, b, c, d, s, t, i, j, h1, h2, h3, h4, h5, h6, h7, h8, hq⟩ := h
  obtain ⟨B, K⟩ := bd_of h1 h2 h3 h4 h5 h6 h7 h8
  have O := oct_keeps B
  have hn : q.length ≤ 8 := hull_le hq
  have hpl : Plcs q := fun n hn => by
    have hk := O _ (hq.2.1 _ (at_mem hn))
    obtain ⟨y1, g1, e1⟩ := h1.1
    obtain ⟨y2, g2, e2⟩ := h2.1
    obtain ⟨y3, g3, e3⟩ := h3.1
    obtain ⟨y4, g4, e4⟩ := h4.1
    obtain ⟨n1, l1, r1⟩ := mem_at g1
    obtain ⟨n2, l2, r2⟩ := mem_at g2
    obtain ⟨n3, l3, r3⟩ := mem_at g3
    obtain ⟨n4, l4, r4⟩ := mem_at g4
    have p1 := hpl n1 l1
    have p2 := hpl n2 l2
    have p3 := hpl n3 l3
    have p4 := hpl n4 l4
    rw [r1] at p1
    rw [r2] at p2
    rw [r3] at p3
    rw [r4] at p4
    unfold Keeps at hk
    unfold Plc at p1 p2 p3 p4 ⊢
    omega
  refine ⟨vl_of hq.1 (by omega) hpl, fun x hx => ?_⟩
  have hk : Keeps a b c d s t i j x := by
    have g : ∀ u v m, IsMin p u v m → m ≤ u * x.1 + v * x.2 := by
      intro u v m hm
      obtain ⟨n, hn, hle⟩ := hs_least hg hx u v 0
      have := hm.2 _ (at_mem hn)
      unfold af at hle
      omega
    have e1 := g _ _ _ h1
    have e2 := g _ _ _ h2
    have e3 := g _ _ _ h3
    have e4 := g _ _ _ h4
    have e5 := g _ _ _ h5
    have e6 := g _ _ _ h6
    have e7 := g _ _ _ h7
    have e8 := g _ _ _ h8
    unfold Keeps
    omega
  exact hs_of_least _ hq.1 hq.2.2 (oct_least hk)
theorem vl_hull {l s : List Pt} (h : IsHull l s) (hl : s.length ≤ 64) (hp : Plcs s) : Vl s := vl_of h.1 hl hp
theorem sum_good {p q r : List Pt} (h : SumIs p q 0 r) (hv : Vl p ∧ Vl q) : ∃ s, IsHull (sums p q) s ∧ Plcs s ∧ ((s.length ≤ 64 ∧ r = s) ∨ (64 < s.length ∧ IsOct s r)) := by
  rcases h with ⟨a, _, _⟩ | ⟨_, s, hs, ⟨_, e, _⟩ | ⟨b, _, c⟩⟩
  · exact absurd hv a
  · exact absurd e (by decide)
  · exact ⟨s, hs, b, c⟩
theorem sum_keys {p q r : List Pt} {k : Int} (h : SumIs p q k r) (hv : Vl p ∧ Vl q) : k = 0 ∨ (k = 3 ∧ r = []) := by
  rcases h with ⟨a, _, _⟩ | ⟨_, s, hs, ⟨_, e, e'⟩ | ⟨b, c, _⟩⟩
  · exact absurd hv a
  · exact Or.inr ⟨e, e'⟩
  · exact Or.inl c
/-- P6.2 -/
theorem sums_law {p q r : List Pt} (hp : Vl p) (hq : Vl q) (h : SumIs p q 0 r) : Vl r ∧ ∀ x y, Hs p x → Hs q y → Hs r (plus x y) := by
  obtain ⟨s, hs, hl, ⟨a, rfl⟩ | ⟨a, ho⟩⟩ := sum_good h ⟨hp, hq⟩
  · exact ⟨vl_hull hs a hl, fun x y hx hy => sum_has hp.pg hq.pg hs hx hy⟩
  · obtain ⟨v, f⟩ := oct_wide hs.1 hl ho
    exact ⟨v, fun x y hx hy => f _ (sum_has hp.pg hq.pg hs hx hy)⟩
/-- P6.4, the first half -/
theorem SumIs.comm {p q r : List Pt} {k : Int} (h : SumIs p q k r) : SumIs q p k r := by
  rcases h with ⟨a, b, c⟩ | ⟨a, s, hs, d⟩
  · exact Or.inl ⟨fun t => a ⟨t.2, t.1⟩, b, c⟩
  · exact Or.inr ⟨⟨a.2, a.1⟩, s, sum_comm hs, d⟩
theorem sum_small {p q r : List Pt} (h : SumIs p q 0 r) (hp : Vl p) (hq : Vl q) (hl : p.length + q.length ≤ 64) : IsHull (sums p q) r ∧ Vl r ∧ r.length ≤ p.length + q.length := by
  obtain ⟨s, hs, hpl, c⟩ := sum_good h ⟨hp, hq⟩
  have := sum_count hp.pg hq.pg hs
  rcases c with ⟨a, rfl⟩ | ⟨a, _⟩
  · exact ⟨hs, vl_hull hs a hpl, this⟩
  · exfalso; omega
theorem order_law {p q r a c l t : List Pt} {h i : Int} (hp : Vl p) (hq : Vl q) (hr : Vl r) (hl : p.length + q.length + r.length ≤ 64) (ha : SumIs p q 0 a) (hc : SumIs q r 0 c) (h1 : SumIs a r h l) (h2 : SumIs p c i t) : h = i ∧ l = t := by
  obtain ⟨A, VA, LA⟩ := sum_small ha hp hq (by omega)
  obtain ⟨C, VC, LC⟩ := sum_small hc hq hr (by omega)
  rcases h1 with ⟨n, _, _⟩ | ⟨_, s, hs, d⟩
  · exact absurd ⟨VA, hr⟩ n
  rcases h2 with ⟨n, _, _⟩ | ⟨_, s', hs', d'⟩
  · exact absurd ⟨hp, VC⟩ n
  obtain rfl := sum_assoc hp.pg hq.pg hr.pg A hs C hs'
  have e : SumIs a r h l := Or.inr ⟨⟨VA, hr⟩, s, hs, d⟩
  have e' : SumIs a r i t := Or.inr ⟨⟨VA, hr⟩, s, hs, d'⟩
  exact e.one e'
theorem one_vl {z : Pt} (hz : Plc z) : Vl [z] := ⟨⟨by simp, by simp⟩, plcs_of (fun x hx => by rw [List.mem_singleton] at hx; subst hx; exact hz), fun i h1 h2 => by simp at h2; omega, fun h => absurd h (by simp)⟩
/-- P6.5 -/
theorem shift_law {p a b : List Pt} {z : Pt} {e f : Int} (hp : Vl p) (hz : Plc z) (h1 : ShfIs p z e a) (h2 : SumIs p [z] f b) : e = f ∧ a = b := by
  rcases h2 with ⟨n, _, _⟩ | ⟨_, s, hs, d⟩
  · exact absurd ⟨hp, one_vl hz⟩ n
  obtain rfl := hull_unique hs (shift_sum hp.pg z)
  rcases h1 with ⟨n, _, _⟩ | ⟨_, h⟩
  · exact absurd ⟨hp, hz⟩ n
  have hl : (shift p z).length ≤ 64 := by rw [shift_len]; exact hp.1.2
  rcases h with ⟨n, rfl, rfl⟩ | ⟨n, rfl, rfl⟩ <;> rcases d with ⟨n', rfl, rfl⟩ | ⟨n', rfl, d⟩
  · exact ⟨rfl, rfl⟩
  · exact absurd n' n
  · exact absurd n n'
  · rcases d with ⟨_, rfl⟩ | ⟨d, _⟩
    · exact ⟨rfl, rfl⟩
    · exfalso; omega
theorem shf_good {p a : List Pt} {z : Pt} (hp : Vl p) (hz : Plc z) (h : ShfIs p z 0 a) : a = shift p z ∧ Vl a := by
  rcases h with ⟨n, _, _⟩ | ⟨_, ⟨_, e, _⟩ | ⟨n, _, rfl⟩⟩
  · exact absurd ⟨hp, hz⟩ n
  · exact absurd e (by decide)
  · exact ⟨rfl, vl_of (shift_pg hp.pg z) (by rw [shift_len]; exact hp.1.2) n⟩
theorem shifts_law {p q a s c d : List Pt} {z : Pt} {h i : Int} (hp : Vl p) (hq : Vl q) (hz : Plc z) (hl : p.length + q.length ≤ 64) (h1 : ShfIs p z 0 a) (h2 : SumIs p q 0 s) (h3 : ShfIs s z h c) (h4 : SumIs a q i d) : h = i ∧ c = d := by
  obtain ⟨rfl, va⟩ := shf_good hp hz h1
  obtain ⟨S, VS, LS⟩ := sum_small h2 hp hq hl
  rcases h4 with ⟨n, _, _⟩ | ⟨_, t, ht, d'⟩
  · exact absurd ⟨va, hq⟩ n
  obtain rfl := hull_unique ht (sum_shift S z)
  rcases h3 with ⟨n, _, _⟩ | ⟨_, h⟩
  · exact absurd ⟨VS, hz⟩ n
  have hl : (shift s z).length ≤ 64 := by rw [shift_len]; omega
  rcases h with ⟨n, rfl, rfl⟩ | ⟨n, rfl, rfl⟩ <;> rcases d' with ⟨n', rfl, rfl⟩ | ⟨n', rfl, d'⟩
  · exact ⟨rfl, rfl⟩
  · exact absurd n' n
  · exact absurd n n'
  · rcases d' with ⟨_, rfl⟩ | ⟨d', _⟩
    · exact ⟨rfl, rfl⟩
    · exfalso; omega
/-- P6.6 -/
theorem mir_good {p m : List Pt} {k : Int} (hp : Vl p) (h : MirIs p k m) : k = 0 ∧ IsHull (mirror p) m ∧ Vl m := by
  rcases h with ⟨n, _, _⟩ | ⟨_, rfl, hm⟩
  · exact absurd hp n
  · refine ⟨rfl, hm, vl_hull hm (by have := hull_le hm; rw [mirror_len] at this; have := hp.1.2; omega) fun i hi => ?_⟩
    obtain hx := mem_mirror.1 (hm.2.1 _ (at_mem hi))
    obtain ⟨j, hj, e⟩ := mem_at hx
    have := hp.2.1 j hj
    rw [e] at this
    unfold neg Plc at this
    unfold Plc
    simp only at this
    omega
theorem mir_twice {p m b : List Pt} {k : Int} (hp : Vl p) (hm : IsHull (mirror p) m) (vm : Vl m) (h : MirIs m k b) : k = 0 ∧ b = p := by
  obtain ⟨rfl, hb, _⟩ := mir_good vm h
  exact ⟨rfl, hull_unique hb (mirror_back hp.pg hm)⟩
theorem mir_sum {p m s : List Pt} (hp : Vl p) (hm : IsHull (mirror p) m) (vm : Vl m) (h : SumIs p m 0 s) : Vl s ∧ Hs s (0, 0) := by
  obtain ⟨t, ht, hl, ⟨a, rfl⟩ | ⟨a, ho⟩⟩ := sum_good h ⟨hp, vm⟩
  · exact ⟨vl_hull ht a hl, mirror_zero hp.pg hm ht⟩
  · obtain ⟨v, f⟩ := oct_wide ht.1 hl ho
    exact ⟨v, f _ (mirror_zero hp.pg hm ht)⟩
theorem neg_plc {x : Pt} (h : Plc x) : Plc (neg x) := by
  unfold neg Plc at *
  simp only
  omega
/-- P6.7 -/
theorem dsk_good {n : Int} {r : List Pt} {k : Int} (h0 : 0 ≤ n) (h1 : n ≤ 100000) (h : DskIs n k r) : k = 0 ∧ Vl r ∧ ∃ m, Wd n m ∧ IsHull (diskL n m) r := by
  rcases h with ⟨a, _, _⟩ | ⟨_, rfl, m, hm, hd⟩
  · exact absurd ⟨h0, h1⟩ a
  · refine ⟨rfl, vl_hull hd (by have := hull_le hd; simp [diskL, octL] at this; omega) fun i hi => ?_, m, hm, hd⟩
    have r := wd_range h0 hm
    have := in_far ((disk_has h0 r.1 r.2 hd _).1 ((hull_self hd.1).2.2 _ (at_mem hi)))
    unfold Plc
    omega
theorem dsk_in {n : Int} {r : List Pt} (h0 : 0 ≤ n) (h : ∃ m, Wd n m ∧ IsHull (diskL n m) r) (x : Pt) : (x.1 * x.1 + x.2 * x.2 ≤ n * n → Hs r x) ∧ (Hs r x → -n ≤ x.1 ∧ x.1 ≤ n ∧ -n ≤ x.2 ∧ x.2 ≤ n) := by
  obtain ⟨m, hm, hd⟩ := h
  have r := wd_range h0 hm
  exact ⟨fun t => (disk_has h0 r.1 r.2 hd _).2 (in_near h0 hm t), fun t => in_far ((disk_has h0 r.1 r.2 hd _).1 t)⟩
theorem dsk_sum {n k g : Int} {p q s d : List Pt} (h0 : 0 ≤ n) (k0 : 0 ≤ k) (h1 : n + k ≤ 100000) (hp : DskIs n 0 p) (hq : DskIs k 0 q) (hd : DskIs (n + k) 0 d) (hs : SumIs p q g s) : g = 0 ∧ Vl s ∧ ∀ y, y ∈ d → Hs s y := by
  obtain ⟨_, vp, m, hm, P⟩ := dsk_good h0 (by omega) hp
  obtain ⟨_, vq, l, hl, Q⟩ := dsk_good k0 (by omega) hq
  obtain ⟨_, vd, M, hM, D⟩ := dsk_good (by omega) h1 hd
  have rp := wd_range h0 hm
  have rq := wd_range k0 hl
  rcases hs with ⟨a, _, _⟩ | ⟨_, t, ht, c⟩
  · exact absurd ⟨vp, vq⟩ a
  have hpl : Plcs t := fun i hi => by
    obtain ⟨x, hx, y, hy, e⟩ := mem_sums.1 (ht.2.1 _ (at_mem hi))
    have := in_far ((disk_has h0 rp.1 rp.2 P _).1 ((hull_self P.1).2.2 _ hx))
    have := in_far ((disk_has k0 rq.1 rq.2 Q _).1 ((hull_self Q.1).2.2 _ hy))
    rw [← e]
    unfold plus Plc
    simp only
    omega
  have hc := sum_count vp.pg vq.pg ht
  have h8 := hull_le P
  have h8' := hull_le Q
  simp [diskL, octL] at h8 h8'
  rcases c with ⟨n, _, _⟩ | ⟨_, rfl, ⟨_, rfl⟩ | ⟨n, _⟩⟩
  · exact absurd hpl n
  · exact ⟨rfl, vl_hull ht (by omega) hpl, fun y hy => disk_sum h0 k0 hm hl hM P Q ht D hy⟩
  · exfalso; omega
end Mk
end Go.Proofs.Yteglefjnbkocgaa
