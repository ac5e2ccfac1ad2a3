/-
  Slices of points as values; Same, Few.
  What package hull owes, a contract each, and what follows of it at the examples.
  The landed package hull: what speaks of single places.
-/
import Derived.IntWalk
import Derived.Test.YtlookcbokhknfaaGreatHullIn
namespace Go.Proofs.YtlookcbokhknfaaGreat
open Go.RowKit
namespace Hl
/-- A slice that reads as these points. -/
def Sl (w : World) (v : Value) (p : List Pt) : Prop := (p = [] ∧ ∃ a c, v = .slice a 0 c) ∨ ∃ b o c, v = .slice (some ⟨b, o, none⟩) p.length c ∧ Row w b o p
theorem Sl.grown {w w' : World} {v : Value} {p : List Pt} (h : Sl w v p) (g : Grew w w') : Sl w' v p := by
  rcases h with h | ⟨b, o, c, h, k⟩
  · exact Or.inl h
  · exact Or.inr ⟨b, o, c, h, k.grown g⟩

theorem same_rows (p q : List Pt) (b o c b' o' c' : Nat) (w : World) (hp : Row w b o p) (hq : Row w b' o' q) (hl : p.length = q.length) (hm : p.length ≤ 9223372036854775807) : Calls Tryz.prog 44 #[.slice (some ⟨b, o, none⟩) p.length c, .slice (some ⟨b', o', none⟩) q.length c'] w (Tells (p = q) w) := by
  have HP := Lib.hid hp
  have HQ := Lib.hid hq
  have HL := Lib.hid hl
  rw [← hl]
  clear hp hq hl
  go_enter Tryz.func44, Tryz.ntmps44
  go_wp2_with fail
  go_loopw [5] (fun i wr => ∃ k : Nat, k ≤ p.length ∧ i = .int .i64 k ∧ (∃ n, wr = w.drewN n) ∧ Hid (∀ j, j < k → at' p j = at' q j)) (fun i _ => p.length - (intOf i).toNat)
  case atStart => exact ⟨0, Nat.zero_le _, rfl, ⟨0, rfl⟩, Lib.hid (fun j hj => by omega)⟩
  case round =>
    obtain ⟨k, hk, rfl, ⟨n, rfl⟩, D⟩ := hrel
    by_cases hlt : k < p.length
    · obtain ⟨s0, s1⟩ := HP.out.2 k hlt
      obtain ⟨s2, s3⟩ := HQ.out.2 k (by have := HL.out; omega)
      have i0 : (0 : Int) ≤ (k : Int) := by omega
      have i1 : (k : Int) < (p.length : Int) := by omega
      obtain ⟨⟨y1, y2⟩, hy⟩ : ∃ y, at' p k = y := ⟨_, rfl⟩
      obtain ⟨⟨z1, z2⟩, hz⟩ : ∃ z, at' q k = z := ⟨_, rfl⟩
      rw [hy] at s0 s1
      rw [hz] at s2 s3
      have HY := Lib.hid hy
      have HZ := Lib.hid hz
      clear hy hz
      simp only at s0 s1 s2 s3
      by_cases e1 : y1 = z1
      · by_cases e2 : y2 = z2
        · subst e1 e2
          have E : Hid (∀ j, j < k + 1 → at' p j = at' q j) := Lib.hid (fun j hj => by
            by_cases e : j = k
            · rw [e, HY.out, HZ.out]
            · exact D.out j (by omega))
          go_wp2_with fail
          go_quiet (fail)
          go_wp2_with fail
          go_roundw
          case rel => exact ⟨k + 1, by omega, by go_num, ⟨_, rfl⟩, E⟩
          case measure => simp [intOf]; omega
        · have N : Hid (¬ p = q) := Lib.hid (fun h => by
            have := HY.out
            rw [h, HZ.out] at this
            exact e2 (congrArg Prod.snd this).symm)
          subst e1
          go_wp2_with fail
          go_quiet (fail)
          go_wp2_with fail
          go_ret
          exact Tells.no N.out rfl (by (repeat' (first | (with_reducible exact Grew.refl _) | (with_reducible assumption) | (with_reducible refine Grew.alloc ?_ _ _) | (with_reducible refine Grew.drew ?_) | (with_reducible refine Grew.drewN ?_ _) | (with_reducible refine Grew.setCell ?_ ?_ _) | go_size)))
      · have N : Hid (¬ p = q) := Lib.hid (fun h => by
          have := HY.out
          rw [h, HZ.out] at this
          exact e1 (congrArg Prod.fst this).symm)
        go_wp2_with fail
        go_quiet (fail)
        go_wp2_with fail
        go_ret
        exact Tells.no N.out rfl (by (repeat' (first | (with_reducible exact Grew.refl _) | (with_reducible assumption) | (with_reducible refine Grew.alloc ?_ _ _) | (with_reducible refine Grew.drew ?_) | (with_reducible refine Grew.drewN ?_ _) | (with_reducible refine Grew.setCell ?_ ?_ _) | go_size)))
    · go_wp2_with fail
      go_ret
      exact Tells.yes (ext_at HL.out (fun i hi => D.out i (by omega))) rfl (by (repeat' (first | (with_reducible exact Grew.refl _) | (with_reducible assumption) | (with_reducible refine Grew.alloc ?_ _ _) | (with_reducible refine Grew.drew ?_) | (with_reducible refine Grew.drewN ?_ _) | (with_reducible refine Grew.setCell ?_ ?_ _) | go_size)))

theorem len_nil {p : List Pt} (h : p.length = 0) : p = [] := List.length_eq_zero_iff.1 h
theorem same_far (p q : List Pt) (n m : Nat) (v v' : Value) (w : World) (hv : (∃ a c, v = .slice a n c) ∧ ∃ a c, v' = .slice a m c) (hn : ¬ p = q) (h : n ≠ m) : Calls Tryz.prog 44 #[v, v'] w (Tells (p = q) w) := by
  obtain ⟨⟨a, c, rfl⟩, ⟨a', c', rfl⟩⟩ := hv
  have H := Lib.hid hn
  have d1 : ((n : Int) != (m : Int)) = true := by rw [bne_iff_ne]; omega
  have d2 : ((n : Int) == (m : Int)) = false := by rw [beq_eq_false_iff_ne]; omega
  clear hn h
  go_enter Tryz.func44, Tryz.ntmps44
  go_wp2_with fail
  go_ret
  exact Tells.no H.out rfl (Grew.refl _)
theorem same_zero (v v' : Value) (w : World) (hv : (∃ a c, v = .slice a 0 c) ∧ ∃ a c, v' = .slice a 0 c) : Calls Tryz.prog 44 #[v, v'] w (Tells (([] : List Pt) = []) w) := by
  obtain ⟨⟨a, c, rfl⟩, ⟨a', c', rfl⟩⟩ := hv
  have H := Lib.hid (rfl : ([] : List Pt) = [])
  go_enter Tryz.func44, Tryz.ntmps44
  go_wp2_with fail
  refine wp_loop_rounds 1 ?_
  rw [rounds_succ]
  go_wp2_with fail
  go_ret
  exact Tells.yes H.out rfl (Grew.refl _)
theorem Sl.shape {w : World} {v : Value} {p : List Pt} (h : Sl w v p) : ∃ a c, v = .slice a p.length c := by
  rcases h with ⟨rfl, a, c, rfl⟩ | ⟨b, o, c, rfl, _⟩
  · exact ⟨a, c, rfl⟩
  · exact ⟨_, _, rfl⟩
theorem same_any (p q : List Pt) (v v' : Value) (w : World) (hp : Sl w v p) (hq : Sl w v' q) (hm : p.length ≤ 9223372036854775807) : Calls Tryz.prog 44 #[v, v'] w (Tells (p = q) w) := by
  by_cases hl : p.length = q.length
  · by_cases h0 : p.length = 0
    · obtain ⟨a, c, e1⟩ := hp.shape
      obtain ⟨a', c', e2⟩ := hq.shape
      rw [h0] at e1
      rw [← hl, h0] at e2
      have e3 := len_nil h0
      have e4 := len_nil (hl ▸ h0)
      subst e3 e4
      exact same_zero v v' w ⟨⟨a, c, e1⟩, ⟨a', c', e2⟩⟩
    · rcases hp with ⟨e, _⟩ | ⟨b, o, c, e1, hr⟩
      · rw [e] at h0; exact absurd rfl h0
      · rcases hq with ⟨e, _⟩ | ⟨b', o', c', e2, hr'⟩
        · rw [e] at hl; exact absurd hl h0
        · rw [e1, e2]; exact same_rows p q b o c b' o' c' w hr hr' hl hm
  · exact same_far p q p.length q.length v v' w ⟨hp.shape, hq.shape⟩ (fun h => hl (by rw [h])) hl
end Hl
end Go.Proofs.YtlookcbokhknfaaGreat
namespace Go.Proofs.YtlookcbokhknfaaGreat
open Go.RowKit
namespace Hl
/-- The bounds of points: the least and the greatest of u X + v Y. -/
def IsMin (p : List Pt) (u v m : Int) : Prop := (∃ x, x ∈ p ∧ u * x.1 + v * x.2 = m) ∧ ∀ x, x ∈ p → m ≤ u * x.1 + v * x.2
/-- The corners of the eight-sided hull, out of the bounds: X from a to b, Y from c to d, X + Y from s to t, X - Y from i to j. -/
def octL (a b c d s t i j : Int) : List Pt := [(b, b - j), (b, t - b), (t - d, d), (d + i, d), (a, a - i), (a, s - a), (s - c, c), (c + j, c)]
def IsOct (p q : List Pt) : Prop := ∃ a b c d s t i j : Int, IsMin p 1 0 a ∧ IsMin p (-1) 0 (-b) ∧ IsMin p 0 1 c ∧ IsMin p 0 (-1) (-d) ∧ IsMin p 1 1 s ∧ IsMin p (-1) (-1) (-t) ∧ IsMin p 1 (-1) i ∧ IsMin p (-1) 1 (-j) ∧ IsHull (octL a b c d s t i j) q
def IsBox (p : List Pt) (lo hi : Pt) : Prop := IsMin p 1 0 lo.1 ∧ IsMin p (-1) 0 (-hi.1) ∧ IsMin p 0 1 lo.2 ∧ IsMin p 0 (-1) (-hi.2)

def Empty (k : Int) (w : World) (e : Ending) (w' : World) : Prop := ∃ v, e = .returned (.tuple #[v, .int .i64 k]) ∧ Sl w' v [] ∧ Grew w w'
def HasSays (p : List Pt) (x : Pt) (w : World) (e : Ending) (w' : World) : Prop := ∃ r : Bool, e = .returned (.tuple #[.bool r, .int .i64 0]) ∧ (r = true ↔ Hs p x) ∧ Grew w w'
def HullSays (l : List Pt) (w : World) (e : Ending) (w' : World) : Prop := ∃ q, IsHull l q ∧ ((q.length ≤ 64 ∧ ∃ v, e = .returned (.tuple #[v, .int .i64 0]) ∧ Sl w' v q ∧ Grew w w') ∨ (64 < q.length ∧ Empty 2 w e w'))
def EightSays (p : List Pt) (w : World) (e : Ending) (w' : World) : Prop := ∃ q v, IsOct p q ∧ e = .returned (.tuple #[v, .int .i64 0]) ∧ Sl w' v q ∧ Grew w w'
def BoxSays (p : List Pt) (w : World) (e : Ending) (w' : World) : Prop := ∃ lo hi : Pt, IsBox p lo hi ∧ e = .returned (.tuple #[.agg #[.int .i64 lo.1, .int .i64 lo.2], .agg #[.int .i64 hi.1, .int .i64 hi.2], .int .i64 0]) ∧ Grew w w'

structure Code : Prop where
  valid : ∀ (p : List Pt) (v : Value) (w : World), Sl w v p → p.length ≤ 9223372036854775807 → Calls Tryz.prog 63 #[v] w (Tells (Vl p) w)
  has_ok : ∀ (p : List Pt) (x : Pt) (v : Value) (w : World), Sl w v p → Vl p → Plc x → Calls Tryz.prog 39 #[v, .agg #[.int .i64 x.1, .int .i64 x.2]] w (HasSays p x w)
  has_bad : ∀ (p : List Pt) (x : Pt) (v : Value) (w : World), Sl w v p → p.length ≤ 9223372036854775807 → ¬ (Vl p ∧ Plc x) → Calls Tryz.prog 39 #[v, .agg #[.int .i64 x.1, .int .i64 x.2]] w fun e w' => e = .returned (.tuple #[.bool false, .int .i64 1]) ∧ Grew w w'
  hull_big : ∀ (l : List Pt) (v : Value) (w : World), Sl w v l → l.length ≤ 9223372036854775807 → 4000 < l.length → Calls Tryz.prog 139 #[v] w (Empty 2 w)
  hull_bad : ∀ (l : List Pt) (v : Value) (w : World), Sl w v l → l.length ≤ 4000 → (l = [] ∨ ¬ Plcs l) → Calls Tryz.prog 139 #[v] w (Empty 1 w)
  hull_ok : ∀ (l : List Pt) (v : Value) (w : World), Sl w v l → l.length ≤ 4000 → l ≠ [] → Plcs l → Calls Tryz.prog 139 #[v] w (HullSays l w)
  box_ok : ∀ (p : List Pt) (v : Value) (w : World), Sl w v p → Vl p → Calls Tryz.prog 86 #[v] w (BoxSays p w)
  box_bad : ∀ (p : List Pt) (v : Value) (w : World), Sl w v p → p.length ≤ 9223372036854775807 → ¬ Vl p → Calls Tryz.prog 86 #[v] w fun e w' => e = .returned (.tuple #[.agg #[.int .i64 ((0, 0) : Pt).1, .int .i64 ((0, 0) : Pt).2], .agg #[.int .i64 ((0, 0) : Pt).1, .int .i64 ((0, 0) : Pt).2], .int .i64 1]) ∧ Grew w w'
  eight_ok : ∀ (p : List Pt) (v : Value) (w : World), Sl w v p → Vl p → Calls Tryz.prog 118 #[v] w (EightSays p w)
  eight_bad : ∀ (p : List Pt) (v : Value) (w : World), Sl w v p → p.length ≤ 9223372036854775807 → ¬ Vl p → Calls Tryz.prog 118 #[v] w (Empty 1 w)
/-! ### Points in a new block -/
def cellsOf (p : List Pt) : List Value := p.flatMap fun x => [.int .i64 x.1, .int .i64 x.2]
theorem cellsOf_at : ∀ (p : List Pt) (i : Nat), i < p.length → (cellsOf p)[i * 2]? = some (.int .i64 (at' p i).1) ∧ (cellsOf p)[i * 2 + 1]? = some (.int .i64 (at' p i).2)
  | [], i, h => absurd h (by simp)
  | x :: p, 0, _ => ⟨rfl, rfl⟩
  | x :: p, i + 1, h => by
    have ih := cellsOf_at p i (by simpa using h)
    have e1 : (i + 1) * 2 = i * 2 + 1 + 1 := by omega
    have e2 : at' (x :: p) (i + 1) = at' p i := rfl
    rw [e1, e2]
    exact ih
theorem row_new (p : List Pt) (cs : Array Value) (h : (cellsOf p).toArray = cs) (w : World) (t : TypeId) : Row (w.alloc (.cells cs t)) w.heap.size 0 p := by
  refine ⟨by simp, fun i hi => ?_⟩
  obtain ⟨a, b⟩ := cellsOf_at p i hi
  subst h
  have key : ∀ (j : Nat) (v : Value), (cellsOf p)[j]? = some v → (w.alloc (.cells (cellsOf p).toArray t)).cell? ⟨w.heap.size, 0 + j, none⟩ = some v := by
    intro j v hj
    simp [go_sem, hj]
  exact ⟨key _ _ a, by have := key _ _ b; rwa [← Nat.add_assoc] at this⟩
end Hl
end Go.Proofs.YtlookcbokhknfaaGreat
namespace Go.Proofs.YtlookcbokhknfaaGreat
open Go.RowKit
namespace Hl
theorem coord_c (n : Int) (w : World) : Calls Tryz.prog 128 #[.int .i64 n] w fun e w' => e = .returned (.bool (decide (-500000 ≤ n ∧ n ≤ 500000))) ∧ w = w' := by
  by_cases h1 : -500000 ≤ n
  · by_cases h2 : n ≤ 500000
    · rw [decide_eq_true (show -500000 ≤ n ∧ n ≤ 500000 from ⟨h1, h2⟩)]
      go_enter Tryz.func128, Tryz.ntmps128
      go_wp2_with fail
      go_ret
      exact ⟨rfl, rfl⟩
    · rw [decide_eq_false (show ¬ (-500000 ≤ n ∧ n ≤ 500000) from fun h => h2 h.2)]
      go_enter Tryz.func128, Tryz.ntmps128
      go_wp2_with fail
      go_ret
      exact ⟨rfl, rfl⟩
  · rw [decide_eq_false (show ¬ (-500000 ≤ n ∧ n ≤ 500000) from fun h => h1 h.1)]
    go_enter Tryz.func128, Tryz.ntmps128
    go_wp2_with fail
    go_ret
    exact ⟨rfl, rfl⟩
theorem place_c (x : Pt) (w : World) : Calls Tryz.prog 82 #[.agg #[.int .i64 x.1, .int .i64 x.2]] w fun e w' => e = .returned (.bool (decide (Plc x))) ∧ w.alloc (.cells #[.int .i64 x.1, .int .i64 x.2] 27) = w' := by
  rcases x with ⟨x, y⟩
  have ed : decide (Plc (x, y)) = (decide (-500000 ≤ x ∧ x ≤ 500000) && decide (-500000 ≤ y ∧ y ≤ 500000)) := by
    rw [Bool.eq_iff_iff, decide_eq_true_eq, Bool.and_eq_true, decide_eq_true_eq, decide_eq_true_eq]
    exact Iff.rfl
  rw [ed]
  have cx := fun w => coord_c x w
  have cy := fun w => coord_c y w
  generalize decide (-500000 ≤ x ∧ x ≤ 500000) = p at cx ⊢
  generalize decide (-500000 ≤ y ∧ y ≤ 500000) = q at cy ⊢
  have CX := Lib.hid cx
  have CY := Lib.hid cy
  clear cx cy ed
  cases p
  · go_enter Tryz.func82, Tryz.ntmps82
    go_wp2_with fail
    refine (CX.out _).mono ?_
    rintro e w1 ⟨rfl, rfl⟩
    go_wp2_with fail
    go_ret
    exact ⟨rfl, rfl⟩
  · go_enter Tryz.func82, Tryz.ntmps82
    go_wp2_with fail
    refine (CX.out _).mono ?_
    rintro e w1 ⟨rfl, rfl⟩
    go_wp2_with fail
    refine (CY.out _).mono ?_
    rintro e w1 ⟨rfl, rfl⟩
    go_wp2_with fail
    go_ret
    exact ⟨rfl, rfl⟩
theorem places_c (p : List Pt) (b o c : Nat) (w : World) (hr : Row w b o p) (hl : p.length ≤ 9223372036854775807) : Calls Tryz.prog 113 #[.slice (some ⟨b, o, none⟩) p.length c] w (Tells (Plcs p) w) := by
  have HR := Lib.hid hr
  clear hr
  go_enter Tryz.func113, Tryz.ntmps113
  go_wp2_with fail
  go_loopw [7] (fun i wr => ∃ k : Nat, k ≤ p.length ∧ i = .int .i64 k ∧ Grew w wr ∧ Hid (∀ j, j < k → Plc (at' p j))) (fun i _ => p.length - (intOf i).toNat)
  case atStart => exact ⟨0, Nat.zero_le _, rfl, Grew.refl _, Lib.hid (fun j hj => by omega)⟩
  case round =>
    obtain ⟨k, hk, rfl, G, D⟩ := hrel
    by_cases hlt : k < p.length
    · obtain ⟨q0, q1⟩ := (HR.out.grown G).2 k hlt
      have PX : Hid (∀ w, Calls Tryz.prog 82 #[.agg #[.int .i64 (at' p k).1, .int .i64 (at' p k).2]] w fun e w' => e = .returned (.bool (decide (Plc (at' p k)))) ∧ Grew w w') := Lib.hid (fun w => (place_c (at' p k) w).mono (by rintro e w' ⟨rfl, rfl⟩; exact ⟨rfl, (Grew.refl w).alloc _ _⟩))
      by_cases hp : Plc (at' p k)
      · have HP := Lib.hid hp
        rw [decide_eq_true hp] at PX
        clear hp
        go_wp2_with fail
        refine (PX.out _).mono ?_
        rintro e w1 ⟨rfl, g1⟩
        have G1 : Grew w w1 := Grew.trans (G.alloc _ _) g1
        clear g1
        go_wp2_with fail
        go_roundw
        case rel => exact ⟨k + 1, by omega, by go_num, G1, Lib.hid (fun j hj => by
          by_cases e : j = k
          · rw [e]; exact HP.out
          · exact D.out j (by omega))⟩
        case measure => simp [intOf]; omega
      · have HP := Lib.hid hp
        rw [decide_eq_false hp] at PX
        clear hp
        go_wp2_with fail
        refine (PX.out _).mono ?_
        rintro e w1 ⟨rfl, g1⟩
        have G1 : Grew w w1 := Grew.trans (G.alloc _ _) g1
        clear g1
        go_wp2_with fail
        go_ret
        exact Tells.no (fun h => HP.out (h k hlt)) rfl G1
    · go_wp2_with fail
      go_ret
      exact Tells.yes (fun i hi => D.out i (by omega)) rfl G
theorem less_c (x y : Pt) (w : World) : Calls Tryz.prog 114 #[.agg #[.int .i64 x.1, .int .i64 x.2], .agg #[.int .i64 y.1, .int .i64 y.2]] w fun e w' => e = .returned (.bool (decide (ls x y))) ∧ (w.alloc (.cells #[.int .i64 (x.1), .int .i64 (x.2)] 27)).alloc (.cells #[.int .i64 (y.1), .int .i64 (y.2)] 27) = w' := by
  rcases x with ⟨a, b⟩
  rcases y with ⟨c, d⟩
  by_cases h : ls (a, b) (c, d)
  · rw [decide_eq_true h]
    rcases h with h | ⟨h, k⟩
    · simp only at h
      go_enter Tryz.func114, Tryz.ntmps114
      go_wp2_with fail
      go_ret
      exact ⟨rfl, rfl⟩
    · simp only at h k
      subst h
      go_enter Tryz.func114, Tryz.ntmps114
      go_wp2_with fail
      go_ret
      exact ⟨rfl, rfl⟩
  · rw [decide_eq_false h]
    by_cases e : a = c
    · subst e
      have k : d ≤ b := by
        by_cases k : b < d
        · exact absurd (Or.inr ⟨rfl, k⟩) h
        · omega
      clear h
      go_enter Tryz.func114, Tryz.ntmps114
      go_wp2_with fail
      go_ret
      exact ⟨by first | rfl | (simp; omega), rfl⟩
    · have k : c < a := by
        by_cases k : a < c
        · exact absurd (Or.inl k) h
        · omega
      have e' : (a == c) = false := by simp [e]
      clear h e
      go_enter Tryz.func114, Tryz.ntmps114
      go_wp2_with fail
      go_ret
      exact ⟨by first | rfl | (simp; omega), rfl⟩
theorem turn_c (x y z : Pt) (w : World) (ha : Plc x) (hb : Plc y) (hc : Plc z) : Calls Tryz.prog 85 #[.agg #[.int .i64 x.1, .int .i64 x.2], .agg #[.int .i64 y.1, .int .i64 y.2], .agg #[.int .i64 z.1, .int .i64 z.2]] w fun e w' => e = .returned (.int .i64 (cr x y z)) ∧ ((w.alloc (.cells #[.int .i64 (x.1), .int .i64 (x.2)] 27)).alloc (.cells #[.int .i64 (y.1), .int .i64 (y.2)] 27)).alloc (.cells #[.int .i64 (z.1), .int .i64 (z.2)] 27) = w' := by
  rcases x with ⟨a1, a2⟩
  rcases y with ⟨b1, b2⟩
  rcases z with ⟨c1, c2⟩
  obtain ⟨⟨m0, m1⟩, ⟨m2, m3⟩⟩ := cr_bd ha hb hc
  obtain ⟨⟨p0, p1⟩, ⟨p2, p3⟩⟩ := ha
  obtain ⟨⟨q0, q1⟩, ⟨q2, q3⟩⟩ := hb
  obtain ⟨⟨r0, r1⟩, ⟨r2, r3⟩⟩ := hc
  simp only at p0 p1 p2 p3 q0 q1 q2 q3 r0 r1 r2 r3 m0 m1 m2 m3
  go_enter Tryz.func85, Tryz.ntmps85
  go_wp2_with fail
  go_ret
  exact ⟨rfl, rfl⟩
/-- What a value function of a place answers. -/
def Measures (g : Nat) (m : Pt → Int) : Prop := ∀ (x : Pt) (w : World), Plc x → Calls Tryz.prog g #[.agg #[.int .i64 x.1, .int .i64 x.2]] w fun e w' => e = .returned (.int .i64 (m x)) ∧ w.alloc (.cells #[.int .i64 x.1, .int .i64 x.2] 27) = w'
theorem measX : Measures 130 (fun x => x.1) := fun x w hx => by
  rcases x with ⟨x, y⟩
  clear hx
  go_enter Tryz.func130, Tryz.ntmps130
  go_wp2_with fail
  go_ret
  exact ⟨rfl, rfl⟩
theorem measY : Measures 131 (fun x => x.2) := fun x w hx => by
  rcases x with ⟨x, y⟩
  clear hx
  go_enter Tryz.func131, Tryz.ntmps131
  go_wp2_with fail
  go_ret
  exact ⟨rfl, rfl⟩
theorem measS : Measures 160 (fun x => x.1 + x.2) := fun x w hx => by
  rcases x with ⟨x, y⟩
  obtain ⟨⟨h0, h1⟩, ⟨h2, h3⟩⟩ := hx
  simp only at h0 h1 h2 h3
  go_enter Tryz.func160, Tryz.ntmps160
  go_wp2_with fail
  go_ret
  exact ⟨rfl, rfl⟩
theorem measD : Measures 161 (fun x => x.1 - x.2) := fun x w hx => by
  rcases x with ⟨x, y⟩
  obtain ⟨⟨h0, h1⟩, ⟨h2, h3⟩⟩ := hx
  simp only at h0 h1 h2 h3
  go_enter Tryz.func161, Tryz.ntmps161
  go_wp2_with fail
  go_ret
  exact ⟨rfl, rfl⟩
end Hl
end Go.Proofs.YtlookcbokhknfaaGreat
