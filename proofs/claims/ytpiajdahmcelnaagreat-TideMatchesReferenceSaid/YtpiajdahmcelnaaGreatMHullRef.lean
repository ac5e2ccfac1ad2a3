/-
  The reference implementation of layer 3: what speaks of single places.
  The reference implementation of layer 3 over slices of points: places, Valid.
  The reference implementation of layer 3 over slices of points: between, Inside.
  The reference implementation of layer 3 over slices of points: Inside.
  Slices of flows: what came in, and what the call itself gathers.
  Floor and Ceil of the landed package exact: what was there stays.
-/
import Derived.WalkKit
import Derived.WalkSpells
import Derived.WalkLawsBesides
import Derived.RowKit3
import Derived.Below
import Derived.Handy
import Derived.Lib.Hide
import Derived.Deep.QuietTactic
import Derived.BigQuiet
import Derived.Deep.RegionHeld3
import Derived.Test.YtpiajdahmcelnaaGreatRows
import Derived.Test.YtpiajdahmcelnaaGreatMHullGeoB
import Derived.Deep.RegionWith
import Derived.Laws.AppendOwn
import Derived.Test.YtpiajdahmcelnaaGreatMTdPlain
import Derived.Test.YtpiajdahmcelnaaGreatMExactPlain
namespace Go.Proofs.YtpiajdahmcelnaaGreat
open Go.RowKit
namespace Hl

/-- Below the old size nothing has turned. -/
def Grew (W w : World) : Prop := Below W.heap.size W w
theorem Grew.refl (W : World) : Grew W W := Below.refl _ _
theorem Grew.size {W w : World} (h : Grew W w) : W.heap.size ≤ w.heap.size := Below.size h
theorem Grew.trans {a b c : World} (h : Grew a b) (k : Grew b c) : Grew a c := Below.trans h (Below.mono k h.size)
theorem Grew.alloc {W w : World} (h : Grew W w) (c : Array Value) (t : TypeId) : Grew W (w.alloc (.cells c t)) := Below.alloc h h.size _
theorem Grew.setCell {W w : World} (h : Grew W w) {a : Addr} (ha : W.heap.size ≤ a.block) (v : Value) : Grew W (w.setCell a v) := Below.setCell h ha v
theorem Grew.drew {W w : World} (h : Grew W w) : Grew W w.drew := Below.drew h
theorem Grew.drewN {W w : World} (h : Grew W w) (n : Nat) : Grew W (w.drewN n) := ⟨h.os, h.tape, h.output, h.size, h.block⟩
theorem Grew.grown {W w w' : World} {row : Option Nat} (h : Grew W w) (hg : w.grownBy w' row) (hr : ∀ k, row = some k → W.heap.size ≤ k) : Grew W w' := Below.grown h hg h.size hr
theorem Grew.cell {W w : World} (h : Grew W w) {b o : Nat} (hb : b < W.heap.size) : w.cell? ⟨b, o, none⟩ = W.cell? ⟨b, o, none⟩ := Below.cell (p := ⟨b, o, none⟩) h hb
theorem laid {W w : World} (h : Grew W w) : (∀ b o, b < W.heap.size → w.cell? ⟨b, o, none⟩ = W.cell? ⟨b, o, none⟩) ∧ (∀ b o, b < W.heap.size → w.frozen? ⟨b, o, none⟩ = W.frozen? ⟨b, o, none⟩) ∧ W.heap.size ≤ w.heap.size :=
  ⟨fun _ _ hb => Grew.cell h hb, fun b o hb => Below.frozen (p := ⟨b, o, none⟩) h hb, h.size⟩

/-- A place. -/
def Plc (x : Pt) : Prop := (-500000 ≤ x.1 ∧ x.1 ≤ 500000) ∧ (-500000 ≤ x.2 ∧ x.2 ≤ 500000)
instance (x : Pt) : Decidable (Plc x) := by unfold Plc; infer_instance

theorem place_yes (x y : Int) (w : World) (h : Plc (x, y)) : Calls Tryz.prog 19 #[.agg #[.int .i64 x, .int .i64 y]] w fun e w' => e = .returned (.bool true) ∧ Grew w w' := by
  obtain ⟨⟨h0, h1⟩, ⟨h2, h3⟩⟩ := h
  simp only at h0 h1 h2 h3
  go_enter Tryz.func19, Tryz.ntmps19
  go_wp2_with fail
  go_ret
  exact ⟨by first | rfl | (simp; omega), by (repeat' (first | (with_reducible exact Grew.refl _) | (with_reducible assumption) | (with_reducible refine Grew.alloc ?_ _ _) | (with_reducible refine Grew.drew ?_) | (with_reducible refine Grew.drewN ?_ _) | (with_reducible refine Grew.setCell ?_ ?_ _) | go_size))⟩

theorem place_no (x y : Int) (w : World) (h : ¬ Plc (x, y)) : Calls Tryz.prog 19 #[.agg #[.int .i64 x, .int .i64 y]] w fun e w' => e = .returned (.bool false) ∧ Grew w w' := by
  by_cases h0 : -500000 ≤ x
  · by_cases h1 : x ≤ 500000
    · by_cases h2 : -500000 ≤ y
      · have h3 : 500000 < y := by
          by_cases h3 : y ≤ 500000
          · exact absurd ⟨⟨h0, h1⟩, ⟨h2, h3⟩⟩ h
          · omega
        clear h
        go_enter Tryz.func19, Tryz.ntmps19
        go_wp2_with fail
        go_ret
        exact ⟨by first | rfl | (simp; omega), by (repeat' (first | (with_reducible exact Grew.refl _) | (with_reducible assumption) | (with_reducible refine Grew.alloc ?_ _ _) | (with_reducible refine Grew.drew ?_) | (with_reducible refine Grew.drewN ?_ _) | (with_reducible refine Grew.setCell ?_ ?_ _) | go_size))⟩

      · have h2 : y < -500000 := by omega
        clear h
        go_enter Tryz.func19, Tryz.ntmps19
        go_wp2_with fail
        go_ret
        exact ⟨by first | rfl | (simp; omega), by (repeat' (first | (with_reducible exact Grew.refl _) | (with_reducible assumption) | (with_reducible refine Grew.alloc ?_ _ _) | (with_reducible refine Grew.drew ?_) | (with_reducible refine Grew.drewN ?_ _) | (with_reducible refine Grew.setCell ?_ ?_ _) | go_size))⟩

    · have h1 : 500000 < x := by omega
      clear h
      go_enter Tryz.func19, Tryz.ntmps19
      go_wp2_with fail
      go_ret
      exact ⟨by first | rfl | (simp; omega), by (repeat' (first | (with_reducible exact Grew.refl _) | (with_reducible assumption) | (with_reducible refine Grew.alloc ?_ _ _) | (with_reducible refine Grew.drew ?_) | (with_reducible refine Grew.drewN ?_ _) | (with_reducible refine Grew.setCell ?_ ?_ _) | go_size))⟩

  · have h0 : x < -500000 := by omega
    clear h
    go_enter Tryz.func19, Tryz.ntmps19
    go_wp2_with fail
    go_ret
    exact ⟨by first | rfl | (simp; omega), by (repeat' (first | (with_reducible exact Grew.refl _) | (with_reducible assumption) | (with_reducible refine Grew.alloc ?_ _ _) | (with_reducible refine Grew.drew ?_) | (with_reducible refine Grew.drewN ?_ _) | (with_reducible refine Grew.setCell ?_ ?_ _) | go_size))⟩

theorem cr_bd {a b c : Pt} (ha : Plc a) (hb : Plc b) (hc : Plc c) : (-1000000000000 ≤ (b.1 - a.1) * (c.2 - a.2) ∧ (b.1 - a.1) * (c.2 - a.2) ≤ 1000000000000) ∧ (-1000000000000 ≤ (b.2 - a.2) * (c.1 - a.1) ∧ (b.2 - a.2) * (c.1 - a.1) ≤ 1000000000000) := by
  have m : ∀ x y : Int, -1000000 ≤ x → x ≤ 1000000 → -1000000 ≤ y → y ≤ 1000000 → -1000000000000 ≤ x * y ∧ x * y ≤ 1000000000000 := by
    intro x y h0 h1 h2 h3
    by_cases hx : 0 ≤ x
    · have e1 := Int.mul_le_mul_of_nonneg_left h3 hx
      have e2 := Int.mul_le_mul_of_nonneg_left h2 hx
      omega
    · have e1 := Int.mul_le_mul_of_nonpos_left (show x ≤ 0 by omega) h3
      have e2 := Int.mul_le_mul_of_nonpos_left (show x ≤ 0 by omega) h2
      omega
  obtain ⟨⟨a0, a1⟩, ⟨a2, a3⟩⟩ := ha
  obtain ⟨⟨b0, b1⟩, ⟨b2, b3⟩⟩ := hb
  obtain ⟨⟨c0, c1⟩, ⟨c2, c3⟩⟩ := hc
  exact ⟨m _ _ (by omega) (by omega) (by omega) (by omega), m _ _ (by omega) (by omega) (by omega) (by omega)⟩

end Hl
end Go.Proofs.YtpiajdahmcelnaaGreat
namespace Go.Proofs.YtpiajdahmcelnaaGreat
open Go.RowKit
namespace Hl

/-- A row of points in memory. -/
def Row (w : World) (b o : Nat) (p : List Pt) : Prop := b < w.heap.size ∧ ∀ i, i < p.length → w.cell? ⟨b, o + i * 2, none⟩ = some (.int .i64 (at' p i).1) ∧ w.cell? ⟨b, o + i * 2 + 1, none⟩ = some (.int .i64 (at' p i).2)
theorem Row.grown {w w' : World} {b o : Nat} {p : List Pt} (h : Row w b o p) (g : Grew w w') : Row w' b o p :=
  ⟨Nat.lt_of_lt_of_le h.1 g.size, fun i hi => ⟨(Grew.cell g h.1).trans (h.2 i hi).1, (Grew.cell g h.1).trans (h.2 i hi).2⟩⟩

/-- What a test answers, and how the world is left. -/
def Tells (q : Prop) (w : World) (e : Ending) (w' : World) : Prop := ∃ r : Bool, e = .returned (.bool r) ∧ (r = true ↔ q) ∧ Grew w w'
theorem Tells.yes {q : Prop} {w : World} {e : Ending} {w' : World} (hq : q) (he : e = .returned (.bool true)) (g : Grew w w') : Tells q w e w' := ⟨true, he, ⟨fun _ => hq, fun _ => rfl⟩, g⟩
theorem Tells.no {q : Prop} {w : World} {e : Ending} {w' : World} (hq : ¬ q) (he : e = .returned (.bool false)) (g : Grew w w') : Tells q w e w' := ⟨false, he, ⟨(fun h => by cases h), (fun h => absurd h hq)⟩, g⟩

theorem less_x (x y : Pt) (w : World) : Calls Tryz.prog 78 #[.agg #[.int .i64 x.1, .int .i64 x.2], .agg #[.int .i64 y.1, .int .i64 y.2]] w fun e w' => e = .returned (.bool (decide (ls x y))) ∧ (w.alloc (.cells #[.int .i64 (x.1), .int .i64 (x.2)] 30)).alloc (.cells #[.int .i64 (y.1), .int .i64 (y.2)] 30) = w' := by
  rcases x with ⟨a, b⟩
  rcases y with ⟨c, d⟩
  by_cases h : ls (a, b) (c, d)
  · rw [decide_eq_true h]
    rcases h with h | ⟨h, k⟩
    · simp only at h
      go_enter Tryz.func78, Tryz.ntmps78
      go_wp2_with fail
      go_ret
      exact ⟨rfl, rfl⟩

    · simp only at h k
      subst h
      go_enter Tryz.func78, Tryz.ntmps78
      go_wp2_with fail
      go_ret
      exact ⟨rfl, rfl⟩

  · rw [decide_eq_false h]
    by_cases e : a = c
    · subst e
      have k : d ≤ b := by
        by_cases k : b < d
        · exact absurd (Or.inr ⟨rfl, k⟩) h
        · omega
      clear h
      go_enter Tryz.func78, Tryz.ntmps78
      go_wp2_with fail
      go_ret
      exact ⟨by first | rfl | (simp; omega), rfl⟩

    · have k : c < a := by
        by_cases k : a < c
        · exact absurd (Or.inl k) h
        · omega
      have e' : (a == c) = false := by simp [e]
      clear h e
      go_enter Tryz.func78, Tryz.ntmps78
      go_wp2_with fail
      go_ret
      exact ⟨by first | rfl | (simp; omega), rfl⟩


/-- All are places. -/
def Plcs (p : List Pt) : Prop := ∀ i, i < p.length → Plc (at' p i)
/-- A polygon, as the document says it. -/
def Vl (p : List Pt) : Prop := (1 ≤ p.length ∧ p.length ≤ 64) ∧ Plcs p ∧ (∀ i, 1 ≤ i → i < p.length → ls (at' p 0) (at' p i)) ∧ (2 < p.length → Cvx p.length (at' p))

end Hl
end Go.Proofs.YtpiajdahmcelnaaGreat
namespace Go.Proofs.YtpiajdahmcelnaaGreat
open Go.RowKit
namespace Hl

instance (a b x : Pt) : Decidable (btw a b x) := by unfold btw; infer_instance
set_option maxHeartbeats 1000000 in
theorem between_x (a b x : Pt) (w : World) : Calls Tryz.prog 80 #[.agg #[.int .i64 a.1, .int .i64 a.2], .agg #[.int .i64 b.1, .int .i64 b.2], .agg #[.int .i64 x.1, .int .i64 x.2]] w fun e w' => e = .returned (.bool (decide (btw a b x))) ∧ ((w.alloc (.cells #[.int .i64 (a.1), .int .i64 (a.2)] 30)).alloc (.cells #[.int .i64 (b.1), .int .i64 (b.2)] 30)).alloc (.cells #[.int .i64 (x.1), .int .i64 (x.2)] 30) = w' := by
  rcases a with ⟨a1, a2⟩
  rcases b with ⟨b1, b2⟩
  rcases x with ⟨x1, x2⟩
  have key : ∀ r : Bool, (r = true ↔ btw (a1, a2) (b1, b2) (x1, x2)) → decide (btw (a1, a2) (b1, b2) (x1, x2)) = r := by
    intro r h
    rw [Bool.eq_iff_iff, decide_eq_true_eq]
    exact h.symm
  have K := Lib.hid key
  clear key
  rcases Int.lt_trichotomy a1 b1 with h1 | h1 | h1 <;> rcases Int.lt_trichotomy a2 b2 with h2 | h2 | h2
  all_goals
    (try subst h1)
    (try subst h2)
    go_enter Tryz.func80, Tryz.ntmps80
    go_wp2_with fail
    all_goals
      go_ret
      exact ⟨congrArg (fun r => Ending.returned (.bool r)) (K.out _ (by unfold btw; simp; omega)).symm, rfl⟩
end Hl
end Go.Proofs.YtpiajdahmcelnaaGreat
namespace Go.Proofs.YtpiajdahmcelnaaGreat
open Go.RowKit
namespace Hl

theorem hs1 {p : List Pt} {x : Pt} (h : p.length = 1) : Hs p x ↔ at' p 0 = x := by unfold Hs; rw [if_pos h]
theorem hs2 {p : List Pt} {x : Pt} (h : p.length = 2) : Hs p x ↔ (cr (at' p 0) (at' p 1) x = 0 ∧ btw (at' p 0) (at' p 1) x) := by unfold Hs; rw [if_neg (by omega), if_pos h]
theorem hs3 {p : List Pt} {x : Pt} (h : 3 ≤ p.length) : Hs p x ↔ Ins p.length (at' p) x := by unfold Hs; rw [if_neg (by omega), if_neg (by omega)]

end Hl
end Go.Proofs.YtpiajdahmcelnaaGreat
namespace Go.Proofs.YtpiajdahmcelnaaGreat
open Go.RowKit Hl
namespace Td

/-- The nine cells of a flow. -/
def rc (r : Fw) : List Value := [.int .i64 r.x, .int .i64 r.y, .int .i64 r.s, .int .i64 r.k.a, .int .i64 r.k.b, .int .i64 r.k.c, .int .i64 r.k.d, .int .i64 r.k.e, .int .i64 r.k.f]
def cl (l : List Fw) : List Value := l.flatMap rc
theorem cl_cons (r : Fw) (l : List Fw) : cl (r :: l) = rc r ++ cl l := rfl
theorem cl_app (k l : List Fw) : cl (k ++ l) = cl k ++ cl l := by unfold cl; rw [List.flatMap_append]
theorem cl_len (l : List Fw) : (cl l).length = l.length * 9 := by
  induction l with
  | nil => rfl
  | cons r l ih =>
    rw [cl_cons, List.length_append, ih, List.length_cons]
    simp only [rc, List.length_cons, List.length_nil]
    omega
theorem cl_at (l : List Fw) {i : Nat} (hi : i < l.length) {j : Nat} (hj : j < 9) : (cl l)[i * 9 + j]? = (rc (ith l i))[j]? := by
  induction l generalizing i with
  | nil => exact absurd hi (Nat.not_lt_zero _)
  | cons r l ih =>
    rw [cl_cons]
    have hr : (rc r).length = 9 := rfl
    cases i with
    | zero =>
      rw [Nat.zero_mul, Nat.zero_add, List.getElem?_append_left (by omega)]
      rfl
    | succ i =>
      rw [List.getElem?_append_right (by omega), hr, show (i + 1) * 9 + j - 9 = i * 9 + j by omega, ih (by simpa using hi)]
      rfl
/-- These rows lie here. -/
def Row (w : World) (b o : Nat) (l : List Fw) : Prop := b < w.heap.size ∧ ∀ j u, (cl l)[j]? = some u → w.cell? ⟨b, o + j, none⟩ = some u
theorem Row.grew {W w : World} {b o : Nat} {l : List Fw} (h : Row W b o l) (g : Grew W w) : Row w b o l := ⟨Nat.lt_of_lt_of_le h.1 g.size, fun j u hu => by rw [g.cell h.1]; exact h.2 j u hu⟩
theorem Row.at {w : World} {b o : Nat} {l : List Fw} (h : Row w b o l) {i : Nat} (hi : i < l.length) :
    w.cell? ⟨b, o + i * 9, none⟩ = some (.int .i64 (ith l i).x) ∧ w.cell? ⟨b, o + i * 9 + 1, none⟩ = some (.int .i64 (ith l i).y) ∧ w.cell? ⟨b, o + i * 9 + 2, none⟩ = some (.int .i64 (ith l i).s) ∧ w.cell? ⟨b, o + i * 9 + 3, none⟩ = some (.int .i64 (ith l i).k.a) ∧ w.cell? ⟨b, o + i * 9 + 4, none⟩ = some (.int .i64 (ith l i).k.b) ∧ w.cell? ⟨b, o + i * 9 + 5, none⟩ = some (.int .i64 (ith l i).k.c) ∧ w.cell? ⟨b, o + i * 9 + 6, none⟩ = some (.int .i64 (ith l i).k.d) ∧ w.cell? ⟨b, o + i * 9 + 7, none⟩ = some (.int .i64 (ith l i).k.e) ∧ w.cell? ⟨b, o + i * 9 + 8, none⟩ = some (.int .i64 (ith l i).k.f) :=
  ⟨h.2 (i * 9) _ (cl_at l hi (j := 0) (by omega)), h.2 (i * 9 + 1) _ (cl_at l hi (by omega)), h.2 (i * 9 + 2) _ (cl_at l hi (by omega)), h.2 (i * 9 + 3) _ (cl_at l hi (by omega)), h.2 (i * 9 + 4) _ (cl_at l hi (by omega)), h.2 (i * 9 + 5) _ (cl_at l hi (by omega)), h.2 (i * 9 + 6) _ (cl_at l hi (by omega)), h.2 (i * 9 + 7) _ (cl_at l hi (by omega)), h.2 (i * 9 + 8) _ (cl_at l hi (by omega))⟩
/-- A slice of these rows. -/
def Rs (w : World) (v : Value) (l : List Fw) : Prop := ∃ a c, v = .slice a l.length c ∧ l.length ≤ c ∧ (l.length = 0 ∨ ∃ b o, a = some ⟨b, o, none⟩ ∧ Row w b o l)
theorem Rs.grew {W w : World} {v : Value} {l : List Fw} (h : Rs W v l) (g : Grew W w) : Rs w v l := by
  obtain ⟨a, c, rfl, h1, h2⟩ := h
  refine ⟨a, c, rfl, h1, ?_⟩
  rcases h2 with h2 | ⟨b, o, rfl, hr⟩
  · exact Or.inl h2
  · exact Or.inr ⟨b, o, rfl, hr.grew g⟩
theorem Rs.shape {w : World} {v : Value} {l : List Fw} (h : Rs w v l) : ∃ a c, v = .slice a l.length c ∧ l.length ≤ c := by
  obtain ⟨a, c, e, h1, _⟩ := h
  exact ⟨a, c, e, h1⟩
theorem Rs.row {w : World} {a : Option Addr} {n c : Nat} {l : List Fw} (h : Rs w (.slice a n c) l) (h0 : 0 < l.length) : ∃ b o, a = some ⟨b, o, none⟩ ∧ Row w b o l := by
  obtain ⟨a', c', e, _, h2⟩ := h
  injection e with e1 e2 e3
  subst e1
  rcases h2 with h2 | h2
  · omega
  · exact h2
theorem Rs.nil (w : World) (a : Option Addr) (c : Nat) : Rs w (.slice a 0 c) [] := ⟨a, c, rfl, Nat.zero_le _, Or.inl rfl⟩
theorem Rs.kept {w w' : World} {v : Value} {l : List Fw} {row : Option Nat} (h : Rs w v l) (g : w.grownBy w' row) (hne : 0 < l.length → ∀ b o n c, v = .slice (some ⟨b, o, none⟩) n c → some b ≠ row) : Rs w' v l := by
  obtain ⟨a, c, rfl, h1, h2⟩ := h
  refine ⟨a, c, rfl, h1, ?_⟩
  by_cases h0 : l.length = 0
  · exact Or.inl h0
  · rcases h2 with h2 | ⟨b, o, rfl, hr⟩
    · exact Or.inl h2
    · exact Or.inr ⟨b, o, rfl, Nat.lt_of_lt_of_le hr.1 g.size, fun j u hu => World.grownBy.cell g (hr.2 j u hu) (hne (by omega) _ _ _ _ rfl)⟩
theorem add_off (b o k : Nat) : (⟨b, o, none⟩ : Addr).add k = ⟨b, o + k, none⟩ := by
  unfold Addr.add
  split
  · rename_i e; subst e; rfl
  · rfl
theorem cl_take (l : List Fw) (k : Nat) {j : Nat} {u : Value} (h : (cl (l.take k))[j]? = some u) : (cl l)[j]? = some u := by
  have e : cl l = cl (l.take k) ++ cl (l.drop k) := by rw [← cl_app, List.take_append_drop]
  have hj := (List.getElem?_eq_some_iff.1 h).1
  rw [e, List.getElem?_append_left hj]
  exact h
theorem cl_drop (l : List Fw) {k : Nat} (hk : k ≤ l.length) {j : Nat} {u : Value} (h : (cl (l.drop k))[j]? = some u) : (cl l)[k * 9 + j]? = some u := by
  have e : cl l = cl (l.take k) ++ cl (l.drop k) := by rw [← cl_app, List.take_append_drop]
  have hl : (cl (l.take k)).length = k * 9 := by rw [cl_len, List.length_take]; omega
  rw [e, List.getElem?_append_right (by omega), hl, show k * 9 + j - k * 9 = j by omega]
  exact h
/-- l[:k]. -/
theorem Rs.take {w : World} {a : Option Addr} {n c : Nat} {l : List Fw} (h : Rs w (.slice a n c) l) {k : Nat} (hk : k ≤ l.length) : Rs w (.slice a k c) (l.take k) := by
  obtain ⟨a', c', e, h1, h2⟩ := h
  injection e with e1 e2 e3
  subst e1 e2 e3
  have hl : (l.take k).length = k := by rw [List.length_take]; omega
  refine ⟨a, c, by rw [hl], by omega, ?_⟩
  rcases h2 with h2 | ⟨b, o, rfl, hr⟩
  · exact Or.inl (by omega)
  · exact Or.inr ⟨b, o, rfl, hr.1, fun j u hu => hr.2 j u (cl_take l k hu)⟩
/-- l[k:]. -/
theorem Rs.drop {w : World} {a : Option Addr} {n c : Nat} {l : List Fw} (h : Rs w (.slice a n c) l) {k : Nat} (hk : k ≤ l.length) : Rs w (.slice (if c = k then a else a.map (·.add (k * 9))) (n - k) (c - k)) (l.drop k) := by
  obtain ⟨a', c', e, h1, h2⟩ := h
  injection e with e1 e2 e3
  subst e1 e2 e3
  have hl : (l.drop k).length = l.length - k := List.length_drop
  refine ⟨_, _, by rw [hl], by omega, ?_⟩
  by_cases h0 : l.length = k
  · exact Or.inl (by omega)
  · rcases h2 with h2 | ⟨b, o, rfl, hr⟩
    · exact Or.inl (by omega)
    · refine Or.inr ⟨b, o + k * 9, by rw [if_neg (by omega), Option.map_some, add_off], hr.1, fun j u hu => ?_⟩
      rw [Nat.add_assoc]
      exact hr.2 _ u (cl_drop l hk hu)
/-- A slice of rows of the call's own. -/
def Ow (B : Nat) (w : World) (v : Value) (l : List Fw) : Prop := w.ownsRow B 25 9 v l.length (cl l)
theorem Ow.nil (B : Nat) (w : World) : Ow B w (.slice none 0 0) [] := World.ownsRow_nil w B _ 9
theorem Ow.grew {B : Nat} {W w : World} {v : Value} {l : List Fw} (h : Ow B W v l) (g : Grew W w) : Ow B w v l :=
  World.ownsRow.kept h (row := none) ⟨g.os, g.tape, g.output, g.size, fun k hk _ => g.block k hk⟩ (by cases hv : v.ownBlock <;> simp)
theorem Ow.lt {B : Nat} {w : World} {v : Value} {l : List Fw} (h : Ow B w v l) : ∀ k, v.ownBlock = some k → B ≤ k ∧ k < w.heap.size := fun k e => World.ownsRow.lt h k e
/-- New cells of rows. -/
theorem rs_new (w : World) (l : List Fw) (_h0 : 0 < l.length) : Rs (w.alloc (.cells (cl l).toArray 25)) (.slice (some ⟨w.heap.size, 0, none⟩) l.length l.length) l :=
  ⟨_, _, rfl, Nat.le_refl _, Or.inr ⟨w.heap.size, 0, rfl, by rw [World.size_alloc]; omega, fun j u hu => by
    rw [Nat.zero_add, cell_of_row _ _ _ _ _ _ (heap_alloc_new w _)]
    simpa using hu⟩⟩
end Td
end Go.Proofs.YtpiajdahmcelnaaGreat
namespace Go.Proofs.YtpiajdahmcelnaaGreat
open Go.RowKit Hl Ex
namespace Td
theorem floor_g (a b : Int) (w : World) (h : Dv a b) :
    Calls Tryz.prog 50 #[.int .i64 a, .int .i64 b] w fun e w' => e = .returned (.tuple #[.int .i64 (fl a b), .int .i64 0]) ∧ Grew w w' := by
  have H := Lib.hid h
  clear h
  go_enter Tryz.func50, Tryz.ntmps50
  go_wp2_with fail
  refine (toward_any _ _).mono ?_
  rintro e w' ⟨rfl, rfl⟩
  go_wp2_with fail
  refine (divDown_ok _ _ _ _ (by simp [go_sem]) H.out).mono ?_
  rintro e w' ⟨rfl, n, rfl⟩
  go_wp2_with fail
  go_ret2
  exact ⟨rfl, Grew.drewN ((Grew.refl _).alloc _ _) n⟩
theorem ceil_g (a b : Int) (w : World) (h : Dv a b) :
    Calls Tryz.prog 54 #[.int .i64 a, .int .i64 b] w fun e w' => e = .returned (.tuple #[.int .i64 (ce a b), .int .i64 0]) ∧ Grew w w' := by
  have H := Lib.hid h
  clear h
  go_enter Tryz.func54, Tryz.ntmps54
  go_wp2_with fail
  refine (toward_any _ _).mono ?_
  rintro e w' ⟨rfl, rfl⟩
  go_wp2_with fail
  refine (divUp_ok _ _ _ _ (by simp [go_sem]) H.out).mono ?_
  rintro e w' ⟨rfl, n, rfl⟩
  go_wp2_with fail
  go_ret2
  exact ⟨rfl, Grew.drewN ((Grew.refl _).alloc _ _) n⟩
end Td
end Go.Proofs.YtpiajdahmcelnaaGreat
