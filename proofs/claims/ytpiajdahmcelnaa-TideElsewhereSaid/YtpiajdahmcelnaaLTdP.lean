/-
  What leaves all blocks below one but a single one.
  The laws of layer 13: what is usable, a place inside, the way between.
  A further flow, put where it belongs: what holds elsewhere stays.
-/
import Derived.Test.YtpiajdahmcelnaaLHullCm
import Derived.Test.YtpiajdahmcelnaaLTdN
import Derived.Test.YtpiajdahmcelnaaLTdO
import Derived.Test.YtpiajdahmcelnaaLHullOwn
namespace Go.Proofs.Ytpiajdahmcelnaa
open Go.RowKit
namespace Hl
/-- Nothing below B has turned but block C. -/
structure Leaves (B C : Nat) (w w' : World) : Prop where
  os : w'.os = w.os
  tape : w'.tape = w.tape
  output : w'.output = w.output
  size : w.heap.size ≤ w'.heap.size
  block : ∀ k, k < B → k ≠ C → w'.heap[k]? = w.heap[k]?
theorem Leaves.refl (B C : Nat) (w : World) : Leaves B C w w := ⟨rfl, rfl, rfl, Nat.le_refl _, fun _ _ _ => rfl⟩
theorem Leaves.trans {B C : Nat} {a b c : World} (h : Leaves B C a b) (k : Leaves B C b c) : Leaves B C a c := ⟨k.os.trans h.os, k.tape.trans h.tape, k.output.trans h.output, Nat.le_trans h.size k.size, fun i h1 h2 => (k.block i h1 h2).trans (h.block i h1 h2)⟩
theorem Leaves.grown {B C : Nat} {a b c : World} {row : Option Nat} (h : Leaves B C a b) (g : b.grownBy c row) (hB : B ≤ b.heap.size) (hr : ∀ k, row = some k → B ≤ k ∨ k = C) : Leaves B C a c :=
  h.trans ⟨g.os, g.tape, g.output, g.size, fun k h1 h2 => g.block k (by omega) (fun e => by rcases hr k e.symm with h | h <;> omega)⟩
theorem Leaves.grew {B C : Nat} {a b c : World} (h : Leaves B C a b) (g : Grew b c) (hB : B ≤ b.heap.size) : Leaves B C a c :=
  h.trans ⟨g.os, g.tape, g.output, g.size, fun k h1 _ => g.block k (by omega)⟩
theorem Leaves.toGrew {B C : Nat} {w W w' : World} (h : Leaves B C W w') (g : Grew w W) (hB : w.heap.size ≤ B) (hC : w.heap.size ≤ C) : Grew w w' :=
  ⟨h.os.trans g.os, h.tape.trans g.tape, h.output.trans g.output, Nat.le_trans g.size h.size, fun k hk => (h.block k (by omega) (by omega)).trans (g.block k hk)⟩
theorem Leaves.blk {B C b : Nat} {w w' : World} {cs : Array Value} {t : TypeId} (h : Leaves B C w w') (hb : Blk w b cs t) (hg : b < B) (hc : b ≠ C) : Blk w' b cs t := (h.block b hg hc).trans hb
theorem gb_set (w : World) (g o : Nat) (v : Value) : w.grownBy (w.setCell ⟨g, o, none⟩ v) (some g) := ⟨rfl, rfl, rfl, by simp [World.setCell], fun k _ hk => Below.heap_setCell _ _ _ k (fun e => hk (by rw [e]))⟩
end Hl
end Go.Proofs.Ytpiajdahmcelnaa
namespace Go.Proofs.Ytpiajdahmcelnaa
open Go.RowKit Hl
namespace Td
set_option maxRecDepth 100000
def Usb (t : Ed) (lo hi : Pt) (c d : Int) : Prop := R.Few t.l.length t.n lo hi c d ∧ Tok t ∧ Rec lo hi ∧ Tms c d
instance (t : Ed) (lo hi : Pt) (c d : Int) : Decidable (Usb t lo hi c d) := by unfold Usb; infer_instance
theorem usb_and (t : Ed) (lo hi : Pt) (c d : Int) : decide (Usb t lo hi c d) = (decide (R.Few t.l.length t.n lo hi c d) && (decide (Tok t) && (decide (Rec lo hi) && decide (0 ≤ c ∧ c ≤ d ∧ d ≤ 1000000000)))) := by
  rw [Bool.eq_iff_iff]
  simp only [Bool.and_eq_true, decide_eq_true_eq]
  rfl
theorem Usb.ok {t : Ed} {lo hi : Pt} {c d : Int} (h : Usb t lo hi c d) : BOk t lo hi c d := h.2
set_option maxHeartbeats 4000000 in
theorem usable_c (t : Ed) (u : Value) (lo hi : Pt) (c d : Int) (w : World) (hs : Rs w u t.l) (hl : t.l.length ≤ 9223372036854775807) :
    Calls Try.prog 10 #[tv t u, .agg #[.int .i64 lo.1, .int .i64 lo.2], .agg #[.int .i64 hi.1, .int .i64 hi.2], .int .i64 c, .int .i64 d] w fun e w' => e = .returned (.bool (decide (Usb t lo hi c d))) ∧ Grew w w' := by
  rw [usb_and]
  have C1 : Hid (∀ W, Grew w W → Calls Try.prog 27 #[tv t u, .agg #[.int .i64 lo.1, .int .i64 lo.2], .agg #[.int .i64 hi.1, .int .i64 hi.2], .int .i64 c, .int .i64 d] W fun e w' => e = .returned (.bool (decide (R.Few t.l.length t.n lo hi c d))) ∧ Grew W w') := Lib.hid (fun W g => R.few_c t u lo hi c d W (hs.grew g) hl)
  have C2 : Hid (∀ W, Grew w W → Calls Try.prog 28 #[tv t u] W fun e w' => e = .returned (.bool (decide (Tok t))) ∧ Grew W w') := Lib.hid (fun W g => R.valid_c t u W (hs.grew g) hl)
  have C3 := Lib.hid (rectangle_c lo hi)
  have C4 := Lib.hid (time_c c d)
  unfold tv at C1 C2 ⊢
  clear hs
  generalize decide (R.Few t.l.length t.n lo hi c d) = r1 at *
  generalize decide (Tok t) = r2 at *
  generalize decide (Rec lo hi) = r3 at *
  generalize decide (0 ≤ c ∧ c ≤ d ∧ d ≤ 1000000000) = r4 at *
  go_enter Try.func10, Try.ntmps10
  go_wp2_with fail
  refine (C1.out _ (by (repeat' (first | (with_reducible exact Grew.refl _) | (with_reducible assumption) | (with_reducible refine Grew.alloc ?_ _ _) | (with_reducible refine Grew.drew ?_) | (with_reducible refine Grew.drewN ?_ _) | (with_reducible refine Grew.setCell ?_ ?_ _) | go_size)))).mono ?_
  rintro e w1 ⟨rfl, g1⟩
  obtain ⟨c1, f1, z1⟩ := laid g1
  try simp at z1
  have G1 : Grew w w1 := Grew.trans (by (repeat' (first | (with_reducible exact Grew.refl _) | (with_reducible assumption) | (with_reducible refine Grew.alloc ?_ _ _) | (with_reducible refine Grew.drew ?_) | (with_reducible refine Grew.drewN ?_ _) | (with_reducible refine Grew.setCell ?_ ?_ _) | go_size))) g1
  clear g1
  have z1_0 : w.heap.size < w1.heap.size := by omega
  have z1_1 : w.heap.size + 1 < w1.heap.size := by omega
  have z1_2 : w.heap.size + 1 + 1 < w1.heap.size := by omega
  cases r1
  · go_wp2_with fail
    go_ret
    exact ⟨by first | rfl | (simp; done) | (simp; omega), (by (repeat' (first | (with_reducible exact Grew.refl _) | (with_reducible assumption) | (with_reducible refine Grew.alloc ?_ _ _) | (with_reducible refine Grew.drew ?_) | (with_reducible refine Grew.drewN ?_ _) | (with_reducible refine Grew.setCell ?_ ?_ _) | go_size)))⟩
  · go_wp2_with fail
    refine (C2.out _ G1).mono ?_
    rintro e w2 ⟨rfl, g2⟩
    obtain ⟨c2, f2, z2⟩ := laid g2
    try simp at z2
    have G2 : Grew w w2 := Grew.trans (by (repeat' (first | (with_reducible exact Grew.refl _) | (with_reducible assumption) | (with_reducible refine Grew.alloc ?_ _ _) | (with_reducible refine Grew.drew ?_) | (with_reducible refine Grew.drewN ?_ _) | (with_reducible refine Grew.setCell ?_ ?_ _) | go_size))) g2
    clear g2
    have z2_0 : w.heap.size < w2.heap.size := by omega
    have z2_1 : w.heap.size + 1 < w2.heap.size := by omega
    have z2_2 : w.heap.size + 1 + 1 < w2.heap.size := by omega
    cases r2
    · go_wp2_with fail
      go_ret
      exact ⟨by first | rfl | (simp; done) | (simp; omega), (by (repeat' (first | (with_reducible exact Grew.refl _) | (with_reducible assumption) | (with_reducible refine Grew.alloc ?_ _ _) | (with_reducible refine Grew.drew ?_) | (with_reducible refine Grew.drewN ?_ _) | (with_reducible refine Grew.setCell ?_ ?_ _) | go_size)))⟩
    · go_wp2_with fail
      refine (C3.out _).mono ?_
      rintro e w3 ⟨rfl, g3⟩
      obtain ⟨c3, f3, z3⟩ := laid g3
      try simp at z3
      have G3 : Grew w w3 := Grew.trans (by (repeat' (first | (with_reducible exact Grew.refl _) | (with_reducible assumption) | (with_reducible refine Grew.alloc ?_ _ _) | (with_reducible refine Grew.drew ?_) | (with_reducible refine Grew.drewN ?_ _) | (with_reducible refine Grew.setCell ?_ ?_ _) | go_size))) g3
      clear g3
      have z3_0 : w.heap.size < w3.heap.size := by omega
      have z3_1 : w.heap.size + 1 < w3.heap.size := by omega
      have z3_2 : w.heap.size + 1 + 1 < w3.heap.size := by omega
      cases r3
      · go_wp2_with fail
        go_ret
        exact ⟨by first | rfl | (simp; done) | (simp; omega), (by (repeat' (first | (with_reducible exact Grew.refl _) | (with_reducible assumption) | (with_reducible refine Grew.alloc ?_ _ _) | (with_reducible refine Grew.drew ?_) | (with_reducible refine Grew.drewN ?_ _) | (with_reducible refine Grew.setCell ?_ ?_ _) | go_size)))⟩
      · go_wp2_with fail
        refine (C4.out _).mono ?_
        rintro e w4 ⟨rfl, rfl⟩
        cases r4
        · go_wp2_with fail
          go_ret
          exact ⟨by first | rfl | (simp; done) | (simp; omega), (by (repeat' (first | (with_reducible exact Grew.refl _) | (with_reducible assumption) | (with_reducible refine Grew.alloc ?_ _ _) | (with_reducible refine Grew.drew ?_) | (with_reducible refine Grew.drewN ?_ _) | (with_reducible refine Grew.setCell ?_ ?_ _) | go_size)))⟩
        · go_wp2_with fail
          go_ret
          exact ⟨by first | rfl | (simp; done) | (simp; omega), (by (repeat' (first | (with_reducible exact Grew.refl _) | (with_reducible assumption) | (with_reducible refine Grew.alloc ?_ _ _) | (with_reducible refine Grew.drew ?_) | (with_reducible refine Grew.drewN ?_ _) | (with_reducible refine Grew.setCell ?_ ?_ _) | go_size)))⟩
theorem bk_mono {a b : Int} (h : a ≤ b) : bk a ≤ bk b := by unfold bk; omega
theorem sl_mono {z a b : Int} (h : a ≤ b) : sl z a ≤ sl z b := by unfold sl; omega
theorem ovB_lst {t : Ed} {lo hi : Pt} {c d : Int} (h : BOk t lo hi c d) : Lst (Hs t (bk lo.1) (bk hi.1) (bk lo.2) (bk hi.2) (sl t.z c) (sl t.z d)) (OvB t lo hi c d) :=
  Ov_lst t (bk_mono h.2.1.2.2.1) (bk_mono h.2.1.2.2.2) (sl_mono h.2.2.2.1)
end Td
end Go.Proofs.Ytpiajdahmcelnaa
namespace Go.Proofs.Ytpiajdahmcelnaa
open Go.RowKit Hl
namespace Td
set_option maxRecDepth 100000
def ps (f : Fw) (s : Bool × List Fw) (x : Fw) : Bool × List Fw := if s.1 = false ∧ Bf f x then (true, s.2 ++ [f] ++ [x]) else (s.1, s.2 ++ [x])
def pp (f : Fw) (l : List Fw) (k : Nat) : Bool × List Fw := (l.take k).foldl (ps f) (false, [])
theorem pp_next (f : Fw) {l : List Fw} {k : Nat} (h : k < l.length) : pp f l (k + 1) = ps f (pp f l k) (ith l k) := by
  unfold pp
  have e : l[k] = ith l k := by
    have := ith_get h
    rw [List.getElem?_eq_getElem h] at this
    exact Option.some.inj this
  rw [List.take_succ_eq_append_getElem h, List.foldl_append, e]
  rfl
def pm (f : Fw) (l : List Fw) : List Fw := if (pp f l l.length).1 = true then (pp f l l.length).2 else (pp f l l.length).2 ++ [f]
theorem pp_is (f : Fw) (l : List Fw) : ((l.foldl (ps f) (false, [])).1 = false → (l.foldl (ps f) (false, [])).2 = l) ∧ ((l.foldl (ps f) (false, [])).1 = true → ∃ a b, l = a ++ b ∧ (l.foldl (ps f) (false, [])).2 = a ++ f :: b) := by
  have gen : ∀ (l p : List Fw) (s : Bool × List Fw), ((s.1 = false → s.2 = p) ∧ (s.1 = true → ∃ a b, p = a ++ b ∧ s.2 = a ++ f :: b)) →
      ((l.foldl (ps f) s).1 = false → (l.foldl (ps f) s).2 = p ++ l) ∧ ((l.foldl (ps f) s).1 = true → ∃ a b, p ++ l = a ++ b ∧ (l.foldl (ps f) s).2 = a ++ f :: b) := by
    intro l
    induction l with
    | nil =>
      intro p s h
      rw [List.append_nil]
      exact h
    | cons x l ih =>
      intro p s h
      have e : p ++ x :: l = (p ++ [x]) ++ l := by simp
      rw [List.foldl_cons, e]
      refine ih (p ++ [x]) (ps f s x) ?_
      unfold ps
      by_cases c : s.1 = false ∧ Bf f x
      · rw [if_pos c]
        refine ⟨fun k => by simp at k, fun _ => ⟨p, [x], rfl, ?_⟩⟩
        rw [h.1 c.1]
        simp
      · rw [if_neg c]
        refine ⟨fun k => by rw [h.1 k], fun k => ?_⟩
        obtain ⟨a, b, e1, e2⟩ := h.2 k
        exact ⟨a, b ++ [x], by rw [e1]; simp, by rw [e2]; simp⟩
  have h := gen l [] (false, []) ⟨fun _ => rfl, fun k => by simp at k⟩
  rw [List.nil_append] at h
  exact h
theorem pm_is (f : Fw) (l : List Fw) : ∃ a b, l = a ++ b ∧ pm f l = a ++ f :: b := by
  have h := pp_is f l
  unfold pm pp
  rw [List.take_length]
  by_cases c : (l.foldl (ps f) (false, [])).1 = true
  · rw [if_pos c]
    exact h.2 c
  · rw [if_neg c, h.1 (by simpa using c)]
    exact ⟨l, [], by simp, by simp⟩
def mo (t : Ed) (f : Fw) : Ed := ⟨t.v, t.z, t.n, t.r, pm f t.l⟩
theorem hd_mo (t : Ed) (f : Fw) {x y s : Int} (h : ¬ (f.x = x ∧ f.y = y ∧ f.s = s)) : Hd (mo t f) x y s = Hd t x y s := by
  obtain ⟨a, b, e1, e2⟩ := pm_is f t.l
  have e : fnd x y s (pm f t.l) = fnd x y s t.l := by
    rw [e2]
    conv => rhs; rw [e1]
    unfold fnd
    rw [List.find?_append, List.find?_append, List.find?_cons]
    have : hit x y s f = false := by
      unfold hit
      rw [decide_eq_false h]
    rw [this]
  unfold Hd hd
  show (Option.map (fun q : Fw => q.k) (fnd x y s (pm f t.l))).getD t.r.k = _
  rw [e]
def Hn (f : Fw) (lo hi : Pt) : Prop := bk lo.1 ≤ f.x ∧ f.x ≤ bk hi.1 ∧ bk lo.2 ≤ f.y ∧ f.y ≤ bk hi.2
def Nw (t : Ed) (f : Fw) (c d : Int) : Prop := sl t.z c ≤ f.s ∧ f.s ≤ sl t.z d
instance (f : Fw) (lo hi : Pt) : Decidable (Hn f lo hi) := by unfold Hn; infer_instance
instance (t : Ed) (f : Fw) (c d : Int) : Decidable (Nw t f c d) := by unfold Nw; infer_instance
theorem ov_mo (t : Ed) (f : Fw) (lo hi : Pt) (c d : Int) (hb : BOk t lo hi c d) (h : ¬ (Hn f lo hi ∧ Nw t f c d)) : OvB (mo t f) lo hi c d = OvB t lo hi c d := by
  have e : Hs (mo t f) (bk lo.1) (bk hi.1) (bk lo.2) (bk hi.2) (sl t.z c) (sl t.z d) = Hs t (bk lo.1) (bk hi.1) (bk lo.2) (bk hi.2) (sl t.z c) (sl t.z d) := by
    funext k
    refine propext ⟨fun ⟨x, y, s, hx, e⟩ => ⟨x, y, s, hx, ?_⟩, fun ⟨x, y, s, hx, e⟩ => ⟨x, y, s, hx, ?_⟩⟩
    · rw [e]
      refine hd_mo t f fun g => h ?_
      obtain ⟨rfl, rfl, rfl⟩ := g
      unfold Bx at hx
      unfold Hn Nw
      omega
    · rw [e]
      refine (hd_mo t f fun g => h ?_).symm
      obtain ⟨rfl, rfl, rfl⟩ := g
      unfold Bx at hx
      unfold Hn Nw
      omega
  exact Ov_is (t := mo t f) (by have h2 := ovB_lst hb; rw [← e] at h2; exact h2)
theorem Ow.put {B : Nat} {w : World} {v : Value} {l : List Fw} (h : Ow B w v l) {k : Nat} (hk : k < B) (o : Nat) (x : Value) : Ow B (w.setCell ⟨k, o, none⟩ x) v l :=
  World.ownsRow.kept h (gb_set w k o x) (Or.inr fun e => by have := h.lt k e; omega)
theorem Blk.ow {B : Nat} {w w' : World} {v : Value} {l : List Fw} (h : Ow B w v l) (g : w.grownBy w' v.ownBlock) {k : Nat} (hk : k < B) {cs : Array Value} {T : TypeId} (b : Blk w k cs T) : Blk w' k cs T :=
  b.kept g fun e => by have := h.lt k e.symm; omega
theorem Blk.set12 {W : World} {B : Nat} {T : TypeId} {v0 v1 v2 v3 v4 v5 v6 v7 v8 v9 v10 v11 v v' : Value} (h : Blk W B #[v0, v1, v2, v3, v4, v5, v6, v7, v8, v9, v10, v11, v] T) : Blk (W.setCell ⟨B, 12, none⟩ v') B #[v0, v1, v2, v3, v4, v5, v6, v7, v8, v9, v10, v11, v'] T := by
  have h9 := Blk.set (o := 12) v' h
  simp only [List.setIfInBounds_toArray, List.set_cons_zero, List.set_cons_succ] at h9
  exact h9
end Td
end Go.Proofs.Ytpiajdahmcelnaa
