/-
  Join of the landed package span: what was there stays.
-/
import Derived.IntWalk
import Derived.Test.YtpiajdahmcelnaaGreatMHullRef
namespace Go.Proofs.YtpiajdahmcelnaaGreat
open Go.RowKit Hl
namespace Sg
def Vd (lo hi : Int) : Prop := -1000000000000 ≤ lo ∧ lo ≤ hi ∧ hi ≤ 1000000000000
def mn (a b : Int) : Int := if b < a then b else a
def mx (a b : Int) : Int := if a < b then b else a
def nth (l : List Int) (k : Nat) : Int := l.getD k 0
def lo' (f : Int) (l : List Int) : Int := l.foldl mn f
def hi' (f : Int) (l : List Int) : Int := l.foldl mx f
theorem lo'_snoc (f : Int) (l : List Int) (k : Nat) (h : k < l.length) : lo' f (l.take (k + 1)) = mn (lo' f (l.take k)) (nth l k) := by
  unfold lo' nth
  rw [List.take_succ_eq_append_getElem h, List.foldl_append]
  simp [h]
theorem hi'_snoc (f : Int) (l : List Int) (k : Nat) (h : k < l.length) : hi' f (l.take (k + 1)) = mx (hi' f (l.take k)) (nth l k) := by
  unfold hi' nth
  rw [List.take_succ_eq_append_getElem h, List.foldl_append]
  simp [h]
/-- Integers in a row. -/
def Ints (w : World) (b o : Nat) (l : List Int) : Prop := b < w.heap.size ∧ ∀ i, i < l.length → w.cell? ⟨b, o + i, none⟩ = some (.int .i64 (nth l i))
def Ends (w : World) (f : Int) (l : List Int) (e : Ending) (w' : World) : Prop := e = .returned (.agg #[.int .i64 (lo' f l), .int .i64 (hi' f l)]) ∧ Grew w w'
set_option maxHeartbeats 1000000 in
theorem ends_any (f : Int) (l : List Int) (b o c : Nat) (w : World) (h : Ints w b o l) (hl : l.length ≤ 3) : Calls Tryz.prog 70 #[.int .i64 f, .slice (some ⟨b, o, none⟩) l.length c] w (Ends w f l) := by
  have H := Lib.hid h
  have hb := h.1
  have hb1 : b < w.heap.size + 1 := by omega
  have hb2 : b < w.heap.size + 1 + 1 := by omega
  have hb3 : w.heap.size ≠ b := by omega
  have hb4 : w.heap.size + 1 ≠ b := by omega
  clear h
  have hlo : lo' f (l.take 0) = f := rfl
  have hhi : hi' f (l.take 0) = f := rfl
  have HLO := Lib.hid hlo
  have HHI := Lib.hid hhi
  clear hlo hhi
  go_enter Tryz.func70, Tryz.ntmps70
  go_wp2_with fail
  go_loopw [13] (fun i wr => ∃ k : Nat, k ≤ l.length ∧ i = .int .i64 k ∧ wr = (w.alloc (.cells #[.int .i64 0, .int .i64 0] 23)).alloc (.cells #[.int .i64 (lo' f (l.take k)), .int .i64 (hi' f (l.take k))] 23)) (fun i _ => l.length - (intOf i).toNat)
  case atStart => exact ⟨0, Nat.zero_le _, rfl, by rw [HLO.out, HHI.out]⟩
  case round =>
    obtain ⟨k, hk, rfl, rfl⟩ := hrel
    by_cases hlt : k < l.length
    · have q := H.out.2 k hlt
      have E1 := Lib.hid (lo'_snoc f l k hlt)
      have E2 := Lib.hid (hi'_snoc f l k hlt)
      go_wp2_with fail
      go_roundw
      case rel => exact ⟨k + 1, by omega, by go_num, by rw [E1.out, E2.out]; rfl⟩
      case measure => simp [intOf]; omega
    · have hk' : l.take k = l := List.take_of_length_le (by omega)
      rw [hk']
      clear hk'
      go_wp2_with fail
      refine bodyPost_ret (v := .agg #[.int .i64 (lo' f l), .int .i64 (hi' f l)]) (by simp [results, Tryz.results70, go_sem, *]) rfl ⟨rfl, by (repeat' (first | (with_reducible exact Grew.refl _) | (with_reducible assumption) | (with_reducible refine Grew.alloc ?_ _ _) | (with_reducible refine Grew.drew ?_) | (with_reducible refine Grew.drewN ?_ _) | (with_reducible refine Grew.setCell ?_ ?_ _) | go_size))⟩
theorem ends1 (f x : Int) (b c : Nat) (w : World) (hb : b < w.heap.size) (q : w.cell? ⟨b, 0, none⟩ = some (.int .i64 x)) : Calls Tryz.prog 70 #[.int .i64 f, .slice (some ⟨b, 0, none⟩) 1 c] w fun e w' => e = .returned (.agg #[.int .i64 (mn f x), .int .i64 (mx f x)]) ∧ Grew w w' :=
  ends_any f [x] b 0 c w ⟨hb, fun i hi => by
    match i, hi with
    | 0, _ => exact q⟩ (by simp)
theorem ends3 (f x y z : Int) (b c : Nat) (w : World) (hb : b < w.heap.size) (q0 : w.cell? ⟨b, 0, none⟩ = some (.int .i64 x)) (q1 : w.cell? ⟨b, 1, none⟩ = some (.int .i64 y)) (q2 : w.cell? ⟨b, 2, none⟩ = some (.int .i64 z)) : Calls Tryz.prog 70 #[.int .i64 f, .slice (some ⟨b, 0, none⟩) 3 c] w fun e w' => e = .returned (.agg #[.int .i64 (mn (mn (mn f x) y) z), .int .i64 (mx (mx (mx f x) y) z)]) ∧ Grew w w' :=
  ends_any f [x, y, z] b 0 c w ⟨hb, fun i hi => by
    match i, hi with
    | 0, _ => exact q0
    | 1, _ => exact q1
    | 2, _ => exact q2⟩ (by simp)
def Wn (a b c d : Int) : Prop := mn (mn (mn a b) c) d = c ∧ mx (mx (mx a b) c) d = d
theorem mn_min (a b : Int) : mn a b = min a b := by unfold mn; split <;> omega
theorem mx_max (a b : Int) : mx a b = max a b := by unfold mx; split <;> omega
theorem wn_iff {a b c d : Int} : Wn a b c d ↔ c ≤ a ∧ c ≤ b ∧ c ≤ d ∧ a ≤ d ∧ b ≤ d := by
  unfold Wn
  simp only [mn_min, mx_max]
  omega
theorem wn_yes (a b c d : Int) (w : World) (h : Wn a b c d) : Calls Tryz.prog 96 #[.agg #[.int .i64 a, .int .i64 b], .agg #[.int .i64 c, .int .i64 d]] w fun e w' => e = .returned (.bool true) ∧ Grew w w' := by
  have EX : ∀ (bb cc : Nat) (w : World), bb < w.heap.size → w.cell? ⟨bb, 0, none⟩ = some (.int .i64 b) → w.cell? ⟨bb, 1, none⟩ = some (.int .i64 c) → w.cell? ⟨bb, 2, none⟩ = some (.int .i64 d) → Calls Tryz.prog 70 #[.int .i64 a, .slice (some ⟨bb, 0, none⟩) 3 cc] w fun e w' => e = .returned (.agg #[.int .i64 c, .int .i64 d]) ∧ Grew w w' := fun bb cc w hb q0 q1 q2 => by
    have := ends3 a b c d bb cc w hb q0 q1 q2
    rwa [h.1, h.2] at this
  have EH := Lib.hid EX
  clear EX h
  go_enter Tryz.func96, Tryz.ntmps96
  go_wp2_with fail
  go_region_held3 (fun w' => w'.cell? ⟨w.heap.size, 0, none⟩ = some (.int .i64 a) ∧ w'.cell? ⟨w.heap.size, 1, none⟩ = some (.int .i64 b) ∧ w'.cell? ⟨w.heap.size + 1, 0, none⟩ = some (.int .i64 c) ∧ w'.cell? ⟨w.heap.size + 1, 1, none⟩ = some (.int .i64 d)) (simp [go_sem, *])
    (first | (go_at_call 70; refine (EH.out _ _ _ (by simp) (by simp [go_sem]) (by simp [go_sem]) (by simp [go_sem])).mono ?_; rintro e w1 ⟨rfl, g1⟩; obtain ⟨c1, f1, z1⟩ := laid g1; (try simp at z1); (try simp only [World.size_drew, World.cell?_drew] at c1); have G1 : Grew w w1 := Grew.trans (by (repeat' (first | (with_reducible exact Grew.refl _) | (with_reducible assumption) | (with_reducible refine Grew.alloc ?_ _ _) | (with_reducible refine Grew.drew ?_) | (with_reducible refine Grew.drewN ?_ _) | (with_reducible refine Grew.setCell ?_ ?_ _) | go_size))) g1; clear g1; have z1_0 : w.heap.size < w1.heap.size := (by omega); have z1_1 : w.heap.size + 1 < w1.heap.size := (by omega); have z1_2 : w.heap.size + 1 + 1 < w1.heap.size := (by omega)))
  go_wp2_with fail
  go_ret
  exact ⟨rfl, by (repeat' (first | (with_reducible exact Grew.refl _) | (with_reducible assumption) | (with_reducible refine Grew.alloc ?_ _ _) | (with_reducible refine Grew.drew ?_) | (with_reducible refine Grew.drewN ?_ _) | (with_reducible refine Grew.setCell ?_ ?_ _) | go_size))⟩
theorem spValid_yes (lo hi : Int) (w : World) (h : Vd lo hi) : Calls Tryz.prog 86 #[.agg #[.int .i64 lo, .int .i64 hi]] w fun e w' => e = .returned (.bool true) ∧ Grew w w' := by
  have EX : ∀ (bb cc : Nat) (w : World), bb < w.heap.size → w.cell? ⟨bb, 0, none⟩ = some (.int .i64 hi) → Calls Tryz.prog 70 #[.int .i64 lo, .slice (some ⟨bb, 0, none⟩) 1 cc] w fun e w' => e = .returned (.agg #[.int .i64 lo, .int .i64 hi]) ∧ Grew w w' := fun bb cc w hb q => by
    have := ends1 lo hi bb cc w hb q
    rwa [mn_min, mx_max, Int.min_eq_left h.2.1, Int.max_eq_right h.2.1] at this
  have EH := Lib.hid EX
  have WH := Lib.hid (wn_yes lo hi (-1000000000000) 1000000000000 · (wn_iff.2 ⟨h.1, by have := h.1; have := h.2.1; omega, by omega, by have := h.2.2; have := h.2.1; omega, h.2.2⟩))
  clear EX h
  · skip
    go_enter Tryz.func86, Tryz.ntmps86
    go_wp2_with fail
    go_region_held3 (fun w' => w'.cell? ⟨w.heap.size, 0, none⟩ = some (.int .i64 lo) ∧ w'.cell? ⟨w.heap.size, 1, none⟩ = some (.int .i64 hi)) (simp [go_sem, *])
      (first | (go_at_call 70; refine (EH.out _ _ _ (by simp) (by simp [go_sem])).mono ?_; rintro e w1 ⟨rfl, g1⟩; obtain ⟨c1, f1, z1⟩ := laid g1; (try simp at z1); (try simp only [World.size_drew, World.cell?_drew] at c1); have G1 : Grew w w1 := Grew.trans (by (repeat' (first | (with_reducible exact Grew.refl _) | (with_reducible assumption) | (with_reducible refine Grew.alloc ?_ _ _) | (with_reducible refine Grew.drew ?_) | (with_reducible refine Grew.drewN ?_ _) | (with_reducible refine Grew.setCell ?_ ?_ _) | go_size))) g1; clear g1; have z1_0 : w.heap.size < w1.heap.size := (by omega)) | (go_at_call 96; refine (WH.out _).mono ?_; rintro e w2 ⟨rfl, g2⟩; obtain ⟨c2, f2, z2⟩ := laid g2; (try simp at z2); (try simp only [World.size_drew, World.cell?_drew] at c2); have G2 : Grew w w2 := Grew.trans (by (repeat' (first | (with_reducible exact Grew.refl _) | (with_reducible assumption) | (with_reducible refine Grew.alloc ?_ _ _) | (with_reducible refine Grew.drew ?_) | (with_reducible refine Grew.drewN ?_ _) | (with_reducible refine Grew.setCell ?_ ?_ _) | go_size))) g2; clear g2; have z2_0 : w.heap.size < w2.heap.size := (by omega)))
    go_wp2_with fail
    go_ret
    exact ⟨rfl, by (repeat' (first | (with_reducible exact Grew.refl _) | (with_reducible assumption) | (with_reducible refine Grew.alloc ?_ _ _) | (with_reducible refine Grew.drew ?_) | (with_reducible refine Grew.drewN ?_ _) | (with_reducible refine Grew.setCell ?_ ?_ _) | go_size))⟩
/-- Two spans in a row. -/
def Two (w : World) (bb : Nat) (a b c d : Int) : Prop := bb < w.heap.size ∧ (w.cell? ⟨bb, 0, none⟩ = some (.int .i64 a) ∧ w.cell? ⟨bb, 1, none⟩ = some (.int .i64 b)) ∧ (w.cell? ⟨bb, 2, none⟩ = some (.int .i64 c) ∧ w.cell? ⟨bb, 3, none⟩ = some (.int .i64 d))
theorem Two.grown {w w' : World} {bb : Nat} {a b c d : Int} (h : Two w bb a b c d) (g : Grew w w') : Two w' bb a b c d :=
  ⟨Nat.lt_of_lt_of_le h.1 g.size, ⟨(Grew.cell g h.1).trans h.2.1.1, (Grew.cell g h.1).trans h.2.1.2⟩, ⟨(Grew.cell g h.1).trans h.2.2.1, (Grew.cell g h.1).trans h.2.2.2⟩⟩
theorem av_yes (a b c d : Int) (bb cc : Nat) (w : World) (h : Vd a b ∧ Vd c d) (ht : Two w bb a b c d) : Calls Tryz.prog 68 #[.slice (some ⟨bb, 0, none⟩) 2 cc] w fun e w' => e = .returned (.bool true) ∧ Grew w w' := by
  have HT := Lib.hid ht
  have H := Lib.hid h
  clear h ht
  go_enter Tryz.func68, Tryz.ntmps68
  go_wp2_with fail
  go_loopw [7] (fun i wr => ∃ k : Nat, k ≤ 2 ∧ i = .int .i64 k ∧ Grew w wr) (fun i _ => 2 - (intOf i).toNat)
  case atStart => exact ⟨0, Nat.zero_le _, rfl, Grew.refl _⟩
  case round =>
    obtain ⟨k, hk, rfl, G⟩ := hrel
    obtain ⟨hb, ⟨q0, q1⟩, ⟨q2, q3⟩⟩ := HT.out.grown G
    match k, hk with
    | 0, _ =>
      go_wp2_with fail
      refine (spValid_yes _ _ _ H.out.1).mono ?_
      rintro e w1 ⟨rfl, g1⟩
      have G1 : Grew w w1 := Grew.trans (by (repeat' (first | (with_reducible exact Grew.refl _) | (with_reducible assumption) | (with_reducible refine Grew.alloc ?_ _ _) | (with_reducible refine Grew.drew ?_) | (with_reducible refine Grew.drewN ?_ _) | (with_reducible refine Grew.setCell ?_ ?_ _) | go_size))) g1
      clear g1
      go_wp2_with fail
      go_roundw
      case rel => exact ⟨1, by omega, by go_num, G1⟩
      case measure => simp [intOf]
    | 1, _ =>
      go_wp2_with fail
      refine (spValid_yes _ _ _ H.out.2).mono ?_
      rintro e w1 ⟨rfl, g1⟩
      have G1 : Grew w w1 := Grew.trans (by (repeat' (first | (with_reducible exact Grew.refl _) | (with_reducible assumption) | (with_reducible refine Grew.alloc ?_ _ _) | (with_reducible refine Grew.drew ?_) | (with_reducible refine Grew.drewN ?_ _) | (with_reducible refine Grew.setCell ?_ ?_ _) | go_size))) g1
      clear g1
      go_wp2_with fail
      go_roundw
      case rel => exact ⟨2, by omega, by go_num, G1⟩
      case measure => simp [intOf]
    | 2, _ =>
      go_wp2_with fail
      go_ret
      exact ⟨rfl, G⟩
theorem spResult_yes (lo hi : Int) (w : World) (h : Vd lo hi) : Calls Tryz.prog 69 #[.agg #[.int .i64 lo, .int .i64 hi]] w fun e w' => e = .returned (.tuple #[.agg #[.int .i64 lo, .int .i64 hi], .int .i64 0]) ∧ Grew w w' := by
  have H := Lib.hid h
  clear h
  go_enter Tryz.func69, Tryz.ntmps69
  go_wp2_with fail
  refine (spValid_yes _ _ _ H.out).mono ?_
  rintro e w1 ⟨rfl, g1⟩
  obtain ⟨c1, f1, z1⟩ := laid g1
  try simp at z1
  have G1 : Grew w w1 := Grew.trans (by (repeat' (first | (with_reducible exact Grew.refl _) | (with_reducible assumption) | (with_reducible refine Grew.alloc ?_ _ _) | (with_reducible refine Grew.drew ?_) | (with_reducible refine Grew.drewN ?_ _) | (with_reducible refine Grew.setCell ?_ ?_ _) | go_size))) g1
  clear g1
  have z1_0 : w.heap.size < w1.heap.size := by omega
  have z1_1 : w.heap.size + 1 < w1.heap.size := by omega
  go_wp2_with fail
  refine bodyPost_ret (v := .tuple #[.agg #[.int .i64 lo, .int .i64 hi], .int .i64 0]) (by simp [results, Tryz.results69, go_sem, *]) rfl ⟨rfl, by (repeat' (first | (with_reducible exact Grew.refl _) | (with_reducible assumption) | (with_reducible refine Grew.alloc ?_ _ _) | (with_reducible refine Grew.drew ?_) | (with_reducible refine Grew.drewN ?_ _) | (with_reducible refine Grew.setCell ?_ ?_ _) | go_size))⟩
theorem spJoin_ok (a b c d : Int) (w : World) (h : Vd a b ∧ Vd c d) : Calls Tryz.prog 51 #[.agg #[.int .i64 a, .int .i64 b], .agg #[.int .i64 c, .int .i64 d]] w fun e w' => e = .returned (.tuple #[.agg #[.int .i64 (mn a c), .int .i64 (mx b d)], .int .i64 0]) ∧ Grew w w' := by
  have H := Lib.hid h
  have K : Hid (Vd (mn a c) (mx b d)) := Lib.hid (by
    obtain ⟨⟨_, _, _⟩, ⟨_, _, _⟩⟩ := h
    rw [mn_min, mx_max]
    exact ⟨by omega, by omega, by omega⟩)
  have EX : Hid (∀ (bb cc : Nat) (w : World), bb < w.heap.size → w.cell? ⟨bb, 0, none⟩ = some (.int .i64 b) → w.cell? ⟨bb, 1, none⟩ = some (.int .i64 c) → w.cell? ⟨bb, 2, none⟩ = some (.int .i64 d) → Calls Tryz.prog 70 #[.int .i64 a, .slice (some ⟨bb, 0, none⟩) 3 cc] w fun e w' => e = .returned (.agg #[.int .i64 (mn a c), .int .i64 (mx b d)]) ∧ Grew w w') := Lib.hid (fun bb cc w hb q0 q1 q2 => by
    have t := ends3 a b c d bb cc w hb q0 q1 q2
    obtain ⟨⟨_, _, _⟩, ⟨_, _, _⟩⟩ := h
    have e1 : mn (mn (mn a b) c) d = mn a c := by simp only [mn_min]; omega
    have e2 : mx (mx (mx a b) c) d = mx b d := by simp only [mx_max]; omega
    rwa [e1, e2] at t)
  clear h
  obtain ⟨u, hu⟩ : ∃ u, u = mn a c := ⟨_, rfl⟩
  obtain ⟨v, hv⟩ : ∃ v, v = mx b d := ⟨_, rfl⟩
  rw [← hu, ← hv] at K EX ⊢
  clear hu hv
  go_enter Tryz.func51, Tryz.ntmps51
  go_wp2_with fail
  refine (av_yes _ _ _ _ _ _ _ H.out ⟨by simp, ⟨by simp [go_sem], by simp [go_sem]⟩, ⟨by simp [go_sem], by simp [go_sem]⟩⟩).mono ?_
  rintro e w1 ⟨rfl, g1⟩
  obtain ⟨c1, f1, z1⟩ := laid g1
  try simp at z1
  have G1 : Grew w w1 := Grew.trans (by (repeat' (first | (with_reducible exact Grew.refl _) | (with_reducible assumption) | (with_reducible refine Grew.alloc ?_ _ _) | (with_reducible refine Grew.drew ?_) | (with_reducible refine Grew.drewN ?_ _) | (with_reducible refine Grew.setCell ?_ ?_ _) | go_size))) g1
  clear g1
  have z1_0 : w.heap.size < w1.heap.size := by omega
  have z1_1 : w.heap.size + 1 < w1.heap.size := by omega
  have z1_2 : w.heap.size + 1 + 1 < w1.heap.size := by omega
  go_wp2_with fail
  refine (EX.out _ _ _ (by simp) (by simp [go_sem]) (by simp [go_sem]) (by simp [go_sem])).mono ?_
  rintro e w2 ⟨rfl, g2⟩
  obtain ⟨c2, f2, z2⟩ := laid g2
  try simp at z2
  have G2 : Grew w w2 := Grew.trans (by (repeat' (first | (with_reducible exact Grew.refl _) | (with_reducible assumption) | (with_reducible refine Grew.alloc ?_ _ _) | (with_reducible refine Grew.drew ?_) | (with_reducible refine Grew.drewN ?_ _) | (with_reducible refine Grew.setCell ?_ ?_ _) | go_size))) g2
  clear g2
  have z2_0 : w.heap.size < w2.heap.size := by omega
  have z2_1 : w.heap.size + 1 < w2.heap.size := by omega
  have z2_2 : w.heap.size + 1 + 1 < w2.heap.size := by omega
  go_wp2_with fail
  refine (spResult_yes _ _ _ K.out).mono ?_
  rintro e w3 ⟨rfl, g3⟩
  obtain ⟨c3, f3, z3⟩ := laid g3
  try simp at z3
  have G3 : Grew w w3 := Grew.trans (by (repeat' (first | (with_reducible exact Grew.refl _) | (with_reducible assumption) | (with_reducible refine Grew.alloc ?_ _ _) | (with_reducible refine Grew.drew ?_) | (with_reducible refine Grew.drewN ?_ _) | (with_reducible refine Grew.setCell ?_ ?_ _) | go_size))) g3
  clear g3
  have z3_0 : w.heap.size < w3.heap.size := by omega
  have z3_1 : w.heap.size + 1 < w3.heap.size := by omega
  have z3_2 : w.heap.size + 1 + 1 < w3.heap.size := by omega
  go_wp2_with fail
  refine bodyPost_ret (v := .tuple #[.agg #[.int .i64 u, .int .i64 v], .int .i64 0]) (by simp [results, Tryz.results51, go_sem, *]) rfl ⟨rfl, by (repeat' (first | (with_reducible exact Grew.refl _) | (with_reducible assumption) | (with_reducible refine Grew.alloc ?_ _ _) | (with_reducible refine Grew.drew ?_) | (with_reducible refine Grew.drewN ?_ _) | (with_reducible refine Grew.setCell ?_ ?_ _) | go_size))⟩
end Sg
end Go.Proofs.YtpiajdahmcelnaaGreat
