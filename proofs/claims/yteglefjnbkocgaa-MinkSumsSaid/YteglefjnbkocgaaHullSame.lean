/-
  Slices of points as values; Same, Few.
-/
import Derived.Test.YteglefjnbkocgaaHullIn
import Derived.IntWalk
namespace Go.Proofs.Yteglefjnbkocgaa
open Go.RowKit
namespace Hl
/-- A slice that reads as these points. -/
def Sl (w : World) (v : Value) (p : List Pt) : Prop := (p = [] ∧ ∃ a c, v = .slice a 0 c) ∨ ∃ b o c, v = .slice (some ⟨b, o, none⟩) p.length c ∧ Row w b o p
theorem Sl.grown {w w' : World} {v : Value} {p : List Pt} (h : Sl w v p) (g : Grew w w') : Sl w' v p := by
  rcases h with h | ⟨b, o, c, h, k⟩
  · exact Or.inl h
  · exact Or.inr ⟨b, o, c, h, k.grown g⟩

theorem same_rows (p q : List Pt) (b o c b' o' c' : Nat) (w : World) (hp : Row w b o p) (hq : Row w b' o' q) (hl : p.length = q.length) (hm : p.length ≤ 9223372036854775807) : Calls Try.prog 14 #[.slice (some ⟨b, o, none⟩) p.length c, .slice (some ⟨b', o', none⟩) q.length c'] w (Tells (p = q) w) := by
  have HP := Lib.hid hp
  have HQ := Lib.hid hq
  have HL := Lib.hid hl
  rw [← hl]
  clear hp hq hl
  go_enter Try.func14, Try.ntmps14
  go_wp2_with fail
  go_loopw [5] (fun i wr => ∃ k : Nat, k ≤ p.length ∧ i = .int .i64 k ∧ (∃ n, wr = w.drewN n) ∧ Hid (∀ j, j < k → at' p j = at' q j)) (fun i _ => p.length - (intOf i).toNat)
  case atStart => exact ⟨0, Nat.zero_le _, rfl, ⟨0, rfl⟩, Lib.hid (fun j hj => by omega)⟩
  case round =>
    obtain ⟨k, hk, rfl, ⟨n, rfl⟩, D⟩ := hrel
    by_cases hlt : k < p.length
    · obtain ⟨s0, s1⟩ := HP.out.2 k hlt
      obtain ⟨s2, s3⟩ := HQ.out.2 k (by have := HL.out; omega)
      have i0 : (0 : Int) ≤ (k : Int) := by omega
      have i1 : (k : Int) < (p.length : Int) := by omega
      obtain ⟨⟨y1, y2⟩, hy⟩ : ∃ y, at' p k = y := ⟨_, rfl⟩
      obtain ⟨⟨z1, z2⟩, hz⟩ : ∃ z, at' q k = z := ⟨_, rfl⟩
      rw [hy] at s0 s1
      rw [hz] at s2 s3
      have HY := Lib.hid hy
      have HZ := Lib.hid hz
      clear hy hz
      simp only at s0 s1 s2 s3
      by_cases e1 : y1 = z1
      · by_cases e2 : y2 = z2
        · subst e1 e2
          have E : Hid (∀ j, j < k + 1 → at' p j = at' q j) := Lib.hid (fun j hj => by
            by_cases e : j = k
            · rw [e, HY.out, HZ.out]
            · exact D.out j (by omega))
          go_wp2_with fail
          go_quiet (fail)
          go_wp2_with fail
          go_roundw
          case rel => exact ⟨k + 1, by omega, by go_num, ⟨_, rfl⟩, E⟩
          case measure => simp [intOf]; omega
        · have N : Hid (¬ p = q) := Lib.hid (fun h => by
            have := HY.out
            rw [h, HZ.out] at this
            exact e2 (congrArg Prod.snd this).symm)
          subst e1
          go_wp2_with fail
          go_quiet (fail)
          go_wp2_with fail
          go_ret
          exact Tells.no N.out rfl (by (repeat' (first | (with_reducible exact Grew.refl _) | (with_reducible assumption) | (with_reducible refine Grew.alloc ?_ _ _) | (with_reducible refine Grew.drew ?_) | (with_reducible refine Grew.drewN ?_ _) | (with_reducible refine Grew.setCell ?_ ?_ _) | go_size)))
      · have N : Hid (¬ p = q) := Lib.hid (fun h => by
          have := HY.out
          rw [h, HZ.out] at this
          exact e1 (congrArg Prod.fst this).symm)
        go_wp2_with fail
        go_quiet (fail)
        go_wp2_with fail
        go_ret
        exact Tells.no N.out rfl (by (repeat' (first | (with_reducible exact Grew.refl _) | (with_reducible assumption) | (with_reducible refine Grew.alloc ?_ _ _) | (with_reducible refine Grew.drew ?_) | (with_reducible refine Grew.drewN ?_ _) | (with_reducible refine Grew.setCell ?_ ?_ _) | go_size)))
    · go_wp2_with fail
      go_ret
      exact Tells.yes (ext_at HL.out (fun i hi => D.out i (by omega))) rfl (by (repeat' (first | (with_reducible exact Grew.refl _) | (with_reducible assumption) | (with_reducible refine Grew.alloc ?_ _ _) | (with_reducible refine Grew.drew ?_) | (with_reducible refine Grew.drewN ?_ _) | (with_reducible refine Grew.setCell ?_ ?_ _) | go_size)))

theorem len_nil {p : List Pt} (h : p.length = 0) : p = [] := List.length_eq_zero_iff.1 h
theorem same_far (p q : List Pt) (n m : Nat) (v v' : Value) (w : World) (hv : (∃ a c, v = .slice a n c) ∧ ∃ a c, v' = .slice a m c) (hn : ¬ p = q) (h : n ≠ m) : Calls Try.prog 14 #[v, v'] w (Tells (p = q) w) := by
  obtain ⟨⟨a, c, rfl⟩, ⟨a', c', rfl⟩⟩ := hv
  have H := Lib.hid hn
  have d1 : ((n : Int) != (m : Int)) = true := by rw [bne_iff_ne]; omega
  have d2 : ((n : Int) == (m : Int)) = false := by rw [beq_eq_false_iff_ne]; omega
  clear hn h
  go_enter Try.func14, Try.ntmps14
  go_wp2_with fail
  go_ret
  exact Tells.no H.out rfl (Grew.refl _)
theorem same_zero (v v' : Value) (w : World) (hv : (∃ a c, v = .slice a 0 c) ∧ ∃ a c, v' = .slice a 0 c) : Calls Try.prog 14 #[v, v'] w (Tells (([] : List Pt) = []) w) := by
  obtain ⟨⟨a, c, rfl⟩, ⟨a', c', rfl⟩⟩ := hv
  have H := Lib.hid (rfl : ([] : List Pt) = [])
  go_enter Try.func14, Try.ntmps14
  go_wp2_with fail
  refine wp_loop_rounds 1 ?_
  rw [rounds_succ]
  go_wp2_with fail
  go_ret
  exact Tells.yes H.out rfl (Grew.refl _)
theorem Sl.shape {w : World} {v : Value} {p : List Pt} (h : Sl w v p) : ∃ a c, v = .slice a p.length c := by
  rcases h with ⟨rfl, a, c, rfl⟩ | ⟨b, o, c, rfl, _⟩
  · exact ⟨a, c, rfl⟩
  · exact ⟨_, _, rfl⟩
theorem same_any (p q : List Pt) (v v' : Value) (w : World) (hp : Sl w v p) (hq : Sl w v' q) (hm : p.length ≤ 9223372036854775807) : Calls Try.prog 14 #[v, v'] w (Tells (p = q) w) := by
  by_cases hl : p.length = q.length
  · by_cases h0 : p.length = 0
    · obtain ⟨a, c, e1⟩ := hp.shape
      obtain ⟨a', c', e2⟩ := hq.shape
      rw [h0] at e1
      rw [← hl, h0] at e2
      have e3 := len_nil h0
      have e4 := len_nil (hl ▸ h0)
      subst e3 e4
      exact same_zero v v' w ⟨⟨a, c, e1⟩, ⟨a', c', e2⟩⟩
    · rcases hp with ⟨e, _⟩ | ⟨b, o, c, e1, hr⟩
      · rw [e] at h0; exact absurd rfl h0
      · rcases hq with ⟨e, _⟩ | ⟨b', o', c', e2, hr'⟩
        · rw [e] at hl; exact absurd hl h0
        · rw [e1, e2]; exact same_rows p q b o c b' o' c' w hr hr' hl hm
  · exact same_far p q p.length q.length v v' w ⟨hp.shape, hq.shape⟩ (fun h => hl (by rw [h])) hl
theorem few_any (p : List Pt) (v : Value) (w : World) (hp : Sl w v p) : Calls Try.prog 11 #[v] w fun e w' => e = .returned (.bool (decide (p.length ≤ 80))) ∧ w = w' := by
  obtain ⟨a, c, rfl⟩ := hp.shape
  clear hp
  by_cases h : p.length ≤ 80
  · rw [decide_eq_true h]
    have h' : (p.length : Int) ≤ 80 := by omega
    go_enter Try.func11, Try.ntmps11
    go_wp2_with fail
    go_ret
    exact ⟨by first | rfl | (simp; omega), rfl⟩
  · rw [decide_eq_false h]
    have h' : (80 : Int) < (p.length : Int) := by omega
    clear h
    go_enter Try.func11, Try.ntmps11
    go_wp2_with fail
    go_ret
    exact ⟨by first | rfl | (simp; omega), rfl⟩
end Hl
end Go.Proofs.Yteglefjnbkocgaa
