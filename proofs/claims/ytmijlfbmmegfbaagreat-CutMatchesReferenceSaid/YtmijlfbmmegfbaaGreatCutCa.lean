/-
  Whether a polygon has a place, as a test; the landed isUpTo, isWellFormed, beyond, around.
-/
import Derived.Test.YtmijlfbmmegfbaaGreatCutCon
import Derived.Test.YtmijlfbmmegfbaaGreatExactPlain
import Derived.Test.YtmijlfbmmegfbaaGreatHullCa
namespace Go.Proofs.YtmijlfbmmegfbaaGreat
open Go.RowKit Hl
namespace Ct
instance (n : Nat) (P : Nat → Pt) (x : Pt) : Decidable (Ins n P x) := by unfold Ins; infer_instance
instance (a b x : Pt) : Decidable (btw a b x) := by unfold btw; infer_instance
instance (p : List Pt) (x : Pt) : Decidable (Hs p x) := by unfold Hs; infer_instance
def hsB (p : List Pt) (x : Pt) : Bool := decide (Hs p x)
theorem mem_hsB {p q : List Pt} {y : Pt} : y ∈ p.filter (hsB q) ↔ y ∈ p ∧ Hs q y := by
  rw [List.mem_filter]
  unfold hsB
  rw [decide_eq_true_eq]
theorem mem_list {p : List Pt} {y : Pt} : y ∈ p ↔ ∃ i, i < p.length ∧ at' p i = y := ⟨fun h => mem_at h, fun ⟨i, hi, e⟩ => by rw [← e]; exact at_mem hi⟩
def xfL (a b c d : Pt) : List Pt := if Df (cr c d a) (cr c d b) then crL c d (cr a b c) (cr a b d) else []
theorem mem_xfL (a b c d y : Pt) : y ∈ xfL a b c d ↔ XF a b c d y := by
  unfold xfL XF
  by_cases h : Df (cr c d a) (cr c d b)
  · rw [if_pos h, mem_crL]
    exact ⟨fun g => ⟨h, g⟩, fun g => g.2⟩
  · rw [if_neg h]
    exact ⟨fun g => (by cases g), fun g => absurd g.1 h⟩
def crossLL (p q : List Pt) : List Pt := (List.range p.length).flatMap fun i => (List.range q.length).flatMap fun k => xfL (at' p i) (at' p ((i + 1) % p.length)) (at' q k) (at' q ((k + 1) % q.length))
theorem mem_crossLL (p q : List Pt) (y : Pt) : y ∈ crossLL p q ↔ ∃ i k, (i < p.length ∧ k < q.length) ∧ XF (at' p i) (at' p ((i + 1) % p.length)) (at' q k) (at' q ((k + 1) % q.length)) y := by
  unfold crossLL
  rw [List.mem_flatMap]
  constructor
  · rintro ⟨i, hi, h⟩
    obtain ⟨k, hk, h⟩ := List.mem_flatMap.1 h
    exact ⟨i, k, ⟨List.mem_range.1 hi, List.mem_range.1 hk⟩, (mem_xfL _ _ _ _ _).1 h⟩
  · rintro ⟨i, k, ⟨hi, hk⟩, h⟩
    exact ⟨i, List.mem_range.2 hi, List.mem_flatMap.2 ⟨k, List.mem_range.2 hk, (mem_xfL _ _ _ _ _).2 h⟩⟩
def bothL (p q : List Pt) : List Pt := p.filter (hsB q) ++ q.filter (hsB p) ++ crossLL p q
theorem mem_bothL (p q : List Pt) (y : Pt) : y ∈ bothL p q ↔ BothS p q y := by
  unfold bothL BothS
  rw [List.mem_append, List.mem_append, mem_hsB, mem_hsB, mem_crossLL, mem_list, mem_list]
  constructor
  · rintro ((⟨⟨i, hi, e⟩, g⟩ | ⟨⟨i, hi, e⟩, g⟩) | g)
    · exact Or.inl ⟨i, hi, e, g⟩
    · exact Or.inr (Or.inl ⟨i, hi, e, g⟩)
    · exact Or.inr (Or.inr g)
  · rintro (⟨i, hi, e, g⟩ | ⟨i, hi, e, g⟩ | g)
    · exact Or.inl (Or.inl ⟨⟨i, hi, e⟩, g⟩)
    · exact Or.inl (Or.inr ⟨⟨i, hi, e⟩, g⟩)
    · exact Or.inr g
end Ct
end Go.Proofs.YtmijlfbmmegfbaaGreat
namespace Go.Proofs.YtmijlfbmmegfbaaGreat
open Go.RowKit
namespace Ct
open Hl
/-- Bounds of what an edge is made of. -/
def EB (h : Hf) : Prop := (-1000000 ≤ h.1 ∧ h.1 ≤ 1000000) ∧ (-1000000 ≤ h.2.1 ∧ h.2.1 ≤ 1000000) ∧ -1000000000000 ≤ h.2.2 ∧ h.2.2 ≤ 1000000000000
theorem WF.eb {h : Hf} (k : WF h) : EB h := k.1
theorem mul_bd {x y a b : Int} (hx : -a ≤ x ∧ x ≤ a) (hy : -b ≤ y ∧ y ≤ b) : -(a * b) ≤ x * y ∧ x * y ≤ a * b := by
  have p1 := Int.mul_nonneg (show 0 ≤ a - x by omega) (show 0 ≤ b + y by omega)
  have p2 := Int.mul_nonneg (show 0 ≤ a + x by omega) (show 0 ≤ b - y by omega)
  have p3 := Int.mul_nonneg (show 0 ≤ a - x by omega) (show 0 ≤ b - y by omega)
  have p4 := Int.mul_nonneg (show 0 ≤ a + x by omega) (show 0 ≤ b + y by omega)
  have e1 : (a - x) * (b + y) + (a + x) * (b - y) = 2 * (a * b) - 2 * (x * y) := by grind
  have e2 : (a - x) * (b - y) + (a + x) * (b + y) = 2 * (a * b) + 2 * (x * y) := by grind
  omega
theorem ov_bd {h : Hf} {x : Pt} (hh : EB h) (hx : Plc x) : (-500000000000 ≤ h.1 * x.1 ∧ h.1 * x.1 ≤ 500000000000) ∧ (-500000000000 ≤ h.2.1 * x.2 ∧ h.2.1 * x.2 ≤ 500000000000) ∧ -2000000000000 ≤ ov h x ∧ ov h x ≤ 2000000000000 := by
  have h1 := mul_bd hh.1 hx.1
  have h2 := mul_bd hh.2.1 hx.2
  have h3 := hh.2.2
  unfold ov
  omega
theorem upTo_c (m n : Int) (w : World) (hm : -1000000000000 ≤ m ∧ m ≤ 1000000000000) : Calls Tryz.prog 44 #[.int .i64 m, .int .i64 n] w fun e w' => e = .returned (.bool (decide (-m ≤ n ∧ n ≤ m))) ∧ w = w' := by
  by_cases h1 : -m ≤ n
  · by_cases h2 : n ≤ m
    · rw [decide_eq_true (show -m ≤ n ∧ n ≤ m from ⟨h1, h2⟩)]
      go_enter Tryz.func44, Tryz.ntmps44
      go_wp2_with fail
      go_ret
      exact ⟨rfl, rfl⟩
    · rw [decide_eq_false (show ¬ (-m ≤ n ∧ n ≤ m) from fun h => h2 h.2)]
      go_enter Tryz.func44, Tryz.ntmps44
      go_wp2_with fail
      go_ret
      exact ⟨rfl, rfl⟩
  · rw [decide_eq_false (show ¬ (-m ≤ n ∧ n ≤ m) from fun h => h1 h.1)]
    go_enter Tryz.func44, Tryz.ntmps44
    go_wp2_with fail
    go_ret
    exact ⟨rfl, rfl⟩
theorem beyond_c (h : Hf) (x : Pt) (w : World) (hh : EB h) (hx : Plc x) : Calls Tryz.prog 23 #[.agg #[.int .i64 h.1, .int .i64 h.2.1, .int .i64 h.2.2], .agg #[.int .i64 x.1, .int .i64 x.2]] w fun e w' => e = .returned (.int .i64 (ov h x)) ∧ (w.alloc (.cells #[.int .i64 h.1, .int .i64 h.2.1, .int .i64 h.2.2] 44)).alloc (.cells #[.int .i64 x.1, .int .i64 x.2] 26) = w' := by
  obtain ⟨⟨b0, b1⟩, ⟨b2, b3⟩, b4, b5⟩ := ov_bd hh hx
  obtain ⟨-, -, b6, b7⟩ := hh
  rcases h with ⟨A, B, C⟩
  rcases x with ⟨x, y⟩
  unfold ov at *
  simp only at *
  go_enter Tryz.func23, Tryz.ntmps23
  go_wp2_with fail
  go_ret
  exact ⟨rfl, rfl⟩
theorem well_c (h : Hf) (w : World) : Calls Tryz.prog 21 #[.agg #[.int .i64 h.1, .int .i64 h.2.1, .int .i64 h.2.2]] w fun e w' => e = .returned (.bool (decide (WF h))) ∧ w.alloc (.cells #[.int .i64 h.1, .int .i64 h.2.1, .int .i64 h.2.2] 24) = w' := by
  rcases h with ⟨A, B, C⟩
  have ed : decide (WF (A, B, C)) = (((!(decide (A = 0) && decide (B = 0)) && decide (-1000000 ≤ A ∧ A ≤ 1000000)) && decide (-1000000 ≤ B ∧ B ≤ 1000000)) && decide (-1000000000000 ≤ C ∧ C ≤ 1000000000000)) := by
    rw [Bool.eq_iff_iff]
    simp only [decide_eq_true_eq, Bool.and_eq_true, Bool.not_eq_true', Bool.and_eq_false_iff, decide_eq_false_iff_not]
    unfold WF
    simp only
    omega
  rw [ed]
  have CA := Lib.hid (fun w => upTo_c 1000000 A w (by omega))
  have CB := Lib.hid (fun w => upTo_c 1000000 B w (by omega))
  have CC := Lib.hid (fun w => upTo_c 1000000000000 C w (by omega))
  generalize decide (-1000000 ≤ A ∧ A ≤ 1000000) = p at CA ⊢
  generalize decide (-1000000 ≤ B ∧ B ≤ 1000000) = q at CB ⊢
  generalize decide (-1000000000000 ≤ C ∧ C ≤ 1000000000000) = r at CC ⊢
  clear ed
  have walk : ∀ z : Bool, Hid ((!(decide (A = 0) && decide (B = 0))) = z) → (A = 0 ∧ B = 0 ∧ z = false ∨ A = 0 ∧ B ≠ 0 ∧ z = true ∨ A ≠ 0 ∧ z = true) → Calls Tryz.prog 21 #[.agg #[.int .i64 A, .int .i64 B, .int .i64 C]] w fun e w' => e = .returned (.bool (((z && p) && q) && r)) ∧ w.alloc (.cells #[.int .i64 A, .int .i64 B, .int .i64 C] 24) = w' := by
    intro z _ hz
    have fin : ∀ n : Bool, n = (((z && p) && q) && r) → Hid ((((z && p) && q) && r) = n) := fun n h => Lib.hid h.symm
    rcases hz with ⟨rfl, rfl, rfl⟩ | ⟨rfl, hb, rfl⟩ | ⟨ha, rfl⟩
    · have F := fin false (by simp)
      clear fin
      generalize (((false && p) && q) && r) = n at F ⊢
      obtain rfl := F.out
      go_enter Tryz.func21, Tryz.ntmps21
      go_wp2_with fail
      go_ret
      exact ⟨rfl, rfl⟩
    all_goals
      first
        | (have hb1 : (B != 0) = true := by simp [hb])
        | (have ha1 : (A != 0) = true := by simp [ha])
      cases p
      · have F := fin false (by simp)
        clear fin
        generalize (((true && false) && q) && r) = n at F ⊢
        obtain rfl := F.out
        go_enter Tryz.func21, Tryz.ntmps21
        go_wp2_with fail
        refine (CA.out _).mono ?_
        rintro e w1 ⟨rfl, rfl⟩
        go_wp2_with fail
        go_ret
        exact ⟨rfl, rfl⟩
      · cases q
        · have F := fin false (by simp)
          clear fin
          generalize (((true && true) && false) && r) = n at F ⊢
          obtain rfl := F.out
          go_enter Tryz.func21, Tryz.ntmps21
          go_wp2_with fail
          refine (CA.out _).mono ?_
          rintro e w1 ⟨rfl, rfl⟩
          go_wp2_with fail
          refine (CB.out _).mono ?_
          rintro e w1 ⟨rfl, rfl⟩
          go_wp2_with fail
          go_ret
          exact ⟨rfl, rfl⟩
        · have F := fin r (by simp)
          clear fin
          generalize (((true && true) && true) && r) = n at F ⊢
          obtain rfl := F.out
          go_enter Tryz.func21, Tryz.ntmps21
          go_wp2_with fail
          refine (CA.out _).mono ?_
          rintro e w1 ⟨rfl, rfl⟩
          go_wp2_with fail
          refine (CB.out _).mono ?_
          rintro e w1 ⟨rfl, rfl⟩
          go_wp2_with fail
          refine (CC.out _).mono ?_
          rintro e w1 ⟨rfl, rfl⟩
          go_wp2_with fail
          go_ret
          exact ⟨rfl, rfl⟩
  by_cases ha : A = 0
  · by_cases hb : B = 0
    · subst ha; subst hb; exact walk _ (Lib.hid rfl) (Or.inl ⟨rfl, rfl, rfl⟩)
    · subst ha; exact walk _ (Lib.hid rfl) (Or.inr (Or.inl ⟨rfl, hb, by simp [hb]⟩))
  · exact walk _ (Lib.hid rfl) (Or.inr (Or.inr ⟨ha, by simp [ha]⟩))

/-! ### Quotients -/
set_option maxHeartbeats 400000 in
theorem around_c (a b : Int) (w : World) (hb : b ≠ 0) (ha : -2000000000000000000 ≤ a ∧ a ≤ 2000000000000000000) :
    Calls Tryz.prog 53 #[.int .i64 a, .int .i64 b] w fun e w' => e = .returned (.tuple #[.int .i64 (Ex.fl a b), .int .i64 (Ex.ce a b)]) ∧ w = w' := by
  obtain ⟨q0, q1⟩ := Ex.tdiv_bd a b hb
  have q2 : -2000000000000000000 ≤ a.tdiv b := by omega
  have q3 : a.tdiv b ≤ 2000000000000000000 := by omega
  clear q0 q1
  have hb' : (b == 0) = false := by simp [hb]
  obtain ⟨_, c1, c2, _, _⟩ := Ex.cut_facts a b hb
  by_cases h : a.tmod b = 0
  · obtain ⟨e1, e2⟩ := Ex.fl_whole hb h
    rw [e1, e2]
    have h' : (a.tmod b == 0) = true := by simp [h]
    clear e1 e2 c1 c2
    go_enter Tryz.func53, Tryz.ntmps53
    go_wp2_with fail
    go_ret2
    exact ⟨rfl, rfl⟩
  · have h' : (a.tmod b == 0) = false := by simp [h]
    have an : a ≠ 0 := fun e => h (by rw [e]; exact Int.zero_tmod b)
    have sg : (a.tmod b < 0) ↔ a < 0 := by
      constructor
      · intro g
        by_cases z : a < 0
        · exact z
        · have := c1 (by omega); omega
      · intro g
        have := c2 (by omega); omega
    clear c1 c2
    by_cases hs : (a.tmod b < 0) ↔ (b < 0)
    · obtain ⟨e1, e2⟩ := Ex.fl_above hb h hs
      rw [e1, e2]
      have h2 : (decide (a < 0) == decide (b < 0)) = true := by simp only [beq_iff_eq, decide_eq_decide]; rw [← sg]; exact hs
      clear e1 e2 h hs sg
      go_enter Tryz.func53, Tryz.ntmps53
      go_wp2_with fail
      go_ret2
      exact ⟨rfl, rfl⟩
    · obtain ⟨e1, e2⟩ := Ex.fl_below hb h hs
      rw [e1, e2]
      have h2 : (decide (a < 0) == decide (b < 0)) = false := by
        rw [Bool.eq_false_iff]
        intro g
        simp only [beq_iff_eq, decide_eq_decide] at g
        exact hs (sg.trans g)
      have h3 : a.tdiv b - 1 + 1 = a.tdiv b := by omega
      clear e1 e2 h hs sg
      go_enter Tryz.func53, Tryz.ntmps53
      go_wp2_with fail
      go_ret2
      exact ⟨by first | rfl | (simp; omega), rfl⟩
theorem fl_fr {s t m n a b : Int} (h : Wt s t m n) : a + Ex.fl ((b - a) * s) (s - t) = (m * a + n * b) / (m + n) ∧ a + Ex.ce ((b - a) * s) (s - t) = -(-(m * a + n * b) / (m + n)) := by
  have hW : m + n ≠ 0 := by have := h.1; have := h.2.1; omega
  have hW' : 0 < m + n := by have := h.1; have := h.2.1; omega
  have key : ∀ x : Int, Ex.fl x (m + n) = x / (m + n) := fun x => by unfold Ex.fl; rw [if_pos hW']
  have k1 : Ex.fl ((b - a) * s) (s - t) = ((b - a) * n) / (m + n) ∧ Ex.ce ((b - a) * s) (s - t) = -((-((b - a) * n)) / (m + n)) := by
    rcases h.2.2 with ⟨e1, e2⟩ | ⟨e1, e2⟩
    · rw [e1, e2, show -n - m = -(m + n) by omega, Int.mul_neg, Ex.fl_neg_neg _ _ hW, Ex.ce_neg_neg _ _ hW]
      unfold Ex.ce
      rw [key, key]
      exact ⟨rfl, rfl⟩
    · rw [e1, e2, show n - -m = m + n by omega]
      unfold Ex.ce
      rw [key, key]
      exact ⟨rfl, rfl⟩
  have e1 : m * a + n * b = (b - a) * n + a * (m + n) := by grind
  have e2 : -(m * a + n * b) = -((b - a) * n) + -a * (m + n) := by grind
  rw [k1.1, k1.2, e2, Int.add_mul_ediv_right _ _ hW, e1, Int.add_mul_ediv_right _ _ hW]
  omega
end Ct
end Go.Proofs.YtmijlfbmmegfbaaGreat
