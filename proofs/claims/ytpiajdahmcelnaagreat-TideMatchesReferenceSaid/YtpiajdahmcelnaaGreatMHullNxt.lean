/-
  The point behind a corner.
-/
import Derived.Test.YtpiajdahmcelnaaGreatMHullArd
namespace Go.Proofs.YtpiajdahmcelnaaGreat
open Go.RowKit
namespace Hl
/-- Points within 2000000 in X and in Y. -/
def Pw (x : Pt) : Prop := (-2000000 ≤ x.1 ∧ x.1 ≤ 2000000) ∧ (-2000000 ≤ x.2 ∧ x.2 ≤ 2000000)
def Pws (p : List Pt) : Prop := ∀ i, i < p.length → Pw (at' p i)
theorem Plc.pw {x : Pt} (h : Plc x) : Pw x := by unfold Plc at h; unfold Pw; omega
theorem Plcs.pws {p : List Pt} (h : Plcs p) : Pws p := fun i hi => (h i hi).pw
theorem cw_bd {a b c : Pt} (ha : Pw a) (hb : Pw b) (hc : Pw c) : (-16000000000000 ≤ (b.1 - a.1) * (c.2 - a.2) ∧ (b.1 - a.1) * (c.2 - a.2) ≤ 16000000000000) ∧ (-16000000000000 ≤ (b.2 - a.2) * (c.1 - a.1) ∧ (b.2 - a.2) * (c.1 - a.1) ≤ 16000000000000) := by
  have m : ∀ x y : Int, -4000000 ≤ x → x ≤ 4000000 → -4000000 ≤ y → y ≤ 4000000 → -16000000000000 ≤ x * y ∧ x * y ≤ 16000000000000 := by
    intro x y h0 h1 h2 h3
    by_cases hx : 0 ≤ x
    · have e1 := Int.mul_le_mul_of_nonneg_left h3 hx
      have e2 := Int.mul_le_mul_of_nonneg_left h2 hx
      omega
    · have e1 := Int.mul_le_mul_of_nonpos_left (show x ≤ 0 by omega) h3
      have e2 := Int.mul_le_mul_of_nonpos_left (show x ≤ 0 by omega) h2
      omega
  obtain ⟨⟨a0, a1⟩, ⟨a2, a3⟩⟩ := ha
  obtain ⟨⟨b0, b1⟩, ⟨b2, b3⟩⟩ := hb
  obtain ⟨⟨c0, c1⟩, ⟨c2, c3⟩⟩ := hc
  exact ⟨m _ _ (by omega) (by omega) (by omega) (by omega), m _ _ (by omega) (by omega) (by omega) (by omega)⟩
theorem cross_w (x y z : Pt) (w : World) (ha : Pw x) (hb : Pw y) (hc : Pw z) : Calls Tryz.prog 79 #[.agg #[.int .i64 x.1, .int .i64 x.2], .agg #[.int .i64 y.1, .int .i64 y.2], .agg #[.int .i64 z.1, .int .i64 z.2]] w fun e w' => e = .returned (.int .i64 (cr x y z)) ∧ ((w.alloc (.cells #[.int .i64 (x.1), .int .i64 (x.2)] 30)).alloc (.cells #[.int .i64 (y.1), .int .i64 (y.2)] 30)).alloc (.cells #[.int .i64 (z.1), .int .i64 (z.2)] 30) = w' := by
  rcases x with ⟨a1, a2⟩
  rcases y with ⟨b1, b2⟩
  rcases z with ⟨c1, c2⟩
  obtain ⟨⟨m0, m1⟩, ⟨m2, m3⟩⟩ := cw_bd ha hb hc
  obtain ⟨⟨p0, p1⟩, ⟨p2, p3⟩⟩ := ha
  obtain ⟨⟨q0, q1⟩, ⟨q2, q3⟩⟩ := hb
  obtain ⟨⟨r0, r1⟩, ⟨r2, r3⟩⟩ := hc
  simp only at p0 p1 p2 p3 q0 q1 q2 q3 r0 r1 r2 r3 m0 m1 m2 m3
  go_enter Tryz.func79, Tryz.ntmps79
  go_wp2_with fail
  go_ret
  exact ⟨rfl, rfl⟩
def IsFX (f : Pt) (l : List Pt) (k : Nat) (m : Pt) : Prop := m = (l.take k).foldl (nx f) f
theorem IsFX.step {f m : Pt} {l : List Pt} {k : Nat} (h : IsFX f l k m) (hk : k < l.length) : IsFX f l (k + 1) (nx f m (at' l k)) := by
  unfold IsFX at h ⊢
  have e : at' l k = l[k] := by unfold at'; simp [hk]
  rw [List.take_succ_eq_append_getElem hk, List.foldl_append, ← h, e]
  rfl
theorem IsFX.yes {f m : Pt} {l : List Pt} {k : Nat} (h : IsFX f l k m) (hk : k < l.length) (c : m = f ∨ cr f m (at' l k) < 0 ∨ (cr f m (at' l k) = 0 ∧ btw f (at' l k) m)) : IsFX f l (k + 1) (at' l k) := by
  have := h.step hk
  unfold nx at this
  rwa [if_pos c] at this
theorem IsFX.no {f m : Pt} {l : List Pt} {k : Nat} (h : IsFX f l k m) (hk : k < l.length) (c : ¬ (m = f ∨ cr f m (at' l k) < 0 ∨ (cr f m (at' l k) = 0 ∧ btw f (at' l k) m))) : IsFX f l (k + 1) m := by
  have := h.step hk
  unfold nx at this
  rwa [if_neg c] at this
theorem IsFX.plc {f : Pt} {l : List Pt} (hf : Pw f) (hl : Pws l) : ∀ {k : Nat} {m : Pt}, IsFX f l k m → k ≤ l.length → Pw m := by
  intro k
  induction k with
  | zero => intro m h _; unfold IsFX at h; rw [h]; exact hf
  | succ k ih =>
    intro m h hk
    have h0 := ih (m := (l.take k).foldl (nx f) f) rfl (by omega)
    have h1 : m = nx f ((l.take k).foldl (nx f) f) (at' l k) := h.trans (IsFX.step (k := k) rfl (by omega)).symm
    rw [h1]
    unfold nx
    split
    · exact hl k (by omega)
    · exact h0
theorem IsFX.all {f m : Pt} {l : List Pt} {k : Nat} (h : IsFX f l k m) (hk : l.length ≤ k) : m = NX f l := by
  unfold IsFX at h
  rw [List.take_of_length_le hk] at h
  exact h
set_option maxRecDepth 100000 in
set_option maxHeartbeats 4000000 in
theorem next_any (l : List Pt) (f : Pt) (b o c : Nat) (w : World) (hr : Row w b o l) (hl : Pws l) (hf : Pw f) (h2 : l.length ≤ 9223372036854775807) : Calls Tryz.prog 60 #[.slice (some ⟨b, o, none⟩) l.length c, .agg #[.int .i64 f.1, .int .i64 f.2]] w fun e w' => e = .returned (.agg #[.int .i64 (NX f l).1, .int .i64 (NX f l).2]) ∧ Grew w w' := by
  have HR := Lib.hid hr
  have PL := Lib.hid hl
  have PF := Lib.hid hf
  clear hr hl hf
  go_enter Tryz.func60, Tryz.ntmps60
  go_wp2_with fail
  go_loopw [6] (fun i wr => ∃ (k : Nat) (m : Pt), k ≤ l.length ∧ i = .int .i64 k ∧ Grew w wr ∧ w.heap.size + 1 + 1 < wr.heap.size ∧ (((wr.frozen? ⟨w.heap.size + 1, 0, none⟩ = false ∧ wr.frozen? ⟨w.heap.size + 1, 1, none⟩ = false) ∧ wr.frozen? ⟨w.heap.size + 1 + 1, 0, none⟩ = false) ∧ wr.frozen? ⟨w.heap.size + 1 + 1, 1, none⟩ = false) ∧ IsFX f l k m ∧ (wr.cell? ⟨w.heap.size, 0, none⟩ = some (.int .i64 f.1) ∧ wr.cell? ⟨w.heap.size, 1, none⟩ = some (.int .i64 f.2)) ∧ (wr.cell? ⟨w.heap.size + 1, 0, none⟩ = some (.int .i64 0) ∧ wr.cell? ⟨w.heap.size + 1, 1, none⟩ = some (.int .i64 0)) ∧ wr.cell? ⟨w.heap.size + 1 + 1, 0, none⟩ = some (.int .i64 m.1) ∧ wr.cell? ⟨w.heap.size + 1 + 1, 1, none⟩ = some (.int .i64 m.2)) (fun i _ => l.length - (intOf i).toNat)
  case atStart => exact ⟨0, f, Nat.zero_le _, rfl, by (repeat' (first | (with_reducible exact Grew.refl _) | (with_reducible assumption) | (with_reducible refine Grew.alloc ?_ _ _) | (with_reducible refine Grew.drew ?_) | (with_reducible refine Grew.drewN ?_ _) | (with_reducible refine Grew.setCell ?_ ?_ _) | go_size)), by simp, ⟨⟨⟨by simp [go_sem], by simp [go_sem]⟩, by simp [go_sem]⟩, by simp [go_sem]⟩, rfl, ⟨by simp [go_sem], by simp [go_sem]⟩, ⟨by simp [go_sem], by simp [go_sem]⟩, by simp [go_sem], by simp [go_sem]⟩
  case round =>
    obtain ⟨k, m, hk, rfl, G, t0, ⟨⟨⟨z0, z1⟩, z2⟩, z3⟩, FX, ⟨f0, f1⟩, ⟨r0, r1⟩, x0, x1⟩ := hrel
    have u0 : w.heap.size < wr.heap.size := by omega
    have v0 : w.heap.size + 1 < wr.heap.size := by omega
    by_cases hlt : k < l.length
    · obtain ⟨s0, s1⟩ := (HR.out.grown G).2 k hlt
      have hb := (HR.out.grown G).1
      have hB0 : b < wr.heap.size := by omega
      have hB1 : b < wr.heap.size + 1 := by omega
      have hB2 : b < wr.heap.size + 1 + 1 := by omega
      have hB3 : b < wr.heap.size + 1 + 1 + 1 := by omega
      have hB4 : b < wr.heap.size + 1 + 1 + 1 + 1 := by omega
      have hB5 : b < wr.heap.size + 1 + 1 + 1 + 1 + 1 := by omega
      have hB6 : b < wr.heap.size + 1 + 1 + 1 + 1 + 1 + 1 := by omega
      have hU0 : w.heap.size < wr.heap.size := by omega
      have hU1 : w.heap.size < wr.heap.size + 1 := by omega
      have hU2 : w.heap.size < wr.heap.size + 1 + 1 := by omega
      have hU3 : w.heap.size < wr.heap.size + 1 + 1 + 1 := by omega
      have hU4 : w.heap.size < wr.heap.size + 1 + 1 + 1 + 1 := by omega
      have hU5 : w.heap.size < wr.heap.size + 1 + 1 + 1 + 1 + 1 := by omega
      have hU6 : w.heap.size < wr.heap.size + 1 + 1 + 1 + 1 + 1 + 1 := by omega
      have hV0 : w.heap.size + 1 < wr.heap.size := by omega
      have hV1 : w.heap.size + 1 < wr.heap.size + 1 := by omega
      have hV2 : w.heap.size + 1 < wr.heap.size + 1 + 1 := by omega
      have hV3 : w.heap.size + 1 < wr.heap.size + 1 + 1 + 1 := by omega
      have hV4 : w.heap.size + 1 < wr.heap.size + 1 + 1 + 1 + 1 := by omega
      have hV5 : w.heap.size + 1 < wr.heap.size + 1 + 1 + 1 + 1 + 1 := by omega
      have hV6 : w.heap.size + 1 < wr.heap.size + 1 + 1 + 1 + 1 + 1 + 1 := by omega
      have hT0 : w.heap.size + 1 + 1 < wr.heap.size := by omega
      have hT1 : w.heap.size + 1 + 1 < wr.heap.size + 1 := by omega
      have hT2 : w.heap.size + 1 + 1 < wr.heap.size + 1 + 1 := by omega
      have hT3 : w.heap.size + 1 + 1 < wr.heap.size + 1 + 1 + 1 := by omega
      have hT4 : w.heap.size + 1 + 1 < wr.heap.size + 1 + 1 + 1 + 1 := by omega
      have hT5 : w.heap.size + 1 + 1 < wr.heap.size + 1 + 1 + 1 + 1 + 1 := by omega
      have hT6 : w.heap.size + 1 + 1 < wr.heap.size + 1 + 1 + 1 + 1 + 1 + 1 := by omega
      have i0 : (0 : Int) ≤ (k : Int) := by omega
      have i1 : (k : Int) < (l.length : Int) := by omega
      obtain ⟨z, hz⟩ : ∃ z, cr f m (at' l k) = z := ⟨_, rfl⟩
      have CX : Hid (∀ w, Calls Tryz.prog 79 #[.agg #[.int .i64 f.1, .int .i64 f.2], .agg #[.int .i64 m.1, .int .i64 m.2], .agg #[.int .i64 (at' l k).1, .int .i64 (at' l k).2]] w fun e w' => e = .returned (.int .i64 z) ∧ ((w.alloc (.cells #[.int .i64 f.1, .int .i64 f.2] 30)).alloc (.cells #[.int .i64 m.1, .int .i64 m.2] 30)).alloc (.cells #[.int .i64 (at' l k).1, .int .i64 (at' l k).2] 30) = w') := Lib.hid (fun w => by rw [← hz]; exact cross_w _ _ _ w PF.out (FX.plc PF.out PL.out hk) (PL.out k hlt))
      have HZ := Lib.hid hz
      clear hz
      by_cases e1 : m.1 = f.1
      · by_cases e2 : m.2 = f.2
        · have q1 : (m.1 == f.1) = true := by rw [beq_iff_eq]; exact e1
          have q2 : (m.2 == f.2) = true := by rw [beq_iff_eq]; exact e2
          have C : Hid (m = f ∨ cr f m (at' l k) < 0 ∨ (cr f m (at' l k) = 0 ∧ btw f (at' l k) m)) := Lib.hid (Or.inl (Prod.ext e1 e2))
          clear e1 e2
          go_wp2_with fail
          go_region_held3 (fun w' => w'.cell? ⟨w.heap.size, 0, none⟩ = some (.int .i64 f.1) ∧ w'.cell? ⟨w.heap.size, 1, none⟩ = some (.int .i64 f.2) ∧ w'.cell? ⟨w.heap.size + 1 + 1, 0, none⟩ = some (.int .i64 m.1) ∧ w'.cell? ⟨w.heap.size + 1 + 1, 1, none⟩ = some (.int .i64 m.2) ∧ w'.cell? ⟨b, o + k * 2, none⟩ = some (.int .i64 (at' l k).1) ∧ w'.cell? ⟨b, o + k * 2 + 1, none⟩ = some (.int .i64 (at' l k).2)) (simp [go_sem, s0, s1, x0, x1, f0, f1, hB0, hB1, hB2, hU0, hU1, hU2, hT0, hT1, hT2])
            (first | (go_at_call 79; refine (CX.out _).mono ?_; rintro e w' ⟨rfl, rfl⟩))
          go_wp2_with fail
          go_quiet (fail)
          go_wp2_with fail
          go_roundw
          case rel => exact ⟨k + 1, at' l k, by omega, by go_num, by (repeat' (first | (with_reducible exact Grew.refl _) | (with_reducible assumption) | (with_reducible refine Grew.alloc ?_ _ _) | (with_reducible refine Grew.drew ?_) | (with_reducible refine Grew.drewN ?_ _) | (with_reducible refine Grew.setCell ?_ ?_ _) | go_size)), by simp; omega, ⟨⟨⟨by simp [frozen?_alloc_cells, go_sem, z0], by simp [frozen?_alloc_cells, go_sem, z1]⟩, by simp [frozen?_alloc_cells, go_sem, z2]⟩, by simp [frozen?_alloc_cells, go_sem, z3]⟩, FX.yes hlt C.out, ⟨by simp [go_sem, f0, hU0, hU1, hU2], by simp [go_sem, f1, hU0, hU1, hU2]⟩, ⟨by simp [go_sem, r0, hV0, hV1, hV2], by simp [go_sem, r1, hV0, hV1, hV2]⟩, by simp [go_sem, x0, hT0, hT1, hT2], by simp [go_sem, x1, hT0, hT1, hT2]⟩
          case measure => simp [intOf]; omega
        · have q1 : (m.1 == f.1) = true := by rw [beq_iff_eq]; exact e1
          have q2 : (m.2 == f.2) = false := by rw [beq_eq_false_iff_ne]; exact e2
          have NE : Hid (¬ m = f) := Lib.hid (fun h => e2 (by rw [h]))
          clear e1 e2
          rcases Int.lt_trichotomy z 0 with hz | hz | hz
          · have C : Hid (m = f ∨ cr f m (at' l k) < 0 ∨ (cr f m (at' l k) = 0 ∧ btw f (at' l k) m)) := Lib.hid (Or.inr (Or.inl (by rw [HZ.out]; exact hz)))
            go_wp2_with fail
            go_region_held3 (fun w' => w'.cell? ⟨w.heap.size, 0, none⟩ = some (.int .i64 f.1) ∧ w'.cell? ⟨w.heap.size, 1, none⟩ = some (.int .i64 f.2) ∧ w'.cell? ⟨w.heap.size + 1 + 1, 0, none⟩ = some (.int .i64 m.1) ∧ w'.cell? ⟨w.heap.size + 1 + 1, 1, none⟩ = some (.int .i64 m.2) ∧ w'.cell? ⟨b, o + k * 2, none⟩ = some (.int .i64 (at' l k).1) ∧ w'.cell? ⟨b, o + k * 2 + 1, none⟩ = some (.int .i64 (at' l k).2)) (simp [go_sem, s0, s1, x0, x1, f0, f1, hB0, hB1, hB2, hU0, hU1, hU2, hT0, hT1, hT2])
              (first | (go_at_call 79; refine (CX.out _).mono ?_; rintro e w' ⟨rfl, rfl⟩))
            go_wp2_with fail
            go_quiet (fail)
            go_wp2_with fail
            go_roundw
            case rel => exact ⟨k + 1, at' l k, by omega, by go_num, by (repeat' (first | (with_reducible exact Grew.refl _) | (with_reducible assumption) | (with_reducible refine Grew.alloc ?_ _ _) | (with_reducible refine Grew.drew ?_) | (with_reducible refine Grew.drewN ?_ _) | (with_reducible refine Grew.setCell ?_ ?_ _) | go_size)), by simp; omega, ⟨⟨⟨by simp [frozen?_alloc_cells, go_sem, z0], by simp [frozen?_alloc_cells, go_sem, z1]⟩, by simp [frozen?_alloc_cells, go_sem, z2]⟩, by simp [frozen?_alloc_cells, go_sem, z3]⟩, FX.yes hlt C.out, ⟨by simp [go_sem, f0, hU0, hU1, hU2], by simp [go_sem, f1, hU0, hU1, hU2]⟩, ⟨by simp [go_sem, r0, hV0, hV1, hV2], by simp [go_sem, r1, hV0, hV1, hV2]⟩, by simp [go_sem, x0, hT0, hT1, hT2], by simp [go_sem, x1, hT0, hT1, hT2]⟩
            case measure => simp [intOf]; omega
          · have BX0 := between_x f (at' l k) m
            by_cases hbt : btw f (at' l k) m
            · have C : Hid (m = f ∨ cr f m (at' l k) < 0 ∨ (cr f m (at' l k) = 0 ∧ btw f (at' l k) m)) := Lib.hid (Or.inr (Or.inr ⟨by rw [HZ.out]; exact hz, hbt⟩))
              rw [decide_eq_true hbt] at BX0
              have BX := Lib.hid BX0
              clear BX0 hbt
              subst hz
              go_wp2_with fail
              go_region_held3 (fun w' => w'.cell? ⟨w.heap.size, 0, none⟩ = some (.int .i64 f.1) ∧ w'.cell? ⟨w.heap.size, 1, none⟩ = some (.int .i64 f.2) ∧ w'.cell? ⟨w.heap.size + 1 + 1, 0, none⟩ = some (.int .i64 m.1) ∧ w'.cell? ⟨w.heap.size + 1 + 1, 1, none⟩ = some (.int .i64 m.2) ∧ w'.cell? ⟨b, o + k * 2, none⟩ = some (.int .i64 (at' l k).1) ∧ w'.cell? ⟨b, o + k * 2 + 1, none⟩ = some (.int .i64 (at' l k).2)) (simp [go_sem, s0, s1, x0, x1, f0, f1, hB0, hB1, hB2, hU0, hU1, hU2, hT0, hT1, hT2])
                (first | (go_at_call 79; refine (CX.out _).mono ?_; rintro e w' ⟨rfl, rfl⟩))
              go_wp2_with fail
              go_region_held3 (fun w' => w'.cell? ⟨w.heap.size, 0, none⟩ = some (.int .i64 f.1) ∧ w'.cell? ⟨w.heap.size, 1, none⟩ = some (.int .i64 f.2) ∧ w'.cell? ⟨w.heap.size + 1 + 1, 0, none⟩ = some (.int .i64 m.1) ∧ w'.cell? ⟨w.heap.size + 1 + 1, 1, none⟩ = some (.int .i64 m.2) ∧ w'.cell? ⟨b, o + k * 2, none⟩ = some (.int .i64 (at' l k).1) ∧ w'.cell? ⟨b, o + k * 2 + 1, none⟩ = some (.int .i64 (at' l k).2)) (simp [go_sem, s0, s1, x0, x1, f0, f1, hB0, hB1, hB2, hB3, hB4, hB5, hU0, hU1, hU2, hU3, hU4, hU5, hT0, hT1, hT2, hT3, hT4, hT5])
                (first | (go_at_call 80; refine (BX.out _).mono ?_; rintro e w' ⟨rfl, rfl⟩))
              go_wp2_with fail
              go_roundw
              case rel => exact ⟨k + 1, at' l k, by omega, by go_num, by (repeat' (first | (with_reducible exact Grew.refl _) | (with_reducible assumption) | (with_reducible refine Grew.alloc ?_ _ _) | (with_reducible refine Grew.drew ?_) | (with_reducible refine Grew.drewN ?_ _) | (with_reducible refine Grew.setCell ?_ ?_ _) | go_size)), by simp; omega, ⟨⟨⟨by simp [frozen?_alloc_cells, go_sem, z0], by simp [frozen?_alloc_cells, go_sem, z1]⟩, by simp [frozen?_alloc_cells, go_sem, z2]⟩, by simp [frozen?_alloc_cells, go_sem, z3]⟩, FX.yes hlt C.out, ⟨by simp [go_sem, f0, hU0, hU1, hU2, hU3, hU4, hU5], by simp [go_sem, f1, hU0, hU1, hU2, hU3, hU4, hU5]⟩, ⟨by simp [go_sem, r0, hV0, hV1, hV2, hV3, hV4, hV5], by simp [go_sem, r1, hV0, hV1, hV2, hV3, hV4, hV5]⟩, by simp [go_sem, x0, hT0, hT1, hT2, hT3, hT4, hT5], by simp [go_sem, x1, hT0, hT1, hT2, hT3, hT4, hT5]⟩
              case measure => simp [intOf]; omega
            · have C : Hid (¬ (m = f ∨ cr f m (at' l k) < 0 ∨ (cr f m (at' l k) = 0 ∧ btw f (at' l k) m))) := Lib.hid (fun h => h.elim NE.out (fun h => h.elim (fun h => by rw [HZ.out] at h; omega) (fun h => hbt h.2)))
              rw [decide_eq_false hbt] at BX0
              have BX := Lib.hid BX0
              clear BX0 hbt
              subst hz
              go_wp2_with fail
              go_region_held3 (fun w' => w'.cell? ⟨w.heap.size, 0, none⟩ = some (.int .i64 f.1) ∧ w'.cell? ⟨w.heap.size, 1, none⟩ = some (.int .i64 f.2) ∧ w'.cell? ⟨w.heap.size + 1 + 1, 0, none⟩ = some (.int .i64 m.1) ∧ w'.cell? ⟨w.heap.size + 1 + 1, 1, none⟩ = some (.int .i64 m.2) ∧ w'.cell? ⟨b, o + k * 2, none⟩ = some (.int .i64 (at' l k).1) ∧ w'.cell? ⟨b, o + k * 2 + 1, none⟩ = some (.int .i64 (at' l k).2)) (simp [go_sem, s0, s1, x0, x1, f0, f1, hB0, hB1, hB2, hU0, hU1, hU2, hT0, hT1, hT2])
                (first | (go_at_call 79; refine (CX.out _).mono ?_; rintro e w' ⟨rfl, rfl⟩))
              go_wp2_with fail
              go_region_held3 (fun w' => w'.cell? ⟨w.heap.size, 0, none⟩ = some (.int .i64 f.1) ∧ w'.cell? ⟨w.heap.size, 1, none⟩ = some (.int .i64 f.2) ∧ w'.cell? ⟨w.heap.size + 1 + 1, 0, none⟩ = some (.int .i64 m.1) ∧ w'.cell? ⟨w.heap.size + 1 + 1, 1, none⟩ = some (.int .i64 m.2) ∧ w'.cell? ⟨b, o + k * 2, none⟩ = some (.int .i64 (at' l k).1) ∧ w'.cell? ⟨b, o + k * 2 + 1, none⟩ = some (.int .i64 (at' l k).2)) (simp [go_sem, s0, s1, x0, x1, f0, f1, hB0, hB1, hB2, hB3, hB4, hB5, hU0, hU1, hU2, hU3, hU4, hU5, hT0, hT1, hT2, hT3, hT4, hT5])
                (first | (go_at_call 80; refine (BX.out _).mono ?_; rintro e w' ⟨rfl, rfl⟩))
              go_wp2_with fail
              go_roundw
              case rel => exact ⟨k + 1, m, by omega, by go_num, by (repeat' (first | (with_reducible exact Grew.refl _) | (with_reducible assumption) | (with_reducible refine Grew.alloc ?_ _ _) | (with_reducible refine Grew.drew ?_) | (with_reducible refine Grew.drewN ?_ _) | (with_reducible refine Grew.setCell ?_ ?_ _) | go_size)), by simp; omega, ⟨⟨⟨by simp [frozen?_alloc_cells, go_sem, z0], by simp [frozen?_alloc_cells, go_sem, z1]⟩, by simp [frozen?_alloc_cells, go_sem, z2]⟩, by simp [frozen?_alloc_cells, go_sem, z3]⟩, FX.no hlt C.out, ⟨by simp [go_sem, f0, hU0, hU1, hU2, hU3, hU4, hU5], by simp [go_sem, f1, hU0, hU1, hU2, hU3, hU4, hU5]⟩, ⟨by simp [go_sem, r0, hV0, hV1, hV2, hV3, hV4, hV5], by simp [go_sem, r1, hV0, hV1, hV2, hV3, hV4, hV5]⟩, by simp [go_sem, x0, hT0, hT1, hT2, hT3, hT4, hT5], by simp [go_sem, x1, hT0, hT1, hT2, hT3, hT4, hT5]⟩
              case measure => simp [intOf]; omega
          · have C : Hid (¬ (m = f ∨ cr f m (at' l k) < 0 ∨ (cr f m (at' l k) = 0 ∧ btw f (at' l k) m))) := Lib.hid (fun h => h.elim NE.out (fun h => h.elim (fun h => by rw [HZ.out] at h; omega) (fun h => by have := h.1; rw [HZ.out] at this; omega)))
            have hz0 : (z == 0) = false := by rw [beq_eq_false_iff_ne]; omega
            have hz1 : decide (z < 0) = false := by rw [decide_eq_false_iff_not]; omega
            have hz2 : 0 ≤ z := by omega
            go_wp2_with fail
            go_region_held3 (fun w' => w'.cell? ⟨w.heap.size, 0, none⟩ = some (.int .i64 f.1) ∧ w'.cell? ⟨w.heap.size, 1, none⟩ = some (.int .i64 f.2) ∧ w'.cell? ⟨w.heap.size + 1 + 1, 0, none⟩ = some (.int .i64 m.1) ∧ w'.cell? ⟨w.heap.size + 1 + 1, 1, none⟩ = some (.int .i64 m.2) ∧ w'.cell? ⟨b, o + k * 2, none⟩ = some (.int .i64 (at' l k).1) ∧ w'.cell? ⟨b, o + k * 2 + 1, none⟩ = some (.int .i64 (at' l k).2)) (simp [go_sem, s0, s1, x0, x1, f0, f1, hB0, hB1, hB2, hU0, hU1, hU2, hT0, hT1, hT2])
              (first | (go_at_call 79; refine (CX.out _).mono ?_; rintro e w' ⟨rfl, rfl⟩))
            go_wp2_with fail
            go_quiet (fail)
            go_wp2_with fail
            go_roundw
            case rel => exact ⟨k + 1, m, by omega, by go_num, by (repeat' (first | (with_reducible exact Grew.refl _) | (with_reducible assumption) | (with_reducible refine Grew.alloc ?_ _ _) | (with_reducible refine Grew.drew ?_) | (with_reducible refine Grew.drewN ?_ _) | (with_reducible refine Grew.setCell ?_ ?_ _) | go_size)), by simp; omega, ⟨⟨⟨by simp [frozen?_alloc_cells, go_sem, z0], by simp [frozen?_alloc_cells, go_sem, z1]⟩, by simp [frozen?_alloc_cells, go_sem, z2]⟩, by simp [frozen?_alloc_cells, go_sem, z3]⟩, FX.no hlt C.out, ⟨by simp [go_sem, f0, hU0, hU1, hU2], by simp [go_sem, f1, hU0, hU1, hU2]⟩, ⟨by simp [go_sem, r0, hV0, hV1, hV2], by simp [go_sem, r1, hV0, hV1, hV2]⟩, by simp [go_sem, x0, hT0, hT1, hT2], by simp [go_sem, x1, hT0, hT1, hT2]⟩
            case measure => simp [intOf]; omega
      · have q1 : (m.1 == f.1) = false := by rw [beq_eq_false_iff_ne]; exact e1
        have NE : Hid (¬ m = f) := Lib.hid (fun h => e1 (by rw [h]))
        clear e1
        rcases Int.lt_trichotomy z 0 with hz | hz | hz
        · have C : Hid (m = f ∨ cr f m (at' l k) < 0 ∨ (cr f m (at' l k) = 0 ∧ btw f (at' l k) m)) := Lib.hid (Or.inr (Or.inl (by rw [HZ.out]; exact hz)))
          go_wp2_with fail
          go_region_held3 (fun w' => w'.cell? ⟨w.heap.size, 0, none⟩ = some (.int .i64 f.1) ∧ w'.cell? ⟨w.heap.size, 1, none⟩ = some (.int .i64 f.2) ∧ w'.cell? ⟨w.heap.size + 1 + 1, 0, none⟩ = some (.int .i64 m.1) ∧ w'.cell? ⟨w.heap.size + 1 + 1, 1, none⟩ = some (.int .i64 m.2) ∧ w'.cell? ⟨b, o + k * 2, none⟩ = some (.int .i64 (at' l k).1) ∧ w'.cell? ⟨b, o + k * 2 + 1, none⟩ = some (.int .i64 (at' l k).2)) (simp [go_sem, s0, s1, x0, x1, f0, f1, hB0, hB1, hB2, hU0, hU1, hU2, hT0, hT1, hT2])
            (first | (go_at_call 79; refine (CX.out _).mono ?_; rintro e w' ⟨rfl, rfl⟩))
          go_wp2_with fail
          go_quiet (fail)
          go_wp2_with fail
          go_roundw
          case rel => exact ⟨k + 1, at' l k, by omega, by go_num, by (repeat' (first | (with_reducible exact Grew.refl _) | (with_reducible assumption) | (with_reducible refine Grew.alloc ?_ _ _) | (with_reducible refine Grew.drew ?_) | (with_reducible refine Grew.drewN ?_ _) | (with_reducible refine Grew.setCell ?_ ?_ _) | go_size)), by simp; omega, ⟨⟨⟨by simp [frozen?_alloc_cells, go_sem, z0], by simp [frozen?_alloc_cells, go_sem, z1]⟩, by simp [frozen?_alloc_cells, go_sem, z2]⟩, by simp [frozen?_alloc_cells, go_sem, z3]⟩, FX.yes hlt C.out, ⟨by simp [go_sem, f0, hU0, hU1, hU2], by simp [go_sem, f1, hU0, hU1, hU2]⟩, ⟨by simp [go_sem, r0, hV0, hV1, hV2], by simp [go_sem, r1, hV0, hV1, hV2]⟩, by simp [go_sem, x0, hT0, hT1, hT2], by simp [go_sem, x1, hT0, hT1, hT2]⟩
          case measure => simp [intOf]; omega
        · have BX0 := between_x f (at' l k) m
          by_cases hbt : btw f (at' l k) m
          · have C : Hid (m = f ∨ cr f m (at' l k) < 0 ∨ (cr f m (at' l k) = 0 ∧ btw f (at' l k) m)) := Lib.hid (Or.inr (Or.inr ⟨by rw [HZ.out]; exact hz, hbt⟩))
            rw [decide_eq_true hbt] at BX0
            have BX := Lib.hid BX0
            clear BX0 hbt
            subst hz
            go_wp2_with fail
            go_region_held3 (fun w' => w'.cell? ⟨w.heap.size, 0, none⟩ = some (.int .i64 f.1) ∧ w'.cell? ⟨w.heap.size, 1, none⟩ = some (.int .i64 f.2) ∧ w'.cell? ⟨w.heap.size + 1 + 1, 0, none⟩ = some (.int .i64 m.1) ∧ w'.cell? ⟨w.heap.size + 1 + 1, 1, none⟩ = some (.int .i64 m.2) ∧ w'.cell? ⟨b, o + k * 2, none⟩ = some (.int .i64 (at' l k).1) ∧ w'.cell? ⟨b, o + k * 2 + 1, none⟩ = some (.int .i64 (at' l k).2)) (simp [go_sem, s0, s1, x0, x1, f0, f1, hB0, hB1, hB2, hU0, hU1, hU2, hT0, hT1, hT2])
              (first | (go_at_call 79; refine (CX.out _).mono ?_; rintro e w' ⟨rfl, rfl⟩))
            go_wp2_with fail
            go_region_held3 (fun w' => w'.cell? ⟨w.heap.size, 0, none⟩ = some (.int .i64 f.1) ∧ w'.cell? ⟨w.heap.size, 1, none⟩ = some (.int .i64 f.2) ∧ w'.cell? ⟨w.heap.size + 1 + 1, 0, none⟩ = some (.int .i64 m.1) ∧ w'.cell? ⟨w.heap.size + 1 + 1, 1, none⟩ = some (.int .i64 m.2) ∧ w'.cell? ⟨b, o + k * 2, none⟩ = some (.int .i64 (at' l k).1) ∧ w'.cell? ⟨b, o + k * 2 + 1, none⟩ = some (.int .i64 (at' l k).2)) (simp [go_sem, s0, s1, x0, x1, f0, f1, hB0, hB1, hB2, hB3, hB4, hB5, hU0, hU1, hU2, hU3, hU4, hU5, hT0, hT1, hT2, hT3, hT4, hT5])
              (first | (go_at_call 80; refine (BX.out _).mono ?_; rintro e w' ⟨rfl, rfl⟩))
            go_wp2_with fail
            go_roundw
            case rel => exact ⟨k + 1, at' l k, by omega, by go_num, by (repeat' (first | (with_reducible exact Grew.refl _) | (with_reducible assumption) | (with_reducible refine Grew.alloc ?_ _ _) | (with_reducible refine Grew.drew ?_) | (with_reducible refine Grew.drewN ?_ _) | (with_reducible refine Grew.setCell ?_ ?_ _) | go_size)), by simp; omega, ⟨⟨⟨by simp [frozen?_alloc_cells, go_sem, z0], by simp [frozen?_alloc_cells, go_sem, z1]⟩, by simp [frozen?_alloc_cells, go_sem, z2]⟩, by simp [frozen?_alloc_cells, go_sem, z3]⟩, FX.yes hlt C.out, ⟨by simp [go_sem, f0, hU0, hU1, hU2, hU3, hU4, hU5], by simp [go_sem, f1, hU0, hU1, hU2, hU3, hU4, hU5]⟩, ⟨by simp [go_sem, r0, hV0, hV1, hV2, hV3, hV4, hV5], by simp [go_sem, r1, hV0, hV1, hV2, hV3, hV4, hV5]⟩, by simp [go_sem, x0, hT0, hT1, hT2, hT3, hT4, hT5], by simp [go_sem, x1, hT0, hT1, hT2, hT3, hT4, hT5]⟩
            case measure => simp [intOf]; omega
          · have C : Hid (¬ (m = f ∨ cr f m (at' l k) < 0 ∨ (cr f m (at' l k) = 0 ∧ btw f (at' l k) m))) := Lib.hid (fun h => h.elim NE.out (fun h => h.elim (fun h => by rw [HZ.out] at h; omega) (fun h => hbt h.2)))
            rw [decide_eq_false hbt] at BX0
            have BX := Lib.hid BX0
            clear BX0 hbt
            subst hz
            go_wp2_with fail
            go_region_held3 (fun w' => w'.cell? ⟨w.heap.size, 0, none⟩ = some (.int .i64 f.1) ∧ w'.cell? ⟨w.heap.size, 1, none⟩ = some (.int .i64 f.2) ∧ w'.cell? ⟨w.heap.size + 1 + 1, 0, none⟩ = some (.int .i64 m.1) ∧ w'.cell? ⟨w.heap.size + 1 + 1, 1, none⟩ = some (.int .i64 m.2) ∧ w'.cell? ⟨b, o + k * 2, none⟩ = some (.int .i64 (at' l k).1) ∧ w'.cell? ⟨b, o + k * 2 + 1, none⟩ = some (.int .i64 (at' l k).2)) (simp [go_sem, s0, s1, x0, x1, f0, f1, hB0, hB1, hB2, hU0, hU1, hU2, hT0, hT1, hT2])
              (first | (go_at_call 79; refine (CX.out _).mono ?_; rintro e w' ⟨rfl, rfl⟩))
            go_wp2_with fail
            go_region_held3 (fun w' => w'.cell? ⟨w.heap.size, 0, none⟩ = some (.int .i64 f.1) ∧ w'.cell? ⟨w.heap.size, 1, none⟩ = some (.int .i64 f.2) ∧ w'.cell? ⟨w.heap.size + 1 + 1, 0, none⟩ = some (.int .i64 m.1) ∧ w'.cell? ⟨w.heap.size + 1 + 1, 1, none⟩ = some (.int .i64 m.2) ∧ w'.cell? ⟨b, o + k * 2, none⟩ = some (.int .i64 (at' l k).1) ∧ w'.cell? ⟨b, o + k * 2 + 1, none⟩ = some (.int .i64 (at' l k).2)) (simp [go_sem, s0, s1, x0, x1, f0, f1, hB0, hB1, hB2, hB3, hB4, hB5, hU0, hU1, hU2, hU3, hU4, hU5, hT0, hT1, hT2, hT3, hT4, hT5])
              (first | (go_at_call 80; refine (BX.out _).mono ?_; rintro e w' ⟨rfl, rfl⟩))
            go_wp2_with fail
            go_roundw
            case rel => exact ⟨k + 1, m, by omega, by go_num, by (repeat' (first | (with_reducible exact Grew.refl _) | (with_reducible assumption) | (with_reducible refine Grew.alloc ?_ _ _) | (with_reducible refine Grew.drew ?_) | (with_reducible refine Grew.drewN ?_ _) | (with_reducible refine Grew.setCell ?_ ?_ _) | go_size)), by simp; omega, ⟨⟨⟨by simp [frozen?_alloc_cells, go_sem, z0], by simp [frozen?_alloc_cells, go_sem, z1]⟩, by simp [frozen?_alloc_cells, go_sem, z2]⟩, by simp [frozen?_alloc_cells, go_sem, z3]⟩, FX.no hlt C.out, ⟨by simp [go_sem, f0, hU0, hU1, hU2, hU3, hU4, hU5], by simp [go_sem, f1, hU0, hU1, hU2, hU3, hU4, hU5]⟩, ⟨by simp [go_sem, r0, hV0, hV1, hV2, hV3, hV4, hV5], by simp [go_sem, r1, hV0, hV1, hV2, hV3, hV4, hV5]⟩, by simp [go_sem, x0, hT0, hT1, hT2, hT3, hT4, hT5], by simp [go_sem, x1, hT0, hT1, hT2, hT3, hT4, hT5]⟩
            case measure => simp [intOf]; omega
        · have C : Hid (¬ (m = f ∨ cr f m (at' l k) < 0 ∨ (cr f m (at' l k) = 0 ∧ btw f (at' l k) m))) := Lib.hid (fun h => h.elim NE.out (fun h => h.elim (fun h => by rw [HZ.out] at h; omega) (fun h => by have := h.1; rw [HZ.out] at this; omega)))
          have hz0 : (z == 0) = false := by rw [beq_eq_false_iff_ne]; omega
          have hz1 : decide (z < 0) = false := by rw [decide_eq_false_iff_not]; omega
          have hz2 : 0 ≤ z := by omega
          go_wp2_with fail
          go_region_held3 (fun w' => w'.cell? ⟨w.heap.size, 0, none⟩ = some (.int .i64 f.1) ∧ w'.cell? ⟨w.heap.size, 1, none⟩ = some (.int .i64 f.2) ∧ w'.cell? ⟨w.heap.size + 1 + 1, 0, none⟩ = some (.int .i64 m.1) ∧ w'.cell? ⟨w.heap.size + 1 + 1, 1, none⟩ = some (.int .i64 m.2) ∧ w'.cell? ⟨b, o + k * 2, none⟩ = some (.int .i64 (at' l k).1) ∧ w'.cell? ⟨b, o + k * 2 + 1, none⟩ = some (.int .i64 (at' l k).2)) (simp [go_sem, s0, s1, x0, x1, f0, f1, hB0, hB1, hB2, hU0, hU1, hU2, hT0, hT1, hT2])
            (first | (go_at_call 79; refine (CX.out _).mono ?_; rintro e w' ⟨rfl, rfl⟩))
          go_wp2_with fail
          go_quiet (fail)
          go_wp2_with fail
          go_roundw
          case rel => exact ⟨k + 1, m, by omega, by go_num, by (repeat' (first | (with_reducible exact Grew.refl _) | (with_reducible assumption) | (with_reducible refine Grew.alloc ?_ _ _) | (with_reducible refine Grew.drew ?_) | (with_reducible refine Grew.drewN ?_ _) | (with_reducible refine Grew.setCell ?_ ?_ _) | go_size)), by simp; omega, ⟨⟨⟨by simp [frozen?_alloc_cells, go_sem, z0], by simp [frozen?_alloc_cells, go_sem, z1]⟩, by simp [frozen?_alloc_cells, go_sem, z2]⟩, by simp [frozen?_alloc_cells, go_sem, z3]⟩, FX.no hlt C.out, ⟨by simp [go_sem, f0, hU0, hU1, hU2], by simp [go_sem, f1, hU0, hU1, hU2]⟩, ⟨by simp [go_sem, r0, hV0, hV1, hV2], by simp [go_sem, r1, hV0, hV1, hV2]⟩, by simp [go_sem, x0, hT0, hT1, hT2], by simp [go_sem, x1, hT0, hT1, hT2]⟩
          case measure => simp [intOf]; omega
    · have em := FX.all (by omega)
      have EM := Lib.hid em
      clear em
      go_wp2_with fail
      refine bodyPost_ret (v := .agg #[.int .i64 m.1, .int .i64 m.2]) (by simp [results, Tryz.results60, go_sem, *]) rfl ⟨by rw [EM.out], by (repeat' (first | (with_reducible exact Grew.refl _) | (with_reducible assumption) | (with_reducible refine Grew.alloc ?_ _ _) | (with_reducible refine Grew.drew ?_) | (with_reducible refine Grew.drewN ?_ _) | (with_reducible refine Grew.setCell ?_ ?_ _) | go_size))⟩
end Hl
end Go.Proofs.YtpiajdahmcelnaaGreat
