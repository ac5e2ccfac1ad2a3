/-
  The landed package tide: whether flows rise, whether an edition is well-formed.
-/
import Derived.Test.YtpiajdahmcelnaaGreatMTdA
namespace Go.Proofs.YtpiajdahmcelnaaGreat
open Go.RowKit Hl
namespace Td
set_option maxRecDepth 100000

theorem fok_and (n : Int) (f : Fw) : decide (Fok n f) = (decide (Bok f.k) && (decide (-50 ≤ f.x ∧ f.x ≤ 50) && (decide (-50 ≤ f.y ∧ f.y ≤ 50) && decide (0 ≤ f.s ∧ f.s ≤ n - 1)))) := by
  rw [Bool.eq_iff_iff]
  simp only [Bool.and_eq_true, decide_eq_true_eq]
  rfl
theorem flok_iff (n : Int) (l : List Fw) : Flok n l ↔ ∀ j, j < l.length → Fok n (ith l j) ∧ (0 < j → Bf (ith l (j - 1)) (ith l j)) := by
  refine ⟨fun h j hj => ⟨h.1 j hj, fun h0 => ?_⟩, fun h => ⟨fun j hj => (h j hj).1, fun j hj => (h (j + 1) hj).2 (by omega)⟩⟩
  have := h.2 (j - 1) (by omega)
  rwa [show j - 1 + 1 = j by omega] at this
instance (n : Int) (l : List Fw) : Decidable (Flok n l) := decidable_of_iff _ (flok_iff n l).symm
instance (t : Ed) : Decidable (Tok t) := by unfold Tok; infer_instance
theorem areFlows_nil (n : Int) (a : Option Addr) (c : Nat) (w : World) : Calls Tryz.prog 25 #[.slice a 0 c, .int .i64 n] w fun e w' => e = .returned (.bool true) ∧ w = w' := by
  go_enter Tryz.func25, Tryz.ntmps25
  go_wp2_with fail
  go_loopw [9] (fun i wr => i = .int .i64 0 ∧ w = wr) (fun _ _ => 0)
  case atStart => exact ⟨rfl, rfl⟩
  case round =>
    obtain ⟨rfl, rfl⟩ := hrel
    go_wp2_with fail
    go_ret
    exact ⟨rfl, rfl⟩
set_option maxHeartbeats 8000000 in
theorem areFlows_row (l : List Fw) (n : Int) (b o c : Nat) (w : World) (hr : Row w b o l) (hl : l.length ≤ 4000) (hn : 0 ≤ n ∧ n ≤ 1000) :
    Calls Tryz.prog 25 #[.slice (some ⟨b, o, none⟩) l.length c, .int .i64 n] w fun e w' => e = .returned (.bool (decide (Flok n l))) ∧ Grew w w' := by
  obtain ⟨r, hr0⟩ : ∃ r, decide (Flok n l) = r := ⟨_, rfl⟩
  have HT : Hid (r = true ↔ ∀ j, j < l.length → Fok n (ith l j) ∧ (0 < j → Bf (ith l (j - 1)) (ith l j))) := Lib.hid (by
    rw [← hr0, decide_eq_true_eq]
    exact flok_iff n l)
  rw [hr0]
  have HR := Lib.hid hr
  have h' : (l.length : Int) ≤ 4000 := by omega
  obtain ⟨n0, n1⟩ := hn
  clear hr hr0 hl
  go_enter Tryz.func25, Tryz.ntmps25
  go_wp2_with fail
  go_loopw [9] (fun i wr => ∃ k : Nat, k ≤ l.length ∧ i = .int .i64 k ∧ Grew w wr ∧ Hid (∀ j, j < k → Fok n (ith l j) ∧ (0 < j → Bf (ith l (j - 1)) (ith l j)))) (fun i _ => l.length - (intOf i).toNat)
  case atStart => exact ⟨0, Nat.zero_le _, rfl, Grew.refl _, Lib.hid (fun j hj => by omega)⟩
  case round =>
    obtain ⟨k, hk, rfl, G, D⟩ := hrel
    by_cases hlt : k < l.length
    · obtain ⟨q0, q1, q2, q3, q4, q5, q6, q7, q8⟩ := (HR.out.grew G).at hlt
      have i0 : (0 : Int) ≤ (k : Int) := by omega
      have i1 : (k : Int) < (l.length : Int) := by omega
      have hb : b < wr.heap.size := World.block_lt_of_cell? wr _ q0
      have C1 := hasBounds_c (ith l k)
      have C2 := Lib.hid (isFrom_c (ith l k).x (-50) 50)
      have C3 := Lib.hid (isFrom_c (ith l k).y (-50) 50)
      have C4 := Lib.hid (isFrom_c (ith l k).s 0 (n - 1))
      have HF := Lib.hid (fok_and n (ith l k))
      obtain ⟨f, hf⟩ : ∃ f, ith l k = f := ⟨_, rfl⟩
      have HE := Lib.hid hf
      rw [hf] at q0 q1 q2 q3 q4 q5 q6 q7 q8 C1 C2 C3 C4 HF
      clear hf
      unfold fv at C1
      have CB := Lib.hid C1
      clear C1
      generalize decide (Bok f.k) = r1 at CB HF
      generalize decide (-50 ≤ f.x ∧ f.x ≤ 50) = r2 at C2 HF
      generalize decide (-50 ≤ f.y ∧ f.y ≤ 50) = r3 at C3 HF
      generalize decide (0 ≤ f.s ∧ f.s ≤ n - 1) = r4 at C4 HF
      go_wp2_with fail
      refine (CB.out _).mono ?_
      rintro e w1 ⟨rfl, g1⟩
      obtain ⟨c1, f1, z1⟩ := laid g1
      try simp at z1
      have G1 : Grew w w1 := Grew.trans (by (repeat' (first | (with_reducible exact Grew.refl _) | (with_reducible assumption) | (with_reducible refine Grew.alloc ?_ _ _) | (with_reducible refine Grew.drew ?_) | (with_reducible refine Grew.drewN ?_ _) | (with_reducible refine Grew.setCell ?_ ?_ _) | go_size))) g1
      clear g1
      have z1_0 : wr.heap.size < w1.heap.size := by omega
      have hb1 : b < w1.heap.size := by omega
      cases r1
      · go_wp2_with fail
        go_ret
        refine ⟨?_, (by (repeat' (first | (with_reducible exact Grew.refl _) | (with_reducible assumption) | (with_reducible refine Grew.alloc ?_ _ _) | (with_reducible refine Grew.drew ?_) | (with_reducible refine Grew.drewN ?_ _) | (with_reducible refine Grew.setCell ?_ ?_ _) | go_size)))⟩
        have : r = false := by
          rw [Bool.eq_false_iff]
          intro e
          have h := (HT.out.1 e k hlt).1
          rw [HE.out] at h
          have h2 := decide_eq_true h
          rw [HF.out] at h2
          cases h2
        rw [this]
        rfl
      · go_wp2_with fail
        refine (C2.out _).mono ?_
        rintro e w2 ⟨rfl, rfl⟩
        cases r2
        · go_wp2_with fail
          go_ret
          refine ⟨?_, (by (repeat' (first | (with_reducible exact Grew.refl _) | (with_reducible assumption) | (with_reducible refine Grew.alloc ?_ _ _) | (with_reducible refine Grew.drew ?_) | (with_reducible refine Grew.drewN ?_ _) | (with_reducible refine Grew.setCell ?_ ?_ _) | go_size)))⟩
          have : r = false := by
            rw [Bool.eq_false_iff]
            intro e
            have h := (HT.out.1 e k hlt).1
            rw [HE.out] at h
            have h2 := decide_eq_true h
            rw [HF.out] at h2
            cases h2
          rw [this]
          rfl
        · go_wp2_with fail
          refine (C3.out _).mono ?_
          rintro e w3 ⟨rfl, rfl⟩
          cases r3
          · go_wp2_with fail
            go_ret
            refine ⟨?_, (by (repeat' (first | (with_reducible exact Grew.refl _) | (with_reducible assumption) | (with_reducible refine Grew.alloc ?_ _ _) | (with_reducible refine Grew.drew ?_) | (with_reducible refine Grew.drewN ?_ _) | (with_reducible refine Grew.setCell ?_ ?_ _) | go_size)))⟩
            have : r = false := by
              rw [Bool.eq_false_iff]
              intro e
              have h := (HT.out.1 e k hlt).1
              rw [HE.out] at h
              have h2 := decide_eq_true h
              rw [HF.out] at h2
              cases h2
            rw [this]
            rfl
          · go_wp2_with fail
            refine (C4.out _).mono ?_
            rintro e w4 ⟨rfl, rfl⟩
            cases r4
            · go_wp2_with fail
              go_ret
              refine ⟨?_, (by (repeat' (first | (with_reducible exact Grew.refl _) | (with_reducible assumption) | (with_reducible refine Grew.alloc ?_ _ _) | (with_reducible refine Grew.drew ?_) | (with_reducible refine Grew.drewN ?_ _) | (with_reducible refine Grew.setCell ?_ ?_ _) | go_size)))⟩
              have : r = false := by
                rw [Bool.eq_false_iff]
                intro e
                have h := (HT.out.1 e k hlt).1
                rw [HE.out] at h
                have h2 := decide_eq_true h
                rw [HF.out] at h2
                cases h2
              rw [this]
              rfl
            · have HFT : Hid (Fok n f) := Lib.hid (of_decide_eq_true HF.out)
              cases k with
              | zero =>
                go_wp2_with fail
                go_quiet (fail)
                go_wp2_with fail
                go_roundw
                case rel => exact ⟨1, by omega, by go_num, (by (repeat' (first | (with_reducible exact Grew.refl _) | (with_reducible assumption) | (with_reducible refine Grew.alloc ?_ _ _) | (with_reducible refine Grew.drew ?_) | (with_reducible refine Grew.drewN ?_ _) | (with_reducible refine Grew.setCell ?_ ?_ _) | go_size))), Lib.hid (fun j hj => by
                  obtain rfl : j = 0 := by omega
                  exact ⟨by rw [HE.out]; exact HFT.out, fun h => absurd h (Nat.lt_irrefl 0)⟩)⟩
                case measure => simp [intOf]; omega
              | succ m =>
                obtain ⟨p0, p1, p2, p3, p4, p5, p6, p7, p8⟩ := (HR.out.grew G1).at (i := m) (by omega)
                obtain ⟨g, hg⟩ : ∃ g, ith l m = g := ⟨_, rfl⟩
                rw [hg] at p0 p1 p2 p3 p4 p5 p6 p7 p8
                have HG := Lib.hid hg
                clear hg
                obtain ⟨r5, h5⟩ : ∃ r5, decide (Bf g f) = r5 := ⟨_, rfl⟩
                have H5 := Lib.hid h5
                have e0 : w1.cell? ⟨wr.heap.size, 0, none⟩ = some (.int .i64 f.x) := by simp [go_sem, *]
                have e1 : w1.cell? ⟨wr.heap.size, 1, none⟩ = some (.int .i64 f.y) := by simp [go_sem, *]
                have e2 : w1.cell? ⟨wr.heap.size, 2, none⟩ = some (.int .i64 f.s) := by simp [go_sem, *]
                have e3 : w1.cell? ⟨wr.heap.size, 3, none⟩ = some (.int .i64 f.k.a) := by simp [go_sem, *]
                have e4 : w1.cell? ⟨wr.heap.size, 4, none⟩ = some (.int .i64 f.k.b) := by simp [go_sem, *]
                have e5 : w1.cell? ⟨wr.heap.size, 5, none⟩ = some (.int .i64 f.k.c) := by simp [go_sem, *]
                have e6 : w1.cell? ⟨wr.heap.size, 6, none⟩ = some (.int .i64 f.k.d) := by simp [go_sem, *]
                have e7 : w1.cell? ⟨wr.heap.size, 7, none⟩ = some (.int .i64 f.k.e) := by simp [go_sem, *]
                have e8 : w1.cell? ⟨wr.heap.size, 8, none⟩ = some (.int .i64 f.k.f) := by simp [go_sem, *]
                have KS : Hid (∀ W W', (W.cell? ⟨wr.heap.size, 0, none⟩ = some (.int .i64 f.x) ∧ W.cell? ⟨wr.heap.size, 1, none⟩ = some (.int .i64 f.y) ∧ W.cell? ⟨wr.heap.size, 2, none⟩ = some (.int .i64 f.s) ∧ W.cell? ⟨wr.heap.size, 3, none⟩ = some (.int .i64 f.k.a) ∧ W.cell? ⟨wr.heap.size, 4, none⟩ = some (.int .i64 f.k.b) ∧ W.cell? ⟨wr.heap.size, 5, none⟩ = some (.int .i64 f.k.c) ∧ W.cell? ⟨wr.heap.size, 6, none⟩ = some (.int .i64 f.k.d) ∧ W.cell? ⟨wr.heap.size, 7, none⟩ = some (.int .i64 f.k.e) ∧ W.cell? ⟨wr.heap.size, 8, none⟩ = some (.int .i64 f.k.f) ∧ W.cell? ⟨b, o + m * 9, none⟩ = some (.int .i64 g.x) ∧ W.cell? ⟨b, o + m * 9 + 1, none⟩ = some (.int .i64 g.y) ∧ W.cell? ⟨b, o + m * 9 + 2, none⟩ = some (.int .i64 g.s) ∧ W.cell? ⟨b, o + m * 9 + 3, none⟩ = some (.int .i64 g.k.a) ∧ W.cell? ⟨b, o + m * 9 + 4, none⟩ = some (.int .i64 g.k.b) ∧ W.cell? ⟨b, o + m * 9 + 5, none⟩ = some (.int .i64 g.k.c) ∧ W.cell? ⟨b, o + m * 9 + 6, none⟩ = some (.int .i64 g.k.d) ∧ W.cell? ⟨b, o + m * 9 + 7, none⟩ = some (.int .i64 g.k.e) ∧ W.cell? ⟨b, o + m * 9 + 8, none⟩ = some (.int .i64 g.k.f) ∧ Grew w1 W) → Grew W W' → (W'.cell? ⟨wr.heap.size, 0, none⟩ = some (.int .i64 f.x) ∧ W'.cell? ⟨wr.heap.size, 1, none⟩ = some (.int .i64 f.y) ∧ W'.cell? ⟨wr.heap.size, 2, none⟩ = some (.int .i64 f.s) ∧ W'.cell? ⟨wr.heap.size, 3, none⟩ = some (.int .i64 f.k.a) ∧ W'.cell? ⟨wr.heap.size, 4, none⟩ = some (.int .i64 f.k.b) ∧ W'.cell? ⟨wr.heap.size, 5, none⟩ = some (.int .i64 f.k.c) ∧ W'.cell? ⟨wr.heap.size, 6, none⟩ = some (.int .i64 f.k.d) ∧ W'.cell? ⟨wr.heap.size, 7, none⟩ = some (.int .i64 f.k.e) ∧ W'.cell? ⟨wr.heap.size, 8, none⟩ = some (.int .i64 f.k.f) ∧ W'.cell? ⟨b, o + m * 9, none⟩ = some (.int .i64 g.x) ∧ W'.cell? ⟨b, o + m * 9 + 1, none⟩ = some (.int .i64 g.y) ∧ W'.cell? ⟨b, o + m * 9 + 2, none⟩ = some (.int .i64 g.s) ∧ W'.cell? ⟨b, o + m * 9 + 3, none⟩ = some (.int .i64 g.k.a) ∧ W'.cell? ⟨b, o + m * 9 + 4, none⟩ = some (.int .i64 g.k.b) ∧ W'.cell? ⟨b, o + m * 9 + 5, none⟩ = some (.int .i64 g.k.c) ∧ W'.cell? ⟨b, o + m * 9 + 6, none⟩ = some (.int .i64 g.k.d) ∧ W'.cell? ⟨b, o + m * 9 + 7, none⟩ = some (.int .i64 g.k.e) ∧ W'.cell? ⟨b, o + m * 9 + 8, none⟩ = some (.int .i64 g.k.f) ∧ Grew w1 W')) := Lib.hid (by
                  rintro W W' ⟨a0, a1, a2, a3, a4, a5, a6, a7, a8, a9, a10, a11, a12, a13, a14, a15, a16, a17, g0⟩ gg
                  have x1 : wr.heap.size < W.heap.size := Nat.lt_of_lt_of_le z1_0 g0.size
                  have x2 : b < W.heap.size := Nat.lt_of_lt_of_le hb1 g0.size
                  exact ⟨(gg.cell x1).trans a0, (gg.cell x1).trans a1, (gg.cell x1).trans a2, (gg.cell x1).trans a3, (gg.cell x1).trans a4, (gg.cell x1).trans a5, (gg.cell x1).trans a6, (gg.cell x1).trans a7, (gg.cell x1).trans a8, (gg.cell x2).trans a9, (gg.cell x2).trans a10, (gg.cell x2).trans a11, (gg.cell x2).trans a12, (gg.cell x2).trans a13, (gg.cell x2).trans a14, (gg.cell x2).trans a15, (gg.cell x2).trans a16, (gg.cell x2).trans a17, g0.trans gg⟩)
                have Q1 : Hid (∀ W, (W.cell? ⟨wr.heap.size, 0, none⟩ = some (.int .i64 f.x) ∧ W.cell? ⟨wr.heap.size, 1, none⟩ = some (.int .i64 f.y) ∧ W.cell? ⟨wr.heap.size, 2, none⟩ = some (.int .i64 f.s) ∧ W.cell? ⟨wr.heap.size, 3, none⟩ = some (.int .i64 f.k.a) ∧ W.cell? ⟨wr.heap.size, 4, none⟩ = some (.int .i64 f.k.b) ∧ W.cell? ⟨wr.heap.size, 5, none⟩ = some (.int .i64 f.k.c) ∧ W.cell? ⟨wr.heap.size, 6, none⟩ = some (.int .i64 f.k.d) ∧ W.cell? ⟨wr.heap.size, 7, none⟩ = some (.int .i64 f.k.e) ∧ W.cell? ⟨wr.heap.size, 8, none⟩ = some (.int .i64 f.k.f) ∧ W.cell? ⟨b, o + m * 9, none⟩ = some (.int .i64 g.x) ∧ W.cell? ⟨b, o + m * 9 + 1, none⟩ = some (.int .i64 g.y) ∧ W.cell? ⟨b, o + m * 9 + 2, none⟩ = some (.int .i64 g.s) ∧ W.cell? ⟨b, o + m * 9 + 3, none⟩ = some (.int .i64 g.k.a) ∧ W.cell? ⟨b, o + m * 9 + 4, none⟩ = some (.int .i64 g.k.b) ∧ W.cell? ⟨b, o + m * 9 + 5, none⟩ = some (.int .i64 g.k.c) ∧ W.cell? ⟨b, o + m * 9 + 6, none⟩ = some (.int .i64 g.k.d) ∧ W.cell? ⟨b, o + m * 9 + 7, none⟩ = some (.int .i64 g.k.e) ∧ W.cell? ⟨b, o + m * 9 + 8, none⟩ = some (.int .i64 g.k.f) ∧ Grew w1 W) → Calls Tryz.prog 24 #[.agg #[.int .i64 g.x, .int .i64 g.y, .int .i64 g.s, .int .i64 g.k.a, .int .i64 g.k.b, .int .i64 g.k.c, .int .i64 g.k.d, .int .i64 g.k.e, .int .i64 g.k.f]] W fun e w' => e = .returned (.agg #[.int .i64 g.s, .int .i64 g.y, .int .i64 g.x]) ∧ (w'.cell? ⟨wr.heap.size, 0, none⟩ = some (.int .i64 f.x) ∧ w'.cell? ⟨wr.heap.size, 1, none⟩ = some (.int .i64 f.y) ∧ w'.cell? ⟨wr.heap.size, 2, none⟩ = some (.int .i64 f.s) ∧ w'.cell? ⟨wr.heap.size, 3, none⟩ = some (.int .i64 f.k.a) ∧ w'.cell? ⟨wr.heap.size, 4, none⟩ = some (.int .i64 f.k.b) ∧ w'.cell? ⟨wr.heap.size, 5, none⟩ = some (.int .i64 f.k.c) ∧ w'.cell? ⟨wr.heap.size, 6, none⟩ = some (.int .i64 f.k.d) ∧ w'.cell? ⟨wr.heap.size, 7, none⟩ = some (.int .i64 f.k.e) ∧ w'.cell? ⟨wr.heap.size, 8, none⟩ = some (.int .i64 f.k.f) ∧ w'.cell? ⟨b, o + m * 9, none⟩ = some (.int .i64 g.x) ∧ w'.cell? ⟨b, o + m * 9 + 1, none⟩ = some (.int .i64 g.y) ∧ w'.cell? ⟨b, o + m * 9 + 2, none⟩ = some (.int .i64 g.s) ∧ w'.cell? ⟨b, o + m * 9 + 3, none⟩ = some (.int .i64 g.k.a) ∧ w'.cell? ⟨b, o + m * 9 + 4, none⟩ = some (.int .i64 g.k.b) ∧ w'.cell? ⟨b, o + m * 9 + 5, none⟩ = some (.int .i64 g.k.c) ∧ w'.cell? ⟨b, o + m * 9 + 6, none⟩ = some (.int .i64 g.k.d) ∧ w'.cell? ⟨b, o + m * 9 + 7, none⟩ = some (.int .i64 g.k.e) ∧ w'.cell? ⟨b, o + m * 9 + 8, none⟩ = some (.int .i64 g.k.f) ∧ Grew w1 w')) := Lib.hid (fun W h => by
                  refine (spotOf_c g W).mono ?_
                  rintro e w' ⟨rfl, gg⟩
                  exact ⟨rfl, KS.out _ _ h gg⟩)
                have Q2 : Hid (∀ W, (W.cell? ⟨wr.heap.size, 0, none⟩ = some (.int .i64 f.x) ∧ W.cell? ⟨wr.heap.size, 1, none⟩ = some (.int .i64 f.y) ∧ W.cell? ⟨wr.heap.size, 2, none⟩ = some (.int .i64 f.s) ∧ W.cell? ⟨wr.heap.size, 3, none⟩ = some (.int .i64 f.k.a) ∧ W.cell? ⟨wr.heap.size, 4, none⟩ = some (.int .i64 f.k.b) ∧ W.cell? ⟨wr.heap.size, 5, none⟩ = some (.int .i64 f.k.c) ∧ W.cell? ⟨wr.heap.size, 6, none⟩ = some (.int .i64 f.k.d) ∧ W.cell? ⟨wr.heap.size, 7, none⟩ = some (.int .i64 f.k.e) ∧ W.cell? ⟨wr.heap.size, 8, none⟩ = some (.int .i64 f.k.f) ∧ W.cell? ⟨b, o + m * 9, none⟩ = some (.int .i64 g.x) ∧ W.cell? ⟨b, o + m * 9 + 1, none⟩ = some (.int .i64 g.y) ∧ W.cell? ⟨b, o + m * 9 + 2, none⟩ = some (.int .i64 g.s) ∧ W.cell? ⟨b, o + m * 9 + 3, none⟩ = some (.int .i64 g.k.a) ∧ W.cell? ⟨b, o + m * 9 + 4, none⟩ = some (.int .i64 g.k.b) ∧ W.cell? ⟨b, o + m * 9 + 5, none⟩ = some (.int .i64 g.k.c) ∧ W.cell? ⟨b, o + m * 9 + 6, none⟩ = some (.int .i64 g.k.d) ∧ W.cell? ⟨b, o + m * 9 + 7, none⟩ = some (.int .i64 g.k.e) ∧ W.cell? ⟨b, o + m * 9 + 8, none⟩ = some (.int .i64 g.k.f) ∧ Grew w1 W) → Calls Tryz.prog 24 #[.agg #[.int .i64 f.x, .int .i64 f.y, .int .i64 f.s, .int .i64 f.k.a, .int .i64 f.k.b, .int .i64 f.k.c, .int .i64 f.k.d, .int .i64 f.k.e, .int .i64 f.k.f]] W fun e w' => e = .returned (.agg #[.int .i64 f.s, .int .i64 f.y, .int .i64 f.x]) ∧ (w'.cell? ⟨wr.heap.size, 0, none⟩ = some (.int .i64 f.x) ∧ w'.cell? ⟨wr.heap.size, 1, none⟩ = some (.int .i64 f.y) ∧ w'.cell? ⟨wr.heap.size, 2, none⟩ = some (.int .i64 f.s) ∧ w'.cell? ⟨wr.heap.size, 3, none⟩ = some (.int .i64 f.k.a) ∧ w'.cell? ⟨wr.heap.size, 4, none⟩ = some (.int .i64 f.k.b) ∧ w'.cell? ⟨wr.heap.size, 5, none⟩ = some (.int .i64 f.k.c) ∧ w'.cell? ⟨wr.heap.size, 6, none⟩ = some (.int .i64 f.k.d) ∧ w'.cell? ⟨wr.heap.size, 7, none⟩ = some (.int .i64 f.k.e) ∧ w'.cell? ⟨wr.heap.size, 8, none⟩ = some (.int .i64 f.k.f) ∧ w'.cell? ⟨b, o + m * 9, none⟩ = some (.int .i64 g.x) ∧ w'.cell? ⟨b, o + m * 9 + 1, none⟩ = some (.int .i64 g.y) ∧ w'.cell? ⟨b, o + m * 9 + 2, none⟩ = some (.int .i64 g.s) ∧ w'.cell? ⟨b, o + m * 9 + 3, none⟩ = some (.int .i64 g.k.a) ∧ w'.cell? ⟨b, o + m * 9 + 4, none⟩ = some (.int .i64 g.k.b) ∧ w'.cell? ⟨b, o + m * 9 + 5, none⟩ = some (.int .i64 g.k.c) ∧ w'.cell? ⟨b, o + m * 9 + 6, none⟩ = some (.int .i64 g.k.d) ∧ w'.cell? ⟨b, o + m * 9 + 7, none⟩ = some (.int .i64 g.k.e) ∧ w'.cell? ⟨b, o + m * 9 + 8, none⟩ = some (.int .i64 g.k.f) ∧ Grew w1 w')) := Lib.hid (fun W h => by
                  refine (spotOf_c f W).mono ?_
                  rintro e w' ⟨rfl, gg⟩
                  exact ⟨rfl, KS.out _ _ h gg⟩)
                have Q3 : Hid (∀ W, (W.cell? ⟨wr.heap.size, 0, none⟩ = some (.int .i64 f.x) ∧ W.cell? ⟨wr.heap.size, 1, none⟩ = some (.int .i64 f.y) ∧ W.cell? ⟨wr.heap.size, 2, none⟩ = some (.int .i64 f.s) ∧ W.cell? ⟨wr.heap.size, 3, none⟩ = some (.int .i64 f.k.a) ∧ W.cell? ⟨wr.heap.size, 4, none⟩ = some (.int .i64 f.k.b) ∧ W.cell? ⟨wr.heap.size, 5, none⟩ = some (.int .i64 f.k.c) ∧ W.cell? ⟨wr.heap.size, 6, none⟩ = some (.int .i64 f.k.d) ∧ W.cell? ⟨wr.heap.size, 7, none⟩ = some (.int .i64 f.k.e) ∧ W.cell? ⟨wr.heap.size, 8, none⟩ = some (.int .i64 f.k.f) ∧ W.cell? ⟨b, o + m * 9, none⟩ = some (.int .i64 g.x) ∧ W.cell? ⟨b, o + m * 9 + 1, none⟩ = some (.int .i64 g.y) ∧ W.cell? ⟨b, o + m * 9 + 2, none⟩ = some (.int .i64 g.s) ∧ W.cell? ⟨b, o + m * 9 + 3, none⟩ = some (.int .i64 g.k.a) ∧ W.cell? ⟨b, o + m * 9 + 4, none⟩ = some (.int .i64 g.k.b) ∧ W.cell? ⟨b, o + m * 9 + 5, none⟩ = some (.int .i64 g.k.c) ∧ W.cell? ⟨b, o + m * 9 + 6, none⟩ = some (.int .i64 g.k.d) ∧ W.cell? ⟨b, o + m * 9 + 7, none⟩ = some (.int .i64 g.k.e) ∧ W.cell? ⟨b, o + m * 9 + 8, none⟩ = some (.int .i64 g.k.f) ∧ Grew w1 W) → Calls Tryz.prog 45 #[.agg #[.int .i64 g.s, .int .i64 g.y, .int .i64 g.x], .agg #[.int .i64 f.s, .int .i64 f.y, .int .i64 f.x]] W fun e w' => e = .returned (.bool r5) ∧ (w'.cell? ⟨wr.heap.size, 0, none⟩ = some (.int .i64 f.x) ∧ w'.cell? ⟨wr.heap.size, 1, none⟩ = some (.int .i64 f.y) ∧ w'.cell? ⟨wr.heap.size, 2, none⟩ = some (.int .i64 f.s) ∧ w'.cell? ⟨wr.heap.size, 3, none⟩ = some (.int .i64 f.k.a) ∧ w'.cell? ⟨wr.heap.size, 4, none⟩ = some (.int .i64 f.k.b) ∧ w'.cell? ⟨wr.heap.size, 5, none⟩ = some (.int .i64 f.k.c) ∧ w'.cell? ⟨wr.heap.size, 6, none⟩ = some (.int .i64 f.k.d) ∧ w'.cell? ⟨wr.heap.size, 7, none⟩ = some (.int .i64 f.k.e) ∧ w'.cell? ⟨wr.heap.size, 8, none⟩ = some (.int .i64 f.k.f) ∧ w'.cell? ⟨b, o + m * 9, none⟩ = some (.int .i64 g.x) ∧ w'.cell? ⟨b, o + m * 9 + 1, none⟩ = some (.int .i64 g.y) ∧ w'.cell? ⟨b, o + m * 9 + 2, none⟩ = some (.int .i64 g.s) ∧ w'.cell? ⟨b, o + m * 9 + 3, none⟩ = some (.int .i64 g.k.a) ∧ w'.cell? ⟨b, o + m * 9 + 4, none⟩ = some (.int .i64 g.k.b) ∧ w'.cell? ⟨b, o + m * 9 + 5, none⟩ = some (.int .i64 g.k.c) ∧ w'.cell? ⟨b, o + m * 9 + 6, none⟩ = some (.int .i64 g.k.d) ∧ w'.cell? ⟨b, o + m * 9 + 7, none⟩ = some (.int .i64 g.k.e) ∧ w'.cell? ⟨b, o + m * 9 + 8, none⟩ = some (.int .i64 g.k.f) ∧ Grew w1 w')) := Lib.hid (fun W h => by
                  refine (isBefore_c g.s g.y g.x f.s f.y f.x W).mono ?_
                  rintro e w' ⟨rfl, gg⟩
                  exact ⟨by rw [← H5.out]; rfl, KS.out _ _ h gg⟩)
                have S0 : w1.cell? ⟨wr.heap.size, 0, none⟩ = some (.int .i64 f.x) ∧ w1.cell? ⟨wr.heap.size, 1, none⟩ = some (.int .i64 f.y) ∧ w1.cell? ⟨wr.heap.size, 2, none⟩ = some (.int .i64 f.s) ∧ w1.cell? ⟨wr.heap.size, 3, none⟩ = some (.int .i64 f.k.a) ∧ w1.cell? ⟨wr.heap.size, 4, none⟩ = some (.int .i64 f.k.b) ∧ w1.cell? ⟨wr.heap.size, 5, none⟩ = some (.int .i64 f.k.c) ∧ w1.cell? ⟨wr.heap.size, 6, none⟩ = some (.int .i64 f.k.d) ∧ w1.cell? ⟨wr.heap.size, 7, none⟩ = some (.int .i64 f.k.e) ∧ w1.cell? ⟨wr.heap.size, 8, none⟩ = some (.int .i64 f.k.f) ∧ w1.cell? ⟨b, o + m * 9, none⟩ = some (.int .i64 g.x) ∧ w1.cell? ⟨b, o + m * 9 + 1, none⟩ = some (.int .i64 g.y) ∧ w1.cell? ⟨b, o + m * 9 + 2, none⟩ = some (.int .i64 g.s) ∧ w1.cell? ⟨b, o + m * 9 + 3, none⟩ = some (.int .i64 g.k.a) ∧ w1.cell? ⟨b, o + m * 9 + 4, none⟩ = some (.int .i64 g.k.b) ∧ w1.cell? ⟨b, o + m * 9 + 5, none⟩ = some (.int .i64 g.k.c) ∧ w1.cell? ⟨b, o + m * 9 + 6, none⟩ = some (.int .i64 g.k.d) ∧ w1.cell? ⟨b, o + m * 9 + 7, none⟩ = some (.int .i64 g.k.e) ∧ w1.cell? ⟨b, o + m * 9 + 8, none⟩ = some (.int .i64 g.k.f) ∧ Grew w1 w1 := ⟨e0, e1, e2, e3, e4, e5, e6, e7, e8, p0, p1, p2, p3, p4, p5, p6, p7, p8, Grew.refl _⟩
                have KD : Hid (∀ W, (W.cell? ⟨wr.heap.size, 0, none⟩ = some (.int .i64 f.x) ∧ W.cell? ⟨wr.heap.size, 1, none⟩ = some (.int .i64 f.y) ∧ W.cell? ⟨wr.heap.size, 2, none⟩ = some (.int .i64 f.s) ∧ W.cell? ⟨wr.heap.size, 3, none⟩ = some (.int .i64 f.k.a) ∧ W.cell? ⟨wr.heap.size, 4, none⟩ = some (.int .i64 f.k.b) ∧ W.cell? ⟨wr.heap.size, 5, none⟩ = some (.int .i64 f.k.c) ∧ W.cell? ⟨wr.heap.size, 6, none⟩ = some (.int .i64 f.k.d) ∧ W.cell? ⟨wr.heap.size, 7, none⟩ = some (.int .i64 f.k.e) ∧ W.cell? ⟨wr.heap.size, 8, none⟩ = some (.int .i64 f.k.f) ∧ W.cell? ⟨b, o + m * 9, none⟩ = some (.int .i64 g.x) ∧ W.cell? ⟨b, o + m * 9 + 1, none⟩ = some (.int .i64 g.y) ∧ W.cell? ⟨b, o + m * 9 + 2, none⟩ = some (.int .i64 g.s) ∧ W.cell? ⟨b, o + m * 9 + 3, none⟩ = some (.int .i64 g.k.a) ∧ W.cell? ⟨b, o + m * 9 + 4, none⟩ = some (.int .i64 g.k.b) ∧ W.cell? ⟨b, o + m * 9 + 5, none⟩ = some (.int .i64 g.k.c) ∧ W.cell? ⟨b, o + m * 9 + 6, none⟩ = some (.int .i64 g.k.d) ∧ W.cell? ⟨b, o + m * 9 + 7, none⟩ = some (.int .i64 g.k.e) ∧ W.cell? ⟨b, o + m * 9 + 8, none⟩ = some (.int .i64 g.k.f) ∧ Grew w1 W) → (W.drew.cell? ⟨wr.heap.size, 0, none⟩ = some (.int .i64 f.x) ∧ W.drew.cell? ⟨wr.heap.size, 1, none⟩ = some (.int .i64 f.y) ∧ W.drew.cell? ⟨wr.heap.size, 2, none⟩ = some (.int .i64 f.s) ∧ W.drew.cell? ⟨wr.heap.size, 3, none⟩ = some (.int .i64 f.k.a) ∧ W.drew.cell? ⟨wr.heap.size, 4, none⟩ = some (.int .i64 f.k.b) ∧ W.drew.cell? ⟨wr.heap.size, 5, none⟩ = some (.int .i64 f.k.c) ∧ W.drew.cell? ⟨wr.heap.size, 6, none⟩ = some (.int .i64 f.k.d) ∧ W.drew.cell? ⟨wr.heap.size, 7, none⟩ = some (.int .i64 f.k.e) ∧ W.drew.cell? ⟨wr.heap.size, 8, none⟩ = some (.int .i64 f.k.f) ∧ W.drew.cell? ⟨b, o + m * 9, none⟩ = some (.int .i64 g.x) ∧ W.drew.cell? ⟨b, o + m * 9 + 1, none⟩ = some (.int .i64 g.y) ∧ W.drew.cell? ⟨b, o + m * 9 + 2, none⟩ = some (.int .i64 g.s) ∧ W.drew.cell? ⟨b, o + m * 9 + 3, none⟩ = some (.int .i64 g.k.a) ∧ W.drew.cell? ⟨b, o + m * 9 + 4, none⟩ = some (.int .i64 g.k.b) ∧ W.drew.cell? ⟨b, o + m * 9 + 5, none⟩ = some (.int .i64 g.k.c) ∧ W.drew.cell? ⟨b, o + m * 9 + 6, none⟩ = some (.int .i64 g.k.d) ∧ W.drew.cell? ⟨b, o + m * 9 + 7, none⟩ = some (.int .i64 g.k.e) ∧ W.drew.cell? ⟨b, o + m * 9 + 8, none⟩ = some (.int .i64 g.k.f) ∧ Grew w1 W.drew)) := Lib.hid (fun W h => KS.out W _ h (Grew.refl W).drew)
                clear q0 q1 q2 q3 q4 q5 q6 q7 q8 c1 f1 z1 KS h5 e0 p0 e1 p1 e2 p2 e3 p3 e4 p4 e5 p5 e6 p6 e7 p7 e8 p8
                have j0 : (0 : Int) < ((m + 1 : Nat) : Int) := by omega
                have j1 : ((m + 1 : Nat) : Int) - 1 = (m : Int) := by omega
                have j2 : IntKind.i64.wrap (m : Int) = (m : Int) := by rw [IntKind.wrap_i64]; omega
                have j3 : IntKind.i64.wrap ((m : Int) + 1 - 1) = (m : Int) := by rw [IntKind.wrap_i64]; omega
                have j4 : IntKind.i64.wrap (((m + 1 : Nat) : Int) - 1) = (m : Int) := by rw [IntKind.wrap_i64]; omega
                have j5 : (0 : Int) ≤ (m : Int) := by omega
                have j6 : (m : Int) < (l.length : Int) := by omega
                go_wp2_with fail
                go_region_held3 (fun W => W.cell? ⟨wr.heap.size, 0, none⟩ = some (.int .i64 f.x) ∧ W.cell? ⟨wr.heap.size, 1, none⟩ = some (.int .i64 f.y) ∧ W.cell? ⟨wr.heap.size, 2, none⟩ = some (.int .i64 f.s) ∧ W.cell? ⟨wr.heap.size, 3, none⟩ = some (.int .i64 f.k.a) ∧ W.cell? ⟨wr.heap.size, 4, none⟩ = some (.int .i64 f.k.b) ∧ W.cell? ⟨wr.heap.size, 5, none⟩ = some (.int .i64 f.k.c) ∧ W.cell? ⟨wr.heap.size, 6, none⟩ = some (.int .i64 f.k.d) ∧ W.cell? ⟨wr.heap.size, 7, none⟩ = some (.int .i64 f.k.e) ∧ W.cell? ⟨wr.heap.size, 8, none⟩ = some (.int .i64 f.k.f) ∧ W.cell? ⟨b, o + m * 9, none⟩ = some (.int .i64 g.x) ∧ W.cell? ⟨b, o + m * 9 + 1, none⟩ = some (.int .i64 g.y) ∧ W.cell? ⟨b, o + m * 9 + 2, none⟩ = some (.int .i64 g.s) ∧ W.cell? ⟨b, o + m * 9 + 3, none⟩ = some (.int .i64 g.k.a) ∧ W.cell? ⟨b, o + m * 9 + 4, none⟩ = some (.int .i64 g.k.b) ∧ W.cell? ⟨b, o + m * 9 + 5, none⟩ = some (.int .i64 g.k.c) ∧ W.cell? ⟨b, o + m * 9 + 6, none⟩ = some (.int .i64 g.k.d) ∧ W.cell? ⟨b, o + m * 9 + 7, none⟩ = some (.int .i64 g.k.e) ∧ W.cell? ⟨b, o + m * 9 + 8, none⟩ = some (.int .i64 g.k.f) ∧ Grew w1 W) (first | assumption | exact KD.out _ (by assumption)) (first
                  | (go_at_call 24; refine (Q1.out _ (by assumption)).mono ?_; rintro e w3 ⟨rfl, S3⟩)
                  | (go_at_call 24; refine (Q2.out _ (by assumption)).mono ?_; rintro e w4 ⟨rfl, S4⟩)
                  | (go_at_call 45; refine (Q3.out _ (by assumption)).mono ?_; rintro e w5 ⟨rfl, S5⟩))
                have V5 : Grew w1 w5 := by obtain ⟨_, _, _, _, _, _, _, _, _, _, _, _, _, _, _, _, _, _, g0⟩ := S5; exact g0
                have G5 := Grew.trans G1 V5
                clear S5 V5
                cases r5
                · go_wp2_with fail
                  go_ret
                  refine ⟨?_, (by (repeat' (first | (with_reducible exact Grew.refl _) | (with_reducible assumption) | (with_reducible refine Grew.alloc ?_ _ _) | (with_reducible refine Grew.drew ?_) | (with_reducible refine Grew.drewN ?_ _) | (with_reducible refine Grew.setCell ?_ ?_ _) | go_size)))⟩
                  have : r = false := by
                    rw [Bool.eq_false_iff]
                    intro e
                    have h := (HT.out.1 e (m + 1) hlt).2 (by omega)
                    rw [HE.out, show m + 1 - 1 = m by omega, HG.out] at h
                    exact of_decide_eq_false H5.out h
                  rw [this]
                  rfl
                · go_wp2_with fail
                  go_roundw
                  case rel => exact ⟨m + 1 + 1, by omega, by go_num, (by (repeat' (first | (with_reducible exact Grew.refl _) | (with_reducible assumption) | (with_reducible refine Grew.alloc ?_ _ _) | (with_reducible refine Grew.drew ?_) | (with_reducible refine Grew.drewN ?_ _) | (with_reducible refine Grew.setCell ?_ ?_ _) | go_size))), Lib.hid (fun j hj => by
                    by_cases e : j = m + 1
                    · subst e
                      refine ⟨by rw [HE.out]; exact HFT.out, fun _ => ?_⟩
                      rw [HE.out, show m + 1 - 1 = m by omega, HG.out]
                      exact of_decide_eq_true H5.out
                    · exact D.out j (by omega))⟩
                  case measure => simp [intOf]; omega
    · have : r = true := HT.out.2 fun j hj => D.out j (by omega)
      subst this
      go_wp2_with fail
      go_ret
      exact ⟨rfl, G⟩
end Td
end Go.Proofs.YtpiajdahmcelnaaGreat
