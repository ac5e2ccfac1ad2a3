/-
  The reference functions of layer 11: Verify.
-/
import Derived.Test.YtfnnmkadmpflhaaDoorSgRefB
namespace Go.Proofs.YtfnnmkadmpflhaaDoor
open Go.RowKit Wd
namespace Sg
namespace R
set_option maxRecDepth 100000

set_option maxHeartbeats 4000000 in
theorem verify_ok (a E S : Nat) (l : List Int) (v : Value) (w : World) (hs : Is w v l) (hl : l.length ≤ 100000) (ha : isM a = true) (hE : isE E = true) (hS : isE S = true) :
    Calls Tryd.prog 20 #[.int .i64 a, .agg #[.int .i64 E, .int .i64 S], v] w fun e w' => e = .returned (.tuple #[.bool (vr a E S l), .int .i64 0]) ∧ Grew w w' := by
  obtain ⟨sa, sc, rfl, _⟩ := hs.shape
  have ka := isM_iff.1 ha
  have kE := isE_iff.1 hE
  have kS := isE_iff.1 hS
  have MC : Hid (∀ W, Calls Tryd.prog 12 #[.int .i64 a] W fun e w' => e = .returned (.bool true) ∧ Grew W w') := Lib.hid (fun W => by have := member_c a W; rwa [ha] at this)
  have EC : Hid (∀ W, Calls Tryd.prog 28 #[.int .i64 E] W fun e w' => e = .returned (.bool true) ∧ W = w') := Lib.hid (fun W => by have := exponent_c E W; rwa [hE] at this)
  have SC : Hid (∀ W, Calls Tryd.prog 28 #[.int .i64 S] W fun e w' => e = .returned (.bool true) ∧ W = w') := Lib.hid (fun W => by have := exponent_c S W; rwa [hS] at this)
  have BL := bk_lt a E S
  have BC := fun W => back_c a E S W (by omega) (by omega) (by omega)
  have AC := fun W (g : Grew w W) => after_c (bk a E S : Nat) a l _ W (by unfold I64; omega) (by unfold I64; omega) (hs.grew g) hl
  have HC := fun W u (h : Is W u (((bk a E S : Nat) : Int) :: (a : Int) :: l)) => challenge_c _ u W h (by simp; omega)
  have VR : Hid (vr a E S l = decide ((hc ((bk a E S : Int) :: (a : Int) :: l) : Int) = E)) := Lib.hid rfl
  generalize hc ((bk a E S : Int) :: (a : Int) :: l) = h at *
  generalize bk a E S = r at *
  generalize vr a E S l = vb at *
  have T0 := Two.new w E S 23
  have A0 : Grew w (w.alloc (.cells #[.int .i64 E, .int .i64 S] 23)) := (Grew.refl w).alloc _ _
  clear ha hE hS hs
  go_enter Tryd.func20, Tryd.ntmps20
  go_wp2_with fail
  refine (MC.out _).mono ?_
  rintro e w1 ⟨rfl, g1⟩
  have T1 := T0.grew T0.lt g1
  obtain ⟨⟨x0, x1⟩, _⟩ := T1
  go_wp2_with fail
  refine (EC.out _).mono ?_
  rintro e w2 ⟨rfl, rfl⟩
  go_wp2_with fail
  refine (SC.out _).mono ?_
  rintro e w2 ⟨rfl, rfl⟩
  go_wp2_with fail
  have V1 : Two w1 w.heap.size E S w1 := ⟨⟨x0, x1⟩, Grew.refl _⟩
  have G1 : Hid (∀ W, Grew w1 W → Grew w W) := Lib.hid (fun W g => Grew.trans (Grew.trans A0 g1) g)
  have Q1 : Hid (∀ W, ((W.cell? ⟨w.heap.size, 0, none⟩ = some (.int .i64 E) ∧ W.cell? ⟨w.heap.size, 1, none⟩ = some (.int .i64 S)) ∧ Grew w1 W) → Calls Tryd.prog 23 #[.int .i64 a, .agg #[.int .i64 E, .int .i64 S]] W fun e w' => e = .returned (.int .i64 r) ∧ ((w'.cell? ⟨w.heap.size, 0, none⟩ = some (.int .i64 E) ∧ w'.cell? ⟨w.heap.size, 1, none⟩ = some (.int .i64 S)) ∧ Grew w1 w')) :=
    Lib.hid (fun W h => (BC W).mono (by rintro e w' ⟨rfl, g⟩; exact ⟨rfl, Two.grew h (Two.lt h) g⟩))
  have Q2 : Hid (∀ W, ((W.cell? ⟨w.heap.size, 0, none⟩ = some (.int .i64 E) ∧ W.cell? ⟨w.heap.size, 1, none⟩ = some (.int .i64 S)) ∧ Grew w1 W) → Calls Tryd.prog 32 #[.int .i64 r, .int .i64 a, .slice sa l.length sc] W fun e w' => ∃ u, e = .returned u ∧ Is w' u ((r : Int) :: (a : Int) :: l) ∧ ((w'.cell? ⟨w.heap.size, 0, none⟩ = some (.int .i64 E) ∧ w'.cell? ⟨w.heap.size, 1, none⟩ = some (.int .i64 S)) ∧ Grew w1 w')) :=
    Lib.hid (fun W h => (AC W (G1.out W h.2)).mono (by rintro e w' ⟨u, rfl, hu, g⟩; exact ⟨u, rfl, hu, Two.grew h (Two.lt h) g⟩))
  have Q3 : Hid (∀ W u, Is W u ((r : Int) :: (a : Int) :: l) → ((W.cell? ⟨w.heap.size, 0, none⟩ = some (.int .i64 E) ∧ W.cell? ⟨w.heap.size, 1, none⟩ = some (.int .i64 S)) ∧ Grew w1 W) → Calls Tryd.prog 22 #[u] W fun e w' => e = .returned (.int .i64 h) ∧ ((w'.cell? ⟨w.heap.size, 0, none⟩ = some (.int .i64 E) ∧ w'.cell? ⟨w.heap.size, 1, none⟩ = some (.int .i64 S)) ∧ Grew w1 w')) :=
    Lib.hid (fun W u hu h => (HC W u hu).mono (by rintro e w' ⟨rfl, g⟩; exact ⟨rfl, Two.grew h (Two.lt h) g⟩))
  have S0 : (w1.cell? ⟨w.heap.size, 0, none⟩ = some (.int .i64 E) ∧ w1.cell? ⟨w.heap.size, 1, none⟩ = some (.int .i64 S)) ∧ Grew w1 w1 := V1
  clear BC AC HC V1 T0 A0 g1
  obtain ⟨b, hb⟩ : ∃ b : Bool, b = ((h : Int) == (E : Int)) := ⟨_, rfl⟩
  have hb2 : ((h : Int) == (E : Int)) = b := hb.symm
  have HB := Lib.hid hb
  clear hb
  go_region_held3 (fun W => (W.cell? ⟨w.heap.size, 0, none⟩ = some (.int .i64 E) ∧ W.cell? ⟨w.heap.size, 1, none⟩ = some (.int .i64 S)) ∧ Grew w1 W) (first | assumption | exact Two.drew (by assumption) | exact Two.drew (Two.drew (by assumption))) (first
    | (go_at_call 23; refine (Q1.out _ (by assumption)).mono ?_; rintro e w3 ⟨rfl, S3⟩)
    | (go_at_call 32; refine (Q2.out _ (by assumption)).mono ?_; rintro e w4 ⟨u, rfl, hu, S4⟩)
    | (go_at_call 22; refine (Q3.out _ _ (by assumption) (by assumption)).mono ?_; rintro e w5 ⟨rfl, S5⟩))
  go_wp2_with fail
  go_ret2
  exact ⟨by rw [VR.out, HB.out]; rfl, G1.out _ S5.2⟩
set_option maxHeartbeats 1000000 in
theorem verify_bad (a E S : Int) (v : Value) (w : World) (hs : ∃ x n c, v = .slice x n c) (hb : ok3 a E S = false) :
    Calls Tryd.prog 20 #[.int .i64 a, .agg #[.int .i64 E, .int .i64 S], v] w fun e w' => e = .returned (.tuple #[.bool false, .int .i64 1]) ∧ Grew w w' := by
  obtain ⟨sa, sn, sc, rfl⟩ := hs
  have MC := Lib.hid (fun W => member_c a W)
  have EC := Lib.hid (fun W => exponent_c E W)
  have SC := Lib.hid (fun W => exponent_c S W)
  unfold ok3 at hb
  have HB := Lib.hid hb
  have T0 := Two.new w E S 23
  have A0 : Grew w (w.alloc (.cells #[.int .i64 E, .int .i64 S] 23)) := (Grew.refl w).alloc _ _
  clear hb
  generalize isM a = p at *
  generalize isE E = q at *
  generalize isE S = r at *
  have walk : ∀ p q r : Bool, (p && q && r) = false → (∀ W, Calls Tryd.prog 12 #[.int .i64 a] W fun e w' => e = .returned (.bool p) ∧ Grew W w') → (∀ W, Calls Tryd.prog 28 #[.int .i64 E] W fun e w' => e = .returned (.bool q) ∧ W = w') → (∀ W, Calls Tryd.prog 28 #[.int .i64 S] W fun e w' => e = .returned (.bool r) ∧ W = w') → Calls Tryd.prog 20 #[.int .i64 a, .agg #[.int .i64 E, .int .i64 S], .slice sa sn sc] w fun e w' => e = .returned (.tuple #[.bool false, .int .i64 1]) ∧ Grew w w' := by
    clear MC EC SC HB p q r
    intro p q r hb mc ec sc
    have MC := Lib.hid mc
    have EC := Lib.hid ec
    have SC := Lib.hid sc
    clear mc ec sc
    cases p <;> cases q <;> cases r <;> first | (exfalso; revert hb; decide) | skip
    all_goals clear hb
    all_goals go_enter Tryd.func20, Tryd.ntmps20
    all_goals go_wp2_with fail
    all_goals refine (MC.out _).mono ?_
    all_goals rintro e w1 ⟨rfl, g1⟩
    all_goals obtain ⟨⟨x0, x1⟩, _⟩ := T0.grew T0.lt g1
    all_goals go_wp2_with fail
    all_goals refine (EC.out _).mono ?_
    all_goals rintro e w2 ⟨rfl, rfl⟩
    all_goals go_wp2_with fail
    all_goals refine (SC.out _).mono ?_
    all_goals rintro e w2 ⟨rfl, rfl⟩
    all_goals go_wp2_with fail
    all_goals go_ret2
    all_goals exact ⟨rfl, A0.trans g1⟩
  exact walk p q r HB.out MC.out EC.out SC.out
theorem verify_c (a E S : Int) (l : List Int) (v : Value) (w : World) (hs : Is w v l) (hl : l.length ≤ 100000) :
    Calls Tryd.prog 20 #[.int .i64 a, .agg #[.int .i64 E, .int .i64 S], v] w fun e w' => e = .returned (.tuple #[.bool (FV a E S l), .int .i64 (GV a E S)]) ∧ Grew w w' := by
  unfold FV GV
  rcases hb : ok3 a E S with _ | _
  · obtain ⟨x, c, e, _⟩ := hs.shape
    exact verify_bad a E S v w ⟨x, _, c, e⟩ hb
  · have h := hb
    unfold ok3 at h
    rw [Bool.and_eq_true, Bool.and_eq_true] at h
    obtain ⟨⟨h1, h2⟩, h3⟩ := h
    have k1 := isM_iff.1 h1
    have k2 := isE_iff.1 h2
    have k3 := isE_iff.1 h3
    obtain ⟨a', rfl⟩ := Int.eq_ofNat_of_zero_le (show 0 ≤ a by omega)
    obtain ⟨E', rfl⟩ := Int.eq_ofNat_of_zero_le k2.1
    obtain ⟨S', rfl⟩ := Int.eq_ofNat_of_zero_le k3.1
    exact verify_ok a' E' S' l v w hs hl h1 h2 h3
end R
end Sg
end Go.Proofs.YtfnnmkadmpflhaaDoor
