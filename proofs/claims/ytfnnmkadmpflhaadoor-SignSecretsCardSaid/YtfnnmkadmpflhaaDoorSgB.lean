/-
  The landed package sign: signatures are verified.
-/
import Derived.Test.YtfnnmkadmpflhaaDoorSgA
namespace Go.Proofs.YtfnnmkadmpflhaaDoor
open Go.RowKit Wd
namespace Sg
set_option maxRecDepth 100000

/-- What the walk keeps of a signature in a block of its own. -/
def Two (V : World) (B : Nat) (x y : Int) (W : World) : Prop := (W.cell? ⟨B, 0, none⟩ = some (.int .i64 x) ∧ W.cell? ⟨B, 1, none⟩ = some (.int .i64 y)) ∧ Grew V W
theorem Two.drew {V W : World} {B : Nat} {x y : Int} (h : Two V B x y W) : Two V B x y W.drew := ⟨h.1, h.2.drew⟩
theorem Two.grew {V W w : World} {B : Nat} {x y : Int} (h : Two V B x y W) (hB : B < W.heap.size) (g : Grew W w) : Two V B x y w := ⟨⟨(g.cell hB).trans h.1.1, (g.cell hB).trans h.1.2⟩, h.2.trans g⟩
theorem Two.new (w : World) (x y : Int) (t : TypeId) : Two (w.alloc (.cells #[.int .i64 x, .int .i64 y] t)) w.heap.size x y (w.alloc (.cells #[.int .i64 x, .int .i64 y] t)) := ⟨⟨by simp [go_sem], by simp [go_sem]⟩, Grew.refl _⟩
theorem Two.alloc {V W : World} {B : Nat} {x y : Int} (h : Two V B x y W) (c : Array Value) (t : TypeId) : Two V B x y (W.alloc (.cells c t)) := h.grew (World.block_lt_of_cell? W _ h.1.1) ((Grew.refl W).alloc c t)
theorem Two.setCell {V W : World} {B : Nat} {x y : Int} (h : Two V B x y W) {g o : Nat} (hg : V.heap.size ≤ g) (hB : B < V.heap.size) (v : Value) : Two V B x y (W.setCell ⟨g, o, none⟩ v) :=
  ⟨⟨by rw [World.cell?_setCell_other _ _ _ _ (by rintro e; cases e; omega)]; exact h.1.1, by rw [World.cell?_setCell_other _ _ _ _ (by rintro e; cases e; omega)]; exact h.1.2⟩, h.2.setCell hg v⟩
theorem Two.lt {V W : World} {B : Nat} {x y : Int} (h : Two V B x y W) : B < W.heap.size := World.block_lt_of_cell? W _ h.1.1
/-- A block that was made ahead of a call, behind it. -/
theorem newS {X W : World} {t : TypeId} {n : Nat} (g : Grew (X.alloc (.cells #[.int .i64 0, .int .i64 0] t)).drew W) (e : X.heap.size = n) : (W.cell? ⟨n, 0, none⟩ = some (.int .i64 0) ∧ W.cell? ⟨n, 1, none⟩ = some (.int .i64 0)) ∧ (W.frozen? ⟨n, 0, none⟩ = false ∧ W.frozen? ⟨n, 1, none⟩ = false) ∧ n < W.heap.size := by
  subst e
  refine ⟨⟨?_, ?_⟩, ⟨?_, ?_⟩, Nat.lt_of_lt_of_le (by simp) g.size⟩
  · rw [g.cell (by simp)]; simp [go_sem]
  · rw [g.cell (by simp)]; simp [go_sem]
  · rw [Below.frozen (p := ⟨X.heap.size, 0, none⟩) g (by simp)]; simp [go_sem]
  · rw [Below.frozen (p := ⟨X.heap.size, 1, none⟩) g (by simp)]; simp [go_sem]
theorem wrap_in {z : Int} (h0 : -9223372036854775808 ≤ z) (h1 : z ≤ 9223372036854775807) : IntKind.i64.wrap z = z := by rw [IntKind.wrap_i64]; omega

set_option maxHeartbeats 4000000 in
theorem verify_ok (a E S : Nat) (l : List Int) (v : Value) (w : World) (hT : Dg.T w) (hs : Is w v l) (hl : l.length ≤ 100000) (ha : isM a = true) (hE : isE E = true) (hS : isE S = true) :
    Calls Tryd.prog 19 #[.int .i64 a, .agg #[.int .i64 E, .int .i64 S], v] w fun e w' => e = .returned (.tuple #[.bool (vr a E S l), .int .i64 0]) ∧ Grew w w' := by
  obtain ⟨sa, sc, rfl, _⟩ := hs.shape
  have ka := isM_iff.1 ha
  have kE := isE_iff.1 hE
  have kS := isE_iff.1 hS
  have MC : Hid (∀ W, Calls Tryd.prog 11 #[.int .i64 a] W fun e w' => e = .returned (.bool true) ∧ Grew W w') := Lib.hid (fun W => by have := member_c a W; rwa [ha] at this)
  have EC : Hid (∀ W, Calls Tryd.prog 27 #[.int .i64 E] W fun e w' => e = .returned (.bool true) ∧ W = w') := Lib.hid (fun W => by have := isExponent_c E W; rwa [hE] at this)
  have SC : Hid (∀ W, Calls Tryd.prog 27 #[.int .i64 S] W fun e w' => e = .returned (.bool true) ∧ W = w') := Lib.hid (fun W => by have := isExponent_c S W; rwa [hS] at this)
  have B1 : pw 4 S 2147483579 < 2147483579 := pw_lt _ _ (by omega)
  have B2 : pw a ((1073741789 - E) % 1073741789) 2147483579 < 2147483579 := pw_lt _ _ (by omega)
  have BK : bk a E S = pw 4 S 2147483579 * pw a ((1073741789 - E) % 1073741789) 2147483579 % 2147483579 := rfl
  have P1 := fun W => power_c 4 S W (by omega) (by omega)
  have P2 := fun W => power_c a ((1073741789 - E) % 1073741789) W (by omega) (by have := Nat.mod_lt (1073741789 - E) (show 1073741789 > 0 by omega); omega)
  have HC : Hid (∀ W, Grew w W → Calls Tryd.prog 31 #[.int .i64 (bk a E S : Nat), .int .i64 a, .slice sa l.length sc] W fun e w' => e = .returned (.int .i64 (hc ((bk a E S : Int) :: (a : Int) :: l) : Int)) ∧ Grew W w') := Lib.hid (fun W g => challenge_c _ _ l _ W (hT.grew g) (by have := bk_lt a E S; unfold I64; omega) (by unfold I64; omega) (hs.grew g) hl)
  have VR : Hid (vr a E S l = decide ((hc ((bk a E S : Int) :: (a : Int) :: l) : Int) = E)) := Lib.hid rfl
  generalize hc ((bk a E S : Int) :: (a : Int) :: l) = h at *
  generalize bk a E S = r at *
  generalize vr a E S l = vb at *
  generalize pw 4 S 2147483579 = p at *
  generalize hd : (1073741789 - E) % 1073741789 = d at *
  generalize pw a d 2147483579 = q at *
  have W1 : IntKind.i64.wrap (1073741789 - (E : Int)) = 1073741789 - (E : Int) := wrap_in (by omega) (by omega)
  have W2 : (1073741789 - (E : Int)).tmod 1073741789 = (d : Int) := by rw [Int.tmod_eq_emod_of_nonneg (by omega), ← hd]; omega
  have k0 : p * q ≤ 2147483579 * 2147483579 := Nat.mul_le_mul (by omega) (by omega)
  have W3 : IntKind.i64.wrap ((p : Int) * q) = (p : Int) * q := by rw [← Int.natCast_mul]; exact wrap_in (by omega) (by omega)
  have W4 : ((p : Int) * q).tmod 2147483579 = (r : Int) := by rw [← Int.natCast_mul, BK, Int.tmod_eq_emod_of_nonneg (by omega), Int.natCast_emod]; rfl
  have T0 := Two.new w E S 23
  have A0 : Grew w (w.alloc (.cells #[.int .i64 E, .int .i64 S] 23)) := (Grew.refl w).alloc _ _
  clear ha hE hS hs hT k0 hd BK B1 B2
  go_enter Tryd.func19, Tryd.ntmps19
  go_wp2_with fail
  refine (MC.out _).mono ?_
  rintro e w1 ⟨rfl, g1⟩
  have T1 := T0.grew T0.lt g1
  obtain ⟨⟨x0, x1⟩, _⟩ := T1
  go_wp2_with fail
  refine (EC.out _).mono ?_
  rintro e w2 ⟨rfl, rfl⟩
  go_wp2_with fail
  refine (SC.out _).mono ?_
  rintro e w2 ⟨rfl, rfl⟩
  go_wp2_with fail
  have V1 : Two w1 w.heap.size E S w1 := ⟨⟨x0, x1⟩, Grew.refl _⟩
  have lt1 : w.heap.size < w1.heap.size := V1.lt
  have Q1 : Hid (∀ W, ((W.cell? ⟨w.heap.size, 0, none⟩ = some (.int .i64 E) ∧ W.cell? ⟨w.heap.size, 1, none⟩ = some (.int .i64 S)) ∧ Grew w1 W) → Calls Tryd.prog 26 #[.int .i64 4, .int .i64 S] W fun e w' => e = .returned (.int .i64 p) ∧ ((w'.cell? ⟨w.heap.size, 0, none⟩ = some (.int .i64 E) ∧ w'.cell? ⟨w.heap.size, 1, none⟩ = some (.int .i64 S)) ∧ Grew w1 w')) :=
    Lib.hid (fun W h => (P1 W).mono (by rintro e w' ⟨rfl, g⟩; exact ⟨rfl, Two.grew h (Two.lt h) g⟩))
  have Q2 : Hid (∀ W, ((W.cell? ⟨w.heap.size, 0, none⟩ = some (.int .i64 E) ∧ W.cell? ⟨w.heap.size, 1, none⟩ = some (.int .i64 S)) ∧ Grew w1 W) → Calls Tryd.prog 26 #[.int .i64 a, .int .i64 d] W fun e w' => e = .returned (.int .i64 q) ∧ ((w'.cell? ⟨w.heap.size, 0, none⟩ = some (.int .i64 E) ∧ w'.cell? ⟨w.heap.size, 1, none⟩ = some (.int .i64 S)) ∧ Grew w1 w')) :=
    Lib.hid (fun W h => (P2 W).mono (by rintro e w' ⟨rfl, g⟩; exact ⟨rfl, Two.grew h (Two.lt h) g⟩))
  have S0 : (w1.cell? ⟨w.heap.size, 0, none⟩ = some (.int .i64 E) ∧ w1.cell? ⟨w.heap.size, 1, none⟩ = some (.int .i64 S)) ∧ Grew w1 w1 := V1
  clear P1 P2
  go_region_held3 (fun W => (W.cell? ⟨w.heap.size, 0, none⟩ = some (.int .i64 E) ∧ W.cell? ⟨w.heap.size, 1, none⟩ = some (.int .i64 S)) ∧ Grew w1 W) (first | assumption | exact Two.drew (by assumption) | exact Two.drew (Two.drew (by assumption))) (first
    | (go_at_call_of 26 (Value.int .i64 4); refine (Q1.out _ (by assumption)).mono ?_; rintro e w3 ⟨rfl, S3⟩)
    | (go_at_call_of 26 (Value.int .i64 a); refine (Q2.out _ (by assumption)).mono ?_; rintro e w4 ⟨rfl, S4⟩))
  have G1 : Hid (∀ W, Grew w1 W → Grew w W) := Lib.hid (fun W g => Grew.trans (Grew.trans A0 g1) g)
  have HD : Hid (∀ W, ((W.cell? ⟨w.heap.size, 0, none⟩ = some (.int .i64 E) ∧ W.cell? ⟨w.heap.size, 1, none⟩ = some (.int .i64 S)) ∧ Grew w1 W) → Calls Tryd.prog 31 #[.int .i64 r, .int .i64 a, .slice sa l.length sc] W fun e w' => e = .returned (.int .i64 h) ∧ (((w'.cell? ⟨w.heap.size, 0, none⟩ = some (.int .i64 E) ∧ w'.cell? ⟨w.heap.size, 1, none⟩ = some (.int .i64 S)) ∧ Grew w1 w') ∧ Grew W w')) :=
    Lib.hid (fun W k => (HC.out W (G1.out W k.2)).mono (by rintro e w' ⟨rfl, g⟩; exact ⟨rfl, Two.grew k (Two.lt k) g, g⟩))
  have sz4 := Grew.size S4.2
  clear S0 S3 V1 T0 A0 Q1 Q2 W1 W2 W3 W4 HC g1
  go_wp2_with fail
  go_region_held3 (fun W => (W.cell? ⟨w.heap.size, 0, none⟩ = some (.int .i64 E) ∧ W.cell? ⟨w.heap.size, 1, none⟩ = some (.int .i64 S)) ∧ Grew w1 W) (repeat' (first | assumption | refine Two.drew ?_ | refine Two.alloc ?_ _ _ | (refine Two.setCell ?_ ?_ lt1 _) | (simp; omega))) (first
    | (go_at_call 31; refine (HD.out _ (by repeat' (first | assumption | refine Two.drew ?_ | refine Two.alloc ?_ _ _))).mono ?_; rintro e w5 ⟨rfl, S5, g5⟩; have sz5 := Grew.size S5.2; (try (have nb := newS g5 (n := w4.heap.size) rfl; obtain ⟨⟨n0, n1⟩, ⟨n2, n3⟩, n4⟩ := nb))))
  all_goals by_cases hh : (E : Int) = (h : Int)
  all_goals (try (have hb : ((E : Int) == (h : Int)) = false := (by simpa using hh)))
  all_goals go_wp2_with fail
  all_goals go_ret2
  all_goals exact ⟨by rw [VR.out]; simp [hh, eq_comm], G1.out _ (by repeat' (first | exact S5.2 | refine Grew.alloc ?_ _ _ | (refine Grew.setCell ?_ ?_ _) | (show w1.heap.size ≤ _; omega)))⟩
set_option maxHeartbeats 1000000 in
theorem verify_bad (a E S : Int) (v : Value) (w : World) (hs : ∃ x n c, v = .slice x n c) (hb : ok3 a E S = false) :
    Calls Tryd.prog 19 #[.int .i64 a, .agg #[.int .i64 E, .int .i64 S], v] w fun e w' => e = .returned (.tuple #[.bool false, .int .i64 1]) ∧ Grew w w' := by
  obtain ⟨sa, sn, sc, rfl⟩ := hs
  have MC := Lib.hid (fun W => member_c a W)
  have EC := Lib.hid (fun W => isExponent_c E W)
  have SC := Lib.hid (fun W => isExponent_c S W)
  unfold ok3 at hb
  have HB := Lib.hid hb
  have T0 := Two.new w E S 23
  have A0 : Grew w (w.alloc (.cells #[.int .i64 E, .int .i64 S] 23)) := (Grew.refl w).alloc _ _
  clear hb
  generalize isM a = p at *
  generalize isE E = q at *
  generalize isE S = r at *
  cases p with
  | false =>
    go_enter Tryd.func19, Tryd.ntmps19
    go_wp2_with fail
    refine (MC.out _).mono ?_
    rintro e w1 ⟨rfl, g1⟩
    go_wp2_with fail
    go_ret2
    exact ⟨rfl, A0.trans g1⟩
  | true =>
    cases q with
    | false =>
      go_enter Tryd.func19, Tryd.ntmps19
      go_wp2_with fail
      refine (MC.out _).mono ?_
      rintro e w1 ⟨rfl, g1⟩
      obtain ⟨⟨x0, x1⟩, _⟩ := T0.grew T0.lt g1
      go_wp2_with fail
      refine (EC.out _).mono ?_
      rintro e w2 ⟨rfl, rfl⟩
      go_wp2_with fail
      go_ret2
      exact ⟨rfl, A0.trans g1⟩
    | true =>
      obtain rfl : r = false := HB.out
      go_enter Tryd.func19, Tryd.ntmps19
      go_wp2_with fail
      refine (MC.out _).mono ?_
      rintro e w1 ⟨rfl, g1⟩
      obtain ⟨⟨x0, x1⟩, _⟩ := T0.grew T0.lt g1
      go_wp2_with fail
      refine (EC.out _).mono ?_
      rintro e w2 ⟨rfl, rfl⟩
      go_wp2_with fail
      refine (SC.out _).mono ?_
      rintro e w2 ⟨rfl, rfl⟩
      go_wp2_with fail
      go_ret2
      exact ⟨rfl, A0.trans g1⟩
theorem verify_c (a E S : Int) (l : List Int) (v : Value) (w : World) (hT : Dg.T w) (hs : Is w v l) (hl : l.length ≤ 100000) :
    Calls Tryd.prog 19 #[.int .i64 a, .agg #[.int .i64 E, .int .i64 S], v] w fun e w' => e = .returned (.tuple #[.bool (FV a E S l), .int .i64 (GV a E S)]) ∧ Grew w w' := by
  unfold FV GV
  rcases hb : ok3 a E S with _ | _
  · obtain ⟨x, c, e, _⟩ := hs.shape
    exact verify_bad a E S v w ⟨x, _, c, e⟩ hb
  · have h := hb
    unfold ok3 at h
    rw [Bool.and_eq_true, Bool.and_eq_true] at h
    obtain ⟨⟨h1, h2⟩, h3⟩ := h
    have k1 := isM_iff.1 h1
    have k2 := isE_iff.1 h2
    have k3 := isE_iff.1 h3
    obtain ⟨a', rfl⟩ := Int.eq_ofNat_of_zero_le (show 0 ≤ a by omega)
    obtain ⟨E', rfl⟩ := Int.eq_ofNat_of_zero_le k2.1
    obtain ⟨S', rfl⟩ := Int.eq_ofNat_of_zero_le k3.1
    exact verify_ok a' E' S' l v w hT hs hl h1 h2 h3
end Sg
end Go.Proofs.YtfnnmkadmpflhaaDoor
