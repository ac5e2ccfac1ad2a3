/-
  The reference of layer 12: Valid, First, Find.
-/
import Derived.Test.YthdoobgellaheaaTbB
namespace Go.Proofs.Ythdoobgellaheaa
open Go.RowKit Wd
namespace Tb
namespace R
set_option maxRecDepth 100000
set_option maxHeartbeats 2000000 in
theorem valid_row (l : List Rw) (b o c : Nat) (w : World) (hr : Row w b o l) (h5 : l.length ≤ 50) :
    Calls Try.prog 14 #[.slice (some ⟨b, o, none⟩) l.length c] w fun e w' => e = .returned (.bool (decide (Tbl l))) ∧ Grew w w' := by
  obtain ⟨r, hr0⟩ : ∃ r, decide (Tbl l) = r := ⟨_, rfl⟩
  have HT : Hid (r = true ↔ ∀ j, j < l.length → Rt (ith l j)) := Lib.hid (by
    rw [← hr0, decide_eq_true_eq]
    refine ⟨fun h j hj => h.rt hj, fun h => ⟨h5, fun x hx => ?_⟩⟩
    obtain ⟨j, hj, e⟩ := mem_ith hx
    rw [← e]
    exact h j hj)
  rw [hr0]
  have HR := Lib.hid hr
  have h' : (l.length : Int) ≤ 50 := by omega
  clear hr hr0 h5
  go_enter Try.func14, Try.ntmps14
  go_wp2_with fail
  go_loopw [3] (fun i wr => ∃ k : Nat, k ≤ l.length ∧ i = .int .i64 k ∧ Grew w wr ∧ Hid (∀ j, j < k → Rt (ith l j))) (fun i _ => l.length - (intOf i).toNat)
  case atStart => exact ⟨0, Nat.zero_le _, rfl, Grew.refl _, Lib.hid (fun j hj => by omega)⟩
  case round =>
    obtain ⟨k, hk, rfl, G, D⟩ := hrel
    by_cases hlt : k < l.length
    · obtain ⟨q0, q1, q2, q3, q4, q5⟩ := (HR.out.grew G).at hlt
      have i0 : (0 : Int) ≤ (k : Int) := by omega
      have i1 : (k : Int) < (l.length : Int) := by omega
      have RX := row_c (ith l k)
      obtain ⟨q, hq⟩ : ∃ q, decide (Rt (ith l k)) = q := ⟨_, rfl⟩
      rw [hq] at RX
      unfold rv at RX
      have RC := Lib.hid RX
      clear RX
      have HQ := Lib.hid hq
      clear hq
      cases q
      · go_wp2_with fail
        refine (RC.out _).mono ?_
        rintro e w1 ⟨rfl, g1⟩
        have G1 : Grew w w1 := Grew.trans G g1
        clear g1
        go_wp2_with fail
        go_ret
        have er : r = false := by
          cases r
          · rfl
          · exact absurd (HT.out.1 rfl k hlt) (by simpa using HQ.out)
        exact ⟨by rw [er]; rfl, G1⟩
      · go_wp2_with fail
        refine (RC.out _).mono ?_
        rintro e w1 ⟨rfl, g1⟩
        have G1 : Grew w w1 := Grew.trans G g1
        clear g1
        go_wp2_with fail
        go_roundw
        case rel => exact ⟨k + 1, by omega, by go_num, G1, Lib.hid (fun j hj => by
          by_cases e : j = k
          · rw [e]; simpa using HQ.out
          · exact D.out j (by omega))⟩
        case measure => simp [intOf]; omega
    · have ek : k = l.length := by omega
      have er : Hid (r = true) := Lib.hid (HT.out.2 fun j hj => D.out j (by omega))
      subst ek
      go_wp2_with fail
      go_ret
      exact ⟨by rw [er.out]; rfl, G⟩
theorem valid_0 (a : Option Addr) (c : Nat) (w : World) : Calls Try.prog 14 #[.slice a 0 c] w fun e w' => e = .returned (.bool true) ∧ Grew w w' := by
  go_enter Try.func14, Try.ntmps14
  go_wp2_with fail
  refine wp_loop_rounds 1 ?_
  rw [rounds_succ]
  go_wp2_with fail
  go_ret
  exact ⟨rfl, Grew.refl _⟩
theorem valid_far (a : Option Addr) (n c : Nat) (h : 50 < n) (w : World) : Calls Try.prog 14 #[.slice a n c] w fun e w' => e = .returned (.bool false) ∧ Grew w w' := by
  have h' : (50 : Int) < (n : Int) := by omega
  go_enter Try.func14, Try.ntmps14
  go_wp2_with fail
  go_ret
  exact ⟨rfl, Grew.refl _⟩
theorem valid_c (l : List Rw) (v : Value) (w : World) (hs : Rs w v l) : Calls Try.prog 14 #[v] w fun e w' => e = .returned (.bool (decide (Tbl l))) ∧ Grew w w' := by
  obtain ⟨a, c, rfl, hc⟩ := hs.shape
  by_cases h5 : l.length ≤ 50
  · by_cases h0 : l.length = 0
    · have e := List.eq_nil_of_length_eq_zero h0
      subst e
      rw [decide_eq_true ⟨by decide, fun r hr => by cases hr⟩]
      exact valid_0 a c w
    · obtain ⟨b, o, rfl, hr⟩ := hs.row (by omega)
      exact valid_row l b o c w hr h5
  · rw [decide_eq_false fun h => h5 h.1]
    exact valid_far a l.length c (by omega) w
set_option maxHeartbeats 2000000 in
theorem first_row (l : List Rw) (t a s : Int) (b o c : Nat) (w : World) (hr : Row w b o l) (h5 : l.length ≤ 50) :
    Calls Try.prog 21 #[.slice (some ⟨b, o, none⟩) l.length c, .int .i64 t, .int .i64 a, .int .i64 s] w fun e w' => ∃ z, e = .returned (.int .i64 z) ∧ Hid ((z = -1 ∧ fd t a s l = none) ∨ ∃ k : Nat, k < l.length ∧ z = k ∧ fd t a s l = some (ith l k)) ∧ Grew w w' := by
  have HR := Lib.hid hr
  have h' : (l.length : Int) ≤ 50 := by omega
  clear hr h5
  go_enter Try.func21, Try.ntmps21
  go_wp2_with fail
  go_loopw [9] (fun i wr => ∃ k : Nat, k ≤ l.length ∧ i = .int .i64 k ∧ Grew w wr ∧ Hid (∀ j, j < k → ¬ Fr t a s (ith l j))) (fun i _ => l.length - (intOf i).toNat)
  case atStart => exact ⟨0, Nat.zero_le _, rfl, Grew.refl _, Lib.hid (fun j hj => by omega)⟩
  case round =>
    obtain ⟨k, hk, rfl, G, D⟩ := hrel
    by_cases hlt : k < l.length
    · obtain ⟨q0, q1, q2, q3, q4, q5⟩ := (HR.out.grew G).at hlt
      have i0 : (0 : Int) ≤ (k : Int) := by omega
      have i1 : (k : Int) < (l.length : Int) := by omega
      have RX := for_c t a s (ith l k)
      obtain ⟨q, hq⟩ : ∃ q, decide (Fr t a s (ith l k)) = q := ⟨_, rfl⟩
      rw [hq] at RX
      unfold rv at RX
      have RC := Lib.hid RX
      clear RX
      have HQ := Lib.hid hq
      clear hq
      cases q
      · go_wp2_with fail
        refine (RC.out _).mono ?_
        rintro e w1 ⟨rfl, g1⟩
        have G1 : Grew w w1 := Grew.trans G g1
        clear g1
        go_wp2_with fail
        go_roundw
        case rel => exact ⟨k + 1, by omega, by go_num, G1, Lib.hid (fun j hj => by
          by_cases e : j = k
          · rw [e]; simpa using HQ.out
          · exact D.out j (by omega))⟩
        case measure => simp [intOf]; omega
      · go_wp2_with fail
        refine (RC.out _).mono ?_
        rintro e w1 ⟨rfl, g1⟩
        have G1 : Grew w w1 := Grew.trans G g1
        clear g1
        go_wp2_with fail
        go_ret
        exact ⟨k, rfl, Lib.hid (Or.inr ⟨k, hlt, rfl, fd_at hlt D.out (by simpa using HQ.out)⟩), G1⟩
    · have HN : Hid (fd t a s l = none) := Lib.hid (fd_out fun j hj => D.out j (by omega))
      obtain rfl : k = l.length := by omega
      go_wp2_with fail
      go_ret
      exact ⟨-1, rfl, Lib.hid (Or.inl ⟨rfl, HN.out⟩), G⟩
theorem first_0 (t a s : Int) (ad : Option Addr) (c : Nat) (w : World) : Calls Try.prog 21 #[.slice ad 0 c, .int .i64 t, .int .i64 a, .int .i64 s] w fun e w' => e = .returned (.int .i64 (-1)) ∧ Grew w w' := by
  go_enter Try.func21, Try.ntmps21
  go_wp2_with fail
  refine wp_loop_rounds 1 ?_
  rw [rounds_succ]
  go_wp2_with fail
  go_ret
  exact ⟨rfl, Grew.refl _⟩
theorem first_c (l : List Rw) (t a s : Int) (v : Value) (w : World) (hs : Rs w v l) (h5 : l.length ≤ 50) :
    Calls Try.prog 21 #[v, .int .i64 t, .int .i64 a, .int .i64 s] w fun e w' => ∃ z, e = .returned (.int .i64 z) ∧ Hid ((z = -1 ∧ fd t a s l = none) ∨ ∃ k : Nat, k < l.length ∧ z = k ∧ fd t a s l = some (ith l k)) ∧ Grew w w' := by
  obtain ⟨ad, c, rfl, hc⟩ := hs.shape
  by_cases h0 : l.length = 0
  · have e := List.eq_nil_of_length_eq_zero h0
    subst e
    refine (first_0 t a s ad c w).mono ?_
    rintro e w' ⟨rfl, g⟩
    exact ⟨-1, rfl, Lib.hid (Or.inl ⟨rfl, rfl⟩), g⟩
  · obtain ⟨b, o, rfl, hr⟩ := hs.row (by omega)
    exact first_row l t a s b o c w hr h5
theorem find_bad (l : List Rw) (t a s : Int) (v : Value) (w : World) (hs : Rs w v l) (hb : ¬ (Tbl l ∧ Us t a s)) :
    Calls Try.prog 12 #[v, .int .i64 t, .int .i64 a, .int .i64 s] w fun e w' => e = .returned (.tuple #[.int .i64 0, .int .i64 0, .int .i64 1]) ∧ Grew w w' := by
  have VC := Lib.hid (valid_c l v w hs)
  have UC := Lib.hid (use_c t a s)
  obtain ⟨sa, sc, rfl, _⟩ := hs.shape
  by_cases h : Tbl l
  · have hu : ¬ Us t a s := fun k => hb ⟨h, k⟩
    rw [decide_eq_true h] at VC
    rw [decide_eq_false hu] at UC
    clear hb h hu hs
    go_enter Try.func12, Try.ntmps12
    go_wp2_with fail
    refine VC.out.mono ?_
    rintro e w1 ⟨rfl, g1⟩
    go_wp2_with fail
    refine (UC.out _).mono ?_
    rintro e w2 ⟨rfl, rfl⟩
    go_wp2_with fail
    refine bodyPost_ret (v := .tuple #[.int .i64 0, .int .i64 0, .int .i64 1]) (by simp [results, Try.results12, go_sem, *]) rfl ⟨rfl, g1⟩
  · rw [decide_eq_false h] at VC
    clear hb h hs
    go_enter Try.func12, Try.ntmps12
    go_wp2_with fail
    refine VC.out.mono ?_
    rintro e w1 ⟨rfl, g1⟩
    go_wp2_with fail
    refine bodyPost_ret (v := .tuple #[.int .i64 0, .int .i64 0, .int .i64 1]) (by simp [results, Try.results12, go_sem, *]) rfl ⟨rfl, g1⟩
set_option maxHeartbeats 2000000 in
theorem find_ok (l : List Rw) (t a s : Int) (v : Value) (w : World) (hs : Rs w v l) (ht : Tbl l) (hu : Us t a s) :
    Calls Try.prog 12 #[v, .int .i64 t, .int .i64 a, .int .i64 s] w fun e w' => e = .returned (.tuple #[.int .i64 (An l t a s).1, .int .i64 (An l t a s).2.1, .int .i64 (An l t a s).2.2]) ∧ Grew w w' := by
  have VC := Lib.hid (valid_c l v w hs)
  have UC := Lib.hid (use_c t a s)
  rw [decide_eq_true ht] at VC
  rw [decide_eq_true hu] at UC
  have FC : Hid (∀ W, Grew w W → _) := Lib.hid (fun W g => first_c l t a s v W (hs.grew g) ht.1)
  obtain ⟨A, hA⟩ : ∃ A, A = An l t a s := ⟨_, rfl⟩
  rw [← hA]
  have HX := Lib.hid hA
  clear hA
  have HS := Lib.hid hs
  have HT := Lib.hid ht
  have HU := Lib.hid hu
  obtain ⟨sa, sc, rfl, _⟩ := hs.shape
  clear ht hu hs
  go_enter Try.func12, Try.ntmps12
  go_wp2_with fail
  refine VC.out.mono ?_
  rintro e w1 ⟨rfl, g1⟩
  go_wp2_with fail
  refine (UC.out _).mono ?_
  rintro e w2 ⟨rfl, rfl⟩
  go_wp2_with fail
  refine (FC.out _ g1).mono ?_
  rintro e w5 ⟨z, rfl, hz, g5'⟩
  have g5 := Grew.trans g1 g5'
  clear g5' g1 VC FC UC
  rcases hz.out with ⟨rfl, hf⟩ | ⟨k, hk, rfl, hf⟩
  · have HA := Lib.hid (An_none HT.out HU.out hf)
    clear hf hz
    go_wp2_with fail
    refine bodyPost_ret (v := .tuple #[.int .i64 0, .int .i64 0, .int .i64 4]) (by simp [results, Try.results12, go_sem, *]) rfl ⟨by rw [HX.out, HA.out], g5⟩
  · have HA := Lib.hid (An_some HT.out HU.out hf)
    clear hf hz
    obtain ⟨b, o, rfl, hr⟩ := HS.out.row (by omega)
    obtain ⟨q0, q1, q2, q3, q4, q5⟩ := (hr.grew g5).at hk
    have i0 : (0 : Int) ≤ (k : Int) := by omega
    have i1 : (k : Int) < (l.length : Int) := by omega
    clear hr q0 q1 q2 q3
    generalize ith l k = r at *
    generalize l.length = n at *
    go_wp2_with fail
    go_quiet (fail)
    go_wp2_with fail
    refine bodyPost_ret (v := .tuple #[.int .i64 r.part, .int .i64 r.turn, .int .i64 0]) (by simp [results, Try.results12, go_sem, *]) rfl ⟨by rw [HX.out, HA.out], g5.drewN _⟩
theorem find_c (l : List Rw) (t a s : Int) (v : Value) (w : World) (hs : Rs w v l) :
    Calls Try.prog 12 #[v, .int .i64 t, .int .i64 a, .int .i64 s] w fun e w' => e = .returned (.tuple #[.int .i64 (An l t a s).1, .int .i64 (An l t a s).2.1, .int .i64 (An l t a s).2.2]) ∧ Grew w w' := by
  by_cases h : Tbl l ∧ Us t a s
  · exact find_ok l t a s v w hs h.1 h.2
  · rw [An_bad h]
    exact find_bad l t a s v w hs h
end R
end Tb
end Go.Proofs.Ythdoobgellaheaa
