/-
  The landed package table: the first row, Valid, Find.
-/
import Derived.Test.YthdoobgellaheaaTbB
namespace Go.Proofs.Ythdoobgellaheaa
open Go.RowKit Wd
namespace Tb
set_option maxRecDepth 100000

/-- The first of n at which d is true. -/
def Idx (n : Nat) (d : Nat → Bool) (z : Int) : Prop := (z = -1 ∧ ∀ j, j < n → d j = false) ∨ ∃ k : Nat, k < n ∧ z = k ∧ d k = true ∧ ∀ j, j < k → d j = false
set_option maxHeartbeats 4000000 in
theorem index_c (f : Nat) (cb : Array Value) (eg : ∀ args w, (callFunc f args).run Try.prog w = .ok (.enter f args) w) (d : Nat → Bool) (l : List Rw) (b o c : Nat) (w : World) (hr : Row w b o l) (h2 : l.length ≤ 4000000)
    (hC : ∀ i W, i < l.length → Grew w W → Calls Try.prog f (#[rv (ith l i)] ++ cb) W fun e w' => e = .returned (.bool (d i)) ∧ Grew W w') :
    Calls Try.prog 18 #[.slice (some ⟨b, o, none⟩) l.length c, .func (.func f) #[] cb] w fun e w' => ∃ z, e = .returned (.int .i64 z) ∧ Hid (Idx l.length d z) ∧ Grew w w' := by
  have HR := Lib.hid hr
  have HC := Lib.hid hC
  clear hr hC
  unfold rv at HC
  go_enter Try.func18, Try.ntmps18
  go_wp2_with fail
  go_loopw [5, 8] (fun _ i wr => ∃ k : Nat, k ≤ l.length ∧ i = .int .i64 k ∧ Grew w wr ∧ Hid (∀ j, j < k → d j = false)) (fun _ i _ => l.length - (intOf i).toNat)
  case atStart => exact ⟨0, Nat.zero_le _, rfl, Grew.refl _, Lib.hid (fun j hj => by omega)⟩
  case round =>
    obtain ⟨k, hk, rfl, G, D⟩ := hrel
    by_cases hlt : k < l.length
    · obtain ⟨q0, q1, q2, q3, q4, q5⟩ := (HR.out.grew G).at hlt
      have i0 : (0 : Int) ≤ (k : Int) := by omega
      have i1 : (k : Int) < (l.length : Int) := by omega
      obtain ⟨r, hr⟩ : ∃ r, d k = r := ⟨_, rfl⟩
      have RD := Lib.hid hr
      have CC : Hid (∀ W, Grew w W → Calls Try.prog f (#[.agg #[.int .i64 (ith l k).lo, .int .i64 (ith l k).hi, .int .i64 (ith l k).age, .int .i64 (ith l k).since, .int .i64 (ith l k).part, .int .i64 (ith l k).turn]] ++ cb) W fun e w' => e = .returned (.bool r) ∧ Grew W w') := Lib.hid (fun W g => by rw [← hr]; exact HC.out k W hlt g)
      clear hr
      cases r
      · go_wp2_with fail
        refine (CC.out _ G).mono ?_
        rintro e w1 ⟨rfl, g1⟩
        have G1 : Grew w w1 := Grew.trans G g1
        clear g1
        go_wp2_with fail
        go_roundw
        case rel => exact ⟨k + 1, by omega, by go_num, G1, Lib.hid (fun j hj => by
          by_cases e : j = k
          · rw [e]; exact RD.out
          · exact D.out j (by omega))⟩
        case measure => simp [intOf]; omega
      · go_wp2_with fail
        refine (CC.out _ G).mono ?_
        rintro e w1 ⟨rfl, g1⟩
        have G1 : Grew w w1 := Grew.trans G g1
        clear g1
        go_wp2_with fail
        go_ret
        exact ⟨k, rfl, Lib.hid (Or.inr ⟨k, hlt, rfl, RD.out, D.out⟩), G1⟩
    · obtain rfl : k = l.length := by omega
      have D' := Lib.hid D.out
      go_wp2_with fail
      go_ret
      exact ⟨-1, rfl, Lib.hid (Or.inl ⟨rfl, D'.out⟩), G⟩
theorem index_0 (f : Nat) (cb : Array Value) (a : Option Addr) (c : Nat) (w : World) : Calls Try.prog 18 #[.slice a 0 c, .func (.func f) #[] cb] w fun e w' => e = .returned (.int .i64 (-1)) ∧ w = w' := by
  go_enter Try.func18, Try.ntmps18
  go_wp2_with fail
  go_loopw [5, 8] (fun _ i wr => i = .int .i64 0 ∧ w = wr) (fun _ _ _ => 0)
  case atStart => exact ⟨rfl, rfl⟩
  case round =>
    obtain ⟨rfl, rfl⟩ := hrel
    go_wp2_with fail
    go_ret
    exact ⟨rfl, rfl⟩
theorem index_any (f : Nat) (cb : Array Value) (eg : ∀ args w, (callFunc f args).run Try.prog w = .ok (.enter f args) w) (d : Nat → Bool) (l : List Rw) (v : Value) (w : World) (hs : Rs w v l) (h2 : l.length ≤ 4000000)
    (hC : ∀ i W, i < l.length → Grew w W → Calls Try.prog f (#[rv (ith l i)] ++ cb) W fun e w' => e = .returned (.bool (d i)) ∧ Grew W w') :
    Calls Try.prog 18 #[v, .func (.func f) #[] cb] w fun e w' => ∃ z, e = .returned (.int .i64 z) ∧ Hid (Idx l.length d z) ∧ Grew w w' := by
  obtain ⟨a, c, rfl, hc⟩ := hs.shape
  by_cases h0 : l.length = 0
  · rw [h0]
    refine (index_0 f cb a c w).mono ?_
    rintro e w' ⟨rfl, rfl⟩
    exact ⟨-1, rfl, Lib.hid (Or.inl ⟨rfl, fun j hj => absurd hj (Nat.not_lt_zero j)⟩), Grew.refl _⟩
  · obtain ⟨b, o, rfl, hr⟩ := hs.row (by omega)
    exact index_c f cb eg d l b o c w hr h2 hC
theorem contains_any (f : Nat) (cb : Array Value) (eg : ∀ args w, (callFunc f args).run Try.prog w = .ok (.enter f args) w) (d : Nat → Bool) (l : List Rw) (v : Value) (w : World) (hs : Rs w v l) (h2 : l.length ≤ 4000000) (r : Bool) (hd : r = true ↔ ∃ i, i < l.length ∧ d i = true)
    (hC : ∀ i W, i < l.length → Grew w W → Calls Try.prog f (#[rv (ith l i)] ++ cb) W fun e w' => e = .returned (.bool (d i)) ∧ Grew W w') :
    Calls Try.prog 22 #[v, .func (.func f) #[] cb] w fun e w' => e = .returned (.bool r) ∧ Grew w w' := by
  have IC := Lib.hid (index_any f cb eg d l v w hs h2 hC)
  have HD := Lib.hid hd
  obtain ⟨a, c, rfl, _⟩ := hs.shape
  clear hs hC hd
  go_enter Try.func22, Try.ntmps22
  go_wp2_with fail
  refine IC.out.mono ?_
  rintro e w1 ⟨z, rfl, hz, g1⟩
  have HZ : Hid (r = decide (0 ≤ z)) := Lib.hid (by
    rw [Bool.eq_iff_iff, HD.out, decide_eq_true_eq]
    rcases hz.out with ⟨rfl, h⟩ | ⟨k, hk, rfl, hd, _⟩
    · exact ⟨fun ⟨i, hi, e⟩ => by (rw [h i hi] at e; cases e), fun h => by omega⟩
    · exact ⟨fun _ => by omega, fun _ => ⟨k, hk, hd⟩⟩)
  clear hz
  by_cases c0 : 0 ≤ z
  · go_wp2_with fail
    go_ret
    exact ⟨by rw [HZ.out]; first | rfl | simp [c0], g1⟩
  · go_wp2_with fail
    go_ret
    exact ⟨by rw [HZ.out]; first | rfl | simp [c0], g1⟩
theorem enter_wrong : ∀ args w, (callFunc 23 args).run Try.prog w = .ok (.enter 23 args) w := fun _ _ => by kernel_rfl
theorem enter_for : ∀ args w, (callFunc 28 args).run Try.prog w = .ok (.enter 28 args) w := fun _ _ => by kernel_rfl
/-- Valid of the landed package. -/
theorem valid_c (l : List Rw) (v : Value) (w : World) (hs : Rs w v l) (hl : l.length ≤ 9223372036854775807) : Calls Try.prog 13 #[v] w fun e w' => e = .returned (.bool (decide (Tbl l))) ∧ Grew w w' := by
  by_cases h : l.length ≤ 50
  · obtain ⟨r, hr⟩ : ∃ r, decide (∀ x, x ∈ l → Rt x) = r := ⟨_, rfl⟩
    have HT : Hid (decide (Tbl l) = r) := Lib.hid (by
      rw [← hr, Bool.eq_iff_iff, decide_eq_true_eq, decide_eq_true_eq]
      exact ⟨fun h => h.2, fun k => ⟨h, k⟩⟩)
    have CC := Lib.hid (contains_any 23 #[] enter_wrong (fun i => !decide (Rt (ith l i))) l v w hs (by omega) (!r) (by
      rw [← hr]
      simp only [Bool.not_eq_true', decide_eq_false_iff_not]
      refine ⟨fun k => ?_, fun ⟨i, hi, k⟩ h => k (h _ (ith_mem hi))⟩
      refine Classical.byContradiction fun n => k fun x hx => Classical.byContradiction fun y => ?_
      obtain ⟨i, hi, e⟩ := mem_ith hx
      exact n ⟨i, hi, by rw [e]; exact y⟩) (fun i W _ _ => isWrong_c (ith l i) W))
    obtain ⟨a, c, rfl, _⟩ := hs.shape
    have h' : (l.length : Int) ≤ 50 := by omega
    rw [HT.out]
    clear hs hr HT h
    generalize l.length = n at *
    go_enter Try.func13, Try.ntmps13
    go_wp2_with fail
    refine CC.out.mono ?_
    rintro e w1 ⟨rfl, g1⟩
    go_wp2_with fail
    go_ret
    exact ⟨by simp, g1⟩
  · have HT : Hid (decide (Tbl l) = false) := Lib.hid (decide_eq_false fun k => h k.1)
    obtain ⟨a, c, rfl, _⟩ := hs.shape
    have h' : ¬ (l.length : Int) ≤ 50 := by omega
    rw [HT.out]
    clear hs h HT
    generalize l.length = n at *
    go_enter Try.func13, Try.ntmps13
    go_wp2_with fail
    go_ret
    exact ⟨rfl, Grew.refl _⟩
theorem forUse_new (t a s : Int) (w : World) : Calls Try.prog 19 #[.int .i64 t, .int .i64 a, .int .i64 s] w fun e w' => e = .returned (.func (.func 28) #[] #[.pointer (some ⟨w.heap.size, 0, none⟩), .pointer (some ⟨w.heap.size + 1, 0, none⟩), .pointer (some ⟨w.heap.size + 1 + 1, 0, none⟩)]) ∧
    ((w.alloc (.cells #[.int .i64 t] 3)).alloc (.cells #[.int .i64 a] 3)).alloc (.cells #[.int .i64 s] 3) = w' := by
  have hmf : ∀ (fn : Fn) (first cap : Array Value) (w : World), (Instr.makeFunc fn first cap).run Try.prog w = .ok (.func fn first cap) w := fun _ _ _ _ => rfl
  go_enter Try.func19, Try.ntmps19
  go_wp2_with fail
  go_ret
  exact ⟨rfl, rfl⟩
theorem find_bad (l : List Rw) (t a s : Int) (v : Value) (w : World) (hs : Rs w v l) (hl : l.length ≤ 9223372036854775807) (hb : ¬ (Tbl l ∧ Us t a s)) :
    Calls Try.prog 11 #[v, .int .i64 t, .int .i64 a, .int .i64 s] w fun e w' => e = .returned (.tuple #[.int .i64 0, .int .i64 0, .int .i64 1]) ∧ Grew w w' := by
  have VC := Lib.hid (valid_c l v w hs hl)
  have UC := Lib.hid (isUse_c t a s)
  obtain ⟨sa, sc, rfl, _⟩ := hs.shape
  by_cases h : Tbl l
  · have hu : ¬ Us t a s := fun k => hb ⟨h, k⟩
    rw [decide_eq_true h] at VC
    rw [decide_eq_false hu] at UC
    clear hb h hu hs hl
    go_enter Try.func11, Try.ntmps11
    go_wp2_with fail
    refine VC.out.mono ?_
    rintro e w1 ⟨rfl, g1⟩
    go_wp2_with fail
    refine (UC.out _).mono ?_
    rintro e w2 ⟨rfl, rfl⟩
    go_wp2_with fail
    refine bodyPost_ret (v := .tuple #[.int .i64 0, .int .i64 0, .int .i64 1]) (by simp [results, Try.results11, go_sem, *]) rfl ⟨rfl, g1⟩
  · rw [decide_eq_false h] at VC
    clear hb h hs hl
    go_enter Try.func11, Try.ntmps11
    go_wp2_with fail
    refine VC.out.mono ?_
    rintro e w1 ⟨rfl, g1⟩
    go_wp2_with fail
    refine bodyPost_ret (v := .tuple #[.int .i64 0, .int .i64 0, .int .i64 1]) (by simp [results, Try.results11, go_sem, *]) rfl ⟨rfl, g1⟩
theorem idx_fd {t a s : Int} {l : List Rw} {z : Int} (h : Idx l.length (fun i => decide (Fr t a s (ith l i))) z) : (z = -1 ∧ fd t a s l = none) ∨ ∃ k : Nat, k < l.length ∧ z = k ∧ fd t a s l = some (ith l k) := by
  rcases h with ⟨rfl, h⟩ | ⟨k, hk, rfl, h1, h0⟩
  · exact Or.inl ⟨rfl, fd_out fun j hj => by simpa using h j hj⟩
  · exact Or.inr ⟨k, hk, rfl, fd_at hk (fun j hj => by simpa using h0 j hj) (by simpa using h1)⟩
set_option maxHeartbeats 2000000 in
theorem find_ok (l : List Rw) (t a s : Int) (v : Value) (w : World) (hs : Rs w v l) (ht : Tbl l) (hu : Us t a s) :
    Calls Try.prog 11 #[v, .int .i64 t, .int .i64 a, .int .i64 s] w fun e w' => e = .returned (.tuple #[.int .i64 (An l t a s).1, .int .i64 (An l t a s).2.1, .int .i64 (An l t a s).2.2]) ∧ Grew w w' := by
  have VC := Lib.hid (valid_c l v w hs (by have := ht.1; omega))
  have UC := Lib.hid (isUse_c t a s)
  rw [decide_eq_true ht] at VC
  rw [decide_eq_true hu] at UC
  have FN := Lib.hid (forUse_new t a s)
  obtain ⟨A, hA⟩ : ∃ A, A = An l t a s := ⟨_, rfl⟩
  rw [← hA]
  have HX := Lib.hid hA
  clear hA
  have HS := Lib.hid hs
  have HT := Lib.hid ht
  have HU := Lib.hid hu
  obtain ⟨sa, sc, rfl, _⟩ := hs.shape
  clear ht hu hs
  go_enter Try.func11, Try.ntmps11
  go_wp2_with fail
  refine VC.out.mono ?_
  rintro e w1 ⟨rfl, g1⟩
  go_wp2_with fail
  refine (UC.out _).mono ?_
  rintro e w2 ⟨rfl, rfl⟩
  go_wp2_with fail
  refine (FN.out _).mono ?_
  rintro e w3 ⟨rfl, rfl⟩
  have g3 := ((g1.alloc #[.int .i64 t] 3).alloc #[.int .i64 a] 3).alloc #[.int .i64 s] 3
  have IC := index_any 28 #[.pointer (some ⟨w1.heap.size, 0, none⟩), .pointer (some ⟨w1.heap.size + 1, 0, none⟩), .pointer (some ⟨w1.heap.size + 1 + 1, 0, none⟩)] enter_for (fun i => decide (Fr t a s (ith l i))) l _ _ (HS.out.grew g3) (by have := HT.out.1; omega) (fun i W hi g => forUse_c t a s _ _ _ (ith l i) W
    (by rw [g.cell (by simp only [World.size_alloc]; omega)]; simp [go_sem]) (by rw [g.cell (by simp only [World.size_alloc]; omega)]; simp [go_sem]) (by rw [g.cell (by simp only [World.size_alloc]; omega)]; simp [go_sem])
    (by have := g.size; simp at this; omega) (by have := g.size; simp at this; omega) (by have := g.size; simp at this; omega))
  generalize ((w1.alloc (.cells #[.int .i64 t] 3)).alloc (.cells #[.int .i64 a] 3)).alloc (.cells #[.int .i64 s] 3) = w4 at *
  generalize Value.func (.func 28) #[] #[.pointer (some ⟨w1.heap.size, 0, none⟩), .pointer (some ⟨w1.heap.size + 1, 0, none⟩), .pointer (some ⟨w1.heap.size + 1 + 1, 0, none⟩)] = fv at *
  have IX := Lib.hid IC
  clear IC
  go_wp2_with fail
  refine IX.out.mono ?_
  rintro e w5 ⟨z, rfl, hz, g5'⟩
  have g5 := Grew.trans g3 g5'
  clear g3 g5' IX g1 VC FN UC
  rcases idx_fd hz.out with ⟨rfl, hf⟩ | ⟨k, hk, rfl, hf⟩
  · have HA := Lib.hid (An_none HT.out HU.out hf)
    clear hf
    go_wp2_with fail
    refine bodyPost_ret (v := .tuple #[.int .i64 0, .int .i64 0, .int .i64 4]) (by simp [results, Try.results11, go_sem, *]) rfl ⟨by rw [HX.out, HA.out], g5⟩
  · have HA := Lib.hid (An_some HT.out HU.out hf)
    clear hf hz
    obtain ⟨b, o, rfl, hr⟩ := HS.out.row (by omega)
    obtain ⟨q0, q1, q2, q3, q4, q5⟩ := (hr.grew g5).at hk
    have i0 : (0 : Int) ≤ (k : Int) := by omega
    have i1 : (k : Int) < (l.length : Int) := by omega
    clear hr q0 q1 q2 q3
    generalize ith l k = r at *
    generalize l.length = n at *
    go_wp2_with fail
    go_quiet (fail)
    go_wp2_with fail
    refine bodyPost_ret (v := .tuple #[.int .i64 r.part, .int .i64 r.turn, .int .i64 0]) (by simp [results, Try.results11, go_sem, *]) rfl ⟨by rw [HX.out, HA.out], g5.drewN _⟩
theorem find_c (l : List Rw) (t a s : Int) (v : Value) (w : World) (hs : Rs w v l) (hl : l.length ≤ 9223372036854775807) :
    Calls Try.prog 11 #[v, .int .i64 t, .int .i64 a, .int .i64 s] w fun e w' => e = .returned (.tuple #[.int .i64 (An l t a s).1, .int .i64 (An l t a s).2.1, .int .i64 (An l t a s).2.2]) ∧ Grew w w' := by
  by_cases h : Tbl l ∧ Us t a s
  · exact find_ok l t a s v w hs h.1 h.2
  · rw [An_bad h]
    exact find_bad l t a s v w hs hl h
end Tb
end Go.Proofs.Ythdoobgellaheaa
