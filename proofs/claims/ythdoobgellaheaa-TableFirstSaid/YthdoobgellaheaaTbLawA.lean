/-
  The laws TableMatchesReference and TableFirst.
-/
import Derived.Test.YthdoobgellaheaaTbHead
namespace Go.Proofs.Ythdoobgellaheaa
open Go.RowKit Wd
namespace Tb
set_option maxRecDepth 100000
set_option maxHeartbeats 4000000 in
theorem matches_true (l : List Rw) (t a s : Int) (v : Value) (w : World) (hs : Rs w v l) (hl : l.length ≤ 9223372036854775807) :
    Calls Try.prog 3 #[v, .int .i64 t, .int .i64 a, .int .i64 s] w fun e w' => e = .returned (.bool true) ∧ Grew w w' := by
  have HD := Lib.hid head_true
  have F1 : ∀ W, Grew w W → _ := fun W g => find_c l t a s v W (hs.grew g) hl
  have F2 : ∀ W, Grew w W → _ := fun W g => R.find_c l t a s v W (hs.grew g)
  have F3 : ∀ W, Grew w W → _ := fun W g => valid_c l v W (hs.grew g) hl
  have F4 : ∀ W, Grew w W → _ := fun W g => R.valid_c l v W (hs.grew g)
  have X1 := Lib.hid F1
  have X2 := Lib.hid F2
  have X3 := Lib.hid F3
  have X4 := Lib.hid F4
  clear F1 F2 F3 F4 hs hl
  generalize An l t a s = A at *
  obtain ⟨p, q, e⟩ := A
  generalize decide (Tbl l) = r at *
  go_enter Try.func3, Try.ntmps3
  go_wp2_with fail
  refine (HD.out _).mono ?_
  rintro e0 w0 ⟨rfl, g0⟩
  clear HD
  go_wp2_with fail
  refine (X1.out _ g0).mono ?_
  rintro e1 w1 ⟨rfl, g1'⟩
  have g1 := g0.trans g1'
  clear g0 g1' X1
  go_wp2_with fail
  refine (X2.out _ g1).mono ?_
  rintro e2 w2 ⟨rfl, g2'⟩
  have g2 := g1.trans g2'
  clear g1 g2' X2
  go_wp2_with fail
  refine (X3.out _ g2).mono ?_
  rintro e3 w3 ⟨rfl, g3'⟩
  have g3 := g2.trans g3'
  clear g2 g3' X3
  go_wp2_with fail
  refine (X4.out _ g3).mono ?_
  rintro e4 w4 ⟨rfl, g4'⟩
  have g4 := g3.trans g4'
  clear g3 g4' X4
  go_wp2_with fail
  go_ret
  exact ⟨by first | rfl | simp, g4⟩
/-- Without a usable table: the example alone. -/
theorem first_bad (l : List Rw) (t a s : Int) (v : Value) (w : World) (hs : Rs w v l) (hb : ¬ (Tbl l ∧ Us t a s)) :
    Calls Try.prog 4 #[v, .int .i64 t, .int .i64 a, .int .i64 s] w fun e w' => e = .returned (.bool true) ∧ Grew w w' := by
  have HD := Lib.hid head_true
  have U : ∀ W, Grew w W → _ := fun W g => usable_c l t a s v W (hs.grew g)
  rw [decide_eq_false hb] at U
  have UC := Lib.hid U
  clear U hs hb
  go_enter Try.func4, Try.ntmps4
  go_wp2_with fail
  refine (HD.out _).mono ?_
  rintro e0 w0 ⟨rfl, g0⟩
  clear HD
  go_wp2_with fail
  refine (UC.out _ g0).mono ?_
  rintro e1 w1 ⟨rfl, g1'⟩
  have g1 := g0.trans g1'
  clear g0 g1' UC
  go_wp2_with fail
  go_ret
  exact ⟨rfl, g1⟩
set_option maxHeartbeats 8000000 in
theorem first_ok (l : List Rw) (t a s : Int) (v : Value) (w : World) (hs : Rs w v l) (ht : Tbl l) (hu : Us t a s) :
    Calls Try.prog 4 #[v, .int .i64 t, .int .i64 a, .int .i64 s] w fun e w' => e = .returned (.bool true) ∧ Grew w w' := by
  have HD := Lib.hid head_true
  have U : ∀ W, Grew w W → _ := fun W g => usable_c l t a s v W (hs.grew g)
  rw [decide_eq_true ⟨ht, hu⟩] at U
  have UC := Lib.hid U
  have F : ∀ W, Grew w W → _ := fun W g => find_ok l t a s v W (hs.grew g) ht hu
  obtain ⟨sa, sc, rfl, hc⟩ := hs.shape
  have KS : Hid (∀ k W, k ≤ l.length → Grew w W → (∀ j, j < k → ¬ Fr t a s (ith l j)) → Calls Try.prog 11 #[.slice sa k sc, .int .i64 t, .int .i64 a, .int .i64 s] W fun e w' => e = .returned (.tuple #[.int .i64 0, .int .i64 0, .int .i64 4]) ∧ Grew W w') := Lib.hid (fun k W hk g hn => by
    have := find_ok (l.take k) t a s (.slice sa k sc) W ((hs.grew g).take hk) (ht.take k) hu
    rwa [An_none (ht.take k) hu (fd_none.2 fun r hr => by
      obtain ⟨j, hj, e⟩ := mem_ith hr
      rw [List.length_take] at hj
      have e2 : ith (l.take k) j = ith l j := by
        unfold ith
        rw [List.getD_eq_getElem?_getD, List.getD_eq_getElem?_getD, List.getElem?_take, if_pos (by omega)]
      rw [← e, e2]
      exact hn j (by omega))] at this)
  have KE : Hid (∀ k, k < l.length → (∀ j, j < k → ¬ Fr t a s (ith l j)) → Fr t a s (ith l k) → An l t a s = ((ith l k).part, (ith l k).turn, 0)) := Lib.hid (fun k hk h0 h1 => An_some ht hu (fd_at hk h0 h1))
  have KN : Hid ((∀ j, j < l.length → ¬ Fr t a s (ith l j)) → An l t a s = (0, 0, 4)) := Lib.hid (fun h => An_none ht hu (fd_out h))
  have HS := Lib.hid hs
  have FF := Lib.hid F
  have l5 : l.length ≤ 50 := ht.1
  clear F U hs ht hu
  obtain ⟨A, hA⟩ : ∃ A, A = An l t a s := ⟨_, rfl⟩
  rw [← hA] at FF KE KN
  clear hA
  obtain ⟨p, q, e⟩ := A
  go_enter Try.func4, Try.ntmps4
  go_wp2_with fail
  refine (HD.out _).mono ?_
  rintro e0 w0 ⟨rfl, g0⟩
  clear HD
  go_wp2_with fail
  refine (UC.out _ g0).mono ?_
  rintro e1 w1 ⟨rfl, g1'⟩
  have g1 := g0.trans g1'
  clear g0 g1' UC
  go_wp2_with fail
  refine (FF.out _ g1).mono ?_
  rintro e2 w2 ⟨rfl, g2'⟩
  have g2 := g1.trans g2'
  clear g1 g2' FF
  go_wp2_with fail
  go_loopw [37] (fun i wr => ∃ k : Nat, k ≤ l.length ∧ i = .int .i64 k ∧ Grew w wr ∧ Hid (∀ j, j < k → ¬ Fr t a s (ith l j))) (fun i _ => l.length - (intOf i).toNat)
  case atStart => exact ⟨0, Nat.zero_le _, rfl, g2, Lib.hid (fun j hj => by omega)⟩
  case round =>
    clear g2
    obtain ⟨k, hk, rfl, G, D⟩ := hrel
    by_cases hlt : k < l.length
    · obtain ⟨b, o, rfl, hr⟩ := HS.out.row (by omega)
      obtain ⟨q0, q1, q2, q3, q4, q5⟩ := (hr.grew G).at hlt
      clear hr
      have i0 : (0 : Int) ≤ (k : Int) := by omega
      have i1 : (k : Int) < (l.length : Int) := by omega
      have i2 : (k : Int) ≤ (sc : Int) := by omega
      have HR : Hid (Fr t a s (ith l k) ↔ ((ith l k).lo ≤ t ∧ t ≤ (ith l k).hi ∧ a ≤ (ith l k).age ∧ s ≤ (ith l k).since)) := Lib.hid Iff.rfl
      have KX := Lib.hid (KE.out k hlt D.out)
      have KC : Hid (∀ W, Grew w W → Calls Try.prog 11 #[.slice (some ⟨b, o, none⟩) k sc, .int .i64 t, .int .i64 a, .int .i64 s] W fun e w' => e = .returned (.tuple #[.int .i64 0, .int .i64 0, .int .i64 4]) ∧ Grew W w') := Lib.hid (fun W g => KS.out k W hk g D.out)
      have hb : b < wr.heap.size := World.block_lt_of_cell? wr _ q0
      generalize er : ith l k = r at *
      have HE := Lib.hid er
      clear er
      go_wp2_with fail
      refine (KC.out _ (G.alloc _ _)).mono ?_
      rintro e3 w3 ⟨rfl, g3'⟩
      have X0 := g3'.cell (b := wr.heap.size) (o := 0) (by simp)
      have X1 := g3'.cell (b := wr.heap.size) (o := 1) (by simp)
      have X2 := g3'.cell (b := wr.heap.size) (o := 2) (by simp)
      have X3 := g3'.cell (b := wr.heap.size) (o := 3) (by simp)
      have X4 := g3'.cell (b := wr.heap.size) (o := 4) (by simp)
      have X5 := g3'.cell (b := wr.heap.size) (o := 5) (by simp)
      simp [go_sem] at X0 X1 X2 X3 X4 X5
      have g3 := (G.alloc _ _).trans g3'
      clear g3' KC
      by_cases c0 : r.lo ≤ t
      · by_cases c1 : t ≤ r.hi
        · by_cases c2 : a ≤ r.age
          · by_cases c3 : s ≤ r.since
            · obtain ⟨rfl, rfl, rfl⟩ : p = r.part ∧ q = r.turn ∧ e = 0 := by
                have h := KX.out (HR.out.2 ⟨c0, c1, c2, c3⟩)
                simp only [Prod.mk.injEq] at h
                exact h
              go_wp2_with fail
              go_ret
              exact ⟨by first | rfl | simp, g3⟩
            · have NF : Hid (¬ Fr t a s r) := Lib.hid (fun h => c3 (HR.out.1 h).2.2.2)
              go_wp2_with fail
              go_roundw
              case rel => exact ⟨k + 1, by omega, by go_num, g3, Lib.hid (fun j hj => by
                by_cases e : j = k
                · rw [e, HE.out]; exact NF.out
                · exact D.out j (by omega))⟩
              case measure => simp [intOf]; omega
          · have NF : Hid (¬ Fr t a s r) := Lib.hid (fun h => c2 (HR.out.1 h).2.2.1)
            go_wp2_with fail
            go_roundw
            case rel => exact ⟨k + 1, by omega, by go_num, g3, Lib.hid (fun j hj => by
              by_cases e : j = k
              · rw [e, HE.out]; exact NF.out
              · exact D.out j (by omega))⟩
            case measure => simp [intOf]; omega
        · have NF : Hid (¬ Fr t a s r) := Lib.hid (fun h => c1 (HR.out.1 h).2.1)
          go_wp2_with fail
          go_roundw
          case rel => exact ⟨k + 1, by omega, by go_num, g3, Lib.hid (fun j hj => by
            by_cases e : j = k
            · rw [e, HE.out]; exact NF.out
            · exact D.out j (by omega))⟩
          case measure => simp [intOf]; omega
      · have NF : Hid (¬ Fr t a s r) := Lib.hid (fun h => c0 (HR.out.1 h).1)
        go_wp2_with fail
        go_roundw
        case rel => exact ⟨k + 1, by omega, by go_num, g3, Lib.hid (fun j hj => by
          by_cases e : j = k
          · rw [e, HE.out]; exact NF.out
          · exact D.out j (by omega))⟩
        case measure => simp [intOf]; omega
    · obtain ⟨rfl, rfl, rfl⟩ : p = 0 ∧ q = 0 ∧ e = 4 := by
        have h := KN.out (fun j hj => D.out j (by omega))
        simp only [Prod.mk.injEq] at h
        exact h
      obtain rfl : k = l.length := by omega
      go_wp2_with fail
      go_ret
      exact ⟨rfl, G⟩
theorem first_true (l : List Rw) (t a s : Int) (v : Value) (w : World) (hs : Rs w v l) :
    Calls Try.prog 4 #[v, .int .i64 t, .int .i64 a, .int .i64 s] w fun e w' => e = .returned (.bool true) ∧ Grew w w' := by
  by_cases h : Tbl l ∧ Us t a s
  · exact first_ok l t a s v w hs h.1 h.2
  · exact first_bad l t a s v w hs h
end Tb
end Go.Proofs.Ythdoobgellaheaa
