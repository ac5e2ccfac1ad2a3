/-
  The law TableLess.
-/
import Derived.Test.YthdoobgellaheaaTbHead
namespace Go.Proofs.Ythdoobgellaheaa
open Go.RowKit Wd
namespace Tb
set_option maxRecDepth 100000
/-- Without a usable table: the example alone. -/
theorem less_bad (l : List Rw) (t a s y z : Int) (v : Value) (w : World) (hs : Rs w v l) (hb : ¬ (Tbl l ∧ Us t a s)) :
    Calls Try.prog 8 #[v, .int .i64 t, .int .i64 a, .int .i64 s, .int .u16 y, .int .u16 z] w fun e w' => e = .returned (.bool true) ∧ Grew w w' := by
  have HD := Lib.hid head_true
  have U : ∀ W, Grew w W → _ := fun W g => usable_c l t a s v W (hs.grew g)
  rw [decide_eq_false hb] at U
  have UC := Lib.hid U
  clear U hs hb
  go_enter Try.func8, Try.ntmps8
  go_wp2_with fail
  refine (HD.out _).mono ?_
  rintro e0 w0 ⟨rfl, g0⟩
  clear HD
  go_wp2_with fail
  refine (UC.out _ g0).mono ?_
  rintro e1 w1 ⟨rfl, g1'⟩
  have g1 := g0.trans g1'
  clear g0 g1' UC
  go_wp2_with fail
  go_ret
  exact ⟨rfl, g1⟩
theorem ith_take {l : List Rw} {k j : Nat} (h : j < k) : ith (l.take k) j = ith l j := by
  unfold ith
  rw [List.getD_eq_getElem?_getD, List.getD_eq_getElem?_getD, List.getElem?_take, if_pos h]
theorem fd_upto {t a s : Int} {l : List Rw} {k : Nat} (hk : k ≤ l.length) (h : ∀ j, j < k → ¬ Fr t a s (ith l j)) : fd t a s (l.take k) = none :=
  fd_out fun j hj => by
    rw [List.length_take] at hj
    rw [ith_take (by omega)]
    exact h j (by omega)
theorem Us.less {t a s b c : Int} (h : Us t a s) (h0 : 0 ≤ b) (h1 : b ≤ a) (h2 : 0 ≤ c) (h3 : c ≤ s) : Us t b c := by
  unfold Us at *
  omega
theorem less_some {t a s b c : Int} {l : List Rw} {k : Nat} (hk : k < l.length) (h1 : b ≤ a) (h3 : c ≤ s) (h : Fr t a s (ith l k)) : ∃ r, fd t b c (l.take (k + 1)) = some r := by
  cases e : fd t b c (l.take (k + 1)) with
  | some r => exact ⟨r, rfl⟩
  | none =>
    exfalso
    have hm : ith l k ∈ l.take (k + 1) := by
      have : (l.take (k + 1))[k]? = some (ith l k) := by rw [List.getElem?_take, if_pos (by omega), ith_get hk]
      exact List.mem_of_getElem? this
    refine fd_none.1 e _ hm ?_
    unfold Fr at *
    omega
set_option maxHeartbeats 8000000 in
theorem less_main (l : List Rw) (t a s y z b c : Int) (v : Value) (w : World) (hs : Rs w v l) (ht : Tbl l) (hu : Us t a s) (hy : 0 ≤ y ∧ y ≤ 65535) (hz : 0 ≤ z ∧ z ≤ 65535) (hb : (y < a ∧ b = a - y) ∨ (a ≤ y ∧ b = 0)) (hd : (z < s ∧ c = s - z) ∨ (s ≤ z ∧ c = 0)) :
    Calls Try.prog 8 #[v, .int .i64 t, .int .i64 a, .int .i64 s, .int .u16 y, .int .u16 z] w fun e w' => e = .returned (.bool true) ∧ Grew w w' := by
  have HD := Lib.hid head_true
  have U : ∀ W, Grew w W → _ := fun W g => usable_c l t a s v W (hs.grew g)
  rw [decide_eq_true ⟨ht, hu⟩] at U
  have UC := Lib.hid U
  obtain ⟨sa, sc, rfl, hsc⟩ := hs.shape
  have hu' := hu
  unfold Us at hu'
  obtain ⟨_, ⟨a0, a1⟩, ⟨s0, s1⟩⟩ := hu'
  have hub : Us t b c := hu.less (by omega) (by omega) (by omega) (by omega)
  have KN : Hid (∀ k W, k < l.length → Grew w W → (∀ j, j < k + 1 → ¬ Fr t a s (ith l j)) → Calls Try.prog 11 #[.slice sa (k + 1) sc, .int .i64 t, .int .i64 a, .int .i64 s] W fun e w' => e = .returned (.tuple #[.int .i64 0, .int .i64 0, .int .i64 4]) ∧ Grew W w') := Lib.hid (fun k W hk g hn => by
    have := find_ok (l.take (k + 1)) t a s (.slice sa (k + 1) sc) W ((hs.grew g).take (by omega)) (ht.take (k + 1)) hu
    rwa [An_none (ht.take (k + 1)) hu (fd_upto (by omega) hn)] at this)
  have KY : Hid (∀ k W, k < l.length → Grew w W → (∀ j, j < k → ¬ Fr t a s (ith l j)) → Fr t a s (ith l k) → Calls Try.prog 11 #[.slice sa (k + 1) sc, .int .i64 t, .int .i64 a, .int .i64 s] W fun e w' => e = .returned (.tuple #[.int .i64 (ith l k).part, .int .i64 (ith l k).turn, .int .i64 0]) ∧ Grew W w') := Lib.hid (fun k W hk g hn hf => by
    have := find_ok (l.take (k + 1)) t a s (.slice sa (k + 1) sc) W ((hs.grew g).take (by omega)) (ht.take (k + 1)) hu
    have h2 := fd_at (l := l.take (k + 1)) (t := t) (a := a) (s := s) (k := k) (by rw [List.length_take]; omega) (fun j hj => by rw [ith_take (by omega)]; exact hn j hj) (by rw [ith_take (by omega)]; exact hf)
    rw [ith_take (by omega)] at h2
    rwa [An_some (ht.take (k + 1)) hu h2] at this)
  have KB : Hid (∀ k W, k < l.length → Grew w W → Fr t a s (ith l k) → ∃ p q : Int, Calls Try.prog 11 #[.slice sa (k + 1) sc, .int .i64 t, .int .i64 b, .int .i64 c] W fun e w' => e = .returned (.tuple #[.int .i64 p, .int .i64 q, .int .i64 0]) ∧ Grew W w') := Lib.hid (fun k W hk g hf => by
    obtain ⟨r, hr⟩ := less_some (b := b) (c := c) hk (by omega) (by omega) hf
    have := find_ok (l.take (k + 1)) t b c (.slice sa (k + 1) sc) W ((hs.grew g).take (by omega)) (ht.take (k + 1)) hub
    rw [An_some (ht.take (k + 1)) hub hr] at this
    exact ⟨r.part, r.turn, this⟩)
  have KS : Hid (∀ k W, k < l.length → Grew w W → Fr t a s (ith l k) → Calls Try.prog 16 #[.slice sa (k + 1) sc, .slice sa l.length sc, .int .i64 t, .int .i64 b, .int .i64 c] W fun e w' => e = .returned (.bool true) ∧ Grew W w') := Lib.hid (fun k W hk g hf => by
    obtain ⟨r, hr⟩ := less_some (b := b) (c := c) hk (by omega) (by omega) hf
    have e : fd t b c l = fd t b c (l.take (k + 1) ++ l.drop (k + 1)) := by rw [List.take_append_drop]
    exact same_c (l.take (k + 1)) l t _ _ _ _ W ((hs.grew g).take (by omega)) (hs.grew g) (ht.take (k + 1)) ht hub (sy_of (by rw [e, further_one hr])))
  have l5 : l.length ≤ 50 := ht.1
  clear U hs ht hu hub
  rcases hb with ⟨hb, rfl⟩ | ⟨hb, rfl⟩ <;> rcases hd with ⟨hd, rfl⟩ | ⟨hd, rfl⟩
  · go_enter Try.func8, Try.ntmps8
    go_wp2_with fail
    refine (HD.out _).mono ?_
    rintro e0 w0 ⟨rfl, g0⟩
    clear HD
    go_wp2_with fail
    refine (UC.out _ g0).mono ?_
    rintro e1 w1 ⟨rfl, g1'⟩
    have g1 := g0.trans g1'
    clear g0 g1' UC
    go_wp2_with fail
    go_loopw [43] (fun i wr => ∃ k : Nat, k ≤ l.length ∧ i = .int .i64 k ∧ Grew w wr ∧ Hid (∀ j, j < k → ¬ Fr t a s (ith l j))) (fun i _ => l.length - (intOf i).toNat)
    case atStart => exact ⟨0, Nat.zero_le _, rfl, g1, Lib.hid (fun j hj => by omega)⟩
    case round =>
      clear g1
      obtain ⟨k, hk, rfl, G, D⟩ := hrel
      by_cases hlt : k < l.length
      · have i0 : (0 : Int) ≤ (k : Int) := by omega
        have i1 : (k : Int) < (l.length : Int) := by omega
        have i2 : (k : Int) + 1 ≤ (sc : Int) := by omega
        have i3 : ((k : Int) + 1).toNat = k + 1 := by omega
        by_cases hf : Fr t a s (ith l k)
        · have C1 : Hid (∀ W, Grew w W → _) := Lib.hid (fun W g => KY.out k W hlt g D.out hf)
          have C2 : Hid (∀ W, Grew w W → _) := Lib.hid (fun W g => KB.out k W hlt g hf)
          have C3 : Hid (∀ W, Grew w W → _) := Lib.hid (fun W g => KS.out k W hlt g hf)
          clear KY KB KS KN hf D
          go_wp2_with fail
          refine (C1.out _ G).mono ?_
          rintro e3 w3 ⟨rfl, g3'⟩
          have g3 := G.trans g3'
          clear g3' C1
          go_wp2_with fail
          obtain ⟨p, q, C4⟩ := C2.out _ g3
          have C5 := Lib.hid C4
          clear C2 C4
          refine C5.out.mono ?_
          rintro e4 w4 ⟨rfl, g4'⟩
          have g4 := g3.trans g4'
          clear g4' C5
          go_wp2_with fail
          refine (C3.out _ g4).mono ?_
          rintro e5 w5 ⟨rfl, g5'⟩
          have g5 := g4.trans g5'
          clear g5' C3
          go_wp2_with fail
          go_ret
          exact ⟨rfl, g5⟩
        · have D2 : Hid (∀ j, j < k + 1 → ¬ Fr t a s (ith l j)) := Lib.hid (fun j hj => by
            by_cases e : j = k
            · rw [e]; exact hf
            · exact D.out j (by omega))
          have C1 : Hid (∀ W, Grew w W → _) := Lib.hid (fun W g => KN.out k W hlt g D2.out)
          clear KY KB KS KN hf D
          go_wp2_with fail
          refine (C1.out _ G).mono ?_
          rintro e3 w3 ⟨rfl, g3'⟩
          have g3 := G.trans g3'
          clear g3' C1
          go_wp2_with fail
          go_roundw
          case rel => exact ⟨k + 1, by omega, by go_num, g3, D2⟩
          case measure => simp [intOf]; omega
      · obtain rfl : k = l.length := by omega
        go_wp2_with fail
        go_ret
        exact ⟨rfl, G⟩
  · go_enter Try.func8, Try.ntmps8
    go_wp2_with fail
    refine (HD.out _).mono ?_
    rintro e0 w0 ⟨rfl, g0⟩
    clear HD
    go_wp2_with fail
    refine (UC.out _ g0).mono ?_
    rintro e1 w1 ⟨rfl, g1'⟩
    have g1 := g0.trans g1'
    clear g0 g1' UC
    go_wp2_with fail
    go_loopw [43] (fun i wr => ∃ k : Nat, k ≤ l.length ∧ i = .int .i64 k ∧ Grew w wr ∧ Hid (∀ j, j < k → ¬ Fr t a s (ith l j))) (fun i _ => l.length - (intOf i).toNat)
    case atStart => exact ⟨0, Nat.zero_le _, rfl, g1, Lib.hid (fun j hj => by omega)⟩
    case round =>
      clear g1
      obtain ⟨k, hk, rfl, G, D⟩ := hrel
      by_cases hlt : k < l.length
      · have i0 : (0 : Int) ≤ (k : Int) := by omega
        have i1 : (k : Int) < (l.length : Int) := by omega
        have i2 : (k : Int) + 1 ≤ (sc : Int) := by omega
        have i3 : ((k : Int) + 1).toNat = k + 1 := by omega
        by_cases hf : Fr t a s (ith l k)
        · have C1 : Hid (∀ W, Grew w W → _) := Lib.hid (fun W g => KY.out k W hlt g D.out hf)
          have C2 : Hid (∀ W, Grew w W → _) := Lib.hid (fun W g => KB.out k W hlt g hf)
          have C3 : Hid (∀ W, Grew w W → _) := Lib.hid (fun W g => KS.out k W hlt g hf)
          clear KY KB KS KN hf D
          go_wp2_with fail
          refine (C1.out _ G).mono ?_
          rintro e3 w3 ⟨rfl, g3'⟩
          have g3 := G.trans g3'
          clear g3' C1
          go_wp2_with fail
          obtain ⟨p, q, C4⟩ := C2.out _ g3
          have C5 := Lib.hid C4
          clear C2 C4
          refine C5.out.mono ?_
          rintro e4 w4 ⟨rfl, g4'⟩
          have g4 := g3.trans g4'
          clear g4' C5
          go_wp2_with fail
          refine (C3.out _ g4).mono ?_
          rintro e5 w5 ⟨rfl, g5'⟩
          have g5 := g4.trans g5'
          clear g5' C3
          go_wp2_with fail
          go_ret
          exact ⟨rfl, g5⟩
        · have D2 : Hid (∀ j, j < k + 1 → ¬ Fr t a s (ith l j)) := Lib.hid (fun j hj => by
            by_cases e : j = k
            · rw [e]; exact hf
            · exact D.out j (by omega))
          have C1 : Hid (∀ W, Grew w W → _) := Lib.hid (fun W g => KN.out k W hlt g D2.out)
          clear KY KB KS KN hf D
          go_wp2_with fail
          refine (C1.out _ G).mono ?_
          rintro e3 w3 ⟨rfl, g3'⟩
          have g3 := G.trans g3'
          clear g3' C1
          go_wp2_with fail
          go_roundw
          case rel => exact ⟨k + 1, by omega, by go_num, g3, D2⟩
          case measure => simp [intOf]; omega
      · obtain rfl : k = l.length := by omega
        go_wp2_with fail
        go_ret
        exact ⟨rfl, G⟩
  · go_enter Try.func8, Try.ntmps8
    go_wp2_with fail
    refine (HD.out _).mono ?_
    rintro e0 w0 ⟨rfl, g0⟩
    clear HD
    go_wp2_with fail
    refine (UC.out _ g0).mono ?_
    rintro e1 w1 ⟨rfl, g1'⟩
    have g1 := g0.trans g1'
    clear g0 g1' UC
    go_wp2_with fail
    go_loopw [43] (fun i wr => ∃ k : Nat, k ≤ l.length ∧ i = .int .i64 k ∧ Grew w wr ∧ Hid (∀ j, j < k → ¬ Fr t a s (ith l j))) (fun i _ => l.length - (intOf i).toNat)
    case atStart => exact ⟨0, Nat.zero_le _, rfl, g1, Lib.hid (fun j hj => by omega)⟩
    case round =>
      clear g1
      obtain ⟨k, hk, rfl, G, D⟩ := hrel
      by_cases hlt : k < l.length
      · have i0 : (0 : Int) ≤ (k : Int) := by omega
        have i1 : (k : Int) < (l.length : Int) := by omega
        have i2 : (k : Int) + 1 ≤ (sc : Int) := by omega
        have i3 : ((k : Int) + 1).toNat = k + 1 := by omega
        by_cases hf : Fr t a s (ith l k)
        · have C1 : Hid (∀ W, Grew w W → _) := Lib.hid (fun W g => KY.out k W hlt g D.out hf)
          have C2 : Hid (∀ W, Grew w W → _) := Lib.hid (fun W g => KB.out k W hlt g hf)
          have C3 : Hid (∀ W, Grew w W → _) := Lib.hid (fun W g => KS.out k W hlt g hf)
          clear KY KB KS KN hf D
          go_wp2_with fail
          refine (C1.out _ G).mono ?_
          rintro e3 w3 ⟨rfl, g3'⟩
          have g3 := G.trans g3'
          clear g3' C1
          go_wp2_with fail
          obtain ⟨p, q, C4⟩ := C2.out _ g3
          have C5 := Lib.hid C4
          clear C2 C4
          refine C5.out.mono ?_
          rintro e4 w4 ⟨rfl, g4'⟩
          have g4 := g3.trans g4'
          clear g4' C5
          go_wp2_with fail
          refine (C3.out _ g4).mono ?_
          rintro e5 w5 ⟨rfl, g5'⟩
          have g5 := g4.trans g5'
          clear g5' C3
          go_wp2_with fail
          go_ret
          exact ⟨rfl, g5⟩
        · have D2 : Hid (∀ j, j < k + 1 → ¬ Fr t a s (ith l j)) := Lib.hid (fun j hj => by
            by_cases e : j = k
            · rw [e]; exact hf
            · exact D.out j (by omega))
          have C1 : Hid (∀ W, Grew w W → _) := Lib.hid (fun W g => KN.out k W hlt g D2.out)
          clear KY KB KS KN hf D
          go_wp2_with fail
          refine (C1.out _ G).mono ?_
          rintro e3 w3 ⟨rfl, g3'⟩
          have g3 := G.trans g3'
          clear g3' C1
          go_wp2_with fail
          go_roundw
          case rel => exact ⟨k + 1, by omega, by go_num, g3, D2⟩
          case measure => simp [intOf]; omega
      · obtain rfl : k = l.length := by omega
        go_wp2_with fail
        go_ret
        exact ⟨rfl, G⟩
  · go_enter Try.func8, Try.ntmps8
    go_wp2_with fail
    refine (HD.out _).mono ?_
    rintro e0 w0 ⟨rfl, g0⟩
    clear HD
    go_wp2_with fail
    refine (UC.out _ g0).mono ?_
    rintro e1 w1 ⟨rfl, g1'⟩
    have g1 := g0.trans g1'
    clear g0 g1' UC
    go_wp2_with fail
    go_loopw [43] (fun i wr => ∃ k : Nat, k ≤ l.length ∧ i = .int .i64 k ∧ Grew w wr ∧ Hid (∀ j, j < k → ¬ Fr t a s (ith l j))) (fun i _ => l.length - (intOf i).toNat)
    case atStart => exact ⟨0, Nat.zero_le _, rfl, g1, Lib.hid (fun j hj => by omega)⟩
    case round =>
      clear g1
      obtain ⟨k, hk, rfl, G, D⟩ := hrel
      by_cases hlt : k < l.length
      · have i0 : (0 : Int) ≤ (k : Int) := by omega
        have i1 : (k : Int) < (l.length : Int) := by omega
        have i2 : (k : Int) + 1 ≤ (sc : Int) := by omega
        have i3 : ((k : Int) + 1).toNat = k + 1 := by omega
        by_cases hf : Fr t a s (ith l k)
        · have C1 : Hid (∀ W, Grew w W → _) := Lib.hid (fun W g => KY.out k W hlt g D.out hf)
          have C2 : Hid (∀ W, Grew w W → _) := Lib.hid (fun W g => KB.out k W hlt g hf)
          have C3 : Hid (∀ W, Grew w W → _) := Lib.hid (fun W g => KS.out k W hlt g hf)
          clear KY KB KS KN hf D
          go_wp2_with fail
          refine (C1.out _ G).mono ?_
          rintro e3 w3 ⟨rfl, g3'⟩
          have g3 := G.trans g3'
          clear g3' C1
          go_wp2_with fail
          obtain ⟨p, q, C4⟩ := C2.out _ g3
          have C5 := Lib.hid C4
          clear C2 C4
          refine C5.out.mono ?_
          rintro e4 w4 ⟨rfl, g4'⟩
          have g4 := g3.trans g4'
          clear g4' C5
          go_wp2_with fail
          refine (C3.out _ g4).mono ?_
          rintro e5 w5 ⟨rfl, g5'⟩
          have g5 := g4.trans g5'
          clear g5' C3
          go_wp2_with fail
          go_ret
          exact ⟨rfl, g5⟩
        · have D2 : Hid (∀ j, j < k + 1 → ¬ Fr t a s (ith l j)) := Lib.hid (fun j hj => by
            by_cases e : j = k
            · rw [e]; exact hf
            · exact D.out j (by omega))
          have C1 : Hid (∀ W, Grew w W → _) := Lib.hid (fun W g => KN.out k W hlt g D2.out)
          clear KY KB KS KN hf D
          go_wp2_with fail
          refine (C1.out _ G).mono ?_
          rintro e3 w3 ⟨rfl, g3'⟩
          have g3 := G.trans g3'
          clear g3' C1
          go_wp2_with fail
          go_roundw
          case rel => exact ⟨k + 1, by omega, by go_num, g3, D2⟩
          case measure => simp [intOf]; omega
      · obtain rfl : k = l.length := by omega
        go_wp2_with fail
        go_ret
        exact ⟨rfl, G⟩
theorem less_true (l : List Rw) (t a s y z : Int) (v : Value) (w : World) (hs : Rs w v l) (hy : 0 ≤ y ∧ y ≤ 65535) (hz : 0 ≤ z ∧ z ≤ 65535) :
    Calls Try.prog 8 #[v, .int .i64 t, .int .i64 a, .int .i64 s, .int .u16 y, .int .u16 z] w fun e w' => e = .returned (.bool true) ∧ Grew w w' := by
  by_cases h : Tbl l ∧ Us t a s
  · exact less_main l t a s y z (if y < a then a - y else 0) (if z < s then s - z else 0) v w hs h.1 h.2 hy hz (by split <;> omega) (by split <;> omega)
  · exact less_bad l t a s y z v w hs h
end Tb
end Go.Proofs.Ythdoobgellaheaa
