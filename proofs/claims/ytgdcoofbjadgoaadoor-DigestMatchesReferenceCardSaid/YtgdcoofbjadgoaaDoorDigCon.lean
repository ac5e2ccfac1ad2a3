/-
  What package digest owes: its three functions are the digests of bytes, of a digest and integers, and of integers.
-/
import Derived.Test.YtgdcoofbjadgoaaDoorDigRefC
namespace Go.Proofs.YtgdcoofbjadgoaaDoor
open Go.RowKit Wd
namespace Dg

/-- What package digest owes, in worlds that meet T. -/
structure Code (T : World → Prop) : Prop where
  keep : ∀ W w, Grew W w → T W → T w
  text : ∀ (s : ByteArray) (w : World), T w → s.size ≤ 1000000000 → Calls Tryd.prog 10 #[.string s] w fun e w' => e = .returned (.int .u64 (dv (tx s.data.toList))) ∧ Grew w w'
  next : ∀ (d : BitVec 64) (l : List Int) (v : Value) (w : World), T w → Is w v l → l.length ≤ 1000000 → Calls Tryd.prog 12 #[.int .u64 (dv d), v] w fun e w' => e = .returned (.int .u64 (dv (nx d l))) ∧ Grew w w'
  sum : ∀ (l : List Int) (v : Value) (w : World), T w → Is w v l → l.length ≤ 1000000 → Calls Tryd.prog 14 #[v] w fun e w' => e = .returned (.int .u64 (dv (nx f0 l))) ∧ Grew w w'
theorem bs_ex : bs 97#64 [5, -1] = [0, 0, 0, 0, 0, 0, 0, 97, 53, 32, 45, 49, 32] := by
  have e5 : Lib.itoa 5 = [53] := by unfold Lib.itoa; rw [if_neg (by decide)]; exact Lib.decDigits_one (by decide)
  have e1 : Lib.itoa (-1) = [45, 49] := by unfold Lib.itoa; rw [if_pos (by decide)]; exact congrArg _ (Lib.decDigits_one (by decide))
  have h8 : head8 97#64 = [0, 0, 0, 0, 0, 0, 0, 97] := by decide
  unfold bs
  rw [ints_cons, ints_cons, ints_nil, e5, e1, h8]
  rfl
theorem is_two (w : World) (m n : Int) (hm : -9223372036854775808 ≤ m ∧ m ≤ 9223372036854775807) (hn : -9223372036854775808 ≤ n ∧ n ≤ 9223372036854775807) : Is (w.alloc (.cells #[.int .i64 m, .int .i64 n] 3)) (.slice (some ⟨w.heap.size, 0, none⟩) 2 2) [m, n] := by
  refine ⟨⟨_, _, rfl, Or.inr ⟨w.heap.size, 0, rfl, by simp, fun i hi => ?_⟩⟩, fun i hi => ?_⟩
  · match i, hi with
    | 0, _ => simp [go_sem]
    | 1, _ => simp [go_sem]
  · match i, hi with
    | 0, _ => exact hm
    | 1, _ => exact hn
theorem is_one (w : World) (m : Int) (hm : -9223372036854775808 ≤ m ∧ m ≤ 9223372036854775807) : Is (w.alloc (.cells #[.int .i64 m] 3)) (.slice (some ⟨w.heap.size, 0, none⟩) 1 1) [m] := by
  refine ⟨⟨_, _, rfl, Or.inr ⟨w.heap.size, 0, rfl, by simp, fun i hi => ?_⟩⟩, fun i hi => ?_⟩
  · match i, hi with
    | 0, _ => simp [go_sem]
  · match i, hi with
    | 0, _ => exact hm
theorem dv_f0 : dv f0 = 14695981039346656037 := by decide
theorem tx_a : dv (tx [97]) = 12638187200555641996 := by decide
theorem tx_foobar : dv (tx [102, 111, 111, 98, 97, 114]) = 9625390261332436968 := by decide
set_option maxRecDepth 100000 in
set_option maxHeartbeats 4000000 in
theorem head_true {T : World → Prop} (K : Code T) (w : World) (hT : T w) : Calls Tryd.prog 9 #[] w fun e w' => e = .returned (.bool true) ∧ Grew w w' := by
  have E0 : Hid (∀ W, Grew w W → Calls Tryd.prog 10 #[.string ⟨#[]⟩] W fun e w' => e = .returned (.int .u64 14695981039346656037) ∧ Grew W w') := Lib.hid fun W g => by have := K.text ⟨#[]⟩ W (K.keep _ _ g hT) (by decide); rwa [show dv (tx (ByteArray.mk #[]).data.toList) = 14695981039346656037 from dv_f0] at this
  have E1 : Hid (∀ W, Grew w W → Calls Tryd.prog 10 #[.string ⟨#[97]⟩] W fun e w' => e = .returned (.int .u64 12638187200555641996) ∧ Grew W w') := Lib.hid fun W g => by have := K.text ⟨#[97]⟩ W (K.keep _ _ g hT) (by decide); rwa [show dv (tx (ByteArray.mk #[97]).data.toList) = 12638187200555641996 from tx_a] at this
  have E2 : Hid (∀ W, Grew w W → Calls Tryd.prog 10 #[.string ⟨#[102, 111, 111, 98, 97, 114]⟩] W fun e w' => e = .returned (.int .u64 9625390261332436968) ∧ Grew W w') := Lib.hid fun W g => by have := K.text ⟨#[102, 111, 111, 98, 97, 114]⟩ W (K.keep _ _ g hT) (by decide); rwa [show dv (tx (ByteArray.mk #[102, 111, 111, 98, 97, 114]).data.toList) = 9625390261332436968 from tx_foobar] at this
  obtain ⟨X, hX⟩ : ∃ X, X = dv (tx [0, 0, 0, 0, 0, 0, 0, 97, 53, 32, 45, 49, 32]) := ⟨_, rfl⟩
  obtain ⟨Y, hY⟩ : ∃ Y, Y = dv (nx f0 [7]) := ⟨_, rfl⟩
  have E3 : Hid (∀ W v, Grew w W → Is W v [5, -1] → Calls Tryd.prog 12 #[.int .u64 97, v] W fun e w' => e = .returned (.int .u64 X) ∧ Grew W w') := Lib.hid fun W v g hs => by have := K.next 97#64 [5, -1] v W (K.keep _ _ g hT) hs (by decide); rwa [show nx 97#64 [5, -1] = tx [0, 0, 0, 0, 0, 0, 0, 97, 53, 32, 45, 49, 32] from by unfold nx; rw [bs_ex], ← hX] at this
  have E4 : Hid (∀ W, Grew w W → Calls Tryd.prog 10 #[.string ⟨#[0, 0, 0, 0, 0, 0, 0, 97, 53, 32, 45, 49, 32]⟩] W fun e w' => e = .returned (.int .u64 X) ∧ Grew W w') := Lib.hid fun W g => by have := K.text ⟨#[0, 0, 0, 0, 0, 0, 0, 97, 53, 32, 45, 49, 32]⟩ W (K.keep _ _ g hT) (by decide); rwa [show dv (tx (ByteArray.mk #[0, 0, 0, 0, 0, 0, 0, 97, 53, 32, 45, 49, 32]).data.toList) = X from hX.symm] at this
  have E5 : Hid (∀ W v, Grew w W → Is W v [7] → Calls Tryd.prog 14 #[v] W fun e w' => e = .returned (.int .u64 Y) ∧ Grew W w') := Lib.hid fun W v g hs => by have := K.sum [7] v W (K.keep _ _ g hT) hs (by decide); rwa [← hY] at this
  have E6 : Hid (∀ W v, Grew w W → Is W v [7] → Calls Tryd.prog 12 #[.int .u64 14695981039346656037, v] W fun e w' => e = .returned (.int .u64 Y) ∧ Grew W w') := Lib.hid fun W v g hs => by have := K.next f0 [7] v W (K.keep _ _ g hT) hs (by decide); rwa [← hY, show dv f0 = 14695981039346656037 from dv_f0] at this
  clear hX hY hT K
  go_enter Tryd.func9, Tryd.ntmps9
  go_wp2_with fail
  refine (E0.out _ (Grew.refl _)).mono ?_
  rintro e w1 ⟨rfl, g1⟩
  go_wp2_with fail
  refine (E1.out _ g1).mono ?_
  rintro e w2 ⟨rfl, g2'⟩
  have g2 := Grew.trans g1 g2'
  clear g1 g2'
  go_wp2_with fail
  refine (E2.out _ g2).mono ?_
  rintro e w3 ⟨rfl, g3'⟩
  have g3 := Grew.trans g2 g3'
  clear g2 g3'
  go_wp2_with fail
  have I3 := is_two w3 5 (-1) (by decide) (by decide)
  refine (E3.out _ _ (g3.alloc _ _) I3).mono ?_
  rintro e w4 ⟨rfl, g4'⟩
  have g4 := Grew.trans (g3.alloc _ _) g4'
  clear g3 g4' I3
  go_wp2_with fail
  refine (E4.out _ g4).mono ?_
  rintro e w5 ⟨rfl, g5'⟩
  have g5 := Grew.trans g4 g5'
  clear g4 g5'
  go_wp2_with fail
  have I5 := is_one w5 7 (by decide)
  refine (E5.out _ _ (g5.alloc _ _) I5).mono ?_
  rintro e w6 ⟨rfl, g6'⟩
  have g6 := Grew.trans (g5.alloc _ _) g6'
  clear g5 g6' I5
  go_wp2_with fail
  have I6 := is_one w6 7 (by decide)
  refine (E6.out _ _ (g6.alloc _ _) I6).mono ?_
  rintro e w7 ⟨rfl, g7'⟩
  have g7 := Grew.trans (g6.alloc _ _) g7'
  clear g6 g7' I6
  go_wp2_with fail
  go_ret
  exact ⟨by simp, g7⟩
end Dg
end Go.Proofs.YtgdcoofbjadgoaaDoor
