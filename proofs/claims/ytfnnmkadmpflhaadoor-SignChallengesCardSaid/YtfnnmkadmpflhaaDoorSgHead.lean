/-
  The helpers of the laws of layer 11: the first integers of a list, a secret, the examples of the chapter.
-/
import Derived.Test.YtfnnmkadmpflhaaDoorSgB
import Derived.Test.YtfnnmkadmpflhaaDoorSgFacts
namespace Go.Proofs.YtfnnmkadmpflhaaDoor
open Go.RowKit Wd
namespace Sg
set_option maxRecDepth 100000

theorem few_c (l : List Int) (v : Value) (w : World) (hs : Is w v l) (hl : l.length ≤ 9223372036854775807) :
    Calls Tryd.prog 10 #[v] w fun e w' => ∃ u, e = .returned u ∧ Is w u (l.take 20) ∧ w = w' := by
  obtain ⟨sa, sc, rfl, hc⟩ := hs.shape
  by_cases h : 20 < l.length
  · have HS : Hid (Is w (.slice sa (min (l.length : Int) 20).toNat sc) (l.take 20)) := Lib.hid (by rw [show (min (l.length : Int) 20).toNat = 20 by omega]; exact hs.sliced (k := 20) (by omega))
    have h1 : (20 : Int) < (l.length : Int) := by omega
    have h2 : (20 : Int) ≤ (sc : Int) := by omega
    clear hs h
    generalize l.length = n at *
    go_enter Tryd.func10, Tryd.ntmps10
    go_wp2_with fail
    go_ret
    exact ⟨_, rfl, HS.out, rfl⟩
  · have HS : Hid (Is w (.slice sa (min (l.length : Int) 20).toNat sc) (l.take 20)) := Lib.hid (by rw [show (min (l.length : Int) 20).toNat = l.length by omega, List.take_of_length_le (by omega)]; exact hs)
    have h1 : (l.length : Int) ≤ 20 := by omega
    have h2 : (l.length : Int) ≤ (sc : Int) := by omega
    clear hs h
    generalize l.length = n at *
    go_enter Tryd.func10, Tryd.ntmps10
    go_wp2_with fail
    go_ret
    exact ⟨_, rfl, HS.out, rfl⟩
theorem secret_c (n : Int) (h0 : 0 ≤ n) (h1 : n ≤ 18446744073709551615) (w : World) :
    Calls Tryd.prog 21 #[.int .u64 n] w fun e w' => e = .returned (.int .i64 (sec n)) ∧ w = w' := by
  have HV : Hid (sec n = 1 + n % 1073741788) := Lib.hid rfl
  go_enter Tryd.func21, Tryd.ntmps21
  go_wp2_with fail
  go_ret
  exact ⟨by rw [HV.out]; rfl, rfl⟩
set_option maxHeartbeats 4000000 in
theorem head_true (w : World) (hT : Dg.T w) : Calls Tryd.prog 9 #[] w fun e w' => e = .returned (.bool true) ∧ Grew w w' := by
  have E1 : Hid (∀ W, Calls Tryd.prog 13 #[.int .i64 4, .int .i64 3] W fun e w' => e = .returned (.tuple #[.int .i64 64, .int .i64 0]) ∧ Grew W w') := Lib.hid (fun W => by have := exp_c 4 3 W; rwa [ex43, GX_eq m4 e3] at this)
  have E2 : Hid (∀ W, Calls Tryd.prog 15 #[.int .i64 5] W fun e w' => e = .returned (.tuple #[.int .i64 1024, .int .i64 0]) ∧ Grew W w') := Lib.hid (fun W => by have := public_c 5 W; rwa [ex5, GP_eq s5] at this)
  obtain ⟨E, hE⟩ : ∃ E, E = FE 5 7 [1, 2] := ⟨_, rfl⟩
  obtain ⟨S, hS⟩ : ∃ S, S = FS 5 7 [1, 2] := ⟨_, rfl⟩
  have E3 : Hid (∀ W u, Grew w W → Is W u [1, 2] → Calls Tryd.prog 17 #[.int .i64 5, .int .i64 7, u] W fun e w' => e = .returned (.tuple #[.agg #[.int .i64 E, .int .i64 S], .int .i64 0]) ∧ Grew W w') := Lib.hid (fun W u g h => by have := sign_c 5 7 [1, 2] u W (hT.grew g) h (by decide); rwa [← hE, ← hS, GS_eq s5 s7] at this)
  have E4 : Hid (∀ W u, Grew w W → Is W u [1, 2] → Calls Tryd.prog 19 #[.int .i64 1024, .agg #[.int .i64 E, .int .i64 S], u] W fun e w' => e = .returned (.tuple #[.bool true, .int .i64 0]) ∧ Grew W w') := Lib.hid (fun W u g h => by
    have := verify_c (FP 5) E S [1, 2] u W (hT.grew g) h (by decide)
    rw [hE, hS, right s5 s7, GV_eq (FP_in s5) (FE_in s5 s7 _) (FS_in s5 s7 _), ex5] at this
    rw [hE, hS]
    exact this)
  have E5 : Hid (∀ W, Calls Tryd.prog 15 #[.int .i64 0] W fun e w' => e = .returned (.tuple #[.int .i64 0, .int .i64 1]) ∧ Grew W w') := Lib.hid (fun W => by have := public_c 0 W; rwa [ex0.1, ex0.2] at this)
  have M4 : Hid (∀ W, Calls Tryd.prog 11 #[.int .i64 4] W fun e w' => e = .returned (.bool true) ∧ Grew W w') := Lib.hid (fun W => by have := member_c 4 W; rwa [m4] at this)
  have M9 : Hid (∀ W, Calls Tryd.prog 11 #[.int .i64 9] W fun e w' => e = .returned (.bool true) ∧ Grew W w') := Lib.hid (fun W => by have := member_c 9 W; rwa [m9] at this)
  have M2 : Hid (∀ W, Calls Tryd.prog 11 #[.int .i64 2] W fun e w' => e = .returned (.bool false) ∧ Grew W w') := Lib.hid (fun W => by have := member_c 2 W; rwa [m2] at this)
  have M0 : Hid (∀ W, Calls Tryd.prog 11 #[.int .i64 0] W fun e w' => e = .returned (.bool false) ∧ Grew W w') := Lib.hid (fun W => by have := member_c 0 W; rwa [m0] at this)
  clear hE hS hT
  go_enter Tryd.func9, Tryd.ntmps9
  go_wp2_with fail
  refine (E1.out _).mono ?_
  rintro e w1 ⟨rfl, g1⟩
  go_wp2_with fail
  refine (E2.out _).mono ?_
  rintro e w2 ⟨rfl, g2'⟩
  have g2 := Grew.trans g1 g2'
  clear g1 g2'
  go_wp2_with fail
  have I3 := is_two (w := w2) (m := 1) (n := 2) (by unfold I64; omega) (by unfold I64; omega)
  refine (E3.out _ _ (g2.alloc _ _) I3).mono ?_
  rintro e w3 ⟨rfl, g3'⟩
  have g3 := Grew.trans (g2.alloc _ _) g3'
  clear g2 g3' I3
  go_wp2_with fail
  have g4 := g3.alloc #[.int .i64 E, .int .i64 S] 23
  have I4 := is_two (w := w3.alloc (.cells #[.int .i64 E, .int .i64 S] 23)) (m := 1) (n := 2) (by unfold I64; omega) (by unfold I64; omega)
  rw [World.size_alloc] at I4
  refine (E4.out _ _ (g4.alloc _ _) I4).mono ?_
  rintro e w5 ⟨rfl, g5'⟩
  have g5 := Grew.trans (g4.alloc _ _) g5'
  clear g3 g4 g5' I4
  go_wp2_with fail
  refine (E5.out _).mono ?_
  rintro e w6 ⟨rfl, g6'⟩
  have g6 := Grew.trans g5 g6'
  clear g5 g6'
  go_wp2_with fail
  refine (M4.out _).mono ?_
  rintro e w7 ⟨rfl, g7'⟩
  have g7 := Grew.trans g6 g7'
  clear g6 g7'
  go_wp2_with fail
  refine (M9.out _).mono ?_
  rintro e w8 ⟨rfl, g8'⟩
  have g8 := Grew.trans g7 g8'
  clear g7 g8'
  go_wp2_with fail
  refine (M2.out _).mono ?_
  rintro e w9 ⟨rfl, g9'⟩
  have g9 := Grew.trans g8 g9'
  clear g8 g9'
  go_wp2_with fail
  refine (M0.out _).mono ?_
  rintro e wa ⟨rfl, ga'⟩
  have ga := Grew.trans g9 ga'
  clear g9 ga'
  go_wp2_with fail
  go_ret
  exact ⟨by simp, ga⟩
end Sg
end Go.Proofs.YtfnnmkadmpflhaaDoor
