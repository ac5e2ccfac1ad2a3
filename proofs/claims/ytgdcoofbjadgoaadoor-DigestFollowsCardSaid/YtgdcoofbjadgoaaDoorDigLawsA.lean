/-
  The laws of layer 5, under what package digest owes.
-/
import Derived.Test.YtgdcoofbjadgoaaDoorDigCon
namespace Go.Proofs.YtgdcoofbjadgoaaDoor
open Go.RowKit Wd
namespace Dg
set_option maxRecDepth 100000

set_option maxHeartbeats 8000000 in
theorem matches_true {T : World → Prop} (K : Code T) (s : ByteArray) (d : BitVec 64) (l : List Int) (v : Value) (w : World) (hT : T w) (hz : s.size ≤ 9223372036854775807) (hs : Is w v l) (hl : l.length ≤ 9223372036854775807) : Calls Tryd.prog 3 #[.string s, .int .u64 (dv d), v] w fun e w' => e = .returned (.bool true) ∧ Grew w w' := by
  have HD := Lib.hid (head_true K w hT)
  obtain ⟨a, c, rfl⟩ := hs.shape
  have HS := Lib.hid hs
  have KK := Lib.hid (fun W (g : Grew w W) => K.keep _ _ g hT)
  have KC := Lib.hid K
  clear hs K hT
  by_cases h1 : s.size ≤ 500
  · by_cases h2 : l.length ≤ 100
    · have TX : Hid (∀ W, Grew w W → Calls Tryd.prog 10 #[.string s] W fun e w' => e = .returned (.int .u64 (dv (tx s.data.toList))) ∧ Grew W w') := Lib.hid fun W g => KC.out.text s W (KK.out W g) (by omega)
      have RX : Hid (∀ W, Calls Tryd.prog 11 #[.string s] W fun e w' => e = .returned (.int .u64 (dv (tx s.data.toList))) ∧ Grew W w') := Lib.hid fun W => rtext s W (by omega)
      have NX : Hid (∀ W, Grew w W → Calls Tryd.prog 12 #[.int .u64 (dv d), .slice a l.length c] W fun e w' => e = .returned (.int .u64 (dv (nx d l))) ∧ Grew W w') := Lib.hid fun W g => KC.out.next d l _ W (KK.out W g) (HS.out.grew g) (by omega)
      have RN : Hid (∀ W, Grew w W → Calls Tryd.prog 13 #[.int .u64 (dv d), .slice a l.length c] W fun e w' => e = .returned (.int .u64 (dv (nx d l))) ∧ Grew W w') := Lib.hid fun W g => rnext d l _ W (HS.out.grew g) (by omega)
      have SX : Hid (∀ W, Grew w W → Calls Tryd.prog 14 #[.slice a l.length c] W fun e w' => e = .returned (.int .u64 (dv (nx f0 l))) ∧ Grew W w') := Lib.hid fun W g => KC.out.sum l _ W (KK.out W g) (HS.out.grew g) (by omega)
      have RS : Hid (∀ W, Grew w W → Calls Tryd.prog 15 #[.slice a l.length c] W fun e w' => e = .returned (.int .u64 (dv (nx f0 l))) ∧ Grew W w') := Lib.hid fun W g => rsum l _ W (HS.out.grew g) (by omega)
      clear KK KC
      go_enter Tryd.func3, Tryd.ntmps3
      go_wp2_with fail
      refine (HD.out).mono ?_
      rintro e w1 ⟨rfl, g1'⟩
      have g1 : Grew w w1 := Grew.trans (Grew.refl _) g1'
      clear g1'
      go_wp2_with fail
      refine (TX.out _ g1).mono ?_
      rintro e w2 ⟨rfl, g2'⟩
      have g2 : Grew w w2 := Grew.trans g1 g2'
      clear g2' g1
      go_wp2_with fail
      refine (RX.out _).mono ?_
      rintro e w3 ⟨rfl, g3'⟩
      have g3 : Grew w w3 := Grew.trans g2 g3'
      clear g3' g2
      go_wp2_with fail
      refine (NX.out _ g3).mono ?_
      rintro e w4 ⟨rfl, g4'⟩
      have g4 : Grew w w4 := Grew.trans g3 g4'
      clear g4' g3
      go_wp2_with fail
      refine (RN.out _ g4).mono ?_
      rintro e w5 ⟨rfl, g5'⟩
      have g5 : Grew w w5 := Grew.trans g4 g5'
      clear g5' g4
      go_wp2_with fail
      refine (SX.out _ g5).mono ?_
      rintro e w6 ⟨rfl, g6'⟩
      have g6 : Grew w w6 := Grew.trans g5 g6'
      clear g6' g5
      go_wp2_with fail
      refine (RS.out _ g6).mono ?_
      rintro e w7 ⟨rfl, g7'⟩
      have g7 : Grew w w7 := Grew.trans g6 g7'
      clear g7' g6
      go_wp2_with fail
      go_ret
      exact ⟨by simp, g7⟩
    · have h3 : (100 : Int) < (l.length : Int) := by omega
      clear KK KC
      go_enter Tryd.func3, Tryd.ntmps3
      go_wp2_with fail
      refine (HD.out).mono ?_
      rintro e w1 ⟨rfl, g1'⟩
      have g1 : Grew w w1 := Grew.trans (Grew.refl _) g1'
      clear g1'
      go_wp2_with fail
      go_ret
      exact ⟨by simp, g1⟩
  · have h3 : (500 : Int) < (s.size : Int) := by omega
    clear KK KC
    go_enter Tryd.func3, Tryd.ntmps3
    go_wp2_with fail
    refine (HD.out).mono ?_
    rintro e w1 ⟨rfl, g1'⟩
    have g1 : Grew w w1 := Grew.trans (Grew.refl _) g1'
    clear g1'
    go_wp2_with fail
    go_ret
    exact ⟨by simp, g1⟩
theorem dv_eq {x y : BitVec 64} : (dv x == dv y) = decide (x = y) := by
  by_cases h : x = y
  · subst h; simp
  · rw [decide_eq_false h, beq_eq_false_iff_ne]
    exact fun e => h (dv_inj e)
theorem dv_beq {x y u v : BitVec 64} (h : x = y ↔ u = v) : (dv x == dv y) = (dv u == dv v) := by rw [dv_eq, dv_eq]; exact decide_eq_decide.2 h
set_option maxHeartbeats 8000000 in
theorem follows_true {T : World → Prop} (K : Code T) (a b m : ByteArray) (w : World) (hT : T w) (ha : a.size ≤ 9223372036854775807) (hb : b.size ≤ 9223372036854775807) (hm : m.size ≤ 9223372036854775807) : Calls Tryd.prog 5 #[.string a, .string b, .string m] w fun e w' => e = .returned (.bool true) ∧ Grew w w' := by
  have HD := Lib.hid (head_true K w hT)
  have KK := Lib.hid (fun W (g : Grew w W) => K.keep _ _ g hT)
  have KC := Lib.hid K
  clear K hT
  by_cases h1 : a.size ≤ 200
  · by_cases h2 : b.size ≤ 200
    · by_cases h3 : m.size ≤ 200
      · have TX : Hid (∀ (s : ByteArray) W, s.size ≤ 400 → Grew w W → Calls Tryd.prog 10 #[.string s] W fun e w' => e = .returned (.int .u64 (dv (tx s.data.toList))) ∧ Grew W w') := Lib.hid fun s W hs g => KC.out.text s W (KK.out W g) (by omega)
        have IF : Hid ((dv (tx a.data.toList) == dv (tx b.data.toList)) = (dv (tx (a.data.toList ++ m.data.toList)) == dv (tx (b.data.toList ++ m.data.toList)))) := Lib.hid (dv_beq (by unfold tx; rw [fl_append, fl_append, fl_iff]))
        have Z1 := Lib.hid (show (a ++ m).size ≤ 400 by rw [ByteArray.size_append]; omega)
        have Z2 := Lib.hid (show (b ++ m).size ≤ 400 by rw [ByteArray.size_append]; omega)
        have y1 : a.size + m.size ≤ 9223372036854775807 := by omega
        have y2 : b.size + m.size ≤ 9223372036854775807 := by omega
        clear KK KC
        go_enter Tryd.func5, Tryd.ntmps5
        go_wp2_with fail
        refine (HD.out).mono ?_
        rintro e w1 ⟨rfl, g1'⟩
        have g1 : Grew w w1 := Grew.trans (Grew.refl _) g1'
        clear g1'
        go_wp2_with fail
        refine (TX.out _ _ (by omega) g1).mono ?_
        rintro e w2 ⟨rfl, g2'⟩
        have g2 : Grew w w2 := Grew.trans g1 g2'
        clear g2' g1
        go_wp2_with fail
        refine (TX.out _ _ (by omega) g2).mono ?_
        rintro e w3 ⟨rfl, g3'⟩
        have g3 : Grew w w3 := Grew.trans g2 g3'
        clear g3' g2
        go_wp2_with fail
        refine (TX.out _ _ Z1.out g3).mono ?_
        rintro e w4 ⟨rfl, g4'⟩
        have g4 : Grew w w4 := Grew.trans g3 g4'
        clear g4' g3
        go_wp2_with fail
        refine (TX.out _ _ Z2.out g4).mono ?_
        rintro e w5 ⟨rfl, g5'⟩
        have g5 : Grew w w5 := Grew.trans g4 g5'
        clear g5' g4
        go_wp2_with fail
        go_ret
        exact ⟨by (simp; exact IF.out), g5⟩
      · have h4 : (200 : Int) < (m.size : Int) := by omega
        clear KK KC
        go_enter Tryd.func5, Tryd.ntmps5
        go_wp2_with fail
        refine (HD.out).mono ?_
        rintro e w1 ⟨rfl, g1'⟩
        have g1 : Grew w w1 := Grew.trans (Grew.refl _) g1'
        clear g1'
        go_wp2_with fail
        go_ret
        exact ⟨by simp, g1⟩
    · have h4 : (200 : Int) < (b.size : Int) := by omega
      clear KK KC
      go_enter Tryd.func5, Tryd.ntmps5
      go_wp2_with fail
      refine (HD.out).mono ?_
      rintro e w1 ⟨rfl, g1'⟩
      have g1 : Grew w w1 := Grew.trans (Grew.refl _) g1'
      clear g1'
      go_wp2_with fail
      go_ret
      exact ⟨by simp, g1⟩
  · have h4 : (200 : Int) < (a.size : Int) := by omega
    clear KK KC
    go_enter Tryd.func5, Tryd.ntmps5
    go_wp2_with fail
    refine (HD.out).mono ?_
    rintro e w1 ⟨rfl, g1'⟩
    have g1 : Grew w w1 := Grew.trans (Grew.refl _) g1'
    clear g1'
    go_wp2_with fail
    go_ret
    exact ⟨by simp, g1⟩
end Dg
end Go.Proofs.YtgdcoofbjadgoaaDoor
