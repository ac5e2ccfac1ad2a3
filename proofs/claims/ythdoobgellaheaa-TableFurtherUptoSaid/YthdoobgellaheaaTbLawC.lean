/-
  The law TableFurther.
-/
import Derived.Test.YthdoobgellaheaaTbHead
namespace Go.Proofs.Ythdoobgellaheaa
open Go.RowKit Wd
namespace Tb
set_option maxRecDepth 100000
set_option maxHeartbeats 4000000 in
theorem further_true (k l : List Rw) (t a s : Int) (u v : Value) (w : World) (hk : Rs w u k) (hs : Rs w v l) (n1 : k.length ≤ 1048576) (n2 : l.length ≤ 1048576) :
    Calls Try.prog 5 #[u, v, .int .i64 t, .int .i64 a, .int .i64 s] w fun e w' => e = .returned (.bool true) ∧ Grew w w' := by
  have HD := Lib.hid head_true
  have HK := Lib.hid hk
  have HS := Lib.hid hs
  have N1 := Lib.hid n1
  have N2 := Lib.hid n2
  clear hk hs n1 n2
  go_enter Try.func5, Try.ntmps5
  go_wp2_with fail
  refine (HD.out _).mono ?_
  rintro e0 w0 ⟨rfl, g0⟩
  clear HD
  have K0 := Lib.hid (HK.out.grew (g0.alloc #[] 32))
  have OE := Lib.hid (Ow.made w0 (Nat.le_refl _))
  go_wp2_with (at_builtin; first
    | (refine wpl_rows _ rfl _ _ rfl w0.heap.size _ _ k l rfl OW4.out rfl (HS.out.grew G4) (by have := N1.out; have := N2.out; omega) (by have := G40.size; omega) ?_; intro v5 w5 own5 gr5; have OW5 := Lib.hid own5; have G5 : Grew w w5 := OW4.out.app_grew gr5 g0.size G4; clear own5 gr5)
    | (refine wpl_rows _ rfl _ _ rfl w0.heap.size _ _ [] k rfl OE.out rfl K0.out (by have := N1.out; rw [List.length_nil]; omega) (by rw [World.size_alloc]; omega) ?_; intro v4 w4 own4 gr4; have OW4 := Lib.hid own4; have G40 : Grew w0 w4 := OE.out.app_grew gr4 (Nat.le_refl _) ((Grew.refl w0).alloc _ _); have G4 : Grew w w4 := g0.trans G40; clear own4 gr4))
  have AL := Lib.hid OW5.out.rs
  have K5 := Lib.hid (HK.out.grew G5)
  have S5 := Lib.hid (HS.out.grew G5)
  clear OW4 G40 G4 OW5 K0 OE g0 HK HS N1 N2
  have U := usable_c (k ++ l) t a s v5 w5 AL.out
  by_cases hb : Tbl (k ++ l) ∧ Us t a s
  · have TK := hb.1.app.1
    have TL := hb.1.app.2
    rw [decide_eq_true hb] at U
    have UC := Lib.hid U
    clear U
    cases hf : fd t a s k with
    | some r =>
      have F1 : ∀ W, Grew w5 W → _ := fun W g => find_ok k t a s u W (K5.out.grew g) TK hb.2
      rw [An_some TK hb.2 hf] at F1
      have FC := Lib.hid F1
      have SC : Hid (∀ W, Grew w5 W → _) := Lib.hid (fun W g => same_c k (k ++ l) t a s u v5 W (K5.out.grew g) (AL.out.grew g) TK hb.1 hb.2 (sy_of (further_one hf).symm))
      clear F1 hb TK TL hf K5 S5 AL
      refine UC.out.mono ?_
      rintro e1 w6 ⟨rfl, g6⟩
      clear UC
      go_wp2_with fail
      refine (FC.out _ g6).mono ?_
      rintro e2 w7 ⟨rfl, g7'⟩
      have g7 := g6.trans g7'
      clear g7' g6 FC
      go_wp2_with fail
      refine (SC.out _ g7).mono ?_
      rintro e3 w8 ⟨rfl, g8'⟩
      have g8 := (G5.trans g7).trans g8'
      clear g8' g7 SC
      go_wp2_with fail
      go_ret
      exact ⟨rfl, g8⟩
    | none =>
      have F1 : ∀ W, Grew w5 W → _ := fun W g => find_ok k t a s u W (K5.out.grew g) TK hb.2
      rw [An_none TK hb.2 hf] at F1
      have FC := Lib.hid F1
      have SC : Hid (∀ W, Grew w5 W → _) := Lib.hid (fun W g => same_c l (k ++ l) t a s v v5 W (S5.out.grew g) (AL.out.grew g) TL hb.1 hb.2 (sy_of (further_two hf).symm))
      clear F1 hb TK TL hf K5 S5 AL
      refine UC.out.mono ?_
      rintro e1 w6 ⟨rfl, g6⟩
      clear UC
      go_wp2_with fail
      refine (FC.out _ g6).mono ?_
      rintro e2 w7 ⟨rfl, g7'⟩
      have g7 := g6.trans g7'
      clear g7' g6 FC
      go_wp2_with fail
      refine (SC.out _ g7).mono ?_
      rintro e3 w8 ⟨rfl, g8'⟩
      have g8 := (G5.trans g7).trans g8'
      clear g8' g7 SC
      go_wp2_with fail
      go_ret
      exact ⟨rfl, g8⟩
  · rw [decide_eq_false hb] at U
    have UC := Lib.hid U
    clear U hb K5 S5 AL
    refine UC.out.mono ?_
    rintro e1 w6 ⟨rfl, g6'⟩
    have g6 := G5.trans g6'
    clear UC g6'
    go_wp2_with fail
    go_ret
    exact ⟨rfl, g6⟩
end Tb
end Go.Proofs.Ythdoobgellaheaa
