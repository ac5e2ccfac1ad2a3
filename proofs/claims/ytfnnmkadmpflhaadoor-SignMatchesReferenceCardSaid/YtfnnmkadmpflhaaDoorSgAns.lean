/-
  What the functions of package sign answer, as plain functions of their arguments. No program.
-/
import Derived.Test.YtfnnmkadmpflhaaDoorSgGroup
import Derived.Test.YtfnnmkadmpflhaaDoorDigPlain
namespace Go.Proofs.YtfnnmkadmpflhaaDoor
namespace Sg

/-- Is it an exponent, a secret, an element? -/
def isE (x : Int) : Bool := decide (0 ≤ x ∧ x < 1073741789)
def isS (x : Int) : Bool := decide (1 ≤ x ∧ x < 1073741789)
def isM (a : Int) : Bool := decide (1 ≤ a ∧ a < 2147483579 ∧ pw a.toNat 1073741789 2147483579 = 1)
/-- Exp, Public. -/
def FX (a x : Int) : Int := if (isM a && isE x) = true then ((pw a.toNat x.toNat 2147483579 : Nat) : Int) else 0
def GX (a x : Int) : Int := if (isM a && isE x) = true then 0 else 1
def FP (x : Int) : Int := if isS x = true then ((pw 4 x.toNat 2147483579 : Nat) : Int) else 0
def GP (x : Int) : Int := if isS x = true then 0 else 1
/-- The challenge of integers. -/
def hc (l : List Int) : Nat := (Dg.nx Dg.f0 l).toNat % 1073741789
/-- Sign. -/
def SE (x o : Int) (l : List Int) : Nat := hc (((pw 4 o.toNat 2147483579 : Nat) : Int) :: ((pw 4 x.toNat 2147483579 : Nat) : Int) :: l)
def FE (x o : Int) (l : List Int) : Int := if (isS x && isS o) = true then (SE x o l : Int) else 0
def FS (x o : Int) (l : List Int) : Int := if (isS x && isS o) = true then (((o.toNat + SE x o l * x.toNat) % 1073741789 : Nat) : Int) else 0
def GS (x o : Int) : Int := if (isS x && isS o) = true then 0 else 1
/-- What Verify gets back of a signature; whether it is right. -/
def bk (a E S : Int) : Nat := pw 4 S.toNat 2147483579 * pw a.toNat ((1073741789 - E.toNat) % 1073741789) 2147483579 % 2147483579
def vr (a E S : Int) (l : List Int) : Bool := decide ((hc ((bk a E S : Int) :: a :: l) : Int) = E)
def ok3 (a E S : Int) : Bool := isM a && isE E && isE S
def FV (a E S : Int) (l : List Int) : Bool := ok3 a E S && vr a E S l
def GV (a E S : Int) : Int := if ok3 a E S = true then 0 else 1

theorem isE_iff {x : Int} : isE x = true ↔ 0 ≤ x ∧ x < 1073741789 := by unfold isE; exact decide_eq_true_iff
theorem isS_iff {x : Int} : isS x = true ↔ 1 ≤ x ∧ x < 1073741789 := by unfold isS; exact decide_eq_true_iff
theorem isM_iff {a : Int} : isM a = true ↔ 1 ≤ a ∧ a < 2147483579 ∧ pw a.toNat 1073741789 2147483579 = 1 := by unfold isM; exact decide_eq_true_iff
theorem isM_out {a : Int} (h : ¬ (1 ≤ a ∧ a < 2147483579)) : isM a = false := by
  rcases hb : isM a with _ | _
  · rfl
  · exact absurd ⟨(isM_iff.1 hb).1, (isM_iff.1 hb).2.1⟩ h
theorem isM_in (n : Nat) (h : 1 ≤ n) (h1 : n < 2147483579) : isM n = decide (((pw n 1073741789 2147483579 : Nat) : Int) = 1) := by
  unfold isM
  rw [Int.toNat_natCast]
  exact decide_eq_decide.2 ⟨fun h => by have := h.2.2; omega, fun h => ⟨by omega, by omega, by omega⟩⟩
theorem hc_lt (l : List Int) : hc l < 1073741789 := Nat.mod_lt _ (by omega)
theorem hc_dv (l : List Int) : Dg.dv (Dg.nx Dg.f0 l) % 1073741789 = (hc l : Int) := by unfold Dg.dv hc; rw [Int.natCast_emod]; rfl
theorem bk_lt (a E S : Int) : bk a E S < 2147483579 := Nat.mod_lt _ (by omega)
end Sg
end Go.Proofs.YtfnnmkadmpflhaaDoor
