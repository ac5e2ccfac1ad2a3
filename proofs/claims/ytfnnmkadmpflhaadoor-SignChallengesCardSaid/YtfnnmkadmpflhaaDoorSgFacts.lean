/-
  What the answers of package sign have to do with one another. No program.
-/
import Derived.Test.YtfnnmkadmpflhaaDoorSgAns
namespace Go.Proofs.YtfnnmkadmpflhaaDoor
namespace Sg

theorem pw_nil {x m : Nat} (h : 0 < x) : pw 0 x m = 0 := by unfold pw; rw [Nat.zero_pow h, Nat.zero_mod]
theorem isM_pw {a : Nat} (h : pw a 1073741789 2147483579 = 1) (x : Nat) : isM ((pw a x 2147483579 : Nat) : Int) = true := by
  have k := mem_pow (by omega) h x
  have l := pw_lt a x (show 0 < 2147483579 by omega)
  generalize pw a x 2147483579 = b at *
  refine isM_iff.2 ⟨?_, by omega, by rw [Int.toNat_natCast]; exact k⟩
  rcases Nat.eq_zero_or_pos b with e | e
  · exfalso
    rw [e, pw_nil (by omega)] at k
    omega
  · omega
theorem isE_of {n : Nat} (h : n < 1073741789) : isE (n : Int) = true := isE_iff.2 ⟨by omega, by omega⟩
theorem FP_eq {x : Int} (h : isS x = true) : FP x = ((pw 4 x.toNat 2147483579 : Nat) : Int) := by unfold FP; rw [h]; rfl
theorem GP_eq {x : Int} (h : isS x = true) : GP x = 0 := by unfold GP; rw [h]; rfl
theorem FP_in {x : Int} (h : isS x = true) : isM (FP x) = true := by rw [FP_eq h]; exact isM_pw g_in _
theorem FX_eq {a x : Int} (ha : isM a = true) (hx : isE x = true) : FX a x = ((pw a.toNat x.toNat 2147483579 : Nat) : Int) := by unfold FX; rw [ha, hx]; rfl
theorem GX_eq {a x : Int} (ha : isM a = true) (hx : isE x = true) : GX a x = 0 := by unfold GX; rw [ha, hx]; rfl
theorem FX_in {a x : Int} (ha : isM a = true) (hx : isE x = true) : isM (FX a x) = true := by rw [FX_eq ha hx]; exact isM_pw (isM_iff.1 ha).2.2 _
theorem e0 : isE 0 = true := isE_iff.2 (by omega)
theorem e3 : isE 3 = true := isE_iff.2 (by omega)
theorem FX_zero {a : Int} (ha : isM a = true) : FX a 0 = 1 := by rw [FX_eq ha e0, show (0 : Int).toNat = 0 from rfl, pw_zero _ (by omega)]; rfl
/-- P11.2. -/
theorem FX_FX {a : Int} {x y : Nat} (ha : isM a = true) (hx : x < 1073741789) (hy : y < 1073741789) : FX (FX a x) y = FX a ((x * y % 1073741789 : Nat) : Int) := by
  have k := isM_iff.1 ha
  rw [FX_eq (FX_in ha (isE_of hx)) (isE_of hy), FX_eq ha (isE_of hx), FX_eq ha (isE_of (Nat.mod_lt _ (by omega)))]
  rw [Int.toNat_natCast, Int.toNat_natCast, Int.toNat_natCast, Int.toNat_natCast, exp_exp (by omega) k.2.2]
theorem FE_eq {x o : Int} (hx : isS x = true) (ho : isS o = true) (l : List Int) : FE x o l = (SE x o l : Int) := by unfold FE; rw [hx, ho]; rfl
theorem FS_eq {x o : Int} (hx : isS x = true) (ho : isS o = true) (l : List Int) : FS x o l = (((o.toNat + SE x o l * x.toNat) % 1073741789 : Nat) : Int) := by unfold FS; rw [hx, ho]; rfl
theorem GS_eq {x o : Int} (hx : isS x = true) (ho : isS o = true) : GS x o = 0 := by unfold GS; rw [hx, ho]; rfl
theorem FE_in {x o : Int} (hx : isS x = true) (ho : isS o = true) (l : List Int) : isE (FE x o l) = true := by rw [FE_eq hx ho]; exact isE_of (hc_lt _)
theorem FS_in {x o : Int} (hx : isS x = true) (ho : isS o = true) (l : List Int) : isE (FS x o l) = true := by rw [FS_eq hx ho]; exact isE_of (Nat.mod_lt _ (by omega))
theorem GV_eq {a E S : Int} (ha : isM a = true) (hE : isE E = true) (hS : isE S = true) : GV a E S = 0 := by unfold GV ok3; rw [ha, hE, hS]; rfl
theorem FV_eq {a E S : Int} (ha : isM a = true) (hE : isE E = true) (hS : isE S = true) (l : List Int) : FV a E S l = vr a E S l := by unfold FV ok3; rw [ha, hE, hS]; rfl
/-- P11.3. -/
theorem right {x o : Int} (hx : isS x = true) (ho : isS o = true) (l : List Int) : FV (FP x) (FE x o l) (FS x o l) l = true := by
  rw [FV_eq (FP_in hx) (FE_in hx ho l) (FS_in hx ho l)]
  have b : bk (FP x) (FE x o l) (FS x o l) = pw 4 o.toNat 2147483579 := by
    unfold bk
    rw [FP_eq hx, FE_eq hx ho, FS_eq hx ho, Int.toNat_natCast, Int.toNat_natCast, Int.toNat_natCast]
    exact back (by omega) g_in _ _ _ (hc_lt _)
  unfold vr
  rw [b, FE_eq hx ho, FP_eq hx]
  exact decide_eq_true rfl
/-- P11.6. -/
theorem FP_inj {x y : Int} (hx : isS x = true) (hy : isS y = true) : FP x = FP y ↔ x = y := by
  have kx := isS_iff.1 hx
  have ky := isS_iff.1 hy
  rw [FP_eq hx, FP_eq hy]
  have d := differ (g := 4) (q := 1073741789) (p := 2147483579) (x := x.toNat) (y := y.toNat) (by omega) q_pr (by omega) g_in g_one (by omega) (by omega)
  generalize pw 4 x.toNat 2147483579 = a at *
  generalize pw 4 y.toNat 2147483579 = b at *
  refine ⟨fun h => ?_, fun h => ?_⟩
  · have := d.1 (by omega)
    omega
  · rw [d.2 (by rw [h])]
/-- The secret that the law makes of a number. -/
def sec (n : Int) : Int := 1 + n % 1073741788
theorem sec_in (n : Int) : isS (sec n) = true := isS_iff.2 (by unfold sec; omega)
theorem ex5 : FP 5 = 1024 := by rw [FP_eq (isS_iff.2 (by omega)), show (5 : Int).toNat = 5 from rfl, g_five]; rfl
theorem m4 : isM 4 = true := isM_iff.2 ⟨by omega, by omega, g_in⟩
theorem m9 : isM 9 = true := isM_iff.2 ⟨by omega, by omega, nine_in⟩
theorem m2 : isM 2 = false := by
  rcases h : isM 2 with _ | _
  · rfl
  · exact absurd (isM_iff.1 h).2.2 two_out
theorem m0 : isM 0 = false := isM_out (by omega)
theorem ex43 : FX 4 3 = 64 := by rw [FX_eq m4 e3, show (4 : Int).toNat = 4 from rfl, show (3 : Int).toNat = 3 from rfl, g_three]; rfl
theorem s5 : isS 5 = true := isS_iff.2 (by omega)
theorem s7 : isS 7 = true := isS_iff.2 (by omega)
theorem s0 : isS 0 = false := by
  rcases h : isS 0 with _ | _
  · rfl
  · have := isS_iff.1 h; omega
theorem ex0 : FP 0 = 0 ∧ GP 0 = 1 := by unfold FP GP; rw [s0]; exact ⟨rfl, rfl⟩
end Sg
end Go.Proofs.YtfnnmkadmpflhaaDoor
