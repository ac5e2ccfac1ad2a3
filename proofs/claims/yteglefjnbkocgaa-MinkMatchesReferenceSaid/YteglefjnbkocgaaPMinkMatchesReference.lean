/-
  For every two slices of points, point and integer the law MinkMatchesReference returns true; no condition.
-/
import Derived.Test.YteglefjnbkocgaaRows
import Derived.Test.YteglefjnbkocgaaHullFrame
import Derived.Test.YteglefjnbkocgaaMinkFrame
import Derived.Test.YteglefjnbkocgaaHullCk
import Derived.Test.YteglefjnbkocgaaMinkLanded
import Derived.Test.YteglefjnbkocgaaMinkLawMatch
import Derived.WalkKit
import Derived.ProofKit
import Derived.OpenShut
namespace Go.Proofs.Yteglefjnbkocgaa.minkMatchesReference
open Go.ChangeShapes Go.WideShapes Go.ChangeAt Go.RowKit
set_option linter.unusedVariables false

theorem own : ownKnob Try.prog.godebug = none := by kernel_rfl

set_option maxRecDepth 100000 in
theorem lifted (K : Hl.Code) (F : Mk.Code) (os : Os) (started : os.Started) (H : Type) (enc : TypeId × Value → H) :
    ReturnsInHanded {} Try.checked os 3 .any (Rows.minkMatchesReferenceSpec.pre6 enc Try.prog Try.f3 Rows.minkMatchesReferenceRow.domain false) (Rows.minkMatchesReferenceSpec.post enc Try.prog Try.f3 false true false false) := by
  refine returnsInHanded_of_change (C := Try.checked) own started (by kernel_rfl) Try.func3
    (ChangeSpec.witness6 (enc := enc) (C := Try.checked) false ⟨#[], #[.slice none 0 0, .slice none 0 0, .agg #[.int .i64 0, .int .i64 0], .int .i64 0], []⟩ 8 (by kernel_rfl) (by kernel_rfl) (by kernel_rfl) (by kernel_rfl)) ?_
  intro W base args ds gs before hval0 hW hcnd _
  have hval : ∀ (j : Nat) t v, Try.f3.params[j]? = some t → args[j]? = some v → Value.okWide Try.prog W .any base t v := hval0
  have hW' := hW
  obtain ⟨p, q, hA0, hV, rfl, hfz, hnd⟩ := hW
  have hA : DataW.TrodAll enc Try.prog W 0 (fun _ => true) true Try.f3.params.toList args.toList ds p := hA0
  have hAk := hA
  rw [Try.params3] at hA hval
  obtain ⟨v0, vs0, d0, ds0, p0, q0, hargs, rfl, rfl, h0, r0⟩ := trodAll_cons hA
  obtain ⟨v1, vs1, d1, ds1, p1, q1, rfl, rfl, rfl, h1, r1⟩ := trodAll_cons r0
  obtain ⟨v2, vs2, d2, ds2, p2, q2, rfl, rfl, rfl, h2, r2⟩ := trodAll_cons r1
  obtain ⟨v3, vs3, d3, ds3, p3, q3, rfl, rfl, rfl, h3, r3⟩ := trodAll_cons r2
  obtain ⟨rfl, rfl, rfl⟩ := trodAll_nil r3
  obtain rfl : args = #[v0, v1, v2, v3] := by cases args; simp_all
  obtain ⟨rfl, rfl⟩ := trodVars_none hV
  obtain ⟨l0, s0, m0⟩ := Hl.open_points (hval 0 22 v0 rfl rfl) h0
  obtain ⟨l1, s1, m1⟩ := Hl.open_points (hval 1 22 v1 rfl rfl) h1
  obtain ⟨x2, rfl⟩ := Hl.open_point (hval 2 24 v2 rfl rfl) h2
  obtain ⟨n3, rfl, rfl, rfl, y3⟩ := open_int Try.underlying3 (hval 3 3 v3 rfl rfl) h3
  have z3 := Mk.i64_bd y3
  clear hA0 hval0
  simp only [List.append_nil] at hW' hAk
  refine (Mk.match_true F l0 l1 x2 n3 v0 v1 W s0 s1 (by simpa [maxLen] using m0) (by simpa [maxLen] using m1)).mono fun e W' ⟨he, hg⟩ => ?_
  subst he
  exact ⟨_, rfl, Hl.post_grew (by rw [Try.params3]; decide) hW' hAk rfl rfl rfl rfl (fun _ _ _ => (trodAll_cons_mk (shut_bool Try.underlying4 _) trodAll_mk0)) hg (ok_one (by kernel_rfl) rfl (okWide_bool_mk Try.underlying4 _))⟩

theorem over (K : Hl.Code) (F : Mk.Code) : Rows.minkMatchesReferenceRow.holds Try.pinned (OpenSpec.ofChange Rows.minkMatchesReferenceSpec) :=
  OpenClaim.holds_of_wide 3 Try.f3 rfl rfl rfl rfl rfl rfl rfl ⟨rfl, rfl, rfl, rfl, rfl⟩ rfl rfl rfl rfl rfl (by kernel_rfl) Try.func3 (by kernel_rfl)
    (of_decide_eq_true (by kernel_rfl)) (by unfold Func.isWrapper; first | (rw [if_pos (by decide +kernel)]; kernel_rfl) | (rw [if_neg (by decide +kernel)]; exact ⟨rfl, rfl⟩))
    (fun os started H enc _ => lifted K F os started H enc)

theorem proved : Rows.MinkMatchesReferenceSaid :=
  over Hl.landed Mk.landed
#print axioms proved
end Go.Proofs.Yteglefjnbkocgaa.minkMatchesReference
