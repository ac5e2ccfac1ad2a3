/-
  A slice of bytes as an argument.
-/
import Derived.Test.YthcfbfgfpophmaaHullFrame
import Derived.Test.YthcfbfgfpophmaaHullLawOrder
import Derived.ChangeSlices
namespace Go.Proofs.Ythcfbfgfpophmaa
namespace Hl
open Go.ChangeShapes Go.WideShapes Go.ChangeAt Go.RowKit Go.Joins Go.Deep
theorem u8_of_wf {x : Int} (h : (Lit.int .u8 x).wf = true) : 0 ≤ x ∧ x ≤ 255 := by
  simp [Lit.wf, IntKind.min, IntKind.max, IntKind.signed, IntKind.bits] at h
  exact ⟨by omega, by omega⟩
theorem open_u8s {H : Type} {enc : TypeId × Value → H} {W : World} {base b0 : Nat} {sp : Nat → Bool} {held : Bool} {v : Value} {d : DataW H} {p : List MemPlace} (hval : Value.okWide Try.prog W .any b0 39 v) (h : DataW.Trod enc Try.prog W base sp held 39 v d p) :
    ∃ (A : Option Addr) (bs : List Int) (c : Nat), v = .slice A bs.length c ∧ SbF W A bs := by
  obtain ⟨a0, len0, cap0, rfl⟩ := okWide_slice Try.underlying39 hval
  obtain ⟨fuel, hf⟩ := h
  rcases open_ints Try.underlying39 Try.underlying5 (by kernel_rfl) hf with ⟨hcs, _⟩ | ⟨a, len, cap, zs, hcs, hb, hl, hm, hz, hx, hcell, hwz⟩
  · simp [Value.cells] at hcs
    obtain ⟨rfl, rfl, rfl⟩ := hcs
    exact ⟨none, [], 0, rfl, fun k hk => absurd hk (by simp)⟩
  · simp [Value.cells] at hcs
    obtain ⟨rfl, rfl, rfl⟩ := hcs
    have hlz : len0 ≤ zs.length := by rw [hz]; split <;> omega
    have hlt : (zs.take len0).length = len0 := by simp; omega
    refine ⟨some a, zs.take len0, cap0, by rw [hlt], fun k hk => ?_⟩
    rw [hlt] at hk
    obtain ⟨ab, ao, sp0⟩ := a
    have hspot : sp0 = none := by
      have h1 := hcell 0 (by omega)
      unfold Addr.add at h1
      rw [if_pos rfl] at h1
      unfold World.cell? at h1
      cases sp0 with
      | none => rfl
      | some s =>
        exfalso
        revert h1
        simp
        split <;> simp
    subst hspot
    have ad : ∀ k, (⟨ab, ao, none⟩ : Addr).add k = ⟨ab, ao + k, none⟩ := fun k => by
      unfold Addr.add
      split
      · rename_i e; subst e; rfl
      · rfl
    have hc := hcell k (by omega)
    rw [ad] at hc
    have e : nth (zs.take len0) k = zs.getD k 0 := by
      unfold nth
      simp [List.getD, hk]
    obtain ⟨n0, n1⟩ := u8_of_wf (hwz (zs.getD k 0) (by
      have hk' : k < zs.length := by omega
      simp [List.getD, hk']))
    rw [e]
    exact ⟨ab, ao, rfl, World.block_lt_of_cell? W _ hc, hc, n0, n1⟩
end Hl
end Go.Proofs.Ythcfbfgfpophmaa
