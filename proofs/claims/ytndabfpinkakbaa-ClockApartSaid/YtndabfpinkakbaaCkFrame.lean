/-
  A clock as an argument: opened to its four integers; what has no places reads the same in each world.
-/
import Derived.Test.YtndabfpinkakbaaSpanFrame
import Derived.ProofKit
import Derived.OpenShut
import Derived.ChangeSame
import Derived.ChangeStays
import Derived.ReadAgain
import Derived.Deep.Frames
import Derived.Deep.Slices
namespace Go.Proofs.Ytndabfpinkakbaa
namespace Ck
open Go.ChangeShapes Go.WideShapes Go.ChangeAt Go.RowKit Go.Joins Go.Deep

set_option maxRecDepth 100000 in
theorem kids : Kids Try.prog (· < Try.prog.types.size) := kids_rows (by kernel_rfl) (by kernel_rfl)
set_option maxRecDepth 100000 in
theorem full : ∀ t e, t < Try.prog.types.size → Try.prog.underlying t = some (.slice e) → 0 < Try.prog.cellsOf e := slices_full_of Try.prog (by kernel_rfl)
/-- What has no places reads the same in each world. -/
theorem again {H : Type} {enc : TypeId × Value → H} {W W' : World} {base : Nat} {sp : Nat → Bool} {t : TypeId} {v : Value} {d : DataW H} (hT : t < Try.prog.types.size) (h : DataW.Trod enc Try.prog W base (fun _ => true) true t v d []) : DataW.Trod enc Try.prog W' base sp true t v d [] := by
  obtain ⟨n, hn⟩ := h
  exact ⟨n, DataW.trod_stays kids (fun {t e} => full t e) (fun hh => by cases hh) hT hn (fun x hx => absurd hx List.not_mem_nil) (fun x hx => absurd hx List.not_mem_nil)⟩
theorem list2 {α : Type} {l : List α} (h : l.length = 2) : ∃ a b, l = [a, b] := by
  match l, h with
  | [a, b], _ => exact ⟨a, b, rfl⟩
theorem list3 {α : Type} {l : List α} (h : l.length = 3) : ∃ a b c, l = [a, b, c] := by
  match l, h with
  | [a, b, c], _ => exact ⟨a, b, c, rfl⟩
theorem list4 {α : Type} {l : List α} (h : l.length = 4) : ∃ a b c d, l = [a, b, c, d] := by
  match l, h with
  | [a, b, c, d], _ => exact ⟨a, b, c, d, rfl⟩
set_option maxRecDepth 100000 in
theorem cells_span : Try.prog.cellsOf 23 = 2 := by kernel_rfl
set_option maxRecDepth 100000 in
theorem cells_int : Try.prog.cellsOf 3 = 1 := by kernel_rfl
set_option maxRecDepth 100000 in
theorem cells_clock : Try.prog.cellsOf 25 = 4 := by kernel_rfl
/-- Two numbers. -/
theorem open_two {H : Type} {enc : TypeId × Value → H} {W : World} {base n : Nat} {sp : Nat → Bool} {held : Bool} {u v : Value} {x : DataW H × List MemPlace} (h : DataW.trod enc Try.prog W base sp held n 23 [u, v] = some x) : ∃ a b : Int, u = .int .i64 a ∧ v = .int .i64 b ∧ x.2 = [] := by
  obtain ⟨zs, k, _, hx, _, hz, hg⟩ := DataW.trod_struct Try.underlying23 h
  have e0 := hg 0 _ rfl
  have e1 := hg 1 _ rfl
  obtain ⟨z0, z1, rfl⟩ := list2 hz
  simp only [List.getElem?_cons_zero, List.getElem?_cons_succ] at e0 e1
  change DataW.trod enc Try.prog W base sp held k 3 (List.take (Try.prog.cellsOf 3) (List.drop 0 [u, v])) = some z0 at e0
  rw [cells_int] at e0
  change DataW.trod enc Try.prog W base sp held k 3 (List.take (Try.prog.cellsOf 3) (List.drop 1 [u, v])) = some z1 at e1
  rw [cells_int] at e1
  obtain ⟨a0, h0, rfl, _⟩ := DataW.trod_int Try.underlying3 e0
  obtain ⟨a1, h1, rfl, _⟩ := DataW.trod_int Try.underlying3 e1
  exact ⟨a0, a1, (List.cons.inj h0).1, (List.cons.inj h1).1, by rw [hx]; rfl⟩
set_option maxRecDepth 100000 in
/-- A clock as an argument. -/
theorem open_clock {H : Type} {enc : TypeId × Value → H} {W : World} {base b0 : Nat} {sp : Nat → Bool} {held : Bool} {v : Value} {d : DataW H} {p : List MemPlace} (hval : Value.okWide Try.prog W .any b0 25 v) (h : DataW.Trod enc Try.prog W base sp held 25 v d p) :
    ∃ a l h d : Int, v = .agg #[.int .i64 a, .int .i64 l, .int .i64 h, .int .i64 d] ∧ p = [] := by
  obtain ⟨cs, rfl, hsz⟩ := okWide_struct Try.underlying25 hval
  obtain ⟨fuel, hf⟩ := h
  obtain ⟨xs, k, _, hx, hl, hz, hg⟩ := DataW.trod_struct Try.underlying25 hf
  rw [cells_clock] at hl
  obtain ⟨v0, v1, v2, v3, hv⟩ := list4 hl
  obtain ⟨y0, y1, y2, rfl⟩ := list3 hz
  rw [hv] at hg
  have g0 := hg 0 _ rfl
  have g1 := hg 1 _ rfl
  have g2 := hg 2 _ rfl
  simp only [List.getElem?_cons_zero, List.getElem?_cons_succ] at g0 g1 g2
  change DataW.trod enc Try.prog W base sp held k 3 (List.take (Try.prog.cellsOf 3) (List.drop 0 [v0, v1, v2, v3])) = some y0 at g0
  rw [cells_int] at g0
  change DataW.trod enc Try.prog W base sp held k 23 (List.take (Try.prog.cellsOf 23) (List.drop 1 [v0, v1, v2, v3])) = some y1 at g1
  rw [cells_span] at g1
  change DataW.trod enc Try.prog W base sp held k 3 (List.take (Try.prog.cellsOf 3) (List.drop 3 [v0, v1, v2, v3])) = some y2 at g2
  rw [cells_int] at g2
  obtain ⟨a0, h0, rfl, _⟩ := DataW.trod_int Try.underlying3 g0
  obtain ⟨a1, a2, h1, h2, q1⟩ := open_two g1
  obtain ⟨a3, h3, rfl, _⟩ := DataW.trod_int Try.underlying3 g2
  refine ⟨a0, a1, a2, a3, ?_, ?_⟩
  · have e : (Value.agg cs).cells.toList = [.int .i64 a0, .int .i64 a1, .int .i64 a2, .int .i64 a3] := by rw [hv, (List.cons.inj h0).1, h1, h2, (List.cons.inj h3).1]
    have : cs = #[.int .i64 a0, .int .i64 a1, .int .i64 a2, .int .i64 a3] := by
      have e2 : cs.toList = [.int .i64 a0, .int .i64 a1, .int .i64 a2, .int .i64 a3] := by simpa [Value.cells] using e
      cases cs
      simpa using e2
    rw [this]
  · have := congrArg Prod.snd hx
    simpa [q1] using this
theorem u64_bd {z : Int} (h : (Lit.int .u64 z).wf = true) : 0 ≤ z ∧ z ≤ 18446744073709551615 := by
  simpa [Lit.wf, IntKind.min, IntKind.max, IntKind.signed, IntKind.bits] using h
theorem u32_bd {z : Int} (h : (Lit.int .u32 z).wf = true) : 0 ≤ z ∧ z ≤ 4294967295 := by
  simpa [Lit.wf, IntKind.min, IntKind.max, IntKind.signed, IntKind.bits] using h
theorem u16_bd {z : Int} (h : (Lit.int .u16 z).wf = true) : 0 ≤ z ∧ z ≤ 65535 := by
  simpa [Lit.wf, IntKind.min, IntKind.max, IntKind.signed, IntKind.bits] using h
end Ck
end Go.Proofs.Ytndabfpinkakbaa
