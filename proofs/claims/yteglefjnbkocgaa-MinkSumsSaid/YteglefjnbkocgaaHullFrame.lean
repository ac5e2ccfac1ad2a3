/-
  Arguments as the laws of layer 3 have them: points, slices of points; what is only read stays as it was.
-/
import Derived.Test.YteglefjnbkocgaaHullSame
import Derived.ProofKit
import Derived.OpenShut
import Derived.ChangeSame
import Derived.ChangeStays
import Derived.ReadAgain
import Derived.Deep.SlicePairs
import Derived.Deep.Frames
import Derived.Lib.SmallJoins
namespace Go.Proofs.Yteglefjnbkocgaa
namespace Hl
open Go.ChangeShapes Go.WideShapes Go.ChangeAt Go.RowKit Go.Joins Go.Deep

set_option maxRecDepth 100000 in
theorem kids : Kids Try.prog (· < Try.prog.types.size) := kids_rows (by kernel_rfl) (by kernel_rfl)
set_option maxRecDepth 100000 in
theorem full : ∀ t e, t < Try.prog.types.size → Try.prog.underlying t = some (.slice e) → 0 < Try.prog.cellsOf e := slices_full_of Try.prog (by kernel_rfl)

theorem same_of {W W' : World} (g : Grew W W') {x : MemPlace} (h : x.block < W.heap.size) : W.sameAt W' x := Below.same g h
set_option maxRecDepth 100000 in
theorem stays {H : Type} {enc : TypeId × Value → H} {W W' : World} {base : Nat} {sp : Nat → Bool} (g : Grew W W') : ∀ {ts : List TypeId} {vs : List Value} {ds : List (DataW H)} {ps : List MemPlace}, (∀ t ∈ ts, t < Try.prog.types.size) → DataW.TrodAll enc Try.prog W base (fun _ => true) true ts vs ds ps →
    (∀ p ∈ ps, p.block < W.heap.size) → (∀ p ∈ ps, sp p.block = true) → DataW.TrodAll enc Try.prog W' base sp true ts vs ds ps
  | [], vs, ds, ps, _, h, _, _ => by
    obtain ⟨rfl, rfl, rfl⟩ := trodAll_nil h
    exact trodAll_mk0
  | t :: ts, vs, ds, ps, hT, h, hl, hs => by
    match vs, h with
    | v :: vs, h =>
      obtain ⟨v', vs', d, ds', p, q, e, rfl, rfl, h0, h1⟩ := trodAll_cons h
      obtain ⟨rfl, rfl⟩ := List.cons.inj e
      obtain ⟨n, hn⟩ := h0
      refine trodAll_cons_mk ⟨n, DataW.trod_stays kids (fun {t e} => full t e) (fun hh => by cases hh) (hT t List.mem_cons_self) hn (fun x hx => same_of g (hl x (List.mem_append_left _ hx))) (fun x hx => hs x (List.mem_append_left _ hx))⟩ ?_
      exact stays g (fun t ht => hT t (List.mem_cons_of_mem _ ht)) h1 (fun x hx => hl x (List.mem_append_right _ hx)) (fun x hx => hs x (List.mem_append_right _ hx))

set_option maxRecDepth 100000 in
/-- What a law's post asks, where all that was there is as it was. -/
theorem post_grew {H : Type} {enc : TypeId × Value → H} {f : Func} {s : ChangeSpec} {apart fresh handsOn again : Bool} {W W' : World} {args : Array Value} {v : Value} {ds gs : List (DataW H)} {before : List MemPlace}
    (hT : ∀ t ∈ f.params.toList, t < Try.prog.types.size) (hW : DataW.Whole enc Try.prog f.params.toList s.vars apart W args.toList ds gs before) (hA : DataW.TrodAll enc Try.prog W 0 (fun _ => true) true f.params.toList args.toList ds before)
    (hs : s.vars = []) (_hg : gs = []) (hargs : (s.fn H (ds ++ gs)).args = ds) (hvars : (s.fn H (ds ++ gs)).vars = [])
    (hres : ∀ (b : Nat) (sp : Nat → Bool) (hd : Bool), DataW.TrodAll enc Try.prog W' b sp hd f.resultTypes.toList (v.resultList f.resultTypes.size) (s.fn H (ds ++ gs)).results [])
    (g : Grew W W')
    (hok : ∀ (j : Nat) (t : TypeId) (r : Value), f.resultTypes[j]? = some t → (v.resultList f.resultTypes.size)[j]? = some r → Value.okWide Try.prog W' .any 0 t r) :
    s.post enc Try.prog f apart fresh handsOn again W args v W' := by
  have lt : ∀ x ∈ before, x.block < W.heap.size := fun x hx => hW.lt x hx
  have arg : ∀ sp : Nat → Bool, (∀ x ∈ before, sp x.block = true) → DataW.TrodAll enc Try.prog W' 0 sp true f.params.toList args.toList (s.fn H (ds ++ gs)).args before := fun sp hsp => by
    rw [hargs]
    exact stays g hT hA lt hsp
  have var : ∀ sp : Nat → Bool, DataW.TrodVars enc Try.prog W' sp s.vars (s.fn H (ds ++ gs)).vars [] := fun sp => by
    rw [hs, hvars]
    rfl
  refine ⟨ds, gs, before, [], before, [], hW, hres _ _ _, arg _ (fun x hx => by simpa using lt x hx), var _, World.keptBut_mono (fun x hx => ⟨hx, Or.inr (by simpa using hx)⟩) (Below.frame g (· ∈ before)), fun _ => ?_⟩
  obtain ⟨_, _, _, _, _, hz, hn⟩ := hW
  refine ⟨hok, _, _, ([] ++ before) ++ [], ⟨[] ++ before, [], trodAll_append (arg _ (fun _ _ => rfl)) (hres _ _ _), var _, rfl, ?_, ?_⟩, ?_⟩
  · intro b off hx
    have hin : MemPlace.cell b off ∈ before := by simpa using hx
    rw [Below.frozen (p := ⟨b, off, none⟩) g (lt _ hin)]
    exact hz b off hin
  · intro ha
    have := hn ha
    simpa using this
  · intro x hx _
    simpa using hx
set_option maxRecDepth 100000 in
theorem cellsPoint : Try.prog.cellsOf 24 = 2 := by kernel_rfl
set_option maxRecDepth 100000 in
theorem open_point {H : Type} {enc : TypeId × Value → H} {W : World} {base b0 : Nat} {sp : Nat → Bool} {held : Bool} {v : Value} {d : DataW H} {p : List MemPlace} (hval : Value.okWide Try.prog W .any b0 24 v) (h : DataW.Trod enc Try.prog W base sp held 24 v d p) :
    ∃ x : Pt, v = .agg #[.int .i64 x.1, .int .i64 x.2] := by
  obtain ⟨c0, c1, y0, y1, m, rfl, rfl, rfl, hy0, hy1⟩ := open_agg2 Try.underlying24 (by kernel_rfl) cellsPoint hval h
  obtain ⟨a, e0, rfl, wa⟩ := DataW.trod_int Try.underlying3 hy0
  obtain ⟨b, e1, rfl, wb⟩ := DataW.trod_int Try.underlying3 hy1
  simp at e0 e1
  subst e0 e1
  exact ⟨(a, b), rfl⟩
def numI : Value → Int
  | .int _ n => n
  | _ => 0
set_option maxRecDepth 100000 in
theorem open_points {H : Type} {enc : TypeId × Value → H} {W : World} {base b0 : Nat} {sp : Nat → Bool} {held : Bool} {v : Value} {d : DataW H} {p : List MemPlace} (hval : Value.okWide Try.prog W .any b0 22 v) (h : DataW.Trod enc Try.prog W base sp held 22 v d p) :
    ∃ l : List Pt, Sl W v l ∧ l.length ≤ maxLen := by
  obtain ⟨a0, len0, cap0, rfl⟩ := okWide_slice Try.underlying22 hval
  obtain ⟨fuel, hf⟩ := h
  rcases open_slice_pairs Try.underlying22 Try.underlying24 cellsPoint rfl rfl (by kernel_rfl) (by kernel_rfl) hf with ⟨hcs, _⟩ | ⟨a, len, cap, m, n, V0, V1, D0, D1, P0, P1, hcs, hb, hl, hm, hmm, hx, hi⟩
  · simp [Value.cells] at hcs
    obtain ⟨rfl, rfl, rfl⟩ := hcs
    exact ⟨[], Or.inl ⟨rfl, none, 0, rfl⟩, Nat.zero_le _⟩
  · simp [Value.cells] at hcs
    obtain ⟨rfl, rfl, rfl⟩ := hcs
    have hlm : len0 ≤ m := by rw [hmm]; split <;> omega
    by_cases h0 : len0 = 0
    · subst h0
      exact ⟨[], Or.inl ⟨rfl, some a, cap0, rfl⟩, Nat.zero_le _⟩
    · obtain ⟨ab, ao, sp0⟩ := a
      have hspot : sp0 = none := by
        have h1 := (hi 0 (by omega)).1
        rw [Nat.zero_mul] at h1
        unfold Addr.add at h1
        rw [if_pos rfl] at h1
        unfold World.cell? at h1
        cases sp0 with
        | none => rfl
        | some s =>
          exfalso
          revert h1
          simp
          split <;> simp
      subst hspot
      have ad : ∀ k, (⟨ab, ao, none⟩ : Addr).add k = ⟨ab, ao + k, none⟩ := fun k => by
        unfold Addr.add
        split
        · rename_i e; subst e; rfl
        · rfl
      have each : ∀ i, i < len0 → W.cell? ⟨ab, ao + i * 2, none⟩ = some (.int .i64 (numI (V0 i))) ∧ W.cell? ⟨ab, ao + i * 2 + 1, none⟩ = some (.int .i64 (numI (V1 i))) := by
        intro i hlt
        obtain ⟨c0, c1, t0, t1⟩ := hi i (by omega)
        rw [ad] at c0 c1
        obtain ⟨x0, e0, _, _⟩ := DataW.trod_int Try.underlying3 t0
        obtain ⟨x1, e1, _, _⟩ := DataW.trod_int Try.underlying3 t1
        simp at e0 e1
        rw [e0] at c0
        rw [e1] at c1
        rw [e0, e1]
        exact ⟨c0, c1⟩
      refine ⟨(List.range len0).map fun i => (numI (V0 i), numI (V1 i)), Or.inr ⟨ab, ao, cap0, by simp, World.block_lt_of_cell? W _ (each 0 (by omega)).1, fun i hlt => ?_⟩, by simp; omega⟩
      have hlt' : i < len0 := by simpa using hlt
      have e : at' ((List.range len0).map fun i => (numI (V0 i), numI (V1 i))) i = (numI (V0 i), numI (V1 i)) := by
        unfold at'
        simp [hlt']
      rw [e]
      exact each i hlt'
end Hl
end Go.Proofs.Yteglefjnbkocgaa
