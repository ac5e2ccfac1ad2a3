/-
  What is only read stays as it was; strings, integers and slices of integers as arguments.
-/
import Derived.Test.YtgdcoofbjadgoaaDoorDigRefC
import Derived.ProofKit
import Derived.OpenShut
import Derived.ShutString
import Derived.ChangeSame
import Derived.ChangeStays
import Derived.ReadAgain
import Derived.Deep.SlicePairs
import Derived.Deep.Frames
import Derived.Lib.SmallJoins
namespace Go.Proofs.YtgdcoofbjadgoaaDoor
namespace Dg
open Go.ChangeShapes Go.WideShapes Go.ChangeAt Go.RowKit Go.Joins Go.Deep Wd

set_option maxRecDepth 100000 in
theorem kids : Kids Tryd.prog (· < Tryd.prog.types.size) := kids_rows (by kernel_rfl) (by kernel_rfl)
set_option maxRecDepth 100000 in
theorem full : ∀ t e, t < Tryd.prog.types.size → Tryd.prog.underlying t = some (.slice e) → 0 < Tryd.prog.cellsOf e := slices_full_of Tryd.prog (by kernel_rfl)

theorem same_of {W W' : World} (g : Grew W W') {x : MemPlace} (h : x.block < W.heap.size) : W.sameAt W' x := Below.same g h
set_option maxRecDepth 100000 in
theorem stays {H : Type} {enc : TypeId × Value → H} {W W' : World} {base : Nat} {sp : Nat → Bool} (g : Grew W W') : ∀ {ts : List TypeId} {vs : List Value} {ds : List (DataW H)} {ps : List MemPlace}, (∀ t ∈ ts, t < Tryd.prog.types.size) → DataW.TrodAll enc Tryd.prog W base (fun _ => true) true ts vs ds ps →
    (∀ p ∈ ps, p.block < W.heap.size) → (∀ p ∈ ps, sp p.block = true) → DataW.TrodAll enc Tryd.prog W' base sp true ts vs ds ps
  | [], vs, ds, ps, _, h, _, _ => by
    obtain ⟨rfl, rfl, rfl⟩ := trodAll_nil h
    exact trodAll_mk0
  | t :: ts, vs, ds, ps, hT, h, hl, hs => by
    match vs, h with
    | v :: vs, h =>
      obtain ⟨v', vs', d, ds', p, q, e, rfl, rfl, h0, h1⟩ := trodAll_cons h
      obtain ⟨rfl, rfl⟩ := List.cons.inj e
      obtain ⟨n, hn⟩ := h0
      refine trodAll_cons_mk ⟨n, DataW.trod_stays kids (fun {t e} => full t e) (fun hh => by cases hh) (hT t List.mem_cons_self) hn (fun x hx => same_of g (hl x (List.mem_append_left _ hx))) (fun x hx => hs x (List.mem_append_left _ hx))⟩ ?_
      exact stays g (fun t ht => hT t (List.mem_cons_of_mem _ ht)) h1 (fun x hx => hl x (List.mem_append_right _ hx)) (fun x hx => hs x (List.mem_append_right _ hx))

set_option maxRecDepth 100000 in
/-- What a law's post asks, where all that was there is as it was. -/
theorem post_grew {H : Type} {enc : TypeId × Value → H} {f : Func} {s : ChangeSpec} {apart fresh handsOn again : Bool} {W W' : World} {args : Array Value} {v : Value} {ds gs : List (DataW H)} {before : List MemPlace}
    (hT : ∀ t ∈ f.params.toList, t < Tryd.prog.types.size) (hW : DataW.Whole enc Tryd.prog f.params.toList s.vars apart W args.toList ds gs before) (hA : DataW.TrodAll enc Tryd.prog W 0 (fun _ => true) true f.params.toList args.toList ds before)
    (hs : s.vars = []) (_hg : gs = []) (hargs : (s.fn H (ds ++ gs)).args = ds) (hvars : (s.fn H (ds ++ gs)).vars = [])
    (hres : ∀ (b : Nat) (sp : Nat → Bool) (hd : Bool), DataW.TrodAll enc Tryd.prog W' b sp hd f.resultTypes.toList (v.resultList f.resultTypes.size) (s.fn H (ds ++ gs)).results [])
    (g : Grew W W')
    (hok : ∀ (j : Nat) (t : TypeId) (r : Value), f.resultTypes[j]? = some t → (v.resultList f.resultTypes.size)[j]? = some r → Value.okWide Tryd.prog W' .any 0 t r) :
    s.post enc Tryd.prog f apart fresh handsOn again W args v W' := by
  have lt : ∀ x ∈ before, x.block < W.heap.size := fun x hx => hW.lt x hx
  have arg : ∀ sp : Nat → Bool, (∀ x ∈ before, sp x.block = true) → DataW.TrodAll enc Tryd.prog W' 0 sp true f.params.toList args.toList (s.fn H (ds ++ gs)).args before := fun sp hsp => by
    rw [hargs]
    exact stays g hT hA lt hsp
  have var : ∀ sp : Nat → Bool, DataW.TrodVars enc Tryd.prog W' sp s.vars (s.fn H (ds ++ gs)).vars [] := fun sp => by
    rw [hs, hvars]
    rfl
  refine ⟨ds, gs, before, [], before, [], hW, hres _ _ _, arg _ (fun x hx => by simpa using lt x hx), var _, World.keptBut_mono (fun x hx => ⟨hx, Or.inr (by simpa using hx)⟩) (Below.frame g (· ∈ before)), fun _ => ?_⟩
  obtain ⟨_, _, _, _, _, hz, hn⟩ := hW
  refine ⟨hok, _, _, ([] ++ before) ++ [], ⟨[] ++ before, [], trodAll_append (arg _ (fun _ _ => rfl)) (hres _ _ _), var _, rfl, ?_, ?_⟩, ?_⟩
  · intro b off hx
    have hin : MemPlace.cell b off ∈ before := by simpa using hx
    rw [Below.frozen (p := ⟨b, off, none⟩) g (lt _ hin)]
    exact hz b off hin
  · intro ha
    have := hn ha
    simpa using this
  · intro x hx _
    simpa using hx

theorem i64_bd {z : Int} (h : (Lit.int .i64 z).wf = true) : -9223372036854775808 ≤ z ∧ z ≤ 9223372036854775807 := by
  simpa [Lit.wf, IntKind.min, IntKind.max, IntKind.signed, IntKind.bits] using h
theorem u64_bd {z : Int} (h : (Lit.int .u64 z).wf = true) : 0 ≤ z ∧ z ≤ 18446744073709551615 := by
  simpa [Lit.wf, IntKind.min, IntKind.max, IntKind.signed, IntKind.bits] using h
theorem u16_bd {z : Int} (h : (Lit.int .u16 z).wf = true) : 0 ≤ z ∧ z ≤ 65535 := by
  simpa [Lit.wf, IntKind.min, IntKind.max, IntKind.signed, IntKind.bits] using h
theorem u8_bd {z : Int} (h : (Lit.int .u8 z).wf = true) : 0 ≤ z ∧ z ≤ 255 := by
  simpa [Lit.wf, IntKind.min, IntKind.max, IntKind.signed, IntKind.bits] using h
theorem open_u64 {z : Int} (h : (Lit.int .u64 z).wf = true) : ∃ d, z = dv d := of_dv (u64_bd h).1 (u64_bd h).2
theorem open_u16 {z : Int} (h : (Lit.int .u16 z).wf = true) : ∃ p : Nat, z = (p : Int) ∧ p ≤ 65535 := ⟨z.toNat, by have := u16_bd h; omega, by have := u16_bd h; omega⟩
theorem open_u8n {z : Int} (h : (Lit.int .u8 z).wf = true) : ∃ p : Nat, z = (p : Int) ∧ p ≤ 255 := ⟨z.toNat, by have := u8_bd h; omega, by have := u8_bd h; omega⟩
theorem open_byte {z : Int} (h : (Lit.int .u8 z).wf = true) : ∃ y : UInt8, z = (y.toNat : Int) := ⟨UInt8.ofNat z.toNat, by
  have := u8_bd h
  rw [UInt8.toNat_ofNat']
  omega⟩
set_option maxRecDepth 100000 in
theorem open_is {H : Type} {enc : TypeId × Value → H} {W : World} {base b0 : Nat} {sp : Nat → Bool} {held : Bool} {v : Value} {d : DataW H} {p : List MemPlace} (hval : Value.okWide Tryd.prog W .any b0 23 v) (h : DataW.Trod enc Tryd.prog W base sp held 23 v d p) :
    ∃ l : List Int, Is W v l ∧ l.length ≤ 9223372036854775807 := by
  obtain ⟨a0, len0, cap0, rfl⟩ := okWide_slice Tryd.underlying23 hval
  obtain ⟨fuel, hf⟩ := h
  rcases open_ints Tryd.underlying23 Tryd.underlying3 (by kernel_rfl) hf with ⟨hcs, _⟩ | ⟨x, l, c, zs, hcs, _, hl, hm, hz, _, hcell, hwz⟩
  · simp [Value.cells] at hcs
    obtain ⟨rfl, rfl, rfl⟩ := hcs
    exact ⟨[], ⟨⟨none, 0, rfl, Or.inl rfl⟩, fun i hi => by cases hi⟩, Nat.zero_le _⟩
  · simp [Value.cells] at hcs
    obtain ⟨rfl, rfl, rfl⟩ := hcs
    have hzl : len0 ≤ zs.length := by rw [hz]; split <;> omega
    have tl : (zs.take len0).length = len0 := by rw [List.length_take]; omega
    refine ⟨zs.take len0, ⟨⟨some x, cap0, by rw [tl], ?_⟩, fun i hi => ?_⟩, by rw [tl]; unfold maxLen at hm; omega⟩
    · by_cases h0 : len0 = 0
      · exact Or.inl (by rw [tl]; exact h0)
      · obtain ⟨ab, ao, sp0⟩ := x
        have hspot : sp0 = none := by
          have h1 := hcell 0 (by omega)
          unfold Addr.add at h1
          rw [if_pos rfl] at h1
          unfold World.cell? at h1
          cases sp0 with
          | none => rfl
          | some s =>
            exfalso
            revert h1
            simp
            split <;> simp
        subst hspot
        have ad : ∀ k, (⟨ab, ao, none⟩ : Addr).add k = ⟨ab, ao + k, none⟩ := fun k => by
          unfold Addr.add
          split
          · rename_i e; subst e; rfl
          · rfl
        have each : ∀ i (hi : i < zs.length), W.cell? ⟨ab, ao + i, none⟩ = some (.int .i64 zs[i]) := fun i hi => by
          have := hcell i hi
          rw [ad, List.getD_eq_getElem?_getD, List.getElem?_eq_getElem hi] at this
          exact this
        refine Or.inr ⟨ab, ao, rfl, World.block_lt_of_cell? W _ (each 0 (by omega)), fun i hi => ?_⟩
        rw [tl] at hi
        rw [List.getElem_take]
        exact each i (by omega)
    · rw [List.getElem_take]
      exact i64_bd (hwz _ (List.getElem_mem _))
end Dg
end Go.Proofs.YtgdcoofbjadgoaaDoor
