/-
  What is only read stays as it was; slices of rows and small numbers as arguments; what the bound of the narrow form gives.
-/
import Derived.Test.YthdoobgellaheaaTbSl
import Derived.ProofKit
import Derived.OpenShut
import Derived.ChangeSame
import Derived.ChangeStays
import Derived.ReadAgain
import Derived.Deep.Slices
import Derived.Deep.Frames
import Derived.Lib.SmallJoins
namespace Go.Proofs.Ythdoobgellaheaa
namespace Tb
open Go.ChangeShapes Go.WideShapes Go.ChangeAt Go.RowKit Go.Joins Go.Deep Wd

set_option maxRecDepth 100000 in
theorem kids : Kids Try.prog (· < Try.prog.types.size) := kids_rows (by kernel_rfl) (by kernel_rfl)
set_option maxRecDepth 100000 in
theorem full : ∀ t e, t < Try.prog.types.size → Try.prog.underlying t = some (.slice e) → 0 < Try.prog.cellsOf e := slices_full_of Try.prog (by kernel_rfl)

theorem same_of {W W' : World} (g : Grew W W') {x : MemPlace} (h : x.block < W.heap.size) : W.sameAt W' x := Below.same g h
set_option maxRecDepth 100000 in
theorem stays {H : Type} {enc : TypeId × Value → H} {W W' : World} {base : Nat} {sp : Nat → Bool} (g : Grew W W') : ∀ {ts : List TypeId} {vs : List Value} {ds : List (DataW H)} {ps : List MemPlace}, (∀ t ∈ ts, t < Try.prog.types.size) → DataW.TrodAll enc Try.prog W base (fun _ => true) true ts vs ds ps →
    (∀ p ∈ ps, p.block < W.heap.size) → (∀ p ∈ ps, sp p.block = true) → DataW.TrodAll enc Try.prog W' base sp true ts vs ds ps
  | [], vs, ds, ps, _, h, _, _ => by
    obtain ⟨rfl, rfl, rfl⟩ := trodAll_nil h
    exact trodAll_mk0
  | t :: ts, vs, ds, ps, hT, h, hl, hs => by
    match vs, h with
    | v :: vs, h =>
      obtain ⟨v', vs', d, ds', p, q, e, rfl, rfl, h0, h1⟩ := trodAll_cons h
      obtain ⟨rfl, rfl⟩ := List.cons.inj e
      obtain ⟨n, hn⟩ := h0
      refine trodAll_cons_mk ⟨n, DataW.trod_stays kids (fun {t e} => full t e) (fun hh => by cases hh) (hT t List.mem_cons_self) hn (fun x hx => same_of g (hl x (List.mem_append_left _ hx))) (fun x hx => hs x (List.mem_append_left _ hx))⟩ ?_
      exact stays g (fun t ht => hT t (List.mem_cons_of_mem _ ht)) h1 (fun x hx => hl x (List.mem_append_right _ hx)) (fun x hx => hs x (List.mem_append_right _ hx))

set_option maxRecDepth 100000 in
/-- What a law's post asks, where all that was there is as it was. -/
theorem post_grew {H : Type} {enc : TypeId × Value → H} {f : Func} {s : ChangeSpec} {apart fresh handsOn again : Bool} {W W' : World} {args : Array Value} {v : Value} {ds gs : List (DataW H)} {before : List MemPlace}
    (hT : ∀ t ∈ f.params.toList, t < Try.prog.types.size) (hW : DataW.Whole enc Try.prog f.params.toList s.vars apart W args.toList ds gs before) (hA : DataW.TrodAll enc Try.prog W 0 (fun _ => true) true f.params.toList args.toList ds before)
    (hs : s.vars = []) (_hg : gs = []) (hargs : (s.fn H (ds ++ gs)).args = ds) (hvars : (s.fn H (ds ++ gs)).vars = [])
    (hres : ∀ (b : Nat) (sp : Nat → Bool) (hd : Bool), DataW.TrodAll enc Try.prog W' b sp hd f.resultTypes.toList (v.resultList f.resultTypes.size) (s.fn H (ds ++ gs)).results [])
    (g : Grew W W')
    (hok : ∀ (j : Nat) (t : TypeId) (r : Value), f.resultTypes[j]? = some t → (v.resultList f.resultTypes.size)[j]? = some r → Value.okWide Try.prog W' .any 0 t r) :
    s.post enc Try.prog f apart fresh handsOn again W args v W' := by
  have lt : ∀ x ∈ before, x.block < W.heap.size := fun x hx => hW.lt x hx
  have arg : ∀ sp : Nat → Bool, (∀ x ∈ before, sp x.block = true) → DataW.TrodAll enc Try.prog W' 0 sp true f.params.toList args.toList (s.fn H (ds ++ gs)).args before := fun sp hsp => by
    rw [hargs]
    exact stays g hT hA lt hsp
  have var : ∀ sp : Nat → Bool, DataW.TrodVars enc Try.prog W' sp s.vars (s.fn H (ds ++ gs)).vars [] := fun sp => by
    rw [hs, hvars]
    rfl
  refine ⟨ds, gs, before, [], before, [], hW, hres _ _ _, arg _ (fun x hx => by simpa using lt x hx), var _, World.keptBut_mono (fun x hx => ⟨hx, Or.inr (by simpa using hx)⟩) (Below.frame g (· ∈ before)), fun _ => ?_⟩
  obtain ⟨_, _, _, _, _, hz, hn⟩ := hW
  refine ⟨hok, _, _, ([] ++ before) ++ [], ⟨[] ++ before, [], trodAll_append (arg _ (fun _ _ => rfl)) (hres _ _ _), var _, rfl, ?_, ?_⟩, ?_⟩
  · intro b off hx
    have hin : MemPlace.cell b off ∈ before := by simpa using hx
    rw [Below.frozen (p := ⟨b, off, none⟩) g (lt _ hin)]
    exact hz b off hin
  · intro ha
    have := hn ha
    simpa using this
  · intro x hx _
    simpa using hx

theorem i64_bd {z : Int} (h : (Lit.int .i64 z).wf = true) : -9223372036854775808 ≤ z ∧ z ≤ 9223372036854775807 := by
  simpa [Lit.wf, IntKind.min, IntKind.max, IntKind.signed, IntKind.bits] using h
theorem u8_bd {z : Int} (h : (Lit.int .u8 z).wf = true) : 0 ≤ z ∧ z ≤ 255 := by
  simpa [Lit.wf, IntKind.min, IntKind.max, IntKind.signed, IntKind.bits] using h
theorem u16_bd {z : Int} (h : (Lit.int .u16 z).wf = true) : 0 ≤ z ∧ z ≤ 65535 := by
  simpa [Lit.wf, IntKind.min, IntKind.max, IntKind.signed, IntKind.bits] using h
theorem flat {W : World} {a : Addr} {u : Value} (h : W.cell? (a.add 0) = some u) : ∃ b o, a = ⟨b, o, none⟩ := by
  obtain ⟨ab, ao, sp0⟩ := a
  cases sp0 with
  | none => exact ⟨ab, ao, rfl⟩
  | some s =>
    exfalso
    unfold Addr.add at h
    rw [if_pos rfl] at h
    unfold World.cell? at h
    revert h
    simp
    split <;> simp
instance : Inhabited Rw := ⟨⟨0, 0, 0, 0, 0, 0⟩⟩
theorem list5 {α : Type} {l : List α} (h : l.length = 5) : ∃ a b c d e, l = [a, b, c, d, e] := by
  match l, h with
  | [a, b, c, d, e], _ => exact ⟨a, b, c, d, e, rfl⟩
theorem list6 {α : Type} {l : List α} (h : l.length = 6) : ∃ a b c d e f, l = [a, b, c, d, e, f] := by
  match l, h with
  | [a, b, c, d, e, f], _ => exact ⟨a, b, c, d, e, f, rfl⟩
set_option maxRecDepth 100000 in
theorem cells_row : Try.prog.cellsOf 32 = 6 := by kernel_rfl
set_option maxRecDepth 100000 in
theorem cells_span : Try.prog.cellsOf 30 = 2 := by kernel_rfl
set_option maxRecDepth 100000 in
theorem cells_int : Try.prog.cellsOf 3 = 1 := by kernel_rfl
set_option maxRecDepth 100000 in
/-- One row, opened. -/
theorem open_row {H : Type} {enc : TypeId × Value → H} {W : World} {base n : Nat} {sp : Nat → Bool} {held : Bool} {cs : List Value} {x : DataW H × List MemPlace} (h : DataW.trod enc Try.prog W base sp held n 32 cs = some x) : (∃ r : Rw, cs = rc r) ∧ ∃ ps, x.1 = .agg ps := by
  obtain ⟨xs, k, _, hxe, hl, hx, hf⟩ := DataW.trod_struct Try.underlying32 h
  rw [cells_row] at hl
  obtain ⟨v0, v1, v2, v3, v4, v5, rfl⟩ := list6 hl
  obtain ⟨y0, y1, y2, y3, y4, rfl⟩ := list5 hx
  have g0 := hf 0 _ rfl
  have g1 := hf 1 _ rfl
  have g2 := hf 2 _ rfl
  have g3 := hf 3 _ rfl
  have g4 := hf 4 _ rfl
  simp only [List.getElem?_cons_zero, List.getElem?_cons_succ] at g0 g1 g2 g3 g4
  obtain ⟨zs, _, _, _, _, hz, hg⟩ := DataW.trod_struct Try.underlying30 g0
  have e0 := hg 0 _ rfl
  have e1 := hg 1 _ rfl
  obtain ⟨z0, z1, rfl⟩ : ∃ z0 z1, zs = [z0, z1] := by
    match zs, hz with
    | [z0, z1], _ => exact ⟨z0, z1, rfl⟩
  simp only [List.getElem?_cons_zero, List.getElem?_cons_succ] at e0 e1
  obtain ⟨a0, h0, _, _⟩ := DataW.trod_int Try.underlying3 e0
  obtain ⟨a1, h1, _, _⟩ := DataW.trod_int Try.underlying3 e1
  obtain ⟨a2, h2, _, _⟩ := DataW.trod_int Try.underlying3 g1
  obtain ⟨a3, h3, _, _⟩ := DataW.trod_int Try.underlying3 g2
  obtain ⟨a4, h4, _, _⟩ := DataW.trod_int Try.underlying3 g3
  obtain ⟨a5, h5, _, _⟩ := DataW.trod_int Try.underlying3 g4
  refine ⟨⟨⟨a0, a1, a2, a3, a4, a5⟩, ?_⟩, _, by rw [hxe]⟩
  rw [(List.cons.inj h0).1, (List.cons.inj h1).1, (List.cons.inj h2).1, (List.cons.inj h3).1, (List.cons.inj h4).1, (List.cons.inj h5).1]
  rfl
/-- So many rows as are read, at the least, is their bulk. -/
theorem aggs_le {H : Type} : ∀ l : List (DataW H), (∀ d, d ∈ l → ∃ ps, d = .agg ps) → l.length ≤ Rows.uptoBulkAll l
  | [], _ => Nat.zero_le _
  | d :: r, h => by
    have hr := aggs_le r fun e he => h e (List.mem_cons_of_mem _ he)
    obtain ⟨ps, rfl⟩ := h d List.mem_cons_self
    rw [List.length_cons, Rows.uptoBulkAll, Rows.uptoBulk]
    omega
set_option maxRecDepth 100000 in
/-- A slice of rows, opened: its rows, how many there can be, and how many there are at most by what is read. -/
theorem open_rows {H : Type} {enc : TypeId × Value → H} {W : World} {base b0 : Nat} {sp : Nat → Bool} {held : Bool} {v : Value} {d : DataW H} {p : List MemPlace} (hval : Value.okWide Try.prog W .any b0 22 v) (h : DataW.Trod enc Try.prog W base sp held 22 v d p) :
    ∃ l : List Rw, Rs W v l ∧ l.length ≤ 9223372036854775807 ∧ l.length ≤ Rows.uptoBulk d := by
  obtain ⟨a0, len0, cap0, rfl⟩ := okWide_slice Try.underlying22 hval
  obtain ⟨fuel, hf⟩ := h
  rcases open_slice Try.underlying22 hf with ⟨hcs, _⟩ | ⟨a, len, cap, m, n, D, Pl, hcs, hb, hl, hm, hmm, hx, hi⟩
  · simp [Value.cells] at hcs
    obtain ⟨rfl, rfl, rfl⟩ := hcs
    exact ⟨[], Rs.nil W none 0, Nat.zero_le _, Nat.zero_le _⟩
  · simp [Value.cells] at hcs
    obtain ⟨rfl, rfl, rfl⟩ := hcs
    rw [cells_row] at hi
    have hlm : len0 ≤ m := by rw [hmm]; split <;> omega
    have hbulk : len0 ≤ Rows.uptoBulk d := by
      simp only [Prod.mk.injEq] at hx
      rw [hx.1]
      simp only [Rows.uptoBulk]
      have := aggs_le ((List.range len0).map D) fun d' hd => by
        obtain ⟨i, hr, rfl⟩ := List.mem_map.1 hd
        obtain ⟨cs', _, h2⟩ := hi i (by have := List.mem_range.1 hr; omega)
        exact (open_row h2).2
      rw [List.length_map, List.length_range] at this
      omega
    have each : ∀ i, i < len0 → ∃ r : Rw, ∀ j u, (rc r)[j]? = some u → W.cell? ((a.add (i * 6)).add j) = some u := by
      intro i hlt
      obtain ⟨cs', h1, h2⟩ := hi i (by omega)
      obtain ⟨r, rfl⟩ := (open_row h2).1
      obtain ⟨_, hlen, hcell⟩ := World.cells?_some h1
      refine ⟨r, fun j u hu => ?_⟩
      have hj := (List.getElem?_eq_some_iff.1 hu).1
      rw [hcell j (by rw [← hlen]; exact hj)]
      exact hu
    by_cases h0 : len0 = 0
    · subst h0
      exact ⟨[], Rs.nil W _ _, Nat.zero_le _, Nat.zero_le _⟩
    · obtain ⟨ab, ao, rfl⟩ : ∃ ab ao, a = ⟨ab, ao, none⟩ := by
        obtain ⟨r, hr⟩ := each 0 (by omega)
        have hc := hr 0 _ rfl
        rw [Nat.zero_mul] at hc
        have e0 : (a.add 0).add 0 = a.add 0 := by
          have z : ∀ x : Addr, x.add 0 = x := fun x => by unfold Addr.add; rw [if_pos rfl]
          rw [z]
        rw [e0] at hc
        exact flat hc
      obtain ⟨R, hR⟩ := choose_lt (α := Rw) each
      have hl2 : ((List.range len0).map R).length = len0 := by rw [List.length_map, List.length_range]
      refine ⟨(List.range len0).map R, ⟨_, _, by rw [hl2], by rw [hl2]; exact hl, Or.inr ⟨ab, ao, rfl, ?_, fun j u hu => ?_⟩⟩, by rw [hl2]; unfold maxLen at hm; omega, by rw [hl2]; exact hbulk⟩
      · have hc := hR 0 (by omega) 0 _ rfl
        rw [add_off, add_off] at hc
        exact World.block_lt_of_cell? W _ hc
      · have hj : j < len0 * 6 := by
          have := (List.getElem?_eq_some_iff.1 hu).1
          rwa [cl_len, hl2] at this
        have ej : j = j / 6 * 6 + j % 6 := by omega
        have ei : ith ((List.range len0).map R) (j / 6) = R (j / 6) := by
          unfold ith
          rw [List.getD_eq_getElem?_getD, List.getElem?_map, List.getElem?_range (by omega)]
          rfl
        rw [ej, cl_at _ (by rw [hl2]; omega) (by omega), ei] at hu
        have hc := hR (j / 6) (by omega) (j % 6) u hu
        rw [add_off, add_off, Nat.add_assoc, ← ej] at hc
        exact hc
theorem small {H : Type} {d0 d1 d2 d3 d4 : DataW H} (hk : Rows.uptoSmall H [d0, d1, d2, d3, d4] = true) : Rows.uptoBulk d0 ≤ 1048576 ∧ Rows.uptoBulk d1 ≤ 1048576 := by
  have h : Rows.uptoBulkAll [d0, d1, d2, d3, d4] ≤ 1048576 := of_decide_eq_true hk
  simp only [Rows.uptoBulkAll] at h
  omega
end Tb
end Go.Proofs.Ythdoobgellaheaa
