/-
  A tide as an argument: a struct with a slice of flows inside; flows; small numbers.
-/
import Derived.Deep.Slices
import Derived.Test.YtpiajdahmcelnaaGreatMHullSame
import Derived.Test.YtpiajdahmcelnaaGreatMTdC
namespace Go.Proofs.YtpiajdahmcelnaaGreat
open Hl
namespace Td
open Go.ChangeShapes Go.WideShapes Go.ChangeAt Go.RowKit Go.Joins Go.Deep

theorem flat {W : World} {a : Addr} {u : Value} (h : W.cell? (a.add 0) = some u) : ∃ b o, a = ⟨b, o, none⟩ := by
  obtain ⟨ab, ao, sp0⟩ := a
  cases sp0 with
  | none => exact ⟨ab, ao, rfl⟩
  | some s =>
    exfalso
    unfold Addr.add at h
    rw [if_pos rfl] at h
    unfold World.cell? at h
    revert h
    simp
    split <;> simp
instance : Inhabited Fw := ⟨f0⟩
theorem add_off' (b o k : Nat) : (⟨b, o, none⟩ : Addr).add k = ⟨b, o + k, none⟩ := by
  unfold Addr.add
  split
  · rename_i e; subst e; rfl
  · rfl
theorem list2 {α : Type} {l : List α} (h : l.length = 2) : ∃ a b, l = [a, b] := by
  match l, h with
  | [a, b], _ => exact ⟨a, b, rfl⟩
theorem list5 {α : Type} {l : List α} (h : l.length = 5) : ∃ a b c d e, l = [a, b, c, d, e] := by
  match l, h with
  | [a, b, c, d, e], _ => exact ⟨a, b, c, d, e, rfl⟩
theorem list6 {α : Type} {l : List α} (h : l.length = 6) : ∃ a b c d e f, l = [a, b, c, d, e, f] := by
  match l, h with
  | [a, b, c, d, e, f], _ => exact ⟨a, b, c, d, e, f, rfl⟩
theorem list9 {α : Type} {l : List α} (h : l.length = 9) : ∃ a b c d e f g i j, l = [a, b, c, d, e, f, g, i, j] := by
  match l, h with
  | [a, b, c, d, e, f, g, i, j], _ => exact ⟨a, b, c, d, e, f, g, i, j, rfl⟩
theorem list13 {α : Type} {l : List α} (h : l.length = 13) : ∃ a b c d e f g i j k m n o, l = [a, b, c, d, e, f, g, i, j, k, m, n, o] := by
  match l, h with
  | [a, b, c, d, e, f, g, i, j, k, m, n, o], _ => exact ⟨a, b, c, d, e, f, g, i, j, k, m, n, o, rfl⟩
set_option maxRecDepth 100000 in
theorem cells_flow : Tryz.prog.cellsOf 25 = 9 := by kernel_rfl
set_option maxRecDepth 100000 in
theorem cells_span : Tryz.prog.cellsOf 23 = 2 := by kernel_rfl
set_option maxRecDepth 100000 in
theorem cells_int : Tryz.prog.cellsOf 3 = 1 := by kernel_rfl
set_option maxRecDepth 100000 in
theorem cells_tide : Tryz.prog.cellsOf 28 = 13 := by kernel_rfl
set_option maxRecDepth 100000 in
theorem cells_flows : Tryz.prog.cellsOf 26 = 1 := by kernel_rfl
/-- Two numbers. -/
theorem open_two {H : Type} {enc : TypeId × Value → H} {W : World} {base n : Nat} {sp : Nat → Bool} {held : Bool} {u v : Value} {x : DataW H × List MemPlace} (h : DataW.trod enc Tryz.prog W base sp held n 23 [u, v] = some x) : ∃ a b : Int, u = .int .i64 a ∧ v = .int .i64 b := by
  obtain ⟨zs, k, _, _, _, hz, hg⟩ := DataW.trod_struct Tryz.underlying23 h
  have e0 := hg 0 _ rfl
  have e1 := hg 1 _ rfl
  obtain ⟨z0, z1, rfl⟩ := list2 hz
  simp only [List.getElem?_cons_zero, List.getElem?_cons_succ] at e0 e1
  change DataW.trod enc Tryz.prog W base sp held k 3 (List.take (Tryz.prog.cellsOf 3) (List.drop 0 [u, v])) = some z0 at e0
  rw [cells_int] at e0
  change DataW.trod enc Tryz.prog W base sp held k 3 (List.take (Tryz.prog.cellsOf 3) (List.drop 1 [u, v])) = some z1 at e1
  rw [cells_int] at e1
  obtain ⟨a0, h0, _, _⟩ := DataW.trod_int Tryz.underlying3 e0
  obtain ⟨a1, h1, _, _⟩ := DataW.trod_int Tryz.underlying3 e1
  exact ⟨a0, a1, (List.cons.inj h0).1, (List.cons.inj h1).1⟩
set_option maxRecDepth 100000 in
/-- One flow, opened. -/
theorem open_flowc {H : Type} {enc : TypeId × Value → H} {W : World} {base n : Nat} {sp : Nat → Bool} {held : Bool} {cs : List Value} {x : DataW H × List MemPlace} (h : DataW.trod enc Tryz.prog W base sp held n 25 cs = some x) : ∃ r : Fw, cs = rc r := by
  obtain ⟨xs, k, _, _, hl, hx, hf⟩ := DataW.trod_struct Tryz.underlying25 h
  rw [cells_flow] at hl
  obtain ⟨v0, v1, v2, v3, v4, v5, v6, v7, v8, rfl⟩ := list9 hl
  obtain ⟨y0, y1, y2, y3, y4, y5, rfl⟩ := list6 hx
  have g0 := hf 0 _ rfl
  have g1 := hf 1 _ rfl
  have g2 := hf 2 _ rfl
  have g3 := hf 3 _ rfl
  have g4 := hf 4 _ rfl
  have g5 := hf 5 _ rfl
  simp only [List.getElem?_cons_zero, List.getElem?_cons_succ] at g0 g1 g2 g3 g4 g5
  change DataW.trod enc Tryz.prog W base sp held k 3 (List.take (Tryz.prog.cellsOf 3) (List.drop 0 [v0, v1, v2, v3, v4, v5, v6, v7, v8])) = some y0 at g0
  rw [cells_int] at g0
  change DataW.trod enc Tryz.prog W base sp held k 3 (List.take (Tryz.prog.cellsOf 3) (List.drop 1 [v0, v1, v2, v3, v4, v5, v6, v7, v8])) = some y1 at g1
  rw [cells_int] at g1
  change DataW.trod enc Tryz.prog W base sp held k 3 (List.take (Tryz.prog.cellsOf 3) (List.drop 2 [v0, v1, v2, v3, v4, v5, v6, v7, v8])) = some y2 at g2
  rw [cells_int] at g2
  change DataW.trod enc Tryz.prog W base sp held k 23 (List.take (Tryz.prog.cellsOf 23) (List.drop 3 [v0, v1, v2, v3, v4, v5, v6, v7, v8])) = some y3 at g3
  rw [cells_span] at g3
  change DataW.trod enc Tryz.prog W base sp held k 23 (List.take (Tryz.prog.cellsOf 23) (List.drop 5 [v0, v1, v2, v3, v4, v5, v6, v7, v8])) = some y4 at g4
  rw [cells_span] at g4
  change DataW.trod enc Tryz.prog W base sp held k 23 (List.take (Tryz.prog.cellsOf 23) (List.drop 7 [v0, v1, v2, v3, v4, v5, v6, v7, v8])) = some y5 at g5
  rw [cells_span] at g5
  obtain ⟨a0, h0, _, _⟩ := DataW.trod_int Tryz.underlying3 g0
  obtain ⟨a1, h1, _, _⟩ := DataW.trod_int Tryz.underlying3 g1
  obtain ⟨a2, h2, _, _⟩ := DataW.trod_int Tryz.underlying3 g2
  obtain ⟨a3, a4, h3, h4⟩ := open_two g3
  obtain ⟨a5, a6, h5, h6⟩ := open_two g4
  obtain ⟨a7, a8, h7, h8⟩ := open_two g5
  refine ⟨⟨a0, a1, a2, ⟨a3, a4, a5, a6, a7, a8⟩⟩, ?_⟩
  rw [(List.cons.inj h0).1, (List.cons.inj h1).1, (List.cons.inj h2).1, h3, h4, h5, h6, h7, h8]
  rfl
set_option maxRecDepth 100000 in
/-- A slice of flows, opened. -/
theorem open_flows {H : Type} {enc : TypeId × Value → H} {W : World} {base n : Nat} {sp : Nat → Bool} {held : Bool} {v : Value} {x : DataW H × List MemPlace} (hf : DataW.trod enc Tryz.prog W base sp held n 26 [v] = some x) :
    ∃ l : List Fw, Rs W v l ∧ l.length ≤ 9223372036854775807 := by
  rcases open_slice Tryz.underlying26 hf with ⟨hcs, _⟩ | ⟨a, len0, cap0, m, n, D, Pl, hcs, hb, hl, hm, hmm, hx, hi⟩
  · obtain rfl := (List.cons.inj hcs).1
    exact ⟨[], Rs.nil W none 0, Nat.zero_le _⟩
  · obtain rfl := (List.cons.inj hcs).1
    rw [cells_flow] at hi
    have hlm : len0 ≤ m := by rw [hmm]; split <;> omega
    have each : ∀ i, i < len0 → ∃ r : Fw, ∀ j u, (rc r)[j]? = some u → W.cell? ((a.add (i * 9)).add j) = some u := by
      intro i hlt
      obtain ⟨cs', h1, h2⟩ := hi i (by omega)
      obtain ⟨r, rfl⟩ := open_flowc h2
      obtain ⟨_, hlen, hcell⟩ := World.cells?_some h1
      refine ⟨r, fun j u hu => ?_⟩
      have hj := (List.getElem?_eq_some_iff.1 hu).1
      rw [hcell j (by rw [← hlen]; exact hj)]
      exact hu
    by_cases h0 : len0 = 0
    · subst h0
      exact ⟨[], Rs.nil W _ _, Nat.zero_le _⟩
    · obtain ⟨ab, ao, rfl⟩ : ∃ ab ao, a = ⟨ab, ao, none⟩ := by
        obtain ⟨r, hr⟩ := each 0 (by omega)
        have hc := hr 0 _ rfl
        rw [Nat.zero_mul] at hc
        have e0 : (a.add 0).add 0 = a.add 0 := by
          have z : ∀ x : Addr, x.add 0 = x := fun x => by unfold Addr.add; rw [if_pos rfl]
          rw [z]
        rw [e0] at hc
        exact flat hc
      obtain ⟨R, hR⟩ := choose_lt (α := Fw) each
      have hl2 : ((List.range len0).map R).length = len0 := by rw [List.length_map, List.length_range]
      refine ⟨(List.range len0).map R, ⟨_, _, by rw [hl2], by rw [hl2]; exact hl, Or.inr ⟨ab, ao, rfl, ?_, fun j u hu => ?_⟩⟩, by rw [hl2]; unfold maxLen at hm; omega⟩
      · have hc := hR 0 (by omega) 0 _ rfl
        rw [add_off', add_off'] at hc
        exact World.block_lt_of_cell? W _ hc
      · have hj : j < len0 * 9 := by
          have := (List.getElem?_eq_some_iff.1 hu).1
          rwa [cl_len, hl2] at this
        have ej : j = j / 9 * 9 + j % 9 := by omega
        have ei : ith ((List.range len0).map R) (j / 9) = R (j / 9) := by
          unfold ith
          rw [List.getD_eq_getElem?_getD, List.getElem?_map, List.getElem?_range (by omega)]
          rfl
        rw [ej, cl_at _ (by rw [hl2]; omega) (by omega), ei] at hu
        have hc := hR (j / 9) (by omega) (j % 9) u hu
        rw [add_off', add_off', Nat.add_assoc, ← ej] at hc
        exact hc
set_option maxRecDepth 100000 in
/-- A tide as an argument. -/
theorem open_tide {H : Type} {enc : TypeId × Value → H} {W : World} {base b0 : Nat} {sp : Nat → Bool} {held : Bool} {v : Value} {d : DataW H} {p : List MemPlace} (hval : Value.okWide Tryz.prog W .any b0 28 v) (h : DataW.Trod enc Tryz.prog W base sp held 28 v d p) :
    ∃ (t : Ed) (u : Value), v = tv t u ∧ Rs W u t.l ∧ t.l.length ≤ 9223372036854775807 := by
  obtain ⟨cs, rfl, hsz⟩ := okWide_struct Tryz.underlying28 hval
  obtain ⟨fuel, hf⟩ := h
  have hc : (Value.agg cs).cells.toList = cs.toList := rfl
  rw [hc] at hf
  obtain ⟨xs, k, _, _, hl, hx, hf⟩ := DataW.trod_struct Tryz.underlying28 hf
  rw [cells_tide] at hl
  obtain ⟨v0, v1, v2, v3, v4, v5, v6, v7, v8, v9, v10, v11, v12, hcs⟩ := list13 hl
  rw [hcs] at hf
  obtain ⟨y0, y1, y2, y3, y4, rfl⟩ := list5 hx
  have g0 := hf 0 _ rfl
  have g1 := hf 1 _ rfl
  have g2 := hf 2 _ rfl
  have g3 := hf 3 _ rfl
  have g4 := hf 4 _ rfl
  simp only [List.getElem?_cons_zero, List.getElem?_cons_succ] at g0 g1 g2 g3 g4
  change DataW.trod enc Tryz.prog W base sp held k 3 (List.take (Tryz.prog.cellsOf 3) (List.drop 0 [v0, v1, v2, v3, v4, v5, v6, v7, v8, v9, v10, v11, v12])) = some y0 at g0
  rw [cells_int] at g0
  change DataW.trod enc Tryz.prog W base sp held k 3 (List.take (Tryz.prog.cellsOf 3) (List.drop 1 [v0, v1, v2, v3, v4, v5, v6, v7, v8, v9, v10, v11, v12])) = some y1 at g1
  rw [cells_int] at g1
  change DataW.trod enc Tryz.prog W base sp held k 3 (List.take (Tryz.prog.cellsOf 3) (List.drop 2 [v0, v1, v2, v3, v4, v5, v6, v7, v8, v9, v10, v11, v12])) = some y2 at g2
  rw [cells_int] at g2
  change DataW.trod enc Tryz.prog W base sp held k 25 (List.take (Tryz.prog.cellsOf 25) (List.drop 3 [v0, v1, v2, v3, v4, v5, v6, v7, v8, v9, v10, v11, v12])) = some y3 at g3
  rw [cells_flow] at g3
  change DataW.trod enc Tryz.prog W base sp held k 26 (List.take (Tryz.prog.cellsOf 26) (List.drop 12 [v0, v1, v2, v3, v4, v5, v6, v7, v8, v9, v10, v11, v12])) = some y4 at g4
  rw [cells_flows] at g4
  obtain ⟨a0, h0, _, _⟩ := DataW.trod_int Tryz.underlying3 g0
  obtain ⟨a1, h1, _, _⟩ := DataW.trod_int Tryz.underlying3 g1
  obtain ⟨a2, h2, _, _⟩ := DataW.trod_int Tryz.underlying3 g2
  obtain ⟨r, h3⟩ := open_flowc g3
  obtain ⟨l, hrs, hln⟩ := open_flows g4
  refine ⟨⟨a0, a1, a2, r, l⟩, v12, ?_, hrs, hln⟩
  have e : cs = cs.toList.toArray := rfl
  rw [e, hcs]
  have q0 := (List.cons.inj h0).1
  have q1 := (List.cons.inj h1).1
  have q2 := (List.cons.inj h2).1
  have q3 : [v3, v4, v5, v6, v7, v8, v9, v10, v11] = rc r := h3
  unfold rc at q3
  simp only [List.cons.injEq, and_true] at q3
  obtain ⟨z3, z4, z5, z6, z7, z8, z9, z10, z11⟩ := q3
  subst q0 q1 q2 z3 z4 z5 z6 z7 z8 z9 z10 z11
  rfl
end Td
end Go.Proofs.YtpiajdahmcelnaaGreat
