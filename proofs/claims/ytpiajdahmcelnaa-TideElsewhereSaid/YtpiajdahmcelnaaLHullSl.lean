/-
  The reference implementation of layer 3 over slices of points: places, Valid.
  The reference implementation of layer 3 over slices of points: Inside.
  Slices of points as values; Same, Few.
  Arguments as the laws of layer 3 have them: points, slices of points; what is only read stays as it was.
-/
import Derived.Test.YtpiajdahmcelnaaLHullRef
import Derived.Deep.RegionWith
import Derived.IntWalk
import Derived.ProofKit
import Derived.OpenShut
import Derived.ChangeSame
import Derived.ChangeStays
import Derived.ReadAgain
import Derived.Deep.SlicePairs
import Derived.Deep.Frames
import Derived.Lib.SmallJoins
namespace Go.Proofs.Ytpiajdahmcelnaa
open Go.RowKit
namespace Hl

/-- A row of points in memory. -/
def Row (w : World) (b o : Nat) (p : List Pt) : Prop := b < w.heap.size ∧ ∀ i, i < p.length → w.cell? ⟨b, o + i * 2, none⟩ = some (.int .i64 (at' p i).1) ∧ w.cell? ⟨b, o + i * 2 + 1, none⟩ = some (.int .i64 (at' p i).2)
theorem Row.grown {w w' : World} {b o : Nat} {p : List Pt} (h : Row w b o p) (g : Grew w w') : Row w' b o p :=
  ⟨Nat.lt_of_lt_of_le h.1 g.size, fun i hi => ⟨(Grew.cell g h.1).trans (h.2 i hi).1, (Grew.cell g h.1).trans (h.2 i hi).2⟩⟩

/-- What a test answers, and how the world is left. -/
def Tells (q : Prop) (w : World) (e : Ending) (w' : World) : Prop := ∃ r : Bool, e = .returned (.bool r) ∧ (r = true ↔ q) ∧ Grew w w'
theorem Tells.yes {q : Prop} {w : World} {e : Ending} {w' : World} (hq : q) (he : e = .returned (.bool true)) (g : Grew w w') : Tells q w e w' := ⟨true, he, ⟨fun _ => hq, fun _ => rfl⟩, g⟩
theorem Tells.no {q : Prop} {w : World} {e : Ending} {w' : World} (hq : ¬ q) (he : e = .returned (.bool false)) (g : Grew w w') : Tells q w e w' := ⟨false, he, ⟨(fun h => by cases h), (fun h => absurd h hq)⟩, g⟩

/-- All are places. -/
def Plcs (p : List Pt) : Prop := ∀ i, i < p.length → Plc (at' p i)
/-- A polygon, as the document says it. -/
def Vl (p : List Pt) : Prop := (1 ≤ p.length ∧ p.length ≤ 64) ∧ Plcs p ∧ (∀ i, 1 ≤ i → i < p.length → ls (at' p 0) (at' p i)) ∧ (2 < p.length → Cvx p.length (at' p))

end Hl
end Go.Proofs.Ytpiajdahmcelnaa
namespace Go.Proofs.Ytpiajdahmcelnaa
open Go.RowKit
namespace Hl

theorem hs1 {p : List Pt} {x : Pt} (h : p.length = 1) : Hs p x ↔ at' p 0 = x := by unfold Hs; rw [if_pos h]
theorem hs2 {p : List Pt} {x : Pt} (h : p.length = 2) : Hs p x ↔ (cr (at' p 0) (at' p 1) x = 0 ∧ btw (at' p 0) (at' p 1) x) := by unfold Hs; rw [if_neg (by omega), if_pos h]
theorem hs3 {p : List Pt} {x : Pt} (h : 3 ≤ p.length) : Hs p x ↔ Ins p.length (at' p) x := by unfold Hs; rw [if_neg (by omega), if_neg (by omega)]

end Hl
end Go.Proofs.Ytpiajdahmcelnaa
namespace Go.Proofs.Ytpiajdahmcelnaa
open Go.RowKit
namespace Hl
/-- A slice that reads as these points. -/
def Sl (w : World) (v : Value) (p : List Pt) : Prop := (p = [] ∧ ∃ a c, v = .slice a 0 c) ∨ ∃ b o c, v = .slice (some ⟨b, o, none⟩) p.length c ∧ Row w b o p
theorem Sl.grown {w w' : World} {v : Value} {p : List Pt} (h : Sl w v p) (g : Grew w w') : Sl w' v p := by
  rcases h with h | ⟨b, o, c, h, k⟩
  · exact Or.inl h
  · exact Or.inr ⟨b, o, c, h, k.grown g⟩

theorem same_rows (p q : List Pt) (b o c b' o' c' : Nat) (w : World) (hp : Row w b o p) (hq : Row w b' o' q) (hl : p.length = q.length) (hm : p.length ≤ 9223372036854775807) : Calls Try.prog 26 #[.slice (some ⟨b, o, none⟩) p.length c, .slice (some ⟨b', o', none⟩) q.length c'] w (Tells (p = q) w) := by
  have HP := Lib.hid hp
  have HQ := Lib.hid hq
  have HL := Lib.hid hl
  rw [← hl]
  clear hp hq hl
  go_enter Try.func26, Try.ntmps26
  go_wp2_with fail
  go_loopw [5] (fun i wr => ∃ k : Nat, k ≤ p.length ∧ i = .int .i64 k ∧ (∃ n, wr = w.drewN n) ∧ Hid (∀ j, j < k → at' p j = at' q j)) (fun i _ => p.length - (intOf i).toNat)
  case atStart => exact ⟨0, Nat.zero_le _, rfl, ⟨0, rfl⟩, Lib.hid (fun j hj => by omega)⟩
  case round =>
    obtain ⟨k, hk, rfl, ⟨n, rfl⟩, D⟩ := hrel
    by_cases hlt : k < p.length
    · obtain ⟨s0, s1⟩ := HP.out.2 k hlt
      obtain ⟨s2, s3⟩ := HQ.out.2 k (by have := HL.out; omega)
      have i0 : (0 : Int) ≤ (k : Int) := by omega
      have i1 : (k : Int) < (p.length : Int) := by omega
      obtain ⟨⟨y1, y2⟩, hy⟩ : ∃ y, at' p k = y := ⟨_, rfl⟩
      obtain ⟨⟨z1, z2⟩, hz⟩ : ∃ z, at' q k = z := ⟨_, rfl⟩
      rw [hy] at s0 s1
      rw [hz] at s2 s3
      have HY := Lib.hid hy
      have HZ := Lib.hid hz
      clear hy hz
      simp only at s0 s1 s2 s3
      by_cases e1 : y1 = z1
      · by_cases e2 : y2 = z2
        · subst e1 e2
          have E : Hid (∀ j, j < k + 1 → at' p j = at' q j) := Lib.hid (fun j hj => by
            by_cases e : j = k
            · rw [e, HY.out, HZ.out]
            · exact D.out j (by omega))
          go_wp2_with fail
          go_quiet (fail)
          go_wp2_with fail
          go_roundw
          case rel => exact ⟨k + 1, by omega, by go_num, ⟨_, rfl⟩, E⟩
          case measure => simp [intOf]; omega
        · have N : Hid (¬ p = q) := Lib.hid (fun h => by
            have := HY.out
            rw [h, HZ.out] at this
            exact e2 (congrArg Prod.snd this).symm)
          subst e1
          go_wp2_with fail
          go_quiet (fail)
          go_wp2_with fail
          go_ret
          exact Tells.no N.out rfl (by (repeat' (first | (with_reducible exact Grew.refl _) | (with_reducible assumption) | (with_reducible refine Grew.alloc ?_ _ _) | (with_reducible refine Grew.drew ?_) | (with_reducible refine Grew.drewN ?_ _) | (with_reducible refine Grew.setCell ?_ ?_ _) | go_size)))
      · have N : Hid (¬ p = q) := Lib.hid (fun h => by
          have := HY.out
          rw [h, HZ.out] at this
          exact e1 (congrArg Prod.fst this).symm)
        go_wp2_with fail
        go_quiet (fail)
        go_wp2_with fail
        go_ret
        exact Tells.no N.out rfl (by (repeat' (first | (with_reducible exact Grew.refl _) | (with_reducible assumption) | (with_reducible refine Grew.alloc ?_ _ _) | (with_reducible refine Grew.drew ?_) | (with_reducible refine Grew.drewN ?_ _) | (with_reducible refine Grew.setCell ?_ ?_ _) | go_size)))
    · go_wp2_with fail
      go_ret
      exact Tells.yes (ext_at HL.out (fun i hi => D.out i (by omega))) rfl (by (repeat' (first | (with_reducible exact Grew.refl _) | (with_reducible assumption) | (with_reducible refine Grew.alloc ?_ _ _) | (with_reducible refine Grew.drew ?_) | (with_reducible refine Grew.drewN ?_ _) | (with_reducible refine Grew.setCell ?_ ?_ _) | go_size)))

theorem len_nil {p : List Pt} (h : p.length = 0) : p = [] := List.length_eq_zero_iff.1 h
theorem same_far (p q : List Pt) (n m : Nat) (v v' : Value) (w : World) (hv : (∃ a c, v = .slice a n c) ∧ ∃ a c, v' = .slice a m c) (hn : ¬ p = q) (h : n ≠ m) : Calls Try.prog 26 #[v, v'] w (Tells (p = q) w) := by
  obtain ⟨⟨a, c, rfl⟩, ⟨a', c', rfl⟩⟩ := hv
  have H := Lib.hid hn
  have d1 : ((n : Int) != (m : Int)) = true := by rw [bne_iff_ne]; omega
  have d2 : ((n : Int) == (m : Int)) = false := by rw [beq_eq_false_iff_ne]; omega
  clear hn h
  go_enter Try.func26, Try.ntmps26
  go_wp2_with fail
  go_ret
  exact Tells.no H.out rfl (Grew.refl _)
theorem same_zero (v v' : Value) (w : World) (hv : (∃ a c, v = .slice a 0 c) ∧ ∃ a c, v' = .slice a 0 c) : Calls Try.prog 26 #[v, v'] w (Tells (([] : List Pt) = []) w) := by
  obtain ⟨⟨a, c, rfl⟩, ⟨a', c', rfl⟩⟩ := hv
  have H := Lib.hid (rfl : ([] : List Pt) = [])
  go_enter Try.func26, Try.ntmps26
  go_wp2_with fail
  refine wp_loop_rounds 1 ?_
  rw [rounds_succ]
  go_wp2_with fail
  go_ret
  exact Tells.yes H.out rfl (Grew.refl _)
theorem Sl.shape {w : World} {v : Value} {p : List Pt} (h : Sl w v p) : ∃ a c, v = .slice a p.length c := by
  rcases h with ⟨rfl, a, c, rfl⟩ | ⟨b, o, c, rfl, _⟩
  · exact ⟨a, c, rfl⟩
  · exact ⟨_, _, rfl⟩
theorem same_any (p q : List Pt) (v v' : Value) (w : World) (hp : Sl w v p) (hq : Sl w v' q) (hm : p.length ≤ 9223372036854775807) : Calls Try.prog 26 #[v, v'] w (Tells (p = q) w) := by
  by_cases hl : p.length = q.length
  · by_cases h0 : p.length = 0
    · obtain ⟨a, c, e1⟩ := hp.shape
      obtain ⟨a', c', e2⟩ := hq.shape
      rw [h0] at e1
      rw [← hl, h0] at e2
      have e3 := len_nil h0
      have e4 := len_nil (hl ▸ h0)
      subst e3 e4
      exact same_zero v v' w ⟨⟨a, c, e1⟩, ⟨a', c', e2⟩⟩
    · rcases hp with ⟨e, _⟩ | ⟨b, o, c, e1, hr⟩
      · rw [e] at h0; exact absurd rfl h0
      · rcases hq with ⟨e, _⟩ | ⟨b', o', c', e2, hr'⟩
        · rw [e] at hl; exact absurd hl h0
        · rw [e1, e2]; exact same_rows p q b o c b' o' c' w hr hr' hl hm
  · exact same_far p q p.length q.length v v' w ⟨hp.shape, hq.shape⟩ (fun h => hl (by rw [h])) hl
end Hl
end Go.Proofs.Ytpiajdahmcelnaa
namespace Go.Proofs.Ytpiajdahmcelnaa
namespace Hl
open Go.ChangeShapes Go.WideShapes Go.ChangeAt Go.RowKit Go.Joins Go.Deep

set_option maxRecDepth 100000 in
theorem kids : Kids Try.prog (· < Try.prog.types.size) := kids_rows (by kernel_rfl) (by kernel_rfl)
set_option maxRecDepth 100000 in
theorem full : ∀ t e, t < Try.prog.types.size → Try.prog.underlying t = some (.slice e) → 0 < Try.prog.cellsOf e := slices_full_of Try.prog (by kernel_rfl)

theorem same_of {W W' : World} (g : Grew W W') {x : MemPlace} (h : x.block < W.heap.size) : W.sameAt W' x := Below.same g h
set_option maxRecDepth 100000 in
theorem stays {H : Type} {enc : TypeId × Value → H} {W W' : World} {base : Nat} {sp : Nat → Bool} (g : Grew W W') : ∀ {ts : List TypeId} {vs : List Value} {ds : List (DataW H)} {ps : List MemPlace}, (∀ t ∈ ts, t < Try.prog.types.size) → DataW.TrodAll enc Try.prog W base (fun _ => true) true ts vs ds ps →
    (∀ p ∈ ps, p.block < W.heap.size) → (∀ p ∈ ps, sp p.block = true) → DataW.TrodAll enc Try.prog W' base sp true ts vs ds ps
  | [], vs, ds, ps, _, h, _, _ => by
    obtain ⟨rfl, rfl, rfl⟩ := trodAll_nil h
    exact trodAll_mk0
  | t :: ts, vs, ds, ps, hT, h, hl, hs => by
    match vs, h with
    | v :: vs, h =>
      obtain ⟨v', vs', d, ds', p, q, e, rfl, rfl, h0, h1⟩ := trodAll_cons h
      obtain ⟨rfl, rfl⟩ := List.cons.inj e
      obtain ⟨n, hn⟩ := h0
      refine trodAll_cons_mk ⟨n, DataW.trod_stays kids (fun {t e} => full t e) (fun hh => by cases hh) (hT t List.mem_cons_self) hn (fun x hx => same_of g (hl x (List.mem_append_left _ hx))) (fun x hx => hs x (List.mem_append_left _ hx))⟩ ?_
      exact stays g (fun t ht => hT t (List.mem_cons_of_mem _ ht)) h1 (fun x hx => hl x (List.mem_append_right _ hx)) (fun x hx => hs x (List.mem_append_right _ hx))

set_option maxRecDepth 100000 in
/-- What a law's post asks, where all that was there is as it was. -/
theorem post_grew {H : Type} {enc : TypeId × Value → H} {f : Func} {s : ChangeSpec} {apart fresh handsOn again : Bool} {W W' : World} {args : Array Value} {v : Value} {ds gs : List (DataW H)} {before : List MemPlace}
    (hT : ∀ t ∈ f.params.toList, t < Try.prog.types.size) (hW : DataW.Whole enc Try.prog f.params.toList s.vars apart W args.toList ds gs before) (hA : DataW.TrodAll enc Try.prog W 0 (fun _ => true) true f.params.toList args.toList ds before)
    (hs : s.vars = []) (_hg : gs = []) (hargs : (s.fn H (ds ++ gs)).args = ds) (hvars : (s.fn H (ds ++ gs)).vars = [])
    (hres : ∀ (b : Nat) (sp : Nat → Bool) (hd : Bool), DataW.TrodAll enc Try.prog W' b sp hd f.resultTypes.toList (v.resultList f.resultTypes.size) (s.fn H (ds ++ gs)).results [])
    (g : Grew W W')
    (hok : ∀ (j : Nat) (t : TypeId) (r : Value), f.resultTypes[j]? = some t → (v.resultList f.resultTypes.size)[j]? = some r → Value.okWide Try.prog W' .any 0 t r) :
    s.post enc Try.prog f apart fresh handsOn again W args v W' := by
  have lt : ∀ x ∈ before, x.block < W.heap.size := fun x hx => hW.lt x hx
  have arg : ∀ sp : Nat → Bool, (∀ x ∈ before, sp x.block = true) → DataW.TrodAll enc Try.prog W' 0 sp true f.params.toList args.toList (s.fn H (ds ++ gs)).args before := fun sp hsp => by
    rw [hargs]
    exact stays g hT hA lt hsp
  have var : ∀ sp : Nat → Bool, DataW.TrodVars enc Try.prog W' sp s.vars (s.fn H (ds ++ gs)).vars [] := fun sp => by
    rw [hs, hvars]
    rfl
  refine ⟨ds, gs, before, [], before, [], hW, hres _ _ _, arg _ (fun x hx => by simpa using lt x hx), var _, World.keptBut_mono (fun x hx => ⟨hx, Or.inr (by simpa using hx)⟩) (Below.frame g (· ∈ before)), fun _ => ?_⟩
  obtain ⟨_, _, _, _, _, hz, hn⟩ := hW
  refine ⟨hok, _, _, ([] ++ before) ++ [], ⟨[] ++ before, [], trodAll_append (arg _ (fun _ _ => rfl)) (hres _ _ _), var _, rfl, ?_, ?_⟩, ?_⟩
  · intro b off hx
    have hin : MemPlace.cell b off ∈ before := by simpa using hx
    rw [Below.frozen (p := ⟨b, off, none⟩) g (lt _ hin)]
    exact hz b off hin
  · intro ha
    have := hn ha
    simpa using this
  · intro x hx _
    simpa using hx
set_option maxRecDepth 100000 in
theorem cellsPoint : Try.prog.cellsOf 30 = 2 := by kernel_rfl
set_option maxRecDepth 100000 in
theorem open_point {H : Type} {enc : TypeId × Value → H} {W : World} {base b0 : Nat} {sp : Nat → Bool} {held : Bool} {v : Value} {d : DataW H} {p : List MemPlace} (hval : Value.okWide Try.prog W .any b0 30 v) (h : DataW.Trod enc Try.prog W base sp held 30 v d p) :
    ∃ x : Pt, v = .agg #[.int .i64 x.1, .int .i64 x.2] := by
  obtain ⟨c0, c1, y0, y1, m, rfl, rfl, rfl, hy0, hy1⟩ := open_agg2 Try.underlying30 (by kernel_rfl) cellsPoint hval h
  obtain ⟨a, e0, rfl, wa⟩ := DataW.trod_int Try.underlying3 hy0
  obtain ⟨b, e1, rfl, wb⟩ := DataW.trod_int Try.underlying3 hy1
  simp at e0 e1
  subst e0 e1
  exact ⟨(a, b), rfl⟩
end Hl
end Go.Proofs.Ytpiajdahmcelnaa
