/-
  Slices of points as values; Same, Few.
  The landed package hull: what speaks of single places.
  Arguments as the laws of layer 3 have them: points, slices of points; what is only read stays as it was.
-/
import Derived.IntWalk
import Derived.Test.YtpiajdahmcelnaaGreatMHullRef
import Derived.ProofKit
import Derived.OpenShut
import Derived.ChangeSame
import Derived.ChangeStays
import Derived.ReadAgain
import Derived.Deep.SlicePairs
import Derived.Deep.Frames
import Derived.Lib.SmallJoins
namespace Go.Proofs.YtpiajdahmcelnaaGreat
open Go.RowKit
namespace Hl
/-- A slice that reads as these points. -/
def Sl (w : World) (v : Value) (p : List Pt) : Prop := (p = [] ∧ ∃ a c, v = .slice a 0 c) ∨ ∃ b o c, v = .slice (some ⟨b, o, none⟩) p.length c ∧ Row w b o p
theorem Sl.grown {w w' : World} {v : Value} {p : List Pt} (h : Sl w v p) (g : Grew w w') : Sl w' v p := by
  rcases h with h | ⟨b, o, c, h, k⟩
  · exact Or.inl h
  · exact Or.inr ⟨b, o, c, h, k.grown g⟩

theorem same_rows (p q : List Pt) (b o c b' o' c' : Nat) (w : World) (hp : Row w b o p) (hq : Row w b' o' q) (hl : p.length = q.length) (hm : p.length ≤ 9223372036854775807) : Calls Tryz.prog 14 #[.slice (some ⟨b, o, none⟩) p.length c, .slice (some ⟨b', o', none⟩) q.length c'] w (Tells (p = q) w) := by
  have HP := Lib.hid hp
  have HQ := Lib.hid hq
  have HL := Lib.hid hl
  rw [← hl]
  clear hp hq hl
  go_enter Tryz.func14, Tryz.ntmps14
  go_wp2_with fail
  go_loopw [5] (fun i wr => ∃ k : Nat, k ≤ p.length ∧ i = .int .i64 k ∧ (∃ n, wr = w.drewN n) ∧ Hid (∀ j, j < k → at' p j = at' q j)) (fun i _ => p.length - (intOf i).toNat)
  case atStart => exact ⟨0, Nat.zero_le _, rfl, ⟨0, rfl⟩, Lib.hid (fun j hj => by omega)⟩
  case round =>
    obtain ⟨k, hk, rfl, ⟨n, rfl⟩, D⟩ := hrel
    by_cases hlt : k < p.length
    · obtain ⟨s0, s1⟩ := HP.out.2 k hlt
      obtain ⟨s2, s3⟩ := HQ.out.2 k (by have := HL.out; omega)
      have i0 : (0 : Int) ≤ (k : Int) := by omega
      have i1 : (k : Int) < (p.length : Int) := by omega
      obtain ⟨⟨y1, y2⟩, hy⟩ : ∃ y, at' p k = y := ⟨_, rfl⟩
      obtain ⟨⟨z1, z2⟩, hz⟩ : ∃ z, at' q k = z := ⟨_, rfl⟩
      rw [hy] at s0 s1
      rw [hz] at s2 s3
      have HY := Lib.hid hy
      have HZ := Lib.hid hz
      clear hy hz
      simp only at s0 s1 s2 s3
      by_cases e1 : y1 = z1
      · by_cases e2 : y2 = z2
        · subst e1 e2
          have E : Hid (∀ j, j < k + 1 → at' p j = at' q j) := Lib.hid (fun j hj => by
            by_cases e : j = k
            · rw [e, HY.out, HZ.out]
            · exact D.out j (by omega))
          go_wp2_with fail
          go_quiet (fail)
          go_wp2_with fail
          go_roundw
          case rel => exact ⟨k + 1, by omega, by go_num, ⟨_, rfl⟩, E⟩
          case measure => simp [intOf]; omega
        · have N : Hid (¬ p = q) := Lib.hid (fun h => by
            have := HY.out
            rw [h, HZ.out] at this
            exact e2 (congrArg Prod.snd this).symm)
          subst e1
          go_wp2_with fail
          go_quiet (fail)
          go_wp2_with fail
          go_ret
          exact Tells.no N.out rfl (by (repeat' (first | (with_reducible exact Grew.refl _) | (with_reducible assumption) | (with_reducible refine Grew.alloc ?_ _ _) | (with_reducible refine Grew.drew ?_) | (with_reducible refine Grew.drewN ?_ _) | (with_reducible refine Grew.setCell ?_ ?_ _) | go_size)))
      · have N : Hid (¬ p = q) := Lib.hid (fun h => by
          have := HY.out
          rw [h, HZ.out] at this
          exact e1 (congrArg Prod.fst this).symm)
        go_wp2_with fail
        go_quiet (fail)
        go_wp2_with fail
        go_ret
        exact Tells.no N.out rfl (by (repeat' (first | (with_reducible exact Grew.refl _) | (with_reducible assumption) | (with_reducible refine Grew.alloc ?_ _ _) | (with_reducible refine Grew.drew ?_) | (with_reducible refine Grew.drewN ?_ _) | (with_reducible refine Grew.setCell ?_ ?_ _) | go_size)))
    · go_wp2_with fail
      go_ret
      exact Tells.yes (ext_at HL.out (fun i hi => D.out i (by omega))) rfl (by (repeat' (first | (with_reducible exact Grew.refl _) | (with_reducible assumption) | (with_reducible refine Grew.alloc ?_ _ _) | (with_reducible refine Grew.drew ?_) | (with_reducible refine Grew.drewN ?_ _) | (with_reducible refine Grew.setCell ?_ ?_ _) | go_size)))

theorem len_nil {p : List Pt} (h : p.length = 0) : p = [] := List.length_eq_zero_iff.1 h
theorem same_far (p q : List Pt) (n m : Nat) (v v' : Value) (w : World) (hv : (∃ a c, v = .slice a n c) ∧ ∃ a c, v' = .slice a m c) (hn : ¬ p = q) (h : n ≠ m) : Calls Tryz.prog 14 #[v, v'] w (Tells (p = q) w) := by
  obtain ⟨⟨a, c, rfl⟩, ⟨a', c', rfl⟩⟩ := hv
  have H := Lib.hid hn
  have d1 : ((n : Int) != (m : Int)) = true := by rw [bne_iff_ne]; omega
  have d2 : ((n : Int) == (m : Int)) = false := by rw [beq_eq_false_iff_ne]; omega
  clear hn h
  go_enter Tryz.func14, Tryz.ntmps14
  go_wp2_with fail
  go_ret
  exact Tells.no H.out rfl (Grew.refl _)
theorem same_zero (v v' : Value) (w : World) (hv : (∃ a c, v = .slice a 0 c) ∧ ∃ a c, v' = .slice a 0 c) : Calls Tryz.prog 14 #[v, v'] w (Tells (([] : List Pt) = []) w) := by
  obtain ⟨⟨a, c, rfl⟩, ⟨a', c', rfl⟩⟩ := hv
  have H := Lib.hid (rfl : ([] : List Pt) = [])
  go_enter Tryz.func14, Tryz.ntmps14
  go_wp2_with fail
  refine wp_loop_rounds 1 ?_
  rw [rounds_succ]
  go_wp2_with fail
  go_ret
  exact Tells.yes H.out rfl (Grew.refl _)
theorem Sl.shape {w : World} {v : Value} {p : List Pt} (h : Sl w v p) : ∃ a c, v = .slice a p.length c := by
  rcases h with ⟨rfl, a, c, rfl⟩ | ⟨b, o, c, rfl, _⟩
  · exact ⟨a, c, rfl⟩
  · exact ⟨_, _, rfl⟩
theorem same_any (p q : List Pt) (v v' : Value) (w : World) (hp : Sl w v p) (hq : Sl w v' q) (hm : p.length ≤ 9223372036854775807) : Calls Tryz.prog 14 #[v, v'] w (Tells (p = q) w) := by
  by_cases hl : p.length = q.length
  · by_cases h0 : p.length = 0
    · obtain ⟨a, c, e1⟩ := hp.shape
      obtain ⟨a', c', e2⟩ := hq.shape
      rw [h0] at e1
      rw [← hl, h0] at e2
      have e3 := len_nil h0
      have e4 := len_nil (hl ▸ h0)
      subst e3 e4
      exact same_zero v v' w ⟨⟨a, c, e1⟩, ⟨a', c', e2⟩⟩
    · rcases hp with ⟨e, _⟩ | ⟨b, o, c, e1, hr⟩
      · rw [e] at h0; exact absurd rfl h0
      · rcases hq with ⟨e, _⟩ | ⟨b', o', c', e2, hr'⟩
        · rw [e] at hl; exact absurd hl h0
        · rw [e1, e2]; exact same_rows p q b o c b' o' c' w hr hr' hl hm
  · exact same_far p q p.length q.length v v' w ⟨hp.shape, hq.shape⟩ (fun h => hl (by rw [h])) hl
end Hl
end Go.Proofs.YtpiajdahmcelnaaGreat
namespace Go.Proofs.YtpiajdahmcelnaaGreat
open Go.RowKit
namespace Hl
theorem coord_c (n : Int) (w : World) : Calls Tryz.prog 87 #[.int .i64 n] w fun e w' => e = .returned (.bool (decide (-500000 ≤ n ∧ n ≤ 500000))) ∧ w = w' := by
  by_cases h1 : -500000 ≤ n
  · by_cases h2 : n ≤ 500000
    · rw [decide_eq_true (show -500000 ≤ n ∧ n ≤ 500000 from ⟨h1, h2⟩)]
      go_enter Tryz.func87, Tryz.ntmps87
      go_wp2_with fail
      go_ret
      exact ⟨rfl, rfl⟩
    · rw [decide_eq_false (show ¬ (-500000 ≤ n ∧ n ≤ 500000) from fun h => h2 h.2)]
      go_enter Tryz.func87, Tryz.ntmps87
      go_wp2_with fail
      go_ret
      exact ⟨rfl, rfl⟩
  · rw [decide_eq_false (show ¬ (-500000 ≤ n ∧ n ≤ 500000) from fun h => h1 h.1)]
    go_enter Tryz.func87, Tryz.ntmps87
    go_wp2_with fail
    go_ret
    exact ⟨rfl, rfl⟩
theorem place_c (x : Pt) (w : World) : Calls Tryz.prog 72 #[.agg #[.int .i64 x.1, .int .i64 x.2]] w fun e w' => e = .returned (.bool (decide (Plc x))) ∧ w.alloc (.cells #[.int .i64 x.1, .int .i64 x.2] 30) = w' := by
  rcases x with ⟨x, y⟩
  have ed : decide (Plc (x, y)) = (decide (-500000 ≤ x ∧ x ≤ 500000) && decide (-500000 ≤ y ∧ y ≤ 500000)) := by
    rw [Bool.eq_iff_iff, decide_eq_true_eq, Bool.and_eq_true, decide_eq_true_eq, decide_eq_true_eq]
    exact Iff.rfl
  rw [ed]
  have cx := fun w => coord_c x w
  have cy := fun w => coord_c y w
  generalize decide (-500000 ≤ x ∧ x ≤ 500000) = p at cx ⊢
  generalize decide (-500000 ≤ y ∧ y ≤ 500000) = q at cy ⊢
  have CX := Lib.hid cx
  have CY := Lib.hid cy
  clear cx cy ed
  cases p
  · go_enter Tryz.func72, Tryz.ntmps72
    go_wp2_with fail
    refine (CX.out _).mono ?_
    rintro e w1 ⟨rfl, rfl⟩
    go_wp2_with fail
    go_ret
    exact ⟨rfl, rfl⟩
  · go_enter Tryz.func72, Tryz.ntmps72
    go_wp2_with fail
    refine (CX.out _).mono ?_
    rintro e w1 ⟨rfl, rfl⟩
    go_wp2_with fail
    refine (CY.out _).mono ?_
    rintro e w1 ⟨rfl, rfl⟩
    go_wp2_with fail
    go_ret
    exact ⟨rfl, rfl⟩
theorem places_c (p : List Pt) (b o c : Nat) (w : World) (hr : Row w b o p) (hl : p.length ≤ 9223372036854775807) : Calls Tryz.prog 55 #[.slice (some ⟨b, o, none⟩) p.length c] w (Tells (Plcs p) w) := by
  have HR := Lib.hid hr
  clear hr
  go_enter Tryz.func55, Tryz.ntmps55
  go_wp2_with fail
  go_loopw [7] (fun i wr => ∃ k : Nat, k ≤ p.length ∧ i = .int .i64 k ∧ Grew w wr ∧ Hid (∀ j, j < k → Plc (at' p j))) (fun i _ => p.length - (intOf i).toNat)
  case atStart => exact ⟨0, Nat.zero_le _, rfl, Grew.refl _, Lib.hid (fun j hj => by omega)⟩
  case round =>
    obtain ⟨k, hk, rfl, G, D⟩ := hrel
    by_cases hlt : k < p.length
    · obtain ⟨q0, q1⟩ := (HR.out.grown G).2 k hlt
      have PX : Hid (∀ w, Calls Tryz.prog 72 #[.agg #[.int .i64 (at' p k).1, .int .i64 (at' p k).2]] w fun e w' => e = .returned (.bool (decide (Plc (at' p k)))) ∧ Grew w w') := Lib.hid (fun w => (place_c (at' p k) w).mono (by rintro e w' ⟨rfl, rfl⟩; exact ⟨rfl, (Grew.refl w).alloc _ _⟩))
      by_cases hp : Plc (at' p k)
      · have HP := Lib.hid hp
        rw [decide_eq_true hp] at PX
        clear hp
        go_wp2_with fail
        refine (PX.out _).mono ?_
        rintro e w1 ⟨rfl, g1⟩
        have G1 : Grew w w1 := Grew.trans (G.alloc _ _) g1
        clear g1
        go_wp2_with fail
        go_roundw
        case rel => exact ⟨k + 1, by omega, by go_num, G1, Lib.hid (fun j hj => by
          by_cases e : j = k
          · rw [e]; exact HP.out
          · exact D.out j (by omega))⟩
        case measure => simp [intOf]; omega
      · have HP := Lib.hid hp
        rw [decide_eq_false hp] at PX
        clear hp
        go_wp2_with fail
        refine (PX.out _).mono ?_
        rintro e w1 ⟨rfl, g1⟩
        have G1 : Grew w w1 := Grew.trans (G.alloc _ _) g1
        clear g1
        go_wp2_with fail
        go_ret
        exact Tells.no (fun h => HP.out (h k hlt)) rfl G1
    · go_wp2_with fail
      go_ret
      exact Tells.yes (fun i hi => D.out i (by omega)) rfl G
theorem less_c (x y : Pt) (w : World) : Calls Tryz.prog 81 #[.agg #[.int .i64 x.1, .int .i64 x.2], .agg #[.int .i64 y.1, .int .i64 y.2]] w fun e w' => e = .returned (.bool (decide (ls x y))) ∧ (w.alloc (.cells #[.int .i64 (x.1), .int .i64 (x.2)] 30)).alloc (.cells #[.int .i64 (y.1), .int .i64 (y.2)] 30) = w' := by
  rcases x with ⟨a, b⟩
  rcases y with ⟨c, d⟩
  by_cases h : ls (a, b) (c, d)
  · rw [decide_eq_true h]
    rcases h with h | ⟨h, k⟩
    · simp only at h
      go_enter Tryz.func81, Tryz.ntmps81
      go_wp2_with fail
      go_ret
      exact ⟨rfl, rfl⟩
    · simp only at h k
      subst h
      go_enter Tryz.func81, Tryz.ntmps81
      go_wp2_with fail
      go_ret
      exact ⟨rfl, rfl⟩
  · rw [decide_eq_false h]
    by_cases e : a = c
    · subst e
      have k : d ≤ b := by
        by_cases k : b < d
        · exact absurd (Or.inr ⟨rfl, k⟩) h
        · omega
      clear h
      go_enter Tryz.func81, Tryz.ntmps81
      go_wp2_with fail
      go_ret
      exact ⟨by first | rfl | (simp; omega), rfl⟩
    · have k : c < a := by
        by_cases k : a < c
        · exact absurd (Or.inl k) h
        · omega
      have e' : (a == c) = false := by simp [e]
      clear h e
      go_enter Tryz.func81, Tryz.ntmps81
      go_wp2_with fail
      go_ret
      exact ⟨by first | rfl | (simp; omega), rfl⟩
theorem turn_c (x y z : Pt) (w : World) (ha : Plc x) (hb : Plc y) (hc : Plc z) : Calls Tryz.prog 92 #[.agg #[.int .i64 x.1, .int .i64 x.2], .agg #[.int .i64 y.1, .int .i64 y.2], .agg #[.int .i64 z.1, .int .i64 z.2]] w fun e w' => e = .returned (.int .i64 (cr x y z)) ∧ ((w.alloc (.cells #[.int .i64 (x.1), .int .i64 (x.2)] 30)).alloc (.cells #[.int .i64 (y.1), .int .i64 (y.2)] 30)).alloc (.cells #[.int .i64 (z.1), .int .i64 (z.2)] 30) = w' := by
  rcases x with ⟨a1, a2⟩
  rcases y with ⟨b1, b2⟩
  rcases z with ⟨c1, c2⟩
  obtain ⟨⟨m0, m1⟩, ⟨m2, m3⟩⟩ := cr_bd ha hb hc
  obtain ⟨⟨p0, p1⟩, ⟨p2, p3⟩⟩ := ha
  obtain ⟨⟨q0, q1⟩, ⟨q2, q3⟩⟩ := hb
  obtain ⟨⟨r0, r1⟩, ⟨r2, r3⟩⟩ := hc
  simp only at p0 p1 p2 p3 q0 q1 q2 q3 r0 r1 r2 r3 m0 m1 m2 m3
  go_enter Tryz.func92, Tryz.ntmps92
  go_wp2_with fail
  go_ret
  exact ⟨rfl, rfl⟩
end Hl
end Go.Proofs.YtpiajdahmcelnaaGreat
namespace Go.Proofs.YtpiajdahmcelnaaGreat
namespace Hl
open Go.ChangeShapes Go.WideShapes Go.ChangeAt Go.RowKit Go.Joins Go.Deep

set_option maxRecDepth 100000 in
theorem kids : Kids Tryz.prog (· < Tryz.prog.types.size) := kids_rows (by kernel_rfl) (by kernel_rfl)
set_option maxRecDepth 100000 in
theorem full : ∀ t e, t < Tryz.prog.types.size → Tryz.prog.underlying t = some (.slice e) → 0 < Tryz.prog.cellsOf e := slices_full_of Tryz.prog (by kernel_rfl)

theorem same_of {W W' : World} (g : Grew W W') {x : MemPlace} (h : x.block < W.heap.size) : W.sameAt W' x := Below.same g h
set_option maxRecDepth 100000 in
theorem stays {H : Type} {enc : TypeId × Value → H} {W W' : World} {base : Nat} {sp : Nat → Bool} (g : Grew W W') : ∀ {ts : List TypeId} {vs : List Value} {ds : List (DataW H)} {ps : List MemPlace}, (∀ t ∈ ts, t < Tryz.prog.types.size) → DataW.TrodAll enc Tryz.prog W base (fun _ => true) true ts vs ds ps →
    (∀ p ∈ ps, p.block < W.heap.size) → (∀ p ∈ ps, sp p.block = true) → DataW.TrodAll enc Tryz.prog W' base sp true ts vs ds ps
  | [], vs, ds, ps, _, h, _, _ => by
    obtain ⟨rfl, rfl, rfl⟩ := trodAll_nil h
    exact trodAll_mk0
  | t :: ts, vs, ds, ps, hT, h, hl, hs => by
    match vs, h with
    | v :: vs, h =>
      obtain ⟨v', vs', d, ds', p, q, e, rfl, rfl, h0, h1⟩ := trodAll_cons h
      obtain ⟨rfl, rfl⟩ := List.cons.inj e
      obtain ⟨n, hn⟩ := h0
      refine trodAll_cons_mk ⟨n, DataW.trod_stays kids (fun {t e} => full t e) (fun hh => by cases hh) (hT t List.mem_cons_self) hn (fun x hx => same_of g (hl x (List.mem_append_left _ hx))) (fun x hx => hs x (List.mem_append_left _ hx))⟩ ?_
      exact stays g (fun t ht => hT t (List.mem_cons_of_mem _ ht)) h1 (fun x hx => hl x (List.mem_append_right _ hx)) (fun x hx => hs x (List.mem_append_right _ hx))

set_option maxRecDepth 100000 in
/-- What a law's post asks, where all that was there is as it was. -/
theorem post_grew {H : Type} {enc : TypeId × Value → H} {f : Func} {s : ChangeSpec} {apart fresh handsOn again : Bool} {W W' : World} {args : Array Value} {v : Value} {ds gs : List (DataW H)} {before : List MemPlace}
    (hT : ∀ t ∈ f.params.toList, t < Tryz.prog.types.size) (hW : DataW.Whole enc Tryz.prog f.params.toList s.vars apart W args.toList ds gs before) (hA : DataW.TrodAll enc Tryz.prog W 0 (fun _ => true) true f.params.toList args.toList ds before)
    (hs : s.vars = []) (_hg : gs = []) (hargs : (s.fn H (ds ++ gs)).args = ds) (hvars : (s.fn H (ds ++ gs)).vars = [])
    (hres : ∀ (b : Nat) (sp : Nat → Bool) (hd : Bool), DataW.TrodAll enc Tryz.prog W' b sp hd f.resultTypes.toList (v.resultList f.resultTypes.size) (s.fn H (ds ++ gs)).results [])
    (g : Grew W W')
    (hok : ∀ (j : Nat) (t : TypeId) (r : Value), f.resultTypes[j]? = some t → (v.resultList f.resultTypes.size)[j]? = some r → Value.okWide Tryz.prog W' .any 0 t r) :
    s.post enc Tryz.prog f apart fresh handsOn again W args v W' := by
  have lt : ∀ x ∈ before, x.block < W.heap.size := fun x hx => hW.lt x hx
  have arg : ∀ sp : Nat → Bool, (∀ x ∈ before, sp x.block = true) → DataW.TrodAll enc Tryz.prog W' 0 sp true f.params.toList args.toList (s.fn H (ds ++ gs)).args before := fun sp hsp => by
    rw [hargs]
    exact stays g hT hA lt hsp
  have var : ∀ sp : Nat → Bool, DataW.TrodVars enc Tryz.prog W' sp s.vars (s.fn H (ds ++ gs)).vars [] := fun sp => by
    rw [hs, hvars]
    rfl
  refine ⟨ds, gs, before, [], before, [], hW, hres _ _ _, arg _ (fun x hx => by simpa using lt x hx), var _, World.keptBut_mono (fun x hx => ⟨hx, Or.inr (by simpa using hx)⟩) (Below.frame g (· ∈ before)), fun _ => ?_⟩
  obtain ⟨_, _, _, _, _, hz, hn⟩ := hW
  refine ⟨hok, _, _, ([] ++ before) ++ [], ⟨[] ++ before, [], trodAll_append (arg _ (fun _ _ => rfl)) (hres _ _ _), var _, rfl, ?_, ?_⟩, ?_⟩
  · intro b off hx
    have hin : MemPlace.cell b off ∈ before := by simpa using hx
    rw [Below.frozen (p := ⟨b, off, none⟩) g (lt _ hin)]
    exact hz b off hin
  · intro ha
    have := hn ha
    simpa using this
  · intro x hx _
    simpa using hx
set_option maxRecDepth 100000 in
theorem cellsPoint : Tryz.prog.cellsOf 30 = 2 := by kernel_rfl
set_option maxRecDepth 100000 in
theorem open_point {H : Type} {enc : TypeId × Value → H} {W : World} {base b0 : Nat} {sp : Nat → Bool} {held : Bool} {v : Value} {d : DataW H} {p : List MemPlace} (hval : Value.okWide Tryz.prog W .any b0 30 v) (h : DataW.Trod enc Tryz.prog W base sp held 30 v d p) :
    ∃ x : Pt, v = .agg #[.int .i64 x.1, .int .i64 x.2] := by
  obtain ⟨c0, c1, y0, y1, m, rfl, rfl, rfl, hy0, hy1⟩ := open_agg2 Tryz.underlying30 (by kernel_rfl) cellsPoint hval h
  obtain ⟨a, e0, rfl, wa⟩ := DataW.trod_int Tryz.underlying3 hy0
  obtain ⟨b, e1, rfl, wb⟩ := DataW.trod_int Tryz.underlying3 hy1
  simp at e0 e1
  subst e0 e1
  exact ⟨(a, b), rfl⟩
end Hl
end Go.Proofs.YtpiajdahmcelnaaGreat
