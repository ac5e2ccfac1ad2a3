/-
  A law of regions at barrier operations; a drawn region in a round.
-/
import Derived.Deep.RegionHeld3
import Derived.RangeFuncCalls
import Derived.OrdersIn
import Derived.TacticsIn
import Derived.Test.YtpiajdahmcelnaaGreatRows
namespace Go.Proofs.YtpiajdahmcelnaaGreat
namespace Bar
section
variable {P : Program} {ops : Array Oper} {Q : Exit → Act → World → Prop} {md : Region.Mode} {S : World → Prop} {kb : Nat}

/-- As wpAny, and S is kept as long as operation kb has not come up. -/
def Walk (P : Program) (md : Region.Mode) (ops : Array Oper) (Q : Exit → Act → World → Prop) (S : World → Prop) (kb : Nat) : Nat → Array Bool → Act → World → Prop
  | 0, L, a, w => Region.ready md ops L = [] ∧ Q .normal a w
  | fuel + 1, L, a, w => (Region.ready md ops L = [] → Q .normal a w) ∧
    ∀ i, i ∈ Region.ready md ops L → wpOp P ops Q i (fun a' w' => ((L.setIfInBounds i true).getD kb true = false → S w') ∧ Walk P md ops Q S kb fuel (L.setIfInBounds i true) a' w') a w

theorem Walk.any : ∀ (fuel : Nat) (L : Array Bool) (a : Act) (w : World), Walk P md ops Q S kb fuel L a w → wpAny P md ops Q fuel L a w := by
  intro fuel
  induction fuel with
  | zero => intro L a w h; exact h
  | succ fuel ih => intro L a w h; exact ⟨h.1, fun i hi => wpOp_mono (fun a' w' k => ih _ a' w' k.2) (h.2 i hi)⟩
/-- Behind the barrier nothing more is asked. -/
theorem Walk.of_any : ∀ (fuel : Nat) (L : Array Bool) (a : Act) (w : World), L.getD kb true = true → wpAny P md ops Q fuel L a w → Walk P md ops Q S kb fuel L a w := by
  intro fuel
  induction fuel with
  | zero => intro L a w _ h; exact h
  | succ fuel ih =>
    intro L a w hk h
    have hk' : ∀ i, (L.setIfInBounds i true).getD kb true = true := fun i => by
      by_cases e : i = kb
      · rw [e]
        by_cases hs : kb < L.size
        · simp [hs]
        · simp [Array.getElem?_eq_none (show (L.setIfInBounds kb true).size ≤ kb by simp; omega)]
      · rw [getD_set_ne true e]; exact hk
    exact ⟨h.1, fun i hi => wpOp_mono (fun a' w' k => ⟨fun h0 => (by rw [hk'] at h0; cases h0), ih _ a' w' (hk' i) k⟩) (h.2 i hi)⟩

/-- Each of us has not come up, and waits for i or for one of us; kb is one of them. -/
def waits (md : Region.Mode) (ops : Array Oper) (L : Array Bool) (kb i : Nat) (us : List Nat) : Bool :=
  us.contains kb && us.all fun u => !(L.getD u true) && ((ops[u]?).map fun o => o.after.any fun e => Region.binds md e && (e.on == i || us.contains e.on)).getD false
def Waits (md : Region.Mode) (ops : Array Oper) (L : Array Bool) (kb i : Nat) (us : List Nat) : Prop :=
  kb ∈ us ∧ ∀ u, u ∈ us → L.getD u true = false ∧ ∃ o, ops[u]? = some o ∧ ∃ e, e ∈ o.after ∧ Region.binds md e = true ∧ (e.on = i ∨ e.on ∈ us)
theorem waits_spec {L : Array Bool} {i : Nat} {us : List Nat} (h : waits md ops L kb i us = true) : Waits md ops L kb i us := by
  unfold waits at h
  rw [Bool.and_eq_true, List.all_eq_true] at h
  refine ⟨by simpa using h.1, fun u hu => ?_⟩
  have h2 := h.2 u hu
  rw [Bool.and_eq_true] at h2
  refine ⟨by simpa using h2.1, ?_⟩
  have h3 := h2.2
  cases ho : ops[u]? with
  | none => rw [ho] at h3; simp at h3
  | some o =>
    rw [ho] at h3
    simp only [Option.map_some, Option.getD_some] at h3
    obtain ⟨e, he, hb⟩ := Array.any_eq_true'.1 h3
    simp only [Bool.and_eq_true, Bool.or_eq_true, beq_iff_eq, List.contains_eq_mem, decide_eq_true_eq] at hb
    exact ⟨o, rfl, e, he, hb.1, hb.2⟩
theorem unlisted {L : Array Bool} {i : Nat} (h0 : L.getD i true = false) (h1 : L.getD i false = true) : False := by
  by_cases hs : i < L.size
  · simp [hs] at h0 h1
    rw [h0] at h1; cases h1
  · simp [Array.getElem?_eq_none (show L.size ≤ i by omega)] at h1
/-- While i has not come up, none of those that wait for it may. -/
theorem Waits.not_ready {L : Array Bool} {i j : Nat} {us : List Nat} (h : Waits md ops L kb i us) (hi : L.getD i true = false) (hj : j ∈ Region.ready md ops L) : j ∉ us := by
  intro hu
  obtain ⟨_, o, ho, e, he, hb, hon⟩ := h.2 j hu
  obtain ⟨_, o', ho', hall⟩ := mem_ready.1 hj
  rw [ho] at ho'
  cases ho'
  have hl := hall e he hb
  rcases hon with hon | hon
  · rw [hon] at hl; exact unlisted hi hl
  · exact unlisted (h.2 _ hon).1 hl
theorem Waits.step {L : Array Bool} {i j : Nat} {us : List Nat} (h : Waits md ops L kb i us) (hj : j ∉ us) : Waits md ops (L.setIfInBounds j true) kb i us :=
  ⟨h.1, fun u hu => ⟨by rw [getD_set_ne true (fun e => hj (by rw [e]; exact hu))]; exact (h.2 u hu).1, (h.2 u hu).2⟩⟩

theorem Walk.first {i : Nat} {oi : Oper} {v : Value} {us : List Nat} (hi : ops[i]? = some oi) (hsel : ∀ (j : Nat) (o : Oper) cs b, ops[j]? = some o → o.op ≠ .select cs b)
    (hQ : ∀ c a w, Q (.panic c) (a.put oi.dst v) w → Q (.panic c) a w) :
    ∀ (fuel : Nat) (L : Array Bool) (a : Act) (w : World),
      (∀ j oj, ops[j]? = some oj → j ≠ i → L.getD j true = false → (∀ e ∈ oj.after, Region.binds md e = true → e.on ≠ i) → oi.apart ops oj = true) →
      i ∈ Region.ready md ops L → Waits md ops L kb i us → YieldsIf P ops S oi v a → S w →
      Walk P md ops Q S kb fuel (L.setIfInBounds i true) (a.put oi.dst v) w → Walk P md ops Q S kb (fuel + 1) L a w := by
  intro fuel
  induction fuel with
  | zero =>
    intro L a w _ hr _ hy hS H
    refine ⟨fun h => (by rw [h] at hr; cases hr), fun j hj => ?_⟩
    by_cases e : j = i
    · subst e; exact hy.wpOp hi hS ⟨fun _ => hS, H⟩
    · have := ready_mono hj e
      rw [H.1] at this
      cases this
  | succ fuel ih =>
    intro L a w hf hr hw hy hS H
    have hun := (mem_ready.1 hr).1
    refine ⟨fun h => (by rw [h] at hr; cases hr), fun j hj => ?_⟩
    by_cases e : j = i
    · subst e; exact hy.wpOp hi hS ⟨fun _ => hS, H⟩
    · have hju := hw.not_ready hun hj
      have hiu : i ∉ us := hw.not_ready hun hr
      obtain ⟨hjun, oj, hoj, hall⟩ := mem_ready.1 hj
      have hno : ∀ e ∈ oj.after, Region.binds md e = true → e.on ≠ i := fun e' he hb heq => by
        have := hall e' he hb
        rw [heq] at this
        exact unlisted hun this
      have h2 := wpOp_putIf hoj (hf j oj hoj e hjun hno) (fun cs b => hsel i oi cs b hi) (fun cs b => hsel j oj cs b hoj) hQ hy (H.2 j (ready_mono hj e))
      have hw' := hw.step hju
      have kbn : ((L.setIfInBounds i true).setIfInBounds j true).getD kb true = false := by
        rw [getD_set_ne true (fun e => hju (by rw [e]; exact hw.1)), getD_set_ne true (fun e => hiu (by rw [e]; exact hw.1))]
        exact (hw.2 kb hw.1).1
      refine wpOp_mono (fun a' w' h3 => ⟨fun _ => h3.2.1 kbn, ih _ a' w' (fun k ok hk hki hkun hkno => hf k ok hk hki ?_ hkno) (ready_mono hr (fun h => e h.symm)) hw' h3.1 (h3.2.1 kbn) ?_⟩) h2
      · by_cases ejk : j = k
        · subst ejk; exact hjun
        · rw [getD_set_ne true ejk] at hkun; exact hkun
      · rw [Array.setIfInBounds_comm _ _ e]
        exact h3.2.2

/-- Number i is taken first: it yields v in every world that meets S; what ends S waits for it. -/
theorem Walk.take {i : Nat} {oi : Oper} {v : Value} (us : List Nat) {fuel : Nat} {L : Array Bool} {a : Act} {w : World} (hi : ops[i]? = some oi)
    (hs : Region.noSelect ops = true) (hf : Region.free md ops L i = true) (hr : (Region.ready md ops L).contains i = true) (hw : waits md ops L kb i us = true)
    (hQ : ∀ c a w, Q (.panic c) (a.put oi.dst v) w → Q (.panic c) a w) (hy : YieldsIf P ops S oi v a) (hS : S w)
    (h : Walk P md ops Q S kb fuel (L.setIfInBounds i true) (a.put oi.dst v) w) : Walk P md ops Q S kb (fuel + 1) L a w :=
  Walk.first hi (Region.noSelect_spec hs) hQ fuel L a w (Region.free_spec hi hf) (by simpa using hr) (waits_spec hw) hy hS h
theorem Walk.firstY {i : Nat} {oi : Oper} {v : Value} (hi : ops[i]? = some oi) (hsel : ∀ (j : Nat) (o : Oper) cs b, ops[j]? = some o → o.op ≠ .select cs b)
    (hQ : ∀ c a w, Q (.panic c) (a.put oi.dst v) w → Q (.panic c) a w) (hk : i ≠ kb) :
    ∀ (fuel : Nat) (L : Array Bool) (a : Act) (w : World),
      (∀ j oj, ops[j]? = some oj → j ≠ i → L.getD j true = false → (∀ e ∈ oj.after, Region.binds md e = true → e.on ≠ i) → oi.apart ops oj = true) →
      i ∈ Region.ready md ops L → Yields P ops oi v a → (L.getD kb true = false → S w) →
      Walk P md ops Q S kb fuel (L.setIfInBounds i true) (a.put oi.dst v) w → Walk P md ops Q S kb (fuel + 1) L a w := by
  intro fuel
  induction fuel with
  | zero =>
    intro L a w _ hr hy hS H
    refine ⟨fun h => (by rw [h] at hr; cases hr), fun j hj => ?_⟩
    by_cases e : j = i
    · subst e; exact hy.wpOp hi ⟨fun h0 => hS (by rwa [getD_set_ne true hk] at h0), H⟩
    · have := ready_mono hj e
      rw [H.1] at this
      cases this
  | succ fuel ih =>
    intro L a w hf hr hy hS H
    have hun := (mem_ready.1 hr).1
    refine ⟨fun h => (by rw [h] at hr; cases hr), fun j hj => ?_⟩
    by_cases e : j = i
    · subst e; exact hy.wpOp hi ⟨fun h0 => hS (by rwa [getD_set_ne true hk] at h0), H⟩
    · obtain ⟨hjun, oj, hoj, hall⟩ := mem_ready.1 hj
      have hno : ∀ e ∈ oj.after, Region.binds md e = true → e.on ≠ i := fun e' he hb heq => by
        have := hall e' he hb
        rw [heq] at this
        exact unlisted hun this
      have h2 := wpOp_put hoj (hf j oj hoj e hjun hno) (fun cs b => hsel i oi cs b hi) (fun cs b => hsel j oj cs b hoj) hQ hy (H.2 j (ready_mono hj e))
      have hs : ∀ w', (((L.setIfInBounds i true).setIfInBounds j true).getD kb true = false → S w') → (L.setIfInBounds j true).getD kb true = false → S w' := fun w' h h0 => h (by
        rw [Array.setIfInBounds_comm _ _ (fun e' => e e'.symm), getD_set_ne true hk]
        exact h0)
      refine wpOp_mono (fun a' w' h3 => ⟨hs w' h3.2.1, ih _ a' w' (fun k ok hk hki hkun hkno => hf k ok hk hki ?_ hkno) (ready_mono hr (fun h => e h.symm)) h3.1 (hs w' h3.2.1) ?_⟩) h2
      · by_cases ejk : j = k
        · subst ejk; exact hjun
        · rw [getD_set_ne true ejk] at hkun; exact hkun
      · rw [Array.setIfInBounds_comm _ _ e]
        exact h3.2.2
/-- Number i is taken first: it yields v in whatever world. -/
theorem Walk.takeY {i : Nat} {oi : Oper} {v : Value} {fuel : Nat} {L : Array Bool} {a : Act} {w : World} (hi : ops[i]? = some oi)
    (hs : Region.noSelect ops = true) (hf : Region.free md ops L i = true) (hr : (Region.ready md ops L).contains i = true) (hk : (i == kb) = false)
    (hQ : ∀ c a w, Q (.panic c) (a.put oi.dst v) w → Q (.panic c) a w) (hy : Yields P ops oi v a) (hS : S w)
    (h : Walk P md ops Q S kb fuel (L.setIfInBounds i true) (a.put oi.dst v) w) : Walk P md ops Q S kb (fuel + 1) L a w :=
  Walk.firstY hi (Region.noSelect_spec hs) hQ (by simpa using hk) fuel L a w (Region.free_spec hi hf) (by simpa using hr) hy (fun _ => hS) h
/-- Number i alone may come up, ahead of the barrier: behind it S is shown anew. -/
theorem Walk.step {i : Nat} {o : Oper} {fuel : Nat} {L : Array Bool} {a : Act} {w : World} (hr : Region.ready md ops L = [i]) (ho : ops[i]? = some o)
    (h : ∀ K' : Act → World → Prop, Shut (∀ a w, S w → (S w → Walk P md ops Q S kb fuel (L.setIfInBounds i true) a w) → K' a w) → if Region.wanted o (yielded ops a.tmps) = true then Oper.wp P o a w K' Q else K' (a.put o.dst undef) w) :
    Walk P md ops Q S kb (fuel + 1) L a w :=
  ⟨fun h0 => (by rw [h0] at hr; simp at hr), fun j hj => by
    rw [hr] at hj
    obtain rfl : j = i := by simpa using hj
    exact wpOp_step ho (fun K' hK => h K' (fun a w hS hW => hK a w ⟨fun _ => hS, hW hS⟩))⟩
/-- The barrier alone may come up: behind it S is no more. -/
theorem Walk.pass {o : Oper} {fuel : Nat} {L : Array Bool} {a : Act} {w : World} (hr : Region.ready md ops L = [kb]) (ho : ops[kb]? = some o) (hb : (L.setIfInBounds kb true).getD kb true = true)
    (h : ∀ K' : Act → World → Prop, Shut (∀ a w, wpAny P md ops Q fuel (L.setIfInBounds kb true) a w → K' a w) → if Region.wanted o (yielded ops a.tmps) = true then Oper.wp P o a w K' Q else K' (a.put o.dst undef) w) :
    Walk P md ops Q S kb (fuel + 1) L a w :=
  ⟨fun h0 => (by rw [h0] at hr; simp at hr), fun j hj => by
    rw [hr] at hj
    obtain rfl : j = kb := by simpa using hj
    exact wpOp_step ho (fun K' hK => h K' (fun a w hW => hK a w ⟨fun h0 => (by rw [hb] at h0; cases h0), Walk.of_any _ _ _ _ hb hW⟩))⟩
/-- The beginning. -/
theorem begin_ {id : Nat} {a : Act} {w : World} (kb : Nat) (hm : P.follows .mixedOrders = true) (hS : S w.drew)
    (h : S w.drew → Walk P .any ops Q S kb ops.size (Array.replicate ops.size false) a w.drew) : (Code.region id ops true).wp P Q a w :=
  wp_region_any hm ((h hS).any _ _ _ _)
end
end Bar
end Go.Proofs.YtpiajdahmcelnaaGreat
namespace Go.Proofs.YtpiajdahmcelnaaGreat
namespace Bar
/-- Q at the region's end alone. -/
def Only (Q : Exit → Act → World → Prop) : Exit → Act → World → Prop
  | .normal, a, w => Q .normal a w
  | _, _, _ => False
theorem Only.out {Q : Exit → Act → World → Prop} {a : Act} {w : World} (h : Q .normal a w) : Only Q .normal a w := h
theorem only_lets {Q : Exit → Act → World → Prop} : ¬ LetsOut (Only Q) := fun ⟨_, _, h⟩ => h
def noDefer (ops : Array Oper) : Bool := ops.all fun o => match o.op with | .defer _ => false | _ => true
section
variable {P : Program} {ops : Array Oper} {Q : Exit → Act → World → Prop} {md : Region.Mode} {S : World → Prop} {l n : Nat}
theorem op_round {o : Oper} (hd : ∀ c, o.op ≠ .defer c) {a : Act} {w : World} {K : Act → World → Prop} (h : o.wp P a w K (Only Q)) : o.wpIn (Fence.wide.inRound l) n P a w K Q := by
  refine ⟨fun _ _ => trivial, ?_⟩
  rw [show (Fence.wide.inRound l).round = some l from rfl, Oper.semAt_some l _ _ hd]
  unfold Oper.wp at h
  have hn : (Fence.wide.inRound l).depth.isSome = true → 1 ≤ n := fun e => by cases e
  generalize (execOp a.eval o).run P w = r at h ⊢
  cases r with
  | ok x w' =>
    cases x with
    | value v => exact h
    | skip => exact h
    | defer d => exact h
    | enter f args =>
      refine ⟨hn, CallsIn.inRound l (callsIn_wide.2 (Calls.mono h fun e w'' he => ?_))⟩
      cases e with
      | returned v => exact he
      | panicked chain => exact (he : False).elim
      | outgrown => exact absurd he only_lets
    | row row args => exact ⟨hn, fun c cs _ => let ⟨v, w'', r, s⟩ := h c cs; ⟨v, w'', r, stepsIn_wide.2 s⟩⟩
    | _ => exact (h : False).elim
  | halt x w' => cases x <;> exact (h : False).elim
theorem any_round (hd : noDefer ops = true) : ∀ (fuel : Nat) (L : Array Bool) (a : Act) (w : World), wpAny P md ops (Only Q) fuel L a w → wpAnyIn (Fence.wide.inRound l) n P md ops Q fuel L a w := by
  intro fuel
  induction fuel with
  | zero => intro L a w h; exact ⟨h.1, h.2⟩
  | succ fuel ih =>
    intro L a w h
    refine ⟨fun h0 => h.1 h0, fun i hi => wpOpIn_mono (fun a' w' h' => ih _ a' w' h') ?_⟩
    have h1 := h.2 i hi
    unfold wpOp at h1
    unfold wpOpIn
    cases ho : ops[i]? with
    | none => rw [ho] at h1; exact h1
    | some o =>
      rw [ho] at h1
      simp only at h1 ⊢
      have hdo : ∀ c, o.op ≠ .defer c := fun c hc => by
        have := Array.all_eq_true_iff_forall_mem.1 hd o (Array.mem_of_getElem? ho)
        rw [hc] at this
        cases this
      split at h1
      · rename_i hw
        rw [if_pos hw]
        exact op_round hdo (h1.resolve_right (fun h => only_lets h.2))
      · rename_i hw
        rw [if_neg hw]
        exact ⟨fun _ _ => trivial, h1⟩
/-- The beginning, in a round. -/
theorem begin_round {id : Nat} {a : Act} {w : World} (kb : Nat) (hm : P.follows .mixedOrders = true) (hd : noDefer ops = true) (hS : S w.drew)
    (h : S w.drew → Walk P .any ops (Only Q) S kb ops.size (Array.replicate ops.size false) a w.drew) : (Code.region id ops true).wpIn (Fence.wide.inRound l) n P Q a w :=
  wpIn_region_any hm (any_round hd _ _ _ _ ((h hS).any _ _ _ _))
end
end Bar
end Go.Proofs.YtpiajdahmcelnaaGreat
