/-
  A law of regions at barrier operations; a drawn region in a round.
  The landed bounds and box.
-/
import Derived.Deep.RegionHeld3
import Derived.RangeFuncCalls
import Derived.OrdersIn
import Derived.TacticsIn
import Derived.Test.YtbpgfenippiepaaGreatDoorRows
import Derived.Shelf.Abstract
import Derived.Deep.Cut
import Derived.Deep.CutRange
import Derived.Test.YtbpgfenippiepaaGreatDoorHullCa
import Derived.Test.YtbpgfenippiepaaGreatDoorHullInB
namespace Go.Proofs.YtbpgfenippiepaaGreatDoor
namespace Bar
section
variable {P:Program} {ops:Array Oper} {Q:Exit→Act→World→Prop} {md:Region.Mode} {S:World→Prop} {kb:Nat}
def Walk (P:Program) (md:Region.Mode) (ops:Array Oper) (Q:Exit→Act→World→Prop) (S:World→Prop) (kb:Nat):Nat→Array Bool→Act→World→Prop
 | 0,L,a,w => Region.ready md ops L=[]∧Q .normal a w
 | fuel+1,L,a,w => (Region.ready md ops L=[]→Q .normal a w) ∧
   ∀ i,i ∈ Region.ready md ops L→wpOp P ops Q i (fun a' w' => ((L.setIfInBounds i true).getD kb true=false→S w')∧Walk P md ops Q S kb fuel (L.setIfInBounds i true) a' w') a w
theorem Walk.any:∀ (fuel:Nat) (L:Array Bool) (a:Act) (w:World),Walk P md ops Q S kb fuel L a w→wpAny P md ops Q fuel L a w:=by
 intro fuel
 induction fuel with
 | zero => intro L a w h;exact h
 | succ fuel ih => intro L a w h;exact ⟨h.1,fun i hi => wpOp_mono (fun a' w' k => ih _ a' w' k.2) (h.2 i hi)⟩
theorem Walk.of_any:∀ (fuel:Nat) (L:Array Bool) (a:Act) (w:World),L.getD kb true=true→wpAny P md ops Q fuel L a w→Walk P md ops Q S kb fuel L a w:=by
 intro fuel
 induction fuel with
 | zero => intro L a w _ h;exact h
 | succ fuel ih =>
   intro L a w hk h
   have hk':∀ i,(L.setIfInBounds i true).getD kb true=true:=fun i => by
    by_cases e:i=kb
    ·rw [e]
     by_cases hs:kb < L.size
     ·simp [hs]
     ·simp [Array.getElem?_eq_none (show (L.setIfInBounds kb true).size≤kb by simp;omega)]
    ·rw [getD_set_ne true e];exact hk
   exact ⟨h.1,fun i hi => wpOp_mono (fun a' w' k => ⟨fun h0 => (by rw [hk'] at h0;cases h0),ih _ a' w' (hk' i) k⟩) (h.2 i hi)⟩
def waits (md:Region.Mode) (ops:Array Oper) (L:Array Bool) (kb i:Nat) (us:List Nat):Bool :=
 us.contains kb && us.all fun u => !(L.getD u true) && ((ops[u]?).map fun o => o.after.any fun e => Region.binds md e && (e.on == i || us.contains e.on)).getD false
def Waits (md:Region.Mode) (ops:Array Oper) (L:Array Bool) (kb i:Nat) (us:List Nat):Prop :=
 kb ∈ us∧∀ u,u ∈ us→L.getD u true=false∧∃ o,ops[u]? = some o∧∃ e,e ∈ o.after∧Region.binds md e=true∧(e.on=i∨e.on ∈ us)
theorem waits_spec {L:Array Bool} {i:Nat} {us:List Nat} (h:waits md ops L kb i us=true):Waits md ops L kb i us:=by
 unfold waits at h
 rw [Bool.and_eq_true,List.all_eq_true] at h
 refine ⟨by simpa using h.1,fun u hu => ?_⟩
 have h2:=h.2 u hu
 rw [Bool.and_eq_true] at h2
 refine ⟨by simpa using h2.1,?_⟩
 have h3:=h2.2
 cases ho:ops[u]? with
 | none => rw [ho] at h3;simp at h3
 | some o =>
   rw [ho] at h3
   simp only [Option.map_some,Option.getD_some] at h3
   obtain ⟨e,he,hb⟩:=Array.any_eq_true'.1 h3
   simp only [Bool.and_eq_true,Bool.or_eq_true,beq_iff_eq,List.contains_eq_mem,decide_eq_true_eq] at hb
   exact ⟨o,rfl,e,he,hb.1,hb.2⟩
theorem unlisted {L:Array Bool} {i:Nat} (h0:L.getD i true=false) (h1:L.getD i false=true):False:=by
 by_cases hs:i < L.size
 ·simp [hs] at h0 h1
  rw [h0] at h1;cases h1
 ·simp [Array.getElem?_eq_none (show L.size≤i by omega)] at h1
theorem Waits.not_ready {L:Array Bool} {i j:Nat} {us:List Nat} (h:Waits md ops L kb i us) (hi:L.getD i true=false) (hj:j ∈ Region.ready md ops L):j ∉ us:=by
 intro hu
 obtain ⟨_,o,ho,e,he,hb,hon⟩:=h.2 j hu
 obtain ⟨_,o',ho',hall⟩:=mem_ready.1 hj
 rw [ho] at ho'
 cases ho'
 have hl:=hall e he hb
 rcases hon with hon | hon
 ·rw [hon] at hl;exact unlisted hi hl
 ·exact unlisted (h.2 _ hon).1 hl
theorem Waits.step {L:Array Bool} {i j:Nat} {us:List Nat} (h:Waits md ops L kb i us) (hj:j ∉ us):Waits md ops (L.setIfInBounds j true) kb i us :=
 ⟨h.1,fun u hu => ⟨by rw [getD_set_ne true (fun e => hj (by rw [e];exact hu))];exact (h.2 u hu).1,(h.2 u hu).2⟩⟩
theorem Walk.first {i:Nat} {oi:Oper} {v:Value} {us:List Nat} (hi:ops[i]? = some oi) (hsel:∀ (j:Nat) (o:Oper) cs b,ops[j]? = some o→o.op ≠ .select cs b)
  (hQ:∀ c a w,Q (.panic c) (a.put oi.dst v) w→Q (.panic c) a w) :
  ∀ (fuel:Nat) (L:Array Bool) (a:Act) (w:World),
    (∀ j oj,ops[j]? = some oj→j ≠ i→L.getD j true=false→(∀ e ∈ oj.after,Region.binds md e=true→e.on ≠ i)→oi.apart ops oj=true) →
    i ∈ Region.ready md ops L→Waits md ops L kb i us→YieldsIf P ops S oi v a→S w →
    Walk P md ops Q S kb fuel (L.setIfInBounds i true) (a.put oi.dst v) w→Walk P md ops Q S kb (fuel+1) L a w:=by
 intro fuel
 induction fuel with
 | zero =>
   intro L a w _ hr _ hy hS H
   refine ⟨fun h => (by rw [h] at hr;cases hr),fun j hj => ?_⟩
   by_cases e:j=i
   ·subst e;exact hy.wpOp hi hS ⟨fun _ => hS,H⟩
   ·have:=ready_mono hj e
    rw [H.1] at this
    cases this
 | succ fuel ih =>
   intro L a w hf hr hw hy hS H
   have hun:=(mem_ready.1 hr).1
   refine ⟨fun h => (by rw [h] at hr;cases hr),fun j hj => ?_⟩
   by_cases e:j=i
   ·subst e;exact hy.wpOp hi hS ⟨fun _ => hS,H⟩
   ·have hju:=hw.not_ready hun hj
    have hiu:i ∉ us:=hw.not_ready hun hr
    obtain ⟨hjun,oj,hoj,hall⟩:=mem_ready.1 hj
    have hno:∀ e ∈ oj.after,Region.binds md e=true→e.on ≠ i:=fun e' he hb heq => by
     have:=hall e' he hb
     rw [heq] at this
     exact unlisted hun this
    have h2:=wpOp_putIf hoj (hf j oj hoj e hjun hno) (fun cs b => hsel i oi cs b hi) (fun cs b => hsel j oj cs b hoj) hQ hy (H.2 j (ready_mono hj e))
    have hw':=hw.step hju
    have kbn:((L.setIfInBounds i true).setIfInBounds j true).getD kb true=false:=by
     rw [getD_set_ne true (fun e => hju (by rw [e];exact hw.1)),getD_set_ne true (fun e => hiu (by rw [e];exact hw.1))]
     exact (hw.2 kb hw.1).1
    refine wpOp_mono (fun a' w' h3 => ⟨fun _ => h3.2.1 kbn,ih _ a' w' (fun k ok hk hki hkun hkno => hf k ok hk hki ?_ hkno) (ready_mono hr (fun h => e h.symm)) hw' h3.1 (h3.2.1 kbn) ?_⟩) h2
    ·by_cases ejk:j=k
     ·subst ejk;exact hjun
     ·rw [getD_set_ne true ejk] at hkun;exact hkun
    ·rw [Array.setIfInBounds_comm _ _ e]
     exact h3.2.2
theorem Walk.take {i:Nat} {oi:Oper} {v:Value} (us:List Nat) {fuel:Nat} {L:Array Bool} {a:Act} {w:World} (hi:ops[i]? = some oi)
  (hs:Region.noSelect ops=true) (hf:Region.free md ops L i=true) (hr:(Region.ready md ops L).contains i=true) (hw:waits md ops L kb i us=true)
  (hQ:∀ c a w,Q (.panic c) (a.put oi.dst v) w→Q (.panic c) a w) (hy:YieldsIf P ops S oi v a) (hS:S w)
  (h:Walk P md ops Q S kb fuel (L.setIfInBounds i true) (a.put oi.dst v) w):Walk P md ops Q S kb (fuel+1) L a w :=
 Walk.first hi (Region.noSelect_spec hs) hQ fuel L a w (Region.free_spec hi hf) (by simpa using hr) (waits_spec hw) hy hS h
theorem Walk.firstY {i:Nat} {oi:Oper} {v:Value} (hi:ops[i]? = some oi) (hsel:∀ (j:Nat) (o:Oper) cs b,ops[j]? = some o→o.op ≠ .select cs b)
  (hQ:∀ c a w,Q (.panic c) (a.put oi.dst v) w→Q (.panic c) a w) (hk:i ≠ kb) :
  ∀ (fuel:Nat) (L:Array Bool) (a:Act) (w:World),
    (∀ j oj,ops[j]? = some oj→j ≠ i→L.getD j true=false→(∀ e ∈ oj.after,Region.binds md e=true→e.on ≠ i)→oi.apart ops oj=true) →
    i ∈ Region.ready md ops L→Yields P ops oi v a→(L.getD kb true=false→S w) →
    Walk P md ops Q S kb fuel (L.setIfInBounds i true) (a.put oi.dst v) w→Walk P md ops Q S kb (fuel+1) L a w:=by
 intro fuel
 induction fuel with
 | zero =>
   intro L a w _ hr hy hS H
   refine ⟨fun h => (by rw [h] at hr;cases hr),fun j hj => ?_⟩
   by_cases e:j=i
   ·subst e;exact hy.wpOp hi ⟨fun h0 => hS (by rwa [getD_set_ne true hk] at h0),H⟩
   ·have:=ready_mono hj e
    rw [H.1] at this
    cases this
 | succ fuel ih =>
   intro L a w hf hr hy hS H
   have hun:=(mem_ready.1 hr).1
   refine ⟨fun h => (by rw [h] at hr;cases hr),fun j hj => ?_⟩
   by_cases e:j=i
   ·subst e;exact hy.wpOp hi ⟨fun h0 => hS (by rwa [getD_set_ne true hk] at h0),H⟩
   ·obtain ⟨hjun,oj,hoj,hall⟩:=mem_ready.1 hj
    have hno:∀ e ∈ oj.after,Region.binds md e=true→e.on ≠ i:=fun e' he hb heq => by
     have:=hall e' he hb
     rw [heq] at this
     exact unlisted hun this
    have h2:=wpOp_put hoj (hf j oj hoj e hjun hno) (fun cs b => hsel i oi cs b hi) (fun cs b => hsel j oj cs b hoj) hQ hy (H.2 j (ready_mono hj e))
    have hs:∀ w',(((L.setIfInBounds i true).setIfInBounds j true).getD kb true=false→S w')→(L.setIfInBounds j true).getD kb true=false→S w':=fun w' h h0 => h (by
     rw [Array.setIfInBounds_comm _ _ (fun e' => e e'.symm),getD_set_ne true hk]
     exact h0)
    refine wpOp_mono (fun a' w' h3 => ⟨hs w' h3.2.1,ih _ a' w' (fun k ok hk hki hkun hkno => hf k ok hk hki ?_ hkno) (ready_mono hr (fun h => e h.symm)) h3.1 (hs w' h3.2.1) ?_⟩) h2
    ·by_cases ejk:j=k
     ·subst ejk;exact hjun
     ·rw [getD_set_ne true ejk] at hkun;exact hkun
    ·rw [Array.setIfInBounds_comm _ _ e]
     exact h3.2.2
theorem Walk.takeY {i:Nat} {oi:Oper} {v:Value} {fuel:Nat} {L:Array Bool} {a:Act} {w:World} (hi:ops[i]? = some oi)
  (hs:Region.noSelect ops=true) (hf:Region.free md ops L i=true) (hr:(Region.ready md ops L).contains i=true) (hk:(i == kb)=false)
  (hQ:∀ c a w,Q (.panic c) (a.put oi.dst v) w→Q (.panic c) a w) (hy:Yields P ops oi v a) (hS:S w)
  (h:Walk P md ops Q S kb fuel (L.setIfInBounds i true) (a.put oi.dst v) w):Walk P md ops Q S kb (fuel+1) L a w :=
 Walk.firstY hi (Region.noSelect_spec hs) hQ (by simpa using hk) fuel L a w (Region.free_spec hi hf) (by simpa using hr) hy (fun _ => hS) h
theorem Walk.step {i:Nat} {o:Oper} {fuel:Nat} {L:Array Bool} {a:Act} {w:World} (hr:Region.ready md ops L=[i]) (ho:ops[i]? = some o)
  (h:∀ K':Act→World→Prop,Shut (∀ a w,S w→(S w→Walk P md ops Q S kb fuel (L.setIfInBounds i true) a w)→K' a w)→if Region.wanted o (yielded ops a.tmps)=true then Oper.wp P o a w K' Q else K' (a.put o.dst undef) w) :
  Walk P md ops Q S kb (fuel+1) L a w :=
 ⟨fun h0 => (by rw [h0] at hr;simp at hr),fun j hj => by
  rw [hr] at hj
  obtain rfl:j=i:=by simpa using hj
  exact wpOp_step ho (fun K' hK => h K' (fun a w hS hW => hK a w ⟨fun _ => hS,hW hS⟩))⟩
theorem Walk.pass {o:Oper} {fuel:Nat} {L:Array Bool} {a:Act} {w:World} (hr:Region.ready md ops L=[kb]) (ho:ops[kb]? = some o) (hb:(L.setIfInBounds kb true).getD kb true=true)
  (h:∀ K':Act→World→Prop,Shut (∀ a w,wpAny P md ops Q fuel (L.setIfInBounds kb true) a w→K' a w)→if Region.wanted o (yielded ops a.tmps)=true then Oper.wp P o a w K' Q else K' (a.put o.dst undef) w) :
  Walk P md ops Q S kb (fuel+1) L a w :=
 ⟨fun h0 => (by rw [h0] at hr;simp at hr),fun j hj => by
  rw [hr] at hj
  obtain rfl:j=kb:=by simpa using hj
  exact wpOp_step ho (fun K' hK => h K' (fun a w hW => hK a w ⟨fun h0 => (by rw [hb] at h0;cases h0),Walk.of_any _ _ _ _ hb hW⟩))⟩
theorem any_step {i:Nat} {o:Oper} {fuel:Nat} {L:Array Bool} {a:Act} {w:World} (hr:Region.ready md ops L=[i]) (ho:ops[i]? = some o)
  (h:∀ K':Act→World→Prop,Shut (∀ a w,wpAny P md ops Q fuel (L.setIfInBounds i true) a w→K' a w)→if Region.wanted o (yielded ops a.tmps)=true then Oper.wp P o a w K' Q else K' (a.put o.dst undef) w) :
  wpAny P md ops Q (fuel+1) L a w :=
 wpAny_all hr (by simp) (fun j hj => by
  obtain rfl:j=i:=by simpa using hj
  exact wpOp_step ho (fun K' hK => h K' hK))
theorem begin_ {id:Nat} {a:Act} {w:World} (kb:Nat) (hm:P.follows .mixedOrders=true) (hS:S w.drew)
  (h:S w.drew→Walk P .any ops Q S kb ops.size (Array.replicate ops.size false) a w.drew):(Code.region id ops true).wp P Q a w :=
 wp_region_any hm ((h hS).any _ _ _ _)
end
end Bar
end Go.Proofs.YtbpgfenippiepaaGreatDoor
namespace Go.Proofs.YtbpgfenippiepaaGreatDoor
namespace Bar
def Only (Q:Exit→Act→World→Prop):Exit→Act→World→Prop
 | .normal,a,w => Q .normal a w
 | _,_,_ => False
theorem Only.out {Q:Exit→Act→World→Prop} {a:Act} {w:World} (h:Q .normal a w):Only Q .normal a w:=h
theorem only_lets {Q:Exit→Act→World→Prop}:¬ LetsOut (Only Q):=fun ⟨_,_,h⟩ => h
def noDefer (ops:Array Oper):Bool:=ops.all fun o => match o.op with | .defer _ => false | _ => true
section
variable {P:Program} {ops:Array Oper} {Q:Exit→Act→World→Prop} {md:Region.Mode} {S:World→Prop} {l n:Nat}
theorem op_round {o:Oper} (hd:∀ c,o.op ≠ .defer c) {a:Act} {w:World} {K:Act→World→Prop} (h:o.wp P a w K (Only Q)):o.wpIn (Fence.wide.inRound l) n P a w K Q:=by
 refine ⟨fun _ _ => trivial,?_⟩
 rw [show (Fence.wide.inRound l).round=some l from rfl,Oper.semAt_some l _ _ hd]
 unfold Oper.wp at h
 have hn:(Fence.wide.inRound l).depth.isSome=true→1≤n:=fun e => by cases e
 generalize (execOp a.eval o).run P w=r at h ⊢
 cases r with
 | ok x w' =>
   cases x with
   | value v => exact h
   | skip => exact h
   | defer d => exact h
   | enter f args =>
     refine ⟨hn,CallsIn.inRound l (callsIn_wide.2 (Calls.mono h fun e w'' he => ?_))⟩
     cases e with
     | returned v => exact he
     | panicked chain => exact (he:False).elim
     | outgrown => exact absurd he only_lets
   | row row args => exact ⟨hn,fun c cs _ => let ⟨v,w'',r,s⟩:=h c cs;⟨v,w'',r,stepsIn_wide.2 s⟩⟩
   | _ => exact (h:False).elim
 | halt x w' => cases x <;> exact (h:False).elim
theorem any_round (hd:noDefer ops=true):∀ (fuel:Nat) (L:Array Bool) (a:Act) (w:World),wpAny P md ops (Only Q) fuel L a w→wpAnyIn (Fence.wide.inRound l) n P md ops Q fuel L a w:=by
 intro fuel
 induction fuel with
 | zero => intro L a w h;exact ⟨h.1,h.2⟩
 | succ fuel ih =>
   intro L a w h
   refine ⟨fun h0 => h.1 h0,fun i hi => wpOpIn_mono (fun a' w' h' => ih _ a' w' h') ?_⟩
   have h1:=h.2 i hi
   unfold wpOp at h1
   unfold wpOpIn
   cases ho:ops[i]? with
   | none => rw [ho] at h1;exact h1
   | some o =>
     rw [ho] at h1
     simp only at h1 ⊢
     have hdo:∀ c,o.op ≠ .defer c:=fun c hc => by
      have:=Array.all_eq_true_iff_forall_mem.1 hd o (Array.mem_of_getElem? ho)
      rw [hc] at this
      cases this
     split at h1
     ·rename_i hw
      rw [if_pos hw]
      exact op_round hdo (h1.resolve_right (fun h => only_lets h.2))
     ·rename_i hw
      rw [if_neg hw]
      exact ⟨fun _ _ => trivial,h1⟩
theorem begin_round {id:Nat} {a:Act} {w:World} (kb:Nat) (hm:P.follows .mixedOrders=true) (hd:noDefer ops=true) (hS:S w.drew)
  (h:S w.drew→Walk P .any ops (Only Q) S kb ops.size (Array.replicate ops.size false) a w.drew):(Code.region id ops true).wpIn (Fence.wide.inRound l) n P Q a w :=
 wpIn_region_any hm (any_round hd _ _ _ _ ((h hS).any _ _ _ _))
end
end Bar
end Go.Proofs.YtbpgfenippiepaaGreatDoor
namespace Go.Proofs.YtbpgfenippiepaaGreatDoor
open Go.RowKit Go.Shelf
namespace Hl
def MinOf (p:List Pt) (m:Pt→Int) (lo:Int):Prop:=(∃ x,x ∈ p∧m x=lo)∧∀ x,x ∈ p→lo≤m x
def MaxOf (p:List Pt) (m:Pt→Int) (hi:Int):Prop:=(∃ x,x ∈ p∧m x=hi)∧∀ x,x ∈ p→m x≤hi
def SpanSays (p:List Pt) (m:Pt→Int) (w:World) (e:Ending) (w':World):Prop:=∃ lo hi:Int,MinOf p m lo∧MaxOf p m hi∧e=.returned (.agg #[.int .i64 lo,.int .i64 hi])∧Grew w w'
def mnC (x y:Int):Int:=if y < x then y else x
def mxC (x y:Int):Int:=if x < y then y else x
def rl (g:Nat→Int) (v:Int):Nat→Int
 | 0 => v
 | k+1 => mnC (rl g v k) (g k)
def rh (g:Nat→Int) (v:Int):Nat→Int
 | 0 => v
 | k+1 => mxC (rh g v k) (g k)
theorem rl_all (g:Nat→Int) (v:Int):∀ k,(rl g v k=v∨∃ j,j < k∧g j=rl g v k)∧∀ j,j < k→rl g v k≤g j
 | 0 => ⟨Or.inl rfl,fun j hj => by omega⟩
 | k+1 => by
   obtain ⟨e,h⟩:=rl_all g v k
   have d:rl g v (k+1)=mnC (rl g v k) (g k):=rfl
   rw [d]
   unfold mnC
   split
   ·refine ⟨Or.inr ⟨k,by omega,rfl⟩,fun i hi => ?_⟩
    by_cases ei:i=k
    ·rw [ei];exact Int.le_refl _
    ·have:=h i (by omega);omega
   ·refine ⟨e.imp id (fun ⟨j,hj,ej⟩ => ⟨j,by omega,ej⟩),fun i hi => ?_⟩
    by_cases ei:i=k
    ·rw [ei];omega
    ·exact h i (by omega)
theorem rh_all (g:Nat→Int) (v:Int):∀ k,(rh g v k=v∨∃ j,j < k∧g j=rh g v k)∧∀ j,j < k→g j≤rh g v k
 | 0 => ⟨Or.inl rfl,fun j hj => by omega⟩
 | k+1 => by
   obtain ⟨e,h⟩:=rh_all g v k
   have d:rh g v (k+1)=mxC (rh g v k) (g k):=rfl
   rw [d]
   unfold mxC
   split
   ·refine ⟨Or.inr ⟨k,by omega,rfl⟩,fun i hi => ?_⟩
    by_cases ei:i=k
    ·rw [ei];exact Int.le_refl _
    ·have:=h i (by omega);omega
   ·refine ⟨e.imp id (fun ⟨j,hj,ej⟩ => ⟨j,by omega,ej⟩),fun i hi => ?_⟩
    by_cases ei:i=k
    ·rw [ei];omega
    ·exact h i (by omega)
theorem rl_min (p:List Pt) (m:Pt→Int) (h1:1≤p.length):MinOf p m (rl (fun j => m (at' p j)) (m (at' p 0)) p.length)∧MaxOf p m (rh (fun j => m (at' p j)) (m (at' p 0)) p.length):=by
 obtain ⟨e,h⟩:=rl_all (fun j => m (at' p j)) (m (at' p 0)) p.length
 obtain ⟨e',h'⟩:=rh_all (fun j => m (at' p j)) (m (at' p 0)) p.length
 refine ⟨⟨?_,fun x hx => ?_⟩,⟨?_,fun x hx => ?_⟩⟩
 ·rcases e with e | ⟨j,hj,e⟩
  ·exact ⟨_,at_mem (by omega),e.symm⟩
  ·exact ⟨_,at_mem hj,e⟩
 ·obtain ⟨j,hj,ej⟩:=mem_at hx
  rw [← ej];exact h j hj
 ·rcases e' with e | ⟨j,hj,e⟩
  ·exact ⟨_,at_mem (by omega),e.symm⟩
  ·exact ⟨_,at_mem hj,e⟩
 ·obtain ⟨j,hj,ej⟩:=mem_at hx
  rw [← ej];exact h' j hj
def Two (w:World) (B:Nat) (x y:Int):Prop:=(B < w.heap.size∧w.cell? ⟨B,0,none⟩=some (.int .i64 x)∧w.cell? ⟨B,1,none⟩=some (.int .i64 y))∧w.frozen? ⟨B,0,none⟩=false∧w.frozen? ⟨B,1,none⟩=false
theorem Two.grown {w w':World} {B:Nat} {x y:Int} (h:Two w B x y) (g:Grew w w'):Two w' B x y:=by
 obtain ⟨⟨h0,h1,h2⟩,h3,h4⟩:=h
 obtain ⟨c,f,z⟩:=laid g
 exact ⟨⟨by omega,(c _ _ h0).trans h1,(c _ _ h0).trans h2⟩,(f _ _ h0).trans h3,(f _ _ h0).trans h4⟩
theorem Two.new (w:World) (x y:Int) (t:TypeId):Two (w.alloc (.cells #[.int .i64 x,.int .i64 y] t)) w.heap.size x y:=by
 unfold Two
 simp [go_sem]
set_option maxRecDepth 100000 in
set_option maxHeartbeats 2000000 in
theorem bounds_c (g:Nat) (m:Pt→Int) (eg:∀ args w,(callFunc g args).run Tryz.prog w=.ok (.enter g args) w) (hm:Measures g m) (p:List Pt) (b o c:Nat) (w:World) (hr:Row w b o p) (hp:Plcs p) (h1:1≤p.length) (h2:p.length≤9223372036854775807) :
  Calls Tryz.prog 134 #[.slice (some ⟨b,o,none⟩) p.length c,.func (.func g) #[] #[]] w (SpanSays p m w):=by
 have HR:=Lib.hid hr
 have M0:Hid (∀ w',Calls Tryz.prog g #[.agg #[.int .i64 (at' p 0).1,.int .i64 (at' p 0).2]] w' fun e w'' => e=.returned (.int .i64 (m (at' p 0)))∧w'.alloc (.cells #[.int .i64 (at' p 0).1,.int .i64 (at' p 0).2] 24)=w''):=Lib.hid (fun w' => hm _ w' (hp 0 (by omega)))
 have MK:Hid (∀ k,k < p.length→∀ w',Calls Tryz.prog g #[.agg #[.int .i64 (at' p k).1,.int .i64 (at' p k).2]] w' fun e w'' => e=.returned (.int .i64 (m (at' p k)))∧w'.alloc (.cells #[.int .i64 (at' p k).1,.int .i64 (at' p k).2] 24)=w''):=Lib.hid (fun k hk w' => hm _ w' (hp k hk))
 obtain ⟨s0,s1⟩:=hr.2 0 (by omega)
 rw [Nat.zero_mul,Nat.add_zero] at s0 s1
 have hb:=hr.1
 have p0:(0:Int) < (p.length:Int):=by omega
 have p1:0 < p.length:=by omega
 clear hr hp hm
 obtain ⟨v0,hv0⟩:∃ v0,m (at' p 0)=v0:=⟨_,rfl⟩
 rw [hv0] at M0
 have n1:¬ b=w.heap.size+1:=by omega
 have n2:¬ b=w.heap.size+1+1:=by omega
 have n3:¬ b=w.heap.size+1+1+1:=by omega
 have l1:b < w.heap.size+1:=by omega
 have l2:b < w.heap.size+1+1:=by omega
 have l3:b < w.heap.size+1+1+1:=by omega
 go_enter Tryz.func134,Tryz.ntmps134
 go_upto_region 1 with fail
 go_cut [5] from 8 to 18 (fun s5 wx => ∃ B,w.heap.size < B∧s5=.pointer (some ⟨B,0,none⟩)∧Two wx B v0 v0∧Grew (w.alloc (.cells #[.int .i64 0,.int .i64 0] 26)) wx)
 case first =>
  go_region_held3 (fun w' => w'.cell? ⟨b,o,none⟩=some (.int .i64 (at' p 0).1)∧w'.cell? ⟨b,o+1,none⟩=some (.int .i64 (at' p 0).2)) (simp [go_sem, *])
   (first | (go_at_fn g;refine (M0.out _).mono ?_;rintro e w' ⟨rfl,rfl⟩))
  all_goals (go_wp2_with fail;go_meet)
  all_goals exact ⟨_,by first | omega | (simp;omega),rfl,by unfold Two;simp [go_sem],by exact gw⟩
 case rest =>
  obtain ⟨B,hB,rfl,hT,hG⟩:=hcut
  clear M0 s0 s1 n1 n2 n3 l1 l2 l3 hb
  have T4:=(Two.new w 0 0 26).grown hG
  go_wp2_with fail
  go_loopw [21] (fun i wr => ∃ k:Nat,k≤p.length∧i=.int .i64 k∧Two wr B (rl (fun j => m (at' p j)) v0 k) (rh (fun j => m (at' p j)) v0 k)∧Grew (w.alloc (.cells #[.int .i64 0,.int .i64 0] 26)) wr) (fun i _ => p.length - (intOf i).toNat)
  case atStart => exact ⟨0,Nat.zero_le _,rfl,hT,hG⟩
  case round =>
   clear hT hG T4
   obtain ⟨k,hk,rfl,hT,hG⟩:=hrel
   by_cases hlt:k < p.length
   ·obtain ⟨q0,q1⟩:=(HR.out.grown (((Grew.refl w).alloc _ _).trans hG)).2 k hlt
    have i2:(k:Int) < (p.length:Int):=by omega
    have MV:=Lib.hid (MK.out k hlt)
    have T0:=Lib.hid hT
    have hz:=hG.size
    rw [World.size_alloc] at hz
    obtain ⟨lo,hlo⟩:∃ lo,rl (fun j => m (at' p j)) v0 k=lo:=⟨_,rfl⟩
    obtain ⟨hi,hhi⟩:∃ hi,rh (fun j => m (at' p j)) v0 k=hi:=⟨_,rfl⟩
    obtain ⟨v,hv⟩:∃ v,m (at' p k)=v:=⟨_,rfl⟩
    have EL:Hid (rl (fun j => m (at' p j)) v0 (k+1)=mnC lo v):=Lib.hid (by rw [← hlo,← hv];rfl)
    have EH:Hid (rh (fun j => m (at' p j)) v0 (k+1)=mxC hi v):=Lib.hid (by rw [← hhi,← hv];rfl)
    rw [hlo,hhi] at hT
    rw [hv] at MV
    clear hlo hhi hv T0
    obtain ⟨⟨t0,t1,t2⟩,t3,t4⟩:=hT
    have nb:¬ B=wr.heap.size:=by omega
    have nb':¬ wr.heap.size=B:=by omega
    have lb1:B < wr.heap.size+1:=by omega
    have lb2:B < wr.heap.size+1+1:=by omega
    by_cases c1:v < lo <;> by_cases c2:hi < v
    all_goals
     go_wp2_with fail
     refine Bar.begin_ (S:=(fun w' => (w'.cell? ⟨B,0,none⟩=some (.int .i64 lo)∧w'.cell? ⟨B,1,none⟩=some (.int .i64 hi)∧w'.frozen? ⟨B,0,none⟩=false∧w'.frozen? ⟨B,1,none⟩=false)∧w'.cell? ⟨wr.heap.size,0,none⟩=some (.int .i64 (at' p k).1)∧w'.cell? ⟨wr.heap.size,1,none⟩=some (.int .i64 (at' p k).2))) 13 (by kernel_rfl) (by simp [go_sem, *]) (fun hHeld => ?_)
     refine Bar.Walk.takeY (i:=0) (oi:=⟨some 25,_,_,_,_,_⟩) (v:=?_) rfl (by kernel_rfl) (by kernel_rfl) (by kernel_rfl) rfl (fun _ _ _ h => h) (Or.inl ⟨by rfl,?_⟩) (by assumption) ?_
     rotate_left
     ·intro w;go_simp;(try with_reducible rfl)
     try simp only [Act.put,List.setIfInBounds_toArray,List.set_cons_zero,List.set_cons_succ]
     refine Bar.Walk.take [13] (i:=1) (oi:=⟨some 26,_,_,_,_,_⟩) (v:=?_) rfl (by kernel_rfl) (by kernel_rfl) (by kernel_rfl) (by kernel_rfl) (fun _ _ _ h => h) (Or.inl ⟨by rfl,?_⟩) (by assumption) ?_
     rotate_left
     ·intro w hSw;(try dsimp only at hSw);go_simp;(try with_reducible rfl)
     try simp only [Act.put,List.setIfInBounds_toArray,List.set_cons_zero,List.set_cons_succ]
     refine Bar.Walk.takeY (i:=2) (oi:=⟨some 27,_,_,_,_,_⟩) (v:=?_) rfl (by kernel_rfl) (by kernel_rfl) (by kernel_rfl) rfl (fun _ _ _ h => h) (Or.inl ⟨by rfl,?_⟩) (by assumption) ?_
     rotate_left
     ·intro w;go_simp;(try with_reducible rfl)
     try simp only [Act.put,List.setIfInBounds_toArray,List.set_cons_zero,List.set_cons_succ]
     refine Bar.Walk.take [13] (i:=3) (oi:=⟨some 28,_,_,_,_,_⟩) (v:=?_) rfl (by kernel_rfl) (by kernel_rfl) (by kernel_rfl) (by kernel_rfl) (fun _ _ _ h => h) (Or.inl ⟨by rfl,?_⟩) (by assumption) ?_
     rotate_left
     ·intro w hSw;(try dsimp only at hSw);go_simp;(try with_reducible rfl)
     try simp only [Act.put,List.setIfInBounds_toArray,List.set_cons_zero,List.set_cons_succ]
     refine Bar.Walk.takeY (i:=6) (oi:=⟨some 31,_,_,_,_,_⟩) (v:=?_) rfl (by kernel_rfl) (by kernel_rfl) (by kernel_rfl) rfl (fun _ _ _ h => h) (Or.inl ⟨by rfl,?_⟩) (by assumption) ?_
     rotate_left
     ·intro w;go_simp;(try with_reducible rfl)
     try simp only [Act.put,List.setIfInBounds_toArray,List.set_cons_zero,List.set_cons_succ]
     refine Bar.Walk.take [13] (i:=7) (oi:=⟨some 32,_,_,_,_,_⟩) (v:=?_) rfl (by kernel_rfl) (by kernel_rfl) (by kernel_rfl) (by kernel_rfl) (fun _ _ _ h => h) (Or.inl ⟨by rfl,?_⟩) (by assumption) ?_
     rotate_left
     ·intro w hSw;(try dsimp only at hSw);go_simp;(try with_reducible rfl)
     try simp only [Act.put,List.setIfInBounds_toArray,List.set_cons_zero,List.set_cons_succ]
     refine Bar.Walk.takeY (i:=8) (oi:=⟨some 33,_,_,_,_,_⟩) (v:=?_) rfl (by kernel_rfl) (by kernel_rfl) (by kernel_rfl) rfl (fun _ _ _ h => h) (Or.inl ⟨by rfl,?_⟩) (by assumption) ?_
     rotate_left
     ·intro w;go_simp;(try with_reducible rfl)
     try simp only [Act.put,List.setIfInBounds_toArray,List.set_cons_zero,List.set_cons_succ]
     refine Bar.Walk.take [10,13] (i:=9) (oi:=⟨some 34,_,_,_,_,_⟩) (v:=?_) rfl (by kernel_rfl) (by kernel_rfl) (by kernel_rfl) (by kernel_rfl) (fun _ _ _ h => h) (Or.inl ⟨by rfl,?_⟩) (by assumption) ?_
     rotate_left
     ·intro w hSw;(try dsimp only at hSw);go_simp;(try with_reducible rfl)
     try simp only [Act.put,List.setIfInBounds_toArray,List.set_cons_zero,List.set_cons_succ]
     refine Bar.Walk.step (i:=4) (o:=⟨some 29,_,_,_,_,_⟩) (by kernel_rfl) rfl (fun K hK => ?_)
     go_simp
     refine (MV.out _).mono ?_
     rintro e w' ⟨rfl,rfl⟩
     go_wp2_with fail
     refine hK.out _ _ (by (try dsimp only);simp [go_sem, *]) (fun h1 => ?_)
     clear hK K hHeld
     have hHeld:=h1
     clear h1
     try simp only [Act.put,List.setIfInBounds_toArray,List.set_cons_zero,List.set_cons_succ]
     refine Bar.Walk.takeY (i:=5) (oi:=⟨some 30,_,_,_,_,_⟩) (v:=?_) rfl (by kernel_rfl) (by kernel_rfl) (by kernel_rfl) rfl (fun _ _ _ h => h) (Or.inl ⟨by rfl,?_⟩) (by assumption) ?_
     rotate_left
     ·intro w;go_simp;(try with_reducible rfl)
     try simp only [Act.put,List.setIfInBounds_toArray,List.set_cons_zero,List.set_cons_succ]
     refine Bar.Walk.takeY (i:=12) (oi:=⟨some 37,_,_,_,_,_⟩) (v:=?_) rfl (by kernel_rfl) (by kernel_rfl) (by kernel_rfl) rfl (fun _ _ _ h => h) (Or.inl ⟨by rfl,?_⟩) (by assumption) ?_
     rotate_left
     ·intro w;go_simp;(try with_reducible rfl)
     try simp only [Act.put,List.setIfInBounds_toArray,List.set_cons_zero,List.set_cons_succ]
     refine Bar.Walk.step (i:=10) (o:=⟨some 35,_,_,_,_,_⟩) (by kernel_rfl) rfl (fun K hK => ?_)
     go_simp
     refine (MV.out _).mono ?_
     rintro e w' ⟨rfl,rfl⟩
     go_wp2_with fail
     refine hK.out _ _ (by (try dsimp only);simp [go_sem, *]) (fun h1 => ?_)
     clear hK K hHeld
     have hHeld:=h1
     clear h1
     try simp only [Act.put,List.setIfInBounds_toArray,List.set_cons_zero,List.set_cons_succ]
     refine Bar.Walk.takeY (i:=11) (oi:=⟨some 36,_,_,_,_,_⟩) (v:=?_) rfl (by kernel_rfl) (by kernel_rfl) (by kernel_rfl) rfl (fun _ _ _ h => h) (Or.inl ⟨by rfl,?_⟩) (by assumption) ?_
     rotate_left
     ·intro w;go_simp;(try with_reducible rfl)
     try simp only [Act.put,List.setIfInBounds_toArray,List.set_cons_zero,List.set_cons_succ]
     refine Bar.Walk.pass (o:=⟨none,_,_,_,_,_⟩) (by kernel_rfl) rfl (by kernel_rfl) (fun K hK => ?_)
     go_simp
     refine hK.out _ _ ?_
     clear hK K hHeld
     try simp only [Act.put,List.setIfInBounds_toArray,List.set_cons_zero,List.set_cons_succ]
     refine wpAny_take (i:=14) (oi:=⟨some 38,_,_,_,_,_⟩) (v:=?_) rfl (by kernel_rfl) (by kernel_rfl) (by kernel_rfl) (fun _ _ _ h => h) (Or.inl ⟨by rfl,?_⟩) ?_
     rotate_left
     ·intro w;go_simp;(try with_reducible rfl)
     try simp only [Act.put,List.setIfInBounds_toArray,List.set_cons_zero,List.set_cons_succ]
     refine Bar.any_step (i:=15) (o:=⟨none,_,_,_,_,_⟩) (by kernel_rfl) rfl (fun K hK => ?_)
     go_simp
     refine hK.out _ _ ?_
     clear hK K
     try simp only [Act.put,List.setIfInBounds_toArray,List.set_cons_zero,List.set_cons_succ]
     refine wpAny_done (by kernel_rfl) ?_ _
     go_wp2_with fail
     go_roundw
     case rel => exact ⟨k+1,by omega,by go_num,by
      rw [EL.out,EH.out]
      unfold Two mnC mxC
      first | (simp [go_sem, *];done) | (simp [go_sem, *];omega),by exact gw⟩
     case measure => simp [intOf];omega
   ·obtain rfl:k=p.length:=by omega
    obtain ⟨⟨t0,t1,t2⟩,t3,t4⟩:=hT
    obtain ⟨⟨r0,r1,r2⟩,r3,r4⟩:=(Two.new w 0 0 26).grown hG
    have GW:Grew w wr:=((Grew.refl w).alloc _ _).trans hG
    have nb:¬ w.heap.size=B:=by omega
    obtain ⟨MI,MA⟩:=rl_min p m h1
    rw [hv0] at MI MA
    have MI:=Lib.hid MI
    have MA:=Lib.hid MA
    generalize rl (fun j => m (at' p j)) v0 p.length=lo at *
    generalize rh (fun j => m (at' p j)) v0 p.length=hi at *
    go_wp2_with fail
    refine bodyPost_ret (v:=.agg #[.int .i64 lo,.int .i64 hi]) (by simp [results,Tryz.results134,go_sem, *]) rfl ⟨lo,hi,MI.out,MA.out,rfl,by exact gw⟩
end Hl
end Go.Proofs.YtbpgfenippiepaaGreatDoor
namespace Go.Proofs.YtbpgfenippiepaaGreatDoor
open Go.RowKit Go.Shelf
namespace Hl
theorem min_is {p:List Pt} {m:Pt→Int} {lo u v:Int} (h:MinOf p m lo) (e:∀ x,m x=u * x.1+v * x.2):IsMin p u v lo:=by
 obtain ⟨⟨x,hx,ex⟩,h2⟩:=h
 exact ⟨⟨x,hx,by rw [← e];exact ex⟩,fun y hy => by rw [← e];exact h2 y hy⟩
theorem max_is {p:List Pt} {m:Pt→Int} {hi u v:Int} (h:MaxOf p m hi) (e:∀ x,-m x=u * x.1+v * x.2):IsMin p u v (-hi):=by
 obtain ⟨⟨x,hx,ex⟩,h2⟩:=h
 exact ⟨⟨x,hx,by rw [← e,ex]⟩,fun y hy => by rw [← e];have:=h2 y hy;omega⟩
def Box2Says (p:List Pt) (w:World) (e:Ending) (w':World):Prop:=∃ lo hi:Pt,IsBox p lo hi∧e=.returned (.tuple #[.agg #[.int .i64 lo.1,.int .i64 lo.2],.agg #[.int .i64 hi.1,.int .i64 hi.2]])∧Grew w w'
set_option maxRecDepth 100000 in
set_option maxHeartbeats 2000000 in
theorem box_c (p:List Pt) (b o c:Nat) (w:World) (hr:Row w b o p) (hp:Plcs p) (h1:1≤p.length) (h2:p.length≤9223372036854775807) :
  Calls Tryz.prog 129 #[.slice (some ⟨b,o,none⟩) p.length c] w (Box2Says p w):=by
 have HR:=Lib.hid hr
 have BX:Hid (∀ W,Row W b o p→Calls Tryz.prog 134 #[.slice (some ⟨b,o,none⟩) p.length c,.func (.func 168) #[] #[]] W (SpanSays p (fun x => x.1) W)):=Lib.hid (fun W hW => bounds_c _ _ (enters_of Tryz.func168 (by kernel_rfl) rfl) measX p b o c W hW hp h1 h2)
 have BY:Hid (∀ W,Row W b o p→Calls Tryz.prog 134 #[.slice (some ⟨b,o,none⟩) p.length c,.func (.func 169) #[] #[]] W (SpanSays p (fun x => x.2) W)):=Lib.hid (fun W hW => bounds_c _ _ (enters_of Tryz.func169 (by kernel_rfl) rfl) measY p b o c W hW hp h1 h2)
 clear hr hp h1 h2
 have T2:=((Two.new w 0 0 24).grown ((Grew.refl _).alloc #[.int .i64 0,.int .i64 0] 24))
 have T3:=Two.new (w.alloc (.cells #[.int .i64 0,.int .i64 0] 24)) 0 0 24
 have G0:Grew w ((w.alloc (.cells #[.int .i64 0,.int .i64 0] 24)).alloc (.cells #[.int .i64 0,.int .i64 0] 24)):=((Grew.refl w).alloc _ _).alloc _ _
 rw [World.size_alloc] at T3
 have T2:=Lib.hid T2
 have T3:=Lib.hid T3
 have G0:=Lib.hid G0
 go_enter Tryz.func129,Tryz.ntmps129
 go_wp2_with fail
 refine (BX.out _ (HR.out.grown G0.out)).mono ?_
 rintro e w1 ⟨xlo,xhi,mx,Mx,rfl,g1⟩
 have N4:=Lib.hid (Two.new w1 xlo xhi 26)
 have G1:=Lib.hid (G0.out.trans g1)
 have g1:=Lib.hid g1
 have MX:=Lib.hid (And.intro mx Mx)
 clear mx Mx
 go_wp2_with fail
 refine (BY.out _ (HR.out.grown (G1.out.alloc _ _))).mono ?_
 rintro e w2 ⟨ylo,yhi,my,My,rfl,g2⟩
 have MY:=Lib.hid (And.intro my My)
 clear my My
 obtain ⟨⟨b2,x0,x1⟩,f0,f1⟩:=T2.out.grown (g1.out.trans (((Grew.refl w1).alloc _ _).trans g2))
 obtain ⟨⟨b3,y0,y1⟩,f2,f3⟩:=T3.out.grown (g1.out.trans (((Grew.refl w1).alloc _ _).trans g2))
 obtain ⟨⟨b4,z0,z1⟩,f4,f5⟩:=N4.out.grown g2
 have GW:Grew w w2:=(G1.out.alloc _ _).trans g2
 have z1':=g1.out.size
 simp only [World.size_alloc] at z1'
 have n1:¬ w.heap.size=w1.heap.size:=by omega
 have n2:¬ w.heap.size+1=w1.heap.size:=by omega
 have n3:¬ w1.heap.size=w.heap.size:=by omega
 have n4:¬ w1.heap.size=w.heap.size+1:=by omega
 have n5:¬ w2.heap.size=w.heap.size:=by omega
 have n6:¬ w2.heap.size=w.heap.size+1:=by omega
 have n7:¬ w.heap.size=w2.heap.size:=by omega
 have n8:¬ w.heap.size+1=w2.heap.size:=by omega
 clear g2 g1 T2 T3 N4 G0 G1 BX BY z1'
 go_wp2_with fail
 go_region_held3 (fun w' => (w'.cell? ⟨w1.heap.size,0,none⟩=some (.int .i64 xlo)∧w'.cell? ⟨w1.heap.size,1,none⟩=some (.int .i64 xhi))∧(w'.cell? ⟨w2.heap.size,0,none⟩=some (.int .i64 ylo)∧w'.cell? ⟨w2.heap.size,1,none⟩=some (.int .i64 yhi))) (simp [go_sem, *]) (fail)
 all_goals go_wp2_with fail
 all_goals refine bodyPost_ret (v:=.tuple #[.agg #[.int .i64 xlo,.int .i64 ylo],.agg #[.int .i64 xhi,.int .i64 yhi]]) (by simp [results,Tryz.results129,go_sem, *]) rfl ⟨(xlo,ylo),(xhi,yhi),⟨min_is MX.out.1 (fun x => by omega),max_is MX.out.2 (fun x => by omega),min_is MY.out.1 (fun x => by omega),max_is MY.out.2 (fun x => by omega)⟩,rfl,by exact gw⟩
end Hl
end Go.Proofs.YtbpgfenippiepaaGreatDoor
