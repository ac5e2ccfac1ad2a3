/-
  Arguments as the laws of layer 3 have them: points, slices of points; what is only read stays as it was.
  The examples of the chapter; the law CutWhole, under what package cut owes; half-planes as arguments.
  The laws CutSides and CutApart, under what packages hull and cut owe.
  The laws CutCommon and CutMeets, under what packages hull and cut owe.
  Lists of polygons, without a program: what is tidied, what is collected.
  Lists of polygons, without a program: what half-planes leave, what two have in common, what is left without a rectangle, sums, boxes.
  Rings, without a program: what they have, what they do not have.
-/
import Derived.ProofKit
import Derived.OpenShut
import Derived.ChangeSame
import Derived.ChangeStays
import Derived.ReadAgain
import Derived.Deep.SlicePairs
import Derived.Deep.Frames
import Derived.Lib.SmallJoins
import Derived.Test.YtbpgfenippiepaaGreatDoorHullIn
import Derived.Test.YtbpgfenippiepaaGreatDoorHullCa
import Derived.Test.YtbpgfenippiepaaGreatDoorHullInB
import Derived.Test.YtbpgfenippiepaaGreatDoorHullBar
import Derived.Test.YtbpgfenippiepaaGreatDoorHullHl
import Derived.Test.YtbpgfenippiepaaGreatDoorHullWrap
namespace Go.Proofs.YtbpgfenippiepaaGreatDoor
namespace Hl
open Go.ChangeShapes Go.WideShapes Go.ChangeAt Go.RowKit Go.Joins Go.Deep
set_option maxRecDepth 100000 in
theorem kids:Kids Tryz.prog (· < Tryz.prog.types.size):=kids_rows (by kernel_rfl) (by kernel_rfl)
set_option maxRecDepth 100000 in
theorem full:∀ t e,t < Tryz.prog.types.size→Tryz.prog.underlying t=some (.slice e)→0 < Tryz.prog.cellsOf e:=slices_full_of Tryz.prog (by kernel_rfl)
theorem same_of {W W':World} (g:Grew W W') {x:MemPlace} (h:x.block < W.heap.size):W.sameAt W' x:=Below.same g h
set_option maxRecDepth 100000 in
theorem stays {H:Type} {enc:TypeId × Value→H} {W W':World} {base:Nat} {sp:Nat→Bool} (g:Grew W W'):∀ {ts:List TypeId} {vs:List Value} {ds:List (DataW H)} {ps:List MemPlace},(∀ t ∈ ts,t < Tryz.prog.types.size)→DataW.TrodAll enc Tryz.prog W base (fun _ => true) true ts vs ds ps →
  (∀ p ∈ ps,p.block < W.heap.size)→(∀ p ∈ ps,sp p.block=true)→DataW.TrodAll enc Tryz.prog W' base sp true ts vs ds ps
 | [],vs,ds,ps,_,h,_,_ => by
   obtain ⟨rfl,rfl,rfl⟩:=trodAll_nil h
   exact trodAll_mk0
 | t :: ts,vs,ds,ps,hT,h,hl,hs => by
   match vs,h with
   | v :: vs,h =>
     obtain ⟨v',vs',d,ds',p,q,e,rfl,rfl,h0,h1⟩:=trodAll_cons h
     obtain ⟨rfl,rfl⟩:=List.cons.inj e
     obtain ⟨n,hn⟩:=h0
     refine trodAll_cons_mk ⟨n,DataW.trod_stays kids (fun {t e} => full t e) (fun hh => by cases hh) (hT t List.mem_cons_self) hn (fun x hx => same_of g (hl x (List.mem_append_left _ hx))) (fun x hx => hs x (List.mem_append_left _ hx))⟩ ?_
     exact stays g (fun t ht => hT t (List.mem_cons_of_mem _ ht)) h1 (fun x hx => hl x (List.mem_append_right _ hx)) (fun x hx => hs x (List.mem_append_right _ hx))
set_option maxRecDepth 100000 in
theorem post_grew {H:Type} {enc:TypeId × Value→H} {f:Func} {s:ChangeSpec} {apart fresh handsOn again:Bool} {W W':World} {args:Array Value} {v:Value} {ds gs:List (DataW H)} {before:List MemPlace}
  (hT:∀ t ∈ f.params.toList,t < Tryz.prog.types.size) (hW:DataW.Whole enc Tryz.prog f.params.toList s.vars apart W args.toList ds gs before) (hA:DataW.TrodAll enc Tryz.prog W 0 (fun _ => true) true f.params.toList args.toList ds before)
  (hs:s.vars=[]) (_hg:gs=[]) (hargs:(s.fn H (ds ++ gs)).args=ds) (hvars:(s.fn H (ds ++ gs)).vars=[])
  (hres:∀ (b:Nat) (sp:Nat→Bool) (hd:Bool),DataW.TrodAll enc Tryz.prog W' b sp hd f.resultTypes.toList (v.resultList f.resultTypes.size) (s.fn H (ds ++ gs)).results [])
  (g:Grew W W')
  (hok:∀ (j:Nat) (t:TypeId) (r:Value),f.resultTypes[j]? = some t→(v.resultList f.resultTypes.size)[j]? = some r→Value.okWide Tryz.prog W' .any 0 t r) :
  s.post enc Tryz.prog f apart fresh handsOn again W args v W':=by
 have lt:∀ x ∈ before,x.block < W.heap.size:=fun x hx => hW.lt x hx
 have arg:∀ sp:Nat→Bool,(∀ x ∈ before,sp x.block=true)→DataW.TrodAll enc Tryz.prog W' 0 sp true f.params.toList args.toList (s.fn H (ds ++ gs)).args before:=fun sp hsp => by
  rw [hargs]
  exact stays g hT hA lt hsp
 have var:∀ sp:Nat→Bool,DataW.TrodVars enc Tryz.prog W' sp s.vars (s.fn H (ds ++ gs)).vars []:=fun sp => by
  rw [hs,hvars]
  rfl
 refine ⟨ds,gs,before,[],before,[],hW,hres _ _ _,arg _ (fun x hx => by simpa using lt x hx),var _,World.keptBut_mono (fun x hx => ⟨hx,Or.inr (by simpa using hx)⟩) (Below.frame g (· ∈ before)),fun _ => ?_⟩
 obtain ⟨_,_,_,_,_,hz,hn⟩:=hW
 refine ⟨hok,_,_,([] ++ before) ++ [],⟨[] ++ before,[],trodAll_append (arg _ (fun _ _ => rfl)) (hres _ _ _),var _,rfl,?_,?_⟩,?_⟩
 ·intro b off hx
  have hin:MemPlace.cell b off ∈ before:=by simpa using hx
  rw [Below.frozen (p:=⟨b,off,none⟩) g (lt _ hin)]
  exact hz b off hin
 ·intro ha
  have:=hn ha
  simpa using this
 ·intro x hx _
  simpa using hx
set_option maxRecDepth 100000 in
theorem cellsPoint:Tryz.prog.cellsOf 24 = 2:=by kernel_rfl
set_option maxRecDepth 100000 in
theorem open_point {H:Type} {enc:TypeId × Value→H} {W:World} {base b0:Nat} {sp:Nat→Bool} {held:Bool} {v:Value} {d:DataW H} {p:List MemPlace} (hval:Value.okWide Tryz.prog W .any b0 24 v) (h:DataW.Trod enc Tryz.prog W base sp held 24 v d p) :
  ∃ x:Pt,v=.agg #[.int .i64 x.1,.int .i64 x.2]:=by
 obtain ⟨c0,c1,y0,y1,m,rfl,rfl,rfl,hy0,hy1⟩:=open_agg2 Tryz.underlying24 (by kernel_rfl) cellsPoint hval h
 obtain ⟨a,e0,rfl,wa⟩:=DataW.trod_int Tryz.underlying3 hy0
 obtain ⟨b,e1,rfl,wb⟩:=DataW.trod_int Tryz.underlying3 hy1
 simp at e0 e1
 subst e0 e1
 exact ⟨(a,b),rfl⟩
def numI:Value→Int
 | .int _ n => n
 | _ => 0
set_option maxRecDepth 100000 in
theorem open_points {H:Type} {enc:TypeId × Value→H} {W:World} {base b0:Nat} {sp:Nat→Bool} {held:Bool} {v:Value} {d:DataW H} {p:List MemPlace} (hval:Value.okWide Tryz.prog W .any b0 48 v) (h:DataW.Trod enc Tryz.prog W base sp held 48 v d p) :
  ∃ l:List Pt,Sl W v l∧l.length≤maxLen:=by
 obtain ⟨a0,len0,cap0,rfl⟩:=okWide_slice Tryz.underlying48 hval
 obtain ⟨fuel,hf⟩:=h
 rcases open_slice_pairs Tryz.underlying48 Tryz.underlying24 cellsPoint rfl rfl (by kernel_rfl) (by kernel_rfl) hf with ⟨hcs,_⟩ | ⟨a,len,cap,m,n,V0,V1,D0,D1,P0,P1,hcs,hb,hl,hm,hmm,hx,hi⟩
 ·simp [Value.cells] at hcs
  obtain ⟨rfl,rfl,rfl⟩:=hcs
  exact ⟨[],Or.inl ⟨rfl,none,0,rfl⟩,Nat.zero_le _⟩
 ·simp [Value.cells] at hcs
  obtain ⟨rfl,rfl,rfl⟩:=hcs
  have hlm:len0≤m:=by rw [hmm];split <;> omega
  by_cases h0:len0=0
  ·subst h0
   exact ⟨[],Or.inl ⟨rfl,some a,cap0,rfl⟩,Nat.zero_le _⟩
  ·obtain ⟨ab,ao,sp0⟩:=a
   have hspot:sp0=none:=by
    have h1:=(hi 0 (by omega)).1
    rw [Nat.zero_mul] at h1
    unfold Addr.add at h1
    rw [if_pos rfl] at h1
    unfold World.cell? at h1
    cases sp0 with
    | none => rfl
    | some s =>
      exfalso
      revert h1
      simp
      split <;> simp
   subst hspot
   have ad:∀ k,(⟨ab,ao,none⟩:Addr).add k=⟨ab,ao+k,none⟩:=fun k => by
    unfold Addr.add
    split
    ·rename_i e;subst e;rfl
    ·rfl
   have each:∀ i,i < len0→W.cell? ⟨ab,ao+i * 2,none⟩=some (.int .i64 (numI (V0 i)))∧W.cell? ⟨ab,ao+i * 2+1,none⟩=some (.int .i64 (numI (V1 i))):=by
    intro i hlt
    obtain ⟨c0,c1,t0,t1⟩:=hi i (by omega)
    rw [ad] at c0 c1
    obtain ⟨x0,e0,_,_⟩:=DataW.trod_int Tryz.underlying3 t0
    obtain ⟨x1,e1,_,_⟩:=DataW.trod_int Tryz.underlying3 t1
    simp at e0 e1
    rw [e0] at c0
    rw [e1] at c1
    rw [e0,e1]
    exact ⟨c0,c1⟩
   refine ⟨(List.range len0).map fun i => (numI (V0 i),numI (V1 i)),Or.inr ⟨ab,ao,cap0,by simp,World.block_lt_of_cell? W _ (each 0 (by omega)).1,fun i hlt => ?_⟩,by simp;omega⟩
   have hlt':i < len0:=by simpa using hlt
   have e:at' ((List.range len0).map fun i => (numI (V0 i),numI (V1 i))) i=(numI (V0 i),numI (V1 i)):=by
    unfold at'
    simp [hlt']
   rw [e]
   exact each i hlt'
end Hl
end Go.Proofs.YtbpgfenippiepaaGreatDoor
namespace Go.Proofs.YtbpgfenippiepaaGreatDoor
open Go.RowKit Hl
namespace Ct
def r1:List Pt:=[(0,0),(1,0),(1,3),(0,4)]
def r2:List Pt:=[(0,0),(2,0),(2,3),(0,4)]
def r3:List Pt:=[(3,0),(4,0),(3,1)]
end Ct
end Go.Proofs.YtbpgfenippiepaaGreatDoor
namespace Go.Proofs.YtbpgfenippiepaaGreatDoor
open Go.RowKit Hl
end Go.Proofs.YtbpgfenippiepaaGreatDoor
namespace Go.Proofs.YtbpgfenippiepaaGreatDoor
open Go.ChangeShapes Go.WideShapes Go.ChangeAt Go.RowKit Go.Joins Go.Deep Hl
namespace Ct
theorem i64_of_wf {x:Int} (h:(Lit.int .i64 x).wf=true):-9223372036854775808≤x∧x≤9223372036854775807:=by
 simp [Lit.wf,IntKind.min,IntKind.max,IntKind.signed,IntKind.bits] at h
 exact ⟨by omega,by omega⟩
end Ct
end Go.Proofs.YtbpgfenippiepaaGreatDoor
namespace Go.Proofs.YtbpgfenippiepaaGreatDoor
open Go.RowKit Hl
namespace Ct
theorem fr_plc2 {a b y:Pt} {s t:Int} (ha:Plc a) (hb:Plc b) (h:Fr a b s t y):Plc y:=by
 obtain ⟨m,n,hw,h1,h2⟩:=h
 exact ⟨wr_bounds hw.1 hw.2.1 ha.1 hb.1 h1,wr_bounds hw.1 hw.2.1 ha.2 hb.2 h2⟩
theorem left_plc2 {p:List Pt} (hp:Plcs p) {h:Hf} {y:Pt} (hy:LeftS p h y):Plc y:=by
 rcases hy with ⟨i,hi,rfl,_⟩ | ⟨i,hi,hf⟩
 ·exact hp i hi
 ·exact fr_plc2 (hp i hi) (hp _ (Nat.mod_lt _ (by omega))) hf
def ng (h:Hf):Hf:=(-h.1,-h.2.1,-h.2.2)
end Ct
end Go.Proofs.YtbpgfenippiepaaGreatDoor
namespace Go.Proofs.YtbpgfenippiepaaGreatDoor
open Go.RowKit Hl
end Go.Proofs.YtbpgfenippiepaaGreatDoor
namespace Go.Proofs.YtbpgfenippiepaaGreatDoor
open Go.RowKit Hl
namespace Ct
theorem both_plc {p q:List Pt} (hp:Plcs p) (hq:Plcs q) {y:Pt} (h:BothS p q y):Plc y:=by
 rcases h with ⟨i,hi,rfl,_⟩ | ⟨k,hk,rfl,_⟩ | ⟨i,k,⟨hi,hk⟩,g⟩
 ·exact hp i hi
 ·exact hq k hk
 ·exact fr_plc2 (hq k hk) (hq _ (Nat.mod_lt _ (by omega))) g.2
end Ct
end Go.Proofs.YtbpgfenippiepaaGreatDoor
namespace Go.Proofs.YtbpgfenippiepaaGreatDoor
open Go.RowKit Hl
namespace Ct
theorem frame_box {p:List Pt} {lo hi:Pt} (hp:Pg p) (h:IsBox p lo hi) {i:Nat} (hi':i < p.length) {s t:Int} {y:Pt} (g:Fr (at' p i) (at' p ((i+1) % p.length)) s t y):(lo.1≤y.1∧y.1≤hi.1)∧lo.2≤y.2∧y.2≤hi.2:=by
 obtain ⟨m,n,hw,h1,h2⟩:=g
 have a:=box_has hp h (hs_corner hp hi')
 have b:=box_has hp h (hs_corner hp (show (i+1) % p.length < p.length from Nat.mod_lt _ (by omega)))
 exact ⟨wr_bounds hw.1 hw.2.1 ⟨a.1,a.2.1⟩ ⟨b.1,b.2.1⟩ h1,wr_bounds hw.1 hw.2.1 a.2.2 b.2.2 h2⟩
theorem both_box {p q:List Pt} (hp:Pg p) (_hq:Pg q) {lo hi:Pt} (h:IsBox p lo hi) {y:Pt} (g:BothS p q y):(lo.1≤y.1∧y.1≤hi.1)∧lo.2≤y.2∧y.2≤hi.2:=by
 rcases g with ⟨i,hi',rfl,_⟩ | ⟨k,hk,rfl,g⟩ | ⟨i,k,⟨hi',hk⟩,g⟩
 ·have a:=box_has hp h (hs_corner hp hi')
  omega
 ·have a:=box_has hp h g
  omega
 ·exact frame_box hp h hi' g.turn.2
end Ct
end Go.Proofs.YtbpgfenippiepaaGreatDoor
namespace Go.Proofs.YtbpgfenippiepaaGreatDoor
open Go.RowKit Hl
namespace Rg
abbrev Rgn:=List (List Pt)
def nth (L:Rgn) (i:Nat):List Pt:=L.getD i []
theorem nth_get {L:Rgn} {i:Nat} (h:i < L.length):nth L i=L[i]:=by
 unfold nth
 simp [List.getD,h]
theorem nth_mem {L:Rgn} {i:Nat} (h:i < L.length):nth L i ∈ L:=by
 rw [nth_get h];exact List.getElem_mem h
theorem mem_nth {L:Rgn} {p:List Pt} (h:p ∈ L):∃ i,i < L.length∧nth L i=p:=by
 obtain ⟨i,hi,e⟩:=List.getElem_of_mem h
 exact ⟨i,hi,by rw [nth_get hi];exact e⟩
theorem nth_map (L:Rgn):(List.range L.length).map (nth L)=L:=by
 apply List.ext_getElem
 ·simp
 ·intro i h1 h2
  rw [List.getElem_map,List.getElem_range,nth_get h2]
def AllV (L:Rgn):Prop:=∀ p,p ∈ L→Vl p
def VlR (L:Rgn):Prop:=L.length≤32∧AllV L
def InR (L:Rgn) (x:Pt):Prop:=∃ p,p ∈ L∧Hs p x
def Lies (p q:List Pt):Prop:=∀ y,y ∈ p→Hs q y
instance decLies (p q:List Pt):Decidable (Lies p q):=by unfold Lies;infer_instance
theorem lies_has {p q:List Pt} (hp:Pg p) (hq:Pg q) (h:Lies p q) {x:Pt} (hx:Hs p x):Hs q x :=
 hs_of_least p hq h fun u v k => by
  obtain ⟨j,hj,g⟩:=hs_least hp hx u v k
  exact ⟨_,at_mem hj,g⟩
theorem own_corner {p:List Pt} (hp:Pg p) {y:Pt} (hy:y ∈ p):Hs p y:=by
 obtain ⟨i,hi,e⟩:=mem_at hy
 rw [← e];exact hs_corner hp hi
theorem lies_trans {p q r:List Pt} (hq:Pg q) (hr:Pg r) (h:Lies p q) (k:Lies q r):Lies p r:=fun y hy => lies_has hq hr k (h y hy)
theorem lies_anti {p q:List Pt} (hp:Pg p) (hq:Pg q) (h:Lies p q) (k:Lies q p):p=q:=by
 have a:IsHull (p ++ q) p:=⟨hp,fun x hx => List.mem_append_left _ hx,fun x hx => (List.mem_append.1 hx).elim (own_corner hp) (k x)⟩
 have b:IsHull (p ++ q) q:=⟨hq,fun x hx => List.mem_append_right _ hx,fun x hx => (List.mem_append.1 hx).elim (h x) (own_corner hq)⟩
 exact hull_unique a b
def Up (L:Rgn) (i k:Nat):Prop:=k ≠ i∧Lies (nth L i) (nth L k)∧(nth L i ≠ nth L k∨k < i)
instance decUp (L:Rgn) (i k:Nat):Decidable (Up L i k):=by unfold Up;infer_instance
def Cov (L:Rgn) (i:Nat):Prop:=∃ k,k < L.length∧Up L i k
def covB (L:Rgn) (i:Nat):Bool:=(List.range L.length).any fun k => decide (Up L i k)
theorem covB_iff {L:Rgn} {i:Nat}:covB L i=true↔Cov L i:=by
 unfold covB Cov
 rw [List.any_eq_true]
 constructor
 ·rintro ⟨k,hk,h⟩
  exact ⟨k,List.mem_range.1 hk,of_decide_eq_true h⟩
 ·rintro ⟨k,hk,h⟩
  exact ⟨k,List.mem_range.2 hk,decide_eq_true h⟩
theorem covB_not {L:Rgn} {i:Nat}:covB L i=false↔¬ Cov L i:=by
 rw [← covB_iff];cases covB L i <;> simp
theorem up_irrefl (L:Rgn) (i:Nat):¬ Up L i i:=fun h => h.1 rfl
theorem up_trans {L:Rgn} (hL:AllV L) {i j k:Nat} (hi:i < L.length) (hj:j < L.length) (hk:k < L.length) (h:Up L i j) (g:Up L j k):Up L i k:=by
 have vi:=(hL _ (nth_mem hi)).pg
 have vj:=(hL _ (nth_mem hj)).pg
 have vk:=(hL _ (nth_mem hk)).pg
 have t:=lies_trans vj vk h.2.1 g.2.1
 have case:nth L i=nth L k→k < i:=fun e => by
  have e2:nth L j=nth L k:=lies_anti vj vk g.2.1 (by rw [← e];exact h.2.1)
  rcases h.2.2 with a | a
  ·exact absurd (e.trans e2.symm) a
  ·rcases g.2.2 with b | b
   ·exact absurd e2 b
   ·omega
 refine ⟨fun e => ?_,t,?_⟩
 ·subst e
  have:=case rfl
  omega
 ·by_cases e:nth L i=nth L k
  ·exact Or.inr (case e)
  ·exact Or.inl e
theorem up_most {L:Rgn} (hL:AllV L):∀ (m i:Nat) (T:List Nat),T.length≤m→i < L.length→(∀ j,j < L.length→Up L i j→j ∈ T)→∃ k,k < L.length∧¬ Cov L k∧(k=i∨Up L i k)
 | m,i,T,hm,hi,hT => by
   by_cases c:Cov L i
   ·obtain ⟨k,hk,u⟩:=c
    match m with
    | 0 => exact absurd (hT k hk u) (by rw [List.length_eq_zero_iff.1 (by omega:T.length=0)];simp)
    | m+1 =>
      have lt:(T.filter fun j => decide (Up L k j)).length < T.length:=List.length_filter_lt_length_iff_exists.2 ⟨k,hT k hk u,by simpa using up_irrefl L k⟩
      obtain ⟨z,hz,nz,h⟩:=up_most hL m k (T.filter fun j => decide (Up L k j)) (by omega) hk (fun j hj uj => List.mem_filter.2 ⟨hT j hj (up_trans hL hi hk hj u uj),decide_eq_true uj⟩)
      refine ⟨z,hz,nz,Or.inr ?_⟩
      rcases h with rfl | h
      ·exact u
      ·exact up_trans hL hi hk hz u h
   ·exact ⟨i,hi,c,Or.inl rfl⟩
theorem up_some {L:Rgn} (hL:AllV L) {i:Nat} (hi:i < L.length):∃ k,k < L.length∧¬ Cov L k∧∀ x,Hs (nth L i) x→Hs (nth L k) x:=by
 obtain ⟨k,hk,nk,h⟩:=up_most hL L.length i (List.range L.length) (by simp) hi (fun j hj _ => List.mem_range.2 hj)
 refine ⟨k,hk,nk,fun x hx => ?_⟩
 rcases h with rfl | h
 ·exact hx
 ·exact lies_has (hL _ (nth_mem hi)).pg (hL _ (nth_mem hk)).pg h.2.1 hx
def keptN (L:Rgn) (n:Nat):Rgn:=((List.range n).filter fun i => !covB L i).map (nth L)
def kept (L:Rgn):Rgn:=keptN L L.length
theorem keptN_yes {L:Rgn} {n:Nat} (h:covB L n=true):keptN L (n+1)=keptN L n:=by
 unfold keptN
 rw [List.range_succ,List.filter_append]
 simp [h]
theorem keptN_no {L:Rgn} {n:Nat} (h:covB L n=false):keptN L (n+1)=keptN L n ++ [nth L n]:=by
 unfold keptN
 rw [List.range_succ,List.filter_append]
 simp [h]
theorem keptN_len (L:Rgn) (n:Nat):(keptN L n).length≤n:=by
 unfold keptN
 rw [List.length_map]
 have:=List.length_filter_le (fun i => !covB L i) (List.range n)
 rwa [List.length_range] at this
theorem kept_len (L:Rgn):(kept L).length≤L.length:=keptN_len L _
theorem mem_keptN {L:Rgn} {n:Nat} {p:List Pt}:p ∈ keptN L n↔∃ i,i < n∧¬ Cov L i∧nth L i=p:=by
 unfold keptN
 rw [List.mem_map]
 constructor
 ·rintro ⟨i,hi,e⟩
  obtain ⟨a,b⟩:=List.mem_filter.1 hi
  exact ⟨i,List.mem_range.1 a,covB_not.1 (by simpa using b),e⟩
 ·rintro ⟨i,hi,c,e⟩
  exact ⟨i,List.mem_filter.2 ⟨List.mem_range.2 hi,by simpa using covB_not.2 c⟩,e⟩
theorem keptN_sub {L:Rgn} {n:Nat} (hn:n≤L.length) {p:List Pt} (h:p ∈ keptN L n):p ∈ L:=by
 obtain ⟨i,hi,_,e⟩:=mem_keptN.1 h
 rw [← e];exact nth_mem (by omega)
theorem kept_sub {L:Rgn} {p:List Pt} (h:p ∈ kept L):p ∈ L:=keptN_sub (Nat.le_refl _) h
theorem kept_free (L:Rgn):(kept L).Pairwise fun p q => ¬ Lies p q∧¬ Lies q p:=by
 unfold kept keptN
 rw [List.pairwise_map]
 have hs:((List.range L.length).filter fun i => !covB L i).Pairwise (· < ·):=List.Pairwise.filter _ List.pairwise_lt_range
 refine List.Pairwise.imp_of_mem (fun {a b} ha hb hab => ?_) hs
 obtain ⟨a1,a2⟩:=List.mem_filter.1 ha
 obtain ⟨b1,b2⟩:=List.mem_filter.1 hb
 have na:¬ Cov L a:=covB_not.1 (by simpa using a2)
 have nb:¬ Cov L b:=covB_not.1 (by simpa using b2)
 have la:=List.mem_range.1 a1
 have lb:=List.mem_range.1 b1
 have key:Lies (nth L b) (nth L a)→False:=fun h => nb ⟨a,la,by omega,h,Or.inr hab⟩
 refine ⟨fun h => ?_,key⟩
 by_cases e:nth L a=nth L b
 ·exact key (by rw [← e] at h ⊢;exact h)
 ·exact na ⟨b,lb,by omega,h,Or.inl e⟩
theorem kept_apart {L:Rgn} {i k:Nat} (hi:i < (kept L).length) (hk:k < (kept L).length) (hne:i ≠ k):¬ Lies (nth (kept L) i) (nth (kept L) k):=by
 have h:=List.pairwise_iff_getElem.1 (kept_free L)
 rw [nth_get hi,nth_get hk]
 by_cases c:i < k
 ·exact (h i k hi hk c).1
 ·exact (h k i hk hi (by omega)).2
theorem kept_twice (L:Rgn):kept (kept L)=kept L:=by
 have no:∀ i,i ∈ List.range (kept L).length→(!covB (kept L) i)=true:=fun i hi => by
  have hi:=List.mem_range.1 hi
  have:¬ Cov (kept L) i:=fun ⟨k,hk,u⟩ => kept_apart hi hk (fun e => u.1 e.symm) u.2.1
  rw [covB_not.2 this]
  rfl
 have:kept (kept L)=((List.range (kept L).length).filter fun i => !covB (kept L) i).map (nth (kept L)):=rfl
 rw [this,List.filter_eq_self.2 no,nth_map]
theorem oct_list {l q:List Pt} (hl:Plcs l) (h:IsOct l q):Vl q∧∀ y,y ∈ l→Hs q y:=by
 obtain ⟨a,b,c,d,s,t,i,j,h1,h2,h3,h4,h5,h6,h7,h8,hq⟩:=h
 obtain ⟨B,K⟩:=bd_of h1 h2 h3 h4 h5 h6 h7 h8
 have O:=oct_keeps B
 have hn:q.length≤8:=count_le (at' q) q.length (octL a b c d s t i j) (fun i j hi hj hne => pg_distinct hq.1 hi hj hne) (fun i hi => hq.2.1 _ (at_mem hi))
 have pm:∀ y,y ∈ l→Plc y:=fun y hy => by
  obtain ⟨n,hn,e⟩:=mem_at hy
  rw [← e];exact hl n hn
 have hpl:Plcs q:=fun n hn => by
  have hk:=O _ (hq.2.1 _ (at_mem hn))
  obtain ⟨y1,g1,e1⟩:=h1.1
  obtain ⟨y2,g2,e2⟩:=h2.1
  obtain ⟨y3,g3,e3⟩:=h3.1
  obtain ⟨y4,g4,e4⟩:=h4.1
  have p1:=pm _ g1
  have p2:=pm _ g2
  have p3:=pm _ g3
  have p4:=pm _ g4
  unfold Keeps at hk
  unfold Plc at p1 p2 p3 p4 ⊢
  omega
 exact ⟨vl_of hq.1 (by omega) hpl,fun y hy => hs_of_least _ hq.1 hq.2.2 (oct_least (K y hy))⟩
def TidyIs (L out:Rgn):Prop:=((kept L).length≤32∧out=kept L)∨(32 < (kept L).length∧∃ q,IsOct ((kept L).drop 31).flatten q∧out=(kept L).take 31 ++ [q])
theorem tidy_one {L out out':Rgn} (h:TidyIs L out) (h':TidyIs L out'):out=out':=by
 rcases h with ⟨a,rfl⟩ | ⟨a,q,o,rfl⟩ <;> rcases h' with ⟨a',rfl⟩ | ⟨a',q',o',rfl⟩
 ·rfl
 ·omega
 ·omega
 ·rw [Ct.oct_one o o']
theorem flat_plcs {L:Rgn} (hL:AllV L):Plcs L.flatten:=plcs_of fun x hx => by
 obtain ⟨p,hp,hx⟩:=List.mem_flatten.1 hx
 obtain ⟨n,hn,e⟩:=mem_at hx
 rw [← e];exact (hL p hp).2.1 n hn
theorem tidy_vl {L out:Rgn} (hL:AllV L) (h:TidyIs L out):VlR out:=by
 have hk:AllV (kept L):=fun p hp => hL p (kept_sub hp)
 rcases h with ⟨a,rfl⟩ | ⟨a,q,o,rfl⟩
 ·exact ⟨a,hk⟩
 ·have g:=oct_list (flat_plcs fun p hp => hk p (List.mem_of_mem_drop hp)) o
  refine ⟨by simp;omega,fun p hp => ?_⟩
  rcases List.mem_append.1 hp with hp | hp
  ·exact hk p (List.mem_of_mem_take hp)
  ·rw [List.mem_singleton.1 hp];exact g.1
theorem tidy_has {L out:Rgn} (hL:AllV L) (h:TidyIs L out) {x:Pt} (hx:InR L x):InR out x:=by
 have hk:AllV (kept L):=fun p hp => hL p (kept_sub hp)
 obtain ⟨p,hp,hx⟩:=hx
 obtain ⟨i,hi,rfl⟩:=mem_nth hp
 obtain ⟨k,hk',nk,g⟩:=up_some hL hi
 have hin:nth L k ∈ kept L:=mem_keptN.2 ⟨k,hk',nk,rfl⟩
 have hx:=g x hx
 rcases h with ⟨a,rfl⟩ | ⟨a,q,o,rfl⟩
 ·exact ⟨_,hin,hx⟩
 ·rw [← List.take_append_drop 31 (kept L)] at hin
  rcases List.mem_append.1 hin with hin | hin
  ·exact ⟨_,List.mem_append_left _ hin,hx⟩
  ·have o:=oct_list (flat_plcs fun p hp => hk p (List.mem_of_mem_drop hp)) o
   exact ⟨q,by simp,lies_has (hL _ (nth_mem hk')).pg o.1.pg (fun y hy => o.2 y (List.mem_flatten.2 ⟨_,hin,hy⟩)) hx⟩
theorem tidy_same {L out:Rgn} (hl:L.length≤32) (h:TidyIs L out):out=kept L:=by
 have:=kept_len L
 rcases h with ⟨_,e⟩ | ⟨a,_⟩
 ·exact e
 ·omega
theorem tidy_only {L out:Rgn} (hl:L.length≤32) (h:TidyIs L out) {x:Pt} (hx:InR out x):InR L x:=by
 rw [tidy_same hl h] at hx
 obtain ⟨p,hp,hx⟩:=hx
 exact ⟨p,kept_sub hp,hx⟩
theorem tidy_len {L out:Rgn} (h:TidyIs L out):out.length≤L.length:=by
 have:=kept_len L
 rcases h with ⟨a,rfl⟩ | ⟨a,q,o,rfl⟩
 ·exact this
 ·simp;omega
def Col (P:Nat→Rgn→Prop):Nat→Rgn→Prop
 | 0,out => out=[]
 | n+1,out => ∃ a b,Col P n a∧P n b∧out=a ++ b
theorem Col.one {P:Nat→Rgn→Prop} (hP:∀ i r r',P i r→P i r'→r=r'):∀ {n:Nat} {out out':Rgn},Col P n out→Col P n out'→out=out'
 | 0,_,_,h,h' => h.trans h'.symm
 | n+1,_,_,⟨a,b,h1,h2,e⟩,⟨a',b',h1',h2',e'⟩ => by
   rw [e,e',Col.one hP h1 h1',hP n b b' h2 h2']
theorem Col.mem {P:Nat→Rgn→Prop}:∀ {n:Nat} {out:Rgn},Col P n out→∀ {p:List Pt},p ∈ out→∃ i r,i < n∧P i r∧p ∈ r
 | 0,_,h,p,hp => by rw [h] at hp;cases hp
 | n+1,_,⟨a,b,h1,h2,e⟩,p,hp => by
   rw [e] at hp
   rcases List.mem_append.1 hp with hp | hp
   ·obtain ⟨i,r,hi,hr,g⟩:=Col.mem h1 hp
    exact ⟨i,r,by omega,hr,g⟩
   ·exact ⟨n,b,by omega,h2,hp⟩
theorem Col.has {P:Nat→Rgn→Prop}:∀ {n:Nat} {out:Rgn},Col P n out→∀ {i:Nat},i < n→∃ r,P i r∧∀ p,p ∈ r→p ∈ out
 | 0,_,_,i,hi => by omega
 | n+1,_,⟨a,b,h1,h2,e⟩,i,hi => by
   subst e
   by_cases c:i=n
   ·subst c
    exact ⟨b,h2,fun p hp => List.mem_append_right _ hp⟩
   ·obtain ⟨r,hr,g⟩:=Col.has h1 (show i < n by omega)
    exact ⟨r,hr,fun p hp => List.mem_append_left _ (g p hp)⟩
theorem Col.len {P:Nat→Rgn→Prop} {c:Nat} (hP:∀ i r,P i r→r.length≤c):∀ {n:Nat} {out:Rgn},Col P n out→out.length≤c * n
 | 0,_,h => by rw [h];exact Nat.zero_le _
 | n+1,_,⟨a,b,h1,h2,e⟩ => by
   have:=Col.len hP h1
   have:=hP n b h2
   rw [e,List.length_append,Nat.mul_succ]
   omega
end Rg
end Go.Proofs.YtbpgfenippiepaaGreatDoor
namespace Go.Proofs.YtbpgfenippiepaaGreatDoor
open Go.RowKit Hl
namespace Rg
open Ct (Hf ov LeftS BothS Poly WF)
def PolR (S:Pt→Prop) (r:Rgn):Prop:=(∃ q,Poly S q∧r=[q])∨((¬ ∃ y,S y)∧r=[])
theorem PolR.one {S:Pt→Prop} {r r':Rgn} (h:PolR S r) (h':PolR S r'):r=r':=by
 rcases h with ⟨q,hq,rfl⟩ | ⟨n,rfl⟩ <;> rcases h' with ⟨q',hq',rfl⟩ | ⟨n',rfl⟩
 ·rw [Ct.poly_one hq hq']
 ·exact absurd hq.some n'
 ·exact absurd hq'.some n
 ·rfl
theorem PolR.len {S:Pt→Prop} {r:Rgn} (h:PolR S r):r.length≤1:=by
 rcases h with ⟨q,_,rfl⟩ | ⟨_,rfl⟩ <;> simp
theorem PolR.has {S:Pt→Prop} {r:Rgn} (h:PolR S r) (hS:∀ y,S y→Plc y) {x:Pt} (hx:∀ u v k:Int,∃ y,S y∧af u v k y≤af u v k x):∃ q,q ∈ r∧Hs q x:=by
 rcases h with ⟨q,hq,rfl⟩ | ⟨n,rfl⟩
 ·exact ⟨q,by simp,hq.has hS hx⟩
 ·obtain ⟨y,hy,_⟩:=hx 0 0 0
  exact absurd ⟨y,hy⟩ n
theorem PolR.vl {S:Pt→Prop} {r:Rgn} (h:PolR S r) (hS:∀ y,S y→Plc y):AllV r:=by
 rcases h with ⟨q,hq,rfl⟩ | ⟨n,rfl⟩
 ·intro p hp
  rw [List.mem_singleton.1 hp]
  exact hq.vl hS
 ·intro p hp
  cases hp
def CutC (L:Rgn) (h:Hf) (out:Rgn):Prop:=Col (fun i => PolR (LeftS (nth L i) h)) L.length out
def MetC (a b:Rgn) (out:Rgn):Prop:=Col (fun i => Col (fun k => PolR (BothS (nth a i) (nth b k))) b.length) a.length out
def PieC (p:List Pt) (lo hi:Pt) (out:Rgn):Prop:=∃ a b m l c d,CutC [p] (1,0,lo.1 - 1) a∧CutC [p] (-1,0,-hi.1 - 1) b∧CutC [p] (-1,0,-lo.1) m∧CutC m (1,0,hi.1) l∧CutC l (0,1,lo.2 - 1) c∧CutC l (0,-1,-hi.2 - 1) d∧out=a ++ b ++ c ++ d
def OutC (L:Rgn) (lo hi:Pt) (out:Rgn):Prop:=Col (fun i => PieC (nth L i) lo hi) L.length out
def SumC (L:Rgn) (p:List Pt) (n:Nat) (out:Rgn):Prop:=Col (fun i r => ∃ s,Mk.SumIs (nth L i) p 0 s∧r=[s]) n out
theorem CutC.one {L:Rgn} {h:Hf} {a b:Rgn} (g:CutC L h a) (k:CutC L h b):a=b:=Col.one (P:=fun i => PolR (LeftS (nth L i) h)) (fun _ _ _ => PolR.one) g k
theorem MetC.one {L M:Rgn} {a b:Rgn} (g:MetC L M a) (k:MetC L M b):a=b:=Col.one (P:=fun i => Col (fun k => PolR (BothS (nth L i) (nth M k))) M.length) (fun i _ _ => Col.one (P:=fun k => PolR (BothS (nth L i) (nth M k))) (fun _ _ _ => PolR.one)) g k
theorem PieC.one {p:List Pt} {lo hi:Pt} {r r':Rgn} (g:PieC p lo hi r) (k:PieC p lo hi r'):r=r':=by
 obtain ⟨a,b,m,l,c,d,h1,h2,h3,h4,h5,h6,rfl⟩:=g
 obtain ⟨a',b',m',l',c',d',k1,k2,k3,k4,k5,k6,rfl⟩:=k
 obtain rfl:=h1.one k1
 obtain rfl:=h2.one k2
 obtain rfl:=h3.one k3
 obtain rfl:=h4.one k4
 obtain rfl:=h5.one k5
 obtain rfl:=h6.one k6
 rfl
theorem OutC.one {L:Rgn} {lo hi:Pt} {a b:Rgn} (g:OutC L lo hi a) (k:OutC L lo hi b):a=b:=Col.one (P:=fun i => PieC (nth L i) lo hi) (fun _ _ _ => PieC.one) g k
theorem SumC.one {L:Rgn} {p:List Pt} {n:Nat} {a b:Rgn} (g:SumC L p n a) (k:SumC L p n b):a=b:=Col.one (fun _ r r' h h' => by
 obtain ⟨s,hs,rfl⟩:=h
 obtain ⟨s',hs',rfl⟩:=h'
 rw [(hs.one hs').2]) g k
theorem cut_vl {L:Rgn} {h:Hf} {out:Rgn} (hL:AllV L) (g:CutC L h out):AllV out:=by
 intro p hp
 obtain ⟨i,r,hi,hr,hp⟩:=Col.mem g hp
 exact hr.vl (fun y hy => Ct.left_plc2 (hL _ (nth_mem hi)).2.1 hy) p hp
theorem cut_has {L:Rgn} {h:Hf} {out:Rgn} (hL:AllV L) (g:CutC L h out) {x:Pt} (hx:InR L x) (ho:ov h x≤0):InR out x:=by
 obtain ⟨p,hp,hx⟩:=hx
 obtain ⟨i,hi,rfl⟩:=mem_nth hp
 have v:=hL _ (nth_mem hi)
 obtain ⟨r,hr,hin⟩:=Col.has g hi
 obtain ⟨q,hq,hqx⟩:=hr.has (fun y hy => Ct.left_plc2 v.2.1 hy) (x:=x) (fun a b k => Ct.clip_least v.pg hx ho a b k)
 exact ⟨q,hin q hq,hqx⟩
theorem cut_len {L:Rgn} {h:Hf} {out:Rgn} (g:CutC L h out):out.length≤L.length:=by
 have:=Col.len (c:=1) (fun _ _ => PolR.len) g
 omega
theorem met_vl {a b out:Rgn} (ha:AllV a) (hb:AllV b) (g:MetC a b out):AllV out:=by
 intro p hp
 obtain ⟨i,r,hi,hr,hp⟩:=Col.mem g hp
 obtain ⟨k,s,hk,hs,hp⟩:=Col.mem hr hp
 exact hs.vl (fun y hy => Ct.both_plc (ha _ (nth_mem hi)).2.1 (hb _ (nth_mem hk)).2.1 hy) p hp
theorem met_has {a b out:Rgn} (ha:AllV a) (hb:AllV b) (g:MetC a b out) {x:Pt} (h1:InR a x) (h2:InR b x):InR out x:=by
 obtain ⟨p,hp,hx⟩:=h1
 obtain ⟨i,hi,rfl⟩:=mem_nth hp
 obtain ⟨q,hq,hy⟩:=h2
 obtain ⟨k,hk,rfl⟩:=mem_nth hq
 obtain ⟨r,hr,hin⟩:=Col.has g hi
 obtain ⟨s,hs,hin2⟩:=Col.has hr hk
 have v:=ha _ (nth_mem hi)
 have u:=hb _ (nth_mem hk)
 obtain ⟨t,ht,htx⟩:=hs.has (fun y hy => Ct.both_plc v.2.1 u.2.1 hy) (x:=x) (fun a b k => Ct.both_least v.pg u.pg hx hy a b k)
 exact ⟨t,hin t (hin2 t ht),htx⟩
theorem inR_plc {L:Rgn} (hL:AllV L) {x:Pt} (hx:InR L x):Plc x:=by
 obtain ⟨p,hp,hx⟩:=hx
 exact Mk.has_plc (hL p hp).pg (hL p hp).2.1 hx
def Bx (a b c d:Int) (x:Pt):Prop:=(a≤x.1∧x.1≤b)∧c≤x.2∧x.2≤d
theorem box_some {p:List Pt} (h:1≤p.length):∃ lo hi,IsBox p lo hi:=by
 have a:=bounds_min (p:=p) (u:=1) (v:=0) h
 have b:=bounds_min (p:=p) (u:=0) (v:=1) h
 exact ⟨(_,_),(_,_),a.1,a.2,b.1,b.2⟩
def InBx (L:Rgn) (a b c d:Int):Prop:=∀ p,p ∈ L→∀ y,y ∈ p→Bx a b c d y
end Rg
end Go.Proofs.YtbpgfenippiepaaGreatDoor
namespace Go.Proofs.YtbpgfenippiepaaGreatDoor
open Hl Rg
namespace Rn
def Dst (lo hi:Int):Prop:=0≤lo∧lo≤hi∧hi≤100000
def Sec (i:Nat) (lo hi:Int) (q:List Pt):Prop:=IsHull (Ry.secL (2 * i) 2 lo hi) q
def RingC (x:Pt) (lo hi:Int) (L:Rgn):Prop:=L.length=32∧∀ i,i < 32→∃ q,Sec i lo hi q∧nth L i=Mk.shift q x∧Plcs (Mk.shift q x)
def RingP (x:Pt) (lo hi:Int) (k:Int) (r:Rgn):Prop:=(¬ (Plc x∧Dst lo hi)∧k=1∧r=[])∨((Plc x∧Dst lo hi)∧(((∃ i q,i < 32∧Sec i lo hi q∧¬ Plcs (Mk.shift q x))∧k=3∧r=[])∨(k=0∧∃ L,RingC x lo hi L∧TidyIs L r)))
theorem RingC.one {x:Pt} {lo hi:Int} {L M:Rgn} (h:RingC x lo hi L) (g:RingC x lo hi M):L=M:=by
 apply List.ext_getElem (by rw [h.1,g.1])
 intro i h1 h2
 obtain ⟨q,a,b,_⟩:=h.2 i (by have:=h.1;omega)
 obtain ⟨q',a',b',_⟩:=g.2 i (by have:=h.1;omega)
 rw [← nth_get h1,← nth_get h2,b,b',hull_unique a a']
theorem RingP.one {x:Pt} {lo hi:Int} {k k':Int} {r r':Rgn} (h:RingP x lo hi k r) (g:RingP x lo hi k' r'):k=k'∧r=r':=by
 have no:∀ {L:Rgn},RingC x lo hi L→(∃ i q,i < 32∧Sec i lo hi q∧¬ Plcs (Mk.shift q x))→False:=fun c ⟨i,q,hi,hs,hn⟩ => by
  obtain ⟨q',a,_,d⟩:=c.2 i hi
  rw [hull_unique a hs] at d
  exact hn d
 rcases h with ⟨b,rfl,rfl⟩ | ⟨b,⟨e,rfl,rfl⟩ | ⟨rfl,L,c,t⟩⟩ <;> rcases g with ⟨b',rfl,rfl⟩ | ⟨b',⟨e',rfl,rfl⟩ | ⟨rfl,L',c',t'⟩⟩
 ·exact ⟨rfl,rfl⟩
 ·exact absurd b' b
 ·exact absurd b' b
 ·exact absurd b b'
 ·exact ⟨rfl,rfl⟩
 ·exact (no c' e).elim
 ·exact absurd b b'
 ·exact (no c e').elim
 ·rw [c.one c'] at t
  exact ⟨rfl,tidy_one t t'⟩
theorem sec_len {i:Nat} {lo hi:Int} {q:List Pt} (hd:Dst lo hi) (hi':i < 32) (h:Sec i lo hi q):q.length≤64:=Ry.sec_few (by omega) (by omega) hd.1 hd.2.1 h
theorem ring_vl {x:Pt} {lo hi:Int} {L:Rgn} (hd:Dst lo hi) (h:RingC x lo hi L):AllV L:=fun p hp => by
 obtain ⟨i,hi',e⟩:=mem_nth hp
 rw [h.1] at hi'
 obtain ⟨q,a,b,c⟩:=h.2 i hi'
 rw [← e,b]
 exact vl_of (Mk.shift_pg a.1 x) (by rw [Mk.shift_len];exact sec_len hd hi' a) c
theorem ring_vlr {x:Pt} {lo hi:Int} {L r:Rgn} (hd:Dst lo hi) (h:RingC x lo hi L) (t:TidyIs L r):VlR r:=tidy_vl (ring_vl hd h) t
def dif (y x:Pt):Pt:=(y.1 - x.1,y.2 - x.2)
theorem plus_dif (y x:Pt):Mk.plus (dif y x) x=y:=by unfold Mk.plus dif;simp
theorem zero_bx (r:Pt) {d:Int} (hd:0 < d):(0,0) ∈ Ry.bx r 0 d:=by
 have h:Ex.fl 0 d=0:=by
  have:=Ex.fl_spec 0 hd
  have h1:Ex.fl 0 d≤0:=Int.not_lt.1 fun h => by
   have:=Int.mul_lt_mul_of_pos_left h hd
   omega
  have h2:0≤Ex.fl 0 d:=Int.not_lt.1 fun h => by
   have h:Ex.fl 0 d+1≤0:=h
   have:=Int.mul_le_mul_of_nonneg_left h (Int.le_of_lt hd)
   rw [Int.mul_add] at this
   omega
  omega
 exact Ry.mem_bx.2 ⟨Or.inl (by rw [Int.mul_zero,h]),Or.inl (by rw [Int.mul_zero,h])⟩
theorem dd_zero {v:Pt} (h:v=(0,0)):Ry.dd v v=0:=by subst h;rfl
theorem sq_zero {a:Int} (h:a * a≤0):a=0:=by
 have h1:=Ry.sq0 a
 rcases Int.mul_eq_zero.1 (show a * a=0 by omega) with h | h <;> exact h
theorem some_sec {v:Pt} {lo hi:Int} (hd:Dst lo hi) (h1:lo * lo≤Ry.dd v v) (h2:Ry.dd v v≤hi * hi):∃ i,i < 32∧∀ q,Sec i lo hi q→Hs q v:=by
 by_cases hv:v=(0,0)
 ·refine ⟨0,by omega,fun q hq => ?_⟩
  have l0:lo=0:=sq_zero (by rw [dd_zero hv] at h1;exact h1)
  subst l0
  rw [hv]
  exact hq.2.2 _ (Ry.mem_sec.2 (Or.inl (zero_bx _ (by omega))))
 ·obtain ⟨k,f⟩:=Ry.found hv
  have k64:=f.lt
  refine ⟨k / 2,by omega,fun q hq => Ry.sec_has (by omega) (by omega) hd.1 hd.2.1 hq hv ((f.lies_iff (by omega) (by omega)).2 (Or.inl (by omega))) h1 h2⟩
theorem ring_has {x y:Pt} {lo hi:Int} {L r:Rgn} (hd:Dst lo hi) (c:RingC x lo hi L) (t:TidyIs L r) (h1:lo * lo≤Ry.dd (dif y x) (dif y x)) (h2:Ry.dd (dif y x) (dif y x)≤hi * hi):InR r y:=by
 obtain ⟨i,hi',h⟩:=some_sec hd h1 h2
 obtain ⟨q,a,b,_⟩:=c.2 i hi'
 refine tidy_has (ring_vl hd c) t ⟨_,nth_mem (by rw [c.1];exact hi'),?_⟩
 have:=(Mk.shift_hs a.1 x (dif y x)).2 (h q a)
 rw [plus_dif] at this
 rw [b]
 exact this
theorem ring_only {x y:Pt} {lo hi:Int} {L r:Rgn} (c:RingC x lo hi L) (t:TidyIs L r) (h:InR r y):∃ i q,i < 32∧Sec i lo hi q∧Hs q (dif y x):=by
 obtain ⟨p,hp,hy⟩:=tidy_only (by rw [c.1];omega) t h
 obtain ⟨i,hi',e⟩:=mem_nth hp
 rw [c.1] at hi'
 obtain ⟨q,a,b,_⟩:=c.2 i hi'
 refine ⟨i,q,hi',a,(Mk.shift_hs a.1 x _).1 ?_⟩
 rw [plus_dif,← b,e]
 exact hy
theorem hs_low {q:List Pt} (hq:Pg q) {x:Pt} (hx:Hs q x) {u v k:Int} (h:∀ y,y ∈ q→k≤u * y.1+v * y.2):k≤u * x.1+v * x.2:=by
 obtain ⟨j,hj,g⟩:=hs_least hq hx u v 0
 have:=h _ (at_mem hj)
 unfold af at g
 omega
theorem sec_far {i:Nat} {lo hi b:Int} {q:List Pt} {v:Pt} (hd:Dst lo hi) (hb:1000 * hi < 998 * b) (h:Sec i lo hi q) (hv:Hs q v):(-b≤v.1∧v.1≤b)∧-b≤v.2∧v.2≤b:=by
 have bd:∀ y,y ∈ q→(-b≤y.1∧y.1≤b)∧-b≤y.2∧y.2≤b:=fun y hy => Ry.sec_bd hd.1 hd.2.1 hb (h.2.1 y hy)
 have h1:=hs_low h.1 hv (u:=1) (v:=0) (k:=-b) (fun y hy => by have:=bd y hy;omega)
 have h2:=hs_low h.1 hv (u:=-1) (v:=0) (k:=-b) (fun y hy => by have:=bd y hy;omega)
 have h3:=hs_low h.1 hv (u:=0) (v:=1) (k:=-b) (fun y hy => by have:=bd y hy;omega)
 have h4:=hs_low h.1 hv (u:=0) (v:=-1) (k:=-b) (fun y hy => by have:=bd y hy;omega)
 omega
theorem far_small {hi:Int} (h0:0≤hi):1000 * hi < 998 * (hi * 1003 / 1000+2):=by omega
theorem turns_all:((List.range 64).all fun k => decide (994749≤Ry.dd (Ry.dir (k+1)) (Ry.dir k)) && decide (994749≤Ry.dd (Ry.dir (k+1)) (Ry.dir (k+2))) && decide (994749≤Ry.dd (Ry.dir (k+1)) (Ry.dir (k+1))))=true:=by decide +kernel
theorem turns {k j:Nat} (hk:k < 64) (hj:j≤2):994749≤Ry.dd (Ry.dir (k+1)) (Ry.dir (k+j)):=by
 have h:=List.all_eq_true.1 turns_all k (List.mem_range.2 hk)
 simp only [Bool.and_eq_true,decide_eq_true_eq] at h
 have:j=0∨j=1∨j=2:=by omega
 rcases this with rfl | rfl | rfl
 ·exact h.1.1
 ·exact h.2
 ·exact h.1.2
theorem prod_low {u e:Int} (hu:-1000≤u∧u≤1000) (he:-1001≤e∧e≤1001):-1001000≤u * e:=by
 have h:(u * e).natAbs≤1000 * 1001:=by
  rw [Int.natAbs_mul]
  exact Nat.mul_le_mul (by omega) (by omega)
 omega
theorem bx_low {u r x:Pt} {n d:Int} (hu:(-1000≤u.1∧u.1≤1000)∧(-1000≤u.2∧u.2≤1000)) (hd:d=998∨d=1001) (hx:x ∈ Ry.bx r n d):n * Ry.dd u r - 2002000≤d * Ry.dd u x:=by
 obtain ⟨h1,h2⟩:=Ry.mem_bx.1 hx
 have d0:0 < d:=by omega
 have err:∀ a z:Int,(z=Ex.fl a d∨z=Ex.ce a d)→-1001≤d * z - a∧d * z - a≤1001:=fun a z h => by
  have s1:=Ex.fl_spec a d0
  have s2:=Ex.ce_spec a d0
  rcases h with rfl | rfl <;> omega
 have e1:=prod_low hu.1 (err _ _ h1)
 have e2:=prod_low hu.2 (err _ _ h2)
 have e:d * Ry.dd u x=n * Ry.dd u r+u.1 * (d * x.1 - r.1 * n)+u.2 * (d * x.2 - r.2 * n):=by unfold Ry.dd;grind
 omega
theorem sec_low {i:Nat} {lo hi:Int} {q:List Pt} {v:Pt} (hd:Dst lo hi) (hi':i < 32) (h:Sec i lo hi q) (hv:Hs q v):1001 * (99 * lo - 300)≤100 * Ry.dd (Ry.dir (2 * i+1)) v:=by
 obtain ⟨d0,d1,d2⟩:=hd
 have bd:=Ry.dir_bd (2 * i+1)
 have key:∀ (n d:Int) (r y:Pt),lo≤n→(d=998∨d=1001)→994749≤Ry.dd (Ry.dir (2 * i+1)) r→y ∈ Ry.bx r n d→1001 * (99 * lo - 300)≤100 * Ry.dd (Ry.dir (2 * i+1)) y:=fun n d r y hn hd hr hy => by
  have k1:=bx_low bd hd hy
  have k2:lo * 994749≤n * Ry.dd (Ry.dir (2 * i+1)) r:=Ry.mul3 hn hr (by omega) (by omega)
  rcases hd with rfl | rfl <;> omega
 have all:∀ y,y ∈ q→1001 * (99 * lo - 300)≤(100 * (Ry.dir (2 * i+1)).1) * y.1+(100 * (Ry.dir (2 * i+1)).2) * y.2:=fun y hy => by
  have e:100 * Ry.dd (Ry.dir (2 * i+1)) y=(100 * (Ry.dir (2 * i+1)).1) * y.1+(100 * (Ry.dir (2 * i+1)).2) * y.2:=by unfold Ry.dd;grind
  rw [← e]
  rcases Ry.mem_sec.1 (h.2.1 y hy) with g | g | ⟨j,hj,g⟩
  ·exact key lo 1001 _ y (Int.le_refl _) (Or.inr rfl) (turns (k:=2 * i) (j:=0) (by omega) (by omega)) g
  ·exact key lo 1001 _ y (Int.le_refl _) (Or.inr rfl) (turns (k:=2 * i) (j:=2) (by omega) (by omega)) g
  ·exact key hi 998 _ y d1 (Or.inl rfl) (turns (k:=2 * i) (j:=j) (by omega) hj) g
 have e:100 * Ry.dd (Ry.dir (2 * i+1)) v=(100 * (Ry.dir (2 * i+1)).1) * v.1+(100 * (Ry.dir (2 * i+1)).2) * v.2:=by unfold Ry.dd;grind
 rw [e]
 exact hs_low h.1 hv all
theorem near_sq {n D U V:Int} (hn:0≤n) (h:1001 * n≤100 * D) (hU:U≤1002001) (hV:0≤V) (hc:D * D≤U * V):n * n≤10000 * V:=by
 have h1:(1001 * n) * (1001 * n)≤(100 * D) * (100 * D):=Ry.mul3 h h (by omega) (by omega)
 have h2:U * V≤1002001 * V:=Int.mul_le_mul_of_nonneg_right hU hV
 have e1:(1001 * n) * (1001 * n)=1002001 * (n * n):=by grind
 have e2:(100 * D) * (100 * D)=10000 * (D * D):=by grind
 omega
theorem sec_near {i:Nat} {lo hi:Int} {q:List Pt} {v:Pt} (hd:Dst lo hi) (hi':i < 32) (h:Sec i lo hi q) (hv:Hs q v):99 * lo - 300≤0∨(99 * lo - 300) * (99 * lo - 300)≤10000 * Ry.dd v v:=by
 by_cases hn:99 * lo - 300≤0
 ·exact Or.inl hn
 ·exact Or.inr (near_sq (by omega) (sec_low hd hi' h hv) (Ry.dir_dd (k:=2 * i+1) (by omega)).2 (Ry.dd_nonneg v) (Ry.cauchy _ _).2)
theorem ring_tight {x y:Pt} {lo hi:Int} {L r:Rgn} (hd:Dst lo hi) (c:RingC x lo hi L) (t:TidyIs L r) (h:InR r y):((-(hi * 1003 / 1000+2)≤y.1 - x.1∧y.1 - x.1≤hi * 1003 / 1000+2)∧-(hi * 1003 / 1000+2)≤y.2 - x.2∧y.2 - x.2≤hi * 1003 / 1000+2)∧(99 * lo - 300≤0∨(99 * lo - 300) * (99 * lo - 300)≤10000 * Ry.dd (dif y x) (dif y x)):=by
 obtain ⟨i,q,hi',hs,hv⟩:=ring_only c t h
 exact ⟨sec_far hd (far_small (by have:=hd.1;have:=hd.2.1;omega)) hs hv,sec_near hd hi' hs hv⟩
theorem ring_fits {x:Pt} {lo hi k:Int} {r:Rgn} (hd:Dst lo hi) (h:RingP x lo hi k r) (hx:Plc x) (b:Int) (hb:1000 * hi < 998 * b) (h1:-500000≤x.1 - b∧x.1+b≤500000) (h2:-500000≤x.2 - b∧x.2+b≤500000):k=0∧∃ L,RingC x lo hi L∧TidyIs L r:=by
 rcases h with ⟨n,_⟩ | ⟨_,⟨⟨i,q,_,hs,hn⟩,_⟩ | h⟩
 ·exact absurd ⟨hx,hd⟩ n
 ·refine absurd (plcs_of fun y hy => ?_) hn
  obtain ⟨z,hz,e⟩:=Mk.mem_shift.1 hy
  have:=Ry.sec_bd hd.1 hd.2.1 hb (hs.2.1 z hz)
  rw [← e]
  unfold Plc Mk.plus
  simp only
  omega
 ·exact h
end Rn
end Go.Proofs.YtbpgfenippiepaaGreatDoor
