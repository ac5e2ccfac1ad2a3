/-
  Arguments as the laws of layer 3 have them: points, slices of points; what is only read stays as it was.
  The examples of the chapter; the law CutWhole, under what package cut owes; half-planes as arguments.
  The laws CutSides and CutApart, under what packages hull and cut owe.
  The laws CutCommon and CutMeets, under what packages hull and cut owe.
  Lists of polygons, without a program: what is tidied, what is collected.
  Lists of polygons, without a program: what half-planes leave, what two have in common, what is left without a rectangle, sums, boxes.
-/
import Derived.ProofKit
import Derived.OpenShut
import Derived.ChangeSame
import Derived.ChangeStays
import Derived.ReadAgain
import Derived.Deep.SlicePairs
import Derived.Deep.Frames
import Derived.Lib.SmallJoins
import Derived.Test.YtlookcbokhknfaaGreatHullIn
import Derived.Test.YtlookcbokhknfaaGreatCutCon
import Derived.Test.YtlookcbokhknfaaGreatHullCon
import Derived.Test.YtlookcbokhknfaaGreatHullCa
import Derived.Test.YtlookcbokhknfaaGreatHullOct
import Derived.Test.YtlookcbokhknfaaGreatMinkHul
import Derived.Test.YtlookcbokhknfaaGreatHullAro
namespace Go.Proofs.YtlookcbokhknfaaGreat
namespace Hl
open Go.ChangeShapes Go.WideShapes Go.ChangeAt Go.RowKit Go.Joins Go.Deep
set_option maxRecDepth 100000 in
theorem kids:Kids Tryz.prog (· < Tryz.prog.types.size):=kids_rows (by kernel_rfl) (by kernel_rfl)
set_option maxRecDepth 100000 in
theorem full:∀ t e,t < Tryz.prog.types.size→Tryz.prog.underlying t=some (.slice e)→0 < Tryz.prog.cellsOf e:=slices_full_of Tryz.prog (by kernel_rfl)
theorem same_of {W W':World} (g:Grew W W') {x:MemPlace} (h:x.block < W.heap.size):W.sameAt W' x:=Below.same g h
set_option maxRecDepth 100000 in
theorem stays {H:Type} {enc:TypeId × Value→H} {W W':World} {base:Nat} {sp:Nat→Bool} (g:Grew W W'):∀ {ts:List TypeId} {vs:List Value} {ds:List (DataW H)} {ps:List MemPlace},(∀ t ∈ ts,t < Tryz.prog.types.size)→DataW.TrodAll enc Tryz.prog W base (fun _ => true) true ts vs ds ps →
  (∀ p ∈ ps,p.block < W.heap.size)→(∀ p ∈ ps,sp p.block=true)→DataW.TrodAll enc Tryz.prog W' base sp true ts vs ds ps
 | [],vs,ds,ps,_,h,_,_ => by
   obtain ⟨rfl,rfl,rfl⟩:=trodAll_nil h
   exact trodAll_mk0
 | t :: ts,vs,ds,ps,hT,h,hl,hs => by
   match vs,h with
   | v :: vs,h =>
     obtain ⟨v',vs',d,ds',p,q,e,rfl,rfl,h0,h1⟩:=trodAll_cons h
     obtain ⟨rfl,rfl⟩:=List.cons.inj e
     obtain ⟨n,hn⟩:=h0
     refine trodAll_cons_mk ⟨n,DataW.trod_stays kids (fun {t e} => full t e) (fun hh => by cases hh) (hT t List.mem_cons_self) hn (fun x hx => same_of g (hl x (List.mem_append_left _ hx))) (fun x hx => hs x (List.mem_append_left _ hx))⟩ ?_
     exact stays g (fun t ht => hT t (List.mem_cons_of_mem _ ht)) h1 (fun x hx => hl x (List.mem_append_right _ hx)) (fun x hx => hs x (List.mem_append_right _ hx))
set_option maxRecDepth 100000 in
theorem post_grew {H:Type} {enc:TypeId × Value→H} {f:Func} {s:ChangeSpec} {apart fresh handsOn again:Bool} {W W':World} {args:Array Value} {v:Value} {ds gs:List (DataW H)} {before:List MemPlace}
  (hT:∀ t ∈ f.params.toList,t < Tryz.prog.types.size) (hW:DataW.Whole enc Tryz.prog f.params.toList s.vars apart W args.toList ds gs before) (hA:DataW.TrodAll enc Tryz.prog W 0 (fun _ => true) true f.params.toList args.toList ds before)
  (hs:s.vars=[]) (_hg:gs=[]) (hargs:(s.fn H (ds ++ gs)).args=ds) (hvars:(s.fn H (ds ++ gs)).vars=[])
  (hres:∀ (b:Nat) (sp:Nat→Bool) (hd:Bool),DataW.TrodAll enc Tryz.prog W' b sp hd f.resultTypes.toList (v.resultList f.resultTypes.size) (s.fn H (ds ++ gs)).results [])
  (g:Grew W W')
  (hok:∀ (j:Nat) (t:TypeId) (r:Value),f.resultTypes[j]? = some t→(v.resultList f.resultTypes.size)[j]? = some r→Value.okWide Tryz.prog W' .any 0 t r) :
  s.post enc Tryz.prog f apart fresh handsOn again W args v W':=by
 have lt:∀ x ∈ before,x.block < W.heap.size:=fun x hx => hW.lt x hx
 have arg:∀ sp:Nat→Bool,(∀ x ∈ before,sp x.block=true)→DataW.TrodAll enc Tryz.prog W' 0 sp true f.params.toList args.toList (s.fn H (ds ++ gs)).args before:=fun sp hsp => by
  rw [hargs]
  exact stays g hT hA lt hsp
 have var:∀ sp:Nat→Bool,DataW.TrodVars enc Tryz.prog W' sp s.vars (s.fn H (ds ++ gs)).vars []:=fun sp => by
  rw [hs,hvars]
  rfl
 refine ⟨ds,gs,before,[],before,[],hW,hres _ _ _,arg _ (fun x hx => by simpa using lt x hx),var _,World.keptBut_mono (fun x hx => ⟨hx,Or.inr (by simpa using hx)⟩) (Below.frame g (· ∈ before)),fun _ => ?_⟩
 obtain ⟨_,_,_,_,_,hz,hn⟩:=hW
 refine ⟨hok,_,_,([] ++ before) ++ [],⟨[] ++ before,[],trodAll_append (arg _ (fun _ _ => rfl)) (hres _ _ _),var _,rfl,?_,?_⟩,?_⟩
 ·intro b off hx
  have hin:MemPlace.cell b off ∈ before:=by simpa using hx
  rw [Below.frozen (p:=⟨b,off,none⟩) g (lt _ hin)]
  exact hz b off hin
 ·intro ha
  have:=hn ha
  simpa using this
 ·intro x hx _
  simpa using hx
set_option maxRecDepth 100000 in
theorem cellsPoint:Tryz.prog.cellsOf 27 = 2:=by kernel_rfl
set_option maxRecDepth 100000 in
theorem open_point {H:Type} {enc:TypeId × Value→H} {W:World} {base b0:Nat} {sp:Nat→Bool} {held:Bool} {v:Value} {d:DataW H} {p:List MemPlace} (hval:Value.okWide Tryz.prog W .any b0 27 v) (h:DataW.Trod enc Tryz.prog W base sp held 27 v d p) :
  ∃ x:Pt,v=.agg #[.int .i64 x.1,.int .i64 x.2]:=by
 obtain ⟨c0,c1,y0,y1,m,rfl,rfl,rfl,hy0,hy1⟩:=open_agg2 Tryz.underlying27 (by kernel_rfl) cellsPoint hval h
 obtain ⟨a,e0,rfl,wa⟩:=DataW.trod_int Tryz.underlying3 hy0
 obtain ⟨b,e1,rfl,wb⟩:=DataW.trod_int Tryz.underlying3 hy1
 simp at e0 e1
 subst e0 e1
 exact ⟨(a,b),rfl⟩
def numI:Value→Int
 | .int _ n => n
 | _ => 0
set_option maxRecDepth 100000 in
theorem open_points {H:Type} {enc:TypeId × Value→H} {W:World} {base b0:Nat} {sp:Nat→Bool} {held:Bool} {v:Value} {d:DataW H} {p:List MemPlace} (hval:Value.okWide Tryz.prog W .any b0 23 v) (h:DataW.Trod enc Tryz.prog W base sp held 23 v d p) :
  ∃ l:List Pt,Sl W v l∧l.length≤maxLen:=by
 obtain ⟨a0,len0,cap0,rfl⟩:=okWide_slice Tryz.underlying23 hval
 obtain ⟨fuel,hf⟩:=h
 rcases open_slice_pairs Tryz.underlying23 Tryz.underlying27 cellsPoint rfl rfl (by kernel_rfl) (by kernel_rfl) hf with ⟨hcs,_⟩ | ⟨a,len,cap,m,n,V0,V1,D0,D1,P0,P1,hcs,hb,hl,hm,hmm,hx,hi⟩
 ·simp [Value.cells] at hcs
  obtain ⟨rfl,rfl,rfl⟩:=hcs
  exact ⟨[],Or.inl ⟨rfl,none,0,rfl⟩,Nat.zero_le _⟩
 ·simp [Value.cells] at hcs
  obtain ⟨rfl,rfl,rfl⟩:=hcs
  have hlm:len0≤m:=by rw [hmm];split <;> omega
  by_cases h0:len0=0
  ·subst h0
   exact ⟨[],Or.inl ⟨rfl,some a,cap0,rfl⟩,Nat.zero_le _⟩
  ·obtain ⟨ab,ao,sp0⟩:=a
   have hspot:sp0=none:=by
    have h1:=(hi 0 (by omega)).1
    rw [Nat.zero_mul] at h1
    unfold Addr.add at h1
    rw [if_pos rfl] at h1
    unfold World.cell? at h1
    cases sp0 with
    | none => rfl
    | some s =>
      exfalso
      revert h1
      simp
      split <;> simp
   subst hspot
   have ad:∀ k,(⟨ab,ao,none⟩:Addr).add k=⟨ab,ao+k,none⟩:=fun k => by
    unfold Addr.add
    split
    ·rename_i e;subst e;rfl
    ·rfl
   have each:∀ i,i < len0→W.cell? ⟨ab,ao+i * 2,none⟩=some (.int .i64 (numI (V0 i)))∧W.cell? ⟨ab,ao+i * 2+1,none⟩=some (.int .i64 (numI (V1 i))):=by
    intro i hlt
    obtain ⟨c0,c1,t0,t1⟩:=hi i (by omega)
    rw [ad] at c0 c1
    obtain ⟨x0,e0,_,_⟩:=DataW.trod_int Tryz.underlying3 t0
    obtain ⟨x1,e1,_,_⟩:=DataW.trod_int Tryz.underlying3 t1
    simp at e0 e1
    rw [e0] at c0
    rw [e1] at c1
    rw [e0,e1]
    exact ⟨c0,c1⟩
   refine ⟨(List.range len0).map fun i => (numI (V0 i),numI (V1 i)),Or.inr ⟨ab,ao,cap0,by simp,World.block_lt_of_cell? W _ (each 0 (by omega)).1,fun i hlt => ?_⟩,by simp;omega⟩
   have hlt':i < len0:=by simpa using hlt
   have e:at' ((List.range len0).map fun i => (numI (V0 i),numI (V1 i))) i=(numI (V0 i),numI (V1 i)):=by
    unfold at'
    simp [hlt']
   rw [e]
   exact each i hlt'
end Hl
end Go.Proofs.YtlookcbokhknfaaGreat
namespace Go.Proofs.YtlookcbokhknfaaGreat
open Go.RowKit Hl
namespace Ct
def r1:List Pt:=[(0,0),(1,0),(1,3),(0,4)]
def r2:List Pt:=[(0,0),(2,0),(2,3),(0,4)]
def r3:List Pt:=[(3,0),(4,0),(3,1)]
end Ct
end Go.Proofs.YtlookcbokhknfaaGreat
namespace Go.Proofs.YtlookcbokhknfaaGreat
open Go.RowKit Hl
end Go.Proofs.YtlookcbokhknfaaGreat
namespace Go.Proofs.YtlookcbokhknfaaGreat
open Go.ChangeShapes Go.WideShapes Go.ChangeAt Go.RowKit Go.Joins Go.Deep Hl
namespace Ct
theorem i64_of_wf {x:Int} (h:(Lit.int .i64 x).wf=true):-9223372036854775808≤x∧x≤9223372036854775807:=by
 simp [Lit.wf,IntKind.min,IntKind.max,IntKind.signed,IntKind.bits] at h
 exact ⟨by omega,by omega⟩
set_option maxRecDepth 100000 in
theorem cellsHalf:Tryz.prog.cellsOf 25 = 3:=by kernel_rfl
set_option maxRecDepth 100000 in
theorem open_half {H:Type} {enc:TypeId × Value→H} {W:World} {base b0:Nat} {sp:Nat→Bool} {held:Bool} {v:Value} {d:DataW H} {p:List MemPlace} (hval:Value.okWide Tryz.prog W .any b0 25 v) (h:DataW.Trod enc Tryz.prog W base sp held 25 v d p) :
  ∃ x:Hf,v=.agg #[.int .i64 x.1,.int .i64 x.2.1,.int .i64 x.2.2]∧(-9223372036854775808≤x.1∧x.1≤9223372036854775807)∧(-9223372036854775808≤x.2.1∧x.2.1≤9223372036854775807)∧-9223372036854775808≤x.2.2∧x.2.2≤9223372036854775807:=by
 obtain ⟨c0,c1,c2,y0,y1,y2,m,rfl,rfl,rfl,hy0,hy1,hy2⟩:=open_agg3 Tryz.underlying25 (by kernel_rfl) cellsHalf hval h
 obtain ⟨a,e0,rfl,wa⟩:=DataW.trod_int Tryz.underlying3 hy0
 obtain ⟨b,e1,rfl,wb⟩:=DataW.trod_int Tryz.underlying3 hy1
 obtain ⟨c,e2,rfl,wc⟩:=DataW.trod_int Tryz.underlying3 hy2
 simp at e0 e1 e2
 subst e0 e1 e2
 exact ⟨(a,b,c),rfl,i64_of_wf wa,i64_of_wf wb,i64_of_wf wc⟩
end Ct
end Go.Proofs.YtlookcbokhknfaaGreat
namespace Go.Proofs.YtlookcbokhknfaaGreat
open Go.RowKit Hl
namespace Ct
theorem fr_plc2 {a b y:Pt} {s t:Int} (ha:Plc a) (hb:Plc b) (h:Fr a b s t y):Plc y:=by
 obtain ⟨m,n,hw,h1,h2⟩:=h
 exact ⟨wr_bounds hw.1 hw.2.1 ha.1 hb.1 h1,wr_bounds hw.1 hw.2.1 ha.2 hb.2 h2⟩
theorem left_plc2 {p:List Pt} (hp:Plcs p) {h:Hf} {y:Pt} (hy:LeftS p h y):Plc y:=by
 rcases hy with ⟨i,hi,rfl,_⟩ | ⟨i,hi,hf⟩
 ·exact hp i hi
 ·exact fr_plc2 (hp i hi) (hp _ (Nat.mod_lt _ (by omega))) hf
def ng (h:Hf):Hf:=(-h.1,-h.2.1,-h.2.2)
end Ct
end Go.Proofs.YtlookcbokhknfaaGreat
namespace Go.Proofs.YtlookcbokhknfaaGreat
open Go.RowKit Hl
end Go.Proofs.YtlookcbokhknfaaGreat
namespace Go.Proofs.YtlookcbokhknfaaGreat
open Go.RowKit Hl
namespace Ct
theorem both_plc {p q:List Pt} (hp:Plcs p) (hq:Plcs q) {y:Pt} (h:BothS p q y):Plc y:=by
 rcases h with ⟨i,hi,rfl,_⟩ | ⟨k,hk,rfl,_⟩ | ⟨i,k,⟨hi,hk⟩,g⟩
 ·exact hp i hi
 ·exact hq k hk
 ·exact fr_plc2 (hq k hk) (hq _ (Nat.mod_lt _ (by omega))) g.2
end Ct
end Go.Proofs.YtlookcbokhknfaaGreat
namespace Go.Proofs.YtlookcbokhknfaaGreat
open Go.RowKit Hl
end Go.Proofs.YtlookcbokhknfaaGreat
namespace Go.Proofs.YtlookcbokhknfaaGreat
open Go.RowKit Hl
namespace Rg
abbrev Rgn:=List (List Pt)
def nth (L:Rgn) (i:Nat):List Pt:=L.getD i []
theorem nth_get {L:Rgn} {i:Nat} (h:i < L.length):nth L i=L[i]:=by
 unfold nth
 simp [List.getD,h]
theorem nth_mem {L:Rgn} {i:Nat} (h:i < L.length):nth L i ∈ L:=by
 rw [nth_get h];exact List.getElem_mem h
theorem mem_nth {L:Rgn} {p:List Pt} (h:p ∈ L):∃ i,i < L.length∧nth L i=p:=by
 obtain ⟨i,hi,e⟩:=List.getElem_of_mem h
 exact ⟨i,hi,by rw [nth_get hi];exact e⟩
def AllV (L:Rgn):Prop:=∀ p,p ∈ L→Vl p
def VlR (L:Rgn):Prop:=L.length≤32∧AllV L
def InR (L:Rgn) (x:Pt):Prop:=∃ p,p ∈ L∧Hs p x
def Lies (p q:List Pt):Prop:=∀ y,y ∈ p→Hs q y
instance decLies (p q:List Pt):Decidable (Lies p q):=by unfold Lies;infer_instance
theorem lies_has {p q:List Pt} (hp:Pg p) (hq:Pg q) (h:Lies p q) {x:Pt} (hx:Hs p x):Hs q x :=
 hs_of_least p hq h fun u v k => by
  obtain ⟨j,hj,g⟩:=hs_least hp hx u v k
  exact ⟨_,at_mem hj,g⟩
theorem own_corner {p:List Pt} (hp:Pg p) {y:Pt} (hy:y ∈ p):Hs p y:=by
 obtain ⟨i,hi,e⟩:=mem_at hy
 rw [← e];exact hs_corner hp hi
theorem lies_trans {p q r:List Pt} (hq:Pg q) (hr:Pg r) (h:Lies p q) (k:Lies q r):Lies p r:=fun y hy => lies_has hq hr k (h y hy)
theorem lies_anti {p q:List Pt} (hp:Pg p) (hq:Pg q) (h:Lies p q) (k:Lies q p):p=q:=by
 have a:IsHull (p ++ q) p:=⟨hp,fun x hx => List.mem_append_left _ hx,fun x hx => (List.mem_append.1 hx).elim (own_corner hp) (k x)⟩
 have b:IsHull (p ++ q) q:=⟨hq,fun x hx => List.mem_append_right _ hx,fun x hx => (List.mem_append.1 hx).elim (h x) (own_corner hq)⟩
 exact hull_unique a b
def Up (L:Rgn) (i k:Nat):Prop:=k ≠ i∧Lies (nth L i) (nth L k)∧(nth L i ≠ nth L k∨k < i)
instance decUp (L:Rgn) (i k:Nat):Decidable (Up L i k):=by unfold Up;infer_instance
def Cov (L:Rgn) (i:Nat):Prop:=∃ k,k < L.length∧Up L i k
def covB (L:Rgn) (i:Nat):Bool:=(List.range L.length).any fun k => decide (Up L i k)
theorem covB_iff {L:Rgn} {i:Nat}:covB L i=true↔Cov L i:=by
 unfold covB Cov
 rw [List.any_eq_true]
 constructor
 ·rintro ⟨k,hk,h⟩
  exact ⟨k,List.mem_range.1 hk,of_decide_eq_true h⟩
 ·rintro ⟨k,hk,h⟩
  exact ⟨k,List.mem_range.2 hk,decide_eq_true h⟩
theorem covB_not {L:Rgn} {i:Nat}:covB L i=false↔¬ Cov L i:=by
 rw [← covB_iff];cases covB L i <;> simp
theorem up_irrefl (L:Rgn) (i:Nat):¬ Up L i i:=fun h => h.1 rfl
theorem up_trans {L:Rgn} (hL:AllV L) {i j k:Nat} (hi:i < L.length) (hj:j < L.length) (hk:k < L.length) (h:Up L i j) (g:Up L j k):Up L i k:=by
 have vi:=(hL _ (nth_mem hi)).pg
 have vj:=(hL _ (nth_mem hj)).pg
 have vk:=(hL _ (nth_mem hk)).pg
 have t:=lies_trans vj vk h.2.1 g.2.1
 have case:nth L i=nth L k→k < i:=fun e => by
  have e2:nth L j=nth L k:=lies_anti vj vk g.2.1 (by rw [← e];exact h.2.1)
  rcases h.2.2 with a | a
  ·exact absurd (e.trans e2.symm) a
  ·rcases g.2.2 with b | b
   ·exact absurd e2 b
   ·omega
 refine ⟨fun e => ?_,t,?_⟩
 ·subst e
  have:=case rfl
  omega
 ·by_cases e:nth L i=nth L k
  ·exact Or.inr (case e)
  ·exact Or.inl e
theorem up_most {L:Rgn} (hL:AllV L):∀ (m i:Nat) (T:List Nat),T.length≤m→i < L.length→(∀ j,j < L.length→Up L i j→j ∈ T)→∃ k,k < L.length∧¬ Cov L k∧(k=i∨Up L i k)
 | m,i,T,hm,hi,hT => by
   by_cases c:Cov L i
   ·obtain ⟨k,hk,u⟩:=c
    match m with
    | 0 => exact absurd (hT k hk u) (by rw [List.length_eq_zero_iff.1 (by omega:T.length=0)];simp)
    | m+1 =>
      have lt:(T.filter fun j => decide (Up L k j)).length < T.length:=List.length_filter_lt_length_iff_exists.2 ⟨k,hT k hk u,by simpa using up_irrefl L k⟩
      obtain ⟨z,hz,nz,h⟩:=up_most hL m k (T.filter fun j => decide (Up L k j)) (by omega) hk (fun j hj uj => List.mem_filter.2 ⟨hT j hj (up_trans hL hi hk hj u uj),decide_eq_true uj⟩)
      refine ⟨z,hz,nz,Or.inr ?_⟩
      rcases h with rfl | h
      ·exact u
      ·exact up_trans hL hi hk hz u h
   ·exact ⟨i,hi,c,Or.inl rfl⟩
theorem up_some {L:Rgn} (hL:AllV L) {i:Nat} (hi:i < L.length):∃ k,k < L.length∧¬ Cov L k∧∀ x,Hs (nth L i) x→Hs (nth L k) x:=by
 obtain ⟨k,hk,nk,h⟩:=up_most hL L.length i (List.range L.length) (by simp) hi (fun j hj _ => List.mem_range.2 hj)
 refine ⟨k,hk,nk,fun x hx => ?_⟩
 rcases h with rfl | h
 ·exact hx
 ·exact lies_has (hL _ (nth_mem hi)).pg (hL _ (nth_mem hk)).pg h.2.1 hx
def keptN (L:Rgn) (n:Nat):Rgn:=((List.range n).filter fun i => !covB L i).map (nth L)
def kept (L:Rgn):Rgn:=keptN L L.length
theorem keptN_yes {L:Rgn} {n:Nat} (h:covB L n=true):keptN L (n+1)=keptN L n:=by
 unfold keptN
 rw [List.range_succ,List.filter_append]
 simp [h]
theorem keptN_no {L:Rgn} {n:Nat} (h:covB L n=false):keptN L (n+1)=keptN L n ++ [nth L n]:=by
 unfold keptN
 rw [List.range_succ,List.filter_append]
 simp [h]
theorem keptN_len (L:Rgn) (n:Nat):(keptN L n).length≤n:=by
 unfold keptN
 rw [List.length_map]
 have:=List.length_filter_le (fun i => !covB L i) (List.range n)
 rwa [List.length_range] at this
theorem kept_len (L:Rgn):(kept L).length≤L.length:=keptN_len L _
theorem mem_keptN {L:Rgn} {n:Nat} {p:List Pt}:p ∈ keptN L n↔∃ i,i < n∧¬ Cov L i∧nth L i=p:=by
 unfold keptN
 rw [List.mem_map]
 constructor
 ·rintro ⟨i,hi,e⟩
  obtain ⟨a,b⟩:=List.mem_filter.1 hi
  exact ⟨i,List.mem_range.1 a,covB_not.1 (by simpa using b),e⟩
 ·rintro ⟨i,hi,c,e⟩
  exact ⟨i,List.mem_filter.2 ⟨List.mem_range.2 hi,by simpa using covB_not.2 c⟩,e⟩
theorem keptN_sub {L:Rgn} {n:Nat} (hn:n≤L.length) {p:List Pt} (h:p ∈ keptN L n):p ∈ L:=by
 obtain ⟨i,hi,_,e⟩:=mem_keptN.1 h
 rw [← e];exact nth_mem (by omega)
theorem kept_sub {L:Rgn} {p:List Pt} (h:p ∈ kept L):p ∈ L:=keptN_sub (Nat.le_refl _) h
theorem oct_list {l q:List Pt} (hl:Plcs l) (h:IsOct l q):Vl q∧∀ y,y ∈ l→Hs q y:=by
 obtain ⟨a,b,c,d,s,t,i,j,h1,h2,h3,h4,h5,h6,h7,h8,hq⟩:=h
 obtain ⟨B,K⟩:=bd_of h1 h2 h3 h4 h5 h6 h7 h8
 have O:=oct_keeps B
 have hn:q.length≤8:=count_le (at' q) q.length (octL a b c d s t i j) (fun i j hi hj hne => pg_distinct hq.1 hi hj hne) (fun i hi => hq.2.1 _ (at_mem hi))
 have pm:∀ y,y ∈ l→Plc y:=fun y hy => by
  obtain ⟨n,hn,e⟩:=mem_at hy
  rw [← e];exact hl n hn
 have hpl:Plcs q:=fun n hn => by
  have hk:=O _ (hq.2.1 _ (at_mem hn))
  obtain ⟨y1,g1,e1⟩:=h1.1
  obtain ⟨y2,g2,e2⟩:=h2.1
  obtain ⟨y3,g3,e3⟩:=h3.1
  obtain ⟨y4,g4,e4⟩:=h4.1
  have p1:=pm _ g1
  have p2:=pm _ g2
  have p3:=pm _ g3
  have p4:=pm _ g4
  unfold Keeps at hk
  unfold Plc at p1 p2 p3 p4 ⊢
  omega
 exact ⟨vl_of hq.1 (by omega) hpl,fun y hy => hs_of_least _ hq.1 hq.2.2 (oct_least (K y hy))⟩
def TidyIs (L out:Rgn):Prop:=((kept L).length≤32∧out=kept L)∨(32 < (kept L).length∧∃ q,IsOct ((kept L).drop 31).flatten q∧out=(kept L).take 31 ++ [q])
theorem tidy_one {L out out':Rgn} (h:TidyIs L out) (h':TidyIs L out'):out=out':=by
 rcases h with ⟨a,rfl⟩ | ⟨a,q,o,rfl⟩ <;> rcases h' with ⟨a',rfl⟩ | ⟨a',q',o',rfl⟩
 ·rfl
 ·omega
 ·omega
 ·rw [Ct.oct_one o o']
theorem flat_plcs {L:Rgn} (hL:AllV L):Plcs L.flatten:=plcs_of fun x hx => by
 obtain ⟨p,hp,hx⟩:=List.mem_flatten.1 hx
 obtain ⟨n,hn,e⟩:=mem_at hx
 rw [← e];exact (hL p hp).2.1 n hn
theorem tidy_vl {L out:Rgn} (hL:AllV L) (h:TidyIs L out):VlR out:=by
 have hk:AllV (kept L):=fun p hp => hL p (kept_sub hp)
 rcases h with ⟨a,rfl⟩ | ⟨a,q,o,rfl⟩
 ·exact ⟨a,hk⟩
 ·have g:=oct_list (flat_plcs fun p hp => hk p (List.mem_of_mem_drop hp)) o
  refine ⟨by simp;omega,fun p hp => ?_⟩
  rcases List.mem_append.1 hp with hp | hp
  ·exact hk p (List.mem_of_mem_take hp)
  ·rw [List.mem_singleton.1 hp];exact g.1
def Col (P:Nat→Rgn→Prop):Nat→Rgn→Prop
 | 0,out => out=[]
 | n+1,out => ∃ a b,Col P n a∧P n b∧out=a ++ b
theorem Col.one {P:Nat→Rgn→Prop} (hP:∀ i r r',P i r→P i r'→r=r'):∀ {n:Nat} {out out':Rgn},Col P n out→Col P n out'→out=out'
 | 0,_,_,h,h' => h.trans h'.symm
 | n+1,_,_,⟨a,b,h1,h2,e⟩,⟨a',b',h1',h2',e'⟩ => by
   rw [e,e',Col.one hP h1 h1',hP n b b' h2 h2']
theorem Col.mem {P:Nat→Rgn→Prop}:∀ {n:Nat} {out:Rgn},Col P n out→∀ {p:List Pt},p ∈ out→∃ i r,i < n∧P i r∧p ∈ r
 | 0,_,h,p,hp => by rw [h] at hp;cases hp
 | n+1,_,⟨a,b,h1,h2,e⟩,p,hp => by
   rw [e] at hp
   rcases List.mem_append.1 hp with hp | hp
   ·obtain ⟨i,r,hi,hr,g⟩:=Col.mem h1 hp
    exact ⟨i,r,by omega,hr,g⟩
   ·exact ⟨n,b,by omega,h2,hp⟩
theorem Col.has {P:Nat→Rgn→Prop}:∀ {n:Nat} {out:Rgn},Col P n out→∀ {i:Nat},i < n→∃ r,P i r∧∀ p,p ∈ r→p ∈ out
 | 0,_,_,i,hi => by omega
 | n+1,_,⟨a,b,h1,h2,e⟩,i,hi => by
   subst e
   by_cases c:i=n
   ·subst c
    exact ⟨b,h2,fun p hp => List.mem_append_right _ hp⟩
   ·obtain ⟨r,hr,g⟩:=Col.has h1 (show i < n by omega)
    exact ⟨r,hr,fun p hp => List.mem_append_left _ (g p hp)⟩
theorem Col.len {P:Nat→Rgn→Prop} {c:Nat} (hP:∀ i r,P i r→r.length≤c):∀ {n:Nat} {out:Rgn},Col P n out→out.length≤c * n
 | 0,_,h => by rw [h];exact Nat.zero_le _
 | n+1,_,⟨a,b,h1,h2,e⟩ => by
   have:=Col.len hP h1
   have:=hP n b h2
   rw [e,List.length_append,Nat.mul_succ]
   omega
end Rg
end Go.Proofs.YtlookcbokhknfaaGreat
namespace Go.Proofs.YtlookcbokhknfaaGreat
open Go.RowKit Hl
namespace Rg
open Ct (Hf ov LeftS BothS Poly WF)
def PolR (S:Pt→Prop) (r:Rgn):Prop:=(∃ q,Poly S q∧r=[q])∨((¬ ∃ y,S y)∧r=[])
theorem PolR.one {S:Pt→Prop} {r r':Rgn} (h:PolR S r) (h':PolR S r'):r=r':=by
 rcases h with ⟨q,hq,rfl⟩ | ⟨n,rfl⟩ <;> rcases h' with ⟨q',hq',rfl⟩ | ⟨n',rfl⟩
 ·rw [Ct.poly_one hq hq']
 ·exact absurd hq.some n'
 ·exact absurd hq'.some n
 ·rfl
theorem PolR.len {S:Pt→Prop} {r:Rgn} (h:PolR S r):r.length≤1:=by
 rcases h with ⟨q,_,rfl⟩ | ⟨_,rfl⟩ <;> simp
theorem PolR.has {S:Pt→Prop} {r:Rgn} (h:PolR S r) (hS:∀ y,S y→Plc y) {x:Pt} (hx:∀ u v k:Int,∃ y,S y∧af u v k y≤af u v k x):∃ q,q ∈ r∧Hs q x:=by
 rcases h with ⟨q,hq,rfl⟩ | ⟨n,rfl⟩
 ·exact ⟨q,by simp,hq.has hS hx⟩
 ·obtain ⟨y,hy,_⟩:=hx 0 0 0
  exact absurd ⟨y,hy⟩ n
theorem PolR.vl {S:Pt→Prop} {r:Rgn} (h:PolR S r) (hS:∀ y,S y→Plc y):AllV r:=by
 rcases h with ⟨q,hq,rfl⟩ | ⟨n,rfl⟩
 ·intro p hp
  rw [List.mem_singleton.1 hp]
  exact hq.vl hS
 ·intro p hp
  cases hp
def CutC (L:Rgn) (h:Hf) (out:Rgn):Prop:=Col (fun i => PolR (LeftS (nth L i) h)) L.length out
def MetC (a b:Rgn) (out:Rgn):Prop:=Col (fun i => Col (fun k => PolR (BothS (nth a i) (nth b k))) b.length) a.length out
def PieC (p:List Pt) (lo hi:Pt) (out:Rgn):Prop:=∃ a b m l c d,CutC [p] (1,0,lo.1 - 1) a∧CutC [p] (-1,0,-hi.1 - 1) b∧CutC [p] (-1,0,-lo.1) m∧CutC m (1,0,hi.1) l∧CutC l (0,1,lo.2 - 1) c∧CutC l (0,-1,-hi.2 - 1) d∧out=a ++ b ++ c ++ d
def OutC (L:Rgn) (lo hi:Pt) (out:Rgn):Prop:=Col (fun i => PieC (nth L i) lo hi) L.length out
def SumC (L:Rgn) (p:List Pt) (n:Nat) (out:Rgn):Prop:=Col (fun i r => ∃ s,Mk.SumIs (nth L i) p 0 s∧r=[s]) n out
theorem CutC.one {L:Rgn} {h:Hf} {a b:Rgn} (g:CutC L h a) (k:CutC L h b):a=b:=Col.one (P:=fun i => PolR (LeftS (nth L i) h)) (fun _ _ _ => PolR.one) g k
theorem MetC.one {L M:Rgn} {a b:Rgn} (g:MetC L M a) (k:MetC L M b):a=b:=Col.one (P:=fun i => Col (fun k => PolR (BothS (nth L i) (nth M k))) M.length) (fun i _ _ => Col.one (P:=fun k => PolR (BothS (nth L i) (nth M k))) (fun _ _ _ => PolR.one)) g k
theorem PieC.one {p:List Pt} {lo hi:Pt} {r r':Rgn} (g:PieC p lo hi r) (k:PieC p lo hi r'):r=r':=by
 obtain ⟨a,b,m,l,c,d,h1,h2,h3,h4,h5,h6,rfl⟩:=g
 obtain ⟨a',b',m',l',c',d',k1,k2,k3,k4,k5,k6,rfl⟩:=k
 obtain rfl:=h1.one k1
 obtain rfl:=h2.one k2
 obtain rfl:=h3.one k3
 obtain rfl:=h4.one k4
 obtain rfl:=h5.one k5
 obtain rfl:=h6.one k6
 rfl
theorem OutC.one {L:Rgn} {lo hi:Pt} {a b:Rgn} (g:OutC L lo hi a) (k:OutC L lo hi b):a=b:=Col.one (P:=fun i => PieC (nth L i) lo hi) (fun _ _ _ => PieC.one) g k
theorem SumC.one {L:Rgn} {p:List Pt} {n:Nat} {a b:Rgn} (g:SumC L p n a) (k:SumC L p n b):a=b:=Col.one (fun _ r r' h h' => by
 obtain ⟨s,hs,rfl⟩:=h
 obtain ⟨s',hs',rfl⟩:=h'
 rw [(hs.one hs').2]) g k
theorem cut_vl {L:Rgn} {h:Hf} {out:Rgn} (hL:AllV L) (g:CutC L h out):AllV out:=by
 intro p hp
 obtain ⟨i,r,hi,hr,hp⟩:=Col.mem g hp
 exact hr.vl (fun y hy => Ct.left_plc2 (hL _ (nth_mem hi)).2.1 hy) p hp
theorem cut_len {L:Rgn} {h:Hf} {out:Rgn} (g:CutC L h out):out.length≤L.length:=by
 have:=Col.len (c:=1) (fun _ _ => PolR.len) g
 omega
theorem met_vl {a b out:Rgn} (ha:AllV a) (hb:AllV b) (g:MetC a b out):AllV out:=by
 intro p hp
 obtain ⟨i,r,hi,hr,hp⟩:=Col.mem g hp
 obtain ⟨k,s,hk,hs,hp⟩:=Col.mem hr hp
 exact hs.vl (fun y hy => Ct.both_plc (ha _ (nth_mem hi)).2.1 (hb _ (nth_mem hk)).2.1 hy) p hp
theorem sum_vl {L:Rgn} {p:List Pt} {n:Nat} {out:Rgn} (hn:n≤L.length) (hL:AllV L) (hp:Vl p) (g:SumC L p n out):AllV out:=by
 intro q hq
 obtain ⟨i,r,hi,⟨s,hs,rfl⟩,hq⟩:=Col.mem g hq
 rw [List.mem_singleton.1 hq]
 exact (Mk.sums_law (hL _ (nth_mem (by omega))) hp hs).1
def Bx (a b c d:Int) (x:Pt):Prop:=(a≤x.1∧x.1≤b)∧c≤x.2∧x.2≤d
theorem one_in {p:List Pt} (hp:Vl p):AllV [p]:=fun q hq => by rw [List.mem_singleton.1 hq];exact hp
theorem pie_vl {p:List Pt} {lo hi:Pt} {out:Rgn} (hp:Vl p) (g:PieC p lo hi out):AllV out:=by
 obtain ⟨a,b,m,l,c,d,h1,h2,h3,h4,h5,h6,rfl⟩:=g
 have o:=one_in hp
 have vl:=cut_vl (cut_vl o h3) h4
 intro q hq
 rcases List.mem_append.1 hq with hq | hq
 ·rcases List.mem_append.1 hq with hq | hq
  ·rcases List.mem_append.1 hq with hq | hq
   ·exact cut_vl o h1 q hq
   ·exact cut_vl o h2 q hq
  ·exact cut_vl vl h5 q hq
 ·exact cut_vl vl h6 q hq
theorem pie_len {p:List Pt} {lo hi:Pt} {out:Rgn} (g:PieC p lo hi out):out.length≤4:=by
 obtain ⟨a,b,m,l,c,d,h1,h2,h3,h4,h5,h6,rfl⟩:=g
 have:=cut_len h1
 have:=cut_len h2
 have:=cut_len h3
 have:=cut_len h4
 have:=cut_len h5
 have:=cut_len h6
 simp only [List.length_append,List.length_singleton] at *
 omega
theorem out_vl {L:Rgn} {lo hi:Pt} {out:Rgn} (hL:AllV L) (g:OutC L lo hi out):AllV out:=by
 intro q hq
 obtain ⟨i,r,hi',hr,hq⟩:=Col.mem g hq
 exact pie_vl (hL _ (nth_mem hi')) hr q hq
end Rg
end Go.Proofs.YtlookcbokhknfaaGreat
