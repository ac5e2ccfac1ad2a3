/-
  Slices of slices of points: what came in, and what the call itself gathers.
  Arguments as the laws of layer 7 have them: slices of slices of points, half-planes.
  Arguments as the laws of layer 9 have them: points, distances, small numbers.
  Arguments as the laws of layer 10 have them: a point with the bounds of its numbers.
-/
import Derived.Deep.Slices
import Derived.Test.YtbpgfenippiepaaGreatDoorHullInB
import Derived.Test.YtbpgfenippiepaaGreatDoorHullFrame
namespace Go.Proofs.YtbpgfenippiepaaGreatDoor
open Go.RowKit Hl
namespace Rg
def Bd (L:Rgn):Prop:=L.length≤9223372036854775807∧∀ p,p ∈ L→p.length≤9223372036854775807
def Rw (w:World) (b o:Nat) (L:Rgn):Prop:=b < w.heap.size∧∀ i,i < L.length→∃ u,w.cell? ⟨b,o+i,none⟩=some u∧Sl w u (nth L i)
def Rl (w:World) (v:Value) (L:Rgn):Prop:=((L=[]∧∃ a c,v=.slice a 0 c)∨∃ b o c,v=.slice (some ⟨b,o,none⟩) L.length c∧Rw w b o L)∧Bd L
theorem Rw.grown {w w':World} {b o:Nat} {L:Rgn} (h:Rw w b o L) (g:Grew w w'):Rw w' b o L :=
 ⟨Nat.lt_of_lt_of_le h.1 g.size,fun i hi => by
  obtain ⟨u,hu,hs⟩:=h.2 i hi
  exact ⟨u,(Grew.cell g h.1).trans hu,hs.grown g⟩⟩
theorem Rl.grown {w w':World} {v:Value} {L:Rgn} (h:Rl w v L) (g:Grew w w'):Rl w' v L:=by
 obtain ⟨h | ⟨b,o,c,h,k⟩,hb⟩:=h
 ·exact ⟨Or.inl h,hb⟩
 ·exact ⟨Or.inr ⟨b,o,c,h,k.grown g⟩,hb⟩
theorem Rl.shape {w:World} {v:Value} {L:Rgn} (h:Rl w v L):∃ a c,v=.slice a L.length c:=by
 obtain ⟨⟨rfl,a,c,rfl⟩ | ⟨b,o,c,rfl,_⟩,_⟩:=h
 ·exact ⟨a,c,rfl⟩
 ·exact ⟨_,_,rfl⟩
theorem Rl.row {w:World} {a:Option Addr} {n c:Nat} {L:Rgn} (h:Rl w (.slice a n c) L) (h0:0 < L.length):∃ b o,a=some ⟨b,o,none⟩∧Rw w b o L:=by
 obtain ⟨⟨rfl,_⟩ | ⟨b,o,c',e,r⟩,_⟩:=h
 ·cases h0
 ·injection e with e1 e2 e3
  exact ⟨b,o,e1,r⟩
theorem Rl.nil (w:World) (a:Option Addr) (c:Nat):Rl w (.slice a 0 c) []:=⟨Or.inl ⟨rfl,a,c,rfl⟩,by simp [Bd]⟩
theorem AllV.bd {L:Rgn} (h:AllV L) (hl:L.length≤9223372036854775807):Bd L:=⟨hl,fun p hp => by have:=(h p hp).1.2;omega⟩
theorem info_sl:(Tryz.prog.info? 48).map (fun i => (i.zero,i.size,i.bytes))=some (some (.slice none 0 0),1,24):=by kernel_rfl
def IsHd (u:Value):Prop:=∃ a n c,u=.slice a n c
def HdB (w:World) (g:Nat):Prop:=∃ (cur:Array Value) (t:TypeId) (fr:Nat × Nat),w.heap[g]? = some (.cells cur t fr)∧∀ (j:Nat) (u:Value),cur[j]? = some u→IsHd u
theorem HdB.apart {w:World} {g b o:Nat} {p:List Pt} (h:HdB w g) (hr:Row w b o p) (h0:0 < p.length):b ≠ g:=by
 rintro rfl
 obtain ⟨cur,t,fr,e,hc⟩:=h
 have k:=(hr.2 0 h0).1
 unfold World.cell? at k
 rw [show w.heap[(⟨b,o+0 * 2,none⟩:Addr).block]? = some (.cells cur t fr) from e] at k
 obtain ⟨a,n,c,e⟩:=hc _ _ k
 cases e
theorem HdB.kept {w w':World} {g:Nat} (h:HdB w g) (e:w'.heap[g]? = w.heap[g]?):HdB w' g:=by
 obtain ⟨cur,t,fr,k,hc⟩:=h
 exact ⟨cur,t,fr,e.trans k,hc⟩
structure Own (B:Nat) (w:World) (v:Value) (L:Rgn):Prop where
 own:∃ us:List Value,us.length=L.length∧w.ownsRow B 48 1 v L.length us∧∀ (i:Nat) (u:Value),us[i]? = some u→Sl w u (nth L i)
 hd:∀ g,v.ownBlock=some g→HdB w g
 full:∀ p,p ∈ L→0 < p.length
theorem Own.nil (B:Nat) (w:World):Own B w (.slice none 0 0) []:=⟨⟨[],rfl,World.ownsRow_nil w B _ 1,fun i u h => (by cases h)⟩,fun g h => (by cases h),fun p h => (by cases h)⟩
theorem Own.block {B:Nat} {w:World} {v:Value} {L:Rgn} (h:Own B w v L):∀ k,v.ownBlock=some k→B≤k∧k < w.heap.size:=by
 obtain ⟨us,_,h1,_⟩:=h.own
 exact World.ownsRow.lt h1
theorem Own.ge {B:Nat} {w:World} {v:Value} {L:Rgn} (h:Own B w v L):∀ k,v.ownBlock=some k→B≤k:=fun k e => (h.block k e).1
theorem Own.grew {B:Nat} {w w':World} {v:Value} {L:Rgn} (h:Own B w v L) (g:Grew w w'):Own B w' v L:=by
 obtain ⟨us,h0,h1,h2⟩:=h.own
 refine ⟨⟨us,h0,?_,fun i u e => (h2 i u e).grown g⟩,fun k e => (h.hd k e).kept (g.block k (h.block k e).2),h.full⟩
 exact World.ownsRow.kept h1 (row:=none) ⟨g.os,g.tape,g.output,g.size,fun k hk _ => g.block k hk⟩ (by cases hv:v.ownBlock <;> simp)
theorem Sl.kept {B:Nat} {w w':World} {v u:Value} {L:Rgn} {p:List Pt} (h:Own B w v L) (hu:Sl w u p) (h0:0 < p.length) (g:w.grownBy w' v.ownBlock):Sl w' u p:=by
 obtain ⟨rfl,_⟩ | ⟨b,o,c,rfl,hr⟩:=hu
 ·cases h0
 ·have ne:some b ≠ v.ownBlock:=fun e => (h.hd b e.symm).apart hr h0 rfl
  exact Or.inr ⟨b,o,c,rfl,Nat.lt_of_lt_of_le hr.1 g.size,fun i hi => ⟨World.grownBy.cell g (hr.2 i hi).1 ne,World.grownBy.cell g (hr.2 i hi).2 ne⟩⟩
theorem zero_hd (z:Value) (hz:z.cells = #[.slice none 0 0]) (k:Nat):∀ u,u ∈ (Builtin.zeroCells z.cells k).toList→IsHd u:=by
 intro u hu
 rw [hz] at hu
 unfold Builtin.zeroCells at hu
 simp at hu
 obtain ⟨a,_,e⟩:=hu
 rw [Nat.mod_one] at e
 exact ⟨none,0,0,e.symm⟩
theorem hd_new (w:World) (cur:Array Value) (t:TypeId) (h:∀ u,u ∈ cur.toList→IsHd u):HdB (w.alloc (.cells cur t)) w.heap.size :=
 ⟨cur,t,(0,0),heap_alloc_new w _,fun j u e => h u (by rw [← Array.getElem?_toList] at e;exact List.mem_of_getElem? e)⟩
theorem cons_hd (us news:List Value) (z:Value) (hz:z.cells = #[.slice none 0 0]) (k:Nat) (h1:∀ u,u ∈ us→IsHd u) (h2:∀ u,u ∈ news→IsHd u):∀ u,u ∈ (us.toArray ++ news.toArray ++ Builtin.zeroCells z.cells k).toList→IsHd u:=by
 intro u hu
 rw [Array.toList_append,Array.toList_append] at hu
 rcases List.mem_append.1 hu with hu | hu
 ·rcases List.mem_append.1 hu with hu | hu
  ·exact h1 u (by simpa using hu)
  ·exact h2 u (by simpa using hu)
 ·exact zero_hd z hz k u hu
theorem hd_app {B:Nat} (ty:TypeId) (i0:TypeInfo) (hi:Tryz.prog.info? 48 = some i0) (hz0:i0.zero=some (.slice none 0 0)) (hz1:i0.size=1) (hz2:i0.bytes=24)
  (w:World) (v:Value) (n:Nat) (us:List Value) (hown:w.ownsRow B 48 1 v n us) (hd:∀ g,v.ownBlock=some g→HdB w g)
  (a:Addr) (m c:Nat) (news:List Value) (hl:news.length=m) (hnews:∀ (j:Nat) (u:Value),news[j]? = some u→w.cell? (a.add j)=some u) (h2:∀ u,u ∈ news→IsHd u) (h63:n+m≤4000000)
  (v':Value) (w':World) (hr:(Builtin.append_ #[22,22] ty #[v,.slice (some a) m c]).run Tryz.prog w=.ok v' w') (hv:v'=.slice none 0 0↔v=.slice none 0 0∧m=0):∀ g,v'.ownBlock=some g→HdB w' g:=by
 intro g hg
 have one:∀ u,u ∈ news→u.oneCell'=true:=fun u hu => by
  obtain ⟨a,n,c,rfl⟩:=h2 u hu
  rfl
 have hc1:(Value.slice none 0 0).cells = #[.slice none 0 0]:=rfl
 rcases hown.2 with ⟨rfl,rfl⟩ | ⟨g0,cap,cur,rfl,hbg,hg0,hnc,hcm,hcs,htake⟩
 ·by_cases hm:m=0
  ·rw [hv.2 ⟨rfl,hm⟩] at hg
   cases hg
  ·have k:=run_append_nil (P:=Tryz.prog) w 22 ty 48 i0 _ Tryz.underlying22 hi hz0 a m c news (by rw [hz1,hl];omega) hnews (by omega) (by omega) (by rw [hz2];omega)
   rw [hr] at k
   injection k with k1 k2
   subst k1 k2
   injection hg with hg
   subst hg
   have:=hd_new w.drew (news.toArray ++ Builtin.zeroCells (Value.slice none 0 0).cells (grownCap w m 0 48 - m)) 48 (fun u hu => cons_hd [] news _ hc1 _ (fun u hu => by cases hu) h2 u (by simpa using hu))
   exact this
 ·have usl:us.length=n:=by rw [hown.1];omega
  obtain ⟨cur',t',fr',e',hc'⟩:=hd g0 rfl
  rw [hg0] at e'
  injection e' with e'
  injection e' with e1 e2 e3
  subst e1 e2 e3
  have mem_cur:∀ u,u ∈ cur.toList→IsHd u:=fun u hu => by
   obtain ⟨j,hj,e⟩:=List.getElem_of_mem hu
   exact hc' j u (by rw [← Array.getElem?_toList,List.getElem?_eq_getElem hj,e])
  by_cases hroom:n+m≤cap
  ·have k:=run_append_room (P:=Tryz.prog) w 22 ty 48 i0 Tryz.underlying22 hi g0 n cap cur hg0 a m c news (by rw [hz1,hl];omega) hnews one hroom (by rw [hz1,hl,hcs];omega)
   rw [hr] at k
   injection k with k1 k2
   subst k1 k2
   injection hg with hg
   subst hg
   refine ⟨_,_,_,setRow_heap w g0 cur _ 48 _ hg0,fun j u e => ?_⟩
   have hu:u ∈ cur.toList.take (n * i0.size) ++ news ++ cur.toList.drop (n * i0.size+news.length):=by
    rw [← Array.getElem?_toList] at e
    simpa using List.mem_of_getElem? e
   rcases List.mem_append.1 hu with hu | hu
   ·rcases List.mem_append.1 hu with hu | hu
    ·exact mem_cur u (List.mem_of_mem_take hu)
    ·exact h2 u hu
   ·exact mem_cur u (List.mem_of_mem_drop hu)
  ·have holds:∀ (j:Nat) (u:Value),us[j]? = some u→w.cell? ((⟨g0,0,none⟩:Addr).add j)=some u:=hown.cells (g:=g0) rfl
   have k:=run_append_grow (P:=Tryz.prog) w 22 ty 48 i0 _ Tryz.underlying22 hi hz0 ⟨g0,0,none⟩ n cap us (by rw [hz1,usl];omega) holds a m c news (by rw [hz1,hl];omega) hnews (by omega) (by omega) (growslice_fits (by omega) (by rw [hz2];omega))
   rw [hr] at k
   injection k with k1 k2
   subst k1 k2
   injection hg with hg
   subst hg
   have:=hd_new w.drew (us.toArray ++ news.toArray ++ Builtin.zeroCells (Value.slice none 0 0).cells (grownCap w (n+m) cap 48 - (n+m))) 48 (cons_hd us news _ hc1 _ (fun u hu => mem_cur u (by rw [← htake] at hu;exact List.mem_of_mem_take hu)) h2)
   exact this
theorem Own.rw {B:Nat} {w:World} {v:Value} {L:Rgn} (h:Own B w v L) (h0:0 < L.length):∃ g c,v=.slice (some ⟨g,0,none⟩) L.length c∧L.length≤c∧Rw w g 0 L:=by
 obtain ⟨us,hl,ho,hs⟩:=h.own
 have hc:=fun g => World.ownsRow.cells (g:=g) ho
 rcases ho.2 with ⟨_,e⟩ | ⟨g,cap,cur,rfl,_,hg,hn,_⟩
 ·omega
 ·refine ⟨g,cap,rfl,hn,(Array.getElem?_eq_some_iff.1 hg).1,fun i hi => ?_⟩
  have e:us[i]? = some us[i]:=List.getElem?_eq_getElem (by omega)
  have k:=hc g rfl i _ e
  have ad:(⟨g,0,none⟩:Addr).add i=⟨g,0+i,none⟩:=by
   unfold Addr.add
   split
   ·rename_i e;subst e;rfl
   ·rfl
  rw [ad] at k
  exact ⟨_,k,hs i _ e⟩
theorem Own.rl {B:Nat} {w:World} {v:Value} {L:Rgn} (h:Own B w v L) (hb:Bd L):Rl w v L:=by
 by_cases h0:0 < L.length
 ·obtain ⟨g,c,e,_,r⟩:=h.rw h0
  exact ⟨Or.inr ⟨g,0,c,e,r⟩,hb⟩
 ·have e:L=[]:=List.length_eq_zero_iff.1 (by omega)
  subst e
  obtain ⟨us,hl,ho,hs⟩:=h.own
  rcases ho.2 with ⟨rfl,e⟩ | ⟨g,cap,cur,rfl,_⟩
  ·exact Rl.nil w none 0
  ·exact Rl.nil w _ _
set_option maxRecDepth 100000 in
theorem run_app_none (v:Value) (n cap:Nat) (ao:Option Addr) (ty:TypeId) (c:Nat) (w:World) (hv:v=.slice ao n cap) (h:n≤cap) (h0:ao=none→n=0∧cap=0):(Builtin.append_ #[22,22] ty #[v,.slice none 0 c]).run Tryz.prog w=.ok v w:=by
 obtain ⟨i0,hi,hz0,hz1,hz2⟩:=info_parts info_sl
 subst hv
 cases ao with
 | none =>
   obtain ⟨rfl,rfl⟩:=h0 rfl
   simp [Builtin.append_,run_underlying Tryz.underlying22,sizeOf,typeInfo,hi,Builtin.lenOf,Builtin.firstCells]
 | some a => simp [Builtin.append_,run_underlying Tryz.underlying22,sizeOf,typeInfo,hi,Builtin.lenOf,Builtin.firstCells,h,storeCells]
structure After (B:Nat) (w:World) (v':Value) (w':World) (N:Rgn):Prop where
 own:Own B w' v' N
 grew:∀ W:World,W.heap.size≤B→Grew W w→Grew W w'
 kept:∀ (u:Value) (p:List Pt),0 < p.length→Sl w u p→Sl w' u p
 size:w.heap.size≤w'.heap.size
theorem wp_app3 {o:Oper} {a:Act} {K:Act→World→Prop} {Q:Exit→Act→World→Prop} (w:World) (s x:Operand)
  (ho:o.op=.call { callee:=.builtin .append,args:=#[s,x],argTypes:=#[22,22] }) (B:Nat) (v u:Value) (L M:Rgn)
  (hs:a.eval s=v) (hown:Own B w v L) (hx:a.eval x=u) (hu:Rl w u M) (hf:∀ p,p ∈ M→0 < p.length) (hl:L.length+M.length≤4000000) (hB:B≤w.heap.size)
  (h:∀ v' w',After B w v' w' (L ++ M)→w.grownBy w' v.ownBlock→K (a.put o.dst v') w'):o.wp Tryz.prog a w K Q:=by
 obtain ⟨i0,hi,hz0,hz1,hz2⟩:=info_parts info_sl
 have gen:∀ (ad:Addr) (m c:Nat) (news:List Value),u=.slice (some ad) m c→news.length=m→M.length=m→(∀ (j:Nat) (x:Value),news[j]? = some x→w.cell? (ad.add j)=some x∧Sl w x (nth M j))→o.wp Tryz.prog a w K Q:=by
  intro ad m c news hu hn hm hc
  have hd2:∀ x,x ∈ news→IsHd x:=fun x hx => by
   obtain ⟨j,hj,e⟩:=List.getElem_of_mem hx
   obtain ⟨a,n,e⟩:=(hc j x (by rw [List.getElem?_eq_getElem hj,e])).2.shape
   exact ⟨_,_,_,e⟩
  have one:∀ u,u ∈ news→u.oneCell'=true:=fun u hu => by
   obtain ⟨a,n,c,rfl⟩:=hd2 u hu
   rfl
  obtain ⟨us,hl0,ho1,hs1⟩:=hown.own
  obtain ⟨v',w',hr,h2,h3,h4⟩:=run_append_own (P:=Tryz.prog) w B 22 o.type 48 i0 (.slice none 0 0) 1 24 Tryz.underlying22 hi hz0 hz1 hz2 rfl (by decide) v L.length us ho1 ad m c news (by omega) (fun j x e => (hc j x e).1) one (by unfold maxLen;omega) (by omega) hB
  have kp:∀ (u:Value) (p:List Pt),0 < p.length→Sl w u p→Sl w' u p:=fun u p h0 hu => Sl.kept hown hu h0 h3
  have full:∀ p,p ∈ L ++ M→0 < p.length:=fun p hp => (List.mem_append.1 hp).elim (hown.full p) (hf p)
  have hA:After B w v' w' (L ++ M):=by
   refine ⟨⟨⟨us ++ news,by simp;omega,by rw [List.length_append,hm];exact h2,fun i x e => ?_⟩,hd_app o.type i0 hi hz0 hz1 hz2 w v L.length us ho1 hown.hd ad m c news (by omega) (fun j x e => (hc j x e).1) hd2 (by omega) v' w' (by rw [← hu];rw [← hu] at hr;exact hr) h4,full⟩,fun W hW g => Grew.grown g h3 (fun k hk => Nat.le_trans hW (hown.block k hk).1),kp,h3.size⟩
   by_cases c1:i < us.length
   ·rw [List.getElem?_append_left c1] at e
    have:nth (L ++ M) i=nth L i:=by
     unfold nth
     simp [List.getD,List.getElem?_append_left (show i < L.length by omega)]
    rw [this]
    exact kp x _ (hown.full _ (nth_mem (by omega))) (hs1 i x e)
   ·have hi':us.length≤i:=by omega
    rw [List.getElem?_append_right hi'] at e
    have hlt:=(List.getElem?_eq_some_iff.1 e).1
    have:nth (L ++ M) i=nth M (i - us.length):=by
     unfold nth
     simp [List.getD,List.getElem?_append_right (show L.length≤i by omega),hl0]
    rw [this]
    exact kp x _ (hf _ (nth_mem (by omega))) (hc _ x e).2
  unfold Oper.wp execOp
  simp only [ho,resolve,invoke,builtin,Sem.run_bind,Sem.run_pure,Result.andThen_ok,List.map_toArray,List.map_cons,List.map_nil,hs,hx,hu,hr]
  exact h v' w' hA h3
 obtain ⟨⟨rfl,ao,c,rfl⟩ | ⟨b,off,c,rfl,hb,hr⟩,_⟩:=hu
 ·cases ao with
  | some ad => exact gen ad 0 c [] rfl rfl rfl (fun j x e => (by cases e))
  | none =>
    obtain ⟨us,hl0,ho1,hs1⟩:=hown.own
    have hv:∃ ao n cap,v=.slice ao n cap∧n≤cap∧(ao=none→n=0∧cap=0):=by
     rcases ho1.2 with ⟨rfl,e⟩ | ⟨g,cap,cur,rfl,_,_,hn,_⟩
     ·exact ⟨none,0,0,rfl,Nat.le_refl _,fun _ => ⟨rfl,rfl⟩⟩
     ·exact ⟨_,_,_,rfl,hn,fun e => (by cases e)⟩
    obtain ⟨ao,n,cap,e1,e2,e3⟩:=hv
    have hr:=run_app_none v n cap ao o.type c w e1 e2 e3
    unfold Oper.wp execOp
    simp only [ho,resolve,invoke,builtin,Sem.run_bind,Sem.run_pure,Result.andThen_ok,List.map_toArray,List.map_cons,List.map_nil,hs,hx,hr]
    exact h v w ⟨by rw [List.append_nil];exact hown,fun W _ g => g,fun _ _ _ hu => hu,Nat.le_refl _⟩ ⟨rfl,rfl,rfl,Nat.le_refl _,fun _ _ _ => rfl⟩
 ·obtain ⟨F,hF⟩:=Go.Deep.choose_lt (α:=Value) (n:=M.length) (p:=fun i u => w.cell? ⟨b,off+i,none⟩=some u∧Sl w u (nth M i)) hr
  refine gen ⟨b,off,none⟩ M.length c ((List.range M.length).map F) rfl (by simp) rfl (fun j x e => ?_)
  rw [List.getElem?_map] at e
  obtain ⟨k,hk,rfl⟩:=Option.map_eq_some_iff.1 e
  have hj:=(List.getElem?_eq_some_iff.1 hk).1
  have:k=j:=by
   rw [List.getElem?_eq_getElem hj,List.getElem_range] at hk
   exact (Option.some.inj hk).symm
  subst this
  rw [List.length_range] at hj
  have ad:(⟨b,off,none⟩:Addr).add k=⟨b,off+k,none⟩:=by
   unfold Addr.add
   split
   ·rename_i e;subst e;rfl
   ·rfl
  rw [ad]
  exact hF k hj
theorem wp_app {o:Oper} {a:Act} {K:Act→World→Prop} {Q:Exit→Act→World→Prop} (w:World) (s x:Operand)
  (ho:o.op=.call { callee:=.builtin .append,args:=#[s,x],argTypes:=#[22,22] }) (B:Nat) (v u:Value) (L M:Rgn)
  (hs:a.eval s=v) (hown:Own B w v L) (hx:a.eval x=u) (hu:Rl w u M) (hf:∀ p,p ∈ M→0 < p.length) (hl:L.length+M.length≤4000000) (hB:B≤w.heap.size)
  (h:∀ v' w',After B w v' w' (L ++ M)→K (a.put o.dst v') w'):o.wp Tryz.prog a w K Q:=wp_app3 w s x ho B v u L M hs hown hx hu hf hl hB fun v' w' h2 _ => h v' w' h2
theorem wpl_app {ops:Array Oper} {rest:List Oper} {o:Oper} {a:Act} {Q:Exit→Act→World→Prop} (w:World) (hgd:o.guard=none) (s x:Operand)
  (ho:o.op=.call { callee:=.builtin .append,args:=#[s,x],argTypes:=#[22,22] }) (B:Nat) (v u:Value) (L M:Rgn)
  (hs:a.eval s=v) (hown:Own B w v L) (hx:a.eval x=u) (hu:Rl w u M) (hf:∀ p,p ∈ M→0 < p.length) (hl:L.length+M.length≤4000000) (hB:B≤w.heap.size)
  (h:∀ v' w',After B w v' w' (L ++ M)→wpList Tryz.prog ops Q rest (a.put o.dst v') w'):wpList Tryz.prog ops Q (o :: rest) a w :=
 wpList_plain hgd fun _ hK => wp_app w s x ho B v u L M hs hown hx hu hf hl hB fun v' w' h2 => hK _ _ (h v' w' h2)
theorem one_rl {w:World} {u:Value} {p:List Pt} (hu:Sl w u p) (hp:p.length≤9223372036854775807) (c:Nat):Rl (w.alloc (.cells #[u] 48)) (.slice (some ⟨w.heap.size,0,none⟩) 1 c) [p] :=
 ⟨Or.inr ⟨w.heap.size,0,c,rfl,by simp,fun i hi => by
  have:i=0:=by simp at hi;omega
  subst this
  exact ⟨u,by simp [go_sem],hu.grown ((Grew.refl _).alloc _ _)⟩⟩,by simp,fun q hq => by rw [List.mem_singleton.1 hq];exact hp⟩
theorem Own.made {B:Nat} (w:World) (hB:B≤w.heap.size):Own B (w.alloc (.cells #[] 48)) (.slice (some ⟨w.heap.size,0,none⟩) 0 0) [] :=
 ⟨⟨[],rfl,World.ownsRow_made w #[] 0 hB (Nat.zero_le _) rfl,fun i u h => (by cases h)⟩,fun g h => by
  injection h with h
  subst h
  exact ⟨#[],_,_,heap_alloc_new w _,fun j u e => (by simp at e)⟩,fun p h => (by cases h)⟩
end Rg
end Go.Proofs.YtbpgfenippiepaaGreatDoor
namespace Go.Proofs.YtbpgfenippiepaaGreatDoor
namespace Rg
open Go.ChangeShapes Go.WideShapes Go.ChangeAt Go.RowKit Go.Joins Go.Deep Hl
set_option maxRecDepth 100000 in
theorem cell_points {H:Type} {enc:TypeId × Value→H} {W:World} {base:Nat} {sp:Nat→Bool} {held:Bool} {u:Value} {fuel:Nat} {x:DataW H × List MemPlace} (hf:DataW.trod enc Tryz.prog W base sp held fuel 48 [u]=some x) :
  ∃ l:List Pt,Sl W u l∧l.length≤maxLen:=by
 rcases open_slice_pairs Tryz.underlying48 Tryz.underlying24 cellsPoint rfl rfl (by kernel_rfl) (by kernel_rfl) hf with ⟨hcs,_⟩ | ⟨a,len0,cap0,m,n,V0,V1,D0,D1,P0,P1,hcs,hb,hl,hm,hmm,hx,hi⟩
 ·obtain rfl:=(List.cons.inj hcs).1
  exact ⟨[],Or.inl ⟨rfl,none,0,rfl⟩,Nat.zero_le _⟩
 ·obtain rfl:=(List.cons.inj hcs).1
  have hlm:len0≤m:=by rw [hmm];split <;> omega
  by_cases h0:len0=0
  ·subst h0
   exact ⟨[],Or.inl ⟨rfl,some a,cap0,rfl⟩,Nat.zero_le _⟩
  ·obtain ⟨ab,ao,sp0⟩:=a
   have hspot:sp0=none:=by
    have h1:=(hi 0 (by omega)).1
    rw [Nat.zero_mul] at h1
    unfold Addr.add at h1
    rw [if_pos rfl] at h1
    unfold World.cell? at h1
    cases sp0 with
    | none => rfl
    | some s =>
      exfalso
      revert h1
      simp
      split <;> simp
   subst hspot
   have ad:∀ k,(⟨ab,ao,none⟩:Addr).add k=⟨ab,ao+k,none⟩:=fun k => by
    unfold Addr.add
    split
    ·rename_i e;subst e;rfl
    ·rfl
   have each:∀ i,i < len0→W.cell? ⟨ab,ao+i * 2,none⟩=some (.int .i64 (numI (V0 i)))∧W.cell? ⟨ab,ao+i * 2+1,none⟩=some (.int .i64 (numI (V1 i))):=by
    intro i hlt
    obtain ⟨c0,c1,t0,t1⟩:=hi i (by omega)
    rw [ad] at c0 c1
    obtain ⟨x0,e0,_,_⟩:=DataW.trod_int Tryz.underlying3 t0
    obtain ⟨x1,e1,_,_⟩:=DataW.trod_int Tryz.underlying3 t1
    simp at e0 e1
    rw [e0] at c0
    rw [e1] at c1
    rw [e0,e1]
    exact ⟨c0,c1⟩
   refine ⟨(List.range len0).map fun i => (numI (V0 i),numI (V1 i)),Or.inr ⟨ab,ao,cap0,by simp,World.block_lt_of_cell? W _ (each 0 (by omega)).1,fun i hlt => ?_⟩,by simp;omega⟩
   have hlt':i < len0:=by simpa using hlt
   have e:at' ((List.range len0).map fun i => (numI (V0 i),numI (V1 i))) i=(numI (V0 i),numI (V1 i)):=by
    unfold at'
    simp [hlt']
   rw [e]
   exact each i hlt'
set_option maxRecDepth 100000 in
theorem cellsSlice:Tryz.prog.cellsOf 48 = 1:=by kernel_rfl
set_option maxRecDepth 100000 in
theorem open_rgn {H:Type} {enc:TypeId × Value→H} {W:World} {base b0:Nat} {sp:Nat→Bool} {held:Bool} {v:Value} {d:DataW H} {p:List MemPlace} (hval:Value.okWide Tryz.prog W .any b0 22 v) (h:DataW.Trod enc Tryz.prog W base sp held 22 v d p) :
  ∃ L:Rgn,Rl W v L:=by
 obtain ⟨a0,len0,cap0,rfl⟩:=okWide_slice Tryz.underlying22 hval
 obtain ⟨fuel,hf⟩:=h
 rcases open_slice1 Tryz.underlying22 cellsSlice hf with ⟨hcs,_⟩ | ⟨a,len,cap,m,n,V,D,Pl,hcs,hb,hl,hm,hmm,hx,hi⟩
 ·simp [Value.cells] at hcs
  obtain ⟨rfl,rfl,rfl⟩:=hcs
  exact ⟨[],Rl.nil W none 0⟩
 ·simp [Value.cells] at hcs
  obtain ⟨rfl,rfl,rfl⟩:=hcs
  have hlm:len0≤m:=by rw [hmm];split <;> omega
  by_cases h0:len0=0
  ·subst h0
   exact ⟨[],Rl.nil W (some a) cap0⟩
  ·obtain ⟨ab,ao,sp0⟩:=a
   have hspot:sp0=none:=by
    have h1:=(hi 0 (by omega)).1
    unfold Addr.add at h1
    rw [if_pos rfl] at h1
    unfold World.cell? at h1
    cases sp0 with
    | none => rfl
    | some s =>
      exfalso
      revert h1
      simp
      split <;> simp
   subst hspot
   have ad:∀ k,(⟨ab,ao,none⟩:Addr).add k=⟨ab,ao+k,none⟩:=fun k => by
    unfold Addr.add
    split
    ·rename_i e;subst e;rfl
    ·rfl
   obtain ⟨F,hF⟩:=choose_lt (n:=len0) (α:=List Pt) (p:=fun i l => W.cell? ⟨ab,ao+i,none⟩=some (V i)∧Sl W (V i) l∧l.length≤maxLen) (fun i hlt => by
    obtain ⟨c0,t0⟩:=hi i (by omega)
    rw [ad] at c0
    obtain ⟨l,s,k⟩:=cell_points t0
    exact ⟨l,c0,s,k⟩)
   have hlen:((List.range len0).map F).length=len0:=by simp
   refine ⟨(List.range len0).map F,Or.inr ⟨ab,ao,cap0,by rw [hlen],World.block_lt_of_cell? W _ (hF 0 (by omega)).1,fun i hlt => ?_⟩,by rw [hlen];unfold maxLen at hm;omega,fun q hq => ?_⟩
   ·rw [hlen] at hlt
    have e:nth ((List.range len0).map F) i=F i:=by
     rw [nth_get (by rw [hlen];exact hlt)]
     simp
    rw [e]
    exact ⟨V i,(hF i hlt).1,(hF i hlt).2.1⟩
   ·obtain ⟨i,hi',rfl⟩:=List.mem_map.1 hq
    have:=(hF i (List.mem_range.1 hi')).2.2
    unfold maxLen at this
    omega
theorem i64_of_wf {x:Int} (h:(Lit.int .i64 x).wf=true):-9223372036854775808≤x∧x≤9223372036854775807:=by
 simp [Lit.wf,IntKind.min,IntKind.max,IntKind.signed,IntKind.bits] at h
 exact ⟨by omega,by omega⟩
end Rg
end Go.Proofs.YtbpgfenippiepaaGreatDoor
namespace Go.Proofs.YtbpgfenippiepaaGreatDoor
namespace Ry
open Hl
open Go.ChangeShapes Go.WideShapes Go.ChangeAt Go.RowKit Go.Joins Go.Deep
set_option maxRecDepth 100000 in
theorem cellsSpan:Tryz.prog.cellsOf 26 = 2:=by kernel_rfl
set_option maxRecDepth 100000 in
theorem open_span {H:Type} {enc:TypeId × Value→H} {W:World} {base b0:Nat} {sp:Nat→Bool} {held:Bool} {v:Value} {d:DataW H} {p:List MemPlace} (hval:Value.okWide Tryz.prog W .any b0 26 v) (h:DataW.Trod enc Tryz.prog W base sp held 26 v d p) :
  ∃ lo hi:Int,v=.agg #[.int .i64 lo,.int .i64 hi]:=by
 obtain ⟨c0,c1,y0,y1,m,rfl,rfl,rfl,hy0,hy1⟩:=open_agg2 Tryz.underlying26 (by kernel_rfl) cellsSpan hval h
 obtain ⟨a,e0,rfl,wa⟩:=DataW.trod_int Tryz.underlying3 hy0
 obtain ⟨b,e1,rfl,wb⟩:=DataW.trod_int Tryz.underlying3 hy1
 simp at e0 e1
 subst e0 e1
 exact ⟨a,b,rfl⟩
end Ry
end Go.Proofs.YtbpgfenippiepaaGreatDoor
namespace Go.Proofs.YtbpgfenippiepaaGreatDoor
namespace Rn
open Hl
open Go.ChangeShapes Go.WideShapes Go.ChangeAt Go.RowKit Go.Joins Go.Deep
set_option maxRecDepth 100000 in
theorem open_pointB {H:Type} {enc:TypeId × Value→H} {W:World} {base b0:Nat} {sp:Nat→Bool} {held:Bool} {v:Value} {d:DataW H} {p:List MemPlace} (hval:Value.okWide Tryz.prog W .any b0 24 v) (h:DataW.Trod enc Tryz.prog W base sp held 24 v d p) :
  ∃ x:Pt,v=.agg #[.int .i64 x.1,.int .i64 x.2]∧(-9223372036854775808≤x.1∧x.1≤9223372036854775807)∧-9223372036854775808≤x.2∧x.2≤9223372036854775807:=by
 obtain ⟨c0,c1,y0,y1,m,rfl,rfl,rfl,hy0,hy1⟩:=open_agg2 Tryz.underlying24 (by kernel_rfl) cellsPoint hval h
 obtain ⟨a,e0,rfl,wa⟩:=DataW.trod_int Tryz.underlying3 hy0
 obtain ⟨b,e1,rfl,wb⟩:=DataW.trod_int Tryz.underlying3 hy1
 simp at e0 e1
 subst e0 e1
 exact ⟨(a,b),rfl,Rg.i64_of_wf wa,Rg.i64_of_wf wb⟩
end Rn
end Go.Proofs.YtbpgfenippiepaaGreatDoor
