/-
  Slices of slices of points: what came in, and what the call itself gathers.
  Arguments as the laws of layer 7 have them: slices of slices of points, half-planes.
  Lists of polygons, without a program: a polygon more in a tidied list; the eight-sided hull of all, one after the other.
  The landed package region: what is asked of each polygon of a list; Valid, has, Has.
-/
import Derived.Deep.Slices
import Derived.Test.YtbpgfenippiepaaGreatDoorMHullInB
import Derived.Test.YtbpgfenippiepaaGreatDoorMMinkOne
import Derived.Test.YtbpgfenippiepaaGreatDoorMHullCm
import Derived.Test.YtbpgfenippiepaaGreatDoorMHullOct
namespace Go.Proofs.YtbpgfenippiepaaGreatDoor
open Go.RowKit Hl
namespace Rg
def Bd (L:Rgn):Prop:=L.length≤9223372036854775807∧∀ p,p ∈ L→p.length≤9223372036854775807
def Rw (w:World) (b o:Nat) (L:Rgn):Prop:=b < w.heap.size∧∀ i,i < L.length→∃ u,w.cell? ⟨b,o+i,none⟩=some u∧Sl w u (nth L i)
def Rl (w:World) (v:Value) (L:Rgn):Prop:=((L=[]∧∃ a c,v=.slice a 0 c)∨∃ b o c,v=.slice (some ⟨b,o,none⟩) L.length c∧Rw w b o L)∧Bd L
theorem Rw.grown {w w':World} {b o:Nat} {L:Rgn} (h:Rw w b o L) (g:Grew w w'):Rw w' b o L :=
 ⟨Nat.lt_of_lt_of_le h.1 g.size,fun i hi => by
  obtain ⟨u,hu,hs⟩:=h.2 i hi
  exact ⟨u,(Grew.cell g h.1).trans hu,hs.grown g⟩⟩
theorem Rl.grown {w w':World} {v:Value} {L:Rgn} (h:Rl w v L) (g:Grew w w'):Rl w' v L:=by
 obtain ⟨h | ⟨b,o,c,h,k⟩,hb⟩:=h
 ·exact ⟨Or.inl h,hb⟩
 ·exact ⟨Or.inr ⟨b,o,c,h,k.grown g⟩,hb⟩
theorem Rl.shape {w:World} {v:Value} {L:Rgn} (h:Rl w v L):∃ a c,v=.slice a L.length c:=by
 obtain ⟨⟨rfl,a,c,rfl⟩ | ⟨b,o,c,rfl,_⟩,_⟩:=h
 ·exact ⟨a,c,rfl⟩
 ·exact ⟨_,_,rfl⟩
theorem Rl.row {w:World} {a:Option Addr} {n c:Nat} {L:Rgn} (h:Rl w (.slice a n c) L) (h0:0 < L.length):∃ b o,a=some ⟨b,o,none⟩∧Rw w b o L:=by
 obtain ⟨⟨rfl,_⟩ | ⟨b,o,c',e,r⟩,_⟩:=h
 ·cases h0
 ·injection e with e1 e2 e3
  exact ⟨b,o,e1,r⟩
theorem Rl.nil (w:World) (a:Option Addr) (c:Nat):Rl w (.slice a 0 c) []:=⟨Or.inl ⟨rfl,a,c,rfl⟩,by simp [Bd]⟩
theorem AllV.bd {L:Rgn} (h:AllV L) (hl:L.length≤9223372036854775807):Bd L:=⟨hl,fun p hp => by have:=(h p hp).1.2;omega⟩
theorem info_sl:(Tryz.prog.info? 48).map (fun i => (i.zero,i.size,i.bytes))=some (some (.slice none 0 0),1,24):=by kernel_rfl
def IsHd (u:Value):Prop:=∃ a n c,u=.slice a n c
def HdB (w:World) (g:Nat):Prop:=∃ (cur:Array Value) (t:TypeId) (fr:Nat × Nat),w.heap[g]? = some (.cells cur t fr)∧∀ (j:Nat) (u:Value),cur[j]? = some u→IsHd u
theorem HdB.apart {w:World} {g b o:Nat} {p:List Pt} (h:HdB w g) (hr:Row w b o p) (h0:0 < p.length):b ≠ g:=by
 rintro rfl
 obtain ⟨cur,t,fr,e,hc⟩:=h
 have k:=(hr.2 0 h0).1
 unfold World.cell? at k
 rw [show w.heap[(⟨b,o+0 * 2,none⟩:Addr).block]? = some (.cells cur t fr) from e] at k
 obtain ⟨a,n,c,e⟩:=hc _ _ k
 cases e
theorem HdB.kept {w w':World} {g:Nat} (h:HdB w g) (e:w'.heap[g]? = w.heap[g]?):HdB w' g:=by
 obtain ⟨cur,t,fr,k,hc⟩:=h
 exact ⟨cur,t,fr,e.trans k,hc⟩
structure Own (B:Nat) (w:World) (v:Value) (L:Rgn):Prop where
 own:∃ us:List Value,us.length=L.length∧w.ownsRow B 48 1 v L.length us∧∀ (i:Nat) (u:Value),us[i]? = some u→Sl w u (nth L i)
 hd:∀ g,v.ownBlock=some g→HdB w g
 full:∀ p,p ∈ L→0 < p.length
theorem Own.nil (B:Nat) (w:World):Own B w (.slice none 0 0) []:=⟨⟨[],rfl,World.ownsRow_nil w B _ 1,fun i u h => (by cases h)⟩,fun g h => (by cases h),fun p h => (by cases h)⟩
theorem Own.block {B:Nat} {w:World} {v:Value} {L:Rgn} (h:Own B w v L):∀ k,v.ownBlock=some k→B≤k∧k < w.heap.size:=by
 obtain ⟨us,_,h1,_⟩:=h.own
 exact World.ownsRow.lt h1
theorem Own.ge {B:Nat} {w:World} {v:Value} {L:Rgn} (h:Own B w v L):∀ k,v.ownBlock=some k→B≤k:=fun k e => (h.block k e).1
theorem Own.grew {B:Nat} {w w':World} {v:Value} {L:Rgn} (h:Own B w v L) (g:Grew w w'):Own B w' v L:=by
 obtain ⟨us,h0,h1,h2⟩:=h.own
 refine ⟨⟨us,h0,?_,fun i u e => (h2 i u e).grown g⟩,fun k e => (h.hd k e).kept (g.block k (h.block k e).2),h.full⟩
 exact World.ownsRow.kept h1 (row:=none) ⟨g.os,g.tape,g.output,g.size,fun k hk _ => g.block k hk⟩ (by cases hv:v.ownBlock <;> simp)
theorem Sl.kept {B:Nat} {w w':World} {v u:Value} {L:Rgn} {p:List Pt} (h:Own B w v L) (hu:Sl w u p) (h0:0 < p.length) (g:w.grownBy w' v.ownBlock):Sl w' u p:=by
 obtain ⟨rfl,_⟩ | ⟨b,o,c,rfl,hr⟩:=hu
 ·cases h0
 ·have ne:some b ≠ v.ownBlock:=fun e => (h.hd b e.symm).apart hr h0 rfl
  exact Or.inr ⟨b,o,c,rfl,Nat.lt_of_lt_of_le hr.1 g.size,fun i hi => ⟨World.grownBy.cell g (hr.2 i hi).1 ne,World.grownBy.cell g (hr.2 i hi).2 ne⟩⟩
theorem zero_hd (z:Value) (hz:z.cells = #[.slice none 0 0]) (k:Nat):∀ u,u ∈ (Builtin.zeroCells z.cells k).toList→IsHd u:=by
 intro u hu
 rw [hz] at hu
 unfold Builtin.zeroCells at hu
 simp at hu
 obtain ⟨a,_,e⟩:=hu
 rw [Nat.mod_one] at e
 exact ⟨none,0,0,e.symm⟩
theorem hd_new (w:World) (cur:Array Value) (t:TypeId) (h:∀ u,u ∈ cur.toList→IsHd u):HdB (w.alloc (.cells cur t)) w.heap.size :=
 ⟨cur,t,(0,0),heap_alloc_new w _,fun j u e => h u (by rw [← Array.getElem?_toList] at e;exact List.mem_of_getElem? e)⟩
theorem cons_hd (us news:List Value) (z:Value) (hz:z.cells = #[.slice none 0 0]) (k:Nat) (h1:∀ u,u ∈ us→IsHd u) (h2:∀ u,u ∈ news→IsHd u):∀ u,u ∈ (us.toArray ++ news.toArray ++ Builtin.zeroCells z.cells k).toList→IsHd u:=by
 intro u hu
 rw [Array.toList_append,Array.toList_append] at hu
 rcases List.mem_append.1 hu with hu | hu
 ·rcases List.mem_append.1 hu with hu | hu
  ·exact h1 u (by simpa using hu)
  ·exact h2 u (by simpa using hu)
 ·exact zero_hd z hz k u hu
theorem hd_app {B:Nat} (ty:TypeId) (i0:TypeInfo) (hi:Tryz.prog.info? 48 = some i0) (hz0:i0.zero=some (.slice none 0 0)) (hz1:i0.size=1) (hz2:i0.bytes=24)
  (w:World) (v:Value) (n:Nat) (us:List Value) (hown:w.ownsRow B 48 1 v n us) (hd:∀ g,v.ownBlock=some g→HdB w g)
  (a:Addr) (m c:Nat) (news:List Value) (hl:news.length=m) (hnews:∀ (j:Nat) (u:Value),news[j]? = some u→w.cell? (a.add j)=some u) (h2:∀ u,u ∈ news→IsHd u) (h63:n+m≤4000000)
  (v':Value) (w':World) (hr:(Builtin.append_ #[22,22] ty #[v,.slice (some a) m c]).run Tryz.prog w=.ok v' w') (hv:v'=.slice none 0 0↔v=.slice none 0 0∧m=0):∀ g,v'.ownBlock=some g→HdB w' g:=by
 intro g hg
 have one:∀ u,u ∈ news→u.oneCell'=true:=fun u hu => by
  obtain ⟨a,n,c,rfl⟩:=h2 u hu
  rfl
 have hc1:(Value.slice none 0 0).cells = #[.slice none 0 0]:=rfl
 rcases hown.2 with ⟨rfl,rfl⟩ | ⟨g0,cap,cur,rfl,hbg,hg0,hnc,hcm,hcs,htake⟩
 ·by_cases hm:m=0
  ·rw [hv.2 ⟨rfl,hm⟩] at hg
   cases hg
  ·have k:=run_append_nil (P:=Tryz.prog) w 22 ty 48 i0 _ Tryz.underlying22 hi hz0 a m c news (by rw [hz1,hl];omega) hnews (by omega) (by omega) (by rw [hz2];omega)
   rw [hr] at k
   injection k with k1 k2
   subst k1 k2
   injection hg with hg
   subst hg
   have:=hd_new w.drew (news.toArray ++ Builtin.zeroCells (Value.slice none 0 0).cells (grownCap w m 0 48 - m)) 48 (fun u hu => cons_hd [] news _ hc1 _ (fun u hu => by cases hu) h2 u (by simpa using hu))
   exact this
 ·have usl:us.length=n:=by rw [hown.1];omega
  obtain ⟨cur',t',fr',e',hc'⟩:=hd g0 rfl
  rw [hg0] at e'
  injection e' with e'
  injection e' with e1 e2 e3
  subst e1 e2 e3
  have mem_cur:∀ u,u ∈ cur.toList→IsHd u:=fun u hu => by
   obtain ⟨j,hj,e⟩:=List.getElem_of_mem hu
   exact hc' j u (by rw [← Array.getElem?_toList,List.getElem?_eq_getElem hj,e])
  by_cases hroom:n+m≤cap
  ·have k:=run_append_room (P:=Tryz.prog) w 22 ty 48 i0 Tryz.underlying22 hi g0 n cap cur hg0 a m c news (by rw [hz1,hl];omega) hnews one hroom (by rw [hz1,hl,hcs];omega)
   rw [hr] at k
   injection k with k1 k2
   subst k1 k2
   injection hg with hg
   subst hg
   refine ⟨_,_,_,setRow_heap w g0 cur _ 48 _ hg0,fun j u e => ?_⟩
   have hu:u ∈ cur.toList.take (n * i0.size) ++ news ++ cur.toList.drop (n * i0.size+news.length):=by
    rw [← Array.getElem?_toList] at e
    simpa using List.mem_of_getElem? e
   rcases List.mem_append.1 hu with hu | hu
   ·rcases List.mem_append.1 hu with hu | hu
    ·exact mem_cur u (List.mem_of_mem_take hu)
    ·exact h2 u hu
   ·exact mem_cur u (List.mem_of_mem_drop hu)
  ·have holds:∀ (j:Nat) (u:Value),us[j]? = some u→w.cell? ((⟨g0,0,none⟩:Addr).add j)=some u:=hown.cells (g:=g0) rfl
   have k:=run_append_grow (P:=Tryz.prog) w 22 ty 48 i0 _ Tryz.underlying22 hi hz0 ⟨g0,0,none⟩ n cap us (by rw [hz1,usl];omega) holds a m c news (by rw [hz1,hl];omega) hnews (by omega) (by omega) (growslice_fits (by omega) (by rw [hz2];omega))
   rw [hr] at k
   injection k with k1 k2
   subst k1 k2
   injection hg with hg
   subst hg
   have:=hd_new w.drew (us.toArray ++ news.toArray ++ Builtin.zeroCells (Value.slice none 0 0).cells (grownCap w (n+m) cap 48 - (n+m))) 48 (cons_hd us news _ hc1 _ (fun u hu => mem_cur u (by rw [← htake] at hu;exact List.mem_of_mem_take hu)) h2)
   exact this
theorem Own.rw {B:Nat} {w:World} {v:Value} {L:Rgn} (h:Own B w v L) (h0:0 < L.length):∃ g c,v=.slice (some ⟨g,0,none⟩) L.length c∧L.length≤c∧Rw w g 0 L:=by
 obtain ⟨us,hl,ho,hs⟩:=h.own
 have hc:=fun g => World.ownsRow.cells (g:=g) ho
 rcases ho.2 with ⟨_,e⟩ | ⟨g,cap,cur,rfl,_,hg,hn,_⟩
 ·omega
 ·refine ⟨g,cap,rfl,hn,(Array.getElem?_eq_some_iff.1 hg).1,fun i hi => ?_⟩
  have e:us[i]? = some us[i]:=List.getElem?_eq_getElem (by omega)
  have k:=hc g rfl i _ e
  have ad:(⟨g,0,none⟩:Addr).add i=⟨g,0+i,none⟩:=by
   unfold Addr.add
   split
   ·rename_i e;subst e;rfl
   ·rfl
  rw [ad] at k
  exact ⟨_,k,hs i _ e⟩
theorem Own.rl {B:Nat} {w:World} {v:Value} {L:Rgn} (h:Own B w v L) (hb:Bd L):Rl w v L:=by
 by_cases h0:0 < L.length
 ·obtain ⟨g,c,e,_,r⟩:=h.rw h0
  exact ⟨Or.inr ⟨g,0,c,e,r⟩,hb⟩
 ·have e:L=[]:=List.length_eq_zero_iff.1 (by omega)
  subst e
  obtain ⟨us,hl,ho,hs⟩:=h.own
  rcases ho.2 with ⟨rfl,e⟩ | ⟨g,cap,cur,rfl,_⟩
  ·exact Rl.nil w none 0
  ·exact Rl.nil w _ _
set_option maxRecDepth 100000 in
theorem run_app_none (v:Value) (n cap:Nat) (ao:Option Addr) (ty:TypeId) (c:Nat) (w:World) (hv:v=.slice ao n cap) (h:n≤cap) (h0:ao=none→n=0∧cap=0):(Builtin.append_ #[22,22] ty #[v,.slice none 0 c]).run Tryz.prog w=.ok v w:=by
 obtain ⟨i0,hi,hz0,hz1,hz2⟩:=info_parts info_sl
 subst hv
 cases ao with
 | none =>
   obtain ⟨rfl,rfl⟩:=h0 rfl
   simp [Builtin.append_,run_underlying Tryz.underlying22,sizeOf,typeInfo,hi,Builtin.lenOf,Builtin.firstCells]
 | some a => simp [Builtin.append_,run_underlying Tryz.underlying22,sizeOf,typeInfo,hi,Builtin.lenOf,Builtin.firstCells,h,storeCells]
structure After (B:Nat) (w:World) (v':Value) (w':World) (N:Rgn):Prop where
 own:Own B w' v' N
 grew:∀ W:World,W.heap.size≤B→Grew W w→Grew W w'
 kept:∀ (u:Value) (p:List Pt),0 < p.length→Sl w u p→Sl w' u p
 size:w.heap.size≤w'.heap.size
theorem wp_app3 {o:Oper} {a:Act} {K:Act→World→Prop} {Q:Exit→Act→World→Prop} (w:World) (s x:Operand)
  (ho:o.op=.call { callee:=.builtin .append,args:=#[s,x],argTypes:=#[22,22] }) (B:Nat) (v u:Value) (L M:Rgn)
  (hs:a.eval s=v) (hown:Own B w v L) (hx:a.eval x=u) (hu:Rl w u M) (hf:∀ p,p ∈ M→0 < p.length) (hl:L.length+M.length≤4000000) (hB:B≤w.heap.size)
  (h:∀ v' w',After B w v' w' (L ++ M)→w.grownBy w' v.ownBlock→K (a.put o.dst v') w'):o.wp Tryz.prog a w K Q:=by
 obtain ⟨i0,hi,hz0,hz1,hz2⟩:=info_parts info_sl
 have gen:∀ (ad:Addr) (m c:Nat) (news:List Value),u=.slice (some ad) m c→news.length=m→M.length=m→(∀ (j:Nat) (x:Value),news[j]? = some x→w.cell? (ad.add j)=some x∧Sl w x (nth M j))→o.wp Tryz.prog a w K Q:=by
  intro ad m c news hu hn hm hc
  have hd2:∀ x,x ∈ news→IsHd x:=fun x hx => by
   obtain ⟨j,hj,e⟩:=List.getElem_of_mem hx
   obtain ⟨a,n,e⟩:=(hc j x (by rw [List.getElem?_eq_getElem hj,e])).2.shape
   exact ⟨_,_,_,e⟩
  have one:∀ u,u ∈ news→u.oneCell'=true:=fun u hu => by
   obtain ⟨a,n,c,rfl⟩:=hd2 u hu
   rfl
  obtain ⟨us,hl0,ho1,hs1⟩:=hown.own
  obtain ⟨v',w',hr,h2,h3,h4⟩:=run_append_own (P:=Tryz.prog) w B 22 o.type 48 i0 (.slice none 0 0) 1 24 Tryz.underlying22 hi hz0 hz1 hz2 rfl (by decide) v L.length us ho1 ad m c news (by omega) (fun j x e => (hc j x e).1) one (by unfold maxLen;omega) (by omega) hB
  have kp:∀ (u:Value) (p:List Pt),0 < p.length→Sl w u p→Sl w' u p:=fun u p h0 hu => Sl.kept hown hu h0 h3
  have full:∀ p,p ∈ L ++ M→0 < p.length:=fun p hp => (List.mem_append.1 hp).elim (hown.full p) (hf p)
  have hA:After B w v' w' (L ++ M):=by
   refine ⟨⟨⟨us ++ news,by simp;omega,by rw [List.length_append,hm];exact h2,fun i x e => ?_⟩,hd_app o.type i0 hi hz0 hz1 hz2 w v L.length us ho1 hown.hd ad m c news (by omega) (fun j x e => (hc j x e).1) hd2 (by omega) v' w' (by rw [← hu];rw [← hu] at hr;exact hr) h4,full⟩,fun W hW g => Grew.grown g h3 (fun k hk => Nat.le_trans hW (hown.block k hk).1),kp,h3.size⟩
   by_cases c1:i < us.length
   ·rw [List.getElem?_append_left c1] at e
    have:nth (L ++ M) i=nth L i:=by
     unfold nth
     simp [List.getD,List.getElem?_append_left (show i < L.length by omega)]
    rw [this]
    exact kp x _ (hown.full _ (nth_mem (by omega))) (hs1 i x e)
   ·have hi':us.length≤i:=by omega
    rw [List.getElem?_append_right hi'] at e
    have hlt:=(List.getElem?_eq_some_iff.1 e).1
    have:nth (L ++ M) i=nth M (i - us.length):=by
     unfold nth
     simp [List.getD,List.getElem?_append_right (show L.length≤i by omega),hl0]
    rw [this]
    exact kp x _ (hf _ (nth_mem (by omega))) (hc _ x e).2
  unfold Oper.wp execOp
  simp only [ho,resolve,invoke,builtin,Sem.run_bind,Sem.run_pure,Result.andThen_ok,List.map_toArray,List.map_cons,List.map_nil,hs,hx,hu,hr]
  exact h v' w' hA h3
 obtain ⟨⟨rfl,ao,c,rfl⟩ | ⟨b,off,c,rfl,hb,hr⟩,_⟩:=hu
 ·cases ao with
  | some ad => exact gen ad 0 c [] rfl rfl rfl (fun j x e => (by cases e))
  | none =>
    obtain ⟨us,hl0,ho1,hs1⟩:=hown.own
    have hv:∃ ao n cap,v=.slice ao n cap∧n≤cap∧(ao=none→n=0∧cap=0):=by
     rcases ho1.2 with ⟨rfl,e⟩ | ⟨g,cap,cur,rfl,_,_,hn,_⟩
     ·exact ⟨none,0,0,rfl,Nat.le_refl _,fun _ => ⟨rfl,rfl⟩⟩
     ·exact ⟨_,_,_,rfl,hn,fun e => (by cases e)⟩
    obtain ⟨ao,n,cap,e1,e2,e3⟩:=hv
    have hr:=run_app_none v n cap ao o.type c w e1 e2 e3
    unfold Oper.wp execOp
    simp only [ho,resolve,invoke,builtin,Sem.run_bind,Sem.run_pure,Result.andThen_ok,List.map_toArray,List.map_cons,List.map_nil,hs,hx,hr]
    exact h v w ⟨by rw [List.append_nil];exact hown,fun W _ g => g,fun _ _ _ hu => hu,Nat.le_refl _⟩ ⟨rfl,rfl,rfl,Nat.le_refl _,fun _ _ _ => rfl⟩
 ·obtain ⟨F,hF⟩:=Go.Deep.choose_lt (α:=Value) (n:=M.length) (p:=fun i u => w.cell? ⟨b,off+i,none⟩=some u∧Sl w u (nth M i)) hr
  refine gen ⟨b,off,none⟩ M.length c ((List.range M.length).map F) rfl (by simp) rfl (fun j x e => ?_)
  rw [List.getElem?_map] at e
  obtain ⟨k,hk,rfl⟩:=Option.map_eq_some_iff.1 e
  have hj:=(List.getElem?_eq_some_iff.1 hk).1
  have:k=j:=by
   rw [List.getElem?_eq_getElem hj,List.getElem_range] at hk
   exact (Option.some.inj hk).symm
  subst this
  rw [List.length_range] at hj
  have ad:(⟨b,off,none⟩:Addr).add k=⟨b,off+k,none⟩:=by
   unfold Addr.add
   split
   ·rename_i e;subst e;rfl
   ·rfl
  rw [ad]
  exact hF k hj
theorem wp_app {o:Oper} {a:Act} {K:Act→World→Prop} {Q:Exit→Act→World→Prop} (w:World) (s x:Operand)
  (ho:o.op=.call { callee:=.builtin .append,args:=#[s,x],argTypes:=#[22,22] }) (B:Nat) (v u:Value) (L M:Rgn)
  (hs:a.eval s=v) (hown:Own B w v L) (hx:a.eval x=u) (hu:Rl w u M) (hf:∀ p,p ∈ M→0 < p.length) (hl:L.length+M.length≤4000000) (hB:B≤w.heap.size)
  (h:∀ v' w',After B w v' w' (L ++ M)→K (a.put o.dst v') w'):o.wp Tryz.prog a w K Q:=wp_app3 w s x ho B v u L M hs hown hx hu hf hl hB fun v' w' h2 _ => h v' w' h2
theorem wpl_app {ops:Array Oper} {rest:List Oper} {o:Oper} {a:Act} {Q:Exit→Act→World→Prop} (w:World) (hgd:o.guard=none) (s x:Operand)
  (ho:o.op=.call { callee:=.builtin .append,args:=#[s,x],argTypes:=#[22,22] }) (B:Nat) (v u:Value) (L M:Rgn)
  (hs:a.eval s=v) (hown:Own B w v L) (hx:a.eval x=u) (hu:Rl w u M) (hf:∀ p,p ∈ M→0 < p.length) (hl:L.length+M.length≤4000000) (hB:B≤w.heap.size)
  (h:∀ v' w',After B w v' w' (L ++ M)→wpList Tryz.prog ops Q rest (a.put o.dst v') w'):wpList Tryz.prog ops Q (o :: rest) a w :=
 wpList_plain hgd fun _ hK => wp_app w s x ho B v u L M hs hown hx hu hf hl hB fun v' w' h2 => hK _ _ (h v' w' h2)
theorem one_rl {w:World} {u:Value} {p:List Pt} (hu:Sl w u p) (hp:p.length≤9223372036854775807) (c:Nat):Rl (w.alloc (.cells #[u] 48)) (.slice (some ⟨w.heap.size,0,none⟩) 1 c) [p] :=
 ⟨Or.inr ⟨w.heap.size,0,c,rfl,by simp,fun i hi => by
  have:i=0:=by simp at hi;omega
  subst this
  exact ⟨u,by simp [go_sem],hu.grown ((Grew.refl _).alloc _ _)⟩⟩,by simp,fun q hq => by rw [List.mem_singleton.1 hq];exact hp⟩
theorem Own.made {B:Nat} (w:World) (hB:B≤w.heap.size):Own B (w.alloc (.cells #[] 48)) (.slice (some ⟨w.heap.size,0,none⟩) 0 0) [] :=
 ⟨⟨[],rfl,World.ownsRow_made w #[] 0 hB (Nat.zero_le _) rfl,fun i u h => (by cases h)⟩,fun g h => by
  injection h with h
  subst h
  exact ⟨#[],_,_,heap_alloc_new w _,fun j u e => (by simp at e)⟩,fun p h => (by cases h)⟩
end Rg
end Go.Proofs.YtbpgfenippiepaaGreatDoor
namespace Go.Proofs.YtbpgfenippiepaaGreatDoor
namespace Rg
open Go.ChangeShapes Go.WideShapes Go.ChangeAt Go.RowKit Go.Joins Go.Deep Hl
set_option maxRecDepth 100000 in
theorem cell_points {H:Type} {enc:TypeId × Value→H} {W:World} {base:Nat} {sp:Nat→Bool} {held:Bool} {u:Value} {fuel:Nat} {x:DataW H × List MemPlace} (hf:DataW.trod enc Tryz.prog W base sp held fuel 48 [u]=some x) :
  ∃ l:List Pt,Sl W u l∧l.length≤maxLen:=by
 rcases open_slice_pairs Tryz.underlying48 Tryz.underlying24 cellsPoint rfl rfl (by kernel_rfl) (by kernel_rfl) hf with ⟨hcs,_⟩ | ⟨a,len0,cap0,m,n,V0,V1,D0,D1,P0,P1,hcs,hb,hl,hm,hmm,hx,hi⟩
 ·obtain rfl:=(List.cons.inj hcs).1
  exact ⟨[],Or.inl ⟨rfl,none,0,rfl⟩,Nat.zero_le _⟩
 ·obtain rfl:=(List.cons.inj hcs).1
  have hlm:len0≤m:=by rw [hmm];split <;> omega
  by_cases h0:len0=0
  ·subst h0
   exact ⟨[],Or.inl ⟨rfl,some a,cap0,rfl⟩,Nat.zero_le _⟩
  ·obtain ⟨ab,ao,sp0⟩:=a
   have hspot:sp0=none:=by
    have h1:=(hi 0 (by omega)).1
    rw [Nat.zero_mul] at h1
    unfold Addr.add at h1
    rw [if_pos rfl] at h1
    unfold World.cell? at h1
    cases sp0 with
    | none => rfl
    | some s =>
      exfalso
      revert h1
      simp
      split <;> simp
   subst hspot
   have ad:∀ k,(⟨ab,ao,none⟩:Addr).add k=⟨ab,ao+k,none⟩:=fun k => by
    unfold Addr.add
    split
    ·rename_i e;subst e;rfl
    ·rfl
   have each:∀ i,i < len0→W.cell? ⟨ab,ao+i * 2,none⟩=some (.int .i64 (numI (V0 i)))∧W.cell? ⟨ab,ao+i * 2+1,none⟩=some (.int .i64 (numI (V1 i))):=by
    intro i hlt
    obtain ⟨c0,c1,t0,t1⟩:=hi i (by omega)
    rw [ad] at c0 c1
    obtain ⟨x0,e0,_,_⟩:=DataW.trod_int Tryz.underlying3 t0
    obtain ⟨x1,e1,_,_⟩:=DataW.trod_int Tryz.underlying3 t1
    simp at e0 e1
    rw [e0] at c0
    rw [e1] at c1
    rw [e0,e1]
    exact ⟨c0,c1⟩
   refine ⟨(List.range len0).map fun i => (numI (V0 i),numI (V1 i)),Or.inr ⟨ab,ao,cap0,by simp,World.block_lt_of_cell? W _ (each 0 (by omega)).1,fun i hlt => ?_⟩,by simp;omega⟩
   have hlt':i < len0:=by simpa using hlt
   have e:at' ((List.range len0).map fun i => (numI (V0 i),numI (V1 i))) i=(numI (V0 i),numI (V1 i)):=by
    unfold at'
    simp [hlt']
   rw [e]
   exact each i hlt'
set_option maxRecDepth 100000 in
theorem cellsSlice:Tryz.prog.cellsOf 48 = 1:=by kernel_rfl
set_option maxRecDepth 100000 in
theorem open_rgn {H:Type} {enc:TypeId × Value→H} {W:World} {base b0:Nat} {sp:Nat→Bool} {held:Bool} {v:Value} {d:DataW H} {p:List MemPlace} (hval:Value.okWide Tryz.prog W .any b0 22 v) (h:DataW.Trod enc Tryz.prog W base sp held 22 v d p) :
  ∃ L:Rgn,Rl W v L:=by
 obtain ⟨a0,len0,cap0,rfl⟩:=okWide_slice Tryz.underlying22 hval
 obtain ⟨fuel,hf⟩:=h
 rcases open_slice1 Tryz.underlying22 cellsSlice hf with ⟨hcs,_⟩ | ⟨a,len,cap,m,n,V,D,Pl,hcs,hb,hl,hm,hmm,hx,hi⟩
 ·simp [Value.cells] at hcs
  obtain ⟨rfl,rfl,rfl⟩:=hcs
  exact ⟨[],Rl.nil W none 0⟩
 ·simp [Value.cells] at hcs
  obtain ⟨rfl,rfl,rfl⟩:=hcs
  have hlm:len0≤m:=by rw [hmm];split <;> omega
  by_cases h0:len0=0
  ·subst h0
   exact ⟨[],Rl.nil W (some a) cap0⟩
  ·obtain ⟨ab,ao,sp0⟩:=a
   have hspot:sp0=none:=by
    have h1:=(hi 0 (by omega)).1
    unfold Addr.add at h1
    rw [if_pos rfl] at h1
    unfold World.cell? at h1
    cases sp0 with
    | none => rfl
    | some s =>
      exfalso
      revert h1
      simp
      split <;> simp
   subst hspot
   have ad:∀ k,(⟨ab,ao,none⟩:Addr).add k=⟨ab,ao+k,none⟩:=fun k => by
    unfold Addr.add
    split
    ·rename_i e;subst e;rfl
    ·rfl
   obtain ⟨F,hF⟩:=choose_lt (n:=len0) (α:=List Pt) (p:=fun i l => W.cell? ⟨ab,ao+i,none⟩=some (V i)∧Sl W (V i) l∧l.length≤maxLen) (fun i hlt => by
    obtain ⟨c0,t0⟩:=hi i (by omega)
    rw [ad] at c0
    obtain ⟨l,s,k⟩:=cell_points t0
    exact ⟨l,c0,s,k⟩)
   have hlen:((List.range len0).map F).length=len0:=by simp
   refine ⟨(List.range len0).map F,Or.inr ⟨ab,ao,cap0,by rw [hlen],World.block_lt_of_cell? W _ (hF 0 (by omega)).1,fun i hlt => ?_⟩,by rw [hlen];unfold maxLen at hm;omega,fun q hq => ?_⟩
   ·rw [hlen] at hlt
    have e:nth ((List.range len0).map F) i=F i:=by
     rw [nth_get (by rw [hlen];exact hlt)]
     simp
    rw [e]
    exact ⟨V i,(hF i hlt).1,(hF i hlt).2.1⟩
   ·obtain ⟨i,hi',rfl⟩:=List.mem_map.1 hq
    have:=(hF i (List.mem_range.1 hi')).2.2
    unfold maxLen at this
    omega
end Rg
end Go.Proofs.YtbpgfenippiepaaGreatDoor
namespace Go.Proofs.YtbpgfenippiepaaGreatDoor
open Go.RowKit Hl
namespace Rg
theorem nth_left {L M:Rgn} {i:Nat} (h:i < L.length):nth (L ++ M) i=nth L i:=by
 unfold nth
 simp [List.getD,List.getElem?_append_left h]
theorem nth_last (L:Rgn) (x:List Pt):nth (L ++ [x]) L.length=x:=by
 unfold nth
 simp [List.getD]
def Inn (L:Rgn) (x:List Pt):Prop:=∃ p,p ∈ L∧Lies x p
instance decInn (L:Rgn) (x:List Pt):Decidable (Inn L x):=by unfold Inn;infer_instance
theorem inn_kept {L:Rgn} {x:List Pt} (hL:AllV L) (_hx:Vl x):Inn (kept L) x↔Inn L x:=by
 constructor
 ·rintro ⟨p,hp,h⟩
  exact ⟨p,kept_sub hp,h⟩
 ·rintro ⟨p,hp,h⟩
  obtain ⟨i,hi,rfl⟩:=mem_nth hp
  obtain ⟨k,hk,nk,g⟩:=up_some hL hi
  exact ⟨_,mem_keptN.2 ⟨k,hk,nk,rfl⟩,fun y hy => g y (h y hy)⟩
theorem up_app {L:Rgn} {x:List Pt} {i k:Nat} (hi:i < L.length) (hk:k < L.length):Up (L ++ [x]) i k↔Up L i k:=by
 unfold Up
 rw [nth_left hi,nth_left hk]
theorem keptN_app {L:Rgn} {x:List Pt} (b:Nat→Bool) (h:∀ i,i < L.length→covB (L ++ [x]) i=(covB L i || b i)):keptN (L ++ [x]) L.length=((List.range L.length).filter fun i => !covB L i && !b i).map (nth L):=by
 unfold keptN
 have e:(List.range L.length).filter (fun i => !covB (L ++ [x]) i)=(List.range L.length).filter fun i => !covB L i && !b i:=List.filter_congr fun i hi => by
  rw [h i (List.mem_range.1 hi)]
  cases covB L i <;> cases b i <;> rfl
 rw [e]
 exact List.map_congr_left fun i hi => nth_left (List.mem_range.1 (List.mem_filter.1 hi).1)
theorem app_len (L:Rgn) (x:List Pt):(L ++ [x]).length=L.length+1:=by simp
theorem kept_in {L:Rgn} {x:List Pt} (hL:AllV L) (hx:Vl x) (h:Inn L x):kept (L ++ [x])=kept L:=by
 obtain ⟨p,hp,hxp⟩:=h
 obtain ⟨j,hj,rfl⟩:=mem_nth hp
 have last:covB (L ++ [x]) L.length=true:=covB_iff.2 ⟨j,by rw [app_len];omega,by omega,by rw [nth_last,nth_left hj];exact hxp,Or.inr hj⟩
 have same:∀ i,i < L.length→covB (L ++ [x]) i=(covB L i || false):=fun i hi => by
  rw [Bool.or_false]
  apply Bool.eq_iff_iff.2
  rw [covB_iff,covB_iff]
  constructor
  ·rintro ⟨k,hk,u⟩
   rw [app_len] at hk
   by_cases c:k < L.length
   ·exact ⟨k,c,(up_app hi c).1 u⟩
   ·obtain rfl:k=L.length:=by omega
    obtain ⟨_,u1,u2⟩:=u
    rw [nth_last,nth_left hi] at u1 u2
    have ne:nth L i ≠ x:=u2.elim id fun h => by omega
    have v1:=(hL _ (nth_mem hi)).pg
    have v2:=(hL _ (nth_mem hj)).pg
    have t:=lies_trans hx.pg v2 u1 hxp
    have ne2:nth L i ≠ nth L j:=fun e => ne (lies_anti v1 hx.pg u1 (by rw [e];exact hxp))
    exact ⟨j,hj,fun e => ne2 (by rw [e]),t,Or.inl ne2⟩
  ·rintro ⟨k,hk,u⟩
   exact ⟨k,by rw [app_len];omega,(up_app hi hk).2 u⟩
 unfold kept
 rw [app_len,keptN_yes last,keptN_app (fun _ => false) same]
 unfold keptN
 simp
theorem kept_out {L:Rgn} {x:List Pt} (_hL:AllV L) (hx:Vl x) (h:¬ Inn L x):kept (L ++ [x])=((kept L).filter fun p => !decide (Lies p x)) ++ [x]:=by
 have last:covB (L ++ [x]) L.length=false:=covB_not.2 fun ⟨k,hk,u⟩ => by
  rw [app_len] at hk
  have c:k < L.length:=by have:=u.1;omega
  have u1:=u.2.1
  rw [nth_last,nth_left c] at u1
  exact h ⟨_,nth_mem c,u1⟩
 have same:∀ i,i < L.length→covB (L ++ [x]) i=(covB L i || decide (Lies (nth L i) x)):=fun i hi => by
  apply Bool.eq_iff_iff.2
  rw [Bool.or_eq_true,covB_iff,covB_iff,decide_eq_true_iff]
  constructor
  ·rintro ⟨k,hk,u⟩
   rw [app_len] at hk
   by_cases c:k < L.length
   ·exact Or.inl ⟨k,c,(up_app hi c).1 u⟩
   ·obtain rfl:k=L.length:=by omega
    have u1:=u.2.1
    rw [nth_last,nth_left hi] at u1
    exact Or.inr u1
  ·rintro (⟨k,hk,u⟩ | u)
   ·exact ⟨k,by rw [app_len];omega,(up_app hi hk).2 u⟩
   ·refine ⟨L.length,by rw [app_len];omega,by omega,?_,Or.inl ?_⟩
    ·rw [nth_last,nth_left hi];exact u
    ·rw [nth_last,nth_left hi]
     intro e
     refine h ⟨_,nth_mem hi,?_⟩
     rw [e]
     exact fun y hy => own_corner hx.pg hy
 unfold kept
 rw [app_len,keptN_no last,nth_last,keptN_app (fun i => decide (Lies (nth L i) x)) same]
 congr 1
 unfold keptN
 rw [List.filter_map,List.filter_filter]
 congr 1
 apply List.filter_congr
 intro i _
 simp only [Function.comp_apply]
 exact Bool.and_comm _ _
theorem min_app {A B A' B':List Pt} {u v m1 m2 m:Int} (hA:IsMin A u v m1) (hA':IsMin A' u v m1) (hB:IsMin B u v m2) (hB':IsMin B' u v m2) (h:IsMin (A ++ B) u v m):IsMin (B' ++ A') u v m:=by
 obtain ⟨⟨x,hx,ex⟩,hl⟩:=h
 have l1:m≤m1:=by
  obtain ⟨⟨y,hy,e⟩,_⟩:=hA
  have:=hl y (List.mem_append_left _ hy)
  omega
 have l2:m≤m2:=by
  obtain ⟨⟨y,hy,e⟩,_⟩:=hB
  have:=hl y (List.mem_append_right _ hy)
  omega
 refine ⟨?_,fun y hy => ?_⟩
 ·rcases List.mem_append.1 hx with g | g
  ·have:=hA.2 x g
   obtain ⟨⟨y,hy,e⟩,_⟩:=hA'
   exact ⟨y,List.mem_append_right _ hy,by omega⟩
  ·have:=hB.2 x g
   obtain ⟨⟨y,hy,e⟩,_⟩:=hB'
   exact ⟨y,List.mem_append_left _ hy,by omega⟩
 ·rcases List.mem_append.1 hy with g | g
  ·have:=hB'.2 y g
   omega
  ·have:=hA'.2 y g
   omega
def Dr8 (u v:Int):Prop:=(u=1∧(v = -1∨v=0∨v=1))∨((u = -1∨u=0)∧v=1)∨(u = -1∧(v = -1∨v=0))∨(u=0∧v = -1)
theorem oct_least8 {s r:List Pt} (h:IsOct s r) {u v:Int} (hd:Dr8 u v):∃ m,IsMin s u v m∧IsMin r u v m:=by
 obtain ⟨a,b,c,d,s,t,i,j,h1,h2,h3,h4,h5,h6,h7,h8,hq⟩:=h
 obtain ⟨B,K⟩:=bd_of h1 h2 h3 h4 h5 h6 h7 h8
 obtain ⟨m1,m2,m3,m4,m5,m6,m7,m8⟩:=oct_min B hq
 rcases hd with ⟨rfl,rfl | rfl | rfl⟩ | ⟨rfl | rfl,rfl⟩ | ⟨rfl,rfl | rfl⟩ | ⟨rfl,rfl⟩
 ·exact ⟨_,h7,m7⟩
 ·exact ⟨_,h1,m1⟩
 ·exact ⟨_,h5,m5⟩
 ·exact ⟨_,h8,m8⟩
 ·exact ⟨_,h3,m3⟩
 ·exact ⟨_,h6,m6⟩
 ·exact ⟨_,h2,m2⟩
 ·exact ⟨_,h4,m4⟩
theorem oct_of {h a' T:List Pt} (ha:IsOct h a') (H:∀ u v m,Dr8 u v→IsMin h u v m→IsMin T u v m):IsOct T a':=by
 obtain ⟨a,b,c,d,s,t,i,j,h1,h2,h3,h4,h5,h6,h7,h8,hq⟩:=ha
 exact ⟨a,b,c,d,s,t,i,j,H _ _ _ (by unfold Dr8;omega) h1,H _ _ _ (by unfold Dr8;omega) h2,H _ _ _ (by unfold Dr8;omega) h3,H _ _ _ (by unfold Dr8;omega) h4,H _ _ _ (by unfold Dr8;omega) h5,H _ _ _ (by unfold Dr8;omega) h6,H _ _ _ (by unfold Dr8;omega) h7,H _ _ _ (by unfold Dr8;omega) h8,hq⟩
theorem hull_least {L q:List Pt} (hq:IsHull L q) {u v m:Int} (h:IsMin q u v m):IsMin L u v m:=by
 obtain ⟨⟨x,hx,ex⟩,h2⟩:=h
 refine ⟨⟨x,hq.2.1 x hx,ex⟩,fun y hy => ?_⟩
 obtain ⟨j,hj,e⟩:=hs_least hq.1 (hq.2.2 y hy) u v 0
 have:=h2 _ (at_mem hj)
 unfold af at e
 omega
theorem oct_first {p o h a':List Pt} (hp:IsOct p o) (hh:IsHull o h) (ha:IsOct h a'):IsOct p a' :=
 oct_of ha fun u v m hd hm => by
  obtain ⟨m1,k1,k2⟩:=oct_least8 hp hd
  rw [(hull_least hh hm).one k2]
  exact k1
theorem oct_next {P p o a h a':List Pt} (hp:IsOct p o) (hP:IsOct P a) (hh:IsHull (o ++ a) h) (ha:IsOct h a'):IsOct (P ++ p) a' :=
 oct_of ha fun u v m hd hm => by
  obtain ⟨m1,k1,k2⟩:=oct_least8 hp hd
  obtain ⟨m2,g1,g2⟩:=oct_least8 hP hd
  exact min_app k2 k1 g2 g1 (hull_least hh hm)
def OctTo (L:Rgn) (a:List Pt):Prop:=(L=[]∧a=[])∨(L ≠ []∧IsOct L.flatten a)
theorem OctTo.step {L:Rgn} {p o a h a':List Pt} (g:OctTo L a) (hp:IsOct p o) (hh:IsHull (o ++ a) h) (ha:IsOct h a'):OctTo (L ++ [p]) a':=by
 refine Or.inr ⟨by simp,?_⟩
 rw [List.flatten_append,List.flatten_singleton]
 rcases g with ⟨rfl,rfl⟩ | ⟨_,g⟩
 ·rw [List.append_nil] at hh
  exact oct_first hp hh ha
 ·exact oct_next hp g hh ha
end Rg
end Go.Proofs.YtbpgfenippiepaaGreatDoor
namespace Go.Proofs.YtbpgfenippiepaaGreatDoor
open Go.RowKit Go.Shelf Hl
namespace Rg
def IdxSays (n:Nat) (d:Nat→Bool) (w:World) (e:Ending) (w':World):Prop:=∃ z:Int,e=.returned (.int .i64 z)∧Hid ((z = -1∧∀ j,j < n→d j=false)∨∃ k:Nat,k < n∧z=k∧d k=true∧∀ j,j < k→d j=false)∧Grew w w'
set_option maxRecDepth 100000 in
set_option maxHeartbeats 4000000 in
theorem index_r (f:Nat) (cb:Array Value) (eg:∀ args w,(callFunc f args).run Tryz.prog w=.ok (.enter f args) w) (d:Nat→Bool) (L:Rgn) (b o c:Nat) (w:World) (hr:Rw w b o L) (h2:L.length≤4000000)
  (hC:∀ i u W,i < L.length→Grew w W→Sl W u (nth L i)→Calls Tryz.prog f (#[u] ++ cb) W fun e w' => e=.returned (.bool (d i))∧Grew W w') :
  Calls Tryz.prog 86 #[.slice (some ⟨b,o,none⟩) L.length c,.func (.func f) #[] cb] w (IdxSays L.length d w):=by
 have HR:=Lib.hid hr
 have HC:=Lib.hid hC
 clear hr hC
 go_enter Tryz.func86,Tryz.ntmps86
 go_wp2_with fail
 go_loopw [5,8] (fun _ i wr => ∃ k:Nat,k≤L.length∧i=.int .i64 k∧Grew w wr∧Hid (∀ j,j < k→d j=false)) (fun _ i _ => L.length - (intOf i).toNat)
 case atStart => exact ⟨0,Nat.zero_le _,rfl,Grew.refl _,Lib.hid (fun j hj => by omega)⟩
 case round =>
  obtain ⟨k,hk,rfl,G,D⟩:=hrel
  by_cases hlt:k < L.length
  ·obtain ⟨u,q0,q1⟩:=(HR.out.grown G).2 k hlt
   have i0:(0:Int)≤(k:Int):=by omega
   have i1:(k:Int) < (L.length:Int):=by omega
   obtain ⟨r,hr⟩:∃ r,d k=r:=⟨_,rfl⟩
   have RD:=Lib.hid hr
   have CC:Hid (Calls Tryz.prog f (#[u] ++ cb) wr fun e w' => e=.returned (.bool r)∧Grew wr w'):=Lib.hid (by rw [← hr];exact HC.out k u wr hlt G q1)
   clear hr q1
   cases r
   ·go_wp2_with fail
    refine CC.out.mono ?_
    rintro e w1 ⟨rfl,g1⟩
    have G1:Grew w w1:=Grew.trans G g1
    clear g1
    go_wp2_with fail
    go_roundw
    case rel => exact ⟨k+1,by omega,by go_num,G1,Lib.hid (fun j hj => by
     by_cases e:j=k
     ·rw [e];exact RD.out
     ·exact D.out j (by omega))⟩
    case measure => simp [intOf];omega
   ·go_wp2_with fail
    refine CC.out.mono ?_
    rintro e w1 ⟨rfl,g1⟩
    have G1:Grew w w1:=Grew.trans G g1
    clear g1
    go_wp2_with fail
    go_ret
    exact ⟨k,rfl,Lib.hid (Or.inr ⟨k,hlt,rfl,RD.out,D.out⟩),G1⟩
  ·obtain rfl:k=L.length:=by omega
   have D':=Lib.hid D.out
   go_wp2_with fail
   go_ret
   exact ⟨-1,rfl,Lib.hid (Or.inl ⟨rfl,D'.out⟩),G⟩
theorem index_r0 (f:Nat) (cb:Array Value) (a:Option Addr) (c:Nat) (w:World):Calls Tryz.prog 86 #[.slice a 0 c,.func (.func f) #[] cb] w fun e w' => e=.returned (.int .i64 (-1))∧w=w':=by
 go_enter Tryz.func86,Tryz.ntmps86
 go_wp2_with fail
 go_loopw [5,8] (fun _ i wr => i=.int .i64 0∧w=wr) (fun _ _ _ => 0)
 case atStart => exact ⟨rfl,rfl⟩
 case round =>
  obtain ⟨rfl,rfl⟩:=hrel
  go_wp2_with fail
  go_ret
  exact ⟨rfl,rfl⟩
theorem contains_r (f:Nat) (cb:Array Value) (eg:∀ args w,(callFunc f args).run Tryz.prog w=.ok (.enter f args) w) (d:Nat→Bool) (L:Rgn) (v:Value) (w:World) (hs:Rl w v L) (h2:L.length≤4000000)
  (hC:∀ i u W,i < L.length→Grew w W→Sl W u (nth L i)→Calls Tryz.prog f (#[u] ++ cb) W fun e w' => e=.returned (.bool (d i))∧Grew W w') :
  Calls Tryz.prog 49 #[v,.func (.func f) #[] cb] w (Tells (∃ i,i < L.length∧d i=true) w):=by
 have IC:Calls Tryz.prog 86 #[v,.func (.func f) #[] cb] w (IdxSays L.length d w):=by
  obtain ⟨⟨rfl,a,c,rfl⟩ | ⟨b,o,c,rfl,hr⟩,_⟩:=hs
  ·refine (index_r0 f cb a c w).mono ?_
   rintro e w' ⟨rfl,rfl⟩
   exact ⟨-1,rfl,Lib.hid (Or.inl ⟨rfl,fun j hj => absurd hj (Nat.not_lt_zero j)⟩),Grew.refl _⟩
  ·exact index_r f cb eg d L b o c w hr h2 hC
 have IC:=Lib.hid IC
 obtain ⟨a,c,rfl⟩:=hs.shape
 clear hs hC
 go_enter Tryz.func49,Tryz.ntmps49
 go_wp2_with fail
 refine IC.out.mono ?_
 rintro e w1 ⟨z,rfl,hz,g1⟩
 have HZ:Hid ((∃ i,i < L.length∧d i=true)↔0≤z):=Lib.hid (by
  rcases hz.out with ⟨rfl,h⟩ | ⟨k,hk,rfl,hd,_⟩
  ·exact ⟨fun ⟨i,hi,e⟩ => by (rw [h i hi] at e;cases e),fun h => by omega⟩
  ·exact ⟨fun _ => by omega,fun _ => ⟨k,hk,hd⟩⟩)
 clear hz
 by_cases c0:0≤z
 ·go_wp2_with fail
  go_ret
  exact Tells.yes (HZ.out.2 c0) (by first | rfl | simp [c0]) g1
 ·go_wp2_with fail
  go_ret
  exact Tells.no (fun h => by have:=HZ.out.1 h;omega) (by first | rfl | simp [c0]) g1
theorem poly1_c (K:Hl.Code) (p:List Pt) (r:Bool) (hr:r=true↔¬ Vl p) (v:Value) (w:World) (hs:Sl w v p) (hl:p.length≤9223372036854775807):Calls Tryz.prog 85 (#[v] ++ #[]) w fun e w' => e=.returned (.bool r)∧Grew w w':=by
 have VC:Hid (Calls Tryz.prog 56 #[v] w fun e w' => e=.returned (.bool (!r))∧Grew w w'):=Lib.hid ((K.valid p v w hs hl).mono (by
  rintro e w' ⟨z,rfl,h,g⟩
  refine ⟨?_,g⟩
  have:z = !r:=by
   cases z <;> cases r <;> simp_all
  rw [this]))
 show Calls Tryz.prog 85 #[v] w _
 clear hs hr
 cases r
 all_goals
  go_enter Tryz.func85,Tryz.ntmps85
  go_wp2_with fail
  refine VC.out.mono ?_
  rintro e w1 ⟨rfl,g1⟩
  go_wp2_with fail
  go_ret
  exact ⟨rfl,g1⟩
theorem polys_c (K:Hl.Code) (L:Rgn) (v:Value) (w:World) (hs:Rl w v L) (h2:L.length≤4000000):Calls Tryz.prog 47 #[v] w (Tells (AllV L) w):=by
 obtain ⟨d,hd⟩:∃ d:Nat→Bool,∀ i,d i=true↔¬ Vl (nth L i):=⟨fun i => @decide _ (Classical.propDecidable (¬ Vl (nth L i))),fun i => @decide_eq_true_iff _ (Classical.propDecidable _)⟩
 have CC:=Lib.hid (contains_r 85 #[] (enters_of Tryz.func85 (by kernel_rfl) rfl) d L v w hs h2 (fun i u W hi _ hu => poly1_c K (nth L i) (d i) (hd i) u W hu (hs.2.2 _ (nth_mem hi))))
 have HI:Hid ((∃ i,i < L.length∧d i=true)↔¬ AllV L):=Lib.hid (by
  constructor
  ·rintro ⟨i,hi,h⟩ hv
   exact (hd i).1 h (hv _ (nth_mem hi))
  ·intro h
   apply Classical.byContradiction
   intro hn
   refine h fun p hp => ?_
   obtain ⟨i,hi,rfl⟩:=mem_nth hp
   apply Classical.byContradiction
   intro c
   exact hn ⟨i,hi,(hd i).2 c⟩)
 obtain ⟨a,c,rfl⟩:=hs.shape
 clear hs
 go_enter Tryz.func47,Tryz.ntmps47
 go_wp2_with fail
 refine CC.out.mono ?_
 rintro e w1 ⟨r,rfl,hr,g1⟩
 have HA:r=true↔¬ AllV L:=hr.trans HI.out
 clear hr CC HI
 cases r
 ·have F:=Lib.hid (Classical.byContradiction (p:=AllV L) fun h => by have:=HA.2 h;cases this)
  clear HA
  go_wp2_with fail
  go_ret
  exact Tells.yes F.out rfl g1
 ·have F:=Lib.hid (HA.1 rfl)
  clear HA
  go_wp2_with fail
  go_ret
  exact Tells.no F.out rfl g1
theorem rvalid_c (K:Hl.Code) (L:Rgn) (v:Value) (w:World) (hs:Rl w v L):Calls Tryz.prog 21 #[v] w (Tells (VlR L) w):=by
 have hb:=hs.2.1
 obtain ⟨n,hn⟩:∃ n,L.length=n:=⟨_,rfl⟩
 by_cases h32:n≤32
 ·have CC:=Lib.hid (polys_c K L v w hs (by omega))
  have HN:=Lib.hid hn
  obtain ⟨a,c,rfl⟩:=hs.shape
  rw [hn] at CC ⊢
  have h32':(n:Int)≤32:=by omega
  clear hs hn hb
  go_enter Tryz.func21,Tryz.ntmps21
  go_wp2_with fail
  refine CC.out.mono ?_
  rintro e w1 ⟨r,rfl,hr,g1⟩
  cases r
  ·have F:=Lib.hid (show ¬ AllV L from fun h => by have:=hr.2 h;cases this)
   clear hr CC
   go_wp2_with fail
   go_ret
   exact Tells.no (fun h => F.out h.2) rfl g1
  ·have F:=Lib.hid (hr.1 rfl)
   clear hr CC
   go_wp2_with fail
   go_ret
   exact Tells.yes ⟨by rw [HN.out];exact h32,F.out⟩ rfl g1
 ·have HN:=Lib.hid hn
  obtain ⟨a,c,rfl⟩:=hs.shape
  rw [hn] at hb ⊢
  have h32':¬ (n:Int)≤32:=by omega
  clear hs hn
  go_enter Tryz.func21,Tryz.ntmps21
  go_wp2_with fail
  go_ret
  exact Tells.no (fun h => h32 (by have:=h.1;rw [HN.out] at this;exact this)) rfl gw
theorem rhas_c (K:Hl.Code) (p:List Pt) (x:Pt) (v:Value) (w:World) (hs:Sl w v p) (hp:Vl p) (hx:Plc x):Calls Tryz.prog 51 #[v,.agg #[.int .i64 x.1,.int .i64 x.2]] w (Tells (Hs p x) w):=by
 have HC:Hid (∀ W,Grew w W→Calls Tryz.prog 87 #[v,.agg #[.int .i64 x.1,.int .i64 x.2]] W (HasSays p x W)):=Lib.hid (fun W g => K.has_ok p x v W (hs.grown g) hp hx)
 clear hs K
 go_enter Tryz.func51,Tryz.ntmps51
 go_wp2_with fail
 refine (HC.out _ ((Grew.refl _).alloc _ _)).mono ?_
 rintro e w1 ⟨r,rfl,hr,g1⟩
 have G1:Grew w w1:=Grew.trans ((Grew.refl w).alloc _ _) g1
 clear g1
 cases r
 ·have F:=Lib.hid (show ¬ Hs p x from fun h => by have:=hr.2 h;cases this)
  clear hr
  go_wp2_with fail
  go_ret
  exact Tells.no F.out rfl G1
 ·have F:=Lib.hid (hr.1 rfl)
  clear hr
  go_wp2_with fail
  go_ret
  exact Tells.yes F.out rfl G1
end Rg
end Go.Proofs.YtbpgfenippiepaaGreatDoor
