/-
  The landed package region: what is made of each pair, and tidied.
-/
import Derived.Test.YtbpgfenippiepaaGreatDoorRegCon
namespace Go.Proofs.YtbpgfenippiepaaGreatDoor
open Go.RowKit Go.Shelf Hl
attribute [local go_sem] Oper.semAt_some
namespace Rg
open Ct (Hf)
theorem sl_cells {w:World} {u:Value} {p:List Pt} (h:Sl w u p) (h0:0 < p.length) (k:Nat) (o:Obj) (e:u.ownBlock=some k) (ho:w.heap[k]? = some o):o.isCells=true:=by
 obtain ⟨rfl,_⟩ | ⟨b,o',c,rfl,hr⟩:=h
 ·cases h0
 ·have e3:some b=some k:=e
  injection e3 with e3
  subst e3
  have k1:=(hr.2 0 h0).1
  unfold World.cell? at k1
  rw [show w.heap[(⟨b,o'+0 * 2,none⟩:Addr).block]? = some o from ho] at k1
  cases o <;> first | rfl | cases k1
theorem Piled.own {N A:Nat} {w0 X Y:World} {M:Rgn} {row:Option Nat} (h:Piled N A w0 X M) (g:X.grownBy Y row) (hr:∀ r,row=some r→N≤r∧∃ o,X.heap[r]? = some o∧o.isCells=false):Piled N A w0 Y M:=by
 have hb:=h.big
 obtain ⟨v,Q,h1,h2,h3⟩:=h.is
 have no:∀ k,(∀ o,X.heap[k]? = some o→o.isCells=true)→row ≠ some k:=fun k hk e => by
  obtain ⟨_,o,ho,hc⟩:=hr k e
  rw [hk o ho] at hc
  cases hc
 refine ⟨⟨v,Q,h1.by g ?_ (fun x hx k e e2 => no k (fun o ho => sl_cells (h1.sl x hx) (h1.vl x hx).1.1 k o e2 ho) e),h2.kept g (fun e => no A (fun o ho => by rw [show X.heap[A]? = _ from h2] at ho;cases ho;rfl) e.symm),h3⟩,leaves_by h.lv g hb (fun k e => (hr k e).1),h.ok⟩
 cases hv:v.ownBlock with
 | none => exact Or.inl rfl
 | some j => exact Or.inr fun e => no j (fun o ho => ownp_cells h1.own j o hv ho) e.symm
theorem Own.row_of {B:Nat} {w w':World} {v:Value} {L:Rgn} {row:Option Nat} (h:Own B w v L) (g:w.grownBy w' row) (hne:∀ k,row=some k→v.ownBlock ≠ some k) (hin:∀ (u:Value) (p:List Pt),0 < p.length→Sl w u p→∀ k,row=some k→u.ownBlock ≠ some k):Own B w' v L:=by
 obtain ⟨us,h0,h1,h2⟩:=h.own
 refine ⟨⟨us,h0,?_,fun i u e => ?_⟩,fun k e => (h.hd k e).kept (g.block k (h.block k e).2 (fun e2 => hne k e2.symm e)),h.full⟩
 ·refine World.ownsRow.kept h1 g ?_
  cases hv:v.ownBlock with
  | none => exact Or.inl rfl
  | some j => exact Or.inr fun e => hne j e.symm hv
 ·have hu:=h2 i u e
  have hi:i < L.length:=by
   have:=(List.getElem?_eq_some_iff.1 e).1
   omega
  exact Sl.row_of hu g (fun k e2 => hin u _ (h.full _ (nth_mem hi)) hu k e2)
def GR (P:Nat→Rgn→Prop):List Nat→Rgn→Prop
 | [],c => c=[]
 | m :: t,c => ∃ a b,GR P t a∧P m b∧c=a ++ b
def GC (P:Nat→Rgn→Prop) (pre:List Nat) (c:Rgn):Prop:=GR P pre.reverse c
theorem GC.nil (P:Nat→Rgn→Prop):GC P [] []:=rfl
theorem GC.snoc {P:Nat→Rgn→Prop} {pre:List Nat} {m:Nat} {a b:Rgn} (h:GC P pre a) (hb:P m b):GC P (pre ++ [m]) (a ++ b):=by
 unfold GC
 rw [List.reverse_append]
 exact ⟨a,b,h,hb,rfl⟩
theorem GR.all {P:Nat→Rgn→Prop} (hP:∀ m r,P m r→AllV r∧r.length≤1):∀ {l:List Nat} {c:Rgn},GR P l c→AllV c∧c.length≤l.length
 | [],c,h => by
   rw [show c=[] from h]
   exact ⟨fun p hp => (by cases hp),Nat.le_refl _⟩
 | m :: l,c,⟨a,b,ha,hb,e⟩ => by
   have h1:=GR.all hP ha
   have h2:=hP m b hb
   rw [e]
   exact ⟨fun p hp => (List.mem_append.1 hp).elim (h1.1 p) (h2.1 p),by rw [List.length_append,List.length_cons];omega⟩
theorem GC.all {P:Nat→Rgn→Prop} (hP:∀ m r,P m r→AllV r∧r.length≤1) {l:List Nat} {c:Rgn} (h:GC P l c):AllV c∧c.length≤l.length:=by
 have:=GR.all hP h
 rwa [List.length_reverse] at this
theorem GC.col {P P':Nat→Rgn→Prop}:∀ {n:Nat} {c:Rgn},(∀ m r,m < n→P m r→P' m r)→GC P (List.range n) c→Col P' n c
 | 0,c,_,h => h
 | n+1,c,hP,h => by
   unfold GC at h
   rw [List.range_succ,List.reverse_append] at h
   obtain ⟨a,b,ha,hb,e⟩:=h
   exact ⟨a,b,GC.col (fun m r hm => hP m r (by omega)) ha,hP n b (by omega) hb,e⟩
def WhatSays (w:World) (PR:Rgn→Prop) (PE:Int→Prop) (W:World) (e:Ending) (W':World):Prop :=
 (∃ q v,e=.returned (.tuple #[v,.bool true,.int .i64 0])∧PR [q]∧Vl q∧Sl W' v q∧(∀ k,v.ownBlock=some k→k < w.heap.size∨W.heap.size≤k)∧Grew W W') ∨
 (∃ v,e=.returned (.tuple #[v,.bool false,.int .i64 0])∧PR []∧IsHd v∧Grew W W') ∨
 (∃ v b k,e=.returned (.tuple #[v,.bool b,.int .i64 k])∧k ≠ 0∧PE k∧IsHd v∧Grew W W')
def MadeSays (n:Nat) (PR:Nat→Rgn→Prop) (PE:Nat→Int→Prop) (w:World) (e:Ending) (w':World):Prop :=
 (∃ m k v,m < n∧PE m k∧k ≠ 0∧e=.returned (.tuple #[v,.int .i64 k])∧Rl w' v []∧Grew w w') ∨
 (∃ c out v,Col PR n c∧TidyIs c out∧e=.returned (.tuple #[v,.int .i64 0])∧Rl w' v out∧Grew w w')
set_option maxRecDepth 100000 in
set_option maxHeartbeats 8000000 in
theorem madeH_c (K:Hl.CodeN) (wf:Nat) (eg:∀ args w,(callFunc wf args).run Tryz.prog w=.ok (.enter wf args) w) (a1 a2:Option Addr) (n1 n2 c1 c2:Nat) (U:Nat→Value) (hU:∀ i,IsHd (U i)) (X:Nat→Hf) (h1:n1≤32) (h2:n2≤32) (w:World) (hL:LstH w.heap.size w.heap.size a1 a2 n1 n2 U X w)
  (PR:Nat→Rgn→Prop) (PE:Nat→Int→Prop) (hPR:∀ m r,PR m r→AllV r∧r.length≤1)
  (hW:∀ m W,m < n1 * n2→Grew w W→Calls Tryz.prog wf #[U (m / n2),(.agg #[.int .i64 (X (m % n2)).1,.int .i64 (X (m % n2)).2.1,.int .i64 (X (m % n2)).2.2])] W (WhatSays w (PR m) (PE m) W)) :
  Calls Tryz.prog 125 #[.slice a1 n1 c1,.slice a2 n2 c2,.func (.func wf) #[] #[]] w (MadeSays (n1 * n2) PR PE w):=by
 have HW:=Lib.hid hW
 have HU:=Lib.hid hU
 have HPR:Hid (∀ m r,PR (m % (n1 * n2)) r→AllV r∧r.length≤1):=Lib.hid (fun m r => hPR _ r)
 have TOT:Hid (n1 * n2≤1024):=Lib.hid (Nat.mul_le_mul h1 h2)
 refine (callsIn_wide (n:=5)).1 ?_
 refine callsIn_of_wp_marks Tryz.func125 rfl trivial ?_ rfl
 simp only [Tryz.ntmps125,List.size_toArray,List.length_cons,List.length_nil,Nat.reduceAdd,Nat.reduceSub,Array.replicate_succ,Array.replicate_zero,List.push_toArray,List.append_toArray,List.nil_append,List.cons_append]
 gi_wp2_with fail
 refine ⟨trivial,(pairsH_in 4 _ _ _ _ _ _ _).mono ?_⟩
 rintro e w2 ⟨rfl,rfl⟩
 gi_wp2_with fail
 have hL0:LstH (w.heap.size+6) (w.heap.size+1+1+1) a1 a2 n1 n2 U X ((((((w.alloc (.cells #[.func (.func wf) #[] #[]] 149)).alloc (.cells #[.slice none 0 0] 22)).alloc (.cells #[.int .i64 0] 29)).alloc (.cells #[.slice none 0 0] 97)).alloc (.cells #[.slice a1 n1 c1] 22)).alloc (.cells #[.slice a2 n2 c2] 148)):=by
  have k:=hL.below (W:=((((((w.alloc (.cells #[.func (.func wf) #[] #[]] 149)).alloc (.cells #[.slice none 0 0] 22)).alloc (.cells #[.int .i64 0] 29)).alloc (.cells #[.slice none 0 0] 97)).alloc (.cells #[.slice a1 n1 c1] 22)).alloc (.cells #[.slice a2 n2 c2] 148))) ((((((Grew.refl w).alloc _ _).alloc _ _).alloc _ _).alloc _ _).alloc _ _ |>.alloc _ _) (Nat.le_refl _)
  exact ⟨fun i hi => by
   obtain ⟨b,o,e,hb,hc⟩:=k.rr i hi
   exact ⟨b,o,e,⟨by omega,by omega⟩,hc⟩,fun i hi => by
   obtain ⟨b,o,e,hb,hc⟩:=k.rl i hi
   exact ⟨b,o,e,⟨by omega,by omega⟩,hc⟩⟩
 have G0:Below w.heap.size w ((((((w.alloc (.cells #[.func (.func wf) #[] #[]] 149)).alloc (.cells #[.slice none 0 0] 22)).alloc (.cells #[.int .i64 0] 29)).alloc (.cells #[.slice none 0 0] 97)).alloc (.cells #[.slice a1 n1 c1] 22)).alloc (.cells #[.slice a2 n2 c2] 148)):=(((((((Grew.refl w).alloc _ _).alloc _ _).alloc _ _).alloc _ _).alloc _ _).alloc _ _)
 have hsz:((((((w.alloc (.cells #[.func (.func wf) #[] #[]] 149)).alloc (.cells #[.slice none 0 0] 22)).alloc (.cells #[.int .i64 0] 29)).alloc (.cells #[.slice none 0 0] 97)).alloc (.cells #[.slice a1 n1 c1] 22)).alloc (.cells #[.slice a2 n2 c2] 148)).heap.size=w.heap.size+6:=by simp
 have k0:Blk ((((((w.alloc (.cells #[.func (.func wf) #[] #[]] 149)).alloc (.cells #[.slice none 0 0] 22)).alloc (.cells #[.int .i64 0] 29)).alloc (.cells #[.slice none 0 0] 97)).alloc (.cells #[.slice a1 n1 c1] 22)).alloc (.cells #[.slice a2 n2 c2] 148)) w.heap.size #[.func (.func wf) #[] #[]] 149:=(((((Blk.new w _ _).alloc _).alloc _).alloc _).alloc _).alloc _
 have k1:Blk ((((((w.alloc (.cells #[.func (.func wf) #[] #[]] 149)).alloc (.cells #[.slice none 0 0] 22)).alloc (.cells #[.int .i64 0] 29)).alloc (.cells #[.slice none 0 0] 97)).alloc (.cells #[.slice a1 n1 c1] 22)).alloc (.cells #[.slice a2 n2 c2] 148)) (w.heap.size+1) #[.slice none 0 0] 22:=by
  have h:=((((Blk.new (w.alloc (.cells #[.func (.func wf) #[] #[]] 149)) #[.slice none 0 0] 22).alloc (.cells #[.int .i64 0] 29)).alloc (.cells #[.slice none 0 0] 97)).alloc (.cells #[.slice a1 n1 c1] 22)).alloc (.cells #[.slice a2 n2 c2] 148)
  rwa [World.size_alloc] at h
 have k2:Blk ((((((w.alloc (.cells #[.func (.func wf) #[] #[]] 149)).alloc (.cells #[.slice none 0 0] 22)).alloc (.cells #[.int .i64 0] 29)).alloc (.cells #[.slice none 0 0] 97)).alloc (.cells #[.slice a1 n1 c1] 22)).alloc (.cells #[.slice a2 n2 c2] 148)) (w.heap.size+1+1) #[.int .i64 0] 29:=by
  have h:=(((Blk.new ((w.alloc (.cells #[.func (.func wf) #[] #[]] 149)).alloc (.cells #[.slice none 0 0] 22)) #[.int .i64 0] 29).alloc (.cells #[.slice none 0 0] 97)).alloc (.cells #[.slice a1 n1 c1] 22)).alloc (.cells #[.slice a2 n2 c2] 148)
  rwa [World.size_alloc,World.size_alloc] at h
 have k3:Blk ((((((w.alloc (.cells #[.func (.func wf) #[] #[]] 149)).alloc (.cells #[.slice none 0 0] 22)).alloc (.cells #[.int .i64 0] 29)).alloc (.cells #[.slice none 0 0] 97)).alloc (.cells #[.slice a1 n1 c1] 22)).alloc (.cells #[.slice a2 n2 c2] 148)) (w.heap.size+1+1+1) #[.slice none 0 0] 97:=by
  have h:=((Blk.new (((w.alloc (.cells #[.func (.func wf) #[] #[]] 149)).alloc (.cells #[.slice none 0 0] 22)).alloc (.cells #[.int .i64 0] 29)) #[.slice none 0 0] 97).alloc (.cells #[.slice a1 n1 c1] 22)).alloc (.cells #[.slice a2 n2 c2] 148)
  rwa [World.size_alloc,World.size_alloc,World.size_alloc] at h
 have k4:Blk ((((((w.alloc (.cells #[.func (.func wf) #[] #[]] 149)).alloc (.cells #[.slice none 0 0] 22)).alloc (.cells #[.int .i64 0] 29)).alloc (.cells #[.slice none 0 0] 97)).alloc (.cells #[.slice a1 n1 c1] 22)).alloc (.cells #[.slice a2 n2 c2] 148)) (w.heap.size+1+1+1+1) #[.slice a1 n1 c1] 22:=by
  have h:=(Blk.new ((((w.alloc (.cells #[.func (.func wf) #[] #[]] 149)).alloc (.cells #[.slice none 0 0] 22)).alloc (.cells #[.int .i64 0] 29)).alloc (.cells #[.slice none 0 0] 97)) #[.slice a1 n1 c1] 22).alloc (.cells #[.slice a2 n2 c2] 148)
  rwa [World.size_alloc,World.size_alloc,World.size_alloc,World.size_alloc] at h
 have k5:Blk ((((((w.alloc (.cells #[.func (.func wf) #[] #[]] 149)).alloc (.cells #[.slice none 0 0] 22)).alloc (.cells #[.int .i64 0] 29)).alloc (.cells #[.slice none 0 0] 97)).alloc (.cells #[.slice a1 n1 c1] 22)).alloc (.cells #[.slice a2 n2 c2] 148)) (w.heap.size+1+1+1+1+1) #[.slice a2 n2 c2] 148:=by
  have h:=Blk.new (((((w.alloc (.cells #[.func (.func wf) #[] #[]] 149)).alloc (.cells #[.slice none 0 0] 22)).alloc (.cells #[.int .i64 0] 29)).alloc (.cells #[.slice none 0 0] 97)).alloc (.cells #[.slice a1 n1 c1] 22)) #[.slice a2 n2 c2] 148
  rwa [World.size_alloc,World.size_alloc,World.size_alloc,World.size_alloc,World.size_alloc] at h
 obtain ⟨W0,hW0⟩:∃ W0,((((((w.alloc (.cells #[.func (.func wf) #[] #[]] 149)).alloc (.cells #[.slice none 0 0] 22)).alloc (.cells #[.int .i64 0] 29)).alloc (.cells #[.slice none 0 0] 97)).alloc (.cells #[.slice a1 n1 c1] 22)).alloc (.cells #[.slice a2 n2 c2] 148))=W0:=⟨_,rfl⟩
 rw [hW0] at hL0 G0 hsz k0 k1 k2 k3 k4 k5 ⊢
 clear hW0 hL hW hU hPR
 have P0:Piled (w.heap.size+6) (w.heap.size+1+1+1) W0 W0 []:=⟨⟨_,[],Pile.nil _ _,k3,rfl⟩,Hl.Leaves.refl _ _ _,by omega,by omega⟩
 have K0:=Lib.hid k0
 have K1:=Lib.hid k1
 have K2:=Lib.hid k2
 have HG0:=Lib.hid G0
 refine wpIn_rangeFunc_ownH rfl (by omega) (gf:=194) (lb:=#[.pointer (some ⟨w.heap.size+1+1+1+1,0,none⟩),.pointer (some ⟨w.heap.size+1+1+1+1+1,0,none⟩)]) rfl trivial (enters_of Tryz.func194 (by kernel_rfl) rfl)
  (pairsH_stops 4 (by omega) (w.heap.size+1+1+1+1) (w.heap.size+1+1+1+1+1) (w.heap.size+6) (w.heap.size+1+1+1) a1 a2 n1 n2 c1 c2 U HU.out X (by omega) (by omega) W0 (by omega) (by omega) (by omega) k4.one.1 k5.one.1 hL0) KeptX.trans (fun W l o o' hl _ _ _ => KeptX.put W l o' (by omega)) (Below.refl _ _) (fun _ => rfl)
  (fun pre W => ((∃ c,GC (fun m => PR (m % (n1 * n2))) pre c∧Piled (w.heap.size+6) (w.heap.size+1+1+1) W0 W c)∧Below w.heap.size w W))
  (fun c pre W => (c=.ret∧(∃ m k,m < n1 * n2∧PE m k∧k ≠ 0∧Blk W (w.heap.size+1) #[.slice none 0 0] 22∧Blk W (w.heap.size+1+1) #[.int .i64 k] 29))∧Below w.heap.size w W)
  (OwnFrom.and (fun pre A B row hs hg hr => by
   obtain ⟨c,h1,h2⟩:=hs
   exact ⟨c,h1,h2.own hg (fun r e => by have h:=hr r e;rw [hsz] at h;exact h)⟩) (ownFrom_below (Nat.le_refl _) (by omega)))
  (fun c => OwnFrom.and (fun pre A B row hs hg hr => by
   obtain ⟨hc,m,k,h1,h2,h3,h4,h5⟩:=hs
   exact ⟨hc,m,k,h1,h2,h3,blk_own _ _ (fun _:Unit => #[.slice none 0 0]) () A B row h4 hg (fun r e => (hr r e).2),blk_own _ _ (fun _:Unit => #[.int .i64 k]) () A B row h5 hg (fun r e => (hr r e).2)⟩) (ownFrom_below (Nat.le_refl _) (by omega)))
  ⟨⟨[],GC.nil _,P0⟩,G0⟩
  (fun m a' W => ∃ Bx,w.heap.size+6≤Bx∧Blk W Bx #[.int .i64 (X (m % n2)).1,.int .i64 (X (m % n2)).2.1,.int .i64 (X (m % n2)).2.2] 78∧a' = { tmps:=#[.slice a1 n1 c1,.slice a2 n2 c2,.func (.func wf) #[] #[],undef,undef,.pointer (some ⟨w.heap.size,0,none⟩),.pointer (some ⟨w.heap.size+1,0,none⟩),.pointer (some ⟨w.heap.size+1+1,0,none⟩),.pointer (some ⟨w.heap.size+1+1+1,0,none⟩),U ((m % (n1 * n2)) / n2),.pointer (some ⟨Bx,0,none⟩),undef,undef,undef,.slice a1 n1 c1,.slice a2 n2 c2,.func (.func 194) #[] #[.pointer (some ⟨w.heap.size+1+1+1+1,0,none⟩),.pointer (some ⟨w.heap.size+1+1+1+1+1,0,none⟩)],U ((m % (n1 * n2)) / n2),(.agg #[.int .i64 (X (m % n2)).1,.int .i64 (X (m % n2)).2.1,.int .i64 (X (m % n2)).2.2]),undef,undef,undef,undef,undef,undef,undef,undef,undef,undef,undef,undef,undef,undef,undef],defers:=[] })
  (fun m a' _ X' Y row hs hg hr => by
   obtain ⟨Bx,g1,g2,g3⟩:=hs
   exact ⟨Bx,g1,blk_own _ _ (fun _:Unit => #[.int .i64 (X (m % n2)).1,.int .i64 (X (m % n2)).2.1,.int .i64 (X (m % n2)).2.2]) () X' Y row g2 hg (fun r e => (hr r e).2),g3⟩)
  ?assign ?body ?done ?stop
 case assign =>
  rintro l pre m W K ⟨⟨c,g1,g2⟩,gB⟩ hK
  have hz:=g2.big
  unfold prH
  gi_wp2
  exact hK _ _ ((KeepsOthers.alloc _ _).from _) ((KeptX.refl _ _ W).alloc hz _) ⟨⟨c,g1,g2.grew ((Grew.refl W).alloc _ _)⟩,gB.alloc (by have:=gB.size;omega) _⟩ ⟨W.heap.size,hz,Blk.new W _ _,rfl⟩
 case body =>
  rintro l pre m a' W hl ⟨r0,hr0⟩ ⟨⟨c,g1,g2⟩,gB⟩ ⟨Bx,hBx,bX,rfl⟩ hlt
  have hz:=g2.big
  have hm:(m % (n1 * n2)) < n1 * n2:=Nat.mod_lt _ (by omega)
  have CL:=Lib.hid (GC.all HPR.out g1)
  have LP:Hid (pre.length < 1024):=Lib.hid (by have:=TOT.out;omega)
  have GA:=Lib.hid g1
  have PI:=Lib.hid g2
  have HM:=Lib.hid hm
  have b0:=Lib.hid (g2.lv.blk K0.out (by omega) (by omega))
  have b1:=Lib.hid (g2.lv.blk K1.out (by omega) (by omega))
  have b2:=Lib.hid (g2.lv.blk K2.out (by omega) (by omega))
  have WC:Hid (CallsIn (Fence.wide.inRound l) 2 Tryz.prog wf #[U ((m % (n1 * n2)) / n2),(.agg #[.int .i64 (X (m % n2)).1,.int .i64 (X (m % n2)).2.1,.int .i64 (X (m % n2)).2.2])] W (WhatSays w (PR (m % (n1 * n2))) (PE (m % (n1 * n2))) W)):=Lib.hid (CallsIn.inRound l (callsIn_wide.2 (by have h:=HW.out _ W hm gB;rwa [Nat.mod_mul_left_mod] at h)))
  have AC:Hid (∀ q v w1,Grew W w1→Vl q→Sl w1 v q→(∀ k,v.ownBlock=some k→k < w.heap.size∨W.heap.size≤k)→CallsIn (Fence.wide.inRound l) 2 Tryz.prog 66 #[.pointer (some ⟨w.heap.size+1+1+1,0,none⟩),v] w1 (PiledSays (w.heap.size+6) (w.heap.size+1+1+1) W0 w1 (c ++ [q]))):=Lib.hid (fun q v w1 hg hq hs hf => CallsIn.inRound l (callsIn_wide.2 (padd_c K.toCode _ _ W0 W w1 c q v PI.out hg hs hq CL.out.1 (by have:=CL.out.2;have:=LP.out;omega) (fun k e => by rcases hf k e with h | h <;> omega))))
  obtain ⟨f0,_⟩:=b0.out.one
  obtain ⟨r1,r2⟩:=b1.out.one
  obtain ⟨e1,e2⟩:=b2.out.one
  obtain ⟨x0,x1,x2⟩:=Ct.blk_three bX
  obtain ⟨ua,un,uc,hu⟩:=HU.out ((m % (n1 * n2)) / n2)
  rw [hu] at WC ⊢
  have lz:w.heap.size+6≤W.heap.size:=hz
  clear g1 g2 hm
  gi_wp2_with fail
  refine ⟨trivial,WC.out.mono ?_⟩
  rintro e w1 (⟨q,v,rfl,hp,hv,hs,hf,gw⟩ | ⟨v,rfl,hp,⟨va,vn,vc,rfl⟩,gw⟩ | ⟨v,b,k,rfl,hk,hp,⟨va,vn,vc,rfl⟩,gw⟩)
  ·have A1:=Lib.hid (AC.out q v w1 gw hv hs hf)
   have HP:=Lib.hid hp
   have GW:=Lib.hid gw
   obtain ⟨va,vc,rfl⟩:=hs.shape
   clear AC WC hp hv hs hf gw f0 r1 r2 e1 e2
   gi_wp2_with fail
   refine ⟨trivial,A1.out.mono ?_⟩
   rintro e w3 ⟨rfl,hp3,ko,lv⟩
   have P3:=Lib.hid hp3
   have KO:=Lib.hid ko
   have LV:=Lib.hid lv
   clear hp3 ko lv A1
   gi_wp2_with fail
   exact ⟨((Ct.keeps_grew GW.out).trans KO.out).from _,⟨Nat.le_trans GW.out.size LV.out.size,fun k h1 h2 => (LV.out.block k h1 h2).trans (GW.out.block k (by omega))⟩,⟨c ++ [q],GA.out.snoc HP.out,P3.out⟩,P3.out.lv.toGrew HG0.out (by omega) (by omega)⟩
  ·have HP:=Lib.hid hp
   have GW:=Lib.hid gw
   clear AC WC hp gw f0 r1 r2 e1 e2
   gi_wp2_with fail
   exact ⟨(Ct.keeps_grew GW.out).from _,⟨GW.out.size,fun k h1 h2 => GW.out.block k (by omega)⟩,⟨c,by have h:=GA.out.snoc HP.out;rwa [List.append_nil] at h,PI.out.grew GW.out⟩,gB.trans (GW.out.mono (by omega))⟩
  ·have HP:=Lib.hid hp
   have GW:=Lib.hid gw
   have HK:=Lib.hid hk
   have n1':(k == 0)=false:=beq_eq_false_iff_ne.2 hk
   have n2':(k != 0)=true:=by simp [hk]
   have b3:=b1.out.grown gw
   have b4:=b2.out.grown gw
   obtain ⟨r3,r4⟩:=b3.one
   obtain ⟨e3,e4⟩:=b4.one
   have B3:=Lib.hid b3
   have B4:=Lib.hid b4
   have lw1:w.heap.size+6≤w1.heap.size:=Nat.le_trans lz gw.size
   clear AC WC hp gw f0 r1 r2 e1 e2 b3 b4
   gi_wp2_with fail
   refine ⟨KeepsOthers.from (((Ct.keeps_grew GW.out).trans (KeepsOthers.setCell _ _ _)).trans (KeepsOthers.setCell _ _ _)) _,⟨rfl,_,k,HM.out,HP.out,HK.out,?_,?_⟩,?_⟩
   ·exact B3.out.put0.other (by omega) _
   ·exact (B4.out.other (by omega) _).put0
   ·exact ((gB.trans (GW.out.mono (by omega))).setCell (p:=⟨w.heap.size+1,0,none⟩) (by simp) _).setCell (p:=⟨w.heap.size+1+1,0,none⟩) (by simp;omega) _
 case done =>
  rintro D ys W hD rfl ⟨⟨c,g1,g2⟩,gB⟩ hK
  have CL:=GC.all HPR.out g1
  have CO:=Lib.hid (GC.col (P':=PR) (fun m r hm h => by rwa [Nat.mod_eq_of_lt hm] at h) g1)
  have TC:=Lib.hid (ptidied_c K _ _ W0 W c g2 CL.1 (by have h:=CL.2;rw [List.length_range] at h;have:=TOT.out;omega))
  have b1:=g2.lv.blk K1.out (by omega) (by omega)
  have b2:=g2.lv.blk K2.out (by omega) (by omega)
  have TN:Hid (CallsIn Fence.wide 4 Tryz.prog 67 #[.pointer (some ⟨w.heap.size+1+1+1,0,none⟩)] W fun e w' => ∃ r out,e=.returned r∧(Own W.heap.size w' r out∧VlR out)∧TidyIs c out∧Grew W w'):=Lib.hid (callsIn_wide.2 TC.out)
  have hDl:=(Array.getElem?_eq_some_iff.1 hK).1
  have hz:=g2.big
  clear CL g1 TC
  gi_wp2_with fail
  refine ⟨trivial,TN.out.mono ?_⟩
  rintro e w2 ⟨r,out,rfl,hr,ht,g3⟩
  have HR:=Lib.hid hr
  have HT:=Lib.hid ht
  have b3:=b1.grown g3
  have b4:=b2.grown g3
  have hK2:=(g3.block D hDl).trans hK
  obtain ⟨ra,rc,rfl⟩:=(own_rl hr).shape
  obtain ⟨r0,r1⟩:=b3.one
  obtain ⟨e0,e1⟩:=b4.one
  have G3:Hid (Below w.heap.size w w2):=Lib.hid (gB.trans (g3.mono (by omega)))
  clear hr ht
  gi_wp2_with fail
  have k3:Blk ((w2.setCell ⟨w.heap.size+1,0,none⟩ (.slice ra out.length rc)).setCell ⟨w.heap.size+1+1,0,none⟩ (.int .i64 0)) (w.heap.size+1) #[.slice ra out.length rc] 22:=b3.put0.other (by omega) _
  have k4:Blk ((w2.setCell ⟨w.heap.size+1,0,none⟩ (.slice ra out.length rc)).setCell ⟨w.heap.size+1+1,0,none⟩ (.int .i64 0)) (w.heap.size+1+1) #[.int .i64 0] 29:=(b4.other (by omega) _).put0
  have hK':=((KeepsOthers.setCell w2 ⟨w.heap.size+1,0,none⟩ (.slice ra out.length rc)).trans (KeepsOthers.setCell _ ⟨w.heap.size+1+1,0,none⟩ (.int .i64 0))).same D _ hK2 rfl
  refine ⟨by simp,.inl ⟨_,_,rfl,run_takeDeferred hK',?_⟩⟩
  have c3:=cell_kept k3.one.1 (grownBy_putObj' _ D (.deferred none)) (fun r e => by cases e;exact ⟨_,hK',rfl⟩)
  have c4:=cell_kept k4.one.1 (grownBy_putObj' _ D (.deferred none)) (fun r e => by cases e;exact ⟨_,hK',rfl⟩)
  have FIN:∀ Wf,Rl Wf (.slice ra out.length rc) out→Grew w Wf→MadeSays (n1 * n2) PR PE w (.returned (.tuple #[.slice ra out.length rc,.int .i64 0])) Wf:=fun Wf h1 h2 => Or.inr ⟨c,out,_,CO.out,HT.out,rfl,h1,h2⟩
  refine ⟨.tuple #[.slice ra out.length rc,.int .i64 0],?_,FIN _ ?_ (((G3.out.setCell (p:=⟨w.heap.size+1,0,none⟩) (by simp) _).setCell (p:=⟨w.heap.size+1+1,0,none⟩) (by simp;omega) _).trans (belowK_b (w:=w) (Nat.le_refl _) _ D _ _ (by omega) hK' rfl rfl))⟩
  ·simp [results,Tryz.results125,go_sem,c3,c4]
  ·have nb:∀ k,(Value.slice ra out.length rc).ownBlock=some k→W.heap.size≤k:=fun k e => (HR.out.1.block k e).1
   have o1:=HR.out.1.row_of (grownBy_setCell w2 (w.heap.size+1) 0 (.slice ra out.length rc)) (fun k e e2 => by cases e;have:=nb _ e2;omega) (fun u p h0 hs k e => by cases e;exact Sl.not_one hs h0 b3)
   have o2:=o1.row_of (grownBy_setCell _ (w.heap.size+1+1) 0 (.int .i64 0)) (fun k e e2 => by cases e;have:=nb _ e2;omega) (fun u p h0 hs k e => by cases e;exact Sl.not_one hs h0 (b4.other (by omega) _))
   have o3:=o2.row_of (grownBy_putObj' _ D (.deferred none)) (fun k e e2 => by
    cases e
    obtain ⟨cur,t,fr,hb,_⟩:=o2.hd D e2
    rw [hK'] at hb
    cases hb) (fun u p h0 hs k e e2 => by
    cases e
    have:=sl_cells hs h0 D _ e2 hK'
    cases this)
   exact own_rl ⟨o3,HR.out.2⟩
 case stop =>
  rintro D c pre W hD ⟨k,hk,rfl⟩ ⟨⟨rfl,m,j,h1,h2,h3,h4,h5⟩,gB⟩ hK
  gi_wp2
  refine ⟨by simp,.inl ⟨_,_,rfl,run_takeDeferred hK,?_⟩⟩
  have c3:=cell_kept h4.one.1 (grownBy_putObj' _ D (.deferred none)) (fun r e => by cases e;exact ⟨_,hK,rfl⟩)
  have c4:=cell_kept h5.one.1 (grownBy_putObj' _ D (.deferred none)) (fun r e => by cases e;exact ⟨_,hK,rfl⟩)
  refine ⟨.tuple #[.slice none 0 0,.int .i64 j],?_,Or.inl ⟨m,j,_,h1,h2,h3,rfl,rl_none _ _ _,gB.trans (belowK_b (w:=w) (Nat.le_refl _) W D _ _ (by have:=HG0.out.size;omega) hK rfl rfl)⟩⟩
  simp [results,Tryz.results125,go_sem,c3,c4]
set_option maxRecDepth 100000 in
set_option maxHeartbeats 8000000 in
theorem madeP_c (K:Hl.CodeN) (wf:Nat) (eg:∀ args w,(callFunc wf args).run Tryz.prog w=.ok (.enter wf args) w) (a1 a2:Option Addr) (n1 n2 c1 c2:Nat) (U:Nat→Value) (hU:∀ i,IsHd (U i)) (X:Nat→Value) (hX:∀ i,IsHd (X i)) (h1:n1≤32) (h2:n2≤32) (w:World) (hL:LstP w.heap.size w.heap.size a1 a2 n1 n2 U X w)
  (PR:Nat→Rgn→Prop) (PE:Nat→Int→Prop) (hPR:∀ m r,PR m r→AllV r∧r.length≤1)
  (hW:∀ m W,m < n1 * n2→Grew w W→Calls Tryz.prog wf #[U (m / n2),(X (m % n2))] W (WhatSays w (PR m) (PE m) W)) :
  Calls Tryz.prog 57 #[.slice a1 n1 c1,.slice a2 n2 c2,.func (.func wf) #[] #[]] w (MadeSays (n1 * n2) PR PE w):=by
 have HW:=Lib.hid hW
 have HU:=Lib.hid hU
 have HX:=Lib.hid hX
 have HPR:Hid (∀ m r,PR (m % (n1 * n2)) r→AllV r∧r.length≤1):=Lib.hid (fun m r => hPR _ r)
 have TOT:Hid (n1 * n2≤1024):=Lib.hid (Nat.mul_le_mul h1 h2)
 refine (callsIn_wide (n:=5)).1 ?_
 refine callsIn_of_wp_marks Tryz.func57 rfl trivial ?_ rfl
 simp only [Tryz.ntmps57,List.size_toArray,List.length_cons,List.length_nil,Nat.reduceAdd,Nat.reduceSub,Array.replicate_succ,Array.replicate_zero,List.push_toArray,List.append_toArray,List.nil_append,List.cons_append]
 gi_wp2_with fail
 refine ⟨trivial,(pairsP_in 4 _ _ _ _ _ _ _).mono ?_⟩
 rintro e w2 ⟨rfl,rfl⟩
 gi_wp2_with fail
 have hL0:LstP (w.heap.size+6) (w.heap.size+1+1+1) a1 a2 n1 n2 U X ((((((w.alloc (.cells #[.func (.func wf) #[] #[]] 89)).alloc (.cells #[.slice none 0 0] 22)).alloc (.cells #[.int .i64 0] 29)).alloc (.cells #[.slice none 0 0] 97)).alloc (.cells #[.slice a1 n1 c1] 22)).alloc (.cells #[.slice a2 n2 c2] 22)):=by
  have k:=hL.below (W:=((((((w.alloc (.cells #[.func (.func wf) #[] #[]] 89)).alloc (.cells #[.slice none 0 0] 22)).alloc (.cells #[.int .i64 0] 29)).alloc (.cells #[.slice none 0 0] 97)).alloc (.cells #[.slice a1 n1 c1] 22)).alloc (.cells #[.slice a2 n2 c2] 22))) ((((((Grew.refl w).alloc _ _).alloc _ _).alloc _ _).alloc _ _).alloc _ _ |>.alloc _ _) (Nat.le_refl _)
  exact ⟨fun i hi => by
   obtain ⟨b,o,e,hb,hc⟩:=k.rr i hi
   exact ⟨b,o,e,⟨by omega,by omega⟩,hc⟩,fun i hi => by
   obtain ⟨b,o,e,hb,hc⟩:=k.rl i hi
   exact ⟨b,o,e,⟨by omega,by omega⟩,hc⟩⟩
 have G0:Below w.heap.size w ((((((w.alloc (.cells #[.func (.func wf) #[] #[]] 89)).alloc (.cells #[.slice none 0 0] 22)).alloc (.cells #[.int .i64 0] 29)).alloc (.cells #[.slice none 0 0] 97)).alloc (.cells #[.slice a1 n1 c1] 22)).alloc (.cells #[.slice a2 n2 c2] 22)):=(((((((Grew.refl w).alloc _ _).alloc _ _).alloc _ _).alloc _ _).alloc _ _).alloc _ _)
 have hsz:((((((w.alloc (.cells #[.func (.func wf) #[] #[]] 89)).alloc (.cells #[.slice none 0 0] 22)).alloc (.cells #[.int .i64 0] 29)).alloc (.cells #[.slice none 0 0] 97)).alloc (.cells #[.slice a1 n1 c1] 22)).alloc (.cells #[.slice a2 n2 c2] 22)).heap.size=w.heap.size+6:=by simp
 have k0:Blk ((((((w.alloc (.cells #[.func (.func wf) #[] #[]] 89)).alloc (.cells #[.slice none 0 0] 22)).alloc (.cells #[.int .i64 0] 29)).alloc (.cells #[.slice none 0 0] 97)).alloc (.cells #[.slice a1 n1 c1] 22)).alloc (.cells #[.slice a2 n2 c2] 22)) w.heap.size #[.func (.func wf) #[] #[]] 89:=(((((Blk.new w _ _).alloc _).alloc _).alloc _).alloc _).alloc _
 have k1:Blk ((((((w.alloc (.cells #[.func (.func wf) #[] #[]] 89)).alloc (.cells #[.slice none 0 0] 22)).alloc (.cells #[.int .i64 0] 29)).alloc (.cells #[.slice none 0 0] 97)).alloc (.cells #[.slice a1 n1 c1] 22)).alloc (.cells #[.slice a2 n2 c2] 22)) (w.heap.size+1) #[.slice none 0 0] 22:=by
  have h:=((((Blk.new (w.alloc (.cells #[.func (.func wf) #[] #[]] 89)) #[.slice none 0 0] 22).alloc (.cells #[.int .i64 0] 29)).alloc (.cells #[.slice none 0 0] 97)).alloc (.cells #[.slice a1 n1 c1] 22)).alloc (.cells #[.slice a2 n2 c2] 22)
  rwa [World.size_alloc] at h
 have k2:Blk ((((((w.alloc (.cells #[.func (.func wf) #[] #[]] 89)).alloc (.cells #[.slice none 0 0] 22)).alloc (.cells #[.int .i64 0] 29)).alloc (.cells #[.slice none 0 0] 97)).alloc (.cells #[.slice a1 n1 c1] 22)).alloc (.cells #[.slice a2 n2 c2] 22)) (w.heap.size+1+1) #[.int .i64 0] 29:=by
  have h:=(((Blk.new ((w.alloc (.cells #[.func (.func wf) #[] #[]] 89)).alloc (.cells #[.slice none 0 0] 22)) #[.int .i64 0] 29).alloc (.cells #[.slice none 0 0] 97)).alloc (.cells #[.slice a1 n1 c1] 22)).alloc (.cells #[.slice a2 n2 c2] 22)
  rwa [World.size_alloc,World.size_alloc] at h
 have k3:Blk ((((((w.alloc (.cells #[.func (.func wf) #[] #[]] 89)).alloc (.cells #[.slice none 0 0] 22)).alloc (.cells #[.int .i64 0] 29)).alloc (.cells #[.slice none 0 0] 97)).alloc (.cells #[.slice a1 n1 c1] 22)).alloc (.cells #[.slice a2 n2 c2] 22)) (w.heap.size+1+1+1) #[.slice none 0 0] 97:=by
  have h:=((Blk.new (((w.alloc (.cells #[.func (.func wf) #[] #[]] 89)).alloc (.cells #[.slice none 0 0] 22)).alloc (.cells #[.int .i64 0] 29)) #[.slice none 0 0] 97).alloc (.cells #[.slice a1 n1 c1] 22)).alloc (.cells #[.slice a2 n2 c2] 22)
  rwa [World.size_alloc,World.size_alloc,World.size_alloc] at h
 have k4:Blk ((((((w.alloc (.cells #[.func (.func wf) #[] #[]] 89)).alloc (.cells #[.slice none 0 0] 22)).alloc (.cells #[.int .i64 0] 29)).alloc (.cells #[.slice none 0 0] 97)).alloc (.cells #[.slice a1 n1 c1] 22)).alloc (.cells #[.slice a2 n2 c2] 22)) (w.heap.size+1+1+1+1) #[.slice a1 n1 c1] 22:=by
  have h:=(Blk.new ((((w.alloc (.cells #[.func (.func wf) #[] #[]] 89)).alloc (.cells #[.slice none 0 0] 22)).alloc (.cells #[.int .i64 0] 29)).alloc (.cells #[.slice none 0 0] 97)) #[.slice a1 n1 c1] 22).alloc (.cells #[.slice a2 n2 c2] 22)
  rwa [World.size_alloc,World.size_alloc,World.size_alloc,World.size_alloc] at h
 have k5:Blk ((((((w.alloc (.cells #[.func (.func wf) #[] #[]] 89)).alloc (.cells #[.slice none 0 0] 22)).alloc (.cells #[.int .i64 0] 29)).alloc (.cells #[.slice none 0 0] 97)).alloc (.cells #[.slice a1 n1 c1] 22)).alloc (.cells #[.slice a2 n2 c2] 22)) (w.heap.size+1+1+1+1+1) #[.slice a2 n2 c2] 22:=by
  have h:=Blk.new (((((w.alloc (.cells #[.func (.func wf) #[] #[]] 89)).alloc (.cells #[.slice none 0 0] 22)).alloc (.cells #[.int .i64 0] 29)).alloc (.cells #[.slice none 0 0] 97)).alloc (.cells #[.slice a1 n1 c1] 22)) #[.slice a2 n2 c2] 22
  rwa [World.size_alloc,World.size_alloc,World.size_alloc,World.size_alloc,World.size_alloc] at h
 obtain ⟨W0,hW0⟩:∃ W0,((((((w.alloc (.cells #[.func (.func wf) #[] #[]] 89)).alloc (.cells #[.slice none 0 0] 22)).alloc (.cells #[.int .i64 0] 29)).alloc (.cells #[.slice none 0 0] 97)).alloc (.cells #[.slice a1 n1 c1] 22)).alloc (.cells #[.slice a2 n2 c2] 22))=W0:=⟨_,rfl⟩
 rw [hW0] at hL0 G0 hsz k0 k1 k2 k3 k4 k5 ⊢
 clear hW0 hL hW hU hX hPR
 have P0:Piled (w.heap.size+6) (w.heap.size+1+1+1) W0 W0 []:=⟨⟨_,[],Pile.nil _ _,k3,rfl⟩,Hl.Leaves.refl _ _ _,by omega,by omega⟩
 have K0:=Lib.hid k0
 have K1:=Lib.hid k1
 have K2:=Lib.hid k2
 have HG0:=Lib.hid G0
 refine wpIn_rangeFunc_ownH rfl (by omega) (gf:=132) (lb:=#[.pointer (some ⟨w.heap.size+1+1+1+1,0,none⟩),.pointer (some ⟨w.heap.size+1+1+1+1+1,0,none⟩)]) rfl trivial (enters_of Tryz.func132 (by kernel_rfl) rfl)
  (pairsP_stops 4 (by omega) (w.heap.size+1+1+1+1) (w.heap.size+1+1+1+1+1) (w.heap.size+6) (w.heap.size+1+1+1) a1 a2 n1 n2 c1 c2 U HU.out X (by omega) (by omega) W0 (by omega) (by omega) (by omega) k4.one.1 k5.one.1 hL0) KeptX.trans (fun W l o o' hl _ _ _ => KeptX.put W l o' (by omega)) (Below.refl _ _) (fun _ => rfl)
  (fun pre W => ((∃ c,GC (fun m => PR (m % (n1 * n2))) pre c∧Piled (w.heap.size+6) (w.heap.size+1+1+1) W0 W c)∧Below w.heap.size w W))
  (fun c pre W => (c=.ret∧(∃ m k,m < n1 * n2∧PE m k∧k ≠ 0∧Blk W (w.heap.size+1) #[.slice none 0 0] 22∧Blk W (w.heap.size+1+1) #[.int .i64 k] 29))∧Below w.heap.size w W)
  (OwnFrom.and (fun pre A B row hs hg hr => by
   obtain ⟨c,h1,h2⟩:=hs
   exact ⟨c,h1,h2.own hg (fun r e => by have h:=hr r e;rw [hsz] at h;exact h)⟩) (ownFrom_below (Nat.le_refl _) (by omega)))
  (fun c => OwnFrom.and (fun pre A B row hs hg hr => by
   obtain ⟨hc,m,k,h1,h2,h3,h4,h5⟩:=hs
   exact ⟨hc,m,k,h1,h2,h3,blk_own _ _ (fun _:Unit => #[.slice none 0 0]) () A B row h4 hg (fun r e => (hr r e).2),blk_own _ _ (fun _:Unit => #[.int .i64 k]) () A B row h5 hg (fun r e => (hr r e).2)⟩) (ownFrom_below (Nat.le_refl _) (by omega)))
  ⟨⟨[],GC.nil _,P0⟩,G0⟩
  (fun m a' W => a' = { tmps:=#[.slice a1 n1 c1,.slice a2 n2 c2,.func (.func wf) #[] #[],undef,undef,.pointer (some ⟨w.heap.size,0,none⟩),.pointer (some ⟨w.heap.size+1,0,none⟩),.pointer (some ⟨w.heap.size+1+1,0,none⟩),.pointer (some ⟨w.heap.size+1+1+1,0,none⟩),U ((m % (n1 * n2)) / n2),(X (m % n2)),undef,undef,undef,.slice a1 n1 c1,.slice a2 n2 c2,.func (.func 132) #[] #[.pointer (some ⟨w.heap.size+1+1+1+1,0,none⟩),.pointer (some ⟨w.heap.size+1+1+1+1+1,0,none⟩)],U ((m % (n1 * n2)) / n2),(X (m % n2)),undef,undef,undef,undef,undef,undef,undef,undef,undef,undef,undef,undef,undef,undef,undef],defers:=[] })
  (fun m a' _ X' Y row hs hg hr => by
   exact hs)
  ?assign ?body ?done ?stop
 case assign =>
  rintro l pre m W K ⟨⟨c,g1,g2⟩,gB⟩ hK
  have hz:=g2.big
  unfold prP
  obtain ⟨xa,xn,xc,hx⟩:=HX.out (m % n2)
  obtain ⟨ua,un,uc,hu⟩:=HU.out ((m % (n1 * n2)) / n2)
  rw [hx,hu]
  gi_wp2
  exact hK _ _ ((KeepsOthers.refl _).from _) (KeptX.refl _ _ W) ⟨⟨c,g1,g2⟩,gB⟩ (by rw [hx,hu])
 case body =>
  rintro l pre m a' W hl ⟨r0,hr0⟩ ⟨⟨c,g1,g2⟩,gB⟩ rfl hlt
  have hz:=g2.big
  have hm:(m % (n1 * n2)) < n1 * n2:=Nat.mod_lt _ (by omega)
  have CL:=Lib.hid (GC.all HPR.out g1)
  have LP:Hid (pre.length < 1024):=Lib.hid (by have:=TOT.out;omega)
  have GA:=Lib.hid g1
  have PI:=Lib.hid g2
  have HM:=Lib.hid hm
  have b0:=Lib.hid (g2.lv.blk K0.out (by omega) (by omega))
  have b1:=Lib.hid (g2.lv.blk K1.out (by omega) (by omega))
  have b2:=Lib.hid (g2.lv.blk K2.out (by omega) (by omega))
  have WC:Hid (CallsIn (Fence.wide.inRound l) 2 Tryz.prog wf #[U ((m % (n1 * n2)) / n2),(X (m % n2))] W (WhatSays w (PR (m % (n1 * n2))) (PE (m % (n1 * n2))) W)):=Lib.hid (CallsIn.inRound l (callsIn_wide.2 (by have h:=HW.out _ W hm gB;rwa [Nat.mod_mul_left_mod] at h)))
  have AC:Hid (∀ q v w1,Grew W w1→Vl q→Sl w1 v q→(∀ k,v.ownBlock=some k→k < w.heap.size∨W.heap.size≤k)→CallsIn (Fence.wide.inRound l) 2 Tryz.prog 66 #[.pointer (some ⟨w.heap.size+1+1+1,0,none⟩),v] w1 (PiledSays (w.heap.size+6) (w.heap.size+1+1+1) W0 w1 (c ++ [q]))):=Lib.hid (fun q v w1 hg hq hs hf => CallsIn.inRound l (callsIn_wide.2 (padd_c K.toCode _ _ W0 W w1 c q v PI.out hg hs hq CL.out.1 (by have:=CL.out.2;have:=LP.out;omega) (fun k e => by rcases hf k e with h | h <;> omega))))
  obtain ⟨f0,_⟩:=b0.out.one
  obtain ⟨r1,r2⟩:=b1.out.one
  obtain ⟨e1,e2⟩:=b2.out.one
  obtain ⟨xa,xn,xc,hx⟩:=HX.out (m % n2)
  rw [hx] at WC ⊢
  obtain ⟨ua,un,uc,hu⟩:=HU.out ((m % (n1 * n2)) / n2)
  rw [hu] at WC ⊢
  have lz:w.heap.size+6≤W.heap.size:=hz
  clear g1 g2 hm
  gi_wp2_with fail
  refine ⟨trivial,WC.out.mono ?_⟩
  rintro e w1 (⟨q,v,rfl,hp,hv,hs,hf,gw⟩ | ⟨v,rfl,hp,⟨va,vn,vc,rfl⟩,gw⟩ | ⟨v,b,k,rfl,hk,hp,⟨va,vn,vc,rfl⟩,gw⟩)
  ·have A1:=Lib.hid (AC.out q v w1 gw hv hs hf)
   have HP:=Lib.hid hp
   have GW:=Lib.hid gw
   obtain ⟨va,vc,rfl⟩:=hs.shape
   clear AC WC hp hv hs hf gw f0 r1 r2 e1 e2
   gi_wp2_with fail
   refine ⟨trivial,A1.out.mono ?_⟩
   rintro e w3 ⟨rfl,hp3,ko,lv⟩
   have P3:=Lib.hid hp3
   have KO:=Lib.hid ko
   have LV:=Lib.hid lv
   clear hp3 ko lv A1
   gi_wp2_with fail
   exact ⟨((Ct.keeps_grew GW.out).trans KO.out).from _,⟨Nat.le_trans GW.out.size LV.out.size,fun k h1 h2 => (LV.out.block k h1 h2).trans (GW.out.block k (by omega))⟩,⟨c ++ [q],GA.out.snoc HP.out,P3.out⟩,P3.out.lv.toGrew HG0.out (by omega) (by omega)⟩
  ·have HP:=Lib.hid hp
   have GW:=Lib.hid gw
   clear AC WC hp gw f0 r1 r2 e1 e2
   gi_wp2_with fail
   exact ⟨(Ct.keeps_grew GW.out).from _,⟨GW.out.size,fun k h1 h2 => GW.out.block k (by omega)⟩,⟨c,by have h:=GA.out.snoc HP.out;rwa [List.append_nil] at h,PI.out.grew GW.out⟩,gB.trans (GW.out.mono (by omega))⟩
  ·have HP:=Lib.hid hp
   have GW:=Lib.hid gw
   have HK:=Lib.hid hk
   have n1':(k == 0)=false:=beq_eq_false_iff_ne.2 hk
   have n2':(k != 0)=true:=by simp [hk]
   have b3:=b1.out.grown gw
   have b4:=b2.out.grown gw
   obtain ⟨r3,r4⟩:=b3.one
   obtain ⟨e3,e4⟩:=b4.one
   have B3:=Lib.hid b3
   have B4:=Lib.hid b4
   have lw1:w.heap.size+6≤w1.heap.size:=Nat.le_trans lz gw.size
   clear AC WC hp gw f0 r1 r2 e1 e2 b3 b4
   gi_wp2_with fail
   refine ⟨KeepsOthers.from (((Ct.keeps_grew GW.out).trans (KeepsOthers.setCell _ _ _)).trans (KeepsOthers.setCell _ _ _)) _,⟨rfl,_,k,HM.out,HP.out,HK.out,?_,?_⟩,?_⟩
   ·exact B3.out.put0.other (by omega) _
   ·exact (B4.out.other (by omega) _).put0
   ·exact ((gB.trans (GW.out.mono (by omega))).setCell (p:=⟨w.heap.size+1,0,none⟩) (by simp) _).setCell (p:=⟨w.heap.size+1+1,0,none⟩) (by simp;omega) _
 case done =>
  rintro D ys W hD rfl ⟨⟨c,g1,g2⟩,gB⟩ hK
  have CL:=GC.all HPR.out g1
  have CO:=Lib.hid (GC.col (P':=PR) (fun m r hm h => by rwa [Nat.mod_eq_of_lt hm] at h) g1)
  have TC:=Lib.hid (ptidied_c K _ _ W0 W c g2 CL.1 (by have h:=CL.2;rw [List.length_range] at h;have:=TOT.out;omega))
  have b1:=g2.lv.blk K1.out (by omega) (by omega)
  have b2:=g2.lv.blk K2.out (by omega) (by omega)
  have TN:Hid (CallsIn Fence.wide 4 Tryz.prog 67 #[.pointer (some ⟨w.heap.size+1+1+1,0,none⟩)] W fun e w' => ∃ r out,e=.returned r∧(Own W.heap.size w' r out∧VlR out)∧TidyIs c out∧Grew W w'):=Lib.hid (callsIn_wide.2 TC.out)
  have hDl:=(Array.getElem?_eq_some_iff.1 hK).1
  have hz:=g2.big
  clear CL g1 TC
  gi_wp2_with fail
  refine ⟨trivial,TN.out.mono ?_⟩
  rintro e w2 ⟨r,out,rfl,hr,ht,g3⟩
  have HR:=Lib.hid hr
  have HT:=Lib.hid ht
  have b3:=b1.grown g3
  have b4:=b2.grown g3
  have hK2:=(g3.block D hDl).trans hK
  obtain ⟨ra,rc,rfl⟩:=(own_rl hr).shape
  obtain ⟨r0,r1⟩:=b3.one
  obtain ⟨e0,e1⟩:=b4.one
  have G3:Hid (Below w.heap.size w w2):=Lib.hid (gB.trans (g3.mono (by omega)))
  clear hr ht
  gi_wp2_with fail
  have k3:Blk ((w2.setCell ⟨w.heap.size+1,0,none⟩ (.slice ra out.length rc)).setCell ⟨w.heap.size+1+1,0,none⟩ (.int .i64 0)) (w.heap.size+1) #[.slice ra out.length rc] 22:=b3.put0.other (by omega) _
  have k4:Blk ((w2.setCell ⟨w.heap.size+1,0,none⟩ (.slice ra out.length rc)).setCell ⟨w.heap.size+1+1,0,none⟩ (.int .i64 0)) (w.heap.size+1+1) #[.int .i64 0] 29:=(b4.other (by omega) _).put0
  have hK':=((KeepsOthers.setCell w2 ⟨w.heap.size+1,0,none⟩ (.slice ra out.length rc)).trans (KeepsOthers.setCell _ ⟨w.heap.size+1+1,0,none⟩ (.int .i64 0))).same D _ hK2 rfl
  refine ⟨by simp,.inl ⟨_,_,rfl,run_takeDeferred hK',?_⟩⟩
  have c3:=cell_kept k3.one.1 (grownBy_putObj' _ D (.deferred none)) (fun r e => by cases e;exact ⟨_,hK',rfl⟩)
  have c4:=cell_kept k4.one.1 (grownBy_putObj' _ D (.deferred none)) (fun r e => by cases e;exact ⟨_,hK',rfl⟩)
  have FIN:∀ Wf,Rl Wf (.slice ra out.length rc) out→Grew w Wf→MadeSays (n1 * n2) PR PE w (.returned (.tuple #[.slice ra out.length rc,.int .i64 0])) Wf:=fun Wf h1 h2 => Or.inr ⟨c,out,_,CO.out,HT.out,rfl,h1,h2⟩
  refine ⟨.tuple #[.slice ra out.length rc,.int .i64 0],?_,FIN _ ?_ (((G3.out.setCell (p:=⟨w.heap.size+1,0,none⟩) (by simp) _).setCell (p:=⟨w.heap.size+1+1,0,none⟩) (by simp;omega) _).trans (belowK_b (w:=w) (Nat.le_refl _) _ D _ _ (by omega) hK' rfl rfl))⟩
  ·simp [results,Tryz.results57,go_sem,c3,c4]
  ·have nb:∀ k,(Value.slice ra out.length rc).ownBlock=some k→W.heap.size≤k:=fun k e => (HR.out.1.block k e).1
   have o1:=HR.out.1.row_of (grownBy_setCell w2 (w.heap.size+1) 0 (.slice ra out.length rc)) (fun k e e2 => by cases e;have:=nb _ e2;omega) (fun u p h0 hs k e => by cases e;exact Sl.not_one hs h0 b3)
   have o2:=o1.row_of (grownBy_setCell _ (w.heap.size+1+1) 0 (.int .i64 0)) (fun k e e2 => by cases e;have:=nb _ e2;omega) (fun u p h0 hs k e => by cases e;exact Sl.not_one hs h0 (b4.other (by omega) _))
   have o3:=o2.row_of (grownBy_putObj' _ D (.deferred none)) (fun k e e2 => by
    cases e
    obtain ⟨cur,t,fr,hb,_⟩:=o2.hd D e2
    rw [hK'] at hb
    cases hb) (fun u p h0 hs k e e2 => by
    cases e
    have:=sl_cells hs h0 D _ e2 hK'
    cases this)
   exact own_rl ⟨o3,HR.out.2⟩
 case stop =>
  rintro D c pre W hD ⟨k,hk,rfl⟩ ⟨⟨rfl,m,j,h1,h2,h3,h4,h5⟩,gB⟩ hK
  gi_wp2
  refine ⟨by simp,.inl ⟨_,_,rfl,run_takeDeferred hK,?_⟩⟩
  have c3:=cell_kept h4.one.1 (grownBy_putObj' _ D (.deferred none)) (fun r e => by cases e;exact ⟨_,hK,rfl⟩)
  have c4:=cell_kept h5.one.1 (grownBy_putObj' _ D (.deferred none)) (fun r e => by cases e;exact ⟨_,hK,rfl⟩)
  refine ⟨.tuple #[.slice none 0 0,.int .i64 j],?_,Or.inl ⟨m,j,_,h1,h2,h3,rfl,rl_none _ _ _,gB.trans (belowK_b (w:=w) (Nat.le_refl _) W D _ _ (by have:=HG0.out.size;omega) hK rfl rfl)⟩⟩
  simp [results,Tryz.results57,go_sem,c3,c4]
end Rg
end Go.Proofs.YtbpgfenippiepaaGreatDoor
