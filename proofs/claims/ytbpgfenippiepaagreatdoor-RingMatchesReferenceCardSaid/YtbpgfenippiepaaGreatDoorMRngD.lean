/-
  The landed package ring: Ring.
-/
import Derived.Test.YtbpgfenippiepaaGreatDoorMMinkSeq
import Derived.Test.YtbpgfenippiepaaGreatDoorMRegL
namespace Go.Proofs.YtbpgfenippiepaaGreatDoor
open Go.RowKit Go.Shelf Hl
attribute [local go_sem] Oper.semAt_some
namespace Rn
open Rg (Rgn VlR AllV AnsR Rl nth TidP TidyIs After)
theorem sl_row {w w':World} {u:Value} {p:List Pt} {row:Option Nat} (h:Sl w u p) (g:w.grownBy w' row) (hr:∀ k,row=some k→∃ o:Obj,w.heap[k]? = some o∧o.isCells=false):Sl w' u p:=by
 obtain h | ⟨b,o,c,rfl,hb⟩:=h
 ·exact Or.inl h
 ·exact Or.inr ⟨b,o,c,rfl,Nat.lt_of_lt_of_le hb.1 g.size,fun i hi => ⟨cell_kept (hb.2 i hi).1 g hr,cell_kept (hb.2 i hi).2 g hr⟩⟩
theorem rl_row {w w':World} {v:Value} {L:Rgn} {row:Option Nat} (h:Rl w v L) (g:w.grownBy w' row) (hr:∀ k,row=some k→∃ o:Obj,w.heap[k]? = some o∧o.isCells=false):Rl w' v L:=by
 obtain ⟨h | ⟨b,o,c,rfl,hb,hR⟩,hd⟩:=h
 ·exact ⟨Or.inl h,hd⟩
 ·refine ⟨Or.inr ⟨b,o,c,rfl,Nat.lt_of_lt_of_le hb g.size,fun i hi => ?_⟩,hd⟩
  obtain ⟨u,e,s⟩:=hR i hi
  exact ⟨u,cell_kept e g hr,sl_row s g hr⟩
theorem own_row {B:Nat} {w w':World} {v:Value} {L:Rgn} {row:Option Nat} (h:Rg.Own B w v L) (g:w.grownBy w' row) (hr:∀ k,row=some k→∃ o:Obj,w.heap[k]? = some o∧o.isCells=false):Rg.Own B w' v L :=
 h.row_of g (fun k e e2 => by
  obtain ⟨o,ho,hc⟩:=hr k e
  obtain ⟨cur,t,fr,hb,_⟩:=h.hd k e2
  rw [hb] at ho
  cases ho
  cases hc) (fun u p h0 hs k e e2 => by
  obtain ⟨o,ho,hc⟩:=hr k e
  rw [Rg.sl_cells hs h0 k o e2 ho] at hc
  cases hc)
theorem blk_row {w w':World} {b:Nat} {cs:Array Value} {t:TypeId} {row:Option Nat} (h:Blk w b cs t) (g:w.grownBy w' row) (hr:∀ k,row=some k→∃ o:Obj,w.heap[k]? = some o∧o.isCells=false):Blk w' b cs t :=
 h.kept g (fun e => by
  obtain ⟨o,ho,hc⟩:=hr b e.symm
  rw [show w.heap[b]? = _ from h] at ho
  cases ho
  cases hc)
theorem lv_put {B A:Nat} (W:World) (l:Nat) (o o':Obj) (hl:B≤l) (ho:W.heap[l]? = some o):Hl.Leaves B A W (W.putObj l o') :=
 (Hl.Leaves.refl B A W).grown (grownBy_putObj' W l o') (by have:=(Array.getElem?_eq_some_iff.1 ho).1;omega) (fun k e => by cases e;exact Or.inl hl)
theorem wplIn_app {l n:Nat} {ops:Array Oper} {rest:List Oper} {o:Oper} {a:Act} {Q:Exit→Act→World→Prop} (w:World) (hgd:o.guard=none) (s x:Operand)
  (ho:o.op=.call { callee:=.builtin .append,args:=#[s,x],argTypes:=#[22,22] }) (B:Nat) (v u:Value) (L M:Rgn)
  (hs:a.eval s=v) (hown:Rg.Own B w v L) (hx:a.eval x=u) (hu:Rl w u M) (hf:∀ p,p ∈ M→0 < p.length) (hl:L.length+M.length≤4000000) (hB:B≤w.heap.size)
  (h:∀ v' w',After B w v' w' (L ++ M)→w.grownBy w' v.ownBlock→wpListIn (Fence.wide.inRound l) n Tryz.prog ops Q rest (a.put o.dst v') w'):wpListIn (Fence.wide.inRound l) n Tryz.prog ops Q (o :: rest) a w :=
 wpListIn_plain hgd fun _ hK => Bar.op_round (by rw [ho];intro c hc;cases hc) (Rg.wp_app3 w s x ho B v u L M hs hown hx hu hf hl hB fun v' w' h2 h3 => hK _ _ (h v' w' h2 h3))
def Secs (x:Pt) (lo hi:Int) (n:Nat) (L:Rgn):Prop:=L.length=n∧∀ i,i < n→∃ q,Sec i lo hi q∧nth L i=Mk.shift q x∧Plcs (Mk.shift q x)
theorem Secs.next {x:Pt} {lo hi:Int} {n:Nat} {L:Rgn} {q:List Pt} (h:Secs x lo hi n L) (hq:Sec n lo hi q) (hp:Plcs (Mk.shift q x)):Secs x lo hi (n+1) (L ++ [Mk.shift q x]):=by
 refine ⟨by rw [List.length_append,h.1];rfl,fun i hi' => ?_⟩
 by_cases e:i < n
 ·obtain ⟨q',a,b,c⟩:=h.2 i e
  refine ⟨q',a,?_,c⟩
  rw [← b]
  unfold nth
  simp [List.getD,List.getElem?_append_left (show i < L.length by rw [h.1];exact e)]
 ·obtain rfl:i=n:=by omega
  refine ⟨q,hq,?_,hp⟩
  unfold nth
  simp [List.getD,h.1]
def RetS (x:Pt) (lo hi:Int) (s:Nat) (w W:World):Prop:=(∃ k,k ≠ 0∧RingP x lo hi k []∧Blk W (s+1+1) #[.slice none 0 0] 22∧Blk W (s+1+1+1) #[.int .i64 k] 29)∧Below w.heap.size w W
def InS (x:Pt) (lo hi:Int) (s:Nat) (W0:World) (pre:List El) (W:World):Prop:=(∃ v L,Secs x lo hi pre.length L∧Rg.Own (s+1+1+1+1+1+1) W v L∧Blk W (s+1+1+1+1) #[v] 22)∧(0 < pre.length→Plc x∧Dst lo hi)∧Hl.Leaves (s+1+1+1+1+1+1) (s+1+1+1+1) W0 W
theorem InS.row {x:Pt} {lo hi:Int} {s:Nat} {W0:World} (hs:W0.heap.size=s+1+1+1+1+1+1):OwnFrom W0.heap.size (InS x lo hi s W0):=fun pre X Y row h g hr => by
 obtain ⟨⟨v,L,h1,h2,h3⟩,h4,h5⟩:=h
 exact ⟨⟨v,L,h1,own_row h2 g (fun k e => (hr k e).2),blk_row h3 g (fun k e => (hr k e).2)⟩,h4,h5.grown g (by have:=h5.size;omega) (fun k e => Or.inl (by have:=(hr k e).1;omega))⟩
theorem RetS.row {x:Pt} {lo hi:Int} {s:Nat} {w W0:World} (hs:w.heap.size≤W0.heap.size):OwnFrom W0.heap.size (fun (_:List El) W => RetS x lo hi s w W):=fun pre X Y row h g hr => by
 obtain ⟨⟨k,h1,h2,h3,h4⟩,h5⟩:=h
 exact ⟨⟨k,h1,h2,blk_row h3 g (fun k e => (hr k e).2),blk_row h4 g (fun k e => (hr k e).2)⟩,h5.grown g h5.size (fun k e => Nat.le_trans hs (hr k e).1)⟩
theorem shf_ok {q r:List Pt} {x:Pt} (h:Mk.ShfIs q x 0 r):Plc x∧Plcs (Mk.shift q x)∧r=Mk.shift q x:=by
 rcases h with ⟨_,e,_⟩ | ⟨b,⟨_,e,_⟩ | ⟨p,_,e⟩⟩
 ·cases e
 ·cases e
 ·exact ⟨b.2,p,e⟩
theorem shf_no {q r:List Pt} {x:Pt} {i:Nat} {lo hi k:Int} (hd:Dst lo hi) (hi':i < 32) (hq:Sec i lo hi q) (hv:Vl q) (hk:k ≠ 0) (h:Mk.ShfIs q x k r):RingP x lo hi k []:=by
 rcases h with ⟨b,rfl,_⟩ | ⟨b,⟨p,rfl,_⟩ | ⟨_,e,_⟩⟩
 ·exact Or.inl ⟨fun g => b ⟨hv,g.1⟩,rfl,rfl⟩
 ·exact Or.inr ⟨⟨b.2,hd⟩,Or.inl ⟨⟨i,q,hi',hq,p⟩,rfl,rfl⟩⟩
 ·exact absurd e hk
theorem sec_vl {i:Nat} {lo hi:Int} {q:List Pt} (hd:Dst lo hi) (hi':i < 32) (hq:Sec i lo hi q):Vl q:=by
 refine vl_of hq.1 (sec_len hd hi' hq) (plcs_of fun y hy => ?_)
 have:=Ry.sec_bd hd.1 hd.2.1 (b:=200000) (by have:=hd.2.2;omega) (hq.2.1 y hy)
 unfold Plc
 omega
set_option maxRecDepth 100000 in
set_option maxHeartbeats 8000000 in
theorem ring_c {T:World→Prop} (N:Nd T) (x:Pt) (lo hi:Int) (w:World) (hT:T w):Calls Tryz.prog 11 #[.agg #[.int .i64 x.1,.int .i64 x.2],.agg #[.int .i64 lo,.int .i64 hi]] w (AnsR (RingP x lo hi) w):=by
 have SHC:=Lib.hid N.shift
 have TDC:=Lib.hid N.tidy
 refine (callsIn_wide (n:=5)).1 ?_
 refine callsIn_of_wp_marks Tryz.func11 rfl trivial ?_ rfl
 simp only [Tryz.ntmps11,List.size_toArray,List.length_cons,List.length_nil,Nat.reduceAdd,Nat.reduceSub,Array.replicate_succ,Array.replicate_zero,List.push_toArray,List.append_toArray,List.nil_append,List.cons_append]
 gi_wp2_with fail
 refine ⟨trivial,(sectors_in 4 _ _ _).mono ?_⟩
 rintro e w2 ⟨rfl,rfl⟩
 gi_wp2_with fail
 have G0:Grew w ((((((w.alloc (.cells #[.int .i64 x.1,.int .i64 x.2] 24)).alloc (.cells #[.int .i64 lo,.int .i64 hi] 26)).alloc (.cells #[.slice none 0 0] 22)).alloc (.cells #[.int .i64 0] 29)).alloc (.cells #[.slice none 0 0] 22)).alloc (.cells #[.int .i64 lo,.int .i64 hi] 26)):=((((((Grew.refl w).alloc _ _).alloc _ _).alloc _ _).alloc _ _).alloc _ _).alloc _ _
 have hsz:((((((w.alloc (.cells #[.int .i64 x.1,.int .i64 x.2] 24)).alloc (.cells #[.int .i64 lo,.int .i64 hi] 26)).alloc (.cells #[.slice none 0 0] 22)).alloc (.cells #[.int .i64 0] 29)).alloc (.cells #[.slice none 0 0] 22)).alloc (.cells #[.int .i64 lo,.int .i64 hi] 26)).heap.size=w.heap.size+1+1+1+1+1+1:=by simp
 have k0:Blk ((((((w.alloc (.cells #[.int .i64 x.1,.int .i64 x.2] 24)).alloc (.cells #[.int .i64 lo,.int .i64 hi] 26)).alloc (.cells #[.slice none 0 0] 22)).alloc (.cells #[.int .i64 0] 29)).alloc (.cells #[.slice none 0 0] 22)).alloc (.cells #[.int .i64 lo,.int .i64 hi] 26)) (w.heap.size) #[.int .i64 x.1,.int .i64 x.2] 24:=by
  have h:=((((((Blk.new w #[.int .i64 x.1,.int .i64 x.2] 24).alloc (.cells #[.int .i64 lo,.int .i64 hi] 26)).alloc (.cells #[.slice none 0 0] 22)).alloc (.cells #[.int .i64 0] 29)).alloc (.cells #[.slice none 0 0] 22)).alloc (.cells #[.int .i64 lo,.int .i64 hi] 26))
  exact h
 have k1:Blk ((((((w.alloc (.cells #[.int .i64 x.1,.int .i64 x.2] 24)).alloc (.cells #[.int .i64 lo,.int .i64 hi] 26)).alloc (.cells #[.slice none 0 0] 22)).alloc (.cells #[.int .i64 0] 29)).alloc (.cells #[.slice none 0 0] 22)).alloc (.cells #[.int .i64 lo,.int .i64 hi] 26)) (w.heap.size+1) #[.int .i64 lo,.int .i64 hi] 26:=by
  have h:=(((((Blk.new (w.alloc (.cells #[.int .i64 x.1,.int .i64 x.2] 24)) #[.int .i64 lo,.int .i64 hi] 26).alloc (.cells #[.slice none 0 0] 22)).alloc (.cells #[.int .i64 0] 29)).alloc (.cells #[.slice none 0 0] 22)).alloc (.cells #[.int .i64 lo,.int .i64 hi] 26))
  rwa [World.size_alloc] at h
 have k2:Blk ((((((w.alloc (.cells #[.int .i64 x.1,.int .i64 x.2] 24)).alloc (.cells #[.int .i64 lo,.int .i64 hi] 26)).alloc (.cells #[.slice none 0 0] 22)).alloc (.cells #[.int .i64 0] 29)).alloc (.cells #[.slice none 0 0] 22)).alloc (.cells #[.int .i64 lo,.int .i64 hi] 26)) (w.heap.size+1+1) #[.slice none 0 0] 22:=by
  have h:=((((Blk.new ((w.alloc (.cells #[.int .i64 x.1,.int .i64 x.2] 24)).alloc (.cells #[.int .i64 lo,.int .i64 hi] 26)) #[.slice none 0 0] 22).alloc (.cells #[.int .i64 0] 29)).alloc (.cells #[.slice none 0 0] 22)).alloc (.cells #[.int .i64 lo,.int .i64 hi] 26))
  rwa [World.size_alloc,World.size_alloc] at h
 have k3:Blk ((((((w.alloc (.cells #[.int .i64 x.1,.int .i64 x.2] 24)).alloc (.cells #[.int .i64 lo,.int .i64 hi] 26)).alloc (.cells #[.slice none 0 0] 22)).alloc (.cells #[.int .i64 0] 29)).alloc (.cells #[.slice none 0 0] 22)).alloc (.cells #[.int .i64 lo,.int .i64 hi] 26)) (w.heap.size+1+1+1) #[.int .i64 0] 29:=by
  have h:=(((Blk.new (((w.alloc (.cells #[.int .i64 x.1,.int .i64 x.2] 24)).alloc (.cells #[.int .i64 lo,.int .i64 hi] 26)).alloc (.cells #[.slice none 0 0] 22)) #[.int .i64 0] 29).alloc (.cells #[.slice none 0 0] 22)).alloc (.cells #[.int .i64 lo,.int .i64 hi] 26))
  rwa [World.size_alloc,World.size_alloc,World.size_alloc] at h
 have k4:Blk ((((((w.alloc (.cells #[.int .i64 x.1,.int .i64 x.2] 24)).alloc (.cells #[.int .i64 lo,.int .i64 hi] 26)).alloc (.cells #[.slice none 0 0] 22)).alloc (.cells #[.int .i64 0] 29)).alloc (.cells #[.slice none 0 0] 22)).alloc (.cells #[.int .i64 lo,.int .i64 hi] 26)) (w.heap.size+1+1+1+1) #[.slice none 0 0] 22:=by
  have h:=((Blk.new ((((w.alloc (.cells #[.int .i64 x.1,.int .i64 x.2] 24)).alloc (.cells #[.int .i64 lo,.int .i64 hi] 26)).alloc (.cells #[.slice none 0 0] 22)).alloc (.cells #[.int .i64 0] 29)) #[.slice none 0 0] 22).alloc (.cells #[.int .i64 lo,.int .i64 hi] 26))
  rwa [World.size_alloc,World.size_alloc,World.size_alloc,World.size_alloc] at h
 have k5:Blk ((((((w.alloc (.cells #[.int .i64 x.1,.int .i64 x.2] 24)).alloc (.cells #[.int .i64 lo,.int .i64 hi] 26)).alloc (.cells #[.slice none 0 0] 22)).alloc (.cells #[.int .i64 0] 29)).alloc (.cells #[.slice none 0 0] 22)).alloc (.cells #[.int .i64 lo,.int .i64 hi] 26)) (w.heap.size+1+1+1+1+1) #[.int .i64 lo,.int .i64 hi] 26:=by
  have h:=(Blk.new (((((w.alloc (.cells #[.int .i64 x.1,.int .i64 x.2] 24)).alloc (.cells #[.int .i64 lo,.int .i64 hi] 26)).alloc (.cells #[.slice none 0 0] 22)).alloc (.cells #[.int .i64 0] 29)).alloc (.cells #[.slice none 0 0] 22)) #[.int .i64 lo,.int .i64 hi] 26)
  rwa [World.size_alloc,World.size_alloc,World.size_alloc,World.size_alloc,World.size_alloc] at h
 obtain ⟨W0,hW0⟩:∃ W0,((((((w.alloc (.cells #[.int .i64 x.1,.int .i64 x.2] 24)).alloc (.cells #[.int .i64 lo,.int .i64 hi] 26)).alloc (.cells #[.slice none 0 0] 22)).alloc (.cells #[.int .i64 0] 29)).alloc (.cells #[.slice none 0 0] 22)).alloc (.cells #[.int .i64 lo,.int .i64 hi] 26))=W0:=⟨_,rfl⟩
 rw [hW0] at G0 hsz k0 k1 k2 k3 k4 k5 ⊢
 clear hW0
 have K0:=Lib.hid k0
 have K2:=Lib.hid k2
 have K3:=Lib.hid k3
 have HG0:=Lib.hid G0
 have HSZ:=Lib.hid hsz
 refine Rq.range_rets rfl (by omega) (gf:=60) (lb:=#[.pointer (some ⟨w.heap.size+1+1+1+1+1,0,none⟩)]) rfl trivial (enters_of Tryz.func60 (by kernel_rfl) rfl)
  (sectors_runs N 4 (by omega) (w.heap.size+1+1+1+1+1) (w.heap.size+1+1+1+1+1+1) (w.heap.size+1+1+1+1) lo hi w W0 hT G0 ⟨by omega,by omega⟩ (by omega) ⟨by omega,by omega⟩ k5.two.1) (fun h k => h.trans k) (fun W l o o' hl ho _ => lv_put W l o o' (by omega) ho) (Below.refl _ _) (fun _ => rfl)
  (InS x lo hi w.heap.size W0) (fun _ W => RetS x lo hi w.heap.size w W) (InS.row hsz) (RetS.row (by omega))
  ⟨⟨_,[],⟨rfl,fun i hi => absurd hi (Nat.not_lt_zero _)⟩,Rg.Own.nil _ _,k4⟩,fun h => absurd h (Nat.lt_irrefl _),Hl.Leaves.refl _ _ _⟩
  (fun pre y a' W => OkS lo hi pre y W∧a' = { tmps:=#[.agg #[.int .i64 x.1,.int .i64 x.2],.agg #[.int .i64 lo,.int .i64 hi],.pointer (some ⟨w.heap.size,0,none⟩),.pointer (some ⟨w.heap.size+1,0,none⟩),.pointer (some ⟨w.heap.size+1+1,0,none⟩),.pointer (some ⟨w.heap.size+1+1+1,0,none⟩),.pointer (some ⟨w.heap.size+1+1+1+1,0,none⟩),y.1,.int .i64 y.2.1,.agg #[.int .i64 lo,.int .i64 hi],.func (.func 60) #[] #[.pointer (some ⟨w.heap.size+1+1+1+1+1,0,none⟩)],y.1,.int .i64 y.2.1,undef,undef,undef,undef,undef,undef,undef,undef,undef,undef,undef,undef,undef,undef,undef,undef,undef,undef,undef],defers:=[] })
  (fun pre y a' _ X Y row hs hg hr => ⟨⟨hs.1.1,sl_row hs.1.2.1 hg (fun k e => (hr k e).2),hs.1.2.2⟩,hs.2⟩)
  ?assign ?body ?done ?stop
 case assign =>
  rintro l pre y W K hI hO hK
  unfold encS
  gi_wp2
  exact hK _ _ (KeepsOthers.from (KeepsOthers.refl _) _) (Hl.Leaves.refl _ _ _) hI ⟨hO,rfl⟩
 case body =>
  rintro l pre ⟨xv,xk,xq⟩ a' W hl ⟨⟨v,L,hS,ho,hb⟩,hp,lv⟩ ⟨⟨p32,hs,hd⟩,rfl⟩
  have hz:w.heap.size+1+1+1+1+1+1≤W.heap.size:=by have:=lv.size;omega
  have b0:=Lib.hid (lv.blk K0.out (by omega) (by omega))
  have b2:=Lib.hid (lv.blk K2.out (by omega) (by omega))
  have b3:=Lib.hid (lv.blk K3.out (by omega) (by omega))
  have GB:Hid (Below w.heap.size w W):=Lib.hid (lv.toGrew HG0.out (by omega) (by omega))
  obtain ⟨r0,r1⟩:=b2.out.one
  obtain ⟨e0,e1⟩:=b3.out.one
  simp only at hs hd ⊢
  rcases hd with ⟨hd,rfl,hq,h64⟩ | ⟨hd,rfl,rfl⟩
  ·have HV:Hid (Vl xq):=Lib.hid (sec_vl hd p32 hq)
   have HQ:=Lib.hid hq
   have HD:=Lib.hid hd
   have HS:=Lib.hid hS
   have HO:=Lib.hid ho
   have HB:=Lib.hid hb
   have LV:=Lib.hid lv
   have P32:=Lib.hid p32
   have SH:Hid (CallsIn (Fence.wide.inRound l) 2 Tryz.prog 31 #[xv,.agg #[.int .i64 x.1,.int .i64 x.2]] W (Mk.Ans (Mk.ShfIs xq x) W)):=Lib.hid (CallsIn.inRound l (callsIn_wide.2 (SHC.out xq x xv W hs (by omega))))
   obtain ⟨xa,xc,rfl⟩:=hs.shape
   obtain ⟨⟨x0,x1⟩,_,_⟩:=b0.out.two
   obtain ⟨va,vn,vc,rfl⟩:=Rg.rown_shape ho
   clear hs hq hd hS ho hb lv p32 hp h64 r0 r1 e0 e1
   gi_wp2_with fail
   refine ⟨trivial,SH.out.mono ?_⟩
   rintro e w1 ⟨v1,k1,q1,hsh,rfl,hs1,g1⟩
   have GW:=Lib.hid g1
   have z1:w.heap.size+1+1+1+1+1+1≤w1.heap.size:=Nat.le_trans hz g1.size
   by_cases hk:k1=0
   ·subst hk
    obtain ⟨hx,hpl,rfl⟩:=shf_ok hsh
    have HX:=Lib.hid hx
    have HP:=Lib.hid hpl
    have B1:=Lib.hid (HB.out.grown g1)
    have O1:=Lib.hid (HO.out.grew g1)
    obtain ⟨q0,q1'⟩:=B1.out.one
    have lB1:=B1.out.lt
    have Q0:Hid (0 < (Mk.shift xq x).length∧(Mk.shift xq x).length≤9223372036854775807):=Lib.hid (by rw [Mk.shift_len];have:=HV.out.1;omega)
    have S1:=Lib.hid hs1
    obtain ⟨sa,sn,sc,rfl,hsn⟩:∃ a n c,v1=.slice a n c∧n=(Mk.shift xq x).length:=by
     obtain ⟨a,c,e⟩:=hs1.shape
     exact ⟨a,_,c,e,rfl⟩
    have OL:Hid (L.length+1≤4000000):=Lib.hid (by have:=HS.out.1;have:=P32.out;omega)
    have ga:Hid (Grew w1 (w1.alloc (.cells #[.slice sa sn sc] 48))):=Lib.hid ((Grew.refl w1).alloc _ _)
    have KZ:Hid (w1.heap.size+1=(w1.alloc (.cells #[.slice sa sn sc] 48)).heap.size):=Lib.hid (by simp)
    clear hsh hs1 g1 hx hpl hsn SH b2 b3 b0 x0 x1
    gi_wp2_with (first | (gi_at_builtin;go_loud (refine wplIn_app _ rfl _ _ rfl (w.heap.size+1+1+1+1+1+1) (.slice va vn vc) (.slice (some ⟨w1.heap.size,0,none⟩) 1 1) L [Mk.shift xq x] rfl (O1.out.grew ga.out) rfl (Rg.one_rl S1.out Q0.out.2 1) (fun p hp => by rw [List.mem_singleton.1 hp];exact Q0.out.1) OL.out (by rw [← KZ.out];omega) ?_;intro v2 w3 af gr;have AF:=Lib.hid af;have GR3:=Lib.hid gr;have B3:Hid (Blk w3 (w.heap.size+1+1+1+1) #[.slice va vn vc] 22):=Lib.hid ((B1.out.grown ga.out).kept gr (fun e => by have:=(O1.out.block _ e.symm).1;omega));obtain ⟨c3,c4⟩:=B3.out.one;have l3:=B3.out.lt;obtain ⟨ua,un,uc,rfl⟩:=Rg.rown_shape af.own;clear af gr q0 q1' lB1)))
    have hlen:pre.length+1=(pre ++ [((Value.slice xa xq.length xc,0,xq):El)]).length:=by rw [List.length_append];rfl
    have nO:∀ k,(Value.slice va vn vc).ownBlock=some k→w.heap.size+1+1+1+1+1+1≤k:=fun k e => (O1.out.block k e).1
    have LV1:Hl.Leaves (w.heap.size+1+1+1+1+1+1) (w.heap.size+1+1+1+1) W w3:=(((Hl.Leaves.refl _ _ W).grew GW.out hz).grew ga.out z1).grown GR3.out (by rw [← KZ.out];omega) (fun k e => Or.inl (nO k e))
    have z3:w.heap.size+1+1+1+1+1+1≤w3.heap.size:=Nat.le_trans hz LV1.size
    refine ⟨(((Ct.keeps_grew GW.out).trans (Ct.keeps_grew ga.out)).trans ((KeepsOthers.of_grownBy GR3.out (fun j o e ho' => by
     obtain ⟨cur,tt,fr,hh,_⟩:=(O1.out.grew ga.out).hd j e
     rw [hh] at ho'
     cases ho'
     rfl)).trans (KeepsOthers.setCell _ _ _))).from _,LV1.grown (gb_set _ _ _ _) z3 (fun k e => by cases e;exact Or.inr rfl),⟨_,L ++ [Mk.shift xq x],by rw [← hlen];exact HS.out.next HQ.out HP.out,?_,B3.out.put0⟩,fun _ => ⟨HX.out,HD.out⟩,(LV.out.trans LV1).grown (gb_set _ _ _ _) z3 (fun k e => by cases e;exact Or.inr rfl)⟩
    exact AF.out.own.row_of (gb_set w3 (w.heap.size+1+1+1+1) 0 (.slice ua un uc)) (fun k e e2 => by cases e;have:=(AF.out.own.block _ e2).1;omega) (fun u p h0 hs k e => by cases e;exact Rg.Sl.not_one hs h0 B3.out)
   ·have HK:=Lib.hid hk
    have RP:Hid (RingP x lo hi k1 []):=Lib.hid (shf_no HD.out P32.out HQ.out HV.out hk hsh)
    have n1':(k1 == 0)=false:=beq_eq_false_iff_ne.2 hk
    have n2':(k1 != 0)=true:=by simp [hk]
    have b4:=b2.out.grown g1
    have b5:=b3.out.grown g1
    obtain ⟨r3,r4⟩:=b4.one
    obtain ⟨e3,e4⟩:=b5.one
    have B4:=Lib.hid b4
    have B5:=Lib.hid b5
    obtain ⟨sa,sc,rfl⟩:=hs1.shape
    clear hsh hs1 g1 SH b2 b3 b0 x0 x1 b4 b5 hk
    gi_wp2_with fail
    refine ⟨KeepsOthers.from (((Ct.keeps_grew GW.out).trans (KeepsOthers.setCell _ _ _)).trans (KeepsOthers.setCell _ _ _)) _,⟨k1,HK.out,RP.out,?_,?_⟩,?_⟩
    ·exact B4.out.put0.other (by omega) _
    ·exact (B5.out.other (by omega) _).put0
    ·exact ((GB.out.trans (GW.out.mono GB.out.size)).setCell (p:=⟨w.heap.size+1+1,0,none⟩) (by simp;omega) _).setCell (p:=⟨w.heap.size+1+1+1,0,none⟩) (by simp;omega) _
  ·have RP:Hid (RingP x lo hi 1 []):=Lib.hid (Or.inl ⟨fun g => hd g.2,rfl,rfl⟩)
   obtain ⟨xa,xc,rfl⟩:=hs.shape
   have lz:w.heap.size+1+1+1+1+1+1≤W.heap.size:=hz
   clear hs hd hS ho hb lv hp
   gi_wp2_with fail
   refine ⟨KeepsOthers.from ((KeepsOthers.setCell _ _ _).trans (KeepsOthers.setCell _ _ _)) _,⟨1,by decide,RP.out,?_,?_⟩,?_⟩
   ·exact b2.out.put0.other (by omega) _
   ·exact (b3.out.other (by omega) _).put0
   ·exact (GB.out.setCell (p:=⟨w.heap.size+1+1,0,none⟩) (by simp;omega) _).setCell (p:=⟨w.heap.size+1+1+1,0,none⟩) (by simp;omega) _
 case done =>
  rintro D ys W hD h32 ⟨⟨v,L,hS,ho,hb⟩,hp,lv⟩ hK
  obtain ⟨hx,hd⟩:=hp (by rw [h32];decide)
  rw [h32] at hS
  have RC:Hid (RingC x lo hi L):=Lib.hid hS
  have AV:Hid (AllV L):=Lib.hid (ring_vl hd hS)
  have XD:Hid (Plc x∧Dst lo hi):=Lib.hid ⟨hx,hd⟩
  have hz:w.heap.size+1+1+1+1+1+1≤W.heap.size:=by have:=lv.size;omega
  have TN:Hid (CallsIn Fence.wide 4 Tryz.prog 32 #[v] W (AnsR (TidP L) W)):=Lib.hid (callsIn_wide.2 (TDC.out L v W (ho.rl (AV.out.bd (by rw [hS.1];decide)))))
  have b2:=Lib.hid (lv.blk K2.out (by omega) (by omega))
  have b3:=Lib.hid (lv.blk K3.out (by omega) (by omega))
  have GB:Hid (Below w.heap.size w W):=Lib.hid (lv.toGrew HG0.out (by omega) (by omega))
  have hDl:=(Array.getElem?_eq_some_iff.1 hK).1
  obtain ⟨va,vn,vc,rfl⟩:=Rg.rown_shape ho
  obtain ⟨c3,_⟩:=hb.one
  have l3:=hb.lt
  clear hS ho hb lv hp hx hd
  gi_wp2_with fail
  refine ⟨trivial,TN.out.mono ?_⟩
  rintro e w2 ⟨r,k,out,hP,rfl,hr,g3⟩
  obtain ⟨rfl,ht⟩:k=0∧TidyIs L out:=by
   rcases hP with ⟨n,_⟩ | ⟨_,e,c,rfl,ht⟩
   ·exact absurd ⟨by rw [RC.out.1];decide,AV.out⟩ n
   ·exact ⟨e,ht⟩
  have HT:=Lib.hid ht
  have HR:=Lib.hid hr
  have hK2:=(g3.block D hDl).trans hK
  have b4:=b2.out.grown g3
  have b5:=b3.out.grown g3
  have G3:Hid (Below w.heap.size w w2):=Lib.hid (GB.out.trans (g3.mono GB.out.size))
  obtain ⟨ra,rc,rfl⟩:=hr.shape
  obtain ⟨r0,r1⟩:=b4.one
  obtain ⟨e0,e1⟩:=b5.one
  clear hP ht TN hr
  gi_wp2_with fail
  have k3':Blk ((w2.setCell ⟨w.heap.size+1+1,0,none⟩ (.slice ra out.length rc)).setCell ⟨w.heap.size+1+1+1,0,none⟩ (.int .i64 0)) (w.heap.size+1+1) #[.slice ra out.length rc] 22:=b4.put0.other (by omega) _
  have k4':Blk ((w2.setCell ⟨w.heap.size+1+1,0,none⟩ (.slice ra out.length rc)).setCell ⟨w.heap.size+1+1+1,0,none⟩ (.int .i64 0)) (w.heap.size+1+1+1) #[.int .i64 0] 29:=(b5.other (by omega) _).put0
  have hK':=((KeepsOthers.setCell w2 ⟨w.heap.size+1+1,0,none⟩ (.slice ra out.length rc)).trans (KeepsOthers.setCell _ ⟨w.heap.size+1+1+1,0,none⟩ (.int .i64 0))).same D _ hK2 rfl
  refine ⟨by simp,.inl ⟨_,_,rfl,run_takeDeferred hK',?_⟩⟩
  have c3':=cell_kept k3'.one.1 (grownBy_putObj' _ D (.deferred none)) (fun r e => by cases e;exact ⟨_,hK',rfl⟩)
  have c4':=cell_kept k4'.one.1 (grownBy_putObj' _ D (.deferred none)) (fun r e => by cases e;exact ⟨_,hK',rfl⟩)
  have PV:∀ p,p ∈ out→0 < p.length:=fun p hp => ((Rg.tidy_vl AV.out HT.out).2 p hp).1.1
  have apt1:∀ (W:World) (u:Value),(∀ p,0 < p.length→¬ Sl W u p)→Apt W #[u]:=fun W u hu => by
   refine ⟨fun j y p e hp => ?_,fun j a b e1 e2 => ?_⟩
   ·match j with
    | 0 => obtain rfl:u=y:=by simpa using e
           exact hu p hp
    | j+1 => simp at e
   ·simp at e2
  have R3:=rl_set (j:=0) (z:=.slice ra out.length rc) b4 (apt1 _ _ (fun p hp s => by
   obtain ⟨e,_⟩ | ⟨b,o,c,e,_⟩:=s
   ·rw [e] at hp;cases hp
   ·injection e with e1 e2
    rw [← e2] at hp
    cases hp)) HR.out PV
  have R4:=rl_set (j:=0) (z:=.int .i64 0) (b5.other (by omega) (.slice ra out.length rc)) (apt1 _ _ (fun p hp s => by
   obtain ⟨a,c,e⟩:=s.shape
   cases e)) R3 PV
  have R5:=rl_row R4 (grownBy_putObj' _ D (.deferred none)) (fun r e => by cases e;exact ⟨_,hK',rfl⟩)
  refine ⟨.tuple #[.slice ra out.length rc,.int .i64 0],?_,_,0,out,Or.inr ⟨XD.out,Or.inr ⟨rfl,L,RC.out,HT.out⟩⟩,rfl,R5,(((G3.out.setCell (p:=⟨w.heap.size+1+1,0,none⟩) (by simp;omega) _).setCell (p:=⟨w.heap.size+1+1+1,0,none⟩) (by simp;omega) _).trans (belowK_b (w:=w) (Nat.le_refl _) _ D _ _ (by omega) hK' rfl rfl))⟩
  simp [results,Tryz.results11,go_sem,c3',c4']
 case stop =>
  rintro D pre W hD ⟨⟨k,h1,h2,h3,h4⟩,h5⟩ hK
  gi_wp2
  refine ⟨by simp,.inl ⟨_,_,rfl,run_takeDeferred hK,?_⟩⟩
  have c3:=cell_kept h3.one.1 (grownBy_putObj' _ D (.deferred none)) (fun r e => by cases e;exact ⟨_,hK,rfl⟩)
  have c4:=cell_kept h4.one.1 (grownBy_putObj' _ D (.deferred none)) (fun r e => by cases e;exact ⟨_,hK,rfl⟩)
  refine ⟨.tuple #[.slice none 0 0,.int .i64 k],?_,_,k,[],h2,rfl,Rl.nil _ _ _,h5.trans (belowK_b (w:=w) (Nat.le_refl _) W D _ _ (by omega) hK rfl rfl)⟩
  simp [results,Tryz.results11,go_sem,c3,c4]
end Rn
end Go.Proofs.YtbpgfenippiepaaGreatDoor
