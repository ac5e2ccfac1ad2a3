/-
  The landed package region: a polygon more in a pile.
-/
import Derived.Test.YtbpgfenippiepaaGreatDoorRegD
import Derived.Test.YtbpgfenippiepaaGreatDoorHullCu
import Derived.Test.YtbpgfenippiepaaGreatDoorCutCb
namespace Go.Proofs.YtbpgfenippiepaaGreatDoor
open Go.RowKit Go.Shelf Go.Sort Hl
namespace Rg
theorem app_block {B:Nat} (ty:TypeId) (i0:TypeInfo) (z:Value) (hi:Tryz.prog.info? 134 = some i0) (hz0:i0.zero=some z) (hz1:i0.size=9) (hz2:i0.bytes=88)
  (w:World) (v:Value) (n:Nat) (us:List Value) (hown:w.ownsRow B 134 9 v n us)
  (a:Addr) (m c:Nat) (news:List Value) (hl:news.length=m * 9) (hnews:∀ (j:Nat) (u:Value),news[j]? = some u→w.cell? (a.add j)=some u) (h1:∀ u,u ∈ news→u.oneCell'=true) (hm:0 < m) (h63:n+m≤4000000)
  (v':Value) (w':World) (hr:(Builtin.append_ #[95,95] ty #[v,.slice (some a) m c]).run Tryz.prog w=.ok v' w'):v'.ownBlock=v.ownBlock∨v'.ownBlock=some w.heap.size:=by
 rcases hown.2 with ⟨rfl,rfl⟩ | ⟨g0,cap,cur,rfl,hbg,hg0,hnc,hcm,hcs,htake⟩
 ·have k:=run_append_nil (P:=Tryz.prog) w 95 ty 134 i0 _ Tryz.underlying95 hi hz0 a m c news (by rw [hz1,hl]) hnews hm (by omega) (by rw [hz2];omega)
  rw [hr] at k
  injection k with k1 k2
  subst k1
  exact Or.inr rfl
 ·have usl:us.length=n * 9:=hown.1
  by_cases hroom:n+m≤cap
  ·have k:=run_append_room (P:=Tryz.prog) w 95 ty 134 i0 Tryz.underlying95 hi g0 n cap cur hg0 a m c news (by rw [hz1,hl]) hnews h1 hroom (by rw [hz1,hl,hcs];omega)
   rw [hr] at k
   injection k with k1 k2
   subst k1
   exact Or.inl rfl
  ·have holds:∀ (j:Nat) (u:Value),us[j]? = some u→w.cell? ((⟨g0,0,none⟩:Addr).add j)=some u:=World.ownsRow.cells hown (g:=g0) rfl
   have k:=run_append_grow (P:=Tryz.prog) w 95 ty 134 i0 _ Tryz.underlying95 hi hz0 ⟨g0,0,none⟩ n cap us (by rw [hz1,usl]) holds a m c news (by rw [hz1,hl]) hnews (by omega) (by omega) (growslice_fits (by omega) (by rw [hz2];omega))
   rw [hr] at k
   injection k with k1 k2
   subst k1
   exact Or.inr rfl
theorem cell_add {b o j:Nat}:(⟨b,o,none⟩:Addr).add j=⟨b,o+j,none⟩:=by
 unfold Addr.add
 split
 ·rename_i e;subst e;rfl
 ·rfl
theorem leaves_by {N A:Nat} {w w' w2:World} {row:Option Nat} (h:Hl.Leaves N A w w') (g:w'.grownBy w2 row) (hN:N≤w'.heap.size) (hr:∀ k,row=some k→N≤k):Hl.Leaves N A w w2:=h.grown g hN (fun k e => Or.inl (hr k e))
theorem Pile.by {B:Nat} {w w':World} {v:Value} {Q:Pcs} {row:Option Nat} (h:Pile B w v Q) (g:w.grownBy w' row) (h1:v.ownBlock=none∨v.ownBlock ≠ row) (h2:∀ x,x ∈ Q→∀ k,row=some k→x.2.ownBlock ≠ some k):Pile B w' v Q :=
 ⟨h.own.keeps g h1,fun x hx => Sl.row_of (h.sl x hx) g (h2 x hx),h.vl,h.away⟩
theorem wp_app_pc {o:Oper} {a:Act} {K:Act→World→Prop} {Q:Exit→Act→World→Prop} (w:World) (s x:Operand)
  (ho:o.op=.call { callee:=.builtin .append,args:=#[s,x],argTypes:=#[95,95] }) (B:Nat) (v u:Value) (L:Pcs) (p:List Pt) (nb c:Nat)
  (hs:a.eval s=v) (hown:Pile B w v L) (hx:a.eval x=.slice (some ⟨nb,0,none⟩) 1 c) (hb:Blk w nb (pcA p u) 134) (hu:Sl w u p) (hp:Vl p) (far:∀ g,v.ownBlock=some g→u.ownBlock ≠ some g) (hl:L.length≤1000000) (hB:B≤w.heap.size)
  (h:∀ v' w',Pile B w' v' (L ++ [(p,u)])→w.grownBy w' v.ownBlock→K (a.put o.dst v') w'):o.wp Tryz.prog a w K Q:=by
 obtain ⟨i0,hi,hz0,hz1,hz2⟩:=info_parts info_pc
 have cells:∀ (j:Nat) (y:Value),(pcL (p,u))[j]? = some y→w.cell? ((⟨nb,0,none⟩:Addr).add j)=some y:=fun j y e => by
  rw [cell_add,Nat.zero_add]
  unfold pcL at e
  rw [Array.getElem?_toList] at e
  simp only [World.cell?,show w.heap[nb]? = _ from hb]
  exact e
 have one:∀ y,y ∈ pcL (p,u)→y.oneCell'=true:=fun y hy => by
  unfold pcL pcA at hy
  simp only [List.mem_cons,List.not_mem_nil,or_false] at hy
  obtain ⟨us,n,cc,rfl⟩:=hu.shape
  rcases hy with rfl | rfl | rfl | rfl | rfl | rfl | rfl | rfl | rfl <;> rfl
 obtain ⟨v',w',hr,h2,h3,_⟩:=run_append_own (P:=Tryz.prog) w B 95 o.type 134 i0 _ 9 88 Tryz.underlying95 hi hz0 hz1 hz2 rfl (by decide) v L.length (pcc L) hown.own ⟨nb,0,none⟩ 1 c (pcL (p,u)) rfl cells one (by unfold maxLen;omega) (by omega) hB
 have bk:=app_block o.type i0 _ hi hz0 hz1 hz2 w v L.length (pcc L) hown.own ⟨nb,0,none⟩ 1 c (pcL (p,u)) rfl cells one (by omega) (by omega) v' w' hr
 have lt:∀ (x:List Pt × Value),Sl w x.2 x.1→Vl x.1→x.2.ownBlock ≠ some w.heap.size:=fun x hx hv => by
  have h0:=hv.1.1
  obtain ⟨e,_⟩ | ⟨b,o,c,e,hr⟩:=hx
  ·rw [e] at h0;cases h0
  ·rw [e]
   intro e2
   have e3:some b=some w.heap.size:=e2
   injection e3 with e3
   have:=hr.1
   omega
 have aw:∀ x,x ∈ L ++ [(p,u)]→(∀ g,v.ownBlock=some g→x.2.ownBlock ≠ some g)∧Sl w x.2 x.1∧Vl x.1:=fun x hx => by
  rcases List.mem_append.1 hx with hx | hx
  ·exact ⟨hown.away x hx,hown.sl x hx,hown.vl x hx⟩
  ·rw [List.mem_singleton.1 hx]
   exact ⟨far,hu,hp⟩
 have fin:Pile B w' v' (L ++ [(p,u)]):=by
  refine ⟨?_,fun x hx => Sl.row_of (aw x hx).2.1 h3 (aw x hx).1,fun x hx => (aw x hx).2.2,fun x hx g e => ?_⟩
  ·unfold OwnP
   rw [pcc_append,List.length_append]
   exact h2
  ·rcases bk with k | k
   ·exact (aw x hx).1 g (by rw [← k];exact e)
   ·rw [k] at e
    cases e
    exact lt x (aw x hx).2.1 (aw x hx).2.2
 unfold Oper.wp execOp
 simp only [ho,resolve,invoke,builtin,Sem.run_bind,Sem.run_pure,Result.andThen_ok,List.map_toArray,List.map_cons,List.map_nil,hs,hx,hr]
 exact h v' w' fin h3
def addQ (Q:Pcs) (p:List Pt) (u:Value):Pcs:=if Inn (Q.map Prod.fst) p then Q else (Q.filter fun x => !decide (Lies x.1 p)) ++ [(p,u)]
theorem ownp_cells {B:Nat} {w:World} {v:Value} {Q:Pcs} (h:OwnP B w v Q) (j:Nat) (o:Obj) (e:v.ownBlock=some j) (ho:w.heap[j]? = some o):o.isCells=true:=by
 rcases h.2 with ⟨rfl,_⟩ | ⟨g,cap,cur,rfl,_,hg,_⟩
 ·cases e
 ·cases e
  rw [hg] at ho
  cases ho
  rfl
theorem inn_map {Q:Pcs} {p:List Pt}:Inn (Q.map Prod.fst) p↔∃ x,x ∈ Q∧Lies p x.1:=by
 constructor
 ·rintro ⟨q,hq,h⟩
  obtain ⟨x,hx,rfl⟩:=List.mem_map.1 hq
  exact ⟨x,hx,h⟩
 ·rintro ⟨x,hx,h⟩
  exact ⟨_,List.mem_map.2 ⟨x,hx,rfl⟩,h⟩
def AddSays (N A:Nat) (Q:Pcs) (p:List Pt) (u:Value) (w:World) (e:Ending) (w':World):Prop:=e=.returned (.tuple #[])∧∃ v',Pile N w' v' (addQ Q p u)∧Blk w' A #[v'] 97∧Hl.Leaves N A w w'∧KeepsOthers w w'
theorem add1_c (K:Hl.Code) (p q:List Pt) (u u':Value) (X:Nat) (w:World) (hb:Blk w X (pcA p u) 134) (hs:Sl w u p) (hs':Sl w u' q) (hp:Vl p) (hq:Vl q) :
  Calls Tryz.prog 109 #[.agg (pcA q u'),.pointer (some ⟨X,0,none⟩)] w fun e w' => e=.returned (.bool (decide (Lies q p)))∧Grew w w':=by
 have WC:=Lib.hid (fun W (g:Grew w W) => within_pc K q p u' u W (hs'.grown g) (hs.grown g) hq hp)
 have HX:=Lib.hid hb
 have lX:=hb.lt
 clear hs hs' hp hq K hb
 generalize decide (Lies q p)=r at WC ⊢
 obtain ⟨v0,v1,v2,v3,v4,v5,v6,v7,v8,e1⟩:∃ v0 v1 v2 v3 v4 v5 v6 v7 v8,pcA p u = #[v0,v1,v2,v3,v4,v5,v6,v7,v8]:=⟨_,_,_,_,_,_,_,_,_,rfl⟩
 obtain ⟨y0,y1,y2,y3,y4,y5,y6,y7,y8,e2⟩:∃ v0 v1 v2 v3 v4 v5 v6 v7 v8,pcA q u' = #[v0,v1,v2,v3,v4,v5,v6,v7,v8]:=⟨_,_,_,_,_,_,_,_,_,rfl⟩
 rw [e1] at WC HX
 rw [e2] at WC ⊢
 clear e1 e2
 have lX1:X < w.heap.size+1:=by omega
 obtain ⟨⟨x0,x1,x2,x3⟩,⟨x4,x5,x6,x7⟩,x8⟩:=blk9 HX.out
 go_enter Tryz.func109,Tryz.ntmps109
 go_wp2_with fail
 refine (WC.out _ ((Grew.refl _).alloc _ _)).mono ?_
 rintro e w1 ⟨rfl,g1⟩
 have G1:Grew w w1:=Grew.trans ((Grew.refl _).alloc _ _) g1
 clear g1
 go_wp2_with fail
 go_ret
 exact ⟨rfl,G1⟩
set_option maxRecDepth 100000 in
set_option maxHeartbeats 8000000 in
theorem radd_c (K:Hl.Code) (N A:Nat) (Q:Pcs) (v:Value) (p:List Pt) (u:Value) (w:World) (hP:Pile N w v Q) (hA:Blk w A #[v] 97) (hAN:A < N) (hN:N≤w.heap.size) (hu:Sl w u p) (hp:Vl p) (far:∀ g,v.ownBlock=some g→u.ownBlock ≠ some g) (hl:Q.length≤4000) :
  Calls Tryz.prog 66 #[.pointer (some ⟨A,0,none⟩),u] w (AddSays N A Q p u w):=by
 obtain ⟨ua,uc,hush⟩:=hu.shape
 obtain ⟨un,hun⟩:∃ n,p.length=n:=⟨_,rfl⟩
 rw [hun] at hush
 subst hush
 have BC:=Lib.hid (fun W (g:Grew w W) => boundsOf_c K p (.slice ua un uc) W (hu.grown g) hp)
 obtain ⟨m0,m1,m2,m3,m4,m5,m6,m7,PE⟩:∃ m0 m1 m2 m3 m4 m5 m6 m7:Int,pcA p (.slice ua un uc) = #[.int .i64 m0,.int .i64 m1,.int .i64 m2,.int .i64 m3,.int .i64 m4,.int .i64 m5,.int .i64 m6,.int .i64 m7,.slice ua un uc]:=⟨_,_,_,_,_,_,_,_,rfl⟩
 have BC:Hid (∀ W,Grew w W→Calls Tryz.prog 105 #[.slice ua un uc] W fun e w' => e=.returned (.agg #[.int .i64 m0,.int .i64 m1,.int .i64 m2,.int .i64 m3,.int .i64 m4,.int .i64 m5,.int .i64 m6,.int .i64 m7])∧Grew W w'):=Lib.hid (fun W g => (BC.out W g).mono (by
  rintro e w' ⟨rfl,g⟩
  have PE':=PE
  unfold pcA at PE'
  injection PE' with PE'
  simp only [List.cons.injEq,Value.int.injEq,true_and,and_true] at PE'
  obtain ⟨e0,e1,e2,e3,e4,e5,e6,e7⟩:=PE'
  exact ⟨by rw [e0,e1,e2,e3,e4,e5,e6,e7],g⟩))
 have hsh:(v=.slice none 0 0∧Q=[])∨∃ g cap,v=.slice (some ⟨g,0,none⟩) Q.length cap∧OwnPAt N w g cap Q:=hP.own.shape
 have vb:=hP.own.block
 have CC:Hid (∀ W,Grew w W→Calls Tryz.prog 106 #[v,.func (.func 107) #[.agg #[.int .i64 m0,.int .i64 m1,.int .i64 m2,.int .i64 m3,.int .i64 m4,.int .i64 m5,.int .i64 m6,.int .i64 m7,.slice ua un uc]] #[]] W (Tells (Inn (Q.map Prod.fst) p) W)):=Lib.hid (fun W g => (contains_m 107 (.agg #[.int .i64 m0,.int .i64 m1,.int .i64 m2,.int .i64 m3,.int .i64 m4,.int .i64 m5,.int .i64 m6,.int .i64 m7,.slice ua un uc]) (enters_of Tryz.func107 (by kernel_rfl) rfl) (fun x => decide (Lies p x.1)) Q N v W (hP.own.grew g) (by omega) (fun x V hx gV => by
   rw [← PE]
   exact within_pc K p x.1 (.slice ua un uc) x.2 V (hu.grown (g.trans gV)) ((hP.sl x hx).grown (g.trans gV)) hp (hP.vl x hx))).mono (by
  rintro e w' ⟨r,rfl,h,g⟩
  refine ⟨r,rfl,h.trans ?_,g⟩
  rw [inn_map]
  constructor
  ·rintro ⟨x,hx,e⟩
   exact ⟨x,hx,of_decide_eq_true e⟩
  ·rintro ⟨x,hx,e⟩
   exact ⟨x,hx,decide_eq_true e⟩))
 have HDS:Hid (∀ x,x ∈ Q→IsHd x.2):=Lib.hid (fun x hx => by
  obtain ⟨a,c,e⟩:=(hP.sl x hx).shape
  exact ⟨_,_,_,e⟩)
 have DC:Hid (∀ X W,Grew w W→Blk W X #[.int .i64 m0,.int .i64 m1,.int .i64 m2,.int .i64 m3,.int .i64 m4,.int .i64 m5,.int .i64 m6,.int .i64 m7,.slice ua un uc] 134→(∀ g,v.ownBlock=some g→X ≠ g)→Calls Tryz.prog 108 #[v,.func (.func 109) #[] #[.pointer (some ⟨X,0,none⟩)]] W (DelPSays N v (Q.filter fun x => !decide (Lies x.1 p)) W)):=Lib.hid (fun X W g hX hne => by
  rcases hsh with ⟨rfl,rfl⟩ | ⟨g0,cap,rfl,ha⟩
  ·refine (delete_k0 _ ⟨_,_,_,rfl⟩ W).mono ?_
   rintro e w' ⟨rfl,rfl⟩
   exact ⟨_,rfl,rfl,OwnP.nil _ _,grownBy_refl _ _⟩
  ·refine delete_k 109 (.pointer (some ⟨X,0,none⟩)) (enters_of Tryz.func109 (by kernel_rfl) rfl) (fun x => decide (Lies x.1 p)) Q N g0 cap W (ha.grew g) (by omega) (fun x hx => HDS.out x hx) (fun x V hx gV => ?_)
   have k1:Blk V X #[.int .i64 m0,.int .i64 m1,.int .i64 m2,.int .i64 m3,.int .i64 m4,.int .i64 m5,.int .i64 m6,.int .i64 m7,.slice ua un uc] 134:=hX.kept gV (fun e => hne g0 rfl (by cases e;rfl))
   rw [← PE] at k1
   exact add1_c K p x.1 (.slice ua un uc) x.2 X V k1 (Sl.row_of (hu.grown g) gV (fun k e => by cases e;exact far g0 rfl)) (Sl.row_of ((hP.sl x hx).grown g) gV (fun k e => by cases e;exact hP.away x hx g0 rfl)) hp (hP.vl x hx))
 have HP:=Lib.hid hP
 have HU:=Lib.hid hu
 have FAR:=Lib.hid far
 have HPE:=Lib.hid PE
 have NOA:Hid ((Value.slice ua un uc).ownBlock ≠ some A∧∀ x,x ∈ Q→x.2.ownBlock ≠ some A):=Lib.hid ⟨Sl.not_one hu hp.1.1 hA,fun x hx => Sl.not_one (hP.sl x hx) (hP.vl x hx).1.1 hA⟩
 have HVP:=Lib.hid hp
 have HA:=Lib.hid hA
 have lA:A < w.heap.size:=by omega
 have NE:Hid (∀ g,v.ownBlock=some g→N≤g∧g < w.heap.size):=Lib.hid vb
 obtain ⟨a0,f0⟩:=hA.one
 have vs:∃ a n c,v=.slice a n c:=by
  rcases hsh with ⟨rfl,_⟩ | ⟨g0,cap,rfl,_⟩
  ·exact ⟨_,_,_,rfl⟩
  ·exact ⟨_,_,_,rfl⟩
 clear hP hu far PE K hp hsh vb hA
 go_enter Tryz.func66,Tryz.ntmps66
 go_wp2_with fail
 refine (BC.out _ (Grew.refl _)).mono ?_
 rintro e w1 ⟨rfl,g1⟩
 have A1:=HA.out.grown g1
 obtain ⟨b0,b1⟩:=A1.one
 have l1:=A1.lt
 have l1':A < w1.heap.size+1:=by omega
 have z1:=g1.size
 have X1:=Lib.hid (Blk.new w1 #[.int .i64 m0,.int .i64 m1,.int .i64 m2,.int .i64 m3,.int .i64 m4,.int .i64 m5,.int .i64 m6,.int .i64 m7,.slice ua un uc] 134)
 have G1:Grew w (w1.alloc (.cells #[.int .i64 m0,.int .i64 m1,.int .i64 m2,.int .i64 m3,.int .i64 m4,.int .i64 m5,.int .i64 m6,.int .i64 m7,.slice ua un uc] 134)):=g1.alloc _ _
 have HA1:=Lib.hid (A1.alloc (.cells #[.int .i64 m0,.int .i64 m1,.int .i64 m2,.int .i64 m3,.int .i64 m4,.int .i64 m5,.int .i64 m6,.int .i64 m7,.slice ua un uc] 134))
 clear BC g1 a0 f0 A1
 go_wp2_with fail
 go_region_held3 (fun w' => w'.cell? ⟨A,0,none⟩=some v∧((w'.cell? ⟨w1.heap.size,0,none⟩=some (.int .i64 m0)∧w'.cell? ⟨w1.heap.size,1,none⟩=some (.int .i64 m1)∧w'.cell? ⟨w1.heap.size,2,none⟩=some (.int .i64 m2)∧w'.cell? ⟨w1.heap.size,3,none⟩=some (.int .i64 m3))∧(w'.cell? ⟨w1.heap.size,4,none⟩=some (.int .i64 m4)∧w'.cell? ⟨w1.heap.size,5,none⟩=some (.int .i64 m5)∧w'.cell? ⟨w1.heap.size,6,none⟩=some (.int .i64 m6)∧w'.cell? ⟨w1.heap.size,7,none⟩=some (.int .i64 m7))∧w'.cell? ⟨w1.heap.size,8,none⟩=some (.slice ua un uc))) (simp [go_sem, *])
  ((go_at_call 106;refine (CC.out _ G1.drew).mono ?_;rintro e w2 ⟨r,rfl,hr,g2⟩;have R2:=Lib.hid hr;have A2:=HA1.out.drew.grown g2;have X2:=X1.out.drew.grown g2;obtain ⟨c0,c1⟩:=A2.one;obtain ⟨⟨x0,x1,x2,x3⟩,⟨x4,x5,x6,x7⟩,x8⟩:=blk9 X2;have G2:=Lib.hid (G1.drew.trans g2);have HA2:=Lib.hid A2;have HX2:=Lib.hid X2;have lA2:=A2.lt;have lX2:=X2.lt;clear hr A2 X2 g2))
 cases r
 ·have F:=Lib.hid (no_of R2.out)
  have NX:Hid (∀ g,v.ownBlock=some g→w1.heap.size ≠ g):=Lib.hid (fun g e h => by have:=(NE.out g e).2;omega)
  have D2:=Lib.hid (DC.out _ w2 G2.out HX2.out NX.out)
  have KO2:=Lib.hid (Ct.keeps_grew G2.out)
  have OC2:Hid (∀ j o,v.ownBlock=some j→w2.heap[j]? = some o→o.isCells=true):=Lib.hid (ownp_cells (HP.out.own.grew G2.out))
  have LV2:Hid (Hl.Leaves N A w w2):=Lib.hid ((Hl.Leaves.refl N A w).grew G2.out hN)
  have P2:Hid (∀ x,x ∈ Q→Sl w2 x.2 x.1):=Lib.hid (fun x hx => (HP.out.sl x hx).grown G2.out)
  have U2:=Lib.hid (HU.out.grown G2.out)
  clear R2 c0 c1 x0 x1 x2 x3 x4 x5 x6 x7 x8 CC DC b0 b1
  go_wp2_with fail
  refine D2.out.mono ?_
  rintro e w3 ⟨v',rfl,hb,ho,g3⟩
  have NA:Hid (some A ≠ v.ownBlock):=Lib.hid (fun e => by have:=(NE.out A e.symm).1;omega)
  have A3:=HA2.out.kept g3 NA.out
  have X3:=Lib.hid (HX2.out.kept g3 (fun e => NX.out _ e.symm rfl))
  obtain ⟨c0,c1⟩:=A3.one
  have z3:=g3.size
  have zA3:=A3.lt
  have LV3:Hid (Hl.Leaves N A w w3):=Lib.hid (leaves_by LV2.out g3 (by have:=LV2.out.size;omega) (fun k e => (NE.out k e).1))
  have P3:Hid (Pile N w3 v' (Q.filter fun x => !decide (Lies x.1 p))):=Lib.hid ⟨ho,fun x hx => Sl.row_of (P2.out x (List.mem_filter.1 hx).1) g3 (fun k e => HP.out.away x (List.mem_filter.1 hx).1 k e),fun x hx => HP.out.vl x (List.mem_filter.1 hx).1,fun x hx g e => HP.out.away x (List.mem_filter.1 hx).1 g (by rw [← hb];exact e)⟩
  have U3:Hid (Sl w3 (.slice ua un uc) p):=Lib.hid (Sl.row_of U2.out g3 (fun k e => FAR.out k e))
  have FAR3:Hid (∀ g,v'.ownBlock=some g→(Value.slice ua un uc).ownBlock ≠ some g):=Lib.hid (fun g e => FAR.out g (by rw [← hb];exact e))
  have VN:Hid (∀ k,v'.ownBlock=some k→N≤k):=Lib.hid (fun k e => (NE.out k (by rw [← hb];exact e)).1)
  have HA3:=Lib.hid A3
  have KO3:=Lib.hid (KO2.out.trans (KeepsOthers.of_grownBy g3 (fun j o e ho => OC2.out j o e ho)))
  obtain ⟨va,vn,vc,rfl⟩:∃ a n c,v'=.slice a n c:=by
   rcases ho.shape with ⟨e,_⟩ | ⟨g0,cap,e,_⟩
   ·exact ⟨_,_,_,e⟩
   ·exact ⟨_,_,_,e⟩
  clear hb ho g3 A3 P2 U2 LV2 D2
  go_wp2_with fail
  have A4:=HA3.out.put0 (v:=.slice va vn vc)
  have gA:w3.grownBy (w3.setCell ⟨A,0,none⟩ (.slice va vn vc)) (some A):=grownBy_setCell _ _ _ _
  have P4:Hid (Pile N (w3.setCell ⟨A,0,none⟩ (.slice va vn vc)) (.slice va vn vc) (Q.filter fun x => !decide (Lies x.1 p))):=Lib.hid (P3.out.by gA (Or.inr (fun e => by have:=VN.out A e;omega)) (fun x hx k e => by cases e;exact NOA.out.2 x (List.mem_filter.1 hx).1))
  have U4:Hid (Sl (w3.setCell ⟨A,0,none⟩ (.slice va vn vc)) (.slice ua un uc) p):=Lib.hid (Sl.row_of U3.out gA (fun k e => by cases e;exact NOA.out.1))
  have X4:=Lib.hid (X3.out.kept gA (fun e => by cases e;omega))
  have LV4:Hid (Hl.Leaves N A w (w3.setCell ⟨A,0,none⟩ (.slice va vn vc))):=Lib.hid (LV3.out.grown gA (by have:=LV3.out.size;omega) (fun k e => by cases e;exact Or.inr rfl))
  obtain ⟨⟨x0,x1,x2,x3⟩,⟨x4,x5,x6,x7⟩,x8⟩:=blk9 X4.out
  obtain ⟨d0,d1⟩:=A4.one
  have HA4:=Lib.hid A4
  have KO4:Hid (KeepsOthers w (w3.setCell ⟨A,0,none⟩ (.slice va vn vc))):=Lib.hid (KO3.out.trans (KeepsOthers.setCell _ _ _))
  have lX4:=X4.out.lt
  have lA4:=A4.lt
  have z4:=gA.size
  generalize w3.setCell ⟨A,0,none⟩ (.slice va vn vc)=w4 at *
  clear c0 c1 gA A4 P3 U3 X3 LV3 HA3
  generalize hX:w1.heap.size=X at *
  have lA5:A < w4.heap.size+1:=by omega
  have lX5:X < w4.heap.size+1:=by omega
  have nX:¬ A=X:=by omega
  refine Bar.begin_ (S:=(fun w' => w'.cell? ⟨A,0,none⟩=some (.slice va vn vc)∧((w'.cell? ⟨X,0,none⟩=some (.int .i64 m0)∧w'.cell? ⟨X,1,none⟩=some (.int .i64 m1)∧w'.cell? ⟨X,2,none⟩=some (.int .i64 m2)∧w'.cell? ⟨X,3,none⟩=some (.int .i64 m3))∧(w'.cell? ⟨X,4,none⟩=some (.int .i64 m4)∧w'.cell? ⟨X,5,none⟩=some (.int .i64 m5)∧w'.cell? ⟨X,6,none⟩=some (.int .i64 m6)∧w'.cell? ⟨X,7,none⟩=some (.int .i64 m7))∧w'.cell? ⟨X,8,none⟩=some (.slice ua un uc)))) 7 (by kernel_rfl) (by simp [go_sem, *]) (fun hHeld => ?_)
  refine Bar.Walk.takeY (i:=0) (oi:=⟨some 25,_,_,_,_,_⟩) (v:=?_) rfl (by kernel_rfl) (by kernel_rfl) (by kernel_rfl) rfl (fun _ _ _ h => h) (Or.inl ⟨by rfl,?_⟩) (by assumption) ?_
  rotate_left
  ·intro w;go_simp;(try with_reducible rfl)
  try simp only [Act.put,List.setIfInBounds_toArray,List.set_cons_zero,List.set_cons_succ]
  refine Bar.Walk.takeY (i:=1) (oi:=⟨some 26,_,_,_,_,_⟩) (v:=?_) rfl (by kernel_rfl) (by kernel_rfl) (by kernel_rfl) rfl (fun _ _ _ h => h) (Or.inl ⟨by rfl,?_⟩) (by assumption) ?_
  rotate_left
  ·intro w;go_simp;(try with_reducible rfl)
  try simp only [Act.put,List.setIfInBounds_toArray,List.set_cons_zero,List.set_cons_succ]
  refine Bar.Walk.takeY (i:=2) (oi:=⟨some 27,_,_,_,_,_⟩) (v:=?_) rfl (by kernel_rfl) (by kernel_rfl) (by kernel_rfl) rfl (fun _ _ _ h => h) (Or.inl ⟨by rfl,?_⟩) (by assumption) ?_
  rotate_left
  ·intro w;go_simp;(try with_reducible rfl)
  try simp only [Act.put,List.setIfInBounds_toArray,List.set_cons_zero,List.set_cons_succ]
  refine Bar.Walk.takeY (i:=3) (oi:=⟨some 28,_,_,_,_,_⟩) (v:=?_) rfl (by kernel_rfl) (by kernel_rfl) (by kernel_rfl) rfl (fun _ _ _ h => h) (Or.inl ⟨by rfl,?_⟩) (by assumption) ?_
  rotate_left
  ·intro w;go_simp;(try with_reducible rfl)
  try simp only [Act.put,List.setIfInBounds_toArray,List.set_cons_zero,List.set_cons_succ]
  refine Bar.Walk.take [7] (i:=4) (oi:=⟨some 29,_,_,_,_,_⟩) (v:=?_) rfl (by kernel_rfl) (by kernel_rfl) (by kernel_rfl) (by kernel_rfl) (fun _ _ _ h => h) (Or.inl ⟨by rfl,?_⟩) (by assumption) ?_
  rotate_left
  ·intro w hSw;(try dsimp only at hSw);go_simp;(try with_reducible rfl)
  try simp only [Act.put,List.setIfInBounds_toArray,List.set_cons_zero,List.set_cons_succ]
  refine Bar.Walk.take [7,6] (i:=5) (oi:=⟨some 30,_,_,_,_,_⟩) (v:=?_) rfl (by kernel_rfl) (by kernel_rfl) (by kernel_rfl) (by kernel_rfl) (fun _ _ _ h => h) (Or.inl ⟨by rfl,?_⟩) (by assumption) ?_
  rotate_left
  ·intro w hSw;(try dsimp only at hSw);go_simp;(try with_reducible rfl)
  try simp only [Act.put,List.setIfInBounds_toArray,List.set_cons_zero,List.set_cons_succ]
  refine Bar.Walk.step (i:=6) (o:=⟨some 31,_,_,_,_,_⟩) (by kernel_rfl) rfl (fun K hK => ?_)
  go_simp
  refine hK.out _ _ (by (try dsimp only);simp [go_sem, *]) (fun h1 => ?_)
  clear hK K hHeld
  have hHeld:=h1
  clear h1
  try simp only [Act.put,List.setIfInBounds_toArray,List.set_cons_zero,List.set_cons_succ]
  have gal:Grew w4 (w4.drew.alloc (.cells #[.int .i64 m0,.int .i64 m1,.int .i64 m2,.int .i64 m3,.int .i64 m4,.int .i64 m5,.int .i64 m6,.int .i64 m7,.slice ua un uc] 134)):=(Grew.refl w4).drew.alloc _ _
  refine Bar.Walk.pass (o:=⟨some 32,_,_,_,_,_⟩) (by kernel_rfl) rfl (by kernel_rfl) (fun K hK => ?_)
  rw [if_pos (by rfl)]
  refine wp_app_pc _ _ _ rfl N (.slice va vn vc) (.slice ua un uc) (Q.filter fun x => !decide (Lies x.1 p)) p w4.heap.size 1 rfl (P4.out.grew gal) rfl (by rw [HPE.out];exact Blk.new w4.drew _ _) (U4.out.grown gal) HVP.out FAR3.out (by have:=List.length_filter_le (fun x => !decide (Lies x.1 p)) Q;omega) (by have:=LV4.out.size;simp;omega) ?_
  intro v2 w5 p5 gr5
  obtain ⟨za,zn,zc,rfl⟩:∃ a n c,v2=.slice a n c:=by
   rcases p5.own.shape with ⟨e,_⟩ | ⟨g0,cap,e,_⟩
   ·exact ⟨_,_,_,e⟩
   ·exact ⟨_,_,_,e⟩
  have P5:=Lib.hid p5
  have KO5:=Lib.hid ((KO4.out.trans (Ct.keeps_grew gal)).trans (KeepsOthers.of_grownBy gr5 (fun j o e ho => ownp_cells (P4.out.grew gal).own j o e ho)))
  have nA:some A ≠ Value.ownBlock (.slice va vn vc):=fun e => by have:=VN.out A e.symm;omega
  have K5:=Lib.hid ((HA4.out.grown gal).kept gr5 nA)
  have LV5:Hid (Hl.Leaves N A w w5):=Lib.hid (leaves_by (LV4.out.grew gal (by have:=LV4.out.size;omega)) gr5 (by have:=LV4.out.size;simp;omega) VN.out)
  obtain ⟨k5,f5⟩:=K5.out.one
  have lA6:=K5.out.lt
  refine hK.out _ _ ?_
  clear hK K hHeld p5 gr5 nA
  try simp only [Act.put,List.setIfInBounds_toArray,List.set_cons_zero,List.set_cons_succ]
  refine Bar.any_step (i:=8) (o:=⟨some 33,_,_,_,_,_⟩) (by kernel_rfl) rfl (fun K hK => ?_)
  go_simp
  refine hK.out _ _ ?_
  clear hK K
  try simp only [Act.put,List.setIfInBounds_toArray,List.set_cons_zero,List.set_cons_succ]
  refine Bar.any_step (i:=9) (o:=⟨some 34,_,_,_,_,_⟩) (by kernel_rfl) rfl (fun K hK => ?_)
  go_simp
  refine hK.out _ _ ?_
  clear hK K
  try simp only [Act.put,List.setIfInBounds_toArray,List.set_cons_zero,List.set_cons_succ]
  refine Bar.any_step (i:=10) (o:=⟨none,_,_,_,_,_⟩) (by kernel_rfl) rfl (fun K hK => ?_)
  go_simp
  refine hK.out _ _ ?_
  clear hK K
  try simp only [Act.put,List.setIfInBounds_toArray,List.set_cons_zero,List.set_cons_succ]
  refine wpAny_done (by kernel_rfl) ?_ _
  go_wp2_with fail
  go_end0
  have Q6:Hid (Pile N (w5.setCell ⟨A,0,none⟩ (.slice za zn zc)) (.slice za zn zc) ((Q.filter fun x => !decide (Lies x.1 p)) ++ [(p,.slice ua un uc)])):=Lib.hid (P5.out.by (grownBy_setCell _ _ _ _) (Or.inr (fun e => by have:=(P5.out.own.block A e).1;omega)) (fun x hx k e => by
   cases e
   rcases List.mem_append.1 hx with hx | hx
   ·exact NOA.out.2 x (List.mem_filter.1 hx).1
   ·rw [List.mem_singleton.1 hx];exact NOA.out.1))
  exact ⟨rfl,_,by unfold addQ;rw [if_neg F.out];exact Q6.out,K5.out.put0,(LV5.out.grown (grownBy_setCell _ _ _ _) (by have:=LV5.out.size;omega) (fun k e => by cases e;exact Or.inr rfl)),KO5.out.trans (KeepsOthers.setCell _ _ _)⟩
 ·have F:=Lib.hid (R2.out.1 rfl)
  have LV2:Hid (Hl.Leaves N A w w2):=Lib.hid ((Hl.Leaves.refl N A w).grew G2.out hN)
  clear R2
  go_wp2_with fail
  go_end0
  exact ⟨rfl,v,by unfold addQ;rw [if_pos F.out];exact HP.out.grew G2.out,HA2.out,LV2.out,Ct.keeps_grew G2.out⟩
end Rg
end Go.Proofs.YtbpgfenippiepaaGreatDoor
