/-
  The reference of layer 7: pieces.
  The reference of layer 7: Without, Out.
-/
import Derived.Test.YtlookcbokhknfaaGreatRegRefD
namespace Go.Proofs.YtlookcbokhknfaaGreat
open Go.RowKit Go.Shelf Hl
namespace Rg
open Ct (Hf WF ov)
theorem wp_app3 {o:Oper} {a:Act} {K:Act→World→Prop} {Q:Exit→Act→World→Prop} (w:World) (s x:Operand)
  (ho:o.op=.call { callee:=.builtin .append,args:=#[s,x],argTypes:=#[22,22] }) (B:Nat) (v u:Value) (L M:Rgn)
  (hs:a.eval s=v) (hown:Own B w v L) (hx:a.eval x=u) (hu:Rl w u M) (hf:∀ p,p ∈ M→0 < p.length) (hl:L.length+M.length≤4000000) (hB:B≤w.heap.size)
  (h:∀ v' w',After B w v' w' (L ++ M)→w.grownBy w' v.ownBlock→K (a.put o.dst v') w'):o.wp Tryz.prog a w K Q:=by
 obtain ⟨i0,hi,hz0,hz1,hz2⟩:=info_parts info_sl
 have gen:∀ (ad:Addr) (m c:Nat) (news:List Value),u=.slice (some ad) m c→news.length=m→M.length=m→(∀ (j:Nat) (x:Value),news[j]? = some x→w.cell? (ad.add j)=some x∧Sl w x (nth M j))→o.wp Tryz.prog a w K Q:=by
  intro ad m c news hu hn hm hc
  have hd2:∀ x,x ∈ news→IsHd x:=fun x hx => by
   obtain ⟨j,hj,e⟩:=List.getElem_of_mem hx
   obtain ⟨a,n,e⟩:=(hc j x (by rw [List.getElem?_eq_getElem hj,e])).2.shape
   exact ⟨_,_,_,e⟩
  have one:∀ u,u ∈ news→u.oneCell'=true:=fun u hu => by
   obtain ⟨a,n,c,rfl⟩:=hd2 u hu
   rfl
  obtain ⟨us,hl0,ho1,hs1⟩:=hown.own
  obtain ⟨v',w',hr,h2,h3,h4⟩:=run_append_own (P:=Tryz.prog) w B 22 o.type 23 i0 (.slice none 0 0) 1 24 Tryz.underlying22 hi hz0 hz1 hz2 rfl (by decide) v L.length us ho1 ad m c news (by omega) (fun j x e => (hc j x e).1) one (by unfold maxLen;omega) (by omega) hB
  have kp:∀ (u:Value) (p:List Pt),0 < p.length→Sl w u p→Sl w' u p:=fun u p h0 hu => Sl.kept hown hu h0 h3
  have full:∀ p,p ∈ L ++ M→0 < p.length:=fun p hp => (List.mem_append.1 hp).elim (hown.full p) (hf p)
  have hA:After B w v' w' (L ++ M):=by
   refine ⟨⟨⟨us ++ news,by simp;omega,by rw [List.length_append,hm];exact h2,fun i x e => ?_⟩,hd_app o.type i0 hi hz0 hz1 hz2 w v L.length us ho1 hown.hd ad m c news (by omega) (fun j x e => (hc j x e).1) hd2 (by omega) v' w' (by rw [← hu];rw [← hu] at hr;exact hr) h4,full⟩,fun W hW g => Grew.grown g h3 (fun k hk => Nat.le_trans hW (hown.block k hk).1),kp,h3.size⟩
   by_cases c1:i < us.length
   ·rw [List.getElem?_append_left c1] at e
    have:nth (L ++ M) i=nth L i:=by
     unfold nth
     simp [List.getD,List.getElem?_append_left (show i < L.length by omega)]
    rw [this]
    exact kp x _ (hown.full _ (nth_mem (by omega))) (hs1 i x e)
   ·have hi':us.length≤i:=by omega
    rw [List.getElem?_append_right hi'] at e
    have hlt:=(List.getElem?_eq_some_iff.1 e).1
    have:nth (L ++ M) i=nth M (i - us.length):=by
     unfold nth
     simp [List.getD,List.getElem?_append_right (show L.length≤i by omega),hl0]
    rw [this]
    exact kp x _ (hf _ (nth_mem (by omega))) (hc _ x e).2
  unfold Oper.wp execOp
  simp only [ho,resolve,invoke,builtin,Sem.run_bind,Sem.run_pure,Result.andThen_ok,List.map_toArray,List.map_cons,List.map_nil,hs,hx,hu,hr]
  exact h v' w' hA h3
 obtain ⟨⟨rfl,ao,c,rfl⟩ | ⟨b,off,c,rfl,hb,hr⟩,_⟩:=hu
 ·cases ao with
  | some ad => exact gen ad 0 c [] rfl rfl rfl (fun j x e => (by cases e))
  | none =>
    obtain ⟨us,hl0,ho1,hs1⟩:=hown.own
    have hv:∃ ao n cap,v=.slice ao n cap∧n≤cap∧(ao=none→n=0∧cap=0):=by
     rcases ho1.2 with ⟨rfl,e⟩ | ⟨g,cap,cur,rfl,_,_,hn,_⟩
     ·exact ⟨none,0,0,rfl,Nat.le_refl _,fun _ => ⟨rfl,rfl⟩⟩
     ·exact ⟨_,_,_,rfl,hn,fun e => (by cases e)⟩
    obtain ⟨ao,n,cap,e1,e2,e3⟩:=hv
    have hr:=run_app_none v n cap ao o.type c w e1 e2 e3
    unfold Oper.wp execOp
    simp only [ho,resolve,invoke,builtin,Sem.run_bind,Sem.run_pure,Result.andThen_ok,List.map_toArray,List.map_cons,List.map_nil,hs,hx,hr]
    exact h v w ⟨by rw [List.append_nil];exact hown,fun W _ g => g,fun _ _ _ hu => hu,Nat.le_refl _⟩ ⟨rfl,rfl,rfl,Nat.le_refl _,fun _ _ _ => rfl⟩
 ·obtain ⟨F,hF⟩:=Go.Deep.choose_lt (α:=Value) (n:=M.length) (p:=fun i u => w.cell? ⟨b,off+i,none⟩=some u∧Sl w u (nth M i)) hr
  refine gen ⟨b,off,none⟩ M.length c ((List.range M.length).map F) rfl (by simp) rfl (fun j x e => ?_)
  rw [List.getElem?_map] at e
  obtain ⟨k,hk,rfl⟩:=Option.map_eq_some_iff.1 e
  have hj:=(List.getElem?_eq_some_iff.1 hk).1
  have:k=j:=by
   rw [List.getElem?_eq_getElem hj,List.getElem_range] at hk
   exact (Option.some.inj hk).symm
  subst this
  rw [List.length_range] at hj
  have ad:(⟨b,off,none⟩:Addr).add k=⟨b,off+k,none⟩:=by
   unfold Addr.add
   split
   ·rename_i e;subst e;rfl
   ·rfl
  rw [ad]
  exact hF k hj
theorem wpl_app3 {ops:Array Oper} {rest:List Oper} {o:Oper} {a:Act} {Q:Exit→Act→World→Prop} (w:World) (hgd:o.guard=none) (s x:Operand)
  (ho:o.op=.call { callee:=.builtin .append,args:=#[s,x],argTypes:=#[22,22] }) (B:Nat) (v u:Value) (L M:Rgn)
  (hs:a.eval s=v) (hown:Own B w v L) (hx:a.eval x=u) (hu:Rl w u M) (hf:∀ p,p ∈ M→0 < p.length) (hl:L.length+M.length≤4000000) (hB:B≤w.heap.size)
  (h:∀ v' w',After B w v' w' (L ++ M)→w.grownBy w' v.ownBlock→wpList Tryz.prog ops Q rest (a.put o.dst v') w'):wpList Tryz.prog ops Q (o :: rest) a w :=
 wpList_plain hgd fun _ hK => wp_app3 w s x ho B v u L M hs hown hx hu hf hl hB fun v' w' h2 h3 => hK _ _ (h v' w' h2 h3)
theorem Own.past {Bm B:Nat} {w w':World} {um v:Value} {m L:Rgn} (h:Own Bm w um m) (ho:Own B w v L) (hlt:∀ k,v.ownBlock=some k→k < Bm) (g:w.grownBy w' v.ownBlock):Own Bm w' um m:=by
 have ge:=h.ge
 have blk:=h.block
 have full:=h.full
 have hd:=h.hd
 obtain ⟨us,h0,h1,h2⟩:=h.own
 have nek:∀ k,um.ownBlock=some k→some k ≠ v.ownBlock:=fun k e e2 => by
  have:=ge k e
  have:=hlt k e2.symm
  omega
 have ne:um.ownBlock=none∨um.ownBlock ≠ v.ownBlock:=by
  cases e:um.ownBlock with
  | none => exact Or.inl rfl
  | some k => exact Or.inr (nek k e)
 refine ⟨⟨us,h0,World.ownsRow.kept h1 g ne,fun i u e => Sl.kept ho (h2 i u e) (full _ (nth_mem ?_)) g⟩,fun k e => (hd k e).kept (g.block k (blk k e).2 (nek k e)),full⟩
 have:=(List.getElem?_eq_some_iff.1 e).1
 omega
theorem one_full {L:Rgn} (h:AllV L):∀ p,p ∈ L→0 < p.length:=fun p hp => vl_pos (h p hp)
def PieSays (p:List Pt) (lo hi:Pt) (w:World) (e:Ending) (w':World):Prop:=∃ u c B,PieC p lo hi c∧e=.returned u∧Own B w' u c∧(w.heap.size≤B∧B≤w'.heap.size)∧Grew w w'
set_option maxRecDepth 100000 in
set_option maxHeartbeats 4000000 in
theorem pieces_r (p:List Pt) (lo hi:Pt) (v:Value) (w:World) (hs:Sl w v p) (hp:Vl p) (hlo:Plc lo) (hhi:Plc hi):Calls Tryz.prog 126 #[v,.agg #[.int .i64 lo.1,.int .i64 lo.2],.agg #[.int .i64 hi.1,.int .i64 hi.2]] w (PieSays p lo hi w):=by
 have S:=Lib.hid hs
 have VP:=Lib.hid hp
 have V1:Hid (AllV [p]):=Lib.hid (one_in hp)
 have PLO:=Lib.hid hlo
 have PHI:=Lib.hid hhi
 have LC:Hid (∀ (A B C:Int) (L:Rgn) (v:Value) (W:World),Rl W v L→AllV L→WF (A,B,C)→L.length≤4000→Calls Tryz.prog 107 #[v,.agg #[.int .i64 A,.int .i64 B,.int .i64 C]] W (LeftSays L (A,B,C) W)):=Lib.hid (fun A B C L v W h1 h2 h3 h4 => left_r L (A,B,C) v W h1 h2 h3 h4)
 have F1:Hid (WF (1,0,lo.1 - 1)):=Lib.hid (by unfold Ct.WF;obtain ⟨⟨b1,b2⟩,b3,b4⟩:=PLO.out;obtain ⟨⟨b5,b6⟩,b7,b8⟩:=PHI.out;dsimp only;omega)
 have F2:Hid (WF (-1,0,-hi.1 - 1)):=Lib.hid (by unfold Ct.WF;obtain ⟨⟨b1,b2⟩,b3,b4⟩:=PLO.out;obtain ⟨⟨b5,b6⟩,b7,b8⟩:=PHI.out;dsimp only;omega)
 have F3:Hid (WF (-1,0,-lo.1)):=Lib.hid (by unfold Ct.WF;obtain ⟨⟨b1,b2⟩,b3,b4⟩:=PLO.out;obtain ⟨⟨b5,b6⟩,b7,b8⟩:=PHI.out;dsimp only;omega)
 have F4:Hid (WF (1,0,hi.1)):=Lib.hid (by unfold Ct.WF;obtain ⟨⟨b1,b2⟩,b3,b4⟩:=PLO.out;obtain ⟨⟨b5,b6⟩,b7,b8⟩:=PHI.out;dsimp only;omega)
 have F5:Hid (WF (0,1,lo.2 - 1)):=Lib.hid (by unfold Ct.WF;obtain ⟨⟨b1,b2⟩,b3,b4⟩:=PLO.out;obtain ⟨⟨b5,b6⟩,b7,b8⟩:=PHI.out;dsimp only;omega)
 have F6:Hid (WF (0,-1,-hi.2 - 1)):=Lib.hid (by unfold Ct.WF;obtain ⟨⟨b1,b2⟩,b3,b4⟩:=PLO.out;obtain ⟨⟨b5,b6⟩,b7,b8⟩:=PHI.out;dsimp only;omega)
 obtain ⟨⟨b1,b2⟩,b3,b4⟩:=hlo
 obtain ⟨⟨b5,b6⟩,b7,b8⟩:=hhi
 have e1:IntKind.i64.wrap (-hi.1) = -hi.1:=IntWalk.i64_in _ ⟨by omega,by omega⟩
 have e2:IntKind.i64.wrap (-lo.1) = -lo.1:=IntWalk.i64_in _ ⟨by omega,by omega⟩
 have e3:IntKind.i64.wrap (-hi.2) = -hi.2:=IntWalk.i64_in _ ⟨by omega,by omega⟩
 have e4:IntKind.i64.wrap (lo.1 - 1)=lo.1 - 1:=IntWalk.i64_in _ ⟨by omega,by omega⟩
 have e5:IntKind.i64.wrap (-hi.1 - 1) = -hi.1 - 1:=IntWalk.i64_in _ ⟨by omega,by omega⟩
 have e6:IntKind.i64.wrap (lo.2 - 1)=lo.2 - 1:=IntWalk.i64_in _ ⟨by omega,by omega⟩
 have e7:IntKind.i64.wrap (-hi.2 - 1) = -hi.2 - 1:=IntWalk.i64_in _ ⟨by omega,by omega⟩
 obtain ⟨pa,pn,pc,rfl,epn⟩:∃ a n c,v=.slice a n c∧n=p.length:=by
  obtain ⟨a,c,e⟩:=hs.shape
  exact ⟨a,_,c,e,rfl⟩
 have B0:=Lib.hid ((Blk.new w #[.int .i64 lo.1,.int .i64 lo.2] 27).grown ((Grew.refl _).alloc #[.int .i64 hi.1,.int .i64 hi.2] 27))
 have B1:=Lib.hid (Blk.new (w.alloc (.cells #[.int .i64 lo.1,.int .i64 lo.2] 27)) #[.int .i64 hi.1,.int .i64 hi.2] 27)
 simp only [World.size_alloc] at B1
 obtain ⟨W0,hW0⟩:∃ W0,W0=(w.alloc (.cells #[.int .i64 lo.1,.int .i64 lo.2] 27)).alloc (.cells #[.int .i64 hi.1,.int .i64 hi.2] 27):=⟨_,rfl⟩
 have GW:Grew w W0:=by rw [hW0];exact ((Grew.refl w).alloc _ _).alloc _ _
 have SW:W0.heap.size=w.heap.size+1+1:=by rw [hW0];simp only [World.size_alloc]
 have RL:Hid (Rl (W0.alloc (.cells #[.slice pa pn pc] 23)) (.slice (some ⟨W0.heap.size,0,none⟩) 1 1) [p]):=Lib.hid (one_rl (S.out.grown GW) (by have:=VP.out.1.2;omega) 1)
 rw [← hW0] at B0 B1
 obtain ⟨V,hV⟩:∃ V,V=W0.alloc (.cells #[.slice pa pn pc] 23):=⟨_,rfl⟩
 have GV:Grew W0 V:=by rw [hV];exact (Grew.refl W0).alloc _ _
 rw [← hV,SW] at RL
 have HV:=Lib.hid hV
 have HW:=Lib.hid hW0
 have BL:=Lib.hid (B0.out.grown GV)
 have BH:=Lib.hid (B1.out.grown GV)
 clear hs hp epn S B0 B1 hV hW0
 go_enter Tryz.func126,Tryz.ntmps126
 go_wp2_with fail
 rw [← HW.out,← HV.out]
 clear HW HV
 refine (LC.out 1 0 (lo.1 - 1) [p] _ _ RL.out V1.out F1.out (by simp)).mono ?_
 rintro e w1 ⟨u1,a,Ba,ha,rfl,oa,⟨hba,hbb⟩,g1⟩
 have HA:=Lib.hid ha
 have OA:=Lib.hid oa
 have VA:=Lib.hid (cut_vl V1.out ha)
 have LA:=Lib.hid (cut_len ha)
 have GB:Hid (V.heap.size≤Ba):=Lib.hid hba
 have BL1:=Lib.hid (BL.out.grown g1)
 have BH1:=Lib.hid (BH.out.grown g1)
 have RL1:=Lib.hid (RL.out.grown g1)
 obtain ⟨x0,x1⟩:=blk_two BL1.out
 obtain ⟨y0,y1⟩:=blk_two BH1.out
 have HBB:=Lib.hid hbb
 have G1:=Lib.hid g1
 clear ha oa hba hbb g1
 go_wp2_with fail
 refine (LC.out (-1) 0 (-hi.1 - 1) [p] _ _ RL1.out V1.out F2.out (by simp)).mono ?_
 rintro e w2 ⟨u2,b,Bb,hb,rfl,ob,_,g2⟩
 have HB:=Lib.hid hb
 have VB:=Lib.hid (cut_vl V1.out hb)
 have LB:=Lib.hid (cut_len hb)
 have RB:=Lib.hid (ob.rl (VB.out.bd (by have:=LB.out;simp at this;omega)))
 have OA2:=Lib.hid (OA.out.grew g2)
 have G2:=Lib.hid (Grew.trans G1.out g2)
 have HB2:Hid (Ba≤w2.heap.size):=Lib.hid (Nat.le_trans HBB.out g2.size)
 clear hb ob g2 x0 x1 y0 y1 OA HBB G1
 go_wp2_with (at_builtin;go_must (refine wpl_app3 _ rfl _ _ rfl Ba _ _ a b rfl OA2.out rfl RB.out (one_full VB.out) (by have:=LA.out;have:=LB.out;simp at *;omega) HB2.out ?_;intro v3 w3 af ag;have O3:=Lib.hid af.own;have G3:=Lib.hid (af.grew V GB.out G2.out);have HB3:Hid (Ba≤w3.heap.size):=Lib.hid (Nat.le_trans HB2.out af.size);clear af ag))
 have BL3:=Lib.hid (BL.out.grown G3.out)
 have BH3:=Lib.hid (BH.out.grown G3.out)
 have RL3:=Lib.hid (RL.out.grown G3.out)
 clear BL1 BH1 RL1 OA2 G2 HB2 RB
 obtain ⟨x0,x1⟩:=blk_two BL3.out
 obtain ⟨y0,y1⟩:=blk_two BH3.out
 go_wp2_with fail
 go_region_held3 (fun w' => w'.cell? ⟨w.heap.size,0,none⟩=some (.int .i64 lo.1)∧w'.cell? ⟨w.heap.size+1,0,none⟩=some (.int .i64 hi.1)) (simp [go_sem, *])
  (first | (go_at_call 107;refine (LC.out 1 0 hi.1 m _ _ (RM.out.grown (by repeat' (first|(with_reducible first|exact Grew.refl _|assumption|refine Grew.alloc ?_ _ _|refine Grew.drew ?_|refine Grew.drewN ?_ _|refine Grew.setCell ?_ ?_ _)|go_size))) VM.out F4.out (by have:=LM.out;simp at this;omega)).mono ?_;rintro e w5 ⟨u5,l,Bl,hl,rfl,ol,⟨hl1,hl2⟩,g5⟩;have GX5:Grew w3 w5:=Grew.trans (by repeat' (first|(with_reducible first|exact Grew.refl _|assumption|refine Grew.alloc ?_ _ _|refine Grew.drew ?_|refine Grew.drewN ?_ _|refine Grew.setCell ?_ ?_ _)|go_size)) g5;have G45:Grew w4 w5:=Grew.trans (by repeat' (first|(with_reducible first|exact Grew.refl _|assumption|refine Grew.alloc ?_ _ _|refine Grew.drew ?_|refine Grew.drewN ?_ _|refine Grew.setCell ?_ ?_ _)|go_size)) g5;have x5:=(Grew.cell GX5 BL3.out.lt).trans x0;have y5:=(Grew.cell GX5 BH3.out.lt).trans y0) | (go_at_call 107;refine (LC.out (-1) 0 (-lo.1) [p] _ _ (RL3.out.grown (by repeat' (first|(with_reducible first|exact Grew.refl _|assumption|refine Grew.alloc ?_ _ _|refine Grew.drew ?_|refine Grew.drewN ?_ _|refine Grew.setCell ?_ ?_ _)|go_size))) V1.out F3.out (by simp)).mono ?_;rintro e w4 ⟨u4,m,Bm,hm,rfl,om,⟨hm1,_⟩,g4⟩;have GX4:Grew w3 w4:=Grew.trans (by repeat' (first|(with_reducible first|exact Grew.refl _|assumption|refine Grew.alloc ?_ _ _|refine Grew.drew ?_|refine Grew.drewN ?_ _|refine Grew.setCell ?_ ?_ _)|go_size)) g4;have HM:=Lib.hid hm;have VM:=Lib.hid (cut_vl V1.out hm);have LM:=Lib.hid (cut_len hm);have RM:=Lib.hid (om.rl (VM.out.bd (by have:=LM.out;simp at this;omega)));have x4:=(Grew.cell GX4 BL3.out.lt).trans x0;have y4:=(Grew.cell GX4 BH3.out.lt).trans y0))
 all_goals have HL:=Lib.hid hl
 all_goals have OL:=Lib.hid ol
 all_goals have VL:=Lib.hid (cut_vl VM.out hl)
 all_goals have LL:Hid (l.length≤1):=Lib.hid (by have:=cut_len hl;have:=LM.out;simp at *;omega)
 all_goals have BLK:Hid (w4.heap.size≤Bl):=Lib.hid (by first | exact hl1 | exact Nat.le_trans (Nat.le_refl _) hl1)
 all_goals have HBL:Hid (Bl≤w5.heap.size):=Lib.hid hl2
 all_goals have O5:=Lib.hid (O3.out.grew GX5)
 all_goals have LT5:Hid (∀ k,v3.ownBlock=some k→k < w3.heap.size):=Lib.hid (fun k e => (O3.out.block k e).2)
 all_goals have S34:Hid (w3.heap.size≤w4.heap.size):=Lib.hid GX4.size
 all_goals have G5:=Lib.hid (Grew.trans G3.out GX5)
 all_goals have HB5:Hid (Ba≤w5.heap.size):=Lib.hid (Nat.le_trans HB3.out GX5.size)
 all_goals have BL5:=Lib.hid (BL3.out.grown GX5)
 all_goals have BH5:=Lib.hid (BH3.out.grown GX5)
 all_goals clear hl ol hl1 hl2 g5 GX5 G45 om hm hm1 g4 x4 y4 x5 y5 x0 x1 y0 y1 BL3 BH3 RL3 RM O3 G3 HB3 GX4
 all_goals obtain ⟨x0,x1⟩:=blk_two BL5.out
 all_goals obtain ⟨y0,y1⟩:=blk_two BH5.out
 go_wp2_with fail
 refine (LC.out 0 1 (lo.2 - 1) l _ _ (OL.out.rl (VL.out.bd (by have:=LL.out;omega))) VL.out F5.out (by have:=LL.out;omega)).mono ?_
 rintro e w6 ⟨u6,c,Bc,hc,rfl,oc,_,g6⟩
 have HC:=Lib.hid hc
 have VC:=Lib.hid (cut_vl VL.out hc)
 have LCC:Hid (c.length≤1):=Lib.hid (by have:=cut_len hc;have:=LL.out;omega)
 have RC:=Lib.hid (oc.rl (VC.out.bd (by have:=LCC.out;omega)))
 have O6:=Lib.hid (O5.out.grew g6)
 have OL6:=Lib.hid (OL.out.grew g6)
 have G6:=Lib.hid (Grew.trans G5.out g6)
 have HB6:Hid (Ba≤w6.heap.size):=Lib.hid (Nat.le_trans HB5.out g6.size)
 clear hc oc g6 x0 x1 y0 y1 O5 OL G5 HB5 BL5 BH5
 go_wp2_with (at_builtin;go_must (refine wpl_app3 _ rfl _ _ rfl Ba _ _ (a ++ b) c rfl O6.out rfl RC.out (one_full VC.out) (by have:=LA.out;have:=LB.out;have:=LCC.out;simp at *;omega) HB6.out ?_;intro v7 w7 af ag;have O7:=Lib.hid af.own;have G7:=Lib.hid (af.grew V GB.out G6.out);have HB7:Hid (Ba≤w7.heap.size):=Lib.hid (Nat.le_trans HB6.out af.size);have OL7:=Lib.hid (OL6.out.past O6.out (fun k e => by have:=LT5.out k e;have:=S34.out;have:=BLK.out;omega) ag);have BL7:=Lib.hid (BL.out.grown G7.out);have BH7:=Lib.hid (BH.out.grown G7.out);obtain ⟨x0,x1⟩:=blk_two BL7.out;obtain ⟨y0,y1⟩:=blk_two BH7.out;clear af ag))
 refine (LC.out 0 (-1) (-hi.2 - 1) l _ _ (OL7.out.rl (VL.out.bd (by have:=LL.out;omega))) VL.out F6.out (by have:=LL.out;omega)).mono ?_
 rintro e w8 ⟨u8,d,Bd',hd,rfl,od,_,g8⟩
 have HD:=Lib.hid hd
 have VD:=Lib.hid (cut_vl VL.out hd)
 have LD:Hid (d.length≤1):=Lib.hid (by have:=cut_len hd;have:=LL.out;omega)
 have RD:=Lib.hid (od.rl (VD.out.bd (by have:=LD.out;omega)))
 have O8:=Lib.hid (O7.out.grew g8)
 have G8:=Lib.hid (Grew.trans G7.out g8)
 have HB8:Hid (Ba≤w8.heap.size):=Lib.hid (Nat.le_trans HB7.out g8.size)
 clear hd od g8 x0 x1 y0 y1 O7 OL7 G7 HB7 BL7 BH7
 go_wp2_with (at_builtin;go_must (refine wpl_app3 _ rfl _ _ rfl Ba _ _ (a ++ b ++ c) d rfl O8.out rfl RD.out (one_full VD.out) (by have:=LA.out;have:=LB.out;have:=LCC.out;have:=LD.out;simp at *;omega) HB8.out ?_;intro v9 w9 af ag;have O9:=Lib.hid af.own;have G9:=Lib.hid (af.grew V GB.out G8.out);have HB9:Hid (Ba≤w9.heap.size):=Lib.hid (Nat.le_trans HB8.out af.size);clear af ag))
 go_ret
 exact ⟨_,a ++ b ++ c ++ d,Ba,⟨a,b,m,l,c,d,HA.out,HB.out,HM.out,HL.out,HC.out,HD.out,rfl⟩,rfl,O9.out,⟨Nat.le_trans (Grew.trans GW GV).size GB.out,HB9.out⟩,Grew.trans (Grew.trans GW GV) G9.out⟩
end Rg
end Go.Proofs.YtlookcbokhknfaaGreat
namespace Go.Proofs.YtlookcbokhknfaaGreat
open Go.RowKit Go.Shelf Hl
namespace Rg
open Ct (Hf WF ov)
theorem step_rl {ops:Array Oper} {o:Oper} {a:Act} {K:Act→World→Prop} {Q:Exit→Act→World→Prop} {E:Prop} (w:World) (hgd:o.guard=none) (s x:Operand)
  (ho:o.op=.call { callee:=.builtin .append,args:=#[s,x],argTypes:=#[22,22] }) (B:Nat) (v u:Value) (L M:Rgn)
  (hs:a.eval s=v) (hown:Own B w v L) (hx:a.eval x=u) (hu:Rl w u M) (hf:∀ p,p ∈ M→0 < p.length) (hl:L.length+M.length≤4000000) (hB:B≤w.heap.size)
  (h:∀ v' w',After B w v' w' (L ++ M)→K (a.put o.dst v') w'):if Region.wanted o (yielded ops a.tmps)=true then Oper.wp Tryz.prog o a w K Q else E:=by
 have hw:Region.wanted o (yielded ops a.tmps)=true:=by simp [Region.wanted,hgd]
 rw [if_pos hw]
 exact wp_app w s x ho B v u L M hs hown hx hu hf hl hB h
theorem outn_le {L:Rgn} {lo hi:Pt} {n:Nat} {c:Rgn} (g:Col (fun i => PieC (nth L i) lo hi) n c):c.length≤4 * n:=Col.len (fun _ _ => pie_len) g
set_option maxRecDepth 100000 in
set_option maxHeartbeats 4000000 in
theorem without_r (L:Rgn) (lo hi:Pt) (v:Value) (w:World) (hs:Rl w v L) (hL:VlR L) (hlo:Plc lo) (hhi:Plc hi):Calls Tryz.prog 72 #[v,.agg #[.int .i64 lo.1,.int .i64 lo.2],.agg #[.int .i64 hi.1,.int .i64 hi.2]] w (TidOf (OutC L lo hi) w):=by
 have VL:=Lib.hid hL
 obtain ⟨a,c,U,rfl,hU,hSl,hRr⟩:=rl_fun hs
 have CC:Hid (∀ i W,i < L.length→Grew w W→Calls Tryz.prog 126 #[U i,.agg #[.int .i64 lo.1,.int .i64 lo.2],.agg #[.int .i64 hi.1,.int .i64 hi.2]] W (PieSays (nth L i) lo hi W)):=Lib.hid (fun i W hi' g => pieces_r (nth L i) lo hi (U i) W ((hSl i hi').grown g) (hL.2 _ (nth_mem hi')) hlo hhi)
 have RR:Hid (∀ i W,i < L.length→Grew w W→∃ b o,a=some ⟨b,o,none⟩∧b < W.heap.size∧W.cell? ⟨b,o+i,none⟩=some (U i)):=Lib.hid (fun i W hi g => by
  obtain ⟨b,o,e,hb,z⟩:=hRr i hi
  exact ⟨b,o,e,Nat.lt_of_lt_of_le hb.1 g.size,(Grew.cell g hb.1).trans z⟩)
 have HZ:Hid (L.length≤32):=Lib.hid hL.1
 have BL:=Lib.hid ((Blk.new w #[.int .i64 lo.1,.int .i64 lo.2] 27).grown ((Grew.refl _).alloc #[.int .i64 hi.1,.int .i64 hi.2] 27))
 have BH:=Lib.hid (Blk.new (w.alloc (.cells #[.int .i64 lo.1,.int .i64 lo.2] 27)) #[.int .i64 hi.1,.int .i64 hi.2] 27)
 simp only [World.size_alloc] at BH
 obtain ⟨V,hV⟩:∃ V,V=(w.alloc (.cells #[.int .i64 lo.1,.int .i64 lo.2] 27)).alloc (.cells #[.int .i64 hi.1,.int .i64 hi.2] 27):=⟨_,rfl⟩
 have GV:Grew w V:=by rw [hV];exact ((Grew.refl w).alloc _ _).alloc _ _
 rw [← hV] at BL BH
 have HV:=Lib.hid hV
 clear hs hU hSl hRr hL hlo hhi hV
 go_enter Tryz.func72,Tryz.ntmps72
 go_wp2_with fail
 rw [← HV.out]
 clear HV
 go_loopw [7,8] (fun u i wr => ∃ (k:Nat) (c:Rgn),k≤L.length∧i=.int .i64 k∧Grew V wr∧Hid (Own V.heap.size wr u c)∧Hid (Col (fun i => PieC (nth L i) lo hi) k c)) (fun _ i _ => L.length - (intOf i).toNat)
 case atStart => exact ⟨0,[],Nat.zero_le _,rfl,Grew.refl _,Lib.hid (Own.nil _ _),Lib.hid rfl⟩
 case round =>
  obtain ⟨k,c,hk,rfl,G,OW,HC⟩:=hrel
  have hz:=HZ.out
  by_cases hlt:k < L.length
  ·have i0:(0:Int)≤(k:Int):=by omega
   have i1:(k:Int) < (L.length:Int):=by omega
   obtain ⟨b,o,rfl,hb,zV⟩:=RR.out k V hlt GV
   have x0:=(Grew.cell G hb).trans zV;obtain ⟨x1,x2⟩:=blk_two (BL.out.grown G);obtain ⟨x3,x4⟩:=blk_two (BH.out.grown G)
   have C1:Hid (∀ W,Grew wr W→Calls Tryz.prog 126 #[U k,.agg #[.int .i64 lo.1,.int .i64 lo.2],.agg #[.int .i64 hi.1,.int .i64 hi.2]] W (PieSays (nth L k) lo hi W)):=Lib.hid (fun W g => CC.out k W hlt (Grew.trans (Grew.trans GV G) g))
   obtain ⟨W0,hW0⟩:∃ W0,W0=wr:=⟨wr,rfl⟩
   subst hW0
   go_wp2_with fail
   go_region_held3 (fun w' => w'.cell? ⟨b,o+k,none⟩=some (U k)∧w'.cell? ⟨w.heap.size,0,none⟩=some (.int .i64 lo.1)∧w'.cell? ⟨w.heap.size,1,none⟩=some (.int .i64 lo.2)∧w'.cell? ⟨w.heap.size+1,0,none⟩=some (.int .i64 hi.1)∧w'.cell? ⟨w.heap.size+1,1,none⟩=some (.int .i64 hi.2)) (simp [go_sem, *])
    (first | (go_at_call 126;refine (C1.out _ (by repeat' (first|(with_reducible first|exact Grew.refl _|assumption|refine Grew.alloc ?_ _ _|refine Grew.drew ?_|refine Grew.drewN ?_ _|refine Grew.setCell ?_ ?_ _)|go_size))).mono ?_;rintro e w1 ⟨u1,d,Bd,hd,rfl,od,_,g1⟩;have GX:Grew W0 w1:=Grew.trans (by repeat' (first|(with_reducible first|exact Grew.refl _|assumption|refine Grew.alloc ?_ _ _|refine Grew.drew ?_|refine Grew.drewN ?_ _|refine Grew.setCell ?_ ?_ _)|go_size)) g1;have GY:Grew V w1:=Grew.trans G GX;have HD:=Lib.hid hd;have VD:=Lib.hid (pie_vl (VL.out.2 _ (nth_mem hlt)) hd);have LD:=Lib.hid (pie_len hd);have RD:=Lib.hid (od.rl (VD.out.bd (by have:=LD.out;omega)));have O1:=Lib.hid (OW.out.grew GX);have GH:=Lib.hid GY;have y0:=(Grew.cell GY hb).trans zV;obtain ⟨y1,y2⟩:=blk_two (BL.out.grown GY);obtain ⟨y3,y4⟩:=blk_two (BH.out.grown GY)) | (refine step_rl _ rfl (.tmp 15) (.tmp 22) rfl V.heap.size _ _ c d rfl O1.out rfl RD.out (one_full VD.out) (by have:=LD.out;have:=outn_le HC.out;omega) GH.out.size ?_;intro v' w' af;have GG':=Lib.hid (af.grew V (Nat.le_refl _) GH.out);have OWN':=Lib.hid af.own;clear af;have z0:=(Grew.cell GG'.out hb).trans zV;obtain ⟨z1,z2⟩:=blk_two (BL.out.grown GG'.out);obtain ⟨z3,z4⟩:=blk_two (BH.out.grown GG'.out)))
   all_goals have CN:Hid (Col (fun i => PieC (nth L i) lo hi) (k+1) (c ++ d)):=Lib.hid ⟨c,d,HC.out,HD.out,rfl⟩
   all_goals go_wp2_with fail
   all_goals exact ⟨⟨k+1,c ++ d,by omega,by go_num,GG'.out,OWN',CN⟩,by simp [intOf];omega⟩
  ·obtain rfl:k=L.length:=by omega
   have OC:Hid (OutC L lo hi c):=Lib.hid HC.out
   have AV:Hid (AllV c):=Lib.hid (out_vl VL.out.2 OC.out)
   have LE:Hid (c.length≤4000):=Lib.hid (by have:=outn_le HC.out;omega)
   have RC:=Lib.hid (OW.out.rl (AV.out.bd (by have:=LE.out;omega)))
   have GH:=Lib.hid G
   clear OW G HC
   go_wp2_with fail
   refine (tidied_r c _ _ RC.out AV.out LE.out).mono ?_
   rintro e w2 ⟨u2,r,ht,rfl,hr,g2⟩
   have T2:=Lib.hid ht
   have R2:=Lib.hid hr
   clear ht hr
   go_wp2_with fail
   go_ret
   exact ⟨u2,r,⟨c,OC.out,T2.out⟩,rfl,R2.out,Grew.trans GV (Grew.trans GH.out g2)⟩
set_option maxRecDepth 100000 in
set_option maxHeartbeats 4000000 in
theorem out_f (L:Rgn) (lo hi:Pt) (v:Value) (w:World) (hs:Rl w v L):Calls Tryz.prog 28 #[v,.agg #[.int .i64 lo.1,.int .i64 lo.2],.agg #[.int .i64 hi.1,.int .i64 hi.2]] w (AnsR (OutP L lo hi) w):=by
 have R:=Lib.hid hs
 clear hs
 have BK00:=Lib.hid ((Blk.new (w) #[.int .i64 lo.1,.int .i64 lo.2] 27).grown ((Grew.refl _).alloc #[.int .i64 hi.1,.int .i64 hi.2] 27))
 have BK10:=Lib.hid ((Blk.new ((w.alloc (.cells #[.int .i64 lo.1,.int .i64 lo.2] 27))) #[.int .i64 hi.1,.int .i64 hi.2] 27))
 simp only [World.size_alloc] at BK10
 have GW0:Grew w ((w.alloc (.cells #[.int .i64 lo.1,.int .i64 lo.2] 27)).alloc (.cells #[.int .i64 hi.1,.int .i64 hi.2] 27)):=(by repeat' (first|(with_reducible first|exact Grew.refl _|assumption|refine Grew.alloc ?_ _ _|refine Grew.drew ?_|refine Grew.drewN ?_ _|refine Grew.setCell ?_ ?_ _)|go_size))
 have G0:Grew ((w.alloc (.cells #[.int .i64 lo.1,.int .i64 lo.2] 27)).alloc (.cells #[.int .i64 hi.1,.int .i64 hi.2] 27)) ((w.alloc (.cells #[.int .i64 lo.1,.int .i64 lo.2] 27)).alloc (.cells #[.int .i64 hi.1,.int .i64 hi.2] 27)):=Grew.refl _
 have R0:=Lib.hid (R.out.grown (w':=((w.alloc (.cells #[.int .i64 lo.1,.int .i64 lo.2] 27)).alloc (.cells #[.int .i64 hi.1,.int .i64 hi.2] 27))) (by repeat' (first|(with_reducible first|exact Grew.refl _|assumption|refine Grew.alloc ?_ _ _|refine Grew.drew ?_|refine Grew.drewN ?_ _|refine Grew.setCell ?_ ?_ _)|go_size)))
 go_enter Tryz.func28,Tryz.ntmps28
 go_wp2_with fail
 refine (rref_valid L _ _ R0.out).mono ?_
 rintro e w1 ⟨r1,rfl,h1,g1⟩
 have D1:Grew ((w.alloc (.cells #[.int .i64 lo.1,.int .i64 lo.2] 27)).alloc (.cells #[.int .i64 hi.1,.int .i64 hi.2] 27)) w1:=Grew.trans (by repeat' (first|(with_reducible first|exact Grew.refl _|assumption|refine Grew.alloc ?_ _ _|refine Grew.drew ?_|refine Grew.drewN ?_ _|refine Grew.setCell ?_ ?_ _)|go_size)) g1
 have G1:Grew ((w.alloc (.cells #[.int .i64 lo.1,.int .i64 lo.2] 27)).alloc (.cells #[.int .i64 hi.1,.int .i64 hi.2] 27)) w1:=Grew.trans G0 D1
 have R1:=Lib.hid (R0.out.grown D1)
 have BK01:=Lib.hid (BK00.out.grown D1)
 have BK11:=Lib.hid (BK10.out.grown D1)
 clear R0 BK00 BK10
 clear g1 D1 G0
 obtain ⟨x00,x01⟩:=blk_two BK01.out
 obtain ⟨x10,x11⟩:=blk_two BK11.out
 have H1:=Lib.hid h1
 clear h1
 go_wp2_with fail
 refine (rectangle_r lo hi _).mono ?_
 rintro e w2 ⟨r2,rfl,h2,g2⟩
 have D2:Grew w1 w2:=Grew.trans (by repeat' (first|(with_reducible first|exact Grew.refl _|assumption|refine Grew.alloc ?_ _ _|refine Grew.drew ?_|refine Grew.drewN ?_ _|refine Grew.setCell ?_ ?_ _)|go_size)) g2
 have G2:Grew ((w.alloc (.cells #[.int .i64 lo.1,.int .i64 lo.2] 27)).alloc (.cells #[.int .i64 hi.1,.int .i64 hi.2] 27)) w2:=Grew.trans G1 D2
 have R2:=Lib.hid (R1.out.grown D2)
 have BK02:=Lib.hid (BK01.out.grown D2)
 have BK12:=Lib.hid (BK11.out.grown D2)
 clear R1 BK01 BK11
 clear g2 D2 G1
 clear x00 x01 x10 x11
 obtain ⟨x00,x01⟩:=blk_two BK02.out
 obtain ⟨x10,x11⟩:=blk_two BK12.out
 have H2:=Lib.hid h2
 clear h2
 cases r1
 ·have F:=Lib.hid (not_of H1.out)
  clear H1 H2
  go_wp2_with fail
  go_ret2
  exact ⟨_,1,[],Or.inl ⟨(fun h => F.out h.1),rfl,rfl⟩,rfl,Rl.nil _ none 0,GW0.trans G2⟩
 cases r2
 ·have F:=Lib.hid (not_of H2.out)
  clear H1 H2
  go_wp2_with fail
  go_ret2
  exact ⟨_,1,[],Or.inl ⟨(fun h => F.out h.2),rfl,rfl⟩,rfl,Rl.nil _ none 0,GW0.trans G2⟩
 have A1:=Lib.hid (H1.out.1 rfl)
 have A2:=Lib.hid (H2.out.1 rfl)
 clear H1 H2
 go_wp2_with fail
 refine (without_r L lo hi _ _ R2.out A1.out A2.out.1.1 A2.out.1.2).mono ?_
 rintro e w3 ⟨u3,r3,ht,rfl,hr,g3⟩
 have TT:=Lib.hid ht
 have RR:=Lib.hid hr
 clear ht hr
 go_wp2_with fail
 go_ret2
 exact ⟨_,0,r3,Or.inr ⟨⟨A1.out,A2.out⟩,rfl,TT.out⟩,rfl,RR.out,(GW0.trans (Grew.trans G2 g3))⟩
end Rg
end Go.Proofs.YtlookcbokhknfaaGreat
