/-
  The landed package region: Cut, Meet, Sum.
  The landed package region: Has, Within.
  The landed package region: Box.
-/
import Derived.Test.YtbpgfenippiepaaGreatDoorCutCo
import Derived.Test.YtbpgfenippiepaaGreatDoorHullWrap
import Derived.Test.YtbpgfenippiepaaGreatDoorRegCon
namespace Go.Proofs.YtbpgfenippiepaaGreatDoor
open Go.RowKit Go.Shelf Hl
namespace Rg
open Ct (Hf WF LeftS BothS Poly)
theorem made_ans {n:Nat} {PR:Nat→Rgn→Prop} {PE:Nat→Int→Prop} {B:Prop} {C:Rgn→Prop} {w:World} {e:Ending} {w':World} (hB:B) (hC:∀ c,Col PR n c→C c) (hE:∀ m k,m < n→¬ PE m k) (h:MadeSays n PR PE w e w'):AnsR (Made B C) w e w':=by
 rcases h with ⟨m,k,v,hm,hk,_⟩ | ⟨c,out,v,hc,ht,rfl,hr,g⟩
 ·exact absurd hk (hE m k hm)
 ·exact ⟨v,0,out,Or.inr ⟨hB,rfl,c,hC c hc,ht⟩,rfl,hr,g⟩
theorem polr_what {S:Pt→Prop} {w0 w:World} {PR:Rgn→Prop} {PE:Int→Prop} {e:Ending} {w':World} (_hb:w0.heap.size≤w.heap.size) (hS:∀ y,S y→Plc y) (hP:∀ r,PolR S r→PR r) (h:Ct.PolyNew S w e w'):WhatSays w0 PR PE w e w':=by
 rcases h with ⟨q,v,hq,rfl,hn,g⟩ | ⟨hn,v,rfl,hs,g⟩
 ·exact Or.inl ⟨q,v,rfl,hP _ (Or.inl ⟨q,hq,rfl⟩),hq.vl hS,hn.sl,fun k e => Or.inr (hn.new k e),g⟩
 ·obtain ⟨a,c,e⟩:=hs.shape
  exact Or.inr (Or.inl ⟨v,rfl,hP _ (Or.inr ⟨hn,rfl⟩),⟨_,_,_,e⟩,g⟩)
theorem AnsR.later {P:Int→Rgn→Prop} {w w1:World} {e:Ending} {w':World} (h:AnsR P w1 e w') (g:Grew w w1):AnsR P w e w':=by
 obtain ⟨v,k,r,hp,he,hr,g'⟩:=h
 exact ⟨v,k,r,hp,he,hr,g.trans g'⟩
theorem cut_made (K:Hl.CodeN) (C:Ct.CodeN) (L:Rgn) (h:Hf) (v:Value) (W:World) (b c':Nat) (hs:Rl W v L) (hV:VlR L) (hW:WF h) (hb:Blk W b #[.int .i64 h.1,.int .i64 h.2.1,.int .i64 h.2.2] 78) :
  Calls Tryz.prog 125 #[v,.slice (some ⟨b,0,none⟩) 1 c',.func (.func 126) #[] #[]] W (AnsR (CutP L h) W):=by
 obtain ⟨a,c,U,rfl,hU,hSl,hRr⟩:=rl_fun hs
 have h3:=Ct.blk_three hb
 refine (madeH_c K 126 (enters_of Tryz.func126 (by kernel_rfl) rfl) a (some ⟨b,0,none⟩) L.length 1 c c' U hU (fun _ => h) hV.1 (by omega) W ⟨hRr,fun k hk => ⟨b,0,rfl,⟨hb.lt,by have:=hb.lt;omega⟩,by
   obtain rfl:k=0:=by omega
   exact h3⟩⟩ (fun m r => m < L.length∧PolR (LeftS (nth L m) h) r) (fun _ _ => False) (fun m r hr => ⟨hr.2.vl (fun y hy => Ct.left_plc2 (hV.2 _ (nth_mem hr.1)).2.1 hy),hr.2.len⟩) (fun m V hm gV => ?_)).mono ?_
 ·have hm':m < L.length:=by omega
  rw [Nat.div_one]
  exact (C.cut_new (nth L m) h (U m) V ((hSl m hm').grown gV) (hV.2 _ (nth_mem hm')) hW).mono fun _ _ k => polr_what gV.size (fun y hy => Ct.left_plc2 (hV.2 _ (nth_mem hm')).2.1 hy) (fun r hr => ⟨hm',hr⟩) k
 ·intro e w' k
  refine made_ans ⟨hV,hW⟩ (fun c hc => ?_) (fun _ _ _ k => k) k
  rw [Nat.mul_one] at hc
  exact col_same (fun m r _ k => k.2) hc
set_option maxRecDepth 100000 in
set_option maxHeartbeats 4000000 in
theorem rcut_c (K:Hl.CodeN) (C:Ct.CodeN) (L:Rgn) (h:Hf) (v:Value) (w:World) (hs:Rl w v L):Calls Tryz.prog 81 #[v,.agg #[.int .i64 h.1,.int .i64 h.2.1,.int .i64 h.2.2]] w (AnsR (CutP L h) w):=by
 have VC:=Lib.hid (fun W (g:Grew w W) => rvalid_c K.toCode L v W (hs.grown g))
 have WC:=Lib.hid (fun W => rwell_c C.toCode h W)
 have HB:=Lib.hid (Blk.new w #[.int .i64 h.1,.int .i64 h.2.1,.int .i64 h.2.2] 78)
 by_cases hV:VlR L
 ·have VC:Hid (∀ W,Grew w W→Calls Tryz.prog 21 #[v] W fun e w' => e=.returned (.bool true)∧Grew W w'):=Lib.hid (fun W g => (VC.out W g).mono fun _ _ t => t.to hV)
  have HV:=Lib.hid hV
  by_cases hW:WF h
  ·have WC:Hid (∀ W,Calls Tryz.prog 124 #[.agg #[.int .i64 h.1,.int .i64 h.2.1,.int .i64 h.2.2]] W fun e w' => e=.returned (.bool true)∧Grew W w'):=Lib.hid (fun W => (WC.out W).mono fun _ _ t => t.to hW)
   have MC:Hid (∀ W b c',Grew w W→Blk W b #[.int .i64 h.1,.int .i64 h.2.1,.int .i64 h.2.2] 78→Calls Tryz.prog 125 #[v,.slice (some ⟨b,0,none⟩) 1 c',.func (.func 126) #[] #[]] W (AnsR (CutP L h) w)):=Lib.hid (fun W b c' g hb => (cut_made K C L h v W b c' (hs.grown g) hV hW hb).mono fun _ _ k => k.later g)
   obtain ⟨a,c,rfl⟩:=hs.shape
   clear hs hV hW
   go_enter Tryz.func81,Tryz.ntmps81
   go_wp2_with fail
   refine (VC.out _ ((Grew.refl _).alloc _ _)).mono ?_
   rintro e w1 ⟨rfl,g1⟩
   have G1:Grew w w1:=Grew.trans ((Grew.refl _).alloc _ _) g1
   have B1:=Lib.hid (HB.out.grown g1)
   obtain ⟨x0,x1,x2⟩:=Ct.blk_three B1.out
   clear g1
   go_wp2_with fail
   refine (WC.out _).mono ?_
   rintro e w2 ⟨rfl,g2⟩
   have G2:Grew w w2:=Grew.trans G1 g2
   have B2:=Lib.hid (B1.out.grown g2)
   obtain ⟨y0,y1,y2⟩:=Ct.blk_three B2.out
   clear g2 x0 x1 x2
   go_wp2_with fail
   refine (MC.out _ _ _ (G2.alloc _ _) (Blk.new w2 _ _)).mono ?_
   rintro e w3 ⟨u,k,r,hp,rfl,hr,g3⟩
   have HP:=Lib.hid hp
   have HR:=Lib.hid hr
   obtain ⟨ra,rc,rfl⟩:=hr.shape
   clear hp hr
   go_wp2_with fail
   go_ret2
   exact ⟨_,_,_,HP.out,rfl,HR.out,g3⟩
  ·have HW:=Lib.hid hW
   have WC:Hid (∀ W,Calls Tryz.prog 124 #[.agg #[.int .i64 h.1,.int .i64 h.2.1,.int .i64 h.2.2]] W fun e w' => e=.returned (.bool false)∧Grew W w'):=Lib.hid (fun W => (WC.out W).mono fun _ _ t => t.un hW)
   obtain ⟨a,c,rfl⟩:=hs.shape
   clear hs hV hW
   go_enter Tryz.func81,Tryz.ntmps81
   go_wp2_with fail
   refine (VC.out _ ((Grew.refl _).alloc _ _)).mono ?_
   rintro e w1 ⟨rfl,g1⟩
   have G1:Grew w w1:=Grew.trans ((Grew.refl _).alloc _ _) g1
   obtain ⟨x0,x1,x2⟩:=Ct.blk_three (HB.out.grown g1)
   clear g1
   go_wp2_with fail
   refine (WC.out _).mono ?_
   rintro e w2 ⟨rfl,g2⟩
   go_wp2_with fail
   go_ret2
   exact ⟨_,_,_,Or.inl ⟨fun h => HW.out h.2,rfl,rfl⟩,rfl,rl_none _ _ _,G1.trans g2⟩
 ·have HV:=Lib.hid hV
  have VC:Hid (∀ W,Grew w W→Calls Tryz.prog 21 #[v] W fun e w' => e=.returned (.bool false)∧Grew W w'):=Lib.hid (fun W g => (VC.out W g).mono fun _ _ t => t.un hV)
  obtain ⟨a,c,rfl⟩:=hs.shape
  clear hs hV
  go_enter Tryz.func81,Tryz.ntmps81
  go_wp2_with fail
  refine (VC.out _ ((Grew.refl _).alloc _ _)).mono ?_
  rintro e w1 ⟨rfl,g1⟩
  have G1:Grew w w1:=Grew.trans ((Grew.refl _).alloc _ _) g1
  clear g1
  go_wp2_with fail
  go_ret2
  exact ⟨_,_,_,Or.inl ⟨fun h => HV.out h.1,rfl,rfl⟩,rfl,rl_none _ _ _,G1⟩
theorem meet_made (K:Hl.CodeN) (C:Ct.CodeN) (L M:Rgn) (v u:Value) (W:World) (hs:Rl W v L) (hs2:Rl W u M) (hV:VlR L) (hM:VlR M) :
  Calls Tryz.prog 57 #[v,u,.func (.func 75) #[] #[]] W (AnsR (MetP L M) W):=by
 obtain ⟨a,c,U,rfl,hU,hSl,hRr⟩:=rl_fun hs
 obtain ⟨a2,c2,X,rfl,hX,hSl2,hRr2⟩:=rl_fun hs2
 have dm:∀ m,m < L.length * M.length→m / M.length < L.length∧m % M.length < M.length:=fun m hm => by
  have h0:0 < M.length:=by
   rcases Nat.eq_zero_or_pos M.length with h | h
   ·rw [h] at hm;omega
   ·exact h
  exact ⟨(Nat.div_lt_iff_lt_mul h0).2 hm,Nat.mod_lt _ h0⟩
 have plc:∀ m,m < L.length * M.length→∀ y,BothS (nth L (m / M.length)) (nth M (m % M.length)) y→Plc y:=fun m hm y hy => Ct.both_plc (hV.2 _ (nth_mem (dm m hm).1)).2.1 (hM.2 _ (nth_mem (dm m hm).2)).2.1 hy
 refine (madeP_c K 75 (enters_of Tryz.func75 (by kernel_rfl) rfl) a a2 L.length M.length c c2 U hU X hX hV.1 hM.1 W ⟨hRr,hRr2⟩ (fun m r => m < L.length * M.length∧PolR (BothS (nth L (m / M.length)) (nth M (m % M.length))) r) (fun _ _ => False) (fun m r hr => ⟨hr.2.vl (plc m hr.1),hr.2.len⟩) (fun m V hm gV => ?_)).mono ?_
 ·exact (C.meet_new _ _ (U (m / M.length)) (X (m % M.length)) V ((hSl _ (dm m hm).1).grown gV) ((hSl2 _ (dm m hm).2).grown gV) (hV.2 _ (nth_mem (dm m hm).1)) (hM.2 _ (nth_mem (dm m hm).2))).mono fun _ _ k => polr_what gV.size (plc m hm) (fun r hr => ⟨hm,hr⟩) k
 ·intro e w' k
  refine made_ans ⟨hV,hM⟩ (fun c hc => ?_) (fun _ _ _ k => k) k
  exact col_two (Q:=fun i k => PolR (BothS (nth L i) (nth M k))) (col_same (fun m r _ k => k.2) hc)
set_option maxRecDepth 100000 in
set_option maxHeartbeats 4000000 in
theorem rmeet_c (K:Hl.CodeN) (C:Ct.CodeN) (L M:Rgn) (v u:Value) (w:World) (hs:Rl w v L) (hs2:Rl w u M):Calls Tryz.prog 38 #[v,u] w (AnsR (MetP L M) w):=by
 have VC:=Lib.hid (fun W (g:Grew w W) => rvalid_c K.toCode L v W (hs.grown g))
 have UC:=Lib.hid (fun W (g:Grew w W) => rvalid_c K.toCode M u W (hs2.grown g))
 by_cases hV:VlR L
 ·have VC:Hid (∀ W,Grew w W→Calls Tryz.prog 21 #[v] W fun e w' => e=.returned (.bool true)∧Grew W w'):=Lib.hid (fun W g => (VC.out W g).mono fun _ _ t => t.to hV)
  by_cases hM:VlR M
  ·have UC:Hid (∀ W,Grew w W→Calls Tryz.prog 21 #[u] W fun e w' => e=.returned (.bool true)∧Grew W w'):=Lib.hid (fun W g => (UC.out W g).mono fun _ _ t => t.to hM)
   have MC:Hid (∀ W,Grew w W→Calls Tryz.prog 57 #[v,u,.func (.func 75) #[] #[]] W (AnsR (MetP L M) w)):=Lib.hid (fun W g => (meet_made K C L M v u W (hs.grown g) (hs2.grown g) hV hM).mono fun _ _ k => k.later g)
   obtain ⟨a,c,rfl⟩:=hs.shape
   obtain ⟨a2,c2,rfl⟩:=hs2.shape
   clear hV hM hs hs2
   go_enter Tryz.func38,Tryz.ntmps38
   go_wp2_with fail
   refine (VC.out _ (Grew.refl _)).mono ?_
   rintro e w1 ⟨rfl,g1⟩
   go_wp2_with fail
   refine (UC.out _ g1).mono ?_
   rintro e w2 ⟨rfl,g2⟩
   have G2:Grew w w2:=g1.trans g2
   clear g1 g2
   go_wp2_with fail
   refine (MC.out _ G2).mono ?_
   rintro e w3 ⟨z,k,r,hp,rfl,hr,g3⟩
   have HP:=Lib.hid hp
   have HR:=Lib.hid hr
   obtain ⟨ra,rc,rfl⟩:=hr.shape
   clear hp hr
   go_wp2_with fail
   go_ret2
   exact ⟨_,_,_,HP.out,rfl,HR.out,g3⟩
  ·have HM:=Lib.hid hM
   have UC:Hid (∀ W,Grew w W→Calls Tryz.prog 21 #[u] W fun e w' => e=.returned (.bool false)∧Grew W w'):=Lib.hid (fun W g => (UC.out W g).mono fun _ _ t => t.un hM)
   obtain ⟨a,c,rfl⟩:=hs.shape
   obtain ⟨a2,c2,rfl⟩:=hs2.shape
   clear hV hM hs hs2
   go_enter Tryz.func38,Tryz.ntmps38
   go_wp2_with fail
   refine (VC.out _ (Grew.refl _)).mono ?_
   rintro e w1 ⟨rfl,g1⟩
   go_wp2_with fail
   refine (UC.out _ g1).mono ?_
   rintro e w2 ⟨rfl,g2⟩
   go_wp2_with fail
   go_ret2
   exact ⟨_,_,_,Or.inl ⟨fun h => HM.out h.2,rfl,rfl⟩,rfl,rl_none _ _ _,g1.trans g2⟩
 ·have HV:=Lib.hid hV
  have VC:Hid (∀ W,Grew w W→Calls Tryz.prog 21 #[v] W fun e w' => e=.returned (.bool false)∧Grew W w'):=Lib.hid (fun W g => (VC.out W g).mono fun _ _ t => t.un hV)
  obtain ⟨a,c,rfl⟩:=hs.shape
  obtain ⟨a2,c2,rfl⟩:=hs2.shape
  clear hV hs hs2
  go_enter Tryz.func38,Tryz.ntmps38
  go_wp2_with fail
  refine (VC.out _ (Grew.refl _)).mono ?_
  rintro e w1 ⟨rfl,g1⟩
  go_wp2_with fail
  go_ret2
  exact ⟨_,_,_,Or.inl ⟨fun h => HV.out h.1,rfl,rfl⟩,rfl,rl_none _ _ _,g1⟩
def SumR (p q:List Pt) (r:Rgn):Prop:=∃ s,Mk.SumIs p q 0 s∧r=[s]
theorem sum1_c (F:∀ (p q:List Pt) (v u:Value) (w:World),Sl w v p→Sl w u q→Vl p→Vl q→Calls Tryz.prog 59 #[v,u] w (Mk.SumNew p q w)) (p q:List Pt) (v u:Value) (w0 w:World) (hs:Sl w v p) (hs2:Sl w u q) (hp:Vl p) (hq:Vl q) (PR:Rgn→Prop) (hPR:∀ r,SumR p q r→PR r) :
  Calls Tryz.prog 58 #[v,u] w (WhatSays w0 PR (fun k => k=3∧Mk.SumIs p q 3 []) w):=by
 have FC:=Lib.hid (F p q v u w hs hs2 hp hq)
 have HV:=Lib.hid (show Vl p∧Vl q from ⟨hp,hq⟩)
 have PC:=Lib.hid hPR
 obtain ⟨a,c,rfl⟩:=hs.shape
 obtain ⟨a2,c2,rfl⟩:=hs2.shape
 clear hs hs2 hp hq F hPR
 go_enter Tryz.func58,Tryz.ntmps58
 go_wp2_with fail
 refine FC.out.mono ?_
 rintro e w1 ⟨s,hsum,⟨hn,v1,rfl,hs1,g1⟩ | ⟨hpl,v1,t,ht,rfl,hn,g1⟩⟩
 ·have E:Hid (Mk.SumIs p q 3 []):=Lib.hid (Or.inr ⟨HV.out,s,hsum,Or.inl ⟨hn,rfl,rfl⟩⟩)
  obtain ⟨va,vc,rfl⟩:=hs1.shape
  clear hn hsum hs1
  go_wp2_with fail
  refine bodyPost_ret (v:=.tuple #[.slice va 0 vc,.bool false,.int .i64 3]) (by simp [results,Tryz.results58,go_sem, *]) rfl (Or.inr (Or.inr ⟨_,_,_,rfl,by decide,⟨rfl,E.out⟩,⟨_,_,_,rfl⟩,g1⟩))
 ·have E:Hid (Mk.SumIs p q 0 t):=Lib.hid (Or.inr ⟨HV.out,s,hsum,Or.inr ⟨hpl,rfl,ht⟩⟩)
  have N1:=Lib.hid hn
  obtain ⟨va,vc,rfl⟩:=hn.sl.shape
  clear hn hsum hpl ht
  go_wp2_with fail
  refine bodyPost_ret (v:=.tuple #[.slice va t.length vc,.bool true,.int .i64 0]) (by simp [results,Tryz.results58,go_sem, *]) rfl (Or.inl ⟨t,_,rfl,PC.out _ ⟨t,E.out,rfl⟩,(Mk.sums_law HV.out.1 HV.out.2 E.out).1,N1.out.sl,fun k e => Or.inr (N1.out.new k e),g1⟩)
theorem sum_made (K:Hl.CodeN) (F:∀ (p q:List Pt) (v u:Value) (w:World),Sl w v p→Sl w u q→Vl p→Vl q→Calls Tryz.prog 59 #[v,u] w (Mk.SumNew p q w)) (L:Rgn) (p:List Pt) (v u:Value) (W:World) (b c':Nat) (hs:Rl W v L) (hs2:Sl W u p) (hV:VlR L) (hp:Vl p) (hb:Blk W b #[u] 48) :
  Calls Tryz.prog 57 #[v,.slice (some ⟨b,0,none⟩) 1 c',.func (.func 58) #[] #[]] W (AnsR (SumP L p) W):=by
 obtain ⟨a,c,U,rfl,hU,hSl,hRr⟩:=rl_fun hs
 have h3:=hb.one.1
 have hX:IsHd u:=by
  obtain ⟨a2,c2,e⟩:=hs2.shape
  exact ⟨_,_,_,e⟩
 refine (madeP_c K 58 (enters_of Tryz.func58 (by kernel_rfl) rfl) a (some ⟨b,0,none⟩) L.length 1 c c' U hU (fun _ => u) (fun _ => hX) hV.1 (by omega) W ⟨hRr,fun k hk => ⟨b,0,rfl,⟨hb.lt,by have:=hb.lt;omega⟩,by
   obtain rfl:k=0:=by omega
   exact h3⟩⟩ (fun m r => m < L.length∧SumR (nth L m) p r) (fun m k => k=3∧Mk.SumIs (nth L m) p 3 []) (fun m r hr => ?_) (fun m V hm gV => ?_)).mono ?_
 ·obtain ⟨hm,s,hsum,rfl⟩:=hr
  exact ⟨fun q hq => by
   obtain rfl:=List.mem_singleton.1 hq
   exact (Mk.sums_law (hV.2 _ (nth_mem hm)) hp hsum).1,by simp⟩
 ·have hm':m < L.length:=by omega
  rw [Nat.div_one]
  exact sum1_c F (nth L m) p (U m) u W V ((hSl m hm').grown gV) (hs2.grown gV) (hV.2 _ (nth_mem hm')) hp _ (fun r hr => ⟨hm',hr⟩)
 ·rintro e w' (⟨m,k,v,hm,hk,_,rfl,hr,g⟩ | ⟨c,out,v,hc,ht,rfl,hr,g⟩)
  ·exact ⟨v,k,[],Or.inl ⟨hk.1,rfl,⟨hV,hp⟩,m,by omega,hk.2⟩,rfl,hr,g⟩
  ·rw [Nat.mul_one] at hc
   exact ⟨v,0,out,Or.inr (Or.inr ⟨⟨hV,hp⟩,rfl,c,col_same (fun m r _ k => k.2) hc,ht⟩),rfl,hr,g⟩
set_option maxRecDepth 100000 in
set_option maxHeartbeats 4000000 in
theorem rsum_c (K:Hl.CodeN) (F:∀ (p q:List Pt) (v u:Value) (w:World),Sl w v p→Sl w u q→Vl p→Vl q→Calls Tryz.prog 59 #[v,u] w (Mk.SumNew p q w)) (L:Rgn) (p:List Pt) (v u:Value) (w:World) (hs:Rl w v L) (hs2:Sl w u p) (hl:p.length≤9223372036854775807):Calls Tryz.prog 29 #[v,u] w (AnsR (SumP L p) w):=by
 have VC:=Lib.hid (fun W (g:Grew w W) => rvalid_c K.toCode L v W (hs.grown g))
 have UC:=Lib.hid (fun W (g:Grew w W) => K.toCode.valid p u W (hs2.grown g) hl)
 by_cases hV:VlR L
 ·have VC:Hid (∀ W,Grew w W→Calls Tryz.prog 21 #[v] W fun e w' => e=.returned (.bool true)∧Grew W w'):=Lib.hid (fun W g => (VC.out W g).mono fun _ _ t => t.to hV)
  by_cases hM:Vl p
  ·have UC:Hid (∀ W,Grew w W→Calls Tryz.prog 56 #[u] W fun e w' => e=.returned (.bool true)∧Grew W w'):=Lib.hid (fun W g => (UC.out W g).mono fun _ _ t => t.to hM)
   have MC:Hid (∀ W b c',Grew w W→Blk W b #[u] 48→Calls Tryz.prog 57 #[v,.slice (some ⟨b,0,none⟩) 1 c',.func (.func 58) #[] #[]] W (AnsR (SumP L p) w)):=Lib.hid (fun W b c' g hb => (sum_made K F L p v u W b c' (hs.grown g) (hs2.grown g) hV hM hb).mono fun _ _ k => k.later g)
   obtain ⟨a,c,rfl⟩:=hs.shape
   obtain ⟨a2,c2,rfl⟩:=hs2.shape
   clear hV hM hs hs2 hl
   go_enter Tryz.func29,Tryz.ntmps29
   go_wp2_with fail
   refine (VC.out _ (Grew.refl _)).mono ?_
   rintro e w1 ⟨rfl,g1⟩
   go_wp2_with fail
   refine (UC.out _ g1).mono ?_
   rintro e w2 ⟨rfl,g2⟩
   have G2:Grew w w2:=g1.trans g2
   clear g1 g2
   go_wp2_with fail
   refine (MC.out _ _ _ (G2.alloc _ _) (Blk.new w2 _ _)).mono ?_
   rintro e w3 ⟨z,k,r,hp,rfl,hr,g3⟩
   have HP:=Lib.hid hp
   have HR:=Lib.hid hr
   obtain ⟨ra,rc,rfl⟩:=hr.shape
   clear hp hr
   go_wp2_with fail
   go_ret2
   exact ⟨_,_,_,HP.out,rfl,HR.out,g3⟩
  ·have HM:=Lib.hid hM
   have UC:Hid (∀ W,Grew w W→Calls Tryz.prog 56 #[u] W fun e w' => e=.returned (.bool false)∧Grew W w'):=Lib.hid (fun W g => (UC.out W g).mono fun _ _ t => t.un hM)
   obtain ⟨a,c,rfl⟩:=hs.shape
   obtain ⟨a2,c2,rfl⟩:=hs2.shape
   clear hV hM hs hs2 hl
   go_enter Tryz.func29,Tryz.ntmps29
   go_wp2_with fail
   refine (VC.out _ (Grew.refl _)).mono ?_
   rintro e w1 ⟨rfl,g1⟩
   go_wp2_with fail
   refine (UC.out _ g1).mono ?_
   rintro e w2 ⟨rfl,g2⟩
   go_wp2_with fail
   go_ret2
   exact ⟨_,_,_,Or.inr (Or.inl ⟨fun h => HM.out h.2,rfl,rfl⟩),rfl,rl_none _ _ _,g1.trans g2⟩
 ·have HV:=Lib.hid hV
  have VC:Hid (∀ W,Grew w W→Calls Tryz.prog 21 #[v] W fun e w' => e=.returned (.bool false)∧Grew W w'):=Lib.hid (fun W g => (VC.out W g).mono fun _ _ t => t.un hV)
  obtain ⟨a,c,rfl⟩:=hs.shape
  obtain ⟨a2,c2,rfl⟩:=hs2.shape
  clear hV hs hs2 hl
  go_enter Tryz.func29,Tryz.ntmps29
  go_wp2_with fail
  refine (VC.out _ (Grew.refl _)).mono ?_
  rintro e w1 ⟨rfl,g1⟩
  go_wp2_with fail
  go_ret2
  exact ⟨_,_,_,Or.inr (Or.inl ⟨fun h => HV.out h.1,rfl,rfl⟩),rfl,rl_none _ _ _,g1⟩
end Rg
end Go.Proofs.YtbpgfenippiepaaGreatDoor
namespace Go.Proofs.YtbpgfenippiepaaGreatDoor
open Go.RowKit Go.Shelf Hl
namespace Rg
theorem has1_c (K:Hl.Code) (p:List Pt) (x:Pt) (u:Value) (r:Bool) (hr:r=true↔Hs p x) (B:Nat) (W:World) (hs:Sl W u p) (hp:Vl p) (hx:Plc x) (hB:Blk W B #[.int .i64 x.1,.int .i64 x.2] 24):Calls Tryz.prog 50 (#[u] ++ #[.pointer (some ⟨B,0,none⟩)]) W fun e w' => e=.returned (.bool r)∧Grew W w':=by
 have HC:Hid (Calls Tryz.prog 51 #[u,.agg #[.int .i64 x.1,.int .i64 x.2]] W fun e w' => e=.returned (.bool r)∧Grew W w'):=Lib.hid ((rhas_c K p x u W hs hp hx).mono fun _ _ t => by
  obtain ⟨r',rfl,h,g⟩:=t
  have:r'=r:=by
   cases r' <;> cases r <;> simp_all
  exact ⟨by rw [this],g⟩)
 obtain ⟨x0,x1⟩:=blk_two hB
 obtain ⟨a,c,rfl⟩:=hs.shape
 have hb:=hB.lt
 clear hs hp hx K hr hB
 simp only [List.append_toArray,List.cons_append,List.nil_append]
 go_enter Tryz.func50,Tryz.ntmps50
 go_wp2_with fail
 refine HC.out.mono ?_
 rintro e w1 ⟨rfl,g1⟩
 go_wp2_with fail
 go_ret
 exact ⟨rfl,g1⟩
set_option maxRecDepth 100000 in
set_option maxHeartbeats 4000000 in
theorem rhasall_c (K:Hl.Code) (L:Rgn) (x:Pt) (v:Value) (w:World) (hs:Rl w v L):Calls Tryz.prog 22 #[v,.agg #[.int .i64 x.1,.int .i64 x.2]] w (AnsB (HasP L x) w):=by
 have VC:=Lib.hid (fun W (g:Grew w W) => rvalid_c K L v W (hs.grown g))
 have UC:=Lib.hid (fun W (g:Grew w W) => rplace_c K x W)
 have B0:=Lib.hid (Blk.new w #[.int .i64 x.1,.int .i64 x.2] 24)
 have G0:Grew w (w.alloc (.cells #[.int .i64 x.1,.int .i64 x.2] 24)):=(Grew.refl w).alloc _ _
 by_cases hV:VlR L
 ·have VC:Hid (∀ W,Grew w W→Calls Tryz.prog 21 #[v] W fun e w' => e=.returned (.bool true)∧Grew W w'):=Lib.hid (fun W g => (VC.out W g).mono fun _ _ t => t.to hV)
  by_cases hM:Plc x
  ·have UC:Hid (∀ W,Grew w W→Calls Tryz.prog 48 #[.agg #[.int .i64 x.1,.int .i64 x.2]] W fun e w' => e=.returned (.bool true)∧Grew W w'):=Lib.hid (fun W g => (UC.out W g).mono fun _ _ t => t.to hM)
   have MC:Hid (∀ W,Grew w W→Blk W w.heap.size #[.int .i64 x.1,.int .i64 x.2] 24→Calls Tryz.prog 49 #[v,.func (.func 50) #[] #[.pointer (some ⟨w.heap.size,0,none⟩)]] W (Tells (InR L x) W)):=Lib.hid (fun W g hB => by
    obtain ⟨d,hd⟩:∃ d:Nat→Bool,∀ i,d i=true↔Hs (nth L i) x:=⟨fun i => @decide _ (Classical.propDecidable (Hs (nth L i) x)),fun i => @decide_eq_true_iff _ (Classical.propDecidable _)⟩
    refine (contains_r 50 #[.pointer (some ⟨w.heap.size,0,none⟩)] (enters_of Tryz.func50 (by kernel_rfl) rfl) d L v W (hs.grown g) (by have:=hV.1;omega) (fun i u W' hi g' hu => has1_c K (nth L i) x u (d i) (hd i) w.heap.size W' hu (hV.2 _ (nth_mem hi)) hM (hB.grown g'))).mono ?_
    rintro e w' ⟨r,rfl,hr,g⟩
    refine ⟨r,rfl,hr.trans ?_,g⟩
    constructor
    ·rintro ⟨i,hi,h⟩
     exact ⟨_,nth_mem hi,(hd i).1 h⟩
    ·rintro ⟨p,hp,h⟩
     obtain ⟨i,hi,rfl⟩:=mem_nth hp
     exact ⟨i,hi,(hd i).2 h⟩)
   have HM:=Lib.hid (And.intro hV hM)
   obtain ⟨a,c,rfl⟩:=hs.shape
   clear hs hV hM K
   go_enter Tryz.func22,Tryz.ntmps22
   go_wp2_with fail
   refine (VC.out _ G0).mono ?_
   rintro e w1 ⟨rfl,g1⟩
   have B1:=Lib.hid (B0.out.grown g1)
   have G1:=Grew.trans G0 g1
   obtain ⟨x0,x1⟩:=blk_two B1.out
   clear g1
   go_wp2_with fail
   refine (UC.out _ G1).mono ?_
   rintro e w2 ⟨rfl,g2⟩
   have B2:=Lib.hid (B1.out.grown g2)
   have G2:=Grew.trans G1 g2
   clear g2
   go_wp2_with fail
   refine (MC.out _ G2 B2.out).mono ?_
   rintro e w3 ⟨r,rfl,hr,g3⟩
   have HR:=Lib.hid hr
   have G3:=Grew.trans G2 g3
   clear hr
   go_wp2_with fail
   go_ret2
   exact ⟨_,_,Or.inr ⟨HM.out,HR.out,rfl⟩,rfl,G3⟩
  ·have HM:=Lib.hid hM
   have UC:Hid (∀ W,Grew w W→Calls Tryz.prog 48 #[.agg #[.int .i64 x.1,.int .i64 x.2]] W fun e w' => e=.returned (.bool false)∧Grew W w'):=Lib.hid (fun W g => (UC.out W g).mono fun _ _ t => t.un hM)
   obtain ⟨a,c,rfl⟩:=hs.shape
   clear hs hV hM K
   go_enter Tryz.func22,Tryz.ntmps22
   go_wp2_with fail
   refine (VC.out _ G0).mono ?_
   rintro e w1 ⟨rfl,g1⟩
   have B1:=Lib.hid (B0.out.grown g1)
   have G1:=Grew.trans G0 g1
   obtain ⟨x0,x1⟩:=blk_two B1.out
   clear g1
   go_wp2_with fail
   refine (UC.out _ G1).mono ?_
   rintro e w2 ⟨rfl,g2⟩
   go_wp2_with fail
   go_ret2
   exact ⟨_,_,Or.inl ⟨fun h => HM.out h.2,rfl,rfl⟩,rfl,Grew.trans G1 g2⟩
 ·have HV:=Lib.hid hV
  have VC:Hid (∀ W,Grew w W→Calls Tryz.prog 21 #[v] W fun e w' => e=.returned (.bool false)∧Grew W w'):=Lib.hid (fun W g => (VC.out W g).mono fun _ _ t => t.un hV)
  obtain ⟨a,c,rfl⟩:=hs.shape
  clear hs hV K
  go_enter Tryz.func22,Tryz.ntmps22
  go_wp2_with fail
  refine (VC.out _ G0).mono ?_
  rintro e w1 ⟨rfl,g1⟩
  go_wp2_with fail
  go_ret2
  exact ⟨_,_,Or.inl ⟨fun h => HV.out h.1,rfl,rfl⟩,rfl,Grew.trans G0 g1⟩
end Rg
end Go.Proofs.YtbpgfenippiepaaGreatDoor
namespace Go.Proofs.YtbpgfenippiepaaGreatDoor
open Go.RowKit Go.Shelf Hl
namespace Rg
theorem flat_min {L:Rgn} (h:1≤L.length) (hL:AllV L) (u v:Int):IsMin L.flatten u v (bl (fun i => mn u v (nth L i)) (L.length - 1)):=by
 obtain ⟨⟨j,hj,e⟩,h1⟩:=bl_min (fun i => mn u v (nth L i)) (L.length - 1)
 obtain ⟨⟨x,hx,ex⟩,_⟩:=mn_is (hL _ (nth_mem (L:=L) (i:=j) (by omega))).1.1 u v
 refine ⟨⟨x,List.mem_flatten.2 ⟨_,nth_mem (i:=j) (by omega),hx⟩,ex.trans e⟩,fun y hy => ?_⟩
 obtain ⟨p,hp,hy⟩:=List.mem_flatten.1 hy
 obtain ⟨i,hi,rfl⟩:=mem_nth hp
 exact Int.le_trans (h1 i (by omega)) ((mn_is (hL _ hp).1.1 u v).2 y hy)
theorem flat_max {L:Rgn} (h:1≤L.length) (hL:AllV L) (u v:Int):IsMin L.flatten (-u) (-v) (-(bh (fun i => mx u v (nth L i)) (L.length - 1))):=by
 obtain ⟨⟨j,hj,e⟩,h1⟩:=bh_max (fun i => mx u v (nth L i)) (L.length - 1)
 obtain ⟨⟨x,hx,ex⟩,_⟩:=mx_is (hL _ (nth_mem (L:=L) (i:=j) (by omega))).1.1 u v
 refine ⟨⟨x,List.mem_flatten.2 ⟨_,nth_mem (i:=j) (by omega),hx⟩,by rw [ex,← e]⟩,fun y hy => ?_⟩
 obtain ⟨p,hp,hy⟩:=List.mem_flatten.1 hy
 obtain ⟨i,hi,rfl⟩:=mem_nth hp
 have:=h1 i (by omega)
 have:=(mx_is (hL _ hp).1.1 u v).2 y hy
 omega
def E4 (w:World) (B:Nat) (a b c d:Int):Prop:=(w.cell? ⟨B,0,none⟩=some (.int .i64 a)∧w.cell? ⟨B,1,none⟩=some (.int .i64 b)∧w.cell? ⟨B,2,none⟩=some (.int .i64 c)∧w.cell? ⟨B,3,none⟩=some (.int .i64 d))∧(w.frozen? ⟨B,0,none⟩=false∧w.frozen? ⟨B,1,none⟩=false∧w.frozen? ⟨B,2,none⟩=false∧w.frozen? ⟨B,3,none⟩=false)∧B < w.heap.size
theorem E4.grown {w w':World} {B:Nat} {a b c d:Int} (h:E4 w B a b c d) (k:Grew w w'):E4 w' B a b c d:=by
 obtain ⟨c1,f1,z1⟩:=laid k
 obtain ⟨h1,h2,h3⟩:=h
 unfold E4
 rw [c1 _ _ h3,c1 _ _ h3,c1 _ _ h3,c1 _ _ h3,f1 _ _ h3,f1 _ _ h3,f1 _ _ h3,f1 _ _ h3]
 exact ⟨h1,h2,Nat.lt_of_lt_of_le h3 z1⟩
set_option maxRecDepth 100000 in
set_option maxHeartbeats 8000000 in
theorem rbox_c (K:Hl.Code) (L:Rgn) (v:Value) (w:World) (hs:Rl w v L):Calls Tryz.prog 25 #[v] w (BoxA L w):=by
 have VC:=Lib.hid (fun W (g:Grew w W) => rvalid_c K L v W (hs.grown g))
 have TA:=Lib.hid ((Blk.new w #[.int .i64 0,.int .i64 0] 24).grown ((Grew.refl _).alloc #[.int .i64 0,.int .i64 0] 24))
 have TB:=Lib.hid (Blk.new (w.alloc (.cells #[.int .i64 0,.int .i64 0] 24)) #[.int .i64 0,.int .i64 0] 24)
 rw [World.size_alloc] at TB
 have G2:Grew w ((w.alloc (.cells #[.int .i64 0,.int .i64 0] 24)).alloc (.cells #[.int .i64 0,.int .i64 0] 24)):=((Grew.refl w).alloc _ _).alloc _ _
 by_cases hV:VlR L
 ·have VC:Hid (∀ W,Grew w W→Calls Tryz.prog 21 #[v] W fun e w' => e=.returned (.bool true)∧Grew W w'):=Lib.hid (fun W g => (VC.out W g).mono fun _ _ t => t.to hV)
  have HV:=Lib.hid hV
  by_cases h0:L.length=0
  ·have HN:Hid (L=[]):=Lib.hid (List.length_eq_zero_iff.1 h0)
   obtain ⟨a,c,rfl⟩:=hs.shape
   rw [h0] at VC ⊢
   clear hs hV h0 K
   go_enter Tryz.func25,Tryz.ntmps25
   go_wp2_with fail
   refine (VC.out _ G2).mono ?_
   rintro e w1 ⟨rfl,g1⟩
   have G1:=Grew.trans G2 g1
   have A1:=TA.out.grown g1
   have B1:=TB.out.grown g1
   have fa:=blk_frozen A1
   have fb:=blk_frozen B1
   have la:=A1.lt
   have lb:=B1.lt
   obtain ⟨x0,x1⟩:=blk_two A1
   obtain ⟨y0,y1⟩:=blk_two B1
   clear g1 A1 B1
   go_wp2_with fail
   refine bodyPost_ret (v:=.tuple #[.agg #[.int .i64 0,.int .i64 0],.agg #[.int .i64 0,.int .i64 0],.bool false,.int .i64 0]) (by simp [results,Tryz.results25,go_sem, *]) rfl ⟨(0,0),(0,0),false,0,Or.inr (Or.inl ⟨HV.out,HN.out,rfl,rfl,rfl,rfl⟩),rfl,gw⟩
  ·obtain ⟨a,c,U,rfl,hU,hSl,hRr⟩:=rl_fun hs
   have n0:1≤L.length:=by omega
   have m0:¬ (L.length:Int)=0:=by omega
   have FIN:Hid (BoxP L (bl (fun i => mn 1 0 (nth L i)) (L.length - 1),bl (fun i => mn 0 1 (nth L i)) (L.length - 1)) (bh (fun i => mx 1 0 (nth L i)) (L.length - 1),bh (fun i => mx 0 1 (nth L i)) (L.length - 1)) true 0):=Lib.hid (Or.inr (Or.inr ⟨hV,fun e => h0 (by rw [e];rfl),⟨flat_min n0 hV.2 1 0,flat_max n0 hV.2 1 0,flat_min n0 hV.2 0 1,flat_max n0 hV.2 0 1⟩,rfl,rfl⟩))
   have BC:Hid (∀ i W,i < L.length→Grew w W→Calls Tryz.prog 52 #[U i] W fun e w' => e=.returned (.agg #[.int .i64 (mn 1 0 (nth L i)),.int .i64 (mn 0 1 (nth L i)),.int .i64 (mx 1 0 (nth L i)),.int .i64 (mx 0 1 (nth L i))])∧Grew W w'):=Lib.hid (fun i W hi g => boxOf_c K (nth L i) (U i) W ((hSl i hi).grown g) (hV.2 _ (nth_mem hi)))
   obtain ⟨b,o,rfl,⟨hb,_⟩,z0⟩:=hRr 0 (by omega)
   have RC:Hid (∀ i,i < L.length→w.cell? ⟨b,o+i,none⟩=some (U i)):=Lib.hid (fun i hi => by
    obtain ⟨b',o',e,_,h⟩:=hRr i hi
    cases e
    exact h)
   rw [Nat.add_zero] at z0
   have BC0:=Lib.hid (fun W (g:Grew w W) => BC.out 0 W (by omega) g)
   have Q0:Hid (E4=E4):=Lib.hid rfl
   have l32:L.length≤32:=hV.1
   have hmx:Tryz.prog.follows .mixedOrders=true:=by kernel_rfl
   clear hs hV hU hSl hRr K
   go_enter Tryz.func25,Tryz.ntmps25
   go_wp2_with fail
   refine (VC.out _ G2).mono ?_
   rintro e w1 ⟨rfl,g1⟩
   have TA1:=Lib.hid (TA.out.grown g1)
   have TB1:=Lib.hid (TB.out.grown g1)
   have G1:=Grew.trans G2 g1
   have z1:=(Grew.cell G1 hb).trans z0
   have hb1:=Nat.lt_of_lt_of_le hb G1.size
   have hz:=TB1.out.lt
   clear g1 G2 TA TB
   go_wp2_with fail
   refine (BC0.out _ G1).mono ?_
   rintro e w2 ⟨rfl,g2⟩
   have hT:E4 (w2.alloc (.cells #[.int .i64 (mn 1 0 (nth L 0)),.int .i64 (mn 0 1 (nth L 0)),.int .i64 (mx 1 0 (nth L 0)),.int .i64 (mx 0 1 (nth L 0))] 83)) w2.heap.size (bl (fun i => mn 1 0 (nth L i)) (0)) (bl (fun i => mn 0 1 (nth L i)) (0)) (bh (fun i => mx 1 0 (nth L i)) (0)) (bh (fun i => mx 0 1 (nth L i)) (0)):=by unfold E4;simp [go_sem,bl,bh]
   have T0:=Lib.hid hT
   have hB:=g2.size
   have G1:=Grew.trans G1 g2
   have TA1:=Lib.hid (TA1.out.grown g2)
   have TB1:=Lib.hid (TB1.out.grown g2)
   have hz:=TB1.out.lt
   have GZ:Grew w2 w2:=Grew.refl _
   clear g2 hT
   have HB:=Lib.hid hb
   clear z0 z1 hb hb1 BC0
   go_wp2_with fail
   go_loopw [8,25] (fun _ i wr => ∃ k:Nat,k≤L.length∧i=.int .i64 k∧E4 wr w2.heap.size (bl (fun i => mn 1 0 (nth L i)) (k - 1)) (bl (fun i => mn 0 1 (nth L i)) (k - 1)) (bh (fun i => mx 1 0 (nth L i)) (k - 1)) (bh (fun i => mx 0 1 (nth L i)) (k - 1))∧Grew w2 wr) (fun _ i _ => L.length - (intOf i).toNat)
   case atStart => exact ⟨0,Nat.zero_le _,rfl,T0.out,gw⟩
   case round =>
    obtain ⟨k,hk,rfl,hT,hG⟩:=hrel
    by_cases hlt:k < L.length
    ·have x0:=(Grew.cell (Grew.trans G1 hG) HB.out).trans (RC.out k hlt)
     have i0:(0:Int)≤(k:Int):=by omega
     have i1:(k:Int) < (L.length:Int):=by omega
     have BK:=Lib.hid (fun W (g:Grew wr W) => BC.out k W hlt (Grew.trans (Grew.trans G1 hG) g))
     have E0:Hid (bl (fun i => mn 1 0 (nth L i)) k=mnI (bl (fun i => mn 1 0 (nth L i)) (k - 1)) (mn 1 0 (nth L k))):=Lib.hid (bl_next _ k)
     have E1:Hid (bl (fun i => mn 0 1 (nth L i)) k=mnI (bl (fun i => mn 0 1 (nth L i)) (k - 1)) (mn 0 1 (nth L k))):=Lib.hid (bl_next _ k)
     have E2:Hid (bh (fun i => mx 1 0 (nth L i)) k=mxI (bh (fun i => mx 1 0 (nth L i)) (k - 1)) (mx 1 0 (nth L k))):=Lib.hid (bh_next _ k)
     have E3:Hid (bh (fun i => mx 0 1 (nth L i)) k=mxI (bh (fun i => mx 0 1 (nth L i)) (k - 1)) (mx 0 1 (nth L k))):=Lib.hid (bh_next _ k)
     generalize bl (fun i => mn 1 0 (nth L i)) (k - 1)=s0 at hT E0
     generalize bl (fun i => mn 0 1 (nth L i)) (k - 1)=s1 at hT E1
     generalize bh (fun i => mx 1 0 (nth L i)) (k - 1)=s2 at hT E2
     generalize bh (fun i => mx 0 1 (nth L i)) (k - 1)=s3 at hT E3
     generalize mn 1 0 (nth L k)=v0 at BK E0
     generalize mn 0 1 (nth L k)=v1 at BK E1
     generalize mx 1 0 (nth L k)=v2 at BK E2
     generalize mx 0 1 (nth L k)=v3 at BK E3
     have WC:=Lib.hid (fun W => with_c s0 s1 s2 s3 v0 v1 v2 v3 W)
     generalize mnI s0 v0=r0 at WC E0
     generalize mnI s1 v1=r1 at WC E1
     generalize mxI s2 v2=r2 at WC E2
     generalize mxI s3 v3=r3 at WC E3
     have lB:=hT.2.2
     have HT:=Lib.hid hT
     obtain ⟨⟨b0,b1,b2,b3⟩,⟨f0,f1,f2,f3⟩,_⟩:=hT
     go_wp2_with fail
     refine Bar.begin_ (S:=(fun w' => w'.cell? ⟨w2.heap.size,0,none⟩=some (.int .i64 (s0))∧w'.cell? ⟨w2.heap.size,1,none⟩=some (.int .i64 (s1))∧w'.cell? ⟨w2.heap.size,2,none⟩=some (.int .i64 (s2))∧w'.cell? ⟨w2.heap.size,3,none⟩=some (.int .i64 (s3)))) 4 (by kernel_rfl) (by simp [go_sem, *]) (fun hHeld => ?_)
     refine Bar.Walk.take [4] (i:=0) (oi:=⟨some 29,_,_,_,_,_⟩) (v:=?_) rfl (by kernel_rfl) (by kernel_rfl) (by kernel_rfl) (by kernel_rfl) (fun _ _ _ h => h) (Or.inl ⟨by rfl,?_⟩) (by assumption) ?_
     rotate_left
     ·intro w hSw;(try dsimp only at hSw);go_simp;(try with_reducible rfl)
     try simp only [Act.put,List.setIfInBounds_toArray,List.set_cons_zero,List.set_cons_succ]
     refine Bar.Walk.takeY (i:=1) (oi:=⟨some 30,_,_,_,_,_⟩) (v:=?_) rfl (by kernel_rfl) (by kernel_rfl) (by kernel_rfl) rfl (fun _ _ _ h => h) (Or.inl ⟨by rfl,?_⟩) (by assumption) ?_
     rotate_left
     ·intro w;go_simp;(try with_reducible rfl)
     try simp only [Act.put,List.setIfInBounds_toArray,List.set_cons_zero,List.set_cons_succ]
     refine Bar.Walk.step (i:=2) (o:=⟨some 31,_,_,_,_,_⟩) (by kernel_rfl) rfl (fun K hK => ?_)
     go_simp
     refine (BK.out _ (by first | exact Grew.refl _ | exact (Grew.refl _).drew)).mono ?_
     rintro e wb ⟨rfl,g1⟩
     have GX:Grew wr wb:=by first | exact g1 | exact Grew.trans (Grew.refl _).drew g1
     have T1:=Lib.hid (HT.out.grown GX)
     obtain ⟨⟨t0,t1,t2,t3⟩,⟨t4,t5,t6,t7⟩,_⟩:=T1.out
     go_wp2_with fail
     refine hK.out _ _ (by (try dsimp only);simp [go_sem, *]) (fun h1 => ?_)
     clear hK K hHeld
     have hHeld:=h1
     clear h1
     try simp only [Act.put,List.setIfInBounds_toArray,List.set_cons_zero,List.set_cons_succ]
     refine Bar.Walk.step (i:=3) (o:=⟨some 32,_,_,_,_,_⟩) (by kernel_rfl) rfl (fun K hK => ?_)
     go_simp
     refine (WC.out _).mono ?_
     rintro e wq ⟨rfl,g2⟩
     have T2:=T1.out.grown g2
     obtain ⟨⟨u0,u1,u2,u3⟩,⟨f0,f1,f2,f3⟩,lb2⟩:=T2
     clear t0 t1 t2 t3 t4 t5 t6 t7
     go_wp2_with fail
     refine hK.out _ _ (by (try dsimp only);simp [go_sem, *]) (fun h1 => ?_)
     clear hK K hHeld
     have hHeld:=h1
     clear h1
     try simp only [Act.put,List.setIfInBounds_toArray,List.set_cons_zero,List.set_cons_succ]
     refine Bar.Walk.pass (o:=⟨none,_,_,_,_,_⟩) (by kernel_rfl) rfl (by kernel_rfl) (fun K hK => ?_)
     go_simp
     refine hK.out _ _ ?_
     clear hK K hHeld
     try simp only [Act.put,List.setIfInBounds_toArray,List.set_cons_zero,List.set_cons_succ]
     refine wpAny_done (by kernel_rfl) ?_ _
     go_wp2_with fail
     go_roundw
     case rel => exact ⟨k+1,by omega,by go_num,by rw [Nat.add_sub_cancel,E0.out,E1.out,E2.out,E3.out];(unfold E4;simp [go_sem, *]),by
      have G9:Grew w2 wq:=Grew.trans (Grew.trans hG GX) g2
      exact (((G9.setCell (by first | (simp;done) | (simp;omega)) _).setCell (by first | (simp;done) | (simp;omega)) _).setCell (by first | (simp;done) | (simp;omega)) _).setCell (by first | (simp;done) | (simp;omega)) _⟩
     case measure => simp [intOf];omega
    ·obtain rfl:k=L.length:=by omega
     obtain ⟨⟨b0,b1,b2,b3⟩,_,lB⟩:=hT
     have A1:=TA1.out.grown hG
     have B1:=TB1.out.grown hG
     have fa:=blk_frozen A1
     have fb:=blk_frozen B1
     have la:=A1.lt
     have lb:=B1.lt
     have na:¬ w2.heap.size=w.heap.size:=by omega
     have nb:¬ w2.heap.size=w.heap.size+1:=by omega
     have na':¬ w.heap.size=w2.heap.size:=by omega
     have nb':¬ w.heap.size+1=w2.heap.size:=by omega
     have GF:=Grew.trans G1 hG
     clear hG G1
     have f0:=fa 0
     have f1:=fa 1
     have f2:=fb 0
     have f3:=fb 1
     obtain ⟨x0,x1⟩:=blk_two A1
     obtain ⟨y0,y1⟩:=blk_two B1
     clear fa fb A1 B1
     go_wp2_with fail
     go_region_o
     all_goals go_wp2_with fail
     all_goals refine bodyPost_ret (v:=.tuple #[.agg #[.int .i64 (bl (fun i => mn 1 0 (nth L i)) (L.length - 1)),.int .i64 (bl (fun i => mn 0 1 (nth L i)) (L.length - 1))],.agg #[.int .i64 (bh (fun i => mx 1 0 (nth L i)) (L.length - 1)),.int .i64 (bh (fun i => mx 0 1 (nth L i)) (L.length - 1))],.bool true,.int .i64 0]) (by simp [results,Tryz.results25,go_sem, *]) rfl ⟨_,_,_,_,FIN.out,rfl,gw⟩
 ·have HV:=Lib.hid hV
  have VC:Hid (∀ W,Grew w W→Calls Tryz.prog 21 #[v] W fun e w' => e=.returned (.bool false)∧Grew W w'):=Lib.hid (fun W g => (VC.out W g).mono fun _ _ t => t.un hV)
  obtain ⟨a,c,rfl⟩:=hs.shape
  clear hs hV K
  go_enter Tryz.func25,Tryz.ntmps25
  go_wp2_with fail
  refine (VC.out _ G2).mono ?_
  rintro e w1 ⟨rfl,g1⟩
  have G1:=Grew.trans G2 g1
  have A1:=TA.out.grown g1
  have B1:=TB.out.grown g1
  have fa:=blk_frozen A1
  have fb:=blk_frozen B1
  have la:=A1.lt
  have lb:=B1.lt
  obtain ⟨x0,x1⟩:=blk_two A1
  obtain ⟨y0,y1⟩:=blk_two B1
  clear g1 A1 B1
  go_wp2_with fail
  refine bodyPost_ret (v:=.tuple #[.agg #[.int .i64 0,.int .i64 0],.agg #[.int .i64 0,.int .i64 0],.bool false,.int .i64 1]) (by simp [results,Tryz.results25,go_sem, *]) rfl ⟨(0,0),(0,0),false,1,Or.inl ⟨HV.out,rfl,rfl,rfl,rfl⟩,rfl,gw⟩
end Rg
end Go.Proofs.YtbpgfenippiepaaGreatDoor
