/-
  The landed package region: what half-planes leave, one after the other; pairs, without the program.
  The landed package region: Cut, Meet, Sum.
  What package ray owes; the landed package and the reference pay it.
  The landed changed, Shift and Mirror.
  The landed package ring: Near; what package ring owes is paid.
-/
import Derived.Test.YtbpgfenippiepaaGreatDoorMRegL
import Derived.Test.YtbpgfenippiepaaGreatDoorMCutCk
import Derived.Test.YtbpgfenippiepaaGreatDoorMMinkOne
import Derived.Test.YtbpgfenippiepaaGreatDoorMRegCon
import Derived.Test.YtbpgfenippiepaaGreatDoorMRayRefC
import Derived.Test.YtbpgfenippiepaaGreatDoorMHullCk
import Derived.Shelf.Abstract
import Derived.Test.YtbpgfenippiepaaGreatDoorMMinkSeq
import Derived.Test.YtbpgfenippiepaaGreatDoorMRngB
import Derived.Test.YtbpgfenippiepaaGreatDoorMRngD
namespace Go.Proofs.YtbpgfenippiepaaGreatDoor
open Go.RowKit Go.Shelf Hl
namespace Rg
open Ct (Hf WF LeftS BothS Poly)
def hth (H:List Hf) (k:Nat):Hf:=H.getD k (0,0,0)
def HSl (w:World) (v:Value) (H:List Hf):Prop:=∃ b o c,v=.slice (some ⟨b,o,none⟩) H.length c∧b < w.heap.size∧∀ k,k < H.length→w.cell? ⟨b,o+k * 3,none⟩=some (.int .i64 (hth H k).1)∧w.cell? ⟨b,o+k * 3+1,none⟩=some (.int .i64 (hth H k).2.1)∧w.cell? ⟨b,o+k * 3+2,none⟩=some (.int .i64 (hth H k).2.2)
theorem HSl.grown {w w':World} {v:Value} {H:List Hf} (h:HSl w v H) (g:Grew w w'):HSl w' v H:=by
 obtain ⟨b,o,c,e,hb,hc⟩:=h
 exact ⟨b,o,c,e,Nat.lt_of_lt_of_le hb g.size,fun k hk => ⟨(Grew.cell g hb).trans (hc k hk).1,(Grew.cell g hb).trans (hc k hk).2.1,(Grew.cell g hb).trans (hc k hk).2.2⟩⟩
theorem rwell_c (C:Ct.Code) (h:Hf) (w:World):Calls Tryz.prog 124 #[.agg #[.int .i64 h.1,.int .i64 h.2.1,.int .i64 h.2.2]] w (Tells (WF h) w):=by
 by_cases hh:WF h
 ·have IC:Hid (∀ W,Calls Tryz.prog 160 #[.agg #[.int .i64 h.1,.int .i64 h.2.1,.int .i64 h.2.2],.agg #[.int .i64 0,.int .i64 0]] W (Ct.YesNo (Ct.ov h (0,0)≤0) W)):=Lib.hid (fun W => C.in_ok h (0,0) W hh (by decide))
  have HH:=Lib.hid hh
  clear hh C
  go_enter Tryz.func124,Tryz.ntmps124
  go_wp2_with fail
  refine (IC.out _).mono ?_
  rintro e w1 ⟨r,rfl,_,g1⟩
  go_wp2_with fail
  go_ret
  exact Tells.yes HH.out rfl (((Grew.refl w).alloc _ _).trans g1)
 ·have IC:Hid (∀ W,Calls Tryz.prog 160 #[.agg #[.int .i64 h.1,.int .i64 h.2.1,.int .i64 h.2.2],.agg #[.int .i64 0,.int .i64 0]] W fun e w' => e=.returned (.tuple #[.bool false,.int .i64 1])∧Grew W w'):=Lib.hid (fun W => C.in_bad h (0,0) W (fun k => hh k.1))
  have HH:=Lib.hid hh
  clear hh C
  go_enter Tryz.func124,Tryz.ntmps124
  go_wp2_with fail
  refine (IC.out _).mono ?_
  rintro e w1 ⟨rfl,g1⟩
  go_wp2_with fail
  go_ret
  exact Tells.no HH.out rfl (((Grew.refl w).alloc _ _).trans g1)
theorem col_add {P:Nat→Rgn→Prop} {n:Nat}:∀ {m:Nat} {c:Rgn},Col P (n+m) c→∃ a b,Col P n a∧Col (fun k => P (n+k)) m b∧c=a ++ b
 | 0,c,h => ⟨c,[],h,rfl,by simp⟩
 | m+1,c,⟨x,y,hx,hy,e⟩ => by
   obtain ⟨a,b,ha,hb,e'⟩:=col_add hx
   exact ⟨a,b ++ y,ha,⟨b,y,hb,hy,rfl⟩,by rw [e,e',List.append_assoc]⟩
theorem col_same {P P':Nat→Rgn→Prop}:∀ {n:Nat} {c:Rgn},(∀ m r,m < n→P m r→P' m r)→Col P n c→Col P' n c
 | 0,_,_,h => h
 | n+1,_,hP,⟨a,b,ha,hb,e⟩ => ⟨a,b,col_same (fun m r hm => hP m r (by omega)) ha,hP n b (by omega) hb,e⟩
theorem col_two {Q:Nat→Nat→Rgn→Prop} {n2:Nat}:∀ {n1:Nat} {c:Rgn},Col (fun m => Q (m / n2) (m % n2)) (n1 * n2) c→Col (fun i => Col (fun k => Q i k) n2) n1 c
 | 0,c,h => by
   rw [Nat.zero_mul] at h
   exact h
 | n1+1,c,h => by
   rw [Nat.add_mul,Nat.one_mul] at h
   obtain ⟨a,b,ha,hb,e⟩:=col_add h
   exact ⟨a,b,col_two ha,col_same (fun k r hk h => by rwa [(div_at hk).1,(div_at hk).2] at h) hb,e⟩
end Rg
end Go.Proofs.YtbpgfenippiepaaGreatDoor
namespace Go.Proofs.YtbpgfenippiepaaGreatDoor
open Go.RowKit Go.Shelf Hl
namespace Rg
open Ct (Hf WF LeftS BothS Poly)
theorem made_ans {n:Nat} {PR:Nat→Rgn→Prop} {PE:Nat→Int→Prop} {B:Prop} {C:Rgn→Prop} {w:World} {e:Ending} {w':World} (hB:B) (hC:∀ c,Col PR n c→C c) (hE:∀ m k,m < n→¬ PE m k) (h:MadeSays n PR PE w e w'):AnsR (Made B C) w e w':=by
 rcases h with ⟨m,k,v,hm,hk,_⟩ | ⟨c,out,v,hc,ht,rfl,hr,g⟩
 ·exact absurd hk (hE m k hm)
 ·exact ⟨v,0,out,Or.inr ⟨hB,rfl,c,hC c hc,ht⟩,rfl,hr,g⟩
theorem polr_what {S:Pt→Prop} {w0 w:World} {PR:Rgn→Prop} {PE:Int→Prop} {e:Ending} {w':World} (_hb:w0.heap.size≤w.heap.size) (hS:∀ y,S y→Plc y) (hP:∀ r,PolR S r→PR r) (h:Ct.PolyNew S w e w'):WhatSays w0 PR PE w e w':=by
 rcases h with ⟨q,v,hq,rfl,hn,g⟩ | ⟨hn,v,rfl,hs,g⟩
 ·exact Or.inl ⟨q,v,rfl,hP _ (Or.inl ⟨q,hq,rfl⟩),hq.vl hS,hn.sl,fun k e => Or.inr (hn.new k e),g⟩
 ·obtain ⟨a,c,e⟩:=hs.shape
  exact Or.inr (Or.inl ⟨v,rfl,hP _ (Or.inr ⟨hn,rfl⟩),⟨_,_,_,e⟩,g⟩)
theorem AnsR.later {P:Int→Rgn→Prop} {w w1:World} {e:Ending} {w':World} (h:AnsR P w1 e w') (g:Grew w w1):AnsR P w e w':=by
 obtain ⟨v,k,r,hp,he,hr,g'⟩:=h
 exact ⟨v,k,r,hp,he,hr,g.trans g'⟩
theorem cut_made (K:Hl.CodeN) (C:Ct.CodeN) (L:Rgn) (h:Hf) (v:Value) (W:World) (b c':Nat) (hs:Rl W v L) (hV:VlR L) (hW:WF h) (hb:Blk W b #[.int .i64 h.1,.int .i64 h.2.1,.int .i64 h.2.2] 78) :
  Calls Tryz.prog 125 #[v,.slice (some ⟨b,0,none⟩) 1 c',.func (.func 126) #[] #[]] W (AnsR (CutP L h) W):=by
 obtain ⟨a,c,U,rfl,hU,hSl,hRr⟩:=rl_fun hs
 have h3:=Ct.blk_three hb
 refine (madeH_c K 126 (enters_of Tryz.func126 (by kernel_rfl) rfl) a (some ⟨b,0,none⟩) L.length 1 c c' U hU (fun _ => h) hV.1 (by omega) W ⟨hRr,fun k hk => ⟨b,0,rfl,⟨hb.lt,by have:=hb.lt;omega⟩,by
   obtain rfl:k=0:=by omega
   exact h3⟩⟩ (fun m r => m < L.length∧PolR (LeftS (nth L m) h) r) (fun _ _ => False) (fun m r hr => ⟨hr.2.vl (fun y hy => Ct.left_plc2 (hV.2 _ (nth_mem hr.1)).2.1 hy),hr.2.len⟩) (fun m V hm gV => ?_)).mono ?_
 ·have hm':m < L.length:=by omega
  rw [Nat.div_one]
  exact (C.cut_new (nth L m) h (U m) V ((hSl m hm').grown gV) (hV.2 _ (nth_mem hm')) hW).mono fun _ _ k => polr_what gV.size (fun y hy => Ct.left_plc2 (hV.2 _ (nth_mem hm')).2.1 hy) (fun r hr => ⟨hm',hr⟩) k
 ·intro e w' k
  refine made_ans ⟨hV,hW⟩ (fun c hc => ?_) (fun _ _ _ k => k) k
  rw [Nat.mul_one] at hc
  exact col_same (fun m r _ k => k.2) hc
set_option maxRecDepth 100000 in
set_option maxHeartbeats 4000000 in
theorem rcut_c (K:Hl.CodeN) (C:Ct.CodeN) (L:Rgn) (h:Hf) (v:Value) (w:World) (hs:Rl w v L):Calls Tryz.prog 81 #[v,.agg #[.int .i64 h.1,.int .i64 h.2.1,.int .i64 h.2.2]] w (AnsR (CutP L h) w):=by
 have VC:=Lib.hid (fun W (g:Grew w W) => rvalid_c K.toCode L v W (hs.grown g))
 have WC:=Lib.hid (fun W => rwell_c C.toCode h W)
 have HB:=Lib.hid (Blk.new w #[.int .i64 h.1,.int .i64 h.2.1,.int .i64 h.2.2] 78)
 by_cases hV:VlR L
 ·have VC:Hid (∀ W,Grew w W→Calls Tryz.prog 21 #[v] W fun e w' => e=.returned (.bool true)∧Grew W w'):=Lib.hid (fun W g => (VC.out W g).mono fun _ _ t => t.to hV)
  have HV:=Lib.hid hV
  by_cases hW:WF h
  ·have WC:Hid (∀ W,Calls Tryz.prog 124 #[.agg #[.int .i64 h.1,.int .i64 h.2.1,.int .i64 h.2.2]] W fun e w' => e=.returned (.bool true)∧Grew W w'):=Lib.hid (fun W => (WC.out W).mono fun _ _ t => t.to hW)
   have MC:Hid (∀ W b c',Grew w W→Blk W b #[.int .i64 h.1,.int .i64 h.2.1,.int .i64 h.2.2] 78→Calls Tryz.prog 125 #[v,.slice (some ⟨b,0,none⟩) 1 c',.func (.func 126) #[] #[]] W (AnsR (CutP L h) w)):=Lib.hid (fun W b c' g hb => (cut_made K C L h v W b c' (hs.grown g) hV hW hb).mono fun _ _ k => k.later g)
   obtain ⟨a,c,rfl⟩:=hs.shape
   clear hs hV hW
   go_enter Tryz.func81,Tryz.ntmps81
   go_wp2_with fail
   refine (VC.out _ ((Grew.refl _).alloc _ _)).mono ?_
   rintro e w1 ⟨rfl,g1⟩
   have G1:Grew w w1:=Grew.trans ((Grew.refl _).alloc _ _) g1
   have B1:=Lib.hid (HB.out.grown g1)
   obtain ⟨x0,x1,x2⟩:=Ct.blk_three B1.out
   clear g1
   go_wp2_with fail
   refine (WC.out _).mono ?_
   rintro e w2 ⟨rfl,g2⟩
   have G2:Grew w w2:=Grew.trans G1 g2
   have B2:=Lib.hid (B1.out.grown g2)
   obtain ⟨y0,y1,y2⟩:=Ct.blk_three B2.out
   clear g2 x0 x1 x2
   go_wp2_with fail
   refine (MC.out _ _ _ (G2.alloc _ _) (Blk.new w2 _ _)).mono ?_
   rintro e w3 ⟨u,k,r,hp,rfl,hr,g3⟩
   have HP:=Lib.hid hp
   have HR:=Lib.hid hr
   obtain ⟨ra,rc,rfl⟩:=hr.shape
   clear hp hr
   go_wp2_with fail
   go_ret2
   exact ⟨_,_,_,HP.out,rfl,HR.out,g3⟩
  ·have HW:=Lib.hid hW
   have WC:Hid (∀ W,Calls Tryz.prog 124 #[.agg #[.int .i64 h.1,.int .i64 h.2.1,.int .i64 h.2.2]] W fun e w' => e=.returned (.bool false)∧Grew W w'):=Lib.hid (fun W => (WC.out W).mono fun _ _ t => t.un hW)
   obtain ⟨a,c,rfl⟩:=hs.shape
   clear hs hV hW
   go_enter Tryz.func81,Tryz.ntmps81
   go_wp2_with fail
   refine (VC.out _ ((Grew.refl _).alloc _ _)).mono ?_
   rintro e w1 ⟨rfl,g1⟩
   have G1:Grew w w1:=Grew.trans ((Grew.refl _).alloc _ _) g1
   obtain ⟨x0,x1,x2⟩:=Ct.blk_three (HB.out.grown g1)
   clear g1
   go_wp2_with fail
   refine (WC.out _).mono ?_
   rintro e w2 ⟨rfl,g2⟩
   go_wp2_with fail
   go_ret2
   exact ⟨_,_,_,Or.inl ⟨fun h => HW.out h.2,rfl,rfl⟩,rfl,rl_none _ _ _,G1.trans g2⟩
 ·have HV:=Lib.hid hV
  have VC:Hid (∀ W,Grew w W→Calls Tryz.prog 21 #[v] W fun e w' => e=.returned (.bool false)∧Grew W w'):=Lib.hid (fun W g => (VC.out W g).mono fun _ _ t => t.un hV)
  obtain ⟨a,c,rfl⟩:=hs.shape
  clear hs hV
  go_enter Tryz.func81,Tryz.ntmps81
  go_wp2_with fail
  refine (VC.out _ ((Grew.refl _).alloc _ _)).mono ?_
  rintro e w1 ⟨rfl,g1⟩
  have G1:Grew w w1:=Grew.trans ((Grew.refl _).alloc _ _) g1
  clear g1
  go_wp2_with fail
  go_ret2
  exact ⟨_,_,_,Or.inl ⟨fun h => HV.out h.1,rfl,rfl⟩,rfl,rl_none _ _ _,G1⟩
theorem meet_made (K:Hl.CodeN) (C:Ct.CodeN) (L M:Rgn) (v u:Value) (W:World) (hs:Rl W v L) (hs2:Rl W u M) (hV:VlR L) (hM:VlR M) :
  Calls Tryz.prog 57 #[v,u,.func (.func 75) #[] #[]] W (AnsR (MetP L M) W):=by
 obtain ⟨a,c,U,rfl,hU,hSl,hRr⟩:=rl_fun hs
 obtain ⟨a2,c2,X,rfl,hX,hSl2,hRr2⟩:=rl_fun hs2
 have dm:∀ m,m < L.length * M.length→m / M.length < L.length∧m % M.length < M.length:=fun m hm => by
  have h0:0 < M.length:=by
   rcases Nat.eq_zero_or_pos M.length with h | h
   ·rw [h] at hm;omega
   ·exact h
  exact ⟨(Nat.div_lt_iff_lt_mul h0).2 hm,Nat.mod_lt _ h0⟩
 have plc:∀ m,m < L.length * M.length→∀ y,BothS (nth L (m / M.length)) (nth M (m % M.length)) y→Plc y:=fun m hm y hy => Ct.both_plc (hV.2 _ (nth_mem (dm m hm).1)).2.1 (hM.2 _ (nth_mem (dm m hm).2)).2.1 hy
 refine (madeP_c K 75 (enters_of Tryz.func75 (by kernel_rfl) rfl) a a2 L.length M.length c c2 U hU X hX hV.1 hM.1 W ⟨hRr,hRr2⟩ (fun m r => m < L.length * M.length∧PolR (BothS (nth L (m / M.length)) (nth M (m % M.length))) r) (fun _ _ => False) (fun m r hr => ⟨hr.2.vl (plc m hr.1),hr.2.len⟩) (fun m V hm gV => ?_)).mono ?_
 ·exact (C.meet_new _ _ (U (m / M.length)) (X (m % M.length)) V ((hSl _ (dm m hm).1).grown gV) ((hSl2 _ (dm m hm).2).grown gV) (hV.2 _ (nth_mem (dm m hm).1)) (hM.2 _ (nth_mem (dm m hm).2))).mono fun _ _ k => polr_what gV.size (plc m hm) (fun r hr => ⟨hm,hr⟩) k
 ·intro e w' k
  refine made_ans ⟨hV,hM⟩ (fun c hc => ?_) (fun _ _ _ k => k) k
  exact col_two (Q:=fun i k => PolR (BothS (nth L i) (nth M k))) (col_same (fun m r _ k => k.2) hc)
set_option maxRecDepth 100000 in
set_option maxHeartbeats 4000000 in
theorem rmeet_c (K:Hl.CodeN) (C:Ct.CodeN) (L M:Rgn) (v u:Value) (w:World) (hs:Rl w v L) (hs2:Rl w u M):Calls Tryz.prog 38 #[v,u] w (AnsR (MetP L M) w):=by
 have VC:=Lib.hid (fun W (g:Grew w W) => rvalid_c K.toCode L v W (hs.grown g))
 have UC:=Lib.hid (fun W (g:Grew w W) => rvalid_c K.toCode M u W (hs2.grown g))
 by_cases hV:VlR L
 ·have VC:Hid (∀ W,Grew w W→Calls Tryz.prog 21 #[v] W fun e w' => e=.returned (.bool true)∧Grew W w'):=Lib.hid (fun W g => (VC.out W g).mono fun _ _ t => t.to hV)
  by_cases hM:VlR M
  ·have UC:Hid (∀ W,Grew w W→Calls Tryz.prog 21 #[u] W fun e w' => e=.returned (.bool true)∧Grew W w'):=Lib.hid (fun W g => (UC.out W g).mono fun _ _ t => t.to hM)
   have MC:Hid (∀ W,Grew w W→Calls Tryz.prog 57 #[v,u,.func (.func 75) #[] #[]] W (AnsR (MetP L M) w)):=Lib.hid (fun W g => (meet_made K C L M v u W (hs.grown g) (hs2.grown g) hV hM).mono fun _ _ k => k.later g)
   obtain ⟨a,c,rfl⟩:=hs.shape
   obtain ⟨a2,c2,rfl⟩:=hs2.shape
   clear hV hM hs hs2
   go_enter Tryz.func38,Tryz.ntmps38
   go_wp2_with fail
   refine (VC.out _ (Grew.refl _)).mono ?_
   rintro e w1 ⟨rfl,g1⟩
   go_wp2_with fail
   refine (UC.out _ g1).mono ?_
   rintro e w2 ⟨rfl,g2⟩
   have G2:Grew w w2:=g1.trans g2
   clear g1 g2
   go_wp2_with fail
   refine (MC.out _ G2).mono ?_
   rintro e w3 ⟨z,k,r,hp,rfl,hr,g3⟩
   have HP:=Lib.hid hp
   have HR:=Lib.hid hr
   obtain ⟨ra,rc,rfl⟩:=hr.shape
   clear hp hr
   go_wp2_with fail
   go_ret2
   exact ⟨_,_,_,HP.out,rfl,HR.out,g3⟩
  ·have HM:=Lib.hid hM
   have UC:Hid (∀ W,Grew w W→Calls Tryz.prog 21 #[u] W fun e w' => e=.returned (.bool false)∧Grew W w'):=Lib.hid (fun W g => (UC.out W g).mono fun _ _ t => t.un hM)
   obtain ⟨a,c,rfl⟩:=hs.shape
   obtain ⟨a2,c2,rfl⟩:=hs2.shape
   clear hV hM hs hs2
   go_enter Tryz.func38,Tryz.ntmps38
   go_wp2_with fail
   refine (VC.out _ (Grew.refl _)).mono ?_
   rintro e w1 ⟨rfl,g1⟩
   go_wp2_with fail
   refine (UC.out _ g1).mono ?_
   rintro e w2 ⟨rfl,g2⟩
   go_wp2_with fail
   go_ret2
   exact ⟨_,_,_,Or.inl ⟨fun h => HM.out h.2,rfl,rfl⟩,rfl,rl_none _ _ _,g1.trans g2⟩
 ·have HV:=Lib.hid hV
  have VC:Hid (∀ W,Grew w W→Calls Tryz.prog 21 #[v] W fun e w' => e=.returned (.bool false)∧Grew W w'):=Lib.hid (fun W g => (VC.out W g).mono fun _ _ t => t.un hV)
  obtain ⟨a,c,rfl⟩:=hs.shape
  obtain ⟨a2,c2,rfl⟩:=hs2.shape
  clear hV hs hs2
  go_enter Tryz.func38,Tryz.ntmps38
  go_wp2_with fail
  refine (VC.out _ (Grew.refl _)).mono ?_
  rintro e w1 ⟨rfl,g1⟩
  go_wp2_with fail
  go_ret2
  exact ⟨_,_,_,Or.inl ⟨fun h => HV.out h.1,rfl,rfl⟩,rfl,rl_none _ _ _,g1⟩
end Rg
end Go.Proofs.YtbpgfenippiepaaGreatDoor
namespace Go.Proofs.YtbpgfenippiepaaGreatDoor
open Go.RowKit Hl
namespace Ry
structure Code (T:World→Prop):Prop where
 keep:∀ W w,Grew W w→T W→T w
theorem SecNew.says {a n:Nat} {lo hi:Int} {w:World} {e:Ending} {w':World} (h:SecNew a n lo hi w e w'):SecSays a n lo hi w e w':=by
 obtain ⟨q,v,h1,h2,h3,h4,h5⟩:=h
 exact ⟨q,v,h1,h2,h3,h4.sl,h5⟩
end Ry
end Go.Proofs.YtbpgfenippiepaaGreatDoor
namespace Go.Proofs.YtbpgfenippiepaaGreatDoor
open Go.RowKit Go.Shelf Hl
attribute [local go_sem] Oper.semAt_some
namespace Mk
theorem map_end {p out:List Pt} {h:Pt→Pt} (hl:out.length=p.length) (he:∀ j,j < p.length→at' out j=h (at' p j)):out=p.map h:=by
 refine List.ext_getElem (by simp [hl]) fun i h1 h2 => ?_
 have hi:i < p.length:=by simpa using h2
 have:=he i hi
 unfold at' at this
 simp [h1,hi] at this
 simpa using this
theorem at_set {p:List Pt} {i j:Nat} {x:Pt} (hi:i < p.length):at' (p.set i x) j=if i=j then x else at' p j:=by
 by_cases e:i=j
 ·subst e
  unfold at'
  simp [List.getD,hi]
 ·unfold at'
  simp [List.getD,e]
set_option maxRecDepth 100000 in
set_option maxHeartbeats 4000000 in
theorem changed_c (gf:Nat) (lb:Array Value) (eg:∀ args X,(callFunc gf args).run Tryz.prog X=.ok (.enter gf args) X) (h:Pt→Pt) (p:List Pt) (b o c:Nat) (w:World) (hr:Row w b o p) (h1:1≤p.length) (h64:p.length≤64)
  (hc:∀ x X,x ∈ p→Grew w X→Calls Tryz.prog gf (#[.agg #[.int .i64 x.1,.int .i64 x.2]] ++ lb) X fun e Y => e=.returned (.agg #[.int .i64 (h x).1,.int .i64 (h x).2])∧Grew X Y) :
  Calls Tryz.prog 63 #[.slice (some ⟨b,o,none⟩) p.length c,.func (.func gf) #[] lb] w fun e w' => ∃ v,e=.returned v∧Sl w' v (p.map h)∧Grew w w':=by
 have HR:=Lib.hid hr
 have CH:=Lib.hid hc
 have CL:=Lib.hid (clone_c p b o c w hr (by omega))
 have hb:=hr.1
 obtain ⟨n,hn⟩:∃ n,p.length=n:=⟨_,rfl⟩
 have HN:Hid (p.length=n∧1≤n∧n≤64):=Lib.hid ⟨hn,by omega,by omega⟩
 rw [hn] at CL ⊢
 clear hr hc hn h1 h64
 go_enter Tryz.func63,Tryz.ntmps63
 go_wp2_with fail
 refine CL.out.mono ?_
 rintro e w1 ⟨v,rfl,ow,G1⟩
 obtain ⟨g,cap,rfl,oa⟩:=ow.at (fun e => by have:=HN.out;rw [e] at this;simp at this;omega)
 have O1:=Lib.hid oa
 rw [HN.out.1]
 clear CL ow oa
 go_wp2_with fail
 go_loopw [12] (fun i wr => ∃ (k:Nat) (out:List Pt),k≤n∧i=.int .i64 k∧Hid (OwnAt w.heap.size wr g cap out∧out.length=n∧(∀ j,j < k→at' out j=h (at' p j))∧(∀ j,k≤j→j < n→at' out j=at' p j)∧Grew w wr)) (fun i _ => n - (intOf i).toNat)
 case atStart => exact ⟨0,p,Nat.zero_le _,rfl,Lib.hid ⟨O1.out,HN.out.1,fun j hj => absurd hj (Nat.not_lt_zero _),fun j _ _ => rfl,G1⟩⟩
 case round =>
  obtain ⟨k,out,hk,rfl,HO⟩:=hrel
  by_cases hlt:k < n
  ·have klt:k < p.length:=by rw [HN.out.1];exact hlt
   have kout:Hid (k < out.length):=Lib.hid (by rw [HO.out.2.1];exact hlt)
   obtain ⟨x,hx⟩:∃ x,at' p k=x:=⟨_,rfl⟩
   have HX:=Lib.hid hx
   have hxm:x ∈ p:=by rw [← hx];exact at_mem klt
   obtain ⟨q0,q1⟩:=(HR.out.grown HO.out.2.2.2.2).2 k klt
   rw [hx] at q0 q1
   have i0:(0:Int)≤(k:Int):=by omega
   have i1:(k:Int) < (n:Int):=by omega
   have bw:b < wr.heap.size:=by have:=HO.out.2.2.2.2.size;omega
   have bw1:b < wr.heap.size+1:=by omega
   have hl1:(k:Int)+1≤64:=by have:=HN.out;omega
   have CX:=Lib.hid (CH.out x (wr.alloc (.cells #[.int .i64 x.1,.int .i64 x.2] 24)) hxm (HO.out.2.2.2.2.alloc _ _))
   obtain ⟨y,hy⟩:∃ y,h x=y:=⟨_,rfl⟩
   have HY:=Lib.hid hy
   rw [hy] at CX
   clear hx hy klt hxm
   go_wp2_with (go_at_fn gf;refine CX.out.mono ?_;rintro e w2 ⟨rfl,g2⟩;have GX:Hid (Grew wr w2):=Lib.hid (Grew.trans ((Grew.refl wr).alloc _ _) g2);have HO2:=Lib.hid (HO.out.1.grew GX.out);obtain ⟨e0,e1⟩:=HO2.out.cells kout.out;have f0:=HO2.out.frozen (k * 2);have f1:=HO2.out.frozen (k * 2+1);clear g2)
   go_roundw
   case rel =>
    refine ⟨k+1,out.set k y,by omega,by go_num,Lib.hid ⟨HO2.out.set kout.out y,by rw [List.length_set];exact HO.out.2.1,fun j hj => ?_,fun j h1 h2 => ?_,((HO.out.2.2.2.2.trans GX.out).setCell HO2.out.1 _).setCell HO2.out.1 _⟩⟩
    ·rw [at_set kout.out]
     by_cases ej:k=j
     ·subst ej
      rw [if_pos rfl,HX.out,HY.out]
     ·rw [if_neg ej]
      exact HO.out.2.2.1 j (by omega)
    ·rw [at_set kout.out,if_neg (by omega)]
     exact HO.out.2.2.2.1 j (by omega) h2
   case measure => simp [intOf];omega
  ·obtain rfl:k=n:=by omega
   go_wp2_with fail
   go_ret
   have em:=map_end (h:=h) (HO.out.2.1.trans HN.out.1.symm) (fun j hj => HO.out.2.2.1 j (by rw [← HN.out.1];exact hj))
   refine ⟨_,rfl,?_,HO.out.2.2.2.2⟩
   rw [← em,← HO.out.2.1]
   exact Sl.of HO.out.1.row
theorem shift1_c (x z:Pt) (B:Nat) (w:World) (hx:Wp x) (hz:Wp z) (hB:B < w.heap.size) (h0:w.cell? ⟨B,0,none⟩=some (.int .i64 z.1)∧w.cell? ⟨B,1,none⟩=some (.int .i64 z.2)) :
  Calls Tryz.prog 64 #[.agg #[.int .i64 x.1,.int .i64 x.2],.pointer (some ⟨B,0,none⟩)] w fun e w' => e=.returned (.agg #[.int .i64 (plus x z).1,.int .i64 (plus x z).2])∧Grew w w':=by
 have PL:=Lib.hid (fun X => plus_m x z X hx hz)
 obtain ⟨c0,c1⟩:=h0
 obtain ⟨s,hs⟩:∃ s,plus x z=s:=⟨_,rfl⟩
 rw [hs] at PL ⊢
 have b1:B < w.heap.size+1:=by omega
 have b2:B < w.heap.size+1+1:=by omega
 clear hx hz hs
 go_enter Tryz.func64,Tryz.ntmps64
 go_wp2_with (refine (PL.out _).mono ?_;rintro e w' ⟨rfl,rfl⟩)
 refine bodyPost_ret (v:=.agg #[.int .i64 s.1,.int .i64 s.2]) (by simp [results,Tryz.results64,go_sem]) rfl ⟨rfl,?_⟩
 repeat' (first | (with_reducible exact Grew.refl _) | (with_reducible refine Grew.alloc ?_ _ _) | (with_reducible refine Grew.setCell ?_ ?_ _) | go_size)
theorem plc_wp {x:Pt} (h:Plc x):Wp x:=by
 unfold Wp
 unfold Plc at h
 omega
theorem one_iff {z:Pt}:Vl [z]↔Plc z:=⟨fun h => h.2.1 0 (by simp),one_vl⟩
theorem shift_bad_c (p:List Pt) (z:Pt) (v:Value) (w:World) (hs:Sl w v p) (h1:p.length≤9223372036854775807) (h:¬ (Vl p∧Plc z)):Calls Tryz.prog 31 #[v,.agg #[.int .i64 z.1,.int .i64 z.2]] w (Empty 1 w):=by
 have HS:=Lib.hid hs
 have L1:=Lib.hid h1
 have g0:Grew w (w.alloc (.cells #[.int .i64 z.1,.int .i64 z.2] 24)):=(Grew.refl w).alloc _ _
 by_cases hv:Vl p
 ·have V:=Lib.hid hv
  have V2:Hid (¬ Vl [z]):=Lib.hid (fun g => h ⟨hv,one_iff.1 g⟩)
  clear hs h1 h hv
  go_enter Tryz.func31,Tryz.ntmps31
  go_wp2_with fail
  refine ((Hl.landed.valid p v _ (HS.out.grown g0) L1.out).mono fun _ _ t => t.to V.out).mono ?_
  rintro e w1 ⟨rfl,G1⟩
  obtain ⟨c1,f1,z1⟩:=laid G1
  try simp at z1
  have k0:w1.cell? ⟨w.heap.size,0,none⟩=some (.int .i64 z.1):=by simp [go_sem, *]
  have k1:w1.cell? ⟨w.heap.size,1,none⟩=some (.int .i64 z.2):=by simp [go_sem, *]
  clear c1 f1
  go_wp2_with fail
  refine ((Hl.landed.valid [z] _ _ (Sl.of (row_new [z] #[.int .i64 z.1,.int .i64 z.2] rfl w1 24)) (by simp)).mono fun _ _ t => t.un V2.out).mono ?_
  rintro e w2 ⟨rfl,g2⟩
  go_wp2_with fail
  go_ret2
  exact ⟨_,rfl,Or.inl ⟨rfl,none,0,rfl⟩,Grew.trans (Grew.trans g0 G1) (Grew.trans ((Grew.refl w1).alloc _ _) g2)⟩
 ·have V:=Lib.hid hv
  clear hs h1 h hv
  go_enter Tryz.func31,Tryz.ntmps31
  go_wp2_with fail
  refine ((Hl.landed.valid p v _ (HS.out.grown g0) L1.out).mono fun _ _ t => t.un V.out).mono ?_
  rintro e w1 ⟨rfl,G1⟩
  go_wp2_with fail
  go_ret2
  exact ⟨_,rfl,Or.inl ⟨rfl,none,0,rfl⟩,Grew.trans g0 G1⟩
theorem shift_vl {p:List Pt} (vp:Vl p) (z:Pt):Vl (shift p z)↔Plcs (shift p z):=⟨fun h => h.2.1,fun h => vl_of (shift_pg vp.pg z) (by rw [shift_len];exact vp.1.2) h⟩
theorem shift_ok_c (p:List Pt) (z:Pt) (v:Value) (w:World) (hs:Sl w v p) (vp:Vl p) (hz:Plc z):Calls Tryz.prog 31 #[v,.agg #[.int .i64 z.1,.int .i64 z.2]] w (ShiftSays p z w):=by
 have n0:1≤p.length:=vp.1.1
 obtain ⟨b,o,c,rfl,hr⟩:=hs.row (fun e => by rw [e] at n0;cases n0)
 have HS:=Lib.hid hs
 have VP:=Lib.hid vp
 have VZ:Hid (Vl [z]):=Lib.hid (one_iff.2 hz)
 have L1:Hid (p.length≤9223372036854775807):=Lib.hid (by have:=vp.1.2;omega)
 have g0:Grew w (w.alloc (.cells #[.int .i64 z.1,.int .i64 z.2] 24)):=(Grew.refl w).alloc _ _
 have eg:∀ args X,(callFunc 64 args).run Tryz.prog X=.ok (.enter 64 args) X:=enters_of Tryz.func64 (by kernel_rfl) rfl
 have CH:=Lib.hid (fun X (g:Grew w X) (hB:w.heap.size < X.heap.size) (hc:X.cell? ⟨w.heap.size,0,none⟩=some (.int .i64 z.1)∧X.cell? ⟨w.heap.size,1,none⟩=some (.int .i64 z.2)) =>
  changed_c 64 #[.pointer (some ⟨w.heap.size,0,none⟩)] eg (fun x => plus x z) p b o c X (hr.grown g) vp.1.1 vp.1.2 (fun x Y hx gY => shift1_c x z w.heap.size Y (plc_wp (plc_mem vp.2.1 hx)) (plc_wp hz) (Nat.lt_of_lt_of_le hB gY.size) ⟨(gY.cell hB).trans hc.1,(gY.cell hB).trans hc.2⟩))
 have SV:Hid (Vl (shift p z)↔Plcs (shift p z)):=Lib.hid (shift_vl vp z)
 have SLn:Hid ((shift p z).length≤9223372036854775807):=Lib.hid (by rw [shift_len];exact L1.out)
 clear hs vp hr n0 eg hz
 go_enter Tryz.func31,Tryz.ntmps31
 go_wp2_with fail
 refine ((Hl.landed.valid p _ _ (HS.out.grown g0) L1.out).mono fun _ _ t => t.to VP.out).mono ?_
 rintro e w1 ⟨rfl,G1⟩
 obtain ⟨c1,f1,z1⟩:=laid G1
 try simp at z1
 have k0:w1.cell? ⟨w.heap.size,0,none⟩=some (.int .i64 z.1):=by simp [go_sem, *]
 have k1:w1.cell? ⟨w.heap.size,1,none⟩=some (.int .i64 z.2):=by simp [go_sem, *]
 have GW:=Grew.trans g0 G1
 clear c1 f1 G1
 go_wp2_with fail
 refine ((Hl.landed.valid [z] _ _ (Sl.of (row_new [z] #[.int .i64 z.1,.int .i64 z.2] rfl w1 24)) (by simp)).mono fun _ _ t => t.to VZ.out).mono ?_
 rintro e w2 ⟨rfl,g2⟩
 have g12:Grew w1 w2:=Grew.trans ((Grew.refl w1).alloc _ _) g2
 have G2:=Grew.trans GW g12
 have y0:w2.cell? ⟨w.heap.size,0,none⟩=some (.int .i64 z.1):=(g12.cell (by omega)).trans k0
 have y1:w2.cell? ⟨w.heap.size,1,none⟩=some (.int .i64 z.2):=(g12.cell (by omega)).trans k1
 have hB2:w.heap.size < w2.heap.size:=by have:=g12.size;omega
 clear g2 g12 k0 k1 GW z1 g0
 go_wp2_with fail
 refine (CH.out _ G2 hB2 ⟨y0,y1⟩).mono ?_
 rintro e w3 ⟨v3,rfl,sl3,g3⟩
 have S3:Hid (Sl w3 v3 (shift p z)):=Lib.hid sl3
 have G3:=Grew.trans G2 g3
 clear sl3 g3 G2 y0 y1
 go_wp2_with fail
 refine (placed_c (shift p z) v3 _ S3.out SLn.out).mono ?_
 rintro e w4 (⟨hv,rfl,g4⟩ | ⟨hv,v4,rfl,sl4,g4⟩)
 ·have VV:=Lib.hid (SV.out.1 hv)
  have S4:=Lib.hid (S3.out.grown g4)
  clear hv
  go_wp2_with fail
  go_ret2
  exact Or.inr ⟨VV.out,_,rfl,S4.out,Grew.trans G3 g4⟩
 ·have VV:=Lib.hid (fun h => hv (SV.out.2 h))
  have S4:=Lib.hid sl4
  clear hv sl4
  go_wp2_with fail
  go_ret2
  exact Or.inl ⟨VV.out,_,rfl,S4.out,Grew.trans G3 g4⟩
end Mk
end Go.Proofs.YtbpgfenippiepaaGreatDoor
namespace Go.Proofs.YtbpgfenippiepaaGreatDoor
open Go.RowKit Go.Shelf Hl
attribute [local go_sem] Oper.semAt_some
namespace Rn
open Rg (Rgn VlR AllV AnsR Rl TidP MetP TidyIs MetC)
set_option maxRecDepth 100000 in
set_option maxHeartbeats 4000000 in
theorem near_c {T:World→Prop} (N:Nd T) (L:Rgn) (x:Pt) (lo hi:Int) (v:Value) (w:World) (hT:T w) (hr:Rl w v L):Calls Tryz.prog 14 #[v,.agg #[.int .i64 x.1,.int .i64 x.2],.agg #[.int .i64 lo,.int .i64 hi]] w (AnsR (NearP L x lo hi) w):=by
 have g0:Hid (Grew w ((w.alloc (.cells #[.int .i64 x.1,.int .i64 x.2] 24)).alloc (.cells #[.int .i64 lo,.int .i64 hi] 26))):=Lib.hid (((Grew.refl w).alloc _ _).alloc _ _)
 have R0:=Lib.hid (hr.grown g0.out)
 have RR:=Lib.hid hr
 have RC:=Lib.hid (fun W (g:Grew w W) => ring_c N x lo hi W (N.keep _ _ g hT))
 have X0:=Lib.hid ((Blk.new w #[.int .i64 x.1,.int .i64 x.2] 24).alloc (.cells #[.int .i64 lo,.int .i64 hi] 26))
 have D0:=Lib.hid (Blk.new (w.alloc (.cells #[.int .i64 x.1,.int .i64 x.2] 24)) #[.int .i64 lo,.int .i64 hi] 26)
 rw [World.size_alloc] at D0
 by_cases hL:VlR L
 ·have VC:=Lib.hid (fun W u (h:Rl W u L) => (N.valid L u W h).mono fun _ _ t => t.to hL)
  have HL:=Lib.hid hL
  have MC:=Lib.hid (fun M W u z (h1:Rl W u L) (h2:Rl W z M) => N.meet L M u z W h1 h2)
  obtain ⟨va,vc,rfl⟩:=hr.shape
  clear hr hT N hL
  go_enter Tryz.func14,Tryz.ntmps14
  go_wp2_with fail
  refine (VC.out _ _ R0.out).mono ?_
  rintro e w1 ⟨rfl,g1⟩
  have X1:=Lib.hid (X0.out.grown g1)
  have D1:=Lib.hid (D0.out.grown g1)
  have G1:=Lib.hid (g0.out.trans g1)
  obtain ⟨⟨x0,x1⟩,_,_⟩:=X1.out.two
  obtain ⟨⟨d0,d1⟩,_,_⟩:=D1.out.two
  have lX:=X1.out.lt
  have lD:=D1.out.lt
  clear g1
  go_wp2_with fail
  refine (RC.out _ G1.out).mono ?_
  rintro e w2 ⟨u,k,r,hp,rfl,hr,g2⟩
  have G2:=Lib.hid (G1.out.trans g2)
  have HP:=Lib.hid hp
  have S2:=Lib.hid hr
  have R2:=Lib.hid (RR.out.grown G2.out)
  obtain ⟨ua,uc,rfl⟩:=hr.shape
  clear g2 hp hr x0 x1 d0 d1 lX lD
  by_cases hk:k=0
  ·subst hk
   go_wp2_with fail
   refine (MC.out r _ _ _ R2.out S2.out).mono ?_
   rintro e w3 ⟨z,j,m,hm,rfl,hs,g3⟩
   have HM:=Lib.hid hm
   have S3:=Lib.hid hs
   have G3:=Lib.hid (G2.out.trans g3)
   obtain ⟨za,zc,rfl⟩:=hs.shape
   clear hm hs g3
   go_wp2_with fail
   go_ret2
   refine ⟨_,j,m,?_,rfl,S3.out,G3.out⟩
   rcases HM.out with ⟨n,_⟩ | ⟨_,rfl,c,hc,ht⟩
   ·exact absurd ⟨HL.out,ringp_vl HP.out⟩ n
   ·exact Or.inr ⟨HL.out,Or.inr ⟨rfl,r,c,HP.out,hc,ht⟩⟩
  ·have HK:=Lib.hid hk
   have n1':(k == 0)=false:=beq_eq_false_iff_ne.2 hk
   have n2':(k != 0)=true:=by simp [hk]
   clear hk
   go_wp2_with fail
   go_ret2
   refine ⟨_,k,[],Or.inr ⟨HL.out,Or.inl ⟨HK.out,rfl,?_⟩⟩,rfl,Rl.nil _ _ _,G2.out⟩
   have:=HP.out
   rwa [ringp_nil this HK.out] at this
 ·have VC:=Lib.hid (fun W u (h:Rl W u L) => (N.valid L u W h).mono fun _ _ t => t.un hL)
  have HL:=Lib.hid hL
  obtain ⟨va,vc,rfl⟩:=hr.shape
  clear hr hT N hL
  go_enter Tryz.func14,Tryz.ntmps14
  go_wp2_with fail
  refine (VC.out _ _ R0.out).mono ?_
  rintro e w1 ⟨rfl,g1⟩
  have G1:=Lib.hid (g0.out.trans g1)
  clear g1
  go_wp2_with fail
  go_ret2
  exact ⟨_,1,[],Or.inl ⟨HL.out,rfl,rfl⟩,rfl,Rl.nil _ _ _,G1.out⟩
theorem code_of {T:World→Prop} (N:Nd T):Code T:=⟨N.keep,⟨fun x lo hi w hT => ring_c N x lo hi w hT,fun L x lo hi v w hT hr => near_c N L x lo hi v w hT hr,fun L x a n v w hT hr => wedge_c N L x a n v w hT hr⟩⟩
theorem shift_c (p:List Pt) (z:Pt) (v:Value) (w:World) (hs:Sl w v p) (h1:p.length≤9223372036854775807):Calls Tryz.prog 31 #[v,.agg #[.int .i64 z.1,.int .i64 z.2]] w (Mk.Ans (Mk.ShfIs p z) w):=by
 by_cases h:Vl p∧Plc z
 ·refine (Mk.shift_ok_c p z v w hs h.1 h.2).mono ?_
  rintro e w' (⟨n,v',rfl,s,g⟩ | ⟨y,v',rfl,s,g⟩)
  ·exact ⟨v',3,[],Or.inr ⟨h,Or.inl ⟨n,rfl,rfl⟩⟩,rfl,s,g⟩
  ·exact ⟨v',0,_,Or.inr ⟨h,Or.inr ⟨y,rfl,rfl⟩⟩,rfl,s,g⟩
 ·refine (Mk.shift_bad_c p z v w hs h1 h).mono ?_
  rintro e w' ⟨v',rfl,s,g⟩
  exact ⟨v',1,[],Or.inl ⟨h,rfl,rfl⟩,rfl,s,g⟩
theorem need:Nd Ry.Tq where
 keep:=fun _ _ g h => h.grew g
 valid:=Rg.rvalid_c Hl.landedN.toCode
 tidy:=Rg.rtidy_c Hl.landedN
 cut:=Rg.rcut_c Hl.landedN Ct.landedN
 meet:=Rg.rmeet_c Hl.landedN Ct.landedN
 ray:=fun k w hT hk => Ry.ray_ok k w hT hk
 ray_bad:=fun k w hk => Ry.ray_bad k w hk
 sec:=fun a n lo hi w hT ha hn hd => (Ry.sector_ok Hl.hullc_new a n lo hi w hT ha hn hd.1 hd.2.1 hd.2.2).mono fun _ _ h => h.says
 sec_bad:=fun a n lo hi w h => Ry.sector_bad a n lo hi w h
 shift:=shift_c
theorem landed:Code Ry.Tq:=code_of need
#print axioms landed
end Rn
end Go.Proofs.YtbpgfenippiepaaGreatDoor
