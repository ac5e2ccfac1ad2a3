/-
  The landed package region: what half-planes leave, one after the other; pairs, without the program.
  The landed package region: Cut, Meet, Sum.
-/
import Derived.Test.YtlookcbokhknfaaGreatRegL
import Derived.Test.YtlookcbokhknfaaGreatCutCo
import Derived.Test.YtlookcbokhknfaaGreatMinkHul
import Derived.Test.YtlookcbokhknfaaGreatRegCon
namespace Go.Proofs.YtlookcbokhknfaaGreat
open Go.RowKit Go.Shelf Hl
namespace Rg
open Ct (Hf WF LeftS BothS Poly)
def Lefts (p:List Pt):List Hf→Rgn→Prop
 | [],r => r=[p]
 | h :: t,r => (∃ q,Poly (LeftS p h) q∧Lefts q t r)∨((¬ ∃ y,LeftS p h y)∧r=[])
def LeftTo (p:List Pt) (H:List Hf) (k:Nat) (q:List Pt):Prop:=∀ r,Lefts q (H.drop k) r→Lefts p H r
def hth (H:List Hf) (k:Nat):Hf:=H.getD k (0,0,0)
theorem drop_hth {H:List Hf} {k:Nat} (hk:k < H.length):H.drop k=hth H k :: H.drop (k+1):=by
 rw [List.drop_eq_getElem_cons hk]
 unfold hth
 simp [List.getD,hk]
def HSl (w:World) (v:Value) (H:List Hf):Prop:=∃ b o c,v=.slice (some ⟨b,o,none⟩) H.length c∧b < w.heap.size∧∀ k,k < H.length→w.cell? ⟨b,o+k * 3,none⟩=some (.int .i64 (hth H k).1)∧w.cell? ⟨b,o+k * 3+1,none⟩=some (.int .i64 (hth H k).2.1)∧w.cell? ⟨b,o+k * 3+2,none⟩=some (.int .i64 (hth H k).2.2)
theorem HSl.grown {w w':World} {v:Value} {H:List Hf} (h:HSl w v H) (g:Grew w w'):HSl w' v H:=by
 obtain ⟨b,o,c,e,hb,hc⟩:=h
 exact ⟨b,o,c,e,Nat.lt_of_lt_of_le hb g.size,fun k hk => ⟨(Grew.cell g hb).trans (hc k hk).1,(Grew.cell g hb).trans (hc k hk).2.1,(Grew.cell g hb).trans (hc k hk).2.2⟩⟩
theorem left_poly_vl {p q:List Pt} {h:Hf} (hp:Vl p) (hq:Poly (LeftS p h) q):Vl q:=hq.vl fun _y hy => Ct.left_plc2 hp.2.1 hy
set_option maxRecDepth 100000 in
set_option maxHeartbeats 4000000 in
theorem left_c (C:Ct.CodeN) (p:List Pt) (H:List Hf) (v u:Value) (w0 w:World) (hs:Sl w v p) (hp:Vl p) (hh:HSl w u H) (hw:∀ k,k < H.length→WF (hth H k)) (hl:H.length≤1000) (hf:∀ k,v.ownBlock=some k→k < w0.heap.size) :
  Calls Tryz.prog 71 #[v,u] w (WhatSays w0 (Lefts p H) (fun _ => False) w):=by
 have HH:=Lib.hid hh
 have HC:Hid (∀ q h v W,Sl W v q→Vl q→WF h→Calls Tryz.prog 58 #[v,.agg #[.int .i64 h.1,.int .i64 h.2.1,.int .i64 h.2.2]] W (Ct.PolyNew (LeftS q h) W)):=Lib.hid (fun q h v W h1 h2 h3 => C.cut_new q h v W h1 h2 h3)
 have HS:=Lib.hid hs
 have HP:=Lib.hid hp
 have HW:=Lib.hid hw
 have HF:=Lib.hid hf
 obtain ⟨b,o,c,rfl,hb,hc⟩:=hh
 clear hs hp hc C hw hf
 go_enter Tryz.func71,Tryz.ntmps71
 go_wp2_with fail
 go_loopw [0,14] (fun u0 i wr => ∃ (k:Nat) (q:List Pt),k≤H.length∧i=.int .i64 k∧Grew w wr∧Hid (Sl wr u0 q∧Vl q∧LeftTo p H k q∧∀ j,u0.ownBlock=some j→j < w0.heap.size∨w.heap.size≤j)) (fun _ i _ => H.length - (intOf i).toNat)
 case atStart => exact ⟨0,p,Nat.zero_le _,rfl,Grew.refl _,Lib.hid ⟨HS.out,HP.out,fun r h => h,fun j e => Or.inl (HF.out j e)⟩⟩
 case round =>
  obtain ⟨k,q,hk,rfl,G,HQ⟩:=hrel
  by_cases hlt:k < H.length
  ·obtain ⟨b',o',c',e',hb',hc'⟩:=HH.out.grown G
   cases e'
   obtain ⟨x0,x1,x2⟩:=hc' k hlt
   have i0:(0:Int)≤(k:Int):=by omega
   have i1:(k:Int) < (H.length:Int):=by omega
   have CC:Hid (∀ W,Grew wr W→Calls Tryz.prog 58 #[u0,.agg #[.int .i64 (hth H k).1,.int .i64 (hth H k).2.1,.int .i64 (hth H k).2.2]] W (Ct.PolyNew (LeftS q (hth H k)) W)):=Lib.hid (fun W g => HC.out q (hth H k) u0 W (HQ.out.1.grown g) HQ.out.2.1 (HW.out k hlt))
   have DR:=Lib.hid (drop_hth hlt)
   have XB:=Lib.hid (Blk.new wr #[.int .i64 (hth H k).1,.int .i64 (hth H k).2.1,.int .i64 (hth H k).2.2] 25)
   obtain ⟨qa,qc,e0⟩:=HQ.out.1.shape
   subst e0
   go_wp2_with fail
   refine (CC.out _ ((Grew.refl _).alloc _ _)).mono ?_
   rintro e w1 (⟨q1,v1,hq1,rfl,hn,g1⟩ | ⟨hn,v1,rfl,hs1,g1⟩)
   ·have G1:Grew w w1:=Grew.trans (G.alloc _ _) g1
    have F1:Hid (Sl w1 v1 q1∧Vl q1∧LeftTo p H (k+1) q1∧∀ j,v1.ownBlock=some j→j < w0.heap.size∨w.heap.size≤j):=Lib.hid ⟨hn.sl,left_poly_vl HQ.out.2.1 hq1,fun r h => HQ.out.2.2.1 r (by rw [DR.out];exact Or.inl ⟨q1,hq1,h⟩),fun j e => Or.inr (Nat.le_trans (G.alloc _ _).size (hn.new j e))⟩
    obtain ⟨va,vc,rfl⟩:=hn.sl.shape
    clear g1 hn hq1
    go_wp2_with fail
    exact ⟨⟨k+1,q1,by omega,by go_num,G1,F1⟩,by simp [intOf];omega⟩
   ·have G1:Grew w w1:=Grew.trans (G.alloc _ _) g1
    have F1:Hid (Lefts p H []):=Lib.hid (HQ.out.2.2.1 [] (by rw [DR.out];exact Or.inr ⟨hn,rfl⟩))
    obtain ⟨va,vc,rfl⟩:=hs1.shape
    clear g1 hn hs1
    go_wp2_with fail
    refine bodyPost_ret (v:=.tuple #[.slice none 0 0,.bool false,.int .i64 0]) (by simp [results,Tryz.results71,go_sem, *]) rfl (Or.inr (Or.inl ⟨_,rfl,F1.out,⟨_,_,_,rfl⟩,G1⟩))
  ·obtain rfl:k=H.length:=by omega
   have F1:Hid (Lefts p H [q]):=Lib.hid (HQ.out.2.2.1 [q] (by rw [List.drop_length];exact rfl))
   go_wp2_with fail
   refine bodyPost_ret (v:=.tuple #[u0,.bool true,.int .i64 0]) (by simp [results,Tryz.results71,go_sem, *]) rfl (Or.inl ⟨q,_,rfl,F1.out,HQ.out.2.1,HQ.out.1,HQ.out.2.2.2,G⟩)
theorem rwell_c (C:Ct.Code) (h:Hf) (w:World):Calls Tryz.prog 56 #[.agg #[.int .i64 h.1,.int .i64 h.2.1,.int .i64 h.2.2]] w (Tells (WF h) w):=by
 by_cases hh:WF h
 ·have IC:Hid (∀ W,Calls Tryz.prog 99 #[.agg #[.int .i64 h.1,.int .i64 h.2.1,.int .i64 h.2.2],.agg #[.int .i64 0,.int .i64 0]] W (Ct.YesNo (Ct.ov h (0,0)≤0) W)):=Lib.hid (fun W => C.in_ok h (0,0) W hh (by decide))
  have HH:=Lib.hid hh
  clear hh C
  go_enter Tryz.func56,Tryz.ntmps56
  go_wp2_with fail
  refine (IC.out _).mono ?_
  rintro e w1 ⟨r,rfl,_,g1⟩
  go_wp2_with fail
  go_ret
  exact Tells.yes HH.out rfl (((Grew.refl w).alloc _ _).trans g1)
 ·have IC:Hid (∀ W,Calls Tryz.prog 99 #[.agg #[.int .i64 h.1,.int .i64 h.2.1,.int .i64 h.2.2],.agg #[.int .i64 0,.int .i64 0]] W fun e w' => e=.returned (.tuple #[.bool false,.int .i64 1])∧Grew W w'):=Lib.hid (fun W => C.in_bad h (0,0) W (fun k => hh k.1))
  have HH:=Lib.hid hh
  clear hh C
  go_enter Tryz.func56,Tryz.ntmps56
  go_wp2_with fail
  refine (IC.out _).mono ?_
  rintro e w1 ⟨rfl,g1⟩
  go_wp2_with fail
  go_ret
  exact Tells.no HH.out rfl (((Grew.refl w).alloc _ _).trans g1)
theorem col_add {P:Nat→Rgn→Prop} {n:Nat}:∀ {m:Nat} {c:Rgn},Col P (n+m) c→∃ a b,Col P n a∧Col (fun k => P (n+k)) m b∧c=a ++ b
 | 0,c,h => ⟨c,[],h,rfl,by simp⟩
 | m+1,c,⟨x,y,hx,hy,e⟩ => by
   obtain ⟨a,b,ha,hb,e'⟩:=col_add hx
   exact ⟨a,b ++ y,ha,⟨b,y,hb,hy,rfl⟩,by rw [e,e',List.append_assoc]⟩
theorem col_same {P P':Nat→Rgn→Prop}:∀ {n:Nat} {c:Rgn},(∀ m r,m < n→P m r→P' m r)→Col P n c→Col P' n c
 | 0,_,_,h => h
 | n+1,_,hP,⟨a,b,ha,hb,e⟩ => ⟨a,b,col_same (fun m r hm => hP m r (by omega)) ha,hP n b (by omega) hb,e⟩
theorem col_two {Q:Nat→Nat→Rgn→Prop} {n2:Nat}:∀ {n1:Nat} {c:Rgn},Col (fun m => Q (m / n2) (m % n2)) (n1 * n2) c→Col (fun i => Col (fun k => Q i k) n2) n1 c
 | 0,c,h => by
   rw [Nat.zero_mul] at h
   exact h
 | n1+1,c,h => by
   rw [Nat.add_mul,Nat.one_mul] at h
   obtain ⟨a,b,ha,hb,e⟩:=col_add h
   exact ⟨a,b,col_two ha,col_same (fun k r hk h => by rwa [(div_at hk).1,(div_at hk).2] at h) hb,e⟩
theorem cutC_one {p:List Pt} {h:Hf} {r:Rgn} (k:PolR (LeftS p h) r):CutC [p] h r:=⟨[],r,rfl,k,rfl⟩
theorem cutC_nil (h:Hf):CutC [] h []:=rfl
theorem lefts_one {p:List Pt} {h:Hf} {r:Rgn} (k:Lefts p [h] r):PolR (LeftS p h) r:=by
 rcases k with ⟨q,hq,e⟩ | ⟨hn,e⟩
 ·exact Or.inl ⟨q,hq,e⟩
 ·exact Or.inr ⟨hn,e⟩
theorem lefts_pie {p:List Pt} {lo hi:Pt} {c:Rgn} {H:Nat→List Hf} (h0:H 0=[(1,0,lo.1 - 1)]) (h1:H 1=[(-1,0,-hi.1 - 1)]) (h2:H 2=[(-1,0,-lo.1),(1,0,hi.1),(0,1,lo.2 - 1)]) (h3:H 3=[(-1,0,-lo.1),(1,0,hi.1),(0,-1,-hi.2 - 1)])
  (h:Col (fun k => Lefts p (H k)) 4 c):PieC p lo hi c:=by
 obtain ⟨x3,d,⟨x2,c',⟨x1,b,⟨x0,a,hx,ha,e0⟩,hb,e1⟩,hc,e2⟩,hd,e3⟩:=h
 rw [show x0=[] from hx,List.nil_append] at e0
 subst e0
 rw [h0] at ha
 rw [h1] at hb
 rw [h2] at hc
 rw [h3] at hd
 have ka:=cutC_one (lefts_one ha)
 have kb:=cutC_one (lefts_one hb)
 rw [e3,e2,e1]
 rcases hc with ⟨q,hq,hc⟩ | ⟨hn,hc⟩ <;> rcases hd with ⟨q',hq',hd⟩ | ⟨hn',hd⟩
 ·obtain rfl:=Ct.poly_one hq hq'
  rcases hc with ⟨s,hs,hc⟩ | ⟨hn,hc⟩ <;> rcases hd with ⟨s',hs',hd⟩ | ⟨hn',hd⟩
  ·obtain rfl:=Ct.poly_one hs hs'
   exact ⟨_,_,[q],[s],c',d,ka,kb,cutC_one (Or.inl ⟨q,hq,rfl⟩),cutC_one (Or.inl ⟨s,hs,rfl⟩),cutC_one (lefts_one hc),cutC_one (lefts_one hd),rfl⟩
  ·exact absurd hs.some hn'
  ·exact absurd hs'.some hn
  ·rw [hc,hd]
   exact ⟨_,_,[q],[],[],[],ka,kb,cutC_one (Or.inl ⟨q,hq,rfl⟩),cutC_one (Or.inr ⟨hn,rfl⟩),cutC_nil _,cutC_nil _,rfl⟩
 ·exact absurd hq.some hn'
 ·exact absurd hq'.some hn
 ·rw [hc,hd]
  exact ⟨_,_,[],[],[],[],ka,kb,cutC_one (Or.inr ⟨hn,rfl⟩),cutC_nil _,cutC_nil _,cutC_nil _,rfl⟩
end Rg
end Go.Proofs.YtlookcbokhknfaaGreat
namespace Go.Proofs.YtlookcbokhknfaaGreat
open Go.RowKit Go.Shelf Hl
namespace Rg
open Ct (Hf WF LeftS BothS Poly)
theorem made_ans {n:Nat} {PR:Nat→Rgn→Prop} {PE:Nat→Int→Prop} {B:Prop} {C:Rgn→Prop} {w:World} {e:Ending} {w':World} (hB:B) (hC:∀ c,Col PR n c→C c) (hE:∀ m k,m < n→¬ PE m k) (h:MadeSays n PR PE w e w'):AnsR (Made B C) w e w':=by
 rcases h with ⟨m,k,v,hm,hk,_⟩ | ⟨c,out,v,hc,ht,rfl,hr,g⟩
 ·exact absurd hk (hE m k hm)
 ·exact ⟨v,0,out,Or.inr ⟨hB,rfl,c,hC c hc,ht⟩,rfl,hr,g⟩
theorem polr_what {S:Pt→Prop} {w0 w:World} {PR:Rgn→Prop} {PE:Int→Prop} {e:Ending} {w':World} (_hb:w0.heap.size≤w.heap.size) (hS:∀ y,S y→Plc y) (hP:∀ r,PolR S r→PR r) (h:Ct.PolyNew S w e w'):WhatSays w0 PR PE w e w':=by
 rcases h with ⟨q,v,hq,rfl,hn,g⟩ | ⟨hn,v,rfl,hs,g⟩
 ·exact Or.inl ⟨q,v,rfl,hP _ (Or.inl ⟨q,hq,rfl⟩),hq.vl hS,hn.sl,fun k e => Or.inr (hn.new k e),g⟩
 ·obtain ⟨a,c,e⟩:=hs.shape
  exact Or.inr (Or.inl ⟨v,rfl,hP _ (Or.inr ⟨hn,rfl⟩),⟨_,_,_,e⟩,g⟩)
theorem AnsR.later {P:Int→Rgn→Prop} {w w1:World} {e:Ending} {w':World} (h:AnsR P w1 e w') (g:Grew w w1):AnsR P w e w':=by
 obtain ⟨v,k,r,hp,he,hr,g'⟩:=h
 exact ⟨v,k,r,hp,he,hr,g.trans g'⟩
theorem cut_made (K:Hl.CodeN) (C:Ct.CodeN) (L:Rgn) (h:Hf) (v:Value) (W:World) (b c':Nat) (hs:Rl W v L) (hV:VlR L) (hW:WF h) (hb:Blk W b #[.int .i64 h.1,.int .i64 h.2.1,.int .i64 h.2.2] 25) :
  Calls Tryz.prog 57 #[v,.slice (some ⟨b,0,none⟩) 1 c',.func (.func 58) #[] #[]] W (AnsR (CutP L h) W):=by
 obtain ⟨a,c,U,rfl,hU,hSl,hRr⟩:=rl_fun hs
 have h3:=Ct.blk_three hb
 refine (madeH_c K 58 (enters_of Tryz.func58 (by kernel_rfl) rfl) a (some ⟨b,0,none⟩) L.length 1 c c' U hU (fun _ => h) hV.1 (by omega) W ⟨hRr,fun k hk => ⟨b,0,rfl,⟨hb.lt,by have:=hb.lt;omega⟩,by
   obtain rfl:k=0:=by omega
   exact h3⟩⟩ (fun m r => m < L.length∧PolR (LeftS (nth L m) h) r) (fun _ _ => False) (fun m r hr => ⟨hr.2.vl (fun y hy => Ct.left_plc2 (hV.2 _ (nth_mem hr.1)).2.1 hy),hr.2.len⟩) (fun m V hm gV => ?_)).mono ?_
 ·have hm':m < L.length:=by omega
  rw [Nat.div_one]
  exact (C.cut_new (nth L m) h (U m) V ((hSl m hm').grown gV) (hV.2 _ (nth_mem hm')) hW).mono fun _ _ k => polr_what gV.size (fun y hy => Ct.left_plc2 (hV.2 _ (nth_mem hm')).2.1 hy) (fun r hr => ⟨hm',hr⟩) k
 ·intro e w' k
  refine made_ans ⟨hV,hW⟩ (fun c hc => ?_) (fun _ _ _ k => k) k
  rw [Nat.mul_one] at hc
  exact col_same (fun m r _ k => k.2) hc
set_option maxRecDepth 100000 in
set_option maxHeartbeats 4000000 in
theorem rcut_c (K:Hl.CodeN) (C:Ct.CodeN) (L:Rgn) (h:Hf) (v:Value) (w:World) (hs:Rl w v L):Calls Tryz.prog 21 #[v,.agg #[.int .i64 h.1,.int .i64 h.2.1,.int .i64 h.2.2]] w (AnsR (CutP L h) w):=by
 have VC:=Lib.hid (fun W (g:Grew w W) => rvalid_c K.toCode L v W (hs.grown g))
 have WC:=Lib.hid (fun W => rwell_c C.toCode h W)
 have HB:=Lib.hid (Blk.new w #[.int .i64 h.1,.int .i64 h.2.1,.int .i64 h.2.2] 25)
 by_cases hV:VlR L
 ·have VC:Hid (∀ W,Grew w W→Calls Tryz.prog 14 #[v] W fun e w' => e=.returned (.bool true)∧Grew W w'):=Lib.hid (fun W g => (VC.out W g).mono fun _ _ t => t.to hV)
  have HV:=Lib.hid hV
  by_cases hW:WF h
  ·have WC:Hid (∀ W,Calls Tryz.prog 56 #[.agg #[.int .i64 h.1,.int .i64 h.2.1,.int .i64 h.2.2]] W fun e w' => e=.returned (.bool true)∧Grew W w'):=Lib.hid (fun W => (WC.out W).mono fun _ _ t => t.to hW)
   have MC:Hid (∀ W b c',Grew w W→Blk W b #[.int .i64 h.1,.int .i64 h.2.1,.int .i64 h.2.2] 25→Calls Tryz.prog 57 #[v,.slice (some ⟨b,0,none⟩) 1 c',.func (.func 58) #[] #[]] W (AnsR (CutP L h) w)):=Lib.hid (fun W b c' g hb => (cut_made K C L h v W b c' (hs.grown g) hV hW hb).mono fun _ _ k => k.later g)
   obtain ⟨a,c,rfl⟩:=hs.shape
   clear hs hV hW
   go_enter Tryz.func21,Tryz.ntmps21
   go_wp2_with fail
   refine (VC.out _ ((Grew.refl _).alloc _ _)).mono ?_
   rintro e w1 ⟨rfl,g1⟩
   have G1:Grew w w1:=Grew.trans ((Grew.refl _).alloc _ _) g1
   have B1:=Lib.hid (HB.out.grown g1)
   obtain ⟨x0,x1,x2⟩:=Ct.blk_three B1.out
   clear g1
   go_wp2_with fail
   refine (WC.out _).mono ?_
   rintro e w2 ⟨rfl,g2⟩
   have G2:Grew w w2:=Grew.trans G1 g2
   have B2:=Lib.hid (B1.out.grown g2)
   obtain ⟨y0,y1,y2⟩:=Ct.blk_three B2.out
   clear g2 x0 x1 x2
   go_wp2_with fail
   refine (MC.out _ _ _ (G2.alloc _ _) (Blk.new w2 _ _)).mono ?_
   rintro e w3 ⟨u,k,r,hp,rfl,hr,g3⟩
   have HP:=Lib.hid hp
   have HR:=Lib.hid hr
   obtain ⟨ra,rc,rfl⟩:=hr.shape
   clear hp hr
   go_wp2_with fail
   go_ret2
   exact ⟨_,_,_,HP.out,rfl,HR.out,g3⟩
  ·have HW:=Lib.hid hW
   have WC:Hid (∀ W,Calls Tryz.prog 56 #[.agg #[.int .i64 h.1,.int .i64 h.2.1,.int .i64 h.2.2]] W fun e w' => e=.returned (.bool false)∧Grew W w'):=Lib.hid (fun W => (WC.out W).mono fun _ _ t => t.un hW)
   obtain ⟨a,c,rfl⟩:=hs.shape
   clear hs hV hW
   go_enter Tryz.func21,Tryz.ntmps21
   go_wp2_with fail
   refine (VC.out _ ((Grew.refl _).alloc _ _)).mono ?_
   rintro e w1 ⟨rfl,g1⟩
   have G1:Grew w w1:=Grew.trans ((Grew.refl _).alloc _ _) g1
   obtain ⟨x0,x1,x2⟩:=Ct.blk_three (HB.out.grown g1)
   clear g1
   go_wp2_with fail
   refine (WC.out _).mono ?_
   rintro e w2 ⟨rfl,g2⟩
   go_wp2_with fail
   go_ret2
   exact ⟨_,_,_,Or.inl ⟨fun h => HW.out h.2,rfl,rfl⟩,rfl,rl_none _ _ _,G1.trans g2⟩
 ·have HV:=Lib.hid hV
  have VC:Hid (∀ W,Grew w W→Calls Tryz.prog 14 #[v] W fun e w' => e=.returned (.bool false)∧Grew W w'):=Lib.hid (fun W g => (VC.out W g).mono fun _ _ t => t.un hV)
  obtain ⟨a,c,rfl⟩:=hs.shape
  clear hs hV
  go_enter Tryz.func21,Tryz.ntmps21
  go_wp2_with fail
  refine (VC.out _ ((Grew.refl _).alloc _ _)).mono ?_
  rintro e w1 ⟨rfl,g1⟩
  have G1:Grew w w1:=Grew.trans ((Grew.refl _).alloc _ _) g1
  clear g1
  go_wp2_with fail
  go_ret2
  exact ⟨_,_,_,Or.inl ⟨fun h => HV.out h.1,rfl,rfl⟩,rfl,rl_none _ _ _,G1⟩
theorem meet_made (K:Hl.CodeN) (C:Ct.CodeN) (L M:Rgn) (v u:Value) (W:World) (hs:Rl W v L) (hs2:Rl W u M) (hV:VlR L) (hM:VlR M) :
  Calls Tryz.prog 60 #[v,u,.func (.func 61) #[] #[]] W (AnsR (MetP L M) W):=by
 obtain ⟨a,c,U,rfl,hU,hSl,hRr⟩:=rl_fun hs
 obtain ⟨a2,c2,X,rfl,hX,hSl2,hRr2⟩:=rl_fun hs2
 have dm:∀ m,m < L.length * M.length→m / M.length < L.length∧m % M.length < M.length:=fun m hm => by
  have h0:0 < M.length:=by
   rcases Nat.eq_zero_or_pos M.length with h | h
   ·rw [h] at hm;omega
   ·exact h
  exact ⟨(Nat.div_lt_iff_lt_mul h0).2 hm,Nat.mod_lt _ h0⟩
 have plc:∀ m,m < L.length * M.length→∀ y,BothS (nth L (m / M.length)) (nth M (m % M.length)) y→Plc y:=fun m hm y hy => Ct.both_plc (hV.2 _ (nth_mem (dm m hm).1)).2.1 (hM.2 _ (nth_mem (dm m hm).2)).2.1 hy
 refine (madeP_c K 61 (enters_of Tryz.func61 (by kernel_rfl) rfl) a a2 L.length M.length c c2 U hU X hX hV.1 hM.1 W ⟨hRr,hRr2⟩ (fun m r => m < L.length * M.length∧PolR (BothS (nth L (m / M.length)) (nth M (m % M.length))) r) (fun _ _ => False) (fun m r hr => ⟨hr.2.vl (plc m hr.1),hr.2.len⟩) (fun m V hm gV => ?_)).mono ?_
 ·exact (C.meet_new _ _ (U (m / M.length)) (X (m % M.length)) V ((hSl _ (dm m hm).1).grown gV) ((hSl2 _ (dm m hm).2).grown gV) (hV.2 _ (nth_mem (dm m hm).1)) (hM.2 _ (nth_mem (dm m hm).2))).mono fun _ _ k => polr_what gV.size (plc m hm) (fun r hr => ⟨hm,hr⟩) k
 ·intro e w' k
  refine made_ans ⟨hV,hM⟩ (fun c hc => ?_) (fun _ _ _ k => k) k
  exact col_two (Q:=fun i k => PolR (BothS (nth L i) (nth M k))) (col_same (fun m r _ k => k.2) hc)
set_option maxRecDepth 100000 in
set_option maxHeartbeats 4000000 in
theorem rmeet_c (K:Hl.CodeN) (C:Ct.CodeN) (L M:Rgn) (v u:Value) (w:World) (hs:Rl w v L) (hs2:Rl w u M):Calls Tryz.prog 23 #[v,u] w (AnsR (MetP L M) w):=by
 have VC:=Lib.hid (fun W (g:Grew w W) => rvalid_c K.toCode L v W (hs.grown g))
 have UC:=Lib.hid (fun W (g:Grew w W) => rvalid_c K.toCode M u W (hs2.grown g))
 by_cases hV:VlR L
 ·have VC:Hid (∀ W,Grew w W→Calls Tryz.prog 14 #[v] W fun e w' => e=.returned (.bool true)∧Grew W w'):=Lib.hid (fun W g => (VC.out W g).mono fun _ _ t => t.to hV)
  by_cases hM:VlR M
  ·have UC:Hid (∀ W,Grew w W→Calls Tryz.prog 14 #[u] W fun e w' => e=.returned (.bool true)∧Grew W w'):=Lib.hid (fun W g => (UC.out W g).mono fun _ _ t => t.to hM)
   have MC:Hid (∀ W,Grew w W→Calls Tryz.prog 60 #[v,u,.func (.func 61) #[] #[]] W (AnsR (MetP L M) w)):=Lib.hid (fun W g => (meet_made K C L M v u W (hs.grown g) (hs2.grown g) hV hM).mono fun _ _ k => k.later g)
   obtain ⟨a,c,rfl⟩:=hs.shape
   obtain ⟨a2,c2,rfl⟩:=hs2.shape
   clear hV hM hs hs2
   go_enter Tryz.func23,Tryz.ntmps23
   go_wp2_with fail
   refine (VC.out _ (Grew.refl _)).mono ?_
   rintro e w1 ⟨rfl,g1⟩
   go_wp2_with fail
   refine (UC.out _ g1).mono ?_
   rintro e w2 ⟨rfl,g2⟩
   have G2:Grew w w2:=g1.trans g2
   clear g1 g2
   go_wp2_with fail
   refine (MC.out _ G2).mono ?_
   rintro e w3 ⟨z,k,r,hp,rfl,hr,g3⟩
   have HP:=Lib.hid hp
   have HR:=Lib.hid hr
   obtain ⟨ra,rc,rfl⟩:=hr.shape
   clear hp hr
   go_wp2_with fail
   go_ret2
   exact ⟨_,_,_,HP.out,rfl,HR.out,g3⟩
  ·have HM:=Lib.hid hM
   have UC:Hid (∀ W,Grew w W→Calls Tryz.prog 14 #[u] W fun e w' => e=.returned (.bool false)∧Grew W w'):=Lib.hid (fun W g => (UC.out W g).mono fun _ _ t => t.un hM)
   obtain ⟨a,c,rfl⟩:=hs.shape
   obtain ⟨a2,c2,rfl⟩:=hs2.shape
   clear hV hM hs hs2
   go_enter Tryz.func23,Tryz.ntmps23
   go_wp2_with fail
   refine (VC.out _ (Grew.refl _)).mono ?_
   rintro e w1 ⟨rfl,g1⟩
   go_wp2_with fail
   refine (UC.out _ g1).mono ?_
   rintro e w2 ⟨rfl,g2⟩
   go_wp2_with fail
   go_ret2
   exact ⟨_,_,_,Or.inl ⟨fun h => HM.out h.2,rfl,rfl⟩,rfl,rl_none _ _ _,g1.trans g2⟩
 ·have HV:=Lib.hid hV
  have VC:Hid (∀ W,Grew w W→Calls Tryz.prog 14 #[v] W fun e w' => e=.returned (.bool false)∧Grew W w'):=Lib.hid (fun W g => (VC.out W g).mono fun _ _ t => t.un hV)
  obtain ⟨a,c,rfl⟩:=hs.shape
  obtain ⟨a2,c2,rfl⟩:=hs2.shape
  clear hV hs hs2
  go_enter Tryz.func23,Tryz.ntmps23
  go_wp2_with fail
  refine (VC.out _ (Grew.refl _)).mono ?_
  rintro e w1 ⟨rfl,g1⟩
  go_wp2_with fail
  go_ret2
  exact ⟨_,_,_,Or.inl ⟨fun h => HV.out h.1,rfl,rfl⟩,rfl,rl_none _ _ _,g1⟩
def SumR (p q:List Pt) (r:Rgn):Prop:=∃ s,Mk.SumIs p q 0 s∧r=[s]
theorem sum1_c (F:∀ (p q:List Pt) (v u:Value) (w:World),Sl w v p→Sl w u q→Vl p→Vl q→Calls Tryz.prog 65 #[v,u] w (Mk.SumNew p q w)) (p q:List Pt) (v u:Value) (w0 w:World) (hs:Sl w v p) (hs2:Sl w u q) (hp:Vl p) (hq:Vl q) (PR:Rgn→Prop) (hPR:∀ r,SumR p q r→PR r) :
  Calls Tryz.prog 64 #[v,u] w (WhatSays w0 PR (fun k => k=3∧Mk.SumIs p q 3 []) w):=by
 have FC:=Lib.hid (F p q v u w hs hs2 hp hq)
 have HV:=Lib.hid (show Vl p∧Vl q from ⟨hp,hq⟩)
 have PC:=Lib.hid hPR
 obtain ⟨a,c,rfl⟩:=hs.shape
 obtain ⟨a2,c2,rfl⟩:=hs2.shape
 clear hs hs2 hp hq F hPR
 go_enter Tryz.func64,Tryz.ntmps64
 go_wp2_with fail
 refine FC.out.mono ?_
 rintro e w1 ⟨s,hsum,⟨hn,v1,rfl,hs1,g1⟩ | ⟨hpl,v1,t,ht,rfl,hn,g1⟩⟩
 ·have E:Hid (Mk.SumIs p q 3 []):=Lib.hid (Or.inr ⟨HV.out,s,hsum,Or.inl ⟨hn,rfl,rfl⟩⟩)
  obtain ⟨va,vc,rfl⟩:=hs1.shape
  clear hn hsum hs1
  go_wp2_with fail
  refine bodyPost_ret (v:=.tuple #[.slice va 0 vc,.bool false,.int .i64 3]) (by simp [results,Tryz.results64,go_sem, *]) rfl (Or.inr (Or.inr ⟨_,_,_,rfl,by decide,⟨rfl,E.out⟩,⟨_,_,_,rfl⟩,g1⟩))
 ·have E:Hid (Mk.SumIs p q 0 t):=Lib.hid (Or.inr ⟨HV.out,s,hsum,Or.inr ⟨hpl,rfl,ht⟩⟩)
  have N1:=Lib.hid hn
  obtain ⟨va,vc,rfl⟩:=hn.sl.shape
  clear hn hsum hpl ht
  go_wp2_with fail
  refine bodyPost_ret (v:=.tuple #[.slice va t.length vc,.bool true,.int .i64 0]) (by simp [results,Tryz.results64,go_sem, *]) rfl (Or.inl ⟨t,_,rfl,PC.out _ ⟨t,E.out,rfl⟩,(Mk.sums_law HV.out.1 HV.out.2 E.out).1,N1.out.sl,fun k e => Or.inr (N1.out.new k e),g1⟩)
theorem sum_made (K:Hl.CodeN) (F:∀ (p q:List Pt) (v u:Value) (w:World),Sl w v p→Sl w u q→Vl p→Vl q→Calls Tryz.prog 65 #[v,u] w (Mk.SumNew p q w)) (L:Rgn) (p:List Pt) (v u:Value) (W:World) (b c':Nat) (hs:Rl W v L) (hs2:Sl W u p) (hV:VlR L) (hp:Vl p) (hb:Blk W b #[u] 23) :
  Calls Tryz.prog 60 #[v,.slice (some ⟨b,0,none⟩) 1 c',.func (.func 64) #[] #[]] W (AnsR (SumP L p) W):=by
 obtain ⟨a,c,U,rfl,hU,hSl,hRr⟩:=rl_fun hs
 have h3:=hb.one.1
 have hX:IsHd u:=by
  obtain ⟨a2,c2,e⟩:=hs2.shape
  exact ⟨_,_,_,e⟩
 refine (madeP_c K 64 (enters_of Tryz.func64 (by kernel_rfl) rfl) a (some ⟨b,0,none⟩) L.length 1 c c' U hU (fun _ => u) (fun _ => hX) hV.1 (by omega) W ⟨hRr,fun k hk => ⟨b,0,rfl,⟨hb.lt,by have:=hb.lt;omega⟩,by
   obtain rfl:k=0:=by omega
   exact h3⟩⟩ (fun m r => m < L.length∧SumR (nth L m) p r) (fun m k => k=3∧Mk.SumIs (nth L m) p 3 []) (fun m r hr => ?_) (fun m V hm gV => ?_)).mono ?_
 ·obtain ⟨hm,s,hsum,rfl⟩:=hr
  exact ⟨fun q hq => by
   obtain rfl:=List.mem_singleton.1 hq
   exact (Mk.sums_law (hV.2 _ (nth_mem hm)) hp hsum).1,by simp⟩
 ·have hm':m < L.length:=by omega
  rw [Nat.div_one]
  exact sum1_c F (nth L m) p (U m) u W V ((hSl m hm').grown gV) (hs2.grown gV) (hV.2 _ (nth_mem hm')) hp _ (fun r hr => ⟨hm',hr⟩)
 ·rintro e w' (⟨m,k,v,hm,hk,_,rfl,hr,g⟩ | ⟨c,out,v,hc,ht,rfl,hr,g⟩)
  ·exact ⟨v,k,[],Or.inl ⟨hk.1,rfl,⟨hV,hp⟩,m,by omega,hk.2⟩,rfl,hr,g⟩
  ·rw [Nat.mul_one] at hc
   exact ⟨v,0,out,Or.inr (Or.inr ⟨⟨hV,hp⟩,rfl,c,col_same (fun m r _ k => k.2) hc,ht⟩),rfl,hr,g⟩
set_option maxRecDepth 100000 in
set_option maxHeartbeats 4000000 in
theorem rsum_c (K:Hl.CodeN) (F:∀ (p q:List Pt) (v u:Value) (w:World),Sl w v p→Sl w u q→Vl p→Vl q→Calls Tryz.prog 65 #[v,u] w (Mk.SumNew p q w)) (L:Rgn) (p:List Pt) (v u:Value) (w:World) (hs:Rl w v L) (hs2:Sl w u p) (hl:p.length≤9223372036854775807):Calls Tryz.prog 25 #[v,u] w (AnsR (SumP L p) w):=by
 have VC:=Lib.hid (fun W (g:Grew w W) => rvalid_c K.toCode L v W (hs.grown g))
 have UC:=Lib.hid (fun W (g:Grew w W) => K.toCode.valid p u W (hs2.grown g) hl)
 by_cases hV:VlR L
 ·have VC:Hid (∀ W,Grew w W→Calls Tryz.prog 14 #[v] W fun e w' => e=.returned (.bool true)∧Grew W w'):=Lib.hid (fun W g => (VC.out W g).mono fun _ _ t => t.to hV)
  by_cases hM:Vl p
  ·have UC:Hid (∀ W,Grew w W→Calls Tryz.prog 63 #[u] W fun e w' => e=.returned (.bool true)∧Grew W w'):=Lib.hid (fun W g => (UC.out W g).mono fun _ _ t => t.to hM)
   have MC:Hid (∀ W b c',Grew w W→Blk W b #[u] 23→Calls Tryz.prog 60 #[v,.slice (some ⟨b,0,none⟩) 1 c',.func (.func 64) #[] #[]] W (AnsR (SumP L p) w)):=Lib.hid (fun W b c' g hb => (sum_made K F L p v u W b c' (hs.grown g) (hs2.grown g) hV hM hb).mono fun _ _ k => k.later g)
   obtain ⟨a,c,rfl⟩:=hs.shape
   obtain ⟨a2,c2,rfl⟩:=hs2.shape
   clear hV hM hs hs2 hl
   go_enter Tryz.func25,Tryz.ntmps25
   go_wp2_with fail
   refine (VC.out _ (Grew.refl _)).mono ?_
   rintro e w1 ⟨rfl,g1⟩
   go_wp2_with fail
   refine (UC.out _ g1).mono ?_
   rintro e w2 ⟨rfl,g2⟩
   have G2:Grew w w2:=g1.trans g2
   clear g1 g2
   go_wp2_with fail
   refine (MC.out _ _ _ (G2.alloc _ _) (Blk.new w2 _ _)).mono ?_
   rintro e w3 ⟨z,k,r,hp,rfl,hr,g3⟩
   have HP:=Lib.hid hp
   have HR:=Lib.hid hr
   obtain ⟨ra,rc,rfl⟩:=hr.shape
   clear hp hr
   go_wp2_with fail
   go_ret2
   exact ⟨_,_,_,HP.out,rfl,HR.out,g3⟩
  ·have HM:=Lib.hid hM
   have UC:Hid (∀ W,Grew w W→Calls Tryz.prog 63 #[u] W fun e w' => e=.returned (.bool false)∧Grew W w'):=Lib.hid (fun W g => (UC.out W g).mono fun _ _ t => t.un hM)
   obtain ⟨a,c,rfl⟩:=hs.shape
   obtain ⟨a2,c2,rfl⟩:=hs2.shape
   clear hV hM hs hs2 hl
   go_enter Tryz.func25,Tryz.ntmps25
   go_wp2_with fail
   refine (VC.out _ (Grew.refl _)).mono ?_
   rintro e w1 ⟨rfl,g1⟩
   go_wp2_with fail
   refine (UC.out _ g1).mono ?_
   rintro e w2 ⟨rfl,g2⟩
   go_wp2_with fail
   go_ret2
   exact ⟨_,_,_,Or.inr (Or.inl ⟨fun h => HM.out h.2,rfl,rfl⟩),rfl,rl_none _ _ _,g1.trans g2⟩
 ·have HV:=Lib.hid hV
  have VC:Hid (∀ W,Grew w W→Calls Tryz.prog 14 #[v] W fun e w' => e=.returned (.bool false)∧Grew W w'):=Lib.hid (fun W g => (VC.out W g).mono fun _ _ t => t.un hV)
  obtain ⟨a,c,rfl⟩:=hs.shape
  obtain ⟨a2,c2,rfl⟩:=hs2.shape
  clear hV hs hs2 hl
  go_enter Tryz.func25,Tryz.ntmps25
  go_wp2_with fail
  refine (VC.out _ (Grew.refl _)).mono ?_
  rintro e w1 ⟨rfl,g1⟩
  go_wp2_with fail
  go_ret2
  exact ⟨_,_,_,Or.inr (Or.inl ⟨fun h => HV.out h.1,rfl,rfl⟩),rfl,rl_none _ _ _,g1⟩
end Rg
end Go.Proofs.YtlookcbokhknfaaGreat
