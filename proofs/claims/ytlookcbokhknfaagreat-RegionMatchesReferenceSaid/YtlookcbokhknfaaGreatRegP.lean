/-
  The landed package region: Out.
  The landed Sum.
  What the landed package region owes is paid.
-/
import Derived.Test.YtlookcbokhknfaaGreatRegO
import Derived.Test.YtlookcbokhknfaaGreatMinkHul
import Derived.Test.YtlookcbokhknfaaGreatMinkLnF
import Derived.Test.YtlookcbokhknfaaGreatHullCk
import Derived.Test.YtlookcbokhknfaaGreatRegR
namespace Go.Proofs.YtlookcbokhknfaaGreat
open Go.RowKit Go.Shelf Hl
namespace Rg
open Ct (Hf WF LeftS BothS Poly)
theorem outH_wf (lo hi:Pt) (h1:Plc lo) (h2:Plc hi) (m:Nat):∀ k,k < (outH lo hi m).length→WF (hth (outH lo hi m) k):=by
 unfold Plc at h1 h2
 have three:∀ j,j < 3→j=0∨j=1∨j=2:=fun j hj => by omega
 intro k hk
 rcases m with _ | _ | _ | m
 ·obtain rfl:k=0:=by simp [outH] at hk;omega
  exact (by simp [hth,outH,WF];omega)
 ·obtain rfl:k=0:=by simp [outH] at hk;omega
  exact (by simp [hth,outH,WF];omega)
 ·rcases three k hk with rfl | rfl | rfl <;> (simp [hth,outH,WF];try omega)
 ·rcases three k hk with rfl | rfl | rfl <;> (simp [hth,outH,WF];try omega)
theorem lefts_le {p:List Pt}:∀ {H:List Hf} {q:List Pt} {r:Rgn},Vl q→Lefts q H r→AllV r∧r.length≤1
 | [],q,r,hq,h => by
   rw [show r=[q] from h]
   refine ⟨fun x hx => ?_,by simp⟩
   obtain rfl:=List.mem_singleton.1 hx
   exact hq
 | h :: t,q,r,hq,k => by
   rcases k with ⟨s,hs,k⟩ | ⟨_,rfl⟩
   ·exact lefts_le (p:=p) (left_poly_vl hq hs) k
   ·refine ⟨fun x hx => ?_,by simp⟩
    cases hx
theorem out_made (K:Hl.CodeN) (C:Ct.CodeN) (L:Rgn) (lo hi:Pt) (v u:Value) (W:World) (hs:Rl W v L) (ho:LstO W u lo hi) (hV:VlR L) (hR:Rect lo hi) :
  Calls Tryz.prog 69 #[v,u,.func (.func 71) #[] #[]] W (AnsR (OutP L lo hi) W):=by
 obtain ⟨a,c,U,rfl,hU,hSl,hRr⟩:=rl_fun hs
 obtain ⟨b,c2,X,rfl,hb,hX,hXs⟩:=ho
 have dm:∀ m,m < L.length * 4→m / 4 < L.length∧m % 4 < 4:=fun m hm => by omega
 refine (madeS_c K 71 (enters_of Tryz.func71 (by kernel_rfl) rfl) a (some ⟨b,0,none⟩) L.length 4 c c2 U hU X hX hV.1 (by omega) W ⟨hRr,fun k hk => ⟨b,0,rfl,⟨hb,by omega⟩,(hXs k hk).1⟩⟩ (fun m r => m < L.length * 4∧Lefts (nth L (m / 4)) (outH lo hi (m % 4)) r) (fun _ _ => False) (fun m r hr => lefts_le (p:=[]) (hV.2 _ (nth_mem (dm m hr.1).1)) hr.2) (fun m V hm gV => ?_)).mono ?_
 ·have h0:=hSl _ (dm m hm).1
  have h1:=(hXs _ (dm m hm).2).2
  refine (left_c C (nth L (m / 4)) (outH lo hi (m % 4)) (U (m / 4)) (X (m % 4)) W V (h0.grown gV) (hV.2 _ (nth_mem (dm m hm).1)) (h1.grown gV) (outH_wf lo hi hR.1.1 hR.1.2 _) ?_ ?_).mono ?_
  ·rcases (show m % 4=0∨m % 4=1∨m % 4=2∨m % 4=3 by omega) with e | e | e | e <;> rw [e] <;> simp [outH]
  ·intro k e
   obtain ⟨g,o,c',e',hr⟩:=h0.row (fun e => by
    have:=(hV.2 _ (nth_mem (dm m hm).1)).1.1
    rw [e] at this
    exact absurd this (by simp))
   rw [e'] at e
   cases e
   exact hr.1
  ·rintro e w' (⟨q,v,rfl,hq,h2,h3,h4,g⟩ | ⟨v,rfl,hq,h2,g⟩ | ⟨v,b,k,rfl,_,hk,_⟩)
   ·exact Or.inl ⟨q,v,rfl,⟨hm,hq⟩,h2,h3,h4,g⟩
   ·exact Or.inr (Or.inl ⟨v,rfl,⟨hm,hq⟩,h2,g⟩)
   ·exact absurd hk id
 ·intro e w' k
  refine made_ans ⟨hV,hR⟩ (fun c hc => ?_) (fun _ _ _ k => k) k
  have:=col_two (Q:=fun i k => Lefts (nth L i) (outH lo hi k)) (col_same (fun m r _ k => k.2) hc)
  exact col_same (fun i r _ h => lefts_pie rfl rfl rfl rfl h) this
theorem LstO.grown {w W:World} {v:Value} {lo hi:Pt} (h:LstO w v lo hi) (g:Grew w W):LstO W v lo hi:=by
 obtain ⟨b,c,U,e,hb,hU,hX⟩:=h
 exact ⟨b,c,U,e,Nat.lt_of_lt_of_le hb g.size,hU,fun k hk => ⟨(Grew.cell g hb).trans (hX k hk).1,(hX k hk).2.grown g⟩⟩
set_option maxRecDepth 100000 in
set_option maxHeartbeats 4000000 in
theorem rout_c (K:Hl.CodeN) (C:Ct.CodeN) (L:Rgn) (lo hi:Pt) (v:Value) (w:World) (hs:Rl w v L):Calls Tryz.prog 27 #[v,.agg #[.int .i64 lo.1,.int .i64 lo.2],.agg #[.int .i64 hi.1,.int .i64 hi.2]] w (AnsR (OutP L lo hi) w):=by
 have VC:=Lib.hid (fun W (g:Grew w W) => rvalid_c K.toCode L v W (hs.grown g))
 have RC:=Lib.hid (fun W => rrect_c K.toCode lo hi W)
 have B0:=Lib.hid ((Blk.new w #[.int .i64 lo.1,.int .i64 lo.2] 27).grown ((Grew.refl _).alloc #[.int .i64 hi.1,.int .i64 hi.2] 27))
 have B1:=Lib.hid (Blk.new (w.alloc (.cells #[.int .i64 lo.1,.int .i64 lo.2] 27)) #[.int .i64 hi.1,.int .i64 hi.2] 27)
 rw [World.size_alloc] at B1
 have G2:Grew w ((w.alloc (.cells #[.int .i64 lo.1,.int .i64 lo.2] 27)).alloc (.cells #[.int .i64 hi.1,.int .i64 hi.2] 27)):=((Grew.refl w).alloc _ _).alloc _ _
 by_cases hV:VlR L
 ·have VC:Hid (∀ W,Grew w W→Calls Tryz.prog 14 #[v] W fun e w' => e=.returned (.bool true)∧Grew W w'):=Lib.hid (fun W g => (VC.out W g).mono fun _ _ t => t.to hV)
  by_cases hR:Rect lo hi
  ·have RC:Hid (∀ W,Calls Tryz.prog 68 #[.agg #[.int .i64 lo.1,.int .i64 lo.2],.agg #[.int .i64 hi.1,.int .i64 hi.2]] W fun e w' => e=.returned (.bool true)∧Grew W w'):=Lib.hid (fun W => (RC.out W).mono fun _ _ t => t.to hR)
   have OC:Hid (∀ W,Calls Tryz.prog 70 #[.agg #[.int .i64 lo.1,.int .i64 lo.2,.int .i64 hi.1,.int .i64 hi.2]] W fun e w' => ∃ v,e=.returned v∧LstO w' v lo hi∧Grew W w'):=Lib.hid (fun W => outside_c lo hi W hR.1.1 hR.1.2)
   have MC:Hid (∀ W u,Grew w W→LstO W u lo hi→Calls Tryz.prog 69 #[v,u,.func (.func 71) #[] #[]] W (AnsR (OutP L lo hi) w)):=Lib.hid (fun W u g ho => (out_made K C L lo hi v u W (hs.grown g) ho hV hR).mono fun _ _ k => k.later g)
   obtain ⟨a,c,rfl⟩:=hs.shape
   clear hs hV hR
   go_enter Tryz.func27,Tryz.ntmps27
   go_wp2_with fail
   refine (VC.out _ G2).mono ?_
   rintro e w1 ⟨rfl,g1⟩
   have G1:=Grew.trans G2 g1
   obtain ⟨x0,x1⟩:=blk_two (B0.out.grown g1)
   obtain ⟨y0,y1⟩:=blk_two (B1.out.grown g1)
   have B0':=Lib.hid (B0.out.grown g1)
   have B1':=Lib.hid (B1.out.grown g1)
   clear g1
   go_wp2_with fail
   refine (RC.out _).mono ?_
   rintro e w2 ⟨rfl,g2⟩
   have G1:=Grew.trans G1 g2
   obtain ⟨x0,x1⟩:=blk_two (B0'.out.grown g2)
   obtain ⟨y0,y1⟩:=blk_two (B1'.out.grown g2)
   clear g2 B0' B1'
   go_wp2_with fail
   refine (OC.out _).mono ?_
   rintro e w3 ⟨u,rfl,ho,g3⟩
   have HO:=Lib.hid ho
   have G1:=Grew.trans G1 g3
   obtain ⟨ub,uc,uU,rfl,_⟩:=ho
   clear g3
   go_wp2_with fail
   refine (MC.out _ _ G1 HO.out).mono ?_
   rintro e w4 ⟨z,k,r,hp,rfl,hr,g4⟩
   have HP:=Lib.hid hp
   have HR:=Lib.hid hr
   obtain ⟨ra,rc,rfl⟩:=hr.shape
   clear hp hr
   go_wp2_with fail
   go_ret2
   exact ⟨_,_,_,HP.out,rfl,HR.out,g4⟩
  ·have RC:Hid (∀ W,Calls Tryz.prog 68 #[.agg #[.int .i64 lo.1,.int .i64 lo.2],.agg #[.int .i64 hi.1,.int .i64 hi.2]] W fun e w' => e=.returned (.bool false)∧Grew W w'):=Lib.hid (fun W => (RC.out W).mono fun _ _ t => t.un hR)
   have HR:=Lib.hid hR
   obtain ⟨a,c,rfl⟩:=hs.shape
   clear hs hV hR
   go_enter Tryz.func27,Tryz.ntmps27
   go_wp2_with fail
   refine (VC.out _ G2).mono ?_
   rintro e w1 ⟨rfl,g1⟩
   have G1:=Grew.trans G2 g1
   obtain ⟨x0,x1⟩:=blk_two (B0.out.grown g1)
   obtain ⟨y0,y1⟩:=blk_two (B1.out.grown g1)
   clear g1
   go_wp2_with fail
   refine (RC.out _).mono ?_
   rintro e w2 ⟨rfl,g2⟩
   go_wp2_with fail
   go_ret2
   exact ⟨_,_,_,Or.inl ⟨fun h => HR.out h.2,rfl,rfl⟩,rfl,rl_none _ _ _,Grew.trans G1 g2⟩
 ·have HV:=Lib.hid hV
  have VC:Hid (∀ W,Grew w W→Calls Tryz.prog 14 #[v] W fun e w' => e=.returned (.bool false)∧Grew W w'):=Lib.hid (fun W g => (VC.out W g).mono fun _ _ t => t.un hV)
  obtain ⟨a,c,rfl⟩:=hs.shape
  clear hs hV
  go_enter Tryz.func27,Tryz.ntmps27
  go_wp2_with fail
  refine (VC.out _ G2).mono ?_
  rintro e w1 ⟨rfl,g1⟩
  go_wp2_with fail
  go_ret2
  exact ⟨_,_,_,Or.inl ⟨fun h => HV.out h.1,rfl,rfl⟩,rfl,rl_none _ _ _,Grew.trans G2 g1⟩
end Rg
end Go.Proofs.YtlookcbokhknfaaGreat
namespace Go.Proofs.YtlookcbokhknfaaGreat
open Go.RowKit Go.Shelf Hl
namespace Mk
def PlacedSays (s:List Pt) (v:Value) (w:World) (e:Ending) (w':World):Prop:=(Vl s∧e=.returned (.tuple #[v,.int .i64 0])∧Grew w w')∨(¬ Vl s∧Empty 3 w e w')
theorem placed_c (s:List Pt) (v:Value) (w:World) (hs:Sl w v s) (hl:s.length≤9223372036854775807):Calls Tryz.prog 117 #[v] w (PlacedSays s v w):=by
 have HS:=Lib.hid hs
 have HL:=Lib.hid hl
 clear hs hl
 by_cases hv:Vl s
 ·have V:=Lib.hid hv
  clear hv
  go_enter Tryz.func117,Tryz.ntmps117
  go_wp2_with fail
  refine ((Hl.landed.valid s v _ HS.out HL.out).mono fun _ _ t => t.to V.out).mono ?_
  rintro e w1 ⟨rfl,G1⟩
  go_wp2_with fail
  go_ret2
  exact Or.inl ⟨V.out,rfl,G1⟩
 ·have V:=Lib.hid hv
  clear hv
  go_enter Tryz.func117,Tryz.ntmps117
  go_wp2_with fail
  refine ((Hl.landed.valid s v _ HS.out HL.out).mono fun _ _ t => t.un V.out).mono ?_
  rintro e w1 ⟨rfl,G1⟩
  go_wp2_with fail
  go_ret2
  exact Or.inr ⟨V.out,_,rfl,Or.inl ⟨rfl,none,0,rfl⟩,G1⟩
theorem sum_any (p q:List Pt) (v u:Value) (w:World) (hs:Sl w v p) (hs2:Sl w u q) (vp:Vl p) (vq:Vl q) :
  Calls Tryz.prog 116 #[v,u] w fun e w' => ∃ g cap,e=.returned (.slice (some ⟨g,0,none⟩) (msum p q).length cap)∧SlN w w' (.slice (some ⟨g,0,none⟩) (msum p q).length cap) (msum p q)∧Grew w w':=by
 have n0:1≤p.length:=vp.1.1
 have n1:1≤q.length:=vq.1.1
 obtain ⟨b,o,c,rfl,hr⟩:=hs.row (fun e => by rw [e] at n0;cases n0)
 obtain ⟨b',o',c',rfl,hr'⟩:=hs2.row (fun e => by rw [e] at n1;cases n1)
 refine (sum_c b o c b' o' c' p q vp vq w hr hr').mono ?_
 rintro e w' ⟨v,rfl,ho,g⟩
 obtain ⟨g0,cap,rfl,ha⟩:=ho.at (fun e => by have:=(msum_hull vp vq).1.1;rw [e] at this;cases this)
 exact ⟨g0,cap,rfl,⟨ho⟩,g⟩
def SmallSays (s:List Pt) (w:World) (e:Ending) (w':World):Prop:=(¬ Plcs s∧Empty 3 w e w')∨(Plcs s∧∃ v,e=.returned (.tuple #[v,.int .i64 0])∧SlN w w' v s∧Grew w w')
theorem sum_small_c (p q:List Pt) (v u:Value) (w:World) (hs:Sl w v p) (hs2:Sl w u q) (vp:Vl p) (vq:Vl q) (h64:(msum p q).length≤64):Calls Tryz.prog 65 #[v,u] w (SmallSays (msum p q) w):=by
 have HS:=Lib.hid hs
 have HS2:=Lib.hid hs2
 have VP:=Lib.hid vp
 have VQ:=Lib.hid vq
 have L1:Hid (p.length≤9223372036854775807):=Lib.hid (by have:=vp.1.2;omega)
 have L2:Hid (q.length≤9223372036854775807):=Lib.hid (by have:=vq.1.2;omega)
 have HM:=Lib.hid (msum_hull vp vq)
 have SA:=Lib.hid (fun V (h1:Sl V v p) (h2:Sl V u q) => sum_any p q v u V h1 h2 vp vq)
 obtain ⟨s,hms⟩:∃ s,msum p q=s:=⟨_,rfl⟩
 rw [hms] at h64 HM SA ⊢
 obtain ⟨m,hm⟩:∃ m,s.length=m:=⟨_,rfl⟩
 have SL:Hid (s.length=m∧s.length≤64):=Lib.hid ⟨hm,h64⟩
 have m64:(m:Int)≤64:=by omega
 rw [hm] at SA
 clear hs hs2 vp vq hms hm h64
 go_enter Tryz.func65,Tryz.ntmps65
 go_wp2_with fail
 refine ((Hl.landed.valid p v _ HS.out L1.out).mono fun _ _ t => t.to VP.out).mono ?_
 rintro e w1 ⟨rfl,G1⟩
 go_wp2_with fail
 refine ((Hl.landed.valid q u _ (HS2.out.grown G1) L2.out).mono fun _ _ t => t.to VQ.out).mono ?_
 rintro e w2 ⟨rfl,g2⟩
 have G2:=Grew.trans G1 g2
 clear G1 g2
 go_wp2_with fail
 refine (SA.out _ (HS.out.grown G2) (HS2.out.grown G2)).mono ?_
 rintro e w3 ⟨g,cap,rfl,sl,g3⟩
 have G3:=Grew.trans G2 g3
 have S3:=Lib.hid (sl.later G2)
 clear G2 g3 sl
 go_wp2_with fail
 refine (placed_c s _ _ S3.out.sl (by have:=SL.out;omega)).mono ?_
 rintro e w4 (⟨hv,rfl,g4⟩ | ⟨hv,v4,rfl,sl4,g4⟩)
 ·have VV:=Lib.hid hv
  have S4:=Lib.hid (S3.out.grown g4)
  clear hv
  go_wp2_with fail
  go_ret2
  exact Or.inr ⟨VV.out.2.1,_,rfl,S4.out,Grew.trans G3 g4⟩
 ·have VV:=Lib.hid hv
  have S4:=Lib.hid sl4
  clear hv sl4
  go_wp2_with fail
  go_ret2
  exact Or.inl ⟨fun h => VV.out (vl_hull HM.out SL.out.2 h),_,rfl,S4.out,Grew.trans G3 g4⟩
theorem sum_new_c (p q:List Pt) (v u:Value) (w:World) (hs:Sl w v p) (hs2:Sl w u q) (vp:Vl p) (vq:Vl q):Calls Tryz.prog 65 #[v,u] w (SumNew p q w):=by
 by_cases h64:(msum p q).length≤64
 ·refine (sum_small_c p q v u w hs hs2 vp vq h64).mono ?_
  rintro e w' (⟨h,k⟩ | ⟨h,v',rfl,s,g⟩)
  ·exact ⟨_,msum_hull vp vq,Or.inl ⟨h,k⟩⟩
  ·exact ⟨_,msum_hull vp vq,Or.inr ⟨h,v',_,Or.inl ⟨h64,rfl⟩,rfl,s,g⟩⟩
 ·have HS:=Lib.hid hs
  have HS2:=Lib.hid hs2
  have VP:=Lib.hid vp
  have VQ:=Lib.hid vq
  have L1:Hid (p.length≤9223372036854775807):=Lib.hid (by have:=vp.1.2;omega)
  have L2:Hid (q.length≤9223372036854775807):=Lib.hid (by have:=vq.1.2;omega)
  have SA:=Lib.hid (fun V (h1:Sl V v p) (h2:Sl V u q) => sum_any p q v u V h1 h2 vp vq)
  have FIN:Hid (∀ p8 q8 e w1 w',IsOct p p8→IsOct q q8→SmallSays (msum p8 q8) w1 e w'→Grew w w1→SumNew p q w e w'):=Lib.hid (fun p8 q8 e w1 w' h8 k8 hsm g1 => by
   have ho:=oct_sum h8 k8 (msum_hull vp vq) (msum_hull (oct_facts vp h8).1 (oct_facts vq k8).1)
   rcases hsm with ⟨h,v',rfl,s,g⟩ | ⟨h,v',rfl,s,g⟩
   ·exact ⟨_,msum_hull vp vq,Or.inl ⟨fun h' => h ((oct_plcs ho).1 h'),v',rfl,s,Grew.trans g1 g⟩⟩
   ·exact ⟨_,msum_hull vp vq,Or.inr ⟨(oct_plcs ho).2 h,v',_,Or.inr ⟨by omega,ho⟩,rfl,s.later g1,Grew.trans g1 g⟩⟩)
  have S8:Hid (∀ p8 q8 V v8 u8,IsOct p p8→IsOct q q8→Sl V v8 p8→Sl V u8 q8→Calls Tryz.prog 65 #[v8,u8] V (SmallSays (msum p8 q8) V)):=Lib.hid (fun p8 q8 V v8 u8 h8 k8 h1 h2 => by
   have f1:=oct_facts vp h8
   have f2:=oct_facts vq k8
   refine sum_small_c p8 q8 v8 u8 V h1 h2 f1.1 f2.1 ?_
   have:=sum_count f1.1.pg f2.1.pg (msum_hull f1.1 f2.1)
   have:=f1.2.1
   have:=f2.2.1
   omega)
  obtain ⟨m,hm⟩:∃ m,(msum p q).length=m:=⟨_,rfl⟩
  have m64:(64:Int) < (m:Int):=by omega
  rw [hm] at SA
  clear hs hs2 vp vq hm h64
  go_enter Tryz.func65,Tryz.ntmps65
  go_wp2_with fail
  refine ((Hl.landed.valid p v _ HS.out L1.out).mono fun _ _ t => t.to VP.out).mono ?_
  rintro e w1 ⟨rfl,G1⟩
  go_wp2_with fail
  refine ((Hl.landed.valid q u _ (HS2.out.grown G1) L2.out).mono fun _ _ t => t.to VQ.out).mono ?_
  rintro e w2 ⟨rfl,g2⟩
  have G2:=Grew.trans G1 g2
  clear G1 g2
  go_wp2_with fail
  refine (SA.out _ (HS.out.grown G2) (HS2.out.grown G2)).mono ?_
  rintro e w3 ⟨g,cap,rfl,_,g3⟩
  have G3:=Grew.trans G2 g3
  clear G2 g3
  go_wp2_with fail
  refine (Hl.landed.eight_ok p v _ (HS.out.grown G3) VP.out).mono ?_
  rintro e w4 ⟨p8,v8,h8,rfl,sl4,g4⟩
  have H8:=Lib.hid h8
  have G4:=Grew.trans G3 g4
  have S4:=Lib.hid sl4
  clear h8 G3 g4 sl4
  go_wp2_with fail
  refine (Hl.landed.eight_ok q u _ (HS2.out.grown G4) VQ.out).mono ?_
  rintro e w5 ⟨q8,u8,k8,rfl,sl5,g5⟩
  have K8:=Lib.hid k8
  have G5:=Grew.trans G4 g5
  have S5:=Lib.hid sl5
  have S4':=Lib.hid (S4.out.grown g5)
  clear k8 G4 g5 sl5 S4
  go_wp2_with fail
  refine (S8.out p8 q8 _ v8 u8 H8.out K8.out S4'.out S5.out).mono ?_
  rintro e w6 hsm
  have HF:=Lib.hid (FIN.out p8 q8 e _ w6 H8.out K8.out hsm G5)
  rcases hsm with ⟨h,v',rfl,s,g⟩ | ⟨h,v',rfl,s,g⟩
  all_goals
   clear h s g
   go_wp2_with fail
   go_ret2
   exact HF.out
end Mk
end Go.Proofs.YtlookcbokhknfaaGreat
namespace Go.Proofs.YtlookcbokhknfaaGreat
open Go.RowKit Go.Shelf Hl
namespace Rg
theorem landed:Code where
 valid:=rvalid_c Hl.landedN.toCode
 has:=rhasall_c Hl.landedN.toCode
 tidy:=rtidy_c Hl.landedN
 join:=rjoin_c Hl.landedN
 cut:=rcut_c Hl.landedN Ct.landedN
 meet:=rmeet_c Hl.landedN Ct.landedN
 sum:=rsum_c Hl.landedN Mk.sum_new_c
 out:=rout_c Hl.landedN Ct.landedN
 within:=rwithin_c Hl.landedN.toCode Ct.landedN.toCode
 box:=rbox_c Hl.landedN.toCode
end Rg
end Go.Proofs.YtlookcbokhknfaaGreat
