/-
  The landed sum: corners, one after the other.
-/
import Derived.Test.YtbpgfenippiepaaGreatDoorMinkSeq
import Derived.Test.YtbpgfenippiepaaGreatDoorHullBar
namespace Go.Proofs.YtbpgfenippiepaaGreatDoor
open Go.RowKit Go.Shelf Hl
attribute [local go_sem] Oper.semAt_some
namespace Mk
def adv (c:Pt) (l:List Pt):Pt:=l.foldl plus c
theorem adv_snoc (c:Pt) (l:List Pt) (x:Pt):adv c (l ++ [x])=plus (adv c l) x:=by unfold adv;rw [List.foldl_append];rfl
theorem cs_snoc:∀ (l:List Pt) (c x:Pt),cs c (l ++ [x])=cs c l ++ [adv c l]
 | [],_,_ => rfl
 | y :: l,c,x => by
   rw [List.cons_append,cs,cs,cs_snoc l (plus c y) x]
   rfl
theorem cs_split:∀ (l:List Pt) (c x:Pt) (t:List Pt),adv c l ∈ cs c (l ++ x :: t)
 | [],_,_,_ => by
   rw [List.nil_append,cs]
   exact List.mem_cons_self ..
 | y :: l,c,x,t => by
   rw [List.cons_append,cs]
   exact List.mem_cons_of_mem _ (cs_split l (plus c y) x t)
theorem mg_mem (N:Nat):∀ A B:List Pt,A.length+B.length≤N→∀ x,x ∈ mg A B→x ∈ A∨x ∈ B∨∃ a,a ∈ A∧∃ b,b ∈ B∧x=plus a b:=by
 induction N with
 | zero =>
   intro A B h x hx
   obtain rfl:A=[]:=List.length_eq_zero_iff.1 (by omega)
   rw [mg_nil_l] at hx
   exact Or.inr (Or.inl hx)
 | succ N ih =>
   intro A B h x hx
   cases A with
   | nil => rw [mg_nil_l] at hx;exact Or.inr (Or.inl hx)
   | cons a A =>
     cases B with
     | nil => rw [mg_nil_r] at hx;exact Or.inl hx
     | cons b B =>
       simp only [List.length_cons] at h
       rcases Int.lt_trichotomy (xp a b) 0 with g | g | g
       ·rw [mg_gt g] at hx
        rcases List.mem_cons.1 hx with rfl | hx
        ·exact Or.inr (Or.inl (List.mem_cons_self ..))
        ·rcases ih (a :: A) B (by simp;omega) x hx with h1 | h1 | ⟨a',ha,b',hb,h1⟩
         ·exact Or.inl h1
         ·exact Or.inr (Or.inl (List.mem_cons_of_mem _ h1))
         ·exact Or.inr (Or.inr ⟨a',ha,b',List.mem_cons_of_mem _ hb,h1⟩)
       ·rw [mg_eq g] at hx
        rcases List.mem_cons.1 hx with rfl | hx
        ·exact Or.inr (Or.inr ⟨a,List.mem_cons_self ..,b,List.mem_cons_self ..,rfl⟩)
        ·rcases ih A B (by omega) x hx with h1 | h1 | ⟨a',ha,b',hb,h1⟩
         ·exact Or.inl (List.mem_cons_of_mem _ h1)
         ·exact Or.inr (Or.inl (List.mem_cons_of_mem _ h1))
         ·exact Or.inr (Or.inr ⟨a',List.mem_cons_of_mem _ ha,b',List.mem_cons_of_mem _ hb,h1⟩)
       ·rw [mg_lt g] at hx
        rcases List.mem_cons.1 hx with rfl | hx
        ·exact Or.inl (List.mem_cons_self ..)
        ·rcases ih A (b :: B) (by simp;omega) x hx with h1 | h1 | ⟨a',ha,b',hb,h1⟩
         ·exact Or.inl (List.mem_cons_of_mem _ h1)
         ·exact Or.inr (Or.inl h1)
         ·exact Or.inr (Or.inr ⟨a',List.mem_cons_of_mem _ ha,b',hb,h1⟩)
theorem rs_near {p:List Pt} (hp:Plcs p) (n:Nat):∀ x,x ∈ rs p 0 n→(-1000000≤x.1∧x.1≤1000000)∧(-1000000≤x.2∧x.2≤1000000):=fun x hx => by
 obtain ⟨j,rfl⟩:=rs_mem n 0 x hx
 have a:=at_plc hp j
 have b:=at_plc hp ((j+1) % p.length)
 unfold sd sub
 unfold Plc at a b
 simp only
 omega
theorem plc_mem {p:List Pt} (hp:Plcs p) {x:Pt} (hx:x ∈ p):Plc x:=by
 obtain ⟨i,hi,rfl⟩:=mem_at hx
 exact hp i hi
theorem sum_small_all {p q:List Pt} (vp:Vl p) (vq:Vl q):∀ pre x t,mg (rs p 0 p.length) (rs q 0 q.length)=pre ++ x :: t→Wp (adv (plus (at' p 0) (at' q 0)) pre)∧Wp x:=fun pre x t e => by
 refine ⟨?_,?_⟩
 ·have h:adv (plus (at' p 0) (at' q 0)) pre ∈ msum p q:=by
   unfold msum
   rw [e]
   exact cs_split pre _ x t
  obtain ⟨y,hy,z,hz,h2⟩:=mem_sums.1 ((msum_hull vp vq).2.1 _ h)
  have a:=plc_mem vp.2.1 hy
  have b:=plc_mem vq.2.1 hz
  rw [← h2]
  unfold Wp plus
  unfold Plc at a b
  simp only
  omega
 ·have hx:x ∈ mg (rs p 0 p.length) (rs q 0 q.length):=by rw [e];simp
  rcases mg_mem _ _ _ (Nat.le_refl _) x hx with h | h | ⟨a,ha,b,hb,rfl⟩
  ·have:=rs_near vp.2.1 _ x h
   unfold Wp
   omega
  ·have:=rs_near vq.2.1 _ x h
   unfold Wp
   omega
  ·have h1:=rs_near vp.2.1 _ a ha
   have h2:=rs_near vq.2.1 _ b hb
   unfold Wp plus
   simp only
   omega
theorem first_wp {p:List Pt} (hp:Plcs p):Wp (at' p 0):=by
 have a:=at_plc hp 0
 unfold Wp
 unfold Plc at a
 omega
theorem Kpm.alloc {L C:Nat} {X Y:World} (h:Kpm L C X Y) (hL:L < X.heap.size) (o:Obj):Kpm L C X (Y.alloc o):=by
 have g:=World.grownBy_alloc Y o none
 refine h.trans ⟨g.size,fun k cs t f e _ _ _ => (g.block k (Array.getElem?_eq_some_iff.1 e).1 (by simp)).trans e,fun k _ fr => fr.same (g.block L (Nat.lt_of_lt_of_le hL h.size) (by simp))⟩
theorem Kpm.grown {L C:Nat} {X Y:World} {v:Value} (hL:L < X.heap.size) (hc:X.cell? ⟨L,0,none⟩=some v) (hn:v.ownBlock ≠ some L) (g:X.grownBy Y v.ownBlock):Kpm L C X Y :=
 ⟨g.size,fun k cs t f e _ _ fr => (g.block k (Array.getElem?_eq_some_iff.1 e).1 (fun e2 => by have:=fr v k hc e2.symm;omega)).trans e,fun k _ fr => fr.same (g.block L hL (fun e => hn e.symm))⟩
theorem Kpm.setL {L C:Nat} {X Y:World} (h:Kpm L C X Y) {v v':Value} (_hL:L < X.heap.size) (hc:X.cell? ⟨L,0,none⟩=some v) (hn:∀ g',v'.ownBlock=some g'→(∃ g,v.ownBlock=some g∧g≤g')∨X.heap.size≤g') (hf:∀ u,(Y.setCell ⟨L,0,none⟩ v').cell? ⟨L,0,none⟩=some u→u=v'):Kpm L C X (Y.setCell ⟨L,0,none⟩ v'):=by
 have sz:(Y.setCell ⟨L,0,none⟩ v').heap.size=Y.heap.size:=by simp [World.setCell]
 refine ⟨by rw [sz];exact h.size,fun k cs t f e h1 h2 h3 => (Below.heap_setCell _ _ _ k h1).trans (h.same k cs t f e h1 h2 h3),fun k hk fr u g' hu hg' => ?_⟩
 obtain rfl:=hf u hu
 rcases hn g' hg' with ⟨g,e1,e2⟩ | e2
 ·exact Nat.lt_of_lt_of_le (fr v g hc e1) e2
 ·omega
theorem Kpm.setC {L C:Nat} {X Y:World} (h:Kpm L C X Y) (hne:L ≠ C) (o:Nat) (v:Value):Kpm L C X (Y.setCell ⟨C,o,none⟩ v):=by
 refine h.trans ⟨by simp [World.setCell],fun k cs t f e _ h2 _ => (Below.heap_setCell _ _ _ k h2).trans e,fun k _ fr => fr.same (Below.heap_setCell _ _ _ L hne)⟩
theorem kf_grown {B:Nat} {X Y:World} {row:Option Nat} (g:X.grownBy Y row) (h:∀ r,row=some r→∃ cs t f,X.heap[r]? = some (.cells cs t f)):KeepsFrom B X Y:=keepsFrom_grown g h
theorem own_base {B:Nat} {X:World} {v:Value} {l:List Pt} (h:Hl.Own B X v l) (hB:B≤X.heap.size):∃ bs,Hl.Own bs X v l∧bs≤X.heap.size∧B≤bs∧((∃ g,v.ownBlock=some g∧g=bs)∨(v.ownBlock=none∧bs=X.heap.size)):=by
 rcases h.2 with ⟨rfl,h0⟩ | ⟨g,cap,cur,rfl,hg,hgb,h1⟩
 ·exact ⟨X.heap.size,⟨h.1,Or.inl ⟨rfl,h0⟩⟩,Nat.le_refl _,hB,Or.inr ⟨rfl,rfl⟩⟩
 ·exact ⟨g,⟨h.1,Or.inr ⟨g,cap,cur,rfl,Nat.le_refl _,hgb,h1⟩⟩,Nat.le_of_lt (Array.getElem?_eq_some_iff.1 hgb).1,hg,Or.inl ⟨g,rfl,rfl⟩⟩
theorem own_keep {B:Nat} {X Y:World} {v:Value} {l:List Pt} {row:Option Nat} (h:Hl.Own B X v l) (g:X.grownBy Y row) (hne:∀ k,v.ownBlock=some k→row ≠ some k):Hl.Own B Y v l:=by
 refine h.keeps g ?_
 rcases h.2 with ⟨rfl,_⟩ | ⟨k,cap,cur,rfl,_,hgb,_⟩
 ·exact Or.inl rfl
 ·exact Or.inr (fun e => hne k rfl e.symm)
def SumI (W w1:World) (L C:Nat) (c0:Pt) (pre:List Pt) (X:World):Prop :=
 ((∃ v,Blk X L #[v] 48∧Hl.Own w1.heap.size X v (cs c0 pre))∧Blk X C #[.int .i64 (adv c0 pre).1,.int .i64 (adv c0 pre).2] 24)∧Below W.heap.size W X∧w1.heap.size≤X.heap.size
theorem SumI.stays {W w1:World} {L C:Nat} {c0:Pt} {pre:List Pt} {X Y:World} {row:Option Nat} (h:SumI W w1 L C c0 pre X) (hw:W.heap.size≤w1.heap.size) (hL:L < w1.heap.size) (hC:C < w1.heap.size) (g:X.grownBy Y row)
  (hr:∀ r,row=some r→w1.heap.size≤r∧∃ o:Obj,X.heap[r]? = some o∧(o.isCells=false∨Free L X r)):SumI W w1 L C c0 pre Y:=by
 obtain ⟨⟨⟨v,h1,h2⟩,h3⟩,h4,h5⟩:=h
 refine ⟨⟨⟨v,h1.kept g (fun e => by have:=(hr L e.symm).1;omega),own_keep h2 g (fun k hk e => ?_)⟩,h3.kept g (fun e => by have:=(hr C e.symm).1;omega)⟩,h4.grown g (by omega) (fun k e => by have:=(hr k e).1;omega),Nat.le_trans h5 g.size⟩
 obtain ⟨_,o,ho,h6⟩:=hr k e
 rcases h6 with h6 | h6
 ·obtain ⟨cs,t,f,hc⟩:=own_cells h2 k hk
  rw [hc] at ho
  cases ho
  cases h6
 ·exact absurd (h6 v k h1.one.1 hk) (Nat.lt_irrefl _)
theorem sum_fin {W w1 X Z:World} {L C:Nat} {c0 x:Pt} {pre:List Pt} {v:Value} (hw:W.heap.size≤w1.heap.size) (hL:L < w1.heap.size) (hC:C < w1.heap.size) (hCW:W.heap.size≤C) (hne:L ≠ C) (hX:w1.heap.size≤X.heap.size)
  (bL:Blk Z L #[v] 48) (ow:Hl.Own w1.heap.size Z v (cs c0 (pre ++ [x]))) {k:Pt} (bC:Blk Z C #[.int .i64 k.1,.int .i64 k.2] 24) (bl:Below W.heap.size W Z) (sz:w1.heap.size≤Z.heap.size) (kf:KeepsFrom w1.heap.size X Z) (kp:Kpm L C X Z) (o1 o2 o3:Obj) {s:Pt} (hs:adv c0 (pre ++ [x])=s) :
  KeepsFrom w1.heap.size X (((((Z.alloc o1).alloc o2).alloc o3).setCell ⟨C,0,none⟩ (.int .i64 s.1)).setCell ⟨C,1,none⟩ (.int .i64 s.2))∧Kpm L C X (((((Z.alloc o1).alloc o2).alloc o3).setCell ⟨C,0,none⟩ (.int .i64 s.1)).setCell ⟨C,1,none⟩ (.int .i64 s.2)) ∧
  SumI W w1 L C c0 (pre ++ [x]) (((((Z.alloc o1).alloc o2).alloc o3).setCell ⟨C,0,none⟩ (.int .i64 s.1)).setCell ⟨C,1,none⟩ (.int .i64 s.2)):=by
 have hLX:L < X.heap.size:=by omega
 have kp3:Kpm L C X (((Z.alloc o1).alloc o2).alloc o3):=((kp.alloc hLX o1).alloc hLX o2).alloc hLX o3
 have kf3:KeepsFrom w1.heap.size X (((Z.alloc o1).alloc o2).alloc o3):=((kf.trans ((KeepsOthers.alloc Z o1).from _)).trans ((KeepsOthers.alloc _ o2).from _)).trans ((KeepsOthers.alloc _ o3).from _)
 have bL3:=((bL.alloc o1).alloc o2).alloc o3
 have bC3:=((bC.alloc o1).alloc o2).alloc o3
 have ow3:Hl.Own w1.heap.size (((Z.alloc o1).alloc o2).alloc o3) v (cs c0 (pre ++ [x])):=((ow.alloc o1).alloc o2).alloc o3
 have bl3:Below W.heap.size W (((Z.alloc o1).alloc o2).alloc o3):=((bl.alloc (by omega) o1).alloc (by simp;omega) o2).alloc (by simp;omega) o3
 have sz3:w1.heap.size≤(((Z.alloc o1).alloc o2).alloc o3).heap.size:=by simp;omega
 generalize (((Z.alloc o1).alloc o2).alloc o3)=V at *
 have g1:=grownBy_setCell V C 0 (.int .i64 s.1)
 have g2:=grownBy_setCell (V.setCell ⟨C,0,none⟩ (.int .i64 s.1)) C 1 (.int .i64 s.2)
 have g:=grownBy_trans g1 g2
 have neC:∀ k',v.ownBlock=some k'→(some C:Option Nat) ≠ some k':=fun k' h e => by
  cases e
  rcases ow3.2 with ⟨rfl,_⟩ | ⟨q,_,_,rfl,hq,_⟩
  ·simp [Value.ownBlock] at h
  ·simp [Value.ownBlock] at h
   omega
 refine ⟨kf3.trans (kf_grown g (fun r e => by cases e;exact ⟨_,_,_,bC3⟩)),(kp3.setC hne 0 _).setC hne 1 _,⟨⟨v,bL3.kept g (fun e => hne (Option.some.inj e)),own_keep ow3 g neC⟩,?_⟩,bl3.grown g (by have:=bl3.size;exact this) (fun r e => by cases e;exact hCW),Nat.le_trans sz3 g.size⟩
 rw [hs]
 exact bC3.put2
set_option maxRecDepth 100000 in
set_option maxHeartbeats 8000000 in
theorem sum_c (b o c b' o' c':Nat) (p q:List Pt) (vp:Vl p) (vq:Vl q) (W:World) (rp:Row W b o p) (rq:Row W b' o' q) :
  Calls Tryz.prog 97 #[.slice (some ⟨b,o,none⟩) p.length c,.slice (some ⟨b',o',none⟩) q.length c'] W fun e w' => ∃ v,e=.returned v∧Hl.Own W.heap.size w' v (msum p q)∧Grew W w':=by
 have RP:=Lib.hid rp
 have RQ:=Lib.hid rq
 have VP:=Lib.hid vp
 have VQ:=Lib.hid vq
 have SM:=Lib.hid (sum_small_all vp vq)
 have p1:(0:Int) < (p.length:Int):=by have:=vp.1.1;omega
 have q1:(0:Int) < (q.length:Int):=by have:=vq.1.1;omega
 obtain ⟨x,hx⟩:∃ x,at' p 0=x:=⟨_,rfl⟩
 obtain ⟨y,hy⟩:∃ y,at' q 0=y:=⟨_,rfl⟩
 have PL:Hid (∀ X:World,Calls Tryz.prog 65 #[.agg #[.int .i64 x.1,.int .i64 x.2],.agg #[.int .i64 y.1,.int .i64 y.2]] X fun e w' => e=.returned (.agg #[.int .i64 (plus x y).1,.int .i64 (plus x y).2])∧((X.alloc (.cells #[.int .i64 x.1,.int .i64 x.2] 24)).alloc (.cells #[.int .i64 y.1,.int .i64 y.2] 24)).alloc (.cells #[.int .i64 (plus x y).1,.int .i64 (plus x y).2] 24)=w') :=
  Lib.hid (fun X => plus_m x y X (hx ▸ first_wp vp.2.1) (hy ▸ first_wp vq.2.1))
 obtain ⟨u0,u1⟩:=rp.2 0 (by have:=vp.1.1;omega)
 obtain ⟨u2,u3⟩:=rq.2 0 (by have:=vq.1.1;omega)
 simp only [Nat.zero_mul,Nat.add_zero] at u0 u1 u2 u3
 rw [hx] at u0 u1
 rw [hy] at u2 u3
 have hb:=rp.1
 have hb':=rq.1
 have hb1:b < W.heap.size+1:=by omega
 have hb'1:b' < W.heap.size+1:=by omega
 have hb2:b < W.heap.size+1+1:=by omega
 have hb'2:b' < W.heap.size+1+1:=by omega
 have hb3:b < W.heap.size+1+1+1:=by omega
 have hb'3:b' < W.heap.size+1+1+1:=by omega
 have hb4:b < W.heap.size+1+1+1+1:=by omega
 have hb'4:b' < W.heap.size+1+1+1+1:=by omega
 have hb5:b < W.heap.size+1+1+1+1+1:=by omega
 have hb'5:b' < W.heap.size+1+1+1+1+1:=by omega
 have hb6:b < W.heap.size+1+1+1+1+1+1:=by omega
 have hb'6:b' < W.heap.size+1+1+1+1+1+1:=by omega
 have hmx:Tryz.prog.follows .mixedOrders=true:=by kernel_rfl
 clear rp rq vp vq
 obtain ⟨np,hnp⟩:∃ np,p.length=np+1:=⟨p.length - 1,by omega⟩
 obtain ⟨nq,hnq⟩:∃ nq,q.length=nq+1:=⟨q.length - 1,by omega⟩
 have p2:(0:Int) < (np:Int)+1:=by omega
 have q2:(0:Int) < (nq:Int)+1:=by omega
 rw [hnp,hnq]
 clear p1 q1
 have HN:=Lib.hid hnp
 have HQ:=Lib.hid hnq
 have XY:Hid (at' p 0=x∧at' q 0=y):=Lib.hid ⟨hx,hy⟩
 clear hnp hnq hx hy
 refine (callsIn_wide (n:=20)).1 ?_
 refine callsIn_of_wp_marks Tryz.func97 rfl trivial ?_ rfl
 simp only [Tryz.ntmps97,List.size_toArray,List.length_cons,List.length_nil,Nat.reduceAdd,Nat.reduceSub,Array.replicate_succ,Array.replicate_zero,List.push_toArray,List.append_toArray,List.nil_append,List.cons_append]
 gi_wp2
 gi_cut [6] from 8 (fun s X => ∃ C,s=.pointer (some ⟨C,0,none⟩)∧Hid (Blk X C #[.int .i64 (plus x y).1,.int .i64 (plus x y).2] 24∧Blk X W.heap.size #[.slice none 0 0] 48∧W.heap.size < C∧Grew W X))
 case rest =>
  obtain ⟨C,rfl,hh⟩:=hcut
  obtain ⟨bC,bL,hLC,G⟩:=hh.out
  clear hh
  gi_wp2_with fail
  refine ⟨trivial,(merged_in _ _ _ _ _ _ _ wc).mono ?_⟩
  rintro e w1 ⟨rfl,hw1⟩
  have P1:w1.cell? ⟨wc.heap.size,0,none⟩=some (.slice (some ⟨b,o,none⟩) p.length c):=by rw [hw1,HN.out];simp [go_sem]
  have Q1:w1.cell? ⟨wc.heap.size+1,0,none⟩=some (.slice (some ⟨b',o',none⟩) q.length c'):=by rw [hw1,HQ.out];simp [go_sem]
  have sz1:w1.heap.size=wc.heap.size+1+1:=by rw [hw1];simp
  have G1:Grew wc w1:=by rw [hw1];exact ((Grew.refl wc).alloc _ _).alloc _ _
  have GW:=G.trans G1
  have bC1:=bC.grown G1
  have bL1:=bL.grown G1
  have lC:=bC.lt
  have gsz:=G.size
  clear hw1
  gi_wp2_with fail
  have eg:∀ args X,(callFunc 171 args).run Tryz.prog X=.ok (.enter 171 args) X:=enters_of Tryz.func171 (by kernel_rfl) rfl
  have hseq:Sq.Runs Fence.wide (20 - 1) Tryz.prog 171 #[.pointer (some ⟨wc.heap.size,0,none⟩),.pointer (some ⟨wc.heap.size+1,0,none⟩)] encA (Free W.heap.size) (Kpm W.heap.size C) (fun pre z => ∃ t,mg (rs p 0 p.length) (rs q 0 q.length)=pre ++ z :: t) (fun ys => ys=mg (rs p 0 p.length) (rs q 0 q.length)) w1:=fun l J X hX hJ hY h0 =>
   have sX:=hX.size
   have gX:Grew W X:=Grew.trans GW hX
   merged1_in 19 (by omega) l W.heap.size C wc.heap.size (wc.heap.size+1) b o c b' o' c' p q VP.out VQ.out J X hJ hY (by omega) (by omega) ((hX.cell (p:=⟨W.heap.size,0,none⟩) (show W.heap.size < w1.heap.size by omega)).trans bL1.one.1) (by omega) (by omega)
    ((hX.cell (p:=⟨wc.heap.size,0,none⟩) (show wc.heap.size < w1.heap.size by omega)).trans P1) ((hX.cell (p:=⟨wc.heap.size+1,0,none⟩) (show wc.heap.size+1 < w1.heap.size by omega)).trans Q1) (RP.out.grown gX) (RQ.out.grown gX) h0
  have hL1:W.heap.size < w1.heap.size:=by omega
  have hC1:C < w1.heap.size:=by omega
  have hW1:W.heap.size≤w1.heap.size:=by omega
  have I0:SumI W w1 W.heap.size C (plus x y) [] w1:=⟨⟨⟨_,bL1,Hl.Own.nil _ _⟩,bC1⟩,GW,Nat.le_refl _⟩
  have LEN:Hid (∀ pre z t,mg (rs p 0 p.length) (rs q 0 q.length)=pre ++ z :: t→pre.length≤128):=Lib.hid (fun pre z t e => by
   have h1:=(mg_len _ (rs p 0 p.length) (rs q 0 q.length) (Nat.le_refl _)).2.2
   rw [e,rs_len,rs_len,List.length_append] at h1
   have:=VP.out.1.2
   have:=VQ.out.1.2
   omega)
  have DONE:Hid (∀ ys,ys=mg (rs p 0 p.length) (rs q 0 q.length)→cs (plus x y) ys=msum p q):=Lib.hid (fun ys e => by
   rw [e,← XY.out.1,← XY.out.2]
   rfl)
  have SM2:Hid (∀ pre z t,mg (rs p 0 p.length) (rs q 0 q.length)=pre ++ z :: t→Wp (adv (plus x y) pre)∧Wp z):=Lib.hid (by
   have h:=SM.out
   rw [XY.out.1,XY.out.2] at h
   exact h)
  clear P1 Q1 bC bL bC1 bL1 G1 SM
  refine Sq.range_runs rfl (by omega) (gf:=171) (lb:=#[.pointer (some ⟨wc.heap.size,0,none⟩),.pointer (some ⟨wc.heap.size+1,0,none⟩)]) rfl trivial eg hseq Kpm.trans (Kpm.put hL1) (Below.refl _ _) (fun _ => rfl)
   (SumI W w1 W.heap.size C (plus x y)) (fun s X Y row h g hr => h.stays hW1 hL1 hC1 g hr) I0
   (fun z a' X => ∃ Bx,w1.heap.size≤Bx∧Blk X Bx #[.int .i64 z.1,.int .i64 z.2] 24∧(∀ v,X.cell? ⟨W.heap.size,0,none⟩=some v→v.ownBlock ≠ some Bx)∧a' = { tmps:=#[.slice (some ⟨b,o,none⟩) (np+1) c,.slice (some ⟨b',o',none⟩) (nq+1) c',undef,undef,.slice none 0 0,.pointer (some ⟨W.heap.size,0,none⟩),.pointer (some ⟨C,0,none⟩),.pointer (some ⟨Bx,0,none⟩),u8,u9,u10,u11,u12,u13,u14,.slice (some ⟨b,o,none⟩) (np+1) c,.slice (some ⟨b',o',none⟩) (nq+1) c',.func (.func 171) #[] #[.pointer (some ⟨wc.heap.size,0,none⟩),.pointer (some ⟨wc.heap.size+1,0,none⟩)],.agg #[.int .i64 z.1,.int .i64 z.2],u19,u20,u21,u22,u23,u24,u25,u26],defers:=[] })
   (fun z a' X l ob ob' hl ho hc h => by
    obtain ⟨Bx,h1,h2,h3,h4⟩:=h
    refine ⟨Bx,h1,h2.kept (grownBy_putObj' X l ob') (fun e => ?_),fun v hv => h3 v ?_,h4⟩
    ·cases e
     rw [show X.heap[l]? = _ from h2] at ho
     cases ho
     cases hc
    ·rw [← hv]
     exact (cell_of_block (World.putObj_heap_other (by omega))).symm)
   ?assign ?body ?done
  case assign =>
   rintro l pre z X K hI hK
   unfold encA
   gi_wp2
   have hx1:=hI.2.2
   obtain ⟨⟨⟨v,h1,h2⟩,h3⟩,h4,h5⟩:=hI
   exact hK _ _ ((KeepsOthers.alloc _ _).from _) ((Kpm.refl _ _ X).alloc (by omega) _) ⟨⟨⟨v,h1.alloc _,h2.alloc _⟩,h3.alloc _⟩,h4.alloc (by omega) _,by simp;omega⟩ ⟨X.heap.size,hx1,Blk.new X _ _,(fun v' hv e => by
    rw [(h1.alloc _).one.1] at hv
    cases hv
    obtain ⟨_,_,_,hq⟩:=own_cells h2 _ e
    have:=(Array.getElem?_eq_some_iff.1 hq).1
    omega),rfl⟩
  case body =>
   rintro l pre z a' X ⟨⟨⟨v,h1,h2⟩,h3⟩,h4,h5⟩ ⟨Bx,hBx,bX,nX,rfl⟩ ⟨tl,htl⟩
   obtain ⟨wk,wz⟩:=SM2.out pre z tl htl
   have ln:=LEN.out pre z tl htl
   obtain ⟨k,hk⟩:∃ k,adv (plus x y) pre=k:=⟨_,rfl⟩
   obtain ⟨s,hs⟩:∃ s,plus k z=s:=⟨_,rfl⟩
   have hadv:Hid (adv (plus x y) (pre ++ [z])=s):=Lib.hid (by rw [adv_snoc,hk,hs])
   have hcs:Hid (cs (plus x y) (pre ++ [z])=cs (plus x y) pre ++ [k]):=Lib.hid (by rw [cs_snoc,hk])
   have PZ:Hid (∀ V:World,CallsIn (Fence.wide.inRound l) (20 - 1 - 1 - 1) Tryz.prog 65 #[.agg #[.int .i64 k.1,.int .i64 k.2],.agg #[.int .i64 z.1,.int .i64 z.2]] V fun e w' => e=.returned (.agg #[.int .i64 s.1,.int .i64 s.2])∧Hid (((V.alloc (.cells #[.int .i64 k.1,.int .i64 k.2] 24)).alloc (.cells #[.int .i64 z.1,.int .i64 z.2] 24)).alloc (.cells #[.int .i64 s.1,.int .i64 s.2] 24)=w')∧∀ i,i < V.heap.size→w'.heap[i]? = V.heap[i]?):=Lib.hid (fun V => CallsIn.inRound l (callsIn_wide.2 (by
    have h:=plus_m k z V (hk ▸ wk) wz
    rw [hs] at h
    refine h.mono ?_
    rintro e w' ⟨rfl,rfl⟩
    exact ⟨rfl,Lib.hid rfl,fun i hi => (((Grew.refl V).alloc _ _).alloc _ _ |>.alloc _ _).block i hi⟩)))
   rw [hk] at h3
   obtain ⟨lst,hlst⟩:∃ lst,cs (plus x y) pre=lst:=⟨_,rfl⟩
   have hll:lst.length=pre.length:=by rw [← hlst,cs_len]
   rw [hlst] at h2
   rw [hlst] at hcs
   obtain ⟨bs,o1,o2,o3,o4⟩:=own_base h2 h5
   have OB:Hid (∀ g',bs≤g'→(∃ g,v.ownBlock=some g∧g≤g')∨X.heap.size≤g'):=Lib.hid (fun g' hg => by
    rcases o4 with ⟨g,e1,e2⟩ | ⟨e1,e2⟩
    ·exact Or.inl ⟨g,e1,by omega⟩
    ·exact Or.inr (by omega))
   have NB:Hid (∀ g,v.ownBlock=some g→bs≤g):=Lib.hid (fun g hg => by
    rcases o4 with ⟨g',e1,e2⟩ | ⟨e1,e2⟩
    ·rw [e1] at hg
     cases hg
     omega
    ·rw [e1] at hg
     cases hg)
   obtain ⟨s0,s1⟩:=h1.one
   obtain ⟨⟨c0,c1⟩,c2,c3⟩:=h3.two
   obtain ⟨⟨x0,x1⟩,x2,x3⟩:=bX.two
   have nX':=Lib.hid (nX v s0)
   have lL:=h1.lt
   have lC:=h3.lt
   have lX:=bX.lt
   have n1:W.heap.size ≠ C:=by omega
   have n2:C ≠ W.heap.size:=by omega
   have n3:Bx ≠ W.heap.size:=by omega
   have n4:Bx ≠ C:=by omega
   have n5:C ≠ Bx:=by omega
   obtain ⟨i0,hi,hz0,hz1,hz2⟩:=info_parts info_pt
   have OW:=Lib.hid o1
   have KL:=Lib.hid h1
   have KC:=Lib.hid h3
   have KX:=Lib.hid bX
   have GB:=Lib.hid h4
   have SZ:Hid (bs≤X.heap.size∧w1.heap.size≤bs∧w1.heap.size≤X.heap.size∧W.heap.size < w1.heap.size∧C < w1.heap.size∧W.heap.size < C∧lst.length≤128):=Lib.hid ⟨o2,o3,h5,hL1,hC1,hLC,by omega⟩
   have STEP:Hid (∀ v' w3,w3.ownsRow bs 24 2 v' (lst.length+1) (cellsOf lst ++ cellsOf [k])→(X.alloc (.cells #[.int .i64 k.1,.int .i64 k.2] 24)).grownBy w3 v.ownBlock →
     ∃ sa sc,v'=.slice sa (lst.length+1) sc∧(w3.cell? ⟨W.heap.size,0,none⟩=some v∧w3.frozen? ⟨W.heap.size,0,none⟩=false)∧((w3.cell? ⟨C,0,none⟩=some (.int .i64 k.1)∧w3.cell? ⟨C,1,none⟩=some (.int .i64 k.2))∧w3.frozen? ⟨C,0,none⟩=false∧w3.frozen? ⟨C,1,none⟩=false)∧(w3.cell? ⟨Bx,0,none⟩=some (.int .i64 z.1)∧w3.cell? ⟨Bx,1,none⟩=some (.int .i64 z.2)) ∧
       (W.heap.size < w3.heap.size∧C < w3.heap.size∧Bx < w3.heap.size)∧Hid (Blk w3 C #[.int .i64 k.1,.int .i64 k.2] 24)∧Hid (∀ a b c:Obj,
        KeepsFrom w1.heap.size X ((((((w3.setCell ⟨W.heap.size,0,none⟩ (.slice sa (lst.length+1) sc)).alloc a).alloc b).alloc c).setCell ⟨C,0,none⟩ (.int .i64 s.1)).setCell ⟨C,1,none⟩ (.int .i64 s.2))∧Kpm W.heap.size C X ((((((w3.setCell ⟨W.heap.size,0,none⟩ (.slice sa (lst.length+1) sc)).alloc a).alloc b).alloc c).setCell ⟨C,0,none⟩ (.int .i64 s.1)).setCell ⟨C,1,none⟩ (.int .i64 s.2)) ∧
        SumI W w1 W.heap.size C (plus x y) (pre ++ [z]) ((((((w3.setCell ⟨W.heap.size,0,none⟩ (.slice sa (lst.length+1) sc)).alloc a).alloc b).alloc c).setCell ⟨C,0,none⟩ (.int .i64 s.1)).setCell ⟨C,1,none⟩ (.int .i64 s.2)))):=Lib.hid (fun v' w3 hown' hg3 => by
    obtain ⟨z1,z2,z3,z4,z5,z6,z7⟩:=SZ.out
    have nb:=NB.out
    have KL3:=(KL.out.alloc (.cells #[.int .i64 k.1,.int .i64 k.2] 24)).kept hg3 (fun e => by have:=nb _ e.symm;omega)
    have KC3:=(KC.out.alloc (.cells #[.int .i64 k.1,.int .i64 k.2] 24)).kept hg3 (fun e => by have:=nb _ e.symm;omega)
    have KX3:=(KX.out.alloc (.cells #[.int .i64 k.1,.int .i64 k.2] 24)).kept hg3 (fun e => nX'.out e.symm)
    have ow:Hl.Own bs w3 v' (lst ++ [k]):=by unfold Hl.Own;rw [cellsOf_append,List.length_append];exact hown'
    obtain ⟨sa,sc,rfl⟩:=ow.sl.shape
    rw [List.length_append] at ow ⊢
    have ow2:Hl.Own bs w3 (.slice sa (lst.length+1) sc) (lst ++ [k]):=ow
    have gs:=grownBy_setCell w3 W.heap.size 0 (.slice sa (lst.length+1) sc)
    have nL:∀ g,(Value.slice sa (lst.length+1) sc).ownBlock=some g→bs≤g:=fun g hg => ow2.block g hg
    have owZ:Hl.Own w1.heap.size (w3.setCell ⟨W.heap.size,0,none⟩ (.slice sa (lst.length+1) sc)) (.slice sa (lst.length+1) sc) (cs (plus x y) (pre ++ [z])):=by
     rw [hcs.out]
     exact own_keep (own_mono ow2 z2) gs (fun g hg e => by cases e;have:=nL _ hg;omega)
    have bLZ:Blk (w3.setCell ⟨W.heap.size,0,none⟩ (.slice sa (lst.length+1) sc)) W.heap.size #[.slice sa (lst.length+1) sc] 48:=KL3.put0
    have bCZ:=KC3.kept gs (fun e => by cases e;omega)
    have h3s:=hg3.size
    rw [World.size_alloc] at h3s
    have blZ:Below W.heap.size W (w3.setCell ⟨W.heap.size,0,none⟩ (.slice sa (lst.length+1) sc)):=((GB.out.alloc (by omega) _).grown hg3 (by simp;omega) (fun g e => by have:=nb g e;omega)).grown gs (by omega) (fun g e => by cases e;exact Nat.le_refl _)
    have kfZ:KeepsFrom w1.heap.size X (w3.setCell ⟨W.heap.size,0,none⟩ (.slice sa (lst.length+1) sc)):=(((KeepsOthers.alloc X (.cells #[.int .i64 k.1,.int .i64 k.2] 24)).from _).trans (kf_grown hg3 (own_cells (OW.out.alloc _)))).trans (kf_grown gs (fun r e => by cases e;exact ⟨_,_,_,KL3⟩))
    have kpZ:Kpm W.heap.size C X (w3.setCell ⟨W.heap.size,0,none⟩ (.slice sa (lst.length+1) sc)) :=
     (((Kpm.refl _ _ X).alloc (by omega) _).trans (Kpm.grown (by simp;omega) (KL.out.alloc _).one.1 (fun e => by have:=nb _ e;omega) hg3)).setL (by omega) KL.out.one.1 (fun g' hg => OB.out g' (nL g' hg)) (fun u hu => by rw [bLZ.one.1] at hu;cases hu;rfl)
    have szZ:w1.heap.size≤(w3.setCell ⟨W.heap.size,0,none⟩ (.slice sa (lst.length+1) sc)).heap.size:=by have:=gs.size;omega
    exact ⟨sa,sc,rfl,KL3.one,⟨KC3.two.1,KC3.two.2⟩,KX3.two.1,⟨KL3.lt,KC3.lt,KX3.lt⟩,Lib.hid KC3,Lib.hid (fun a b c => sum_fin (by omega) z4 z5 (by omega) (by omega) z3 bLZ owZ bCZ blZ szZ kfZ kpZ a b c hadv.out)⟩)
   have hlb:=Lib.hid SZ.out.2.2.2.2.2.2
   clear h1 h2 h3 h4 h5 o1 o2 o3 o4 bX nX hk hs wk wz htl ln hlst hll hadv hcs
   gi_wp2_with (first
    | (refine ⟨trivial,(PZ.out _).mono ?_⟩;rintro e w4 ⟨rfl,HW,hf⟩;have bz:Blk w4 C #[.int .i64 k.1,.int .i64 k.2] 24:=((hf C (by simp [World.setCell];omega)).trans (Below.heap_setCell _ _ _ C n2)).trans B3.out;obtain ⟨⟨y0,y1⟩,y2,y3⟩:=bz.two;have y4:=bz.lt;clear hf bz)
    | (gi_at_builtin;go_loud (refine wpListIn_append_own _ rfl _ _ 48 rfl bs 24 i0 (.agg #[.int .i64 0,.int .i64 0]) 2 16 Tryz.underlying48 hi hz0 hz1 hz2 rfl (by decide) v lst.length (cellsOf lst) rfl (World.ownsRow.alloc OW.out _) ⟨X.heap.size,0,none⟩ 1 1 (cellsOf [k]) rfl (cellsOf_len [k]) (row_cells (row_one rfl)) (cells_one [k]) (by have:=hlb.out;unfold maxLen;omega) (by have:=hlb.out;omega) (by have:=SZ.out;simp;omega) ?_;intro v' w3 hown' hg3 hnil3;obtain ⟨sa,sc,rfl,⟨s2,s3⟩,⟨⟨c4,c5⟩,c6,c7⟩,⟨x4,x5⟩,⟨m1,m2,m3⟩,B3,HH⟩:=STEP.out v' w3 hown' hg3;clear hown' hg3 hnil3;go_frame)))
   have ew:=HW.out
   subst ew
   exact HH.out _ _ _
  case done =>
   rintro D xs X hD hS ⟨⟨⟨v,g1,g2⟩,g3⟩,g4,g5⟩ hK
   rw [DONE.out xs hS] at g2
   obtain ⟨s0,s1⟩:=g1.one
   have lS:=g1.lt
   gi_wp2
   refine ⟨by simp,.inl ⟨_,_,rfl,run_takeDeferred hK,?_⟩⟩
   exact ⟨v,by simp [results,Tryz.results97,go_sem],v,rfl,(own_mono g2 hW1).keeps (grownBy_putObj' _ D (.deferred none)) (by
    rcases g2.2 with ⟨rfl,_⟩ | ⟨g,cap,cur,rfl,_,hgb,_⟩
    ·exact Or.inl rfl
    ·exact Or.inr (fun e => by
      simp [Value.ownBlock] at e
      subst e
      rw [hgb] at hK
      cases hK)),g4.trans (belowK_b (w:=W) (Nat.le_refl _) X D _ _ (by omega) hK rfl rfl)⟩
 all_goals
  refine wpIn_wide.2 (wp_mono (Q:=Bar.Only (fun _ a' X => ∃ C,a' = { tmps:=#[.slice (some ⟨b,o,none⟩) (np+1) c,.slice (some ⟨b',o',none⟩) (nq+1) c',undef,undef,.slice none 0 0,.pointer (some ⟨W.heap.size,0,none⟩),.pointer (some ⟨C,0,none⟩),undef,.slice (some ⟨b,o,none⟩) (np+1) c,.pointer (some ⟨b,o,none⟩),.agg #[.int .i64 x.1,.int .i64 x.2],.slice (some ⟨b',o',none⟩) (nq+1) c',.pointer (some ⟨b',o',none⟩),.agg #[.int .i64 y.1,.int .i64 y.2],.agg #[.int .i64 (plus x y).1,.int .i64 (plus x y).2],undef,undef,undef,undef,undef,undef,undef,undef,undef,undef,undef,undef],defers:=[] }∧Hid (Blk X C #[.int .i64 (plus x y).1,.int .i64 (plus x y).2] 24∧Blk X W.heap.size #[.slice none 0 0] 48∧W.heap.size < C∧Grew W X))) ?_ ?_)
  ·go_region_held3 (fun X => (X.cell? ⟨b,o,none⟩=some (.int .i64 x.1)∧X.cell? ⟨b,o+1,none⟩=some (.int .i64 x.2))∧(X.cell? ⟨b',o',none⟩=some (.int .i64 y.1)∧X.cell? ⟨b',o'+1,none⟩=some (.int .i64 y.2))) (simp [go_sem, *])
    ((go_at_call 65;refine (PL.out _).mono ?_;rintro e w' ⟨rfl,rfl⟩))
   all_goals refine Bar.Only.out ⟨_,rfl,Lib.hid ⟨?_,?_,by omega,(by repeat' (first | (with_reducible exact Grew.refl _) | (with_reducible refine Grew.alloc ?_ _ _) | (with_reducible refine Grew.drew ?_)))⟩⟩
   all_goals first
    | exact ((((Blk.new W _ _).alloc _).alloc _).alloc _).alloc _
    | (have h:=Blk.new (W.alloc (.cells #[.slice none 0 0] 48)) #[.int .i64 (plus x y).1,.int .i64 (plus x y).2] 24
       rw [World.size_alloc] at h
       exact ((h.alloc _).alloc _).alloc _)
    | (have h:=Blk.new ((((W.alloc (.cells #[.slice none 0 0] 48)).alloc (.cells #[.int .i64 x.1,.int .i64 x.2] 24)).alloc (.cells #[.int .i64 y.1,.int .i64 y.2] 24)).alloc (.cells #[.int .i64 (plus x y).1,.int .i64 (plus x y).2] 24)) #[.int .i64 (plus x y).1,.int .i64 (plus x y).2] 24
       rw [World.size_alloc,World.size_alloc,World.size_alloc,World.size_alloc] at h
       exact h)
  ·rintro e a' X h
   cases e with
   | normal =>
     obtain ⟨C,rfl,hh⟩:=h
     gi_wp2
     gi_meet
     exact ⟨C,rfl,hh⟩
   | _ => exact h.elim
end Mk
end Go.Proofs.YtbpgfenippiepaaGreatDoor
