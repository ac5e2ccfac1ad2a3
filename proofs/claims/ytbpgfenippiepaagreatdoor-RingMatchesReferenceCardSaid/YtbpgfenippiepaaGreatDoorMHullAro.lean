/-
  All corners of points, one after the other.
  The reference's Bounds.
  The reference's Corners, Box, Octagon, Eight; Has of what is no polygon.
-/
import Derived.Test.YtbpgfenippiepaaGreatDoorMHullNxt
import Derived.Test.YtbpgfenippiepaaGreatDoorMHullInB
import Derived.Test.YtbpgfenippiepaaGreatDoorMHullCm
import Derived.RegionTactic
import Derived.ChangeAlike
import Derived.Test.YtbpgfenippiepaaGreatDoorMHullOct
namespace Go.Proofs.YtbpgfenippiepaaGreatDoor
open Go.RowKit
namespace Hl
theorem own_one {B:Nat} (w:World) (x:Pt) (hB:B≤w.heap.size):Own B (w.alloc (.cells #[.int .i64 x.1,.int .i64 x.2] 24)) (.slice (some ⟨w.heap.size,0,none⟩) 1 1) [x] :=
 ⟨rfl,Or.inr ⟨w.heap.size,1,#[.int .i64 x.1,.int .i64 x.2],rfl,hB,heap_alloc_new w _,Nat.le_refl _,by unfold maxLen;omega,rfl,rfl⟩⟩
def Fore (v:Value) (n:Nat):Prop:=∀ g,v.ownBlock=some g→g < n
theorem Fore.ne {v:Value} {n:Nat} (h:Fore v n):some n ≠ v.ownBlock:=fun e => by have:=h n e.symm;omega
theorem Own.ne {B:Nat} {w:World} {v:Value} {p:List Pt} (h:Own B w v p) {g:Nat} (hg:g < B):some g ≠ v.ownBlock:=fun e => by have:=(World.ownsRow.lt h _ e.symm).1;omega
theorem Own.set {B:Nat} {w:World} {v:Value} {p:List Pt} (h:Own B w v p) {a:Addr} (hne:some a.block ≠ v.ownBlock) (x:Value):Own B (w.setCell a x) v p :=
 World.ownsRow.kept h (row:=some a.block) ⟨rfl,rfl,rfl,by simp [World.setCell],fun k _ hk => Below.heap_setCell w a x k (fun e => hk (by rw [e]))⟩ (Or.inr (fun e => hne e.symm))
theorem append_one {ops:Array Oper} {rest:List Oper} {o:Oper} {a:Act} {Q:Exit→Act→World→Prop} (w:World) (hgd:o.guard=none) (s x:Operand)
  (ho:o.op=.call { callee:=.builtin .append,args:=#[s,x],argTypes:=#[48,48] }) (B:Nat) (v:Value) (p:List Pt) (y:Pt) (wb c:Nat)
  (hs:a.eval s=v) (hown:Own B w v p) (hx:a.eval x=.slice (some ⟨wb,0,none⟩) 1 c) (hr:Row w wb 0 [y]) (hl:p.length≤4000000) (hB:B≤w.heap.size)
  (h:∀ v' w',Own B w' v' (p ++ [y])→(∀ W:World,W.heap.size≤B→Grew W w→Grew W w')→Fore v' w'.heap.size→w.heap.size≤w'.heap.size→(∀ b,b < w.heap.size→some b ≠ v.ownBlock→∀ i,w'.cell? ⟨b,i,none⟩=w.cell? ⟨b,i,none⟩∧w'.frozen? ⟨b,i,none⟩=w.frozen? ⟨b,i,none⟩)→wpList Tryz.prog ops Q rest (a.put o.dst v') w'):wpList Tryz.prog ops Q (o :: rest) a w:=by
 obtain ⟨i0,hi,hz0,hz1,hz2⟩:=info_parts info_pt
 refine wpList_append_own w hgd s x 48 ho B 24 i0 (.agg #[.int .i64 0,.int .i64 0]) 2 16 Tryz.underlying48 hi hz0 hz1 hz2 rfl (by decide) v p.length (cellsOf p) hs hown ⟨wb,0,none⟩ 1 c (cellsOf [y]) hx rfl (row_cells hr) (cells_one [y]) (by unfold maxLen;omega) (by omega) hB ?_
 intro v' w' h1 h2 _
 refine h v' w' ?_ (fun W hW g => Grew.grown g h2 (fun k hk => Nat.le_trans hW (World.ownsRow.lt hown k hk).1)) (fun g hg => (World.ownsRow.lt h1 g hg).2) h2.size (fun b hb hne i => ⟨World.cell?_of_block (a:=⟨b,i,none⟩) (h2.block b hb hne),World.frozen?_of_block (a:=⟨b,i,none⟩) (h2.block b hb hne)⟩)
 unfold Own
 rw [cellsOf_append,List.length_append]
 exact h1
def lenS:Value→Nat
 | .slice _ n _ => n
 | _ => 0
theorem Own.len {B:Nat} {w:World} {v:Value} {p:List Pt} (h:Own B w v p):lenS v=p.length:=by
 obtain ⟨a,c,e⟩:=h.sl.shape
 rw [e];rfl
def IsPre (f:Pt) (l:List Pt) (k:Nat) (po:List Pt):Prop:=po.length=k∧1≤k∧(∀ i,i < k→at' po i=X f l i)∧∀ i,1≤i→i < k→X f l i ≠ f
theorem IsPre.one (f:Pt) (l:List Pt):IsPre f l 1 [f]:=⟨rfl,Nat.le_refl _,fun i hi => by
 obtain rfl:i=0:=by omega
 rfl,fun i h1 h2 => by omega⟩
theorem IsPre.more {f:Pt} {l:List Pt} {k:Nat} {po:List Pt} (h:IsPre f l k po) (hne:X f l k ≠ f):IsPre f l (k+1) (po ++ [X f l k]):=by
 obtain ⟨h1,h2,h3,h4⟩:=h
 refine ⟨by simp [h1],by omega,fun i hi => ?_,fun i hi1 hi => ?_⟩
 ·by_cases e:i=k
  ·have:=at_last po (X f l k)
   rw [h1] at this
   rw [e];exact this
  ·rw [at_append (by omega)];exact h3 i (by omega)
 ·by_cases e:i=k
  ·rw [e];exact hne
  ·exact h4 i hi1 (by omega)
theorem IsPre.few {f:Pt} {l:List Pt} {k:Nat} {po:List Pt} (h:IsPre f l k po) (hf:f ∈ l) (h0:∀ z,z ∈ l→z ≠ f→ls f z) (hk:X f l k ≠ f):k+1≤l.length:=by
 have hne:∃ z,z ∈ l∧z ≠ f:=by
  by_cases hh:∃ z,z ∈ l∧z ≠ f
  ·exact hh
  ·exfalso
   have all:∀ z,z ∈ l→z=f:=fun z hz => by
    by_cases e:z=f
    ·exact e
    ·exact absurd ⟨z,hz,e⟩ hh
   have x1:∀ i,X f l i=f:=by
    intro i
    induction i with
    | zero => rfl
    | succ i ih =>
      have e:X f l (i+1)=NX (X f l i) l:=rfl
      rw [e,ih]
      rcases best_all (f:=f) (l:=l) 0 0 0 (fun z hz hzf => absurd (all z hz) hzf) with ⟨a,_⟩ | ⟨a,b,_⟩
      ·exact a
      ·exact all _ b
   exact hk (x1 k)
 exact X_few hf h0 hne (k:=k+1) (fun i h1 h2 => by
  by_cases e:i=k
  ·rw [e];exact hk
  ·exact h.2.2.2 i h1 (by omega))
theorem IsPre.hull {f:Pt} {l:List Pt} {k:Nat} {po:List Pt} (h:IsPre f l k po) (hf:f ∈ l) (h0:∀ z,z ∈ l→z ≠ f→ls f z) (hk:X f l k=f):IsHull l po:=by
 by_cases hne:∃ z,z ∈ l∧z ≠ f
 ·exact X_hull hf h0 hne h.2.1 h.2.2.2 hk h.1 h.2.2.1
 ·have all:∀ z,z ∈ l→z=f:=fun z hz => by
   by_cases e:z=f
   ·exact e
   ·exact absurd ⟨z,hz,e⟩ hne
  have x1:X f l 1=f:=by
   have e:X f l 1=NX f l:=rfl
   rw [e]
   rcases best_all (f:=f) (l:=l) 0 0 0 (fun z hz hzf => absurd (all z hz) hzf) with ⟨a,_⟩ | ⟨_,b,_⟩
   ·exact a
   ·exact all _ b
  have k1:k=1:=by
   by_cases e:1 < k
   ·exact absurd x1 (h.2.2.2 1 (Nat.le_refl _) e)
   ·have:=h.2.1;omega
  subst k1
  have e0:at' po 0=f:=h.2.2.1 0 (by omega)
  refine ⟨⟨by have:=h.1;omega,fun i h1 h2 => by have:=h.1;omega,fun h2 => by have:=h.1;omega⟩,fun x hx => ?_,fun y hy => (hs1 h.1).2 (e0.trans (all y hy).symm)⟩
  obtain ⟨i,hi,e⟩:=mem_at hx
  obtain rfl:i=0:=by have:=h.1;omega
  rw [← e,e0];exact hf
theorem X_plc {f:Pt} {l:List Pt} (hf:Pw f) (hl:Pws l):∀ k,Pw (X f l k)
 | 0 => hf
 | k+1 => by
   have e:X f l (k+1)=NX (X f l k) l:=rfl
   rw [e]
   exact IsFX.plc (k:=l.length) (X_plc hf hl k) hl (by unfold IsFX NX;rw [List.take_length]) (Nat.le_refl _)
def AroundSays (l:List Pt) (w:World) (e:Ending) (w':World):Prop:=∃ v q,IsHull l q∧e=.returned v∧Sl w' v q∧Grew w w'
set_option maxRecDepth 100000 in
set_option maxHeartbeats 4000000 in
theorem around_w (l:List Pt) (b o c:Nat) (w:World) (hr:Row w b o l) (h1:1≤l.length) (h2:l.length≤4000000) (hl:Pws l):Calls Tryz.prog 114 #[.slice (some ⟨b,o,none⟩) l.length c] w (AroundSays l w):=by
 have HR:=Lib.hid hr
 have PL:=Lib.hid hl
 have L1:=Lib.hid h1
 have L2:Hid (l.length≤9223372036854775807):=Lib.hid (by omega)
 have n0:((l.length:Int) == 0)=false:=by rw [beq_eq_false_iff_ne];omega
 clear hr hl h1
 go_enter Tryz.func114,Tryz.ntmps114
 go_wp2_with fail
 refine (least_any l b o c _ HR.out L1.out L2.out).mono ?_
 rintro e w1 ⟨f,rfl,⟨hf,hmin⟩,G1⟩
 have HF:=Lib.hid hf
 have HM:=Lib.hid hmin
 have PF:Hid (Pw f):=Lib.hid (by
  obtain ⟨j,hj,e⟩:=mem_at hf
  rw [← e];exact PL.out j hj)
 clear hf hmin n0
 go_wp2_with fail
 refine (next_any l f b o c _ (HR.out.grown (Grew.trans G1 gw)) PL.out PF.out L2.out).mono ?_
 rintro e w2 ⟨rfl,g2⟩
 have own2:Own (w1.heap.size+1) w2 (.slice (some ⟨w1.heap.size+1,0,none⟩) 1 1) [f]:=by
  have t:=Own.grew (own_one (B:=w1.heap.size+1) (w1.alloc (.cells #[.int .i64 f.1,.int .i64 f.2] 24)) f (by simp)) g2
  rwa [World.size_alloc] at t
 obtain ⟨c2,f2,z2⟩:=laid g2
 try simp at z2
 have R2:Grew w1 w2:=Grew.trans gw g2
 clear g2
 have b0:w1.heap.size < w2.heap.size:=by omega
 have b1:w1.heap.size+1 < w2.heap.size:=by omega
 go_wp2_with fail
 go_loopw [4,5] (fun s4 t5 wr => ∃ (k:Nat) (po:List Pt) (xb:Nat),t5=.pointer (some ⟨xb,0,none⟩)∧xb < wr.heap.size∧w1.heap.size+1 < wr.heap.size∧w1.heap.size < xb∧Grew w1 wr∧(wr.cell? ⟨w1.heap.size,0,none⟩=some (.int .i64 f.1)∧wr.cell? ⟨w1.heap.size,1,none⟩=some (.int .i64 f.2))∧(wr.cell? ⟨xb,0,none⟩=some (.int .i64 (X f l k).1)∧wr.cell? ⟨xb,1,none⟩=some (.int .i64 (X f l k).2))∧(wr.frozen? ⟨xb,0,none⟩=false∧wr.frozen? ⟨xb,1,none⟩=false)∧Own (w1.heap.size+1) wr s4 po∧Fore s4 xb∧IsPre f l k po) (fun s4 _ _ => l.length+1 - lenS s4)
 case atStart => exact ⟨1,[f],w2.heap.size,rfl,by simp,by simp;omega,by omega,by exact gw,⟨by simp [go_sem, *],by simp [go_sem, *]⟩,⟨by simp [go_sem];rfl,by simp [go_sem];rfl⟩,⟨by simp [go_sem],by simp [go_sem]⟩,own2.alloc _,(fun g hg => by have e:w1.heap.size+1=g:=Option.some.inj hg;omega),IsPre.one f l⟩
 case round =>
  clear own2 c2 f2 z2 R2 b0 b1
  obtain ⟨k,po,xb,rfl,hxb,hw1,hx1,G,⟨a0,a1⟩,⟨x0,x1⟩,⟨z0,z1⟩,OW,FO,IP⟩:=hrel
  have yb:w1.heap.size < wr.heap.size:=by omega
  have PX:Hid (Pw (X f l k)):=Lib.hid (X_plc PF.out PL.out k)
  obtain ⟨m,hm⟩:∃ m,X f l k=m:=⟨_,rfl⟩
  rw [hm] at x0 x1 PX
  by_cases he:m=f
  ·have hull:=IP.hull HF.out HM.out (hm.trans he)
   have HU:=Lib.hid hull
   have q1:(m.1 == f.1)=true:=by rw [beq_iff_eq,he]
   have q2:(m.2 == f.2)=true:=by rw [beq_iff_eq,he]
   clear hull hm he
   go_wp2_with fail
   go_ret
   exact ⟨_,po,HU.out,rfl,OW.sl,Grew.trans G1 G⟩
  ·have IP':=IP.more (by rw [hm];exact he)
   have few:=IP.few HF.out HM.out (by rw [hm];exact he)
   rw [hm] at IP'
   have plen:po.length≤4000000:=by have:=IP.1;omega
   have nx1:=Fore.ne FO
   have nx2:=Own.ne OW (show w1.heap.size < w1.heap.size+1 by omega)
   have NN:=Lib.hid (And.intro nx1 nx2)
   have HMX:=Lib.hid hm
   have q:(m.1 == f.1)=false∨((m.1 == f.1)=true∧(m.2 == f.2)=false):=by
    by_cases e1:m.1=f.1
    ·right
     exact ⟨by rw [beq_iff_eq];exact e1,by rw [beq_eq_false_iff_ne];exact fun e2 => he (Prod.ext e1 e2)⟩
    ·left
     rw [beq_eq_false_iff_ne];exact e1
   have FEW:=Lib.hid few
   have PLN:=Lib.hid plen
   have IPH:=Lib.hid IP
   clear hm he nx1 nx2 few plen IP
   rcases q with q1 | ⟨q1,q2⟩
   all_goals
    go_wp2_with (at_builtin;refine append_one _ rfl _ _ rfl (w1.heap.size+1) _ po m wr.heap.size 1 rfl (OW.alloc _) rfl (row_new [m] _ rfl _ _) PLN.out (by simp;omega) ?_;intro v' w' own' gr' fo' sz' cv';have G':Grew w1 w':=gr' w1 (by omega) gw;clear gr';have d0:=cv' xb (by simp;omega) NN.out.1 0;have d1:=cv' xb (by simp;omega) NN.out.1 1;have d2:=cv' w1.heap.size (by simp;omega) NN.out.2 0;have d3:=cv' w1.heap.size (by simp;omega) NN.out.2 1;clear cv';have y0:w'.cell? ⟨xb,0,none⟩=some (.int .i64 m.1):=d0.1.trans (by simp [go_sem,x0,hxb]);have y1:w'.cell? ⟨xb,1,none⟩=some (.int .i64 m.2):=d1.1.trans (by simp [go_sem,x1,hxb]);have y2:w'.cell? ⟨w1.heap.size,0,none⟩=some (.int .i64 f.1):=d2.1.trans (by simp [go_sem,a0,yb]);have y3:w'.cell? ⟨w1.heap.size,1,none⟩=some (.int .i64 f.2):=d3.1.trans (by simp [go_sem,a1,yb]);have sz2:w1.heap.size+1 < w'.heap.size:=(by simp at sz';omega);have sz3:w1.heap.size < w'.heap.size:=(by omega);clear d0 d1 d2 d3)
    refine (next_any l m b o c _ (HR.out.grown (Grew.trans G1 gw)) PL.out PX.out L2.out).mono ?_
    rintro e w3 ⟨rfl,g3⟩
    obtain ⟨c3,f3,z3⟩:=laid g3
    try simp at z3
    have G3:Grew w1 w3:=Grew.trans gw g3
    have own3:=(own'.alloc _).grew g3
    clear g3
    have b3:w'.heap.size < w3.heap.size:=by omega
    have b4:w1.heap.size < w3.heap.size:=by omega
    go_wp2_with fail
    go_roundw
    case rel => exact ⟨k+1,po ++ [m],w'.heap.size,rfl,by simp;omega,by simp;omega,by omega,by exact gw,⟨by simp [go_sem, *],by simp [go_sem, *]⟩,⟨by simp [go_sem, *];rw [← HMX.out];rfl,by simp [go_sem, *];rw [← HMX.out];rfl⟩,⟨by simp [go_sem, *],by simp [go_sem, *]⟩,(own3.set (Fore.ne fo') _).set (Fore.ne fo') _,fo',IP'⟩
    case measure => (have e1:=Own.len own';have e2:=Own.len OW;have e3:=IPH.out.1;have e4:=FEW.out;rw [List.length_append] at e1;simp at e1 e2 ⊢;omega)
theorem around_any (l:List Pt) (b o c:Nat) (w:World) (hr:Row w b o l) (h1:1≤l.length) (h2:l.length≤4000000) (hl:Plcs l):Calls Tryz.prog 114 #[.slice (some ⟨b,o,none⟩) l.length c] w (AroundSays l w):=around_w l b o c w hr h1 h2 hl.pws
end Hl
end Go.Proofs.YtbpgfenippiepaaGreatDoor
namespace Go.Proofs.YtbpgfenippiepaaGreatDoor
open Go.RowKit
namespace Hl
def mnI (x y:Int):Int:=if y < x then y else x
def mxI (x y:Int):Int:=if x < y then y else x
def gL (p:List Pt) (u v:Int) (j:Nat):Int:=u * (at' p j).1+v * (at' p j).2
def bl (g:Nat→Int):Nat→Int
 | 0 => g 0
 | k+1 => mnI (bl g k) (g (k+1))
def bh (g:Nat→Int):Nat→Int
 | 0 => g 0
 | k+1 => mxI (bh g k) (g (k+1))
theorem bl_min (g:Nat→Int):∀ k,(∃ j,j≤k∧g j=bl g k)∧∀ j,j≤k→bl g k≤g j
 | 0 => ⟨⟨0,Nat.le_refl _,rfl⟩,fun j hj => by
   obtain rfl:j=0:=by omega
   exact Int.le_refl _⟩
 | k+1 => by
   obtain ⟨⟨j,hj,e⟩,h⟩:=bl_min g k
   have d:bl g (k+1)=mnI (bl g k) (g (k+1)):=rfl
   rw [d]
   unfold mnI
   split
   ·refine ⟨⟨k+1,Nat.le_refl _,rfl⟩,fun i hi => ?_⟩
    by_cases ei:i=k+1
    ·rw [ei];exact Int.le_refl _
    ·have:=h i (by omega);omega
   ·refine ⟨⟨j,by omega,e⟩,fun i hi => ?_⟩
    by_cases ei:i=k+1
    ·rw [ei];omega
    ·exact h i (by omega)
theorem bh_max (g:Nat→Int):∀ k,(∃ j,j≤k∧g j=bh g k)∧∀ j,j≤k→g j≤bh g k
 | 0 => ⟨⟨0,Nat.le_refl _,rfl⟩,fun j hj => by
   obtain rfl:j=0:=by omega
   exact Int.le_refl _⟩
 | k+1 => by
   obtain ⟨⟨j,hj,e⟩,h⟩:=bh_max g k
   have d:bh g (k+1)=mxI (bh g k) (g (k+1)):=rfl
   rw [d]
   unfold mxI
   split
   ·refine ⟨⟨k+1,Nat.le_refl _,rfl⟩,fun i hi => ?_⟩
    by_cases ei:i=k+1
    ·rw [ei];exact Int.le_refl _
    ·have:=h i (by omega);omega
   ·refine ⟨⟨j,by omega,e⟩,fun i hi => ?_⟩
    by_cases ei:i=k+1
    ·rw [ei];omega
    ·exact h i (by omega)
theorem one_bd {u x:Int} (hu:u = -1∨u=0∨u=1) (hx:-500000≤x∧x≤500000):-500000≤u * x∧u * x≤500000:=by
 rcases hu with rfl | rfl | rfl <;> omega
def BoundsSays (p:List Pt) (u v:Int) (w:World) (e:Ending) (w':World):Prop:=∃ lo hi:Int,IsMin p u v lo∧IsMin p (-u) (-v) (-hi)∧e=.returned (.tuple #[.int .i64 lo,.int .i64 hi])∧Grew w w'
theorem bounds_min {p:List Pt} {u v:Int} (h:1≤p.length):IsMin p u v (bl (gL p u v) (p.length - 1))∧IsMin p (-u) (-v) (-(bh (gL p u v) (p.length - 1))):=by
 obtain ⟨⟨j,hj,e⟩,h1⟩:=bl_min (gL p u v) (p.length - 1)
 obtain ⟨⟨i,hi,e'⟩,h2⟩:=bh_max (gL p u v) (p.length - 1)
 refine ⟨⟨⟨at' p j,at_mem (by omega),e⟩,fun x hx => ?_⟩,⟨⟨at' p i,at_mem (by omega),?_⟩,fun x hx => ?_⟩⟩
 ·obtain ⟨n,hn,en⟩:=mem_at hx
  rw [← en];exact h1 n (by omega)
 ·rw [← e'];unfold gL;grind
 ·obtain ⟨n,hn,en⟩:=mem_at hx
  have:=h2 n (by omega)
  rw [← en]
  have e2:-u * (at' p n).1+-v * (at' p n).2 = -(gL p u v n):=by unfold gL;grind
  omega
set_option maxRecDepth 100000 in
set_option maxHeartbeats 2000000 in
theorem bounds_any (p:List Pt) (u v:Int) (hu:u = -1∨u=0∨u=1) (hv:v = -1∨v=0∨v=1) (b o c:Nat) (w:World) (hr:Row w b o p) (hp:Plcs p) (h1:1≤p.length) (h2:p.length≤9223372036854775807):Calls Tryz.prog 118 #[.slice (some ⟨b,o,none⟩) p.length c,.int .i64 u,.int .i64 v] w (BoundsSays p u v w):=by
 have HR:=Lib.hid hr
 have PL:=Lib.hid hp
 have MIN:=Lib.hid (bounds_min (u:=u) (v:=v) h1)
 obtain ⟨s0,s1⟩:=hr.2 0 (by omega)
 rw [Nat.zero_mul,Nat.add_zero] at s0 s1
 have p0:(0:Int) < (p.length:Int):=by omega
 have p1:0 < p.length:=by omega
 have HU:=Lib.hid hu
 have HV:=Lib.hid hv
 obtain ⟨m0,m1⟩:=one_bd hu (PL.out 0 (by omega)).1
 obtain ⟨m2,m3⟩:=one_bd hv (PL.out 0 (by omega)).2
 have W1:IntKind.i64.wrap (u * (at' p 0).1)=u * (at' p 0).1:=IntWalk.i64_in _ ⟨by omega,by omega⟩
 have W2:IntKind.i64.wrap (v * (at' p 0).2)=v * (at' p 0).2:=IntWalk.i64_in _ ⟨by omega,by omega⟩
 have W3:IntKind.i64.wrap (u * (at' p 0).1+v * (at' p 0).2)=u * (at' p 0).1+v * (at' p 0).2:=IntWalk.i64_in _ ⟨by omega,by omega⟩
 have hbd:∀ k,k < p.length→-1000000≤gL p u v k∧gL p u v k≤1000000:=fun k hk => by
  obtain ⟨_,_⟩:=one_bd hu (hp k hk).1
  obtain ⟨_,_⟩:=one_bd hv (hp k hk).2
  unfold gL
  omega
 have BD:=Lib.hid hbd
 clear hr hp hu hv m0 m1 m2 m3 hbd
 go_enter Tryz.func118,Tryz.ntmps118
 go_wp2_with fail
 go_quiet (fail)
 clear W1 W2 W3
 go_wp2_with fail
 go_loopw [8,9,10] (fun lo hi i wr => ∃ k:Nat,k < p.length∧lo=.int .i64 (bl (gL p u v) k)∧hi=.int .i64 (bh (gL p u v) k)∧i=.int .i64 ((k:Int)+1)∧Grew w wr) (fun _ _ i _ => p.length - (intOf i).toNat)
 case atStart => exact ⟨0,p1,rfl,rfl,rfl,by exact gw⟩
 case round =>
  clear s0 s1
  obtain ⟨k,hk,rfl,rfl,rfl,G⟩:=hrel
  by_cases hlt:k+1 < p.length
  ·have E1:Hid (bl (gL p u v) (k+1)=mnI (bl (gL p u v) k) (gL p u v (k+1))):=Lib.hid rfl
   have E2:Hid (bh (gL p u v) (k+1)=mxI (bh (gL p u v) k) (gL p u v (k+1))):=Lib.hid rfl
   have hu:=HU.out
   have hv:=HV.out
   obtain ⟨m0,m1⟩:=one_bd hu (PL.out (k+1) (by omega)).1
   obtain ⟨m2,m3⟩:=one_bd hv (PL.out (k+1) (by omega)).2
   have W1:IntKind.i64.wrap (u * (at' p (k+1)).1)=u * (at' p (k+1)).1:=IntWalk.i64_in _ ⟨by omega,by omega⟩
   have W2:IntKind.i64.wrap (v * (at' p (k+1)).2)=v * (at' p (k+1)).2:=IntWalk.i64_in _ ⟨by omega,by omega⟩
   have W3:IntKind.i64.wrap (u * (at' p (k+1)).1+v * (at' p (k+1)).2)=u * (at' p (k+1)).1+v * (at' p (k+1)).2:=IntWalk.i64_in _ ⟨by omega,by omega⟩
   clear hu hv m0 m1 m2 m3
   obtain ⟨s0,s1⟩:=(HR.out.grown G).2 (k+1) hlt
   have e1:((k:Int)+1).toNat=k+1:=by omega
   have i1:(0:Int)≤(k:Int)+1:=by omega
   have i2:(k:Int)+1 < (p.length:Int):=by omega
   obtain ⟨L,hL⟩:∃ L,bl (gL p u v) k=L:=⟨_,rfl⟩
   obtain ⟨M,hM⟩:∃ M,bh (gL p u v) k=M:=⟨_,rfl⟩
   have eg:gL p u v (k+1)=u * (at' p (k+1)).1+v * (at' p (k+1)).2:=rfl
   rw [hL,eg] at E1
   rw [hM,eg] at E2
   rw [hL,hM]
   clear hL hM eg
   have c1:(u * (at' p (k+1)).1+v * (at' p (k+1)).2 < L∧Hid (bl (gL p u v) (k+1)=u * (at' p (k+1)).1+v * (at' p (k+1)).2))∨(L≤u * (at' p (k+1)).1+v * (at' p (k+1)).2∧Hid (bl (gL p u v) (k+1)=L)):=by
    by_cases h:u * (at' p (k+1)).1+v * (at' p (k+1)).2 < L
    ·exact Or.inl ⟨h,Lib.hid (by rw [E1.out];exact if_pos h)⟩
    ·exact Or.inr ⟨by omega,Lib.hid (by rw [E1.out];exact if_neg h)⟩
   have c2:(M < u * (at' p (k+1)).1+v * (at' p (k+1)).2∧Hid (bh (gL p u v) (k+1)=u * (at' p (k+1)).1+v * (at' p (k+1)).2))∨(u * (at' p (k+1)).1+v * (at' p (k+1)).2≤M∧Hid (bh (gL p u v) (k+1)=M)):=by
    by_cases h:M < u * (at' p (k+1)).1+v * (at' p (k+1)).2
    ·exact Or.inl ⟨h,Lib.hid (by rw [E2.out];exact if_pos h)⟩
    ·exact Or.inr ⟨by omega,Lib.hid (by rw [E2.out];exact if_neg h)⟩
   clear E1 E2
   rcases c1 with ⟨c1,F1⟩ | ⟨c1,F1⟩ <;> rcases c2 with ⟨c2,F2⟩ | ⟨c2,F2⟩
   all_goals
    go_wp2_with fail
    go_quiet (fail)
    go_wp2_with fail
    go_quiet (fail)
    clear W1 W2 W3 e1
    go_wp2_with fail
    go_roundw
    case rel => exact ⟨k+1,hlt,by rw [F1.out] <;> first | rfl | (congr 1;omega),by rw [F2.out] <;> first | rfl | (congr 1;omega),by go_num,by exact gw⟩
    case measure => simp [intOf];omega
  ·have ek:p.length - 1=k:=by omega
   have x1:(p.length:Int)≤(k:Int)+1:=by omega
   have mi:=MIN.out
   rw [ek] at mi
   have MI:=Lib.hid mi
   clear mi
   go_wp2_with fail
   go_ret2
   exact ⟨_,_,MI.out.1,MI.out.2,rfl,G⟩
end Hl
end Go.Proofs.YtbpgfenippiepaaGreatDoor
namespace Go.Proofs.YtbpgfenippiepaaGreatDoor
open Go.RowKit
namespace Hl
theorem min_bd {p:List Pt} {u v m:Int} (hp:Plcs p) (hu:u = -1∨u=0∨u=1) (hv:v = -1∨v=0∨v=1) (h:IsMin p u v m):-1000000≤m∧m≤1000000:=by
 obtain ⟨⟨x,hx,e⟩,_⟩:=h
 obtain ⟨i,hi,ei⟩:=mem_at hx
 have:=hp i hi
 rw [ei] at this
 obtain ⟨_,_⟩:=one_bd hu this.1
 obtain ⟨_,_⟩:=one_bd hv this.2
 omega
def OctSays (p:List Pt) (w:World) (e:Ending) (w':World):Prop:=∃ q v,IsOct p q∧e=.returned v∧Sl w' v q∧Grew w w'
theorem oct_plcs {p:List Pt} {a b c d s t i j:Int} (hp:Plcs p) (h1:IsMin p 1 0 a) (h2:IsMin p (-1) 0 (-b)) (h3:IsMin p 0 1 c) (h4:IsMin p 0 (-1) (-d)) (h5:IsMin p 1 1 s) (h6:IsMin p (-1) (-1) (-t)) (h7:IsMin p 1 (-1) i) (h8:IsMin p (-1) 1 (-j)):Plcs (octL a b c d s t i j):=by
 obtain ⟨B,_⟩:=bd_of h1 h2 h3 h4 h5 h6 h7 h8
 refine plcs_of (fun x hx => ?_)
 have hk:=oct_keeps B x hx
 obtain ⟨y1,g1,e1⟩:=h1.1
 obtain ⟨y2,g2,e2⟩:=h2.1
 obtain ⟨y3,g3,e3⟩:=h3.1
 obtain ⟨y4,g4,e4⟩:=h4.1
 obtain ⟨n1,l1,r1⟩:=mem_at g1
 obtain ⟨n2,l2,r2⟩:=mem_at g2
 obtain ⟨n3,l3,r3⟩:=mem_at g3
 obtain ⟨n4,l4,r4⟩:=mem_at g4
 have p1:=hp n1 l1
 have p2:=hp n2 l2
 have p3:=hp n3 l3
 have p4:=hp n4 l4
 rw [r1] at p1
 rw [r2] at p2
 rw [r3] at p3
 rw [r4] at p4
 unfold Keeps at hk
 unfold Plc at p1 p2 p3 p4 ⊢
 omega
set_option maxRecDepth 100000 in
set_option maxHeartbeats 2000000 in
theorem octagon_any (p:List Pt) (b o c:Nat) (w:World) (hr:Row w b o p) (hp:Plcs p) (h1:1≤p.length) (h2:p.length≤9223372036854775807):Calls Tryz.prog 74 #[.slice (some ⟨b,o,none⟩) p.length c] w (OctSays p w):=by
 have HR:=Lib.hid hr
 have PL:=Lib.hid hp
 have L1:=Lib.hid h1
 have L2:=Lib.hid h2
 clear hr hp h1 h2
 go_enter Tryz.func74,Tryz.ntmps74
 go_wp2_with fail
 refine (bounds_any p (1) (0) (by decide) (by decide) b o c _ (HR.out.grown gw) PL.out L1.out L2.out).mono ?_
 rintro e w1 ⟨xa,xb,m1,n1,rfl,g1⟩
 have G1:Grew w w1:=Grew.trans gw g1
 have M1:=Lib.hid m1
 have N1:=Lib.hid n1
 obtain ⟨xa0,xa1⟩:=min_bd (u:=1) (v:=0) PL.out (by decide) (by decide) m1
 obtain ⟨xb0,xb1⟩:=min_bd (u:=-(1)) (v:=-(0)) PL.out (by decide) (by decide) n1
 clear m1 n1
 clear g1
 go_wp2_with fail
 refine (bounds_any p (0) (1) (by decide) (by decide) b o c _ (HR.out.grown gw) PL.out L1.out L2.out).mono ?_
 rintro e w2 ⟨xc,xd,m2,n2,rfl,g2⟩
 have G2:Grew w w2:=Grew.trans gw g2
 have M2:=Lib.hid m2
 have N2:=Lib.hid n2
 obtain ⟨xc0,xc1⟩:=min_bd (u:=0) (v:=1) PL.out (by decide) (by decide) m2
 obtain ⟨xd0,xd1⟩:=min_bd (u:=-(0)) (v:=-(1)) PL.out (by decide) (by decide) n2
 clear m2 n2
 clear g2
 go_wp2_with fail
 refine (bounds_any p (1) (1) (by decide) (by decide) b o c _ (HR.out.grown gw) PL.out L1.out L2.out).mono ?_
 rintro e w3 ⟨xs,xt,m3,n3,rfl,g3⟩
 have G3:Grew w w3:=Grew.trans gw g3
 have M3:=Lib.hid m3
 have N3:=Lib.hid n3
 obtain ⟨xs0,xs1⟩:=min_bd (u:=1) (v:=1) PL.out (by decide) (by decide) m3
 obtain ⟨xt0,xt1⟩:=min_bd (u:=-(1)) (v:=-(1)) PL.out (by decide) (by decide) n3
 clear m3 n3
 clear g3
 go_wp2_with fail
 refine (bounds_any p (1) (-1) (by decide) (by decide) b o c _ (HR.out.grown gw) PL.out L1.out L2.out).mono ?_
 rintro e w4 ⟨xi,xj,m4,n4,rfl,g4⟩
 have G4:Grew w w4:=Grew.trans gw g4
 have M4:=Lib.hid m4
 have N4:=Lib.hid n4
 obtain ⟨xi0,xi1⟩:=min_bd (u:=1) (v:=-1) PL.out (by decide) (by decide) m4
 obtain ⟨xj0,xj1⟩:=min_bd (u:=-(1)) (v:=-(-1)) PL.out (by decide) (by decide) n4
 clear m4 n4
 clear g4
 have a1:=M1.out
 have a2:IsMin p (-1) 0 (-xb):=by simpa using N1.out
 have a3:=M2.out
 have a4:IsMin p 0 (-1) (-xd):=by simpa using N2.out
 have a5:=M3.out
 have a6:=N3.out
 have a7:=M4.out
 have a8:IsMin p (-1) 1 (-xj):=by simpa using N4.out
 have PO:=Lib.hid (oct_plcs PL.out a1 a2 a3 a4 a5 a6 a7 a8)
 have IO:Hid (∀ q,IsHull (octL xa xb xc xd xs xt xi xj) q→IsOct p q):=Lib.hid (fun q hq => ⟨xa,xb,xc,xd,xs,xt,xi,xj,a1,a2,a3,a4,a5,a6,a7,a8,hq⟩)
 clear a1 a2 a3 a4 a5 a6 a7 a8
 go_wp2_with fail
 refine (around_any (octL xa xb xc xd xs xt xi xj) _ _ _ _ (row_new (octL xa xb xc xd xs xt xi xj) _ rfl _ _) (by simp [octL]) (by simp [octL]) PO.out).mono ?_
 rintro e w5 ⟨v,q,hq,rfl,hs,g5⟩
 have G5:Grew w w5:=Grew.trans gw g5
 have E:=Lib.hid hs
 have HQ:=Lib.hid (IO.out q hq)
 clear g5 hq hs
 go_wp2_with fail
 go_ret
 exact ⟨q,_,HQ.out,rfl,E.out,G5⟩
end Hl
end Go.Proofs.YtbpgfenippiepaaGreatDoor
