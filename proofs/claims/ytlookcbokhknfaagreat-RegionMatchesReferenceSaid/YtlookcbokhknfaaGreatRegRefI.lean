/-
  The reference of layer 7: Bounds, Box.
-/
import Derived.Test.YtlookcbokhknfaaGreatRegRefD
namespace Go.Proofs.YtlookcbokhknfaaGreat
open Go.RowKit Go.Shelf Hl
namespace Rg
open Ct (Hf WF ov)
def Bnd (L:Rgn) (S:Pt→Prop) (lo hi:Pt):Prop:=((∃ y,y ∈ L.flatten∧y.1=lo.1)∧∀ y,S y→lo.1≤y.1)∧((∃ y,y ∈ L.flatten∧y.1=hi.1)∧∀ y,S y→y.1≤hi.1)∧((∃ y,y ∈ L.flatten∧y.2=lo.2)∧∀ y,S y→lo.2≤y.2)∧((∃ y,y ∈ L.flatten∧y.2=hi.2)∧∀ y,S y→y.2≤hi.2)
theorem Bnd.step {L:Rgn} {S S':Pt→Prop} {lo hi z:Pt} {a b c d:Int} (h:Bnd L S lo hi) (hz:z ∈ L.flatten) (hs:∀ y,S' y→S y∨y=z)
  (ha:a≤lo.1∧a≤z.1∧(a=lo.1∨a=z.1)) (hb:b≤lo.2∧b≤z.2∧(b=lo.2∨b=z.2)) (hc:hi.1≤c∧z.1≤c∧(c=hi.1∨c=z.1)) (hd:hi.2≤d∧z.2≤d∧(d=hi.2∨d=z.2)):Bnd L S' (a,b) (c,d):=by
 obtain ⟨⟨⟨y1,m1,e1⟩,k1⟩,⟨⟨y2,m2,e2⟩,k2⟩,⟨⟨y3,m3,e3⟩,k3⟩,⟨y4,m4,e4⟩,k4⟩:=h
 refine ⟨⟨?_,fun y hy => ?_⟩,⟨?_,fun y hy => ?_⟩,⟨?_,fun y hy => ?_⟩,?_,fun y hy => ?_⟩
 ·rcases ha.2.2 with e | e
  ·exact ⟨y1,m1,by rw [e1,e]⟩
  ·exact ⟨z,hz,e.symm⟩
 ·show a≤y.1
  rcases hs y hy with h | rfl
  ·have:=k1 y h;omega
  ·omega
 ·rcases hc.2.2 with e | e
  ·exact ⟨y2,m2,by rw [e2,e]⟩
  ·exact ⟨z,hz,e.symm⟩
 ·show y.1≤c
  rcases hs y hy with h | rfl
  ·have:=k2 y h;omega
  ·omega
 ·rcases hb.2.2 with e | e
  ·exact ⟨y3,m3,by rw [e3,e]⟩
  ·exact ⟨z,hz,e.symm⟩
 ·show b≤y.2
  rcases hs y hy with h | rfl
  ·have:=k3 y h;omega
  ·omega
 ·rcases hd.2.2 with e | e
  ·exact ⟨y4,m4,by rw [e4,e]⟩
  ·exact ⟨z,hz,e.symm⟩
 ·show y.2≤d
  rcases hs y hy with h | rfl
  ·have:=k4 y h;omega
  ·omega
theorem Bnd.sub {L:Rgn} {S S':Pt→Prop} {lo hi:Pt} (h:Bnd L S lo hi) (hs:∀ y,S' y→S y):Bnd L S' lo hi :=
 ⟨⟨h.1.1,fun y hy => h.1.2 y (hs y hy)⟩,⟨h.2.1.1,fun y hy => h.2.1.2 y (hs y hy)⟩,⟨h.2.2.1.1,fun y hy => h.2.2.1.2 y (hs y hy)⟩,h.2.2.2.1,fun y hy => h.2.2.2.2 y (hs y hy)⟩
def Saw (L:Rgn) (i k:Nat) (y:Pt):Prop:=(∃ j,j < i∧y ∈ nth L j)∨∃ m,m < k∧y=at' (nth L i) m
theorem saw_next {L:Rgn} {i k:Nat}:∀ y,Saw L i (k+1) y→Saw L i k y∨y=at' (nth L i) k:=by
 rintro y (h | ⟨m,hm,e⟩)
 ·exact Or.inl (Or.inl h)
 ·by_cases c:m=k
  ·subst c
   exact Or.inr e
  ·exact Or.inl (Or.inr ⟨m,by omega,e⟩)
theorem saw_row {L:Rgn} {i:Nat}:∀ y,Saw L (i+1) 0 y→Saw L i (nth L i).length y:=by
 rintro y (⟨j,hj,h⟩ | ⟨m,hm,_⟩)
 ·by_cases c:j=i
  ·subst c
   obtain ⟨n,hn,e⟩:=mem_at h
   exact Or.inr ⟨n,hn,e.symm⟩
  ·exact Or.inl ⟨j,by omega,h⟩
 ·omega
theorem bnd_box {L:Rgn} {lo hi:Pt} (h:Bnd L (Saw L L.length 0) lo hi):IsBox L.flatten lo hi:=by
 have s:∀ y,y ∈ L.flatten→Saw L L.length 0 y:=fun y hy => by
  obtain ⟨p,hp,hy⟩:=List.mem_flatten.1 hy
  obtain ⟨i,hi,rfl⟩:=mem_nth hp
  exact Or.inl ⟨i,hi,hy⟩
 obtain ⟨⟨⟨y1,m1,e1⟩,k1⟩,⟨⟨y2,m2,e2⟩,k2⟩,⟨⟨y3,m3,e3⟩,k3⟩,⟨y4,m4,e4⟩,k4⟩:=h
 exact ⟨⟨⟨y1,m1,by omega⟩,fun x hx => by have:=k1 x (s x hx);omega⟩,⟨⟨y2,m2,by omega⟩,fun x hx => by have:=k2 x (s x hx);omega⟩,⟨⟨y3,m3,by omega⟩,fun x hx => by have:=k3 x (s x hx);omega⟩,⟨y4,m4,by omega⟩,fun x hx => by have:=k4 x (s x hx);omega⟩
theorem run_max2 (a b:Int):∃ M:Int,(∀ (ts:Array TypeId) (t:TypeId) (W:World),Sem.run Tryz.prog (Builtin.max_ ts t #[.int .i64 a,.int .i64 b]) W=.ok (.int .i64 M) W)∧(a≤M∧b≤M∧(M=a∨M=b)):=by
 by_cases h1:a < b
 ·exact ⟨b,fun ts t W => by simp [Builtin.max_,Builtin.max2,h1],by omega⟩
 ·exact ⟨a,fun ts t W => by simp [Builtin.max_,Builtin.max2,h1],by omega⟩
theorem run_min2 (a b:Int):∃ M:Int,(∀ (ts:Array TypeId) (t:TypeId) (W:World),Sem.run Tryz.prog (Builtin.min_ ts t #[.int .i64 a,.int .i64 b]) W=.ok (.int .i64 M) W)∧(M≤a∧M≤b∧(M=a∨M=b)):=by
 by_cases h1:b < a
 ·exact ⟨b,fun ts t W => by simp [Builtin.min_,Builtin.min2,h1],by omega⟩
 ·exact ⟨a,fun ts t W => by simp [Builtin.min_,Builtin.min2,h1],by omega⟩
def BouSays (L:Rgn) (w:World) (e:Ending) (w':World):Prop:=∃ (lo hi:Pt) (ok:Bool),((L=[]∧lo=(0,0)∧hi=(0,0)∧ok=false)∨(L ≠ []∧IsBox L.flatten lo hi∧ok=true))∧e=.returned (.tuple #[.agg #[.int .i64 lo.1,.int .i64 lo.2],.agg #[.int .i64 hi.1,.int .i64 hi.2],.bool ok])∧Grew w w'
set_option maxRecDepth 100000 in
set_option maxHeartbeats 4000000 in
theorem bounds_r (L:Rgn) (v:Value) (w:World) (hs:Rl w v L) (hL:VlR L):Calls Tryz.prog 78 #[v] w (BouSays L w):=by
 have VL:=Lib.hid hL
 have hmx:Tryz.prog.follows .mixedOrders=true:=by kernel_rfl
 obtain ⟨a,c,U,ev,hU,hSl,hRr⟩:=rl_fun hs
 obtain ⟨nl,en⟩:∃ nl,nl=L.length:=⟨_,rfl⟩
 rw [← en] at ev hSl hRr
 subst ev
 have EN:=Lib.hid en
 have HZ:Hid (nl≤32):=Lib.hid (by rw [en];exact hL.1)
 have RR:Hid (∀ i W,i < nl→Grew w W→∃ b o pb po pc,a=some ⟨b,o,none⟩∧b < W.heap.size∧W.cell? ⟨b,o+i,none⟩=some (.slice (some ⟨pb,po,none⟩) (nth L i).length pc)∧Row W pb po (nth L i)):=Lib.hid (fun i W hi g => by
  obtain ⟨b,o,e,hb,z⟩:=hRr i hi
  obtain ⟨pb,po,pc,eu,hr⟩:=((hSl i hi).grown g).row (fun e => by
   have:=(hL.2 _ (nth_mem (show i < L.length by omega))).1.1
   rw [e] at this
   exact absurd this (by simp))
  exact ⟨b,o,pb,po,pc,e,Nat.lt_of_lt_of_le hb.1 g.size,(Grew.cell g hb.1).trans (by rw [z,eu]),hr⟩)
 clear hs hU hSl hRr hL en
 by_cases h0:nl=0
 ·have F:Hid (L=[]):=Lib.hid (List.length_eq_zero_iff.1 (by rw [← EN.out];exact h0))
  subst h0
  go_enter Tryz.func78,Tryz.ntmps78
  go_wp2_with fail
  refine bodyPost_ret (v:=.tuple #[.agg #[.int .i64 ((0,0):Pt).1,.int .i64 ((0,0):Pt).2],.agg #[.int .i64 ((0,0):Pt).1,.int .i64 ((0,0):Pt).2],.bool false]) (by simp [results,Tryz.results78,go_sem, *]) rfl ⟨(0,0),(0,0),false,Or.inl ⟨F.out,rfl,rfl,rfl⟩,rfl,(by repeat' (first|(with_reducible first|exact Grew.refl _|assumption|refine Grew.alloc ?_ _ _|refine Grew.drew ?_|refine Grew.drewN ?_ _|refine Grew.setCell ?_ ?_ _)|go_size))⟩
 ·have F:Hid (L ≠ []):=Lib.hid (fun e => h0 (by rw [EN.out,e];rfl))
  have h00:¬ (nl:Int)=0:=by omega
  have h01:(0:Int) < (nl:Int):=by omega
  obtain ⟨b,o,pb,po,pc,rfl,hb,z0,hr0⟩:=RR.out 0 w (by omega) (Grew.refl _)
  have hp0:0 < (nth L 0).length:=(VL.out.2 _ (nth_mem (show 0 < L.length by have:=EN.out;omega))).1.1
  obtain ⟨q0,q1⟩:=hr0.2 0 hp0
  have hpb:pb < w.heap.size:=hr0.1
  obtain ⟨px,py,epx⟩:∃ px py,at' (nth L 0) 0=(px,py):=⟨_,_,rfl⟩
  rw [epx] at q0 q1
  simp only at q0 q1
  obtain ⟨ml,eml⟩:∃ ml,ml=(nth L 0).length:=⟨_,rfl⟩
  have hm0:(0:Int) < (ml:Int):=by omega
  rw [← eml,Nat.add_zero] at z0
  simp only [Nat.zero_mul,Nat.add_zero] at q0 q1
  have hb1:b < w.heap.size+1:=Nat.lt_add_one_of_lt hb
  have hb2:b < w.heap.size+1+1:=Nat.lt_add_one_of_lt hb1
  have hb3:b < w.heap.size+1+1+1:=Nat.lt_add_one_of_lt hb2
  have hp1:pb < w.heap.size+1:=Nat.lt_add_one_of_lt hpb
  have hp2:pb < w.heap.size+1+1:=Nat.lt_add_one_of_lt hp1
  have hp3:pb < w.heap.size+1+1+1:=Nat.lt_add_one_of_lt hp2
  have M0:Hid ((px,py) ∈ L.flatten):=Lib.hid (List.mem_flatten.2 ⟨nth L 0,nth_mem (show 0 < L.length by have:=EN.out;omega),by rw [← epx];exact at_mem hp0⟩)
  clear hr0 hp0 epx eml
  go_enter Tryz.func78,Tryz.ntmps78
  go_wp2_with fail
  have BB:Hid (Blk ((((w.alloc (.cells #[.int .i64 0,.int .i64 0] 27)).alloc (.cells #[.int .i64 0,.int .i64 0] 27)).alloc (.cells #[.int .i64 px,.int .i64 py] 27)).alloc (.cells #[.int .i64 px,.int .i64 py] 27)) (w.heap.size+1+1) #[.int .i64 ((px,py):Pt).1,.int .i64 ((px,py):Pt).2] 27∧Blk ((((w.alloc (.cells #[.int .i64 0,.int .i64 0] 27)).alloc (.cells #[.int .i64 0,.int .i64 0] 27)).alloc (.cells #[.int .i64 px,.int .i64 py] 27)).alloc (.cells #[.int .i64 px,.int .i64 py] 27)) (w.heap.size+1+1+1) #[.int .i64 ((px,py):Pt).1,.int .i64 ((px,py):Pt).2] 27∧Blk ((((w.alloc (.cells #[.int .i64 0,.int .i64 0] 27)).alloc (.cells #[.int .i64 0,.int .i64 0] 27)).alloc (.cells #[.int .i64 px,.int .i64 py] 27)).alloc (.cells #[.int .i64 px,.int .i64 py] 27)) (w.heap.size) #[.int .i64 0,.int .i64 0] 27∧Blk ((((w.alloc (.cells #[.int .i64 0,.int .i64 0] 27)).alloc (.cells #[.int .i64 0,.int .i64 0] 27)).alloc (.cells #[.int .i64 px,.int .i64 py] 27)).alloc (.cells #[.int .i64 px,.int .i64 py] 27)) (w.heap.size+1) #[.int .i64 0,.int .i64 0] 27):=Lib.hid (by
   have k0:=Blk.new w #[.int .i64 0,.int .i64 0] 27
   have k1:=Blk.new (w.alloc (.cells #[.int .i64 0,.int .i64 0] 27)) #[.int .i64 0,.int .i64 0] 27
   have k2:=Blk.new ((w.alloc (.cells #[.int .i64 0,.int .i64 0] 27)).alloc (.cells #[.int .i64 0,.int .i64 0] 27)) #[.int .i64 px,.int .i64 py] 27
   have k3:=Blk.new (((w.alloc (.cells #[.int .i64 0,.int .i64 0] 27)).alloc (.cells #[.int .i64 0,.int .i64 0] 27)).alloc (.cells #[.int .i64 px,.int .i64 py] 27)) #[.int .i64 px,.int .i64 py] 27
   simp only [World.size_alloc] at k1 k2 k3
   exact ⟨k2.alloc _,k3,((k0.alloc _).alloc _).alloc _,(k1.alloc _).alloc _⟩)
  clear q0 q1 z0 hpb hp1 hp2 hp3 hb1 hb2 hb3
  go_loopw [7,8,9] (fun i _ _ wr => ∃ (n:Nat) (lo hi:Pt),n≤nl∧i=.int .i64 n∧Grew w wr∧Hid (Blk wr (w.heap.size+1+1) #[.int .i64 lo.1,.int .i64 lo.2] 27∧Blk wr (w.heap.size+1+1+1) #[.int .i64 hi.1,.int .i64 hi.2] 27∧Blk wr (w.heap.size) #[.int .i64 0,.int .i64 0] 27∧Blk wr (w.heap.size+1) #[.int .i64 0,.int .i64 0] 27)∧Hid (Bnd L (Saw L n 0) lo hi)) (fun i _ _ _ => nl - (intOf i).toNat)
  case atStart => exact ⟨0,(px,py),(px,py),Nat.zero_le _,rfl,(by repeat' (first|(with_reducible first|exact Grew.refl _|assumption|refine Grew.alloc ?_ _ _|refine Grew.drew ?_|refine Grew.drewN ?_ _|refine Grew.setCell ?_ ?_ _)|go_size)),BB,Lib.hid ⟨⟨⟨_,M0.out,rfl⟩,fun y hy => by rcases hy with ⟨j,hj,_⟩ | ⟨m,hm,_⟩ <;> omega⟩,⟨⟨_,M0.out,rfl⟩,fun y hy => by rcases hy with ⟨j,hj,_⟩ | ⟨m,hm,_⟩ <;> omega⟩,⟨⟨_,M0.out,rfl⟩,fun y hy => by rcases hy with ⟨j,hj,_⟩ | ⟨m,hm,_⟩ <;> omega⟩,⟨_,M0.out,rfl⟩,fun y hy => by rcases hy with ⟨j,hj,_⟩ | ⟨m,hm,_⟩ <;> omega⟩⟩
  case round =>
   clear BB M0
   obtain ⟨n,lo,hi,hn,rfl,G,HB,HD⟩:=hrel
   have hz:=HZ.out
   by_cases hlt:n < nl
   ·have i0:(0:Int)≤(n:Int):=by omega
    have i1:(n:Int) < (nl:Int):=by omega
    have RN:Hid (∀ W,Grew w W→∃ pb po pc,b < W.heap.size∧W.cell? ⟨b,o+n,none⟩=some (.slice (some ⟨pb,po,none⟩) (nth L n).length pc)∧Row W pb po (nth L n)):=Lib.hid (fun W g => by
     obtain ⟨b',o',pb,po,pc,e,hb,z,hr⟩:=RR.out n W hlt g
     injection e with e
     injection e with e1 e2
     subst e1 e2
     exact ⟨pb,po,pc,hb,z,hr⟩)
    have ML:Hid ((nth L n).length≤64):=Lib.hid (VL.out.2 _ (nth_mem (show n < L.length by have:=EN.out;omega))).1.2
    have MF:Hid (∀ m,m < (nth L n).length→at' (nth L n) m ∈ L.flatten):=Lib.hid (fun m hm => List.mem_flatten.2 ⟨nth L n,nth_mem (show n < L.length by have:=EN.out;omega),at_mem hm⟩)
    go_wp2_with fail
    go_loopw [8,9] (fun i _ wz => ∃ (m:Nat) (lo hi:Pt),m≤(nth L n).length∧i=.int .i64 m∧Grew w wz∧Hid (Blk wz (w.heap.size+1+1) #[.int .i64 lo.1,.int .i64 lo.2] 27∧Blk wz (w.heap.size+1+1+1) #[.int .i64 hi.1,.int .i64 hi.2] 27∧Blk wz (w.heap.size) #[.int .i64 0,.int .i64 0] 27∧Blk wz (w.heap.size+1) #[.int .i64 0,.int .i64 0] 27)∧Hid (Bnd L (Saw L n m) lo hi)) (fun i _ _ => (nth L n).length - (intOf i).toNat)
    case atStart => exact ⟨0,lo,hi,Nat.zero_le _,rfl,G,HB,HD⟩
    case round =>
     clear HB HD G
     obtain ⟨m,lo,hi,hm,rfl,G,HB,HD⟩:=hrel
     have ml:=ML.out
     obtain ⟨pb,po,pc,hb',z0,hr⟩:=RN.out wr G
     by_cases hlm:m < (nth L n).length
     ·have j0:(0:Int)≤(m:Int):=by omega
      have j1:(m:Int) < ((nth L n).length:Int):=by omega
      obtain ⟨q0,q1⟩:=hr.2 m hlm
      have hpb:=hr.1
      have ZF:=Lib.hid (MF.out m hlm)
      obtain ⟨px,py,epx⟩:∃ px py,at' (nth L n) m=(px,py):=⟨_,_,rfl⟩
      rw [epx] at q0 q1 ZF
      simp only at q0 q1
      obtain ⟨k2,k3,k0,k1⟩:=HB.out
      have l2:=k2.lt
      have l3:=k3.lt
      obtain ⟨⟨c20,c21⟩,f20,f21⟩:=k2.two
      obtain ⟨⟨c30,c31⟩,f30,f31⟩:=k3.two
      have n2:¬ wr.heap.size=w.heap.size+1+1:=by omega
      have n3:¬ wr.heap.size=w.heap.size+1+1+1:=by omega
      have n4:¬ w.heap.size+1+1=w.heap.size+1+1+1:=by omega
      have n5:¬ w.heap.size+1+1+1=w.heap.size+1+1:=by omega
      obtain ⟨m1,r1,s1⟩:=run_min2 lo.1 px
      obtain ⟨m2,r2,s2⟩:=run_min2 lo.2 py
      obtain ⟨m3,r3,s3⟩:=run_max2 hi.1 px
      obtain ⟨m4,r4,s4⟩:=run_max2 hi.2 py
      have R1:∀ W,Sem.run Tryz.prog (Builtin.min_ #[3,3] 3 #[.int .i64 lo.1,.int .i64 px]) W=.ok (.int .i64 m1) W:=r1 _ _
      have R2:∀ W,Sem.run Tryz.prog (Builtin.min_ #[3,3] 3 #[.int .i64 lo.2,.int .i64 py]) W=.ok (.int .i64 m2) W:=r2 _ _
      have R3:∀ W,Sem.run Tryz.prog (Builtin.max_ #[3,3] 3 #[.int .i64 hi.1,.int .i64 px]) W=.ok (.int .i64 m3) W:=r3 _ _
      have R4:∀ W,Sem.run Tryz.prog (Builtin.max_ #[3,3] 3 #[.int .i64 hi.2,.int .i64 py]) W=.ok (.int .i64 m4) W:=r4 _ _
      have DN:Hid (Bnd L (Saw L n (m+1)) (m1,m2) (m3,m4)):=Lib.hid (HD.out.step ZF.out (fun y hy => by have:=saw_next y hy;rwa [epx] at this) s1 s2 s3 s4)
      clear r1 r2 r3 r4 s1 s2 s3 s4 k0 k1 k2 k3 HD hr epx
      go_wp2_with fail
      obtain ⟨k2,k3,k0,k1⟩:=HB.out
      exact ⟨⟨m+1,(m1,m2),(m3,m4),by omega,by go_num,(by repeat' (first|(with_reducible first|exact Grew.refl _|assumption|refine Grew.alloc ?_ _ _|refine Grew.drew ?_|refine Grew.drewN ?_ _|refine Grew.setCell ?_ ?_ _)|go_size)),Lib.hid ⟨((((k2.set (o:=0) _).set (o:=1) _).other n4 _).other n4 _).alloc _,((((k3.other n5 _).other n5 _).set (o:=0) _).set (o:=1) _).alloc _,((((k0.other (by omega) _).other (by omega) _).other (by omega) _).other (by omega) _).alloc _,((((k1.other (by omega) _).other (by omega) _).other (by omega) _).other (by omega) _).alloc _⟩,DN⟩,by simp [intOf];omega⟩
     ·obtain rfl:m=(nth L n).length:=by omega
      have GH:=Lib.hid G
      go_wp2_with fail
      exact ⟨⟨n+1,lo,hi,by omega,by go_num,GH.out,HB,Lib.hid (HD.out.sub saw_row)⟩,by simp [intOf];omega⟩
   ·obtain rfl:n=nl:=by omega
    have BX:Hid (IsBox L.flatten lo hi):=Lib.hid (bnd_box (by have h:=HD.out;rw [EN.out] at h;exact h))
    obtain ⟨k2,k3,k0,k1⟩:=HB.out
    have l0:=k0.lt
    have l1:=k1.lt
    have l2:=k2.lt
    have l3:=k3.lt
    obtain ⟨⟨c00,c01⟩,f00,f01⟩:=k0.two
    obtain ⟨⟨c10,c11⟩,f10,f11⟩:=k1.two
    obtain ⟨c20,c21⟩:=blk_two k2
    obtain ⟨c30,c31⟩:=blk_two k3
    have n1:¬ w.heap.size=w.heap.size+1:=by omega
    have n2:¬ w.heap.size+1+1=w.heap.size:=by omega
    have n3:¬ w.heap.size+1+1+1=w.heap.size:=by omega
    have n4:¬ w.heap.size+1+1=w.heap.size+1:=by omega
    have n5:¬ w.heap.size+1+1+1=w.heap.size+1:=by omega
    have n6:¬ w.heap.size+1=w.heap.size:=by omega
    clear k0 k1 k2 k3
    go_wp2_with fail
    go_region_o
    all_goals go_wp2_with fail
    all_goals exact bodyPost_ret (v:=.tuple #[.agg #[.int .i64 lo.1,.int .i64 lo.2],.agg #[.int .i64 hi.1,.int .i64 hi.2],.bool true]) (by simp [results,Tryz.results78,go_sem, *]) rfl ⟨lo,hi,true,Or.inr ⟨F.out,BX.out,rfl⟩,rfl,(by repeat' (first|(with_reducible first|exact Grew.refl _|assumption|refine Grew.alloc ?_ _ _|refine Grew.drew ?_|refine Grew.drewN ?_ _|refine Grew.setCell ?_ ?_ _)|go_size))⟩
set_option maxRecDepth 100000 in
set_option maxHeartbeats 4000000 in
theorem box_f (L:Rgn) (v:Value) (w:World) (hs:Rl w v L):Calls Tryz.prog 32 #[v] w (BoxA L w):=by
 have R:=Lib.hid (hs.grown (((Grew.refl w).alloc #[.int .i64 0,.int .i64 0] 27).alloc #[.int .i64 0,.int .i64 0] 27))
 have hmx:Tryz.prog.follows .mixedOrders=true:=by kernel_rfl
 have k0:=(Blk.new w #[.int .i64 0,.int .i64 0] 27).alloc (.cells #[.int .i64 0,.int .i64 0] 27)
 have k1:=Blk.new (w.alloc (.cells #[.int .i64 0,.int .i64 0] 27)) #[.int .i64 0,.int .i64 0] 27
 simp only [World.size_alloc] at k1
 have K0:=Lib.hid k0
 have K1:=Lib.hid k1
 obtain ⟨a,c,rfl⟩:=hs.shape
 clear hs k0 k1
 go_enter Tryz.func32,Tryz.ntmps32
 go_wp2_with fail
 refine (rref_valid L _ _ R.out).mono ?_
 rintro e w1 ⟨r1,rfl,h1,g1⟩
 have H1:=Lib.hid h1
 have R1:=Lib.hid (R.out.grown g1)
 have K2:=Lib.hid (K0.out.grown g1)
 have K3:=Lib.hid (K1.out.grown g1)
 have G1:Grew w w1:=Grew.trans (by repeat' (first|(with_reducible first|exact Grew.refl _|assumption|refine Grew.alloc ?_ _ _|refine Grew.drew ?_|refine Grew.drewN ?_ _|refine Grew.setCell ?_ ?_ _)|go_size)) g1
 clear h1 g1 R K0 K1
 cases r1
 ·have F:=Lib.hid (not_of H1.out)
  obtain ⟨⟨c00,c01⟩,f00,f01⟩:=K2.out.two
  obtain ⟨⟨c10,c11⟩,f10,f11⟩:=K3.out.two
  have l0:=K2.out.lt
  have l1:=K3.out.lt
  go_wp2_with fail
  exact bodyPost_ret (v:=.tuple #[.agg #[.int .i64 0,.int .i64 0],.agg #[.int .i64 0,.int .i64 0],.bool false,.int .i64 1]) (by simp [results,Tryz.results32,go_sem, *]) rfl ⟨(0,0),(0,0),false,1,Or.inl ⟨F.out,rfl,rfl,rfl,rfl⟩,rfl,(by repeat' (first|(with_reducible first|exact Grew.refl _|assumption|refine Grew.alloc ?_ _ _|refine Grew.drew ?_|refine Grew.drewN ?_ _|refine Grew.setCell ?_ ?_ _)|go_size))⟩
 ·have VL:=Lib.hid (H1.out.1 rfl)
  go_wp2_with fail
  refine (bounds_r L _ _ R1.out VL.out).mono ?_
  rintro e w2 ⟨lo,hi,ok,hk,rfl,g2⟩
  have HK:=Lib.hid hk
  have K4:=Lib.hid (K2.out.grown g2)
  have K5:=Lib.hid (K3.out.grown g2)
  have G2:=Grew.trans G1 g2
  clear hk g2 K2 K3 R1
  obtain ⟨⟨c00,c01⟩,f00,f01⟩:=K4.out.two
  obtain ⟨⟨c10,c11⟩,f10,f11⟩:=K5.out.two
  have l0:=K4.out.lt
  have l1:=K5.out.lt
  have l2:w.heap.size < w2.heap.size+1:=Nat.lt_add_one_of_lt l0
  have l3:w.heap.size < w2.heap.size+1+1:=Nat.lt_add_one_of_lt l2
  have l4:w.heap.size+1 < w2.heap.size+1:=Nat.lt_add_one_of_lt l1
  have l5:w.heap.size+1 < w2.heap.size+1+1:=Nat.lt_add_one_of_lt l4
  have n1:¬ w2.heap.size=w.heap.size:=by omega
  have n2:¬ w2.heap.size+1=w.heap.size:=by omega
  have n3:¬ w2.heap.size=w.heap.size+1:=by omega
  have n4:¬ w2.heap.size+1=w.heap.size+1:=by omega
  have BP:Hid (BoxP L lo hi ok 0):=Lib.hid (by
   rcases HK.out with ⟨a,b,c,d⟩ | ⟨a,b,c⟩
   ·exact Or.inr (Or.inl ⟨VL.out,a,b,c,d,rfl⟩)
   ·exact Or.inr (Or.inr ⟨VL.out,a,b,c,rfl⟩))
  go_wp2_with fail
  go_region_o
  all_goals go_wp2_with fail
  all_goals exact bodyPost_ret (v:=.tuple #[.agg #[.int .i64 lo.1,.int .i64 lo.2],.agg #[.int .i64 hi.1,.int .i64 hi.2],.bool ok,.int .i64 0]) (by simp [results,Tryz.results32,go_sem, *]) rfl ⟨lo,hi,ok,0,BP.out,rfl,(by repeat' (first|(with_reducible first|exact Grew.refl _|assumption|refine Grew.alloc ?_ _ _|refine Grew.drew ?_|refine Grew.drewN ?_ _|refine Grew.setCell ?_ ?_ _)|go_size))⟩
end Rg
end Go.Proofs.YtlookcbokhknfaaGreat
