/-
  The landed package region: Box.
  The library's Grow and Concat at slices of slices; the landed Join.
-/
import Derived.Test.YtlookcbokhknfaaGreatRegO
import Derived.Test.YtlookcbokhknfaaGreatCutCk
namespace Go.Proofs.YtlookcbokhknfaaGreat
open Go.RowKit Go.Shelf Hl
namespace Rg
theorem flat_min {L:Rgn} (h:1≤L.length) (hL:AllV L) (u v:Int):IsMin L.flatten u v (bl (fun i => mn u v (nth L i)) (L.length - 1)):=by
 obtain ⟨⟨j,hj,e⟩,h1⟩:=bl_min (fun i => mn u v (nth L i)) (L.length - 1)
 obtain ⟨⟨x,hx,ex⟩,_⟩:=mn_is (hL _ (nth_mem (L:=L) (i:=j) (by omega))).1.1 u v
 refine ⟨⟨x,List.mem_flatten.2 ⟨_,nth_mem (i:=j) (by omega),hx⟩,ex.trans e⟩,fun y hy => ?_⟩
 obtain ⟨p,hp,hy⟩:=List.mem_flatten.1 hy
 obtain ⟨i,hi,rfl⟩:=mem_nth hp
 exact Int.le_trans (h1 i (by omega)) ((mn_is (hL _ hp).1.1 u v).2 y hy)
theorem flat_max {L:Rgn} (h:1≤L.length) (hL:AllV L) (u v:Int):IsMin L.flatten (-u) (-v) (-(bh (fun i => mx u v (nth L i)) (L.length - 1))):=by
 obtain ⟨⟨j,hj,e⟩,h1⟩:=bh_max (fun i => mx u v (nth L i)) (L.length - 1)
 obtain ⟨⟨x,hx,ex⟩,_⟩:=mx_is (hL _ (nth_mem (L:=L) (i:=j) (by omega))).1.1 u v
 refine ⟨⟨x,List.mem_flatten.2 ⟨_,nth_mem (i:=j) (by omega),hx⟩,by rw [ex,← e]⟩,fun y hy => ?_⟩
 obtain ⟨p,hp,hy⟩:=List.mem_flatten.1 hy
 obtain ⟨i,hi,rfl⟩:=mem_nth hp
 have:=h1 i (by omega)
 have:=(mx_is (hL _ hp).1.1 u v).2 y hy
 omega
def E4 (w:World) (B:Nat) (a b c d:Int):Prop:=(w.cell? ⟨B,0,none⟩=some (.int .i64 a)∧w.cell? ⟨B,1,none⟩=some (.int .i64 b)∧w.cell? ⟨B,2,none⟩=some (.int .i64 c)∧w.cell? ⟨B,3,none⟩=some (.int .i64 d))∧(w.frozen? ⟨B,0,none⟩=false∧w.frozen? ⟨B,1,none⟩=false∧w.frozen? ⟨B,2,none⟩=false∧w.frozen? ⟨B,3,none⟩=false)∧B < w.heap.size
theorem E4.grown {w w':World} {B:Nat} {a b c d:Int} (h:E4 w B a b c d) (k:Grew w w'):E4 w' B a b c d:=by
 obtain ⟨c1,f1,z1⟩:=laid k
 obtain ⟨h1,h2,h3⟩:=h
 unfold E4
 rw [c1 _ _ h3,c1 _ _ h3,c1 _ _ h3,c1 _ _ h3,f1 _ _ h3,f1 _ _ h3,f1 _ _ h3,f1 _ _ h3]
 exact ⟨h1,h2,Nat.lt_of_lt_of_le h3 z1⟩
set_option maxRecDepth 100000 in
set_option maxHeartbeats 8000000 in
theorem rbox_c (K:Hl.Code) (L:Rgn) (v:Value) (w:World) (hs:Rl w v L):Calls Tryz.prog 31 #[v] w (BoxA L w):=by
 have VC:=Lib.hid (fun W (g:Grew w W) => rvalid_c K L v W (hs.grown g))
 have TA:=Lib.hid ((Blk.new w #[.int .i64 0,.int .i64 0] 27).grown ((Grew.refl _).alloc #[.int .i64 0,.int .i64 0] 27))
 have TB:=Lib.hid (Blk.new (w.alloc (.cells #[.int .i64 0,.int .i64 0] 27)) #[.int .i64 0,.int .i64 0] 27)
 rw [World.size_alloc] at TB
 have G2:Grew w ((w.alloc (.cells #[.int .i64 0,.int .i64 0] 27)).alloc (.cells #[.int .i64 0,.int .i64 0] 27)):=((Grew.refl w).alloc _ _).alloc _ _
 by_cases hV:VlR L
 ·have VC:Hid (∀ W,Grew w W→Calls Tryz.prog 14 #[v] W fun e w' => e=.returned (.bool true)∧Grew W w'):=Lib.hid (fun W g => (VC.out W g).mono fun _ _ t => t.to hV)
  have HV:=Lib.hid hV
  by_cases h0:L.length=0
  ·have HN:Hid (L=[]):=Lib.hid (List.length_eq_zero_iff.1 h0)
   obtain ⟨a,c,rfl⟩:=hs.shape
   rw [h0] at VC ⊢
   clear hs hV h0 K
   go_enter Tryz.func31,Tryz.ntmps31
   go_wp2_with fail
   refine (VC.out _ G2).mono ?_
   rintro e w1 ⟨rfl,g1⟩
   have G1:=Grew.trans G2 g1
   have A1:=TA.out.grown g1
   have B1:=TB.out.grown g1
   have fa:=blk_frozen A1
   have fb:=blk_frozen B1
   have la:=A1.lt
   have lb:=B1.lt
   obtain ⟨x0,x1⟩:=blk_two A1
   obtain ⟨y0,y1⟩:=blk_two B1
   clear g1 A1 B1
   go_wp2_with fail
   refine bodyPost_ret (v:=.tuple #[.agg #[.int .i64 0,.int .i64 0],.agg #[.int .i64 0,.int .i64 0],.bool false,.int .i64 0]) (by simp [results,Tryz.results31,go_sem, *]) rfl ⟨(0,0),(0,0),false,0,Or.inr (Or.inl ⟨HV.out,HN.out,rfl,rfl,rfl,rfl⟩),rfl,(by repeat' (first|(with_reducible first|exact Grew.refl _|assumption|refine Grew.alloc ?_ _ _|refine Grew.drew ?_|refine Grew.drewN ?_ _|refine Grew.setCell ?_ ?_ _)|go_size))⟩
  ·obtain ⟨a,c,U,rfl,hU,hSl,hRr⟩:=rl_fun hs
   have n0:1≤L.length:=by omega
   have m0:¬ (L.length:Int)=0:=by omega
   have FIN:Hid (BoxP L (bl (fun i => mn 1 0 (nth L i)) (L.length - 1),bl (fun i => mn 0 1 (nth L i)) (L.length - 1)) (bh (fun i => mx 1 0 (nth L i)) (L.length - 1),bh (fun i => mx 0 1 (nth L i)) (L.length - 1)) true 0):=Lib.hid (Or.inr (Or.inr ⟨hV,fun e => h0 (by rw [e];rfl),⟨flat_min n0 hV.2 1 0,flat_max n0 hV.2 1 0,flat_min n0 hV.2 0 1,flat_max n0 hV.2 0 1⟩,rfl,rfl⟩))
   have BC:Hid (∀ i W,i < L.length→Grew w W→Calls Tryz.prog 76 #[U i] W fun e w' => e=.returned (.agg #[.int .i64 (mn 1 0 (nth L i)),.int .i64 (mn 0 1 (nth L i)),.int .i64 (mx 1 0 (nth L i)),.int .i64 (mx 0 1 (nth L i))])∧Grew W w'):=Lib.hid (fun i W hi g => boxOf_c K (nth L i) (U i) W ((hSl i hi).grown g) (hV.2 _ (nth_mem hi)))
   obtain ⟨b,o,rfl,⟨hb,_⟩,z0⟩:=hRr 0 (by omega)
   have RC:Hid (∀ i,i < L.length→w.cell? ⟨b,o+i,none⟩=some (U i)):=Lib.hid (fun i hi => by
    obtain ⟨b',o',e,_,h⟩:=hRr i hi
    cases e
    exact h)
   rw [Nat.add_zero] at z0
   have BC0:=Lib.hid (fun W (g:Grew w W) => BC.out 0 W (by omega) g)
   have Q0:Hid (E4=E4):=Lib.hid rfl
   have l32:L.length≤32:=hV.1
   have hmx:Tryz.prog.follows .mixedOrders=true:=by kernel_rfl
   clear hs hV hU hSl hRr K
   go_enter Tryz.func31,Tryz.ntmps31
   go_wp2_with fail
   refine (VC.out _ G2).mono ?_
   rintro e w1 ⟨rfl,g1⟩
   have TA1:=Lib.hid (TA.out.grown g1)
   have TB1:=Lib.hid (TB.out.grown g1)
   have G1:=Grew.trans G2 g1
   have z1:=(Grew.cell G1 hb).trans z0
   have hb1:=Nat.lt_of_lt_of_le hb G1.size
   have hz:=TB1.out.lt
   clear g1 G2 TA TB
   go_wp2_with fail
   refine (BC0.out _ G1).mono ?_
   rintro e w2 ⟨rfl,g2⟩
   have hT:E4 (w2.alloc (.cells #[.int .i64 (mn 1 0 (nth L 0)),.int .i64 (mn 0 1 (nth L 0)),.int .i64 (mx 1 0 (nth L 0)),.int .i64 (mx 0 1 (nth L 0))] 81)) w2.heap.size (bl (fun i => mn 1 0 (nth L i)) (0)) (bl (fun i => mn 0 1 (nth L i)) (0)) (bh (fun i => mx 1 0 (nth L i)) (0)) (bh (fun i => mx 0 1 (nth L i)) (0)):=by unfold E4;simp [go_sem,bl,bh]
   have T0:=Lib.hid hT
   have hB:=g2.size
   have G1:=Grew.trans G1 g2
   have TA1:=Lib.hid (TA1.out.grown g2)
   have TB1:=Lib.hid (TB1.out.grown g2)
   have hz:=TB1.out.lt
   have GZ:Grew w2 w2:=Grew.refl _
   clear g2 hT
   have HB:=Lib.hid hb
   clear z0 z1 hb hb1 BC0
   go_wp2_with fail
   go_loopw [8,25] (fun _ i wr => ∃ k:Nat,k≤L.length∧i=.int .i64 k∧E4 wr w2.heap.size (bl (fun i => mn 1 0 (nth L i)) (k - 1)) (bl (fun i => mn 0 1 (nth L i)) (k - 1)) (bh (fun i => mx 1 0 (nth L i)) (k - 1)) (bh (fun i => mx 0 1 (nth L i)) (k - 1))∧Grew w2 wr) (fun _ i _ => L.length - (intOf i).toNat)
   case atStart => exact ⟨0,Nat.zero_le _,rfl,T0.out,(by repeat' (first|(with_reducible first|exact Grew.refl _|assumption|refine Grew.alloc ?_ _ _|refine Grew.drew ?_|refine Grew.drewN ?_ _|refine Grew.setCell ?_ ?_ _)|go_size))⟩
   case round =>
    obtain ⟨k,hk,rfl,hT,hG⟩:=hrel
    by_cases hlt:k < L.length
    ·have x0:=(Grew.cell (Grew.trans G1 hG) HB.out).trans (RC.out k hlt)
     have i0:(0:Int)≤(k:Int):=by omega
     have i1:(k:Int) < (L.length:Int):=by omega
     have BK:=Lib.hid (fun W (g:Grew wr W) => BC.out k W hlt (Grew.trans (Grew.trans G1 hG) g))
     have E0:Hid (bl (fun i => mn 1 0 (nth L i)) k=mnI (bl (fun i => mn 1 0 (nth L i)) (k - 1)) (mn 1 0 (nth L k))):=Lib.hid (bl_next _ k)
     have E1:Hid (bl (fun i => mn 0 1 (nth L i)) k=mnI (bl (fun i => mn 0 1 (nth L i)) (k - 1)) (mn 0 1 (nth L k))):=Lib.hid (bl_next _ k)
     have E2:Hid (bh (fun i => mx 1 0 (nth L i)) k=mxI (bh (fun i => mx 1 0 (nth L i)) (k - 1)) (mx 1 0 (nth L k))):=Lib.hid (bh_next _ k)
     have E3:Hid (bh (fun i => mx 0 1 (nth L i)) k=mxI (bh (fun i => mx 0 1 (nth L i)) (k - 1)) (mx 0 1 (nth L k))):=Lib.hid (bh_next _ k)
     generalize bl (fun i => mn 1 0 (nth L i)) (k - 1)=s0 at hT E0
     generalize bl (fun i => mn 0 1 (nth L i)) (k - 1)=s1 at hT E1
     generalize bh (fun i => mx 1 0 (nth L i)) (k - 1)=s2 at hT E2
     generalize bh (fun i => mx 0 1 (nth L i)) (k - 1)=s3 at hT E3
     generalize mn 1 0 (nth L k)=v0 at BK E0
     generalize mn 0 1 (nth L k)=v1 at BK E1
     generalize mx 1 0 (nth L k)=v2 at BK E2
     generalize mx 0 1 (nth L k)=v3 at BK E3
     have WC:=Lib.hid (fun W => with_c s0 s1 s2 s3 v0 v1 v2 v3 W)
     generalize mnI s0 v0=r0 at WC E0
     generalize mnI s1 v1=r1 at WC E1
     generalize mxI s2 v2=r2 at WC E2
     generalize mxI s3 v3=r3 at WC E3
     have lB:=hT.2.2
     have HT:=Lib.hid hT
     obtain ⟨⟨b0,b1,b2,b3⟩,⟨f0,f1,f2,f3⟩,_⟩:=hT
     go_wp2_with fail
     refine Bar.begin_ (S:=(fun w' => w'.cell? ⟨w2.heap.size,0,none⟩=some (.int .i64 (s0))∧w'.cell? ⟨w2.heap.size,1,none⟩=some (.int .i64 (s1))∧w'.cell? ⟨w2.heap.size,2,none⟩=some (.int .i64 (s2))∧w'.cell? ⟨w2.heap.size,3,none⟩=some (.int .i64 (s3)))) 4 (by kernel_rfl) (by simp [go_sem, *]) (fun hHeld => ?_)
     refine Bar.Walk.take [4] (i:=0) (oi:=⟨some 29,_,_,_,_,_⟩) (v:=?_) rfl (by kernel_rfl) (by kernel_rfl) (by kernel_rfl) (by kernel_rfl) (fun _ _ _ h => h) (Or.inl ⟨by rfl,?_⟩) (by assumption) ?_
     rotate_left
     ·intro w hSw;(try dsimp only at hSw);go_simp;(try with_reducible rfl)
     try simp only [Act.put,List.setIfInBounds_toArray,List.set_cons_zero,List.set_cons_succ]
     refine Bar.Walk.takeY (i:=1) (oi:=⟨some 30,_,_,_,_,_⟩) (v:=?_) rfl (by kernel_rfl) (by kernel_rfl) (by kernel_rfl) rfl (fun _ _ _ h => h) (Or.inl ⟨by rfl,?_⟩) (by assumption) ?_
     rotate_left
     ·intro w;go_simp;(try with_reducible rfl)
     try simp only [Act.put,List.setIfInBounds_toArray,List.set_cons_zero,List.set_cons_succ]
     refine Bar.Walk.step (i:=2) (o:=⟨some 31,_,_,_,_,_⟩) (by kernel_rfl) rfl (fun K hK => ?_)
     go_simp
     refine (BK.out _ (by first | exact Grew.refl _ | exact (Grew.refl _).drew)).mono ?_
     rintro e wb ⟨rfl,g1⟩
     have GX:Grew wr wb:=by first | exact g1 | exact Grew.trans (Grew.refl _).drew g1
     have T1:=Lib.hid (HT.out.grown GX)
     obtain ⟨⟨t0,t1,t2,t3⟩,⟨t4,t5,t6,t7⟩,_⟩:=T1.out
     go_wp2_with fail
     refine hK.out _ _ (by (try dsimp only);simp [go_sem, *]) (fun h1 => ?_)
     clear hK K hHeld
     have hHeld:=h1
     clear h1
     try simp only [Act.put,List.setIfInBounds_toArray,List.set_cons_zero,List.set_cons_succ]
     refine Bar.Walk.step (i:=3) (o:=⟨some 32,_,_,_,_,_⟩) (by kernel_rfl) rfl (fun K hK => ?_)
     go_simp
     refine (WC.out _).mono ?_
     rintro e wq ⟨rfl,g2⟩
     have T2:=T1.out.grown g2
     obtain ⟨⟨u0,u1,u2,u3⟩,⟨f0,f1,f2,f3⟩,lb2⟩:=T2
     clear t0 t1 t2 t3 t4 t5 t6 t7
     go_wp2_with fail
     refine hK.out _ _ (by (try dsimp only);simp [go_sem, *]) (fun h1 => ?_)
     clear hK K hHeld
     have hHeld:=h1
     clear h1
     try simp only [Act.put,List.setIfInBounds_toArray,List.set_cons_zero,List.set_cons_succ]
     refine Bar.Walk.pass (o:=⟨none,_,_,_,_,_⟩) (by kernel_rfl) rfl (by kernel_rfl) (fun K hK => ?_)
     go_simp
     refine hK.out _ _ ?_
     clear hK K hHeld
     try simp only [Act.put,List.setIfInBounds_toArray,List.set_cons_zero,List.set_cons_succ]
     refine wpAny_done (by kernel_rfl) ?_ _
     go_wp2_with fail
     go_roundw
     case rel => exact ⟨k+1,by omega,by go_num,by rw [Nat.add_sub_cancel,E0.out,E1.out,E2.out,E3.out];(unfold E4;simp [go_sem, *]),by
      have G9:Grew w2 wq:=Grew.trans (Grew.trans hG GX) g2
      exact (((G9.setCell (by first | (simp;done) | (simp;omega)) _).setCell (by first | (simp;done) | (simp;omega)) _).setCell (by first | (simp;done) | (simp;omega)) _).setCell (by first | (simp;done) | (simp;omega)) _⟩
     case measure => simp [intOf];omega
    ·obtain rfl:k=L.length:=by omega
     obtain ⟨⟨b0,b1,b2,b3⟩,_,lB⟩:=hT
     have A1:=TA1.out.grown hG
     have B1:=TB1.out.grown hG
     have fa:=blk_frozen A1
     have fb:=blk_frozen B1
     have la:=A1.lt
     have lb:=B1.lt
     have na:¬ w2.heap.size=w.heap.size:=by omega
     have nb:¬ w2.heap.size=w.heap.size+1:=by omega
     have na':¬ w.heap.size=w2.heap.size:=by omega
     have nb':¬ w.heap.size+1=w2.heap.size:=by omega
     have GF:=Grew.trans G1 hG
     clear hG G1
     have f0:=fa 0
     have f1:=fa 1
     have f2:=fb 0
     have f3:=fb 1
     obtain ⟨x0,x1⟩:=blk_two A1
     obtain ⟨y0,y1⟩:=blk_two B1
     clear fa fb A1 B1
     go_wp2_with fail
     go_region_o
     all_goals go_wp2_with fail
     all_goals refine bodyPost_ret (v:=.tuple #[.agg #[.int .i64 (bl (fun i => mn 1 0 (nth L i)) (L.length - 1)),.int .i64 (bl (fun i => mn 0 1 (nth L i)) (L.length - 1))],.agg #[.int .i64 (bh (fun i => mx 1 0 (nth L i)) (L.length - 1)),.int .i64 (bh (fun i => mx 0 1 (nth L i)) (L.length - 1))],.bool true,.int .i64 0]) (by simp [results,Tryz.results31,go_sem, *]) rfl ⟨_,_,_,_,FIN.out,rfl,(by repeat' (first|(with_reducible first|exact Grew.refl _|assumption|refine Grew.alloc ?_ _ _|refine Grew.drew ?_|refine Grew.drewN ?_ _|refine Grew.setCell ?_ ?_ _)|go_size))⟩
 ·have HV:=Lib.hid hV
  have VC:Hid (∀ W,Grew w W→Calls Tryz.prog 14 #[v] W fun e w' => e=.returned (.bool false)∧Grew W w'):=Lib.hid (fun W g => (VC.out W g).mono fun _ _ t => t.un hV)
  obtain ⟨a,c,rfl⟩:=hs.shape
  clear hs hV K
  go_enter Tryz.func31,Tryz.ntmps31
  go_wp2_with fail
  refine (VC.out _ G2).mono ?_
  rintro e w1 ⟨rfl,g1⟩
  have G1:=Grew.trans G2 g1
  have A1:=TA.out.grown g1
  have B1:=TB.out.grown g1
  have fa:=blk_frozen A1
  have fb:=blk_frozen B1
  have la:=A1.lt
  have lb:=B1.lt
  obtain ⟨x0,x1⟩:=blk_two A1
  obtain ⟨y0,y1⟩:=blk_two B1
  clear g1 A1 B1
  go_wp2_with fail
  refine bodyPost_ret (v:=.tuple #[.agg #[.int .i64 0,.int .i64 0],.agg #[.int .i64 0,.int .i64 0],.bool false,.int .i64 1]) (by simp [results,Tryz.results31,go_sem, *]) rfl ⟨(0,0),(0,0),false,1,Or.inl ⟨HV.out,rfl,rfl,rfl,rfl⟩,rfl,(by repeat' (first|(with_reducible first|exact Grew.refl _|assumption|refine Grew.alloc ?_ _ _|refine Grew.drew ?_|refine Grew.drewN ?_ _|refine Grew.setCell ?_ ?_ _)|go_size))⟩
end Rg
end Go.Proofs.YtlookcbokhknfaaGreat
namespace Go.Proofs.YtlookcbokhknfaaGreat
open Go.RowKit Go.Shelf Hl
namespace Rg
def growR_ren:Go.Shelf.Ren:=⟨fun | 4 => 98 | n => n,fun | 22 => 22 | 25 => 23 | 3 => 3 | 4 => 4 | 9 => 9 | 20 => 20 | 0 => 0 | 2 => 3 | n => n,fun | n => n⟩
theorem growR:Go.Proofs.Lays8.n4 Tryz.prog growR_ren:={
 mixed:=by kernel_rfl
 f4:=⟨Tryz.f98.name,by decide,Tryz.func98.trans (congrArg some (by kernel_rfl))⟩
 t0:=Tryz.underlying0
 a0:=Tryz.isAgg0
 z0:=Tryz.sizeOf0
 v0:=Tryz.zeroValue0
 t3:=Tryz.underlying3
 a3:=Tryz.isAgg3
 z3:=Tryz.sizeOf3
 v3:=Tryz.zeroValue3
 t4:=Tryz.underlying4
 a4:=Tryz.isAgg4
 z4:=Tryz.sizeOf4
 v4:=Tryz.zeroValue4
 t9:=Tryz.underlying9
 a9:=Tryz.isAgg9
 z9:=Tryz.sizeOf9
 v9:=Tryz.zeroValue9
 t20:=Tryz.underlying20
 a20:=Tryz.isAgg20
 z20:=Tryz.sizeOf20
 v20:=Tryz.zeroValue20
 t22:=Tryz.underlying22
 a22:=Tryz.isAgg22
 z22:=Tryz.sizeOf22
 v22:=Tryz.zeroValue22 }
set_option maxRecDepth 100000 in
set_option maxHeartbeats 8000000 in
theorem grow_r (N:Nat) (w:World) (hN:N≤4000000) :
  Calls Tryz.prog 98 #[.slice none 0 0,.int .i64 N] w fun e w' => ∃ sa sc,e=.returned (.slice sa 0 sc)∧Own w.heap.size w' (.slice sa 0 sc) []∧Grew w w':=by
 by_cases h0:N=0
 ·subst h0
  clear hN
  go_enter Tryz.func98,Tryz.ntmps98
  go_wp2_with fail
  go_ret
  exact ⟨none,0,rfl,Own.nil _ _,Grew.refl _⟩
 ·obtain ⟨i0,hi,hz0,hz1,hz2⟩:=info_parts info_sl
  have h:=Any8.slices_Grow_grow growR i0 (.slice none 0 0) hi hz0 (by omega) none 0 0 N [] w (Nat.le_refl _) (by omega) (by rw [hz2];omega) (by omega) (by simp) (fun _ => rfl) (fun a h => by cases h)
  refine h.mono ?_
  rintro e w' ⟨rfl,rfl⟩
  have hG:=grownCap_ge w (0+N) 0 23
  have hM:=grownCap_le_maxLen w (0+N) 0 23 (by unfold maxLen;omega)
  have hz:(growR_ren.t 25) = 23:=rfl
  rw [hz]
  refine ⟨_,_,rfl,⟨⟨[],rfl,?_,fun i u h => (by cases h)⟩,fun g h => ?_,fun p h => (by cases h)⟩,((Grew.refl w).drew).alloc _ _⟩
  ·refine World.ownsRow_made w.drew _ _ (Nat.le_refl _) hM ?_
   rw [Array.size_append,Array.size_append,size_zeroCells,size_zeroCells]
   show 0+(0+N - 0) * 1+(grownCap w (0+N) 0 23 - (0+N)) * 1=_
   omega
  ·injection h with h
   subst h
   refine hd_new w.drew _ _ (fun u hu => ?_)
   simp only [Array.toList_append,List.mem_append] at hu
   rcases hu with (hu | hu) | hu
   ·cases hu
   ·exact zero_hd (.slice none 0 0) rfl _ u hu
   ·exact zero_hd (.slice none 0 0) rfl _ u hu
theorem Own.mono {B C:Nat} {w:World} {v:Value} {L:Rgn} (h:Own C w v L) (k:B≤C):Own B w v L:=by
 obtain ⟨us,e,o,s⟩:=h.own
 refine ⟨⟨us,e,?_,s⟩,h.hd,h.full⟩
 obtain ⟨h1,h2 | ⟨g,cap,cur,e',hB,r⟩⟩:=o
 ·exact ⟨h1,Or.inl h2⟩
 ·exact ⟨h1,Or.inr ⟨g,cap,cur,e',Nat.le_trans k hB,r⟩⟩
set_option maxRecDepth 100000 in
set_option maxHeartbeats 8000000 in
theorem concat_r (b:Nat) (v1 v2:Value) (l1 l2:Rgn) (w:World) (hb:Blk w b #[v1,v2] 22) (h1:Rl w v1 l1) (h2:Rl w v2 l2) (f1:∀ p,p ∈ l1→0 < p.length) (f2:∀ p,p ∈ l2→0 < p.length)
  (s1:l1.length≤1000000) (s2:l2.length≤1000000) :
  Calls Tryz.prog 54 #[.slice (some ⟨b,0,none⟩) 2 2] w fun e w' => ∃ v,e=.returned v∧Rl w' v (l1 ++ l2)∧Grew w w':=by
 have O1:=Lib.hid h1
 have O2:=Lib.hid h2
 have HB:=Lib.hid hb
 have F1:=Lib.hid f1
 have F2:=Lib.hid f2
 have B1:=Lib.hid h1.2
 have B12:Hid (Bd (l1 ++ l2)):=Lib.hid ⟨by rw [List.length_append];omega,fun p hp => (List.mem_append.1 hp).elim (h1.2.2 p) (h2.2.2 p)⟩
 obtain ⟨a1,c1,rfl⟩:=h1.shape
 obtain ⟨a2,c2,rfl⟩:=h2.shape
 obtain ⟨x0,x1⟩:=blk_two hb
 have GC:Hid (∀ W,Grew w W→Calls Tryz.prog 98 #[.slice none 0 0,.int .i64 ((l1.length:Int)+(l2.length:Int))] W fun e w' => ∃ sa sc,e=.returned (.slice sa 0 sc)∧Hid (Own w.heap.size w' (.slice sa 0 sc) []∧Grew w w')):=Lib.hid (fun W g => by
  have h:=grow_r (l1.length+l2.length) W (by omega)
  rw [Int.natCast_add] at h
  refine h.mono ?_
  rintro e w' ⟨sa,sc,he,ho,hg⟩
  exact ⟨sa,sc,he,Lib.hid ⟨ho.mono g.size,g.trans hg⟩⟩)
 have W1:IntKind.i64.wrap (l1.length:Int)=(l1.length:Int):=IntWalk.i64_in _ ⟨by omega,by omega⟩
 have W2:IntKind.i64.wrap ((l1.length:Int)+(l2.length:Int))=(l1.length:Int)+(l2.length:Int):=IntWalk.i64_in _ ⟨by omega,by omega⟩
 have n1:¬ ((l1.length:Int) < 0):=by omega
 have n2:¬ ((l1.length:Int)+(l2.length:Int) < 0):=by omega
 clear hb h1 h2 f1 f2
 go_enter Tryz.func54,Tryz.ntmps54
 go_wp2_with fail
 go_loopw [3,5,11] (fun s _ i wr => w=wr∧((i=.int .i64 0∧s=.int .i64 0)∨(i=.int .i64 1∧s=.int .i64 l1.length)∨(i=.int .i64 2∧s=.int .i64 ((l1.length:Int)+(l2.length:Int))))) (fun _ _ i _ => 2 - (intOf i).toNat)
 case atStart => exact ⟨rfl,Or.inl ⟨rfl,rfl⟩⟩
 case round =>
  obtain ⟨rfl,hk⟩:=hrel
  rcases hk with ⟨rfl,rfl⟩ | ⟨rfl,rfl⟩ | ⟨rfl,rfl⟩
  ·go_wp2_with fail
   exact ⟨⟨trivial,Or.inr (Or.inl ⟨rfl,rfl⟩)⟩,by simp [intOf]⟩
  ·go_wp2_with fail
   exact ⟨⟨trivial,Or.inr (Or.inr ⟨rfl,rfl⟩)⟩,by simp [intOf]⟩
  ·go_wp2_with (first | (go_at_call 98;refine (GC.out _ (Grew.refl _)).mono ?_;rintro e w' ⟨sa,sc,rfl,hn⟩))
   clear x0 x1
   go_loopw [6,8,27] (fun v _ i wz => ((i=.int .i64 0∧Own w.heap.size wz v [])∨(i=.int .i64 1∧Own w.heap.size wz v l1)∨(i=.int .i64 2∧Own w.heap.size wz v (l1 ++ l2)))∧Grew w wz) (fun _ _ i _ => 2 - (intOf i).toNat)
   case atStart => exact ⟨Or.inl ⟨rfl,hn.out.1⟩,hn.out.2⟩
   case round =>
    clear hn GC
    obtain ⟨hk,hG⟩:=hrel
    have HG:=Lib.hid hG
    obtain ⟨x0,x1⟩:=blk_two (HB.out.grown hG)
    clear hG
    rcases hk with ⟨rfl,hO⟩ | ⟨rfl,hO⟩ | ⟨rfl,hO⟩
    ·have OWk:=Lib.hid hO
     have BD:Hid (Bd ([] ++ l1)):=Lib.hid B1.out
     obtain ⟨oa,oc,rfl⟩:=(hO.rl (by simp [Bd])).shape
     clear hO
     go_wp2_with (at_builtin;go_must (refine wpl_app _ rfl _ _ rfl w.heap.size _ _ [] l1 rfl OWk.out rfl (O1.out.grown HG.out) F1.out (by first | omega | (simp;omega)) HG.out.size ?_;intro v' w' af;have GG':=Lib.hid (af.grew w (Nat.le_refl _) HG.out);have OWN':=Lib.hid af.own;obtain ⟨sa',sc',rfl⟩:=(af.own.rl BD.out).shape;clear af))
     exact ⟨⟨Or.inr (Or.inl ⟨rfl,OWN'.out⟩),GG'.out⟩,by simp [intOf]⟩
    ·have OWk:=Lib.hid hO
     have BD:=B12
     obtain ⟨oa,oc,rfl⟩:=(hO.rl B1.out).shape
     clear hO
     go_wp2_with (at_builtin;go_must (refine wpl_app _ rfl _ _ rfl w.heap.size _ _ l1 l2 rfl OWk.out rfl (O2.out.grown HG.out) F2.out (by first | omega | (simp;omega)) HG.out.size ?_;intro v' w' af;have GG':=Lib.hid (af.grew w (Nat.le_refl _) HG.out);have OWN':=Lib.hid af.own;obtain ⟨sa',sc',rfl⟩:=(af.own.rl BD.out).shape;clear af))
     exact ⟨⟨Or.inr (Or.inr ⟨rfl,by (have h:=OWN'.out;rw [List.length_append] at h;exact h)⟩),GG'.out⟩,by simp [intOf]⟩
    ·have HO:=Lib.hid (hO.rl B12.out)
     obtain ⟨oa,oc,rfl⟩:=HO.out.shape
     clear hO
     go_wp2_with fail
     go_ret
     exact ⟨_,rfl,HO.out,HG.out⟩
theorem tidp_joi {a b:Rgn} {k:Int} {r:Rgn} (ha:VlR a) (hb:VlR b) (h:TidP (a ++ b) k r):JoiP a b k r:=by
 rcases h with ⟨hn,_⟩ | ⟨_,e,c,hc,ht⟩
 ·exact absurd ⟨by have:=ha.1;have:=hb.1;rw [List.length_append];omega,fun p hp => (List.mem_append.1 hp).elim (ha.2 p) (hb.2 p)⟩ hn
 ·exact Or.inr ⟨⟨ha,hb⟩,e,c,hc,ht⟩
theorem vl_full {L:Rgn} (h:AllV L):∀ p,p ∈ L→0 < p.length:=fun p hp => (h p hp).1.1
set_option maxRecDepth 100000 in
set_option maxHeartbeats 4000000 in
theorem rjoin_c (K:Hl.CodeN) (L M:Rgn) (v u:Value) (w:World) (hs:Rl w v L) (hs2:Rl w u M):Calls Tryz.prog 19 #[v,u] w (AnsR (JoiP L M) w):=by
 have VC:=Lib.hid (fun W (g:Grew w W) => rvalid_c K.toCode L v W (hs.grown g))
 have UC:=Lib.hid (fun W (g:Grew w W) => rvalid_c K.toCode M u W (hs2.grown g))
 by_cases hV:VlR L
 ·have VC:Hid (∀ W,Grew w W→Calls Tryz.prog 14 #[v] W fun e w' => e=.returned (.bool true)∧Grew W w'):=Lib.hid (fun W g => (VC.out W g).mono fun _ _ t => t.to hV)
  by_cases hM:VlR M
  ·have UC:Hid (∀ W,Grew w W→Calls Tryz.prog 14 #[u] W fun e w' => e=.returned (.bool true)∧Grew W w'):=Lib.hid (fun W g => (UC.out W g).mono fun _ _ t => t.to hM)
   have CC:Hid (∀ W b,Grew w W→Blk W b #[v,u] 22→Calls Tryz.prog 54 #[.slice (some ⟨b,0,none⟩) 2 2] W fun e w' => ∃ v,e=.returned v∧Rl w' v (L ++ M)∧Grew W w'):=Lib.hid (fun W b g hB => concat_r b v u L M W hB (hs.grown g) (hs2.grown g) (vl_full hV.2) (vl_full hM.2) (by have:=hV.1;omega) (by have:=hM.1;omega))
   have TC:Hid (∀ z W,Grew w W→Rl W z (L ++ M)→Calls Tryz.prog 16 #[z] W (AnsR (JoiP L M) w)):=Lib.hid (fun z W g hz => (rtidy_c K (L ++ M) z W hz).mono fun _ _ t => by
    obtain ⟨z,k,r,hp,he,hr,g'⟩:=t
    exact ⟨z,k,r,tidp_joi hV hM hp,he,hr,g.trans g'⟩)
   obtain ⟨a,c,rfl⟩:=hs.shape
   obtain ⟨a2,c2,rfl⟩:=hs2.shape
   clear hs hs2 hV hM K
   go_enter Tryz.func19,Tryz.ntmps19
   go_wp2_with fail
   refine (VC.out _ (Grew.refl _)).mono ?_
   rintro e w1 ⟨rfl,g1⟩
   go_wp2_with fail
   refine (UC.out _ g1).mono ?_
   rintro e w2 ⟨rfl,g2⟩
   have G2:Grew w w2:=g1.trans g2
   clear g1 g2
   go_wp2_with fail
   refine (CC.out _ _ (G2.alloc _ _) (Blk.new w2 _ _)).mono ?_
   rintro e w3 ⟨z,rfl,hz,g3⟩
   have G3:Grew w w3:=Grew.trans (G2.alloc _ _) g3
   obtain ⟨za,zc,rfl⟩:=hz.shape
   rw [List.length_append] at hz
   have HZ:=Lib.hid hz
   rw [List.length_append]
   clear hz g3 G2
   go_wp2_with fail
   refine (TC.out _ _ G3 HZ.out).mono ?_
   rintro e w4 ⟨y,k,r,hp,rfl,hr,g4⟩
   have HP:=Lib.hid hp
   have HR:=Lib.hid hr
   obtain ⟨ra,rc,rfl⟩:=hr.shape
   clear hp hr
   go_wp2_with fail
   go_ret2
   exact ⟨_,_,_,HP.out,rfl,HR.out,g4⟩
  ·have HM:=Lib.hid hM
   have UC:Hid (∀ W,Grew w W→Calls Tryz.prog 14 #[u] W fun e w' => e=.returned (.bool false)∧Grew W w'):=Lib.hid (fun W g => (UC.out W g).mono fun _ _ t => t.un hM)
   obtain ⟨a,c,rfl⟩:=hs.shape
   obtain ⟨a2,c2,rfl⟩:=hs2.shape
   clear hV hM hs hs2
   go_enter Tryz.func19,Tryz.ntmps19
   go_wp2_with fail
   refine (VC.out _ (Grew.refl _)).mono ?_
   rintro e w1 ⟨rfl,g1⟩
   go_wp2_with fail
   refine (UC.out _ g1).mono ?_
   rintro e w2 ⟨rfl,g2⟩
   go_wp2_with fail
   go_ret2
   exact ⟨_,_,_,Or.inl ⟨fun h => HM.out h.2,rfl,rfl⟩,rfl,rl_none _ _ _,g1.trans g2⟩
 ·have HV:=Lib.hid hV
  have VC:Hid (∀ W,Grew w W→Calls Tryz.prog 14 #[v] W fun e w' => e=.returned (.bool false)∧Grew W w'):=Lib.hid (fun W g => (VC.out W g).mono fun _ _ t => t.un hV)
  obtain ⟨a,c,rfl⟩:=hs.shape
  obtain ⟨a2,c2,rfl⟩:=hs2.shape
  clear hV hs hs2
  go_enter Tryz.func19,Tryz.ntmps19
  go_wp2_with fail
  refine (VC.out _ (Grew.refl _)).mono ?_
  rintro e w1 ⟨rfl,g1⟩
  go_wp2_with fail
  go_ret2
  exact ⟨_,_,_,Or.inl ⟨fun h => HV.out h.1,rfl,rfl⟩,rfl,rl_none _ _ _,g1⟩
end Rg
end Go.Proofs.YtlookcbokhknfaaGreat
