/-
  The landed package region: rectangles, bounds of a polygon.
  The landed package region: all bounds of a polygon; whether a piece lies within another one.
-/
import Derived.Test.YtbpgfenippiepaaGreatDoorRegAdd
import Derived.Test.YtbpgfenippiepaaGreatDoorHullWrap
import Derived.Test.YtbpgfenippiepaaGreatDoorHullBar
import Derived.Test.YtbpgfenippiepaaGreatDoorHullCf
namespace Go.Proofs.YtbpgfenippiepaaGreatDoor
open Go.RowKit Go.Shelf Hl
namespace Rg
theorem rmin (a b:Int) (ts:Array TypeId) (t:TypeId) (W:World):Sem.run Tryz.prog (Builtin.min_ ts t #[.int .i64 a,.int .i64 b]) W=.ok (.int .i64 (mnI a b)) W:=by
 unfold mnI
 by_cases h1:b < a
 ·simp [Builtin.min_,Builtin.min2,h1]
 ·simp [Builtin.min_,Builtin.min2,h1]
theorem rmax (a b:Int) (ts:Array TypeId) (t:TypeId) (W:World):Sem.run Tryz.prog (Builtin.max_ ts t #[.int .i64 a,.int .i64 b]) W=.ok (.int .i64 (mxI a b)) W:=by
 unfold mxI
 by_cases h1:a < b
 ·simp [Builtin.max_,Builtin.max2,h1]
 ·simp [Builtin.max_,Builtin.max2,h1]
theorem blk4 {W:World} {B:Nat} {a b c d:Value} {t:TypeId} (h:Blk W B #[a,b,c,d] t):W.cell? ⟨B,0,none⟩=some a∧W.cell? ⟨B,1,none⟩=some b∧W.cell? ⟨B,2,none⟩=some c∧W.cell? ⟨B,3,none⟩=some d:=by simp [World.cell?,show W.heap[B]? = _ from h]
theorem blk8 {W:World} {B:Nat} {a b c d e f g i:Value} {t:TypeId} (h:Blk W B #[a,b,c,d,e,f,g,i] t):(W.cell? ⟨B,0,none⟩=some a∧W.cell? ⟨B,1,none⟩=some b∧W.cell? ⟨B,2,none⟩=some c∧W.cell? ⟨B,3,none⟩=some d)∧W.cell? ⟨B,4,none⟩=some e∧W.cell? ⟨B,5,none⟩=some f∧W.cell? ⟨B,6,none⟩=some g∧W.cell? ⟨B,7,none⟩=some i:=by simp [World.cell?,show W.heap[B]? = _ from h]
theorem blk9 {W:World} {B:Nat} {a b c d e f g i j:Value} {t:TypeId} (h:Blk W B #[a,b,c,d,e,f,g,i,j] t):(W.cell? ⟨B,0,none⟩=some a∧W.cell? ⟨B,1,none⟩=some b∧W.cell? ⟨B,2,none⟩=some c∧W.cell? ⟨B,3,none⟩=some d)∧(W.cell? ⟨B,4,none⟩=some e∧W.cell? ⟨B,5,none⟩=some f∧W.cell? ⟨B,6,none⟩=some g∧W.cell? ⟨B,7,none⟩=some i)∧W.cell? ⟨B,8,none⟩=some j:=by simp [World.cell?,show W.heap[B]? = _ from h]
theorem blk_frozen {W:World} {B:Nat} {cs:Array Value} {t:TypeId} (h:Blk W B cs t) (o:Nat):W.frozen? ⟨B,o,none⟩=false:=by simp [World.frozen?,show W.heap[B]? = _ from h]
theorem no_of {q:Prop} (h:false=true↔q):¬ q:=fun k => by have:=h.2 k;cases this
def In4 (a0 a1 a2 a3 b0 b1 b2 b3:Int):Prop:=b0≤a0∧b1≤a1∧a2≤b2∧a3≤b3
theorem isIn_c (a0 a1 a2 a3 b0 b1 b2 b3:Int) (w:World):Calls Tryz.prog 185 #[.agg #[.int .i64 a0,.int .i64 a1,.int .i64 a2,.int .i64 a3],.agg #[.int .i64 b0,.int .i64 b1,.int .i64 b2,.int .i64 b3]] w (Tells (In4 a0 a1 a2 a3 b0 b1 b2 b3) w):=by
 by_cases c0:b0≤a0
 ·by_cases c1:b1≤a1
  ·by_cases c2:a2≤b2
   ·by_cases c3:a3≤b3
    ·go_enter Tryz.func185,Tryz.ntmps185
     go_wp2_with fail
     go_ret
     exact Tells.yes ⟨c0,c1,c2,c3⟩ (by first | rfl | simp [*]) gw
    ·go_enter Tryz.func185,Tryz.ntmps185
     go_wp2_with fail
     go_ret
     exact Tells.no (fun h => by unfold In4 at h;omega) (by first | rfl | simp [*]) gw
   ·go_enter Tryz.func185,Tryz.ntmps185
    go_wp2_with fail
    go_ret
    exact Tells.no (fun h => by unfold In4 at h;omega) (by first | rfl | simp [*]) gw
  ·go_enter Tryz.func185,Tryz.ntmps185
   go_wp2_with fail
   go_ret
   exact Tells.no (fun h => by unfold In4 at h;omega) (by first | rfl | simp [*]) gw
 ·go_enter Tryz.func185,Tryz.ntmps185
  go_wp2_with fail
  go_ret
  exact Tells.no (fun h => by unfold In4 at h;omega) (by first | rfl | simp [*]) gw
theorem areIn_c (a0 a1 a2 a3 a4 a5 a6 a7 b0 b1 b2 b3 b4 b5 b6 b7:Int) (w:World):Calls Tryz.prog 143 #[.agg #[.int .i64 a0,.int .i64 a1,.int .i64 a2,.int .i64 a3,.int .i64 a4,.int .i64 a5,.int .i64 a6,.int .i64 a7],.agg #[.int .i64 b0,.int .i64 b1,.int .i64 b2,.int .i64 b3,.int .i64 b4,.int .i64 b5,.int .i64 b6,.int .i64 b7]] w (Tells (In4 a0 a1 a2 a3 b0 b1 b2 b3∧In4 a4 a5 a6 a7 b4 b5 b6 b7) w):=by
 have C1:=Lib.hid (fun W => isIn_c a0 a1 a2 a3 b0 b1 b2 b3 W)
 have C2:=Lib.hid (fun W => isIn_c a4 a5 a6 a7 b4 b5 b6 b7 W)
 have KA:=Lib.hid ((Blk.new w #[.int .i64 a0,.int .i64 a1,.int .i64 a2,.int .i64 a3,.int .i64 a4,.int .i64 a5,.int .i64 a6,.int .i64 a7] 131).alloc (.cells #[.int .i64 b0,.int .i64 b1,.int .i64 b2,.int .i64 b3,.int .i64 b4,.int .i64 b5,.int .i64 b6,.int .i64 b7] 131))
 have KB:Hid (Blk ((w.alloc (.cells #[.int .i64 a0,.int .i64 a1,.int .i64 a2,.int .i64 a3,.int .i64 a4,.int .i64 a5,.int .i64 a6,.int .i64 a7] 131)).alloc (.cells #[.int .i64 b0,.int .i64 b1,.int .i64 b2,.int .i64 b3,.int .i64 b4,.int .i64 b5,.int .i64 b6,.int .i64 b7] 131)) (w.heap.size+1) #[.int .i64 b0,.int .i64 b1,.int .i64 b2,.int .i64 b3,.int .i64 b4,.int .i64 b5,.int .i64 b6,.int .i64 b7] 131):=Lib.hid (by
  have h:=Blk.new (w.alloc (.cells #[.int .i64 a0,.int .i64 a1,.int .i64 a2,.int .i64 a3,.int .i64 a4,.int .i64 a5,.int .i64 a6,.int .i64 a7] 131)) #[.int .i64 b0,.int .i64 b1,.int .i64 b2,.int .i64 b3,.int .i64 b4,.int .i64 b5,.int .i64 b6,.int .i64 b7] 131
  rwa [World.size_alloc] at h)
 go_enter Tryz.func143,Tryz.ntmps143
 go_wp2_with fail
 refine (C1.out _).mono ?_
 rintro e w1 ⟨r,rfl,hr,g1⟩
 have G1:Grew w w1:=Grew.trans (((Grew.refl w).alloc _ _).alloc _ _) g1
 obtain ⟨_,x4,x5,x6,x7⟩:=blk8 (KA.out.grown g1)
 obtain ⟨_,y4,y5,y6,y7⟩:=blk8 (KB.out.grown g1)
 clear g1 KA KB
 cases r
 ·have F:=Lib.hid (no_of hr)
  clear hr
  go_wp2_with fail
  go_ret
  exact Tells.no (fun h => F.out h.1) rfl G1
 ·have F:=Lib.hid (hr.1 rfl)
  clear hr
  go_wp2_with fail
  refine (C2.out _).mono ?_
  rintro e w2 ⟨r,rfl,hr,g2⟩
  have G2:Grew w w2:=Grew.trans G1 g2
  cases r
  ·have F2:=Lib.hid (no_of hr)
   clear hr
   go_wp2_with fail
   go_ret
   exact Tells.no (fun h => F2.out h.2) rfl G2
  ·have F2:=Lib.hid (hr.1 rfl)
   clear hr
   go_wp2_with fail
   go_ret
   exact Tells.yes ⟨F.out,F2.out⟩ rfl G2
theorem with_c (a0 a1 a2 a3 b0 b1 b2 b3:Int) (w:World):Calls Tryz.prog 53 #[.agg #[.int .i64 a0,.int .i64 a1,.int .i64 a2,.int .i64 a3],.agg #[.int .i64 b0,.int .i64 b1,.int .i64 b2,.int .i64 b3]] w fun e w' => e=.returned (.agg #[.int .i64 (mnI a0 b0),.int .i64 (mnI a1 b1),.int .i64 (mxI a2 b2),.int .i64 (mxI a3 b3)])∧Grew w w':=by
 have M0:=fun ts t W => rmin a0 b0 ts t W
 have M1:=fun ts t W => rmin a1 b1 ts t W
 have M2:=fun ts t W => rmax a2 b2 ts t W
 have M3:=fun ts t W => rmax a3 b3 ts t W
 generalize mnI a0 b0=m0 at M0 ⊢
 generalize mnI a1 b1=m1 at M1 ⊢
 generalize mxI a2 b2=m2 at M2 ⊢
 generalize mxI a3 b3=m3 at M3 ⊢
 go_enter Tryz.func53,Tryz.ntmps53
 go_wp2_with fail
 refine bodyPost_ret (v:=.agg #[.int .i64 m0,.int .i64 m1,.int .i64 m2,.int .i64 m3]) (by simp [results,Tryz.results53,go_sem, *]) rfl ⟨rfl,gw⟩
theorem slanted_c (x:Pt) (w:World) (h1:-4000000≤x.1∧x.1≤4000000) (h2:-4000000≤x.2∧x.2≤4000000):Calls Tryz.prog 141 #[.agg #[.int .i64 x.1,.int .i64 x.2]] w fun e w' => e=.returned (.agg #[.int .i64 (x.1+x.2),.int .i64 (x.1 - x.2),.int .i64 (x.1+x.2),.int .i64 (x.1 - x.2)])∧Grew w w':=by
 rcases x with ⟨a,b⟩
 simp only at h1 h2 ⊢
 have e1:IntKind.i64.wrap (a+b)=a+b:=IntWalk.i64_in _ ⟨by omega,by omega⟩
 have e2:IntKind.i64.wrap (a - b)=a - b:=IntWalk.i64_in _ ⟨by omega,by omega⟩
 go_enter Tryz.func141,Tryz.ntmps141
 go_wp2_with fail
 refine bodyPost_ret (v:=.agg #[.int .i64 (a+b),.int .i64 (a - b),.int .i64 (a+b),.int .i64 (a - b)]) (by simp [results,Tryz.results141,go_sem, *]) rfl ⟨rfl,gw⟩
def mn (u v:Int) (p:List Pt):Int:=bl (gL p u v) (p.length - 1)
def mx (u v:Int) (p:List Pt):Int:=bh (gL p u v) (p.length - 1)
theorem mn_is {p:List Pt} (h:1≤p.length) (u v:Int):IsMin p u v (mn u v p):=(bounds_min h).1
theorem mx_is {p:List Pt} (h:1≤p.length) (u v:Int):IsMin p (-u) (-v) (-(mx u v p)):=(bounds_min h).2
theorem box_mn {p:List Pt} (h:1≤p.length) {lo hi:Pt} (hb:IsBox p lo hi):lo.1=mn 1 0 p∧lo.2=mn 0 1 p∧hi.1=mx 1 0 p∧hi.2=mx 0 1 p:=by
 have e1:=hb.1.one (mn_is h 1 0)
 have e2:=hb.2.1.one (mx_is h 1 0)
 have e3:=hb.2.2.1.one (mn_is h 0 1)
 have e4:=hb.2.2.2.one (mx_is h 0 1)
 omega
theorem boxOf_c (K:Hl.Code) (p:List Pt) (v:Value) (w:World) (hs:Sl w v p) (hp:Vl p):Calls Tryz.prog 52 #[v] w fun e w' => e=.returned (.agg #[.int .i64 (mn 1 0 p),.int .i64 (mn 0 1 p),.int .i64 (mx 1 0 p),.int .i64 (mx 0 1 p)])∧Grew w w':=by
 have BC:Hid (∀ W,Grew w W→Calls Tryz.prog 88 #[v] W fun e w' => e=.returned (.tuple #[.agg #[.int .i64 (mn 1 0 p),.int .i64 (mn 0 1 p)],.agg #[.int .i64 (mx 1 0 p),.int .i64 (mx 0 1 p)],.int .i64 0])∧Grew W w'):=Lib.hid (fun W g => (K.box_ok p v W (hs.grown g) hp).mono (by
  rintro e w' ⟨lo,hi,hb,rfl,g⟩
  obtain ⟨e1,e2,e3,e4⟩:=box_mn hp.1.1 hb
  exact ⟨by rw [e1,e2,e3,e4],g⟩))
 have KR:=Blk.new w #[.int .i64 0,.int .i64 0,.int .i64 0,.int .i64 0] 83
 generalize mn 1 0 p=m0 at BC ⊢
 generalize mn 0 1 p=m1 at BC ⊢
 generalize mx 1 0 p=m2 at BC ⊢
 generalize mx 0 1 p=m3 at BC ⊢
 clear hs hp K
 go_enter Tryz.func52,Tryz.ntmps52
 go_wp2_with fail
 refine (BC.out _ ((Grew.refl _).alloc _ _)).mono ?_
 rintro e w1 ⟨rfl,g1⟩
 have G1:Grew w w1:=Grew.trans ((Grew.refl w).alloc _ _) g1
 have K1:=KR.grown g1
 obtain ⟨k0,k1,k2,k3⟩:=blk4 K1
 have f0:=blk_frozen K1 0
 have f1:=blk_frozen K1 1
 have f2:=blk_frozen K1 2
 have f3:=blk_frozen K1 3
 have l0:=K1.lt
 clear g1 KR K1
 go_wp2_with fail
 refine bodyPost_ret (v:=.agg #[.int .i64 m0,.int .i64 m1,.int .i64 m2,.int .i64 m3]) (by simp [results,Tryz.results52,go_sem, *]) rfl ⟨rfl,gw⟩
end Rg
end Go.Proofs.YtbpgfenippiepaaGreatDoor
namespace Go.Proofs.YtbpgfenippiepaaGreatDoor
open Go.RowKit Go.Shelf Hl
namespace Rg
theorem mnI_self (x:Int):mnI x x=x:=by unfold mnI;simp
theorem mxI_self (x:Int):mxI x x=x:=by unfold mxI;simp
theorem bl_next (g:Nat→Int) (k:Nat):bl g k=mnI (bl g (k - 1)) (g k):=by
 match k with
 | 0 => exact (mnI_self _).symm
 | k+1 => rfl
theorem bh_next (g:Nat→Int) (k:Nat):bh g k=mxI (bh g (k - 1)) (g k):=by
 match k with
 | 0 => exact (mxI_self _).symm
 | k+1 => rfl
theorem gL_sum (p:List Pt) (k:Nat):gL p 1 1 k=(at' p k).1+(at' p k).2:=by unfold gL;omega
theorem gL_dif (p:List Pt) (k:Nat):gL p 1 (-1) k=(at' p k).1 - (at' p k).2:=by unfold gL;omega
def E8 (w:World) (B:Nat) (a b c d e f g i:Int):Prop:=((w.cell? ⟨B,0,none⟩=some (.int .i64 a)∧w.cell? ⟨B,1,none⟩=some (.int .i64 b)∧w.cell? ⟨B,2,none⟩=some (.int .i64 c)∧w.cell? ⟨B,3,none⟩=some (.int .i64 d))∧w.cell? ⟨B,4,none⟩=some (.int .i64 e)∧w.cell? ⟨B,5,none⟩=some (.int .i64 f)∧w.cell? ⟨B,6,none⟩=some (.int .i64 g)∧w.cell? ⟨B,7,none⟩=some (.int .i64 i))∧((w.frozen? ⟨B,0,none⟩=false∧w.frozen? ⟨B,1,none⟩=false∧w.frozen? ⟨B,2,none⟩=false∧w.frozen? ⟨B,3,none⟩=false)∧w.frozen? ⟨B,4,none⟩=false∧w.frozen? ⟨B,5,none⟩=false∧w.frozen? ⟨B,6,none⟩=false∧w.frozen? ⟨B,7,none⟩=false)∧B < w.heap.size
theorem E8.grown {w w':World} {B:Nat} {a b c d e f g i:Int} (h:E8 w B a b c d e f g i) (k:Grew w w'):E8 w' B a b c d e f g i:=by
 obtain ⟨c1,f1,z1⟩:=laid k
 obtain ⟨h1,h2,h3⟩:=h
 unfold E8
 rw [c1 _ _ h3,c1 _ _ h3,c1 _ _ h3,c1 _ _ h3,c1 _ _ h3,c1 _ _ h3,c1 _ _ h3,c1 _ _ h3,f1 _ _ h3,f1 _ _ h3,f1 _ _ h3,f1 _ _ h3,f1 _ _ h3,f1 _ _ h3,f1 _ _ h3,f1 _ _ h3]
 exact ⟨h1,h2,Nat.lt_of_lt_of_le h3 z1⟩
set_option maxRecDepth 100000 in
set_option maxHeartbeats 8000000 in
theorem boundsOf_c (K:Hl.Code) (p:List Pt) (v:Value) (w:World) (hs:Sl w v p) (hp:Vl p):Calls Tryz.prog 105 #[v] w fun e w' => e=.returned (.agg #[.int .i64 (mn 1 0 p),.int .i64 (mn 0 1 p),.int .i64 (mx 1 0 p),.int .i64 (mx 0 1 p),.int .i64 (mn 1 1 p),.int .i64 (mn 1 (-1) p),.int .i64 (mx 1 1 p),.int .i64 (mx 1 (-1) p)])∧Grew w w':=by
 have n0:1≤p.length:=hp.1.1
 have L64:p.length≤64:=hp.1.2
 have PL:=Lib.hid hp.2.1
 have BC:=Lib.hid (fun W (g:Grew w W) => boxOf_c K p v W (hs.grown g) hp)
 obtain ⟨b,o,c,rfl,hr⟩:=hs.row (fun e => by rw [e] at n0;cases n0)
 have HR:=Lib.hid hr
 have SP:Hid (∀ k W,Calls Tryz.prog 141 #[.agg #[.int .i64 (at' p k).1,.int .i64 (at' p k).2]] W fun e w' => e=.returned (.agg #[.int .i64 (gL p 1 1 k),.int .i64 (gL p 1 (-1) k),.int .i64 (gL p 1 1 k),.int .i64 (gL p 1 (-1) k)])∧Grew W w'):=Lib.hid (fun k W => by
  have h:=at_plc PL.out k
  unfold Plc at h
  rw [gL_sum,gL_dif]
  exact slanted_c (at' p k) W (by omega) (by omega))
 obtain ⟨s0,s1⟩:=hr.2 0 (by omega)
 rw [Nat.zero_mul,Nat.add_zero] at s0 s1
 have S0:=Lib.hid (SP.out 0)
 have hb:=hr.1
 have p0:(0:Int) < (p.length:Int):=by omega
 have p1:0 < p.length:=by omega
 have l1:b < w.heap.size+1:=by omega
 have e4:mn 1 1 p=bl (gL p 1 1) (p.length - 1):=rfl
 have e5:mn 1 (-1) p=bl (gL p 1 (-1)) (p.length - 1):=rfl
 have e6:mx 1 1 p=bh (gL p 1 1) (p.length - 1):=rfl
 have e7:mx 1 (-1) p=bh (gL p 1 (-1)) (p.length - 1):=rfl
 rw [e4,e5,e6,e7]
 clear e4 e5 e6 e7
 generalize mn 1 0 p=m0 at BC ⊢
 generalize mn 0 1 p=m1 at BC ⊢
 generalize mx 1 0 p=m2 at BC ⊢
 generalize mx 0 1 p=m3 at BC ⊢
 obtain ⟨q0,hq0⟩:∃ q0,gL p 1 1 0=q0:=⟨_,rfl⟩
 obtain ⟨q1,hq1⟩:∃ q1,gL p 1 (-1) 0=q1:=⟨_,rfl⟩
 rw [hq0,hq1] at S0
 have Q0:=Lib.hid hq0
 have Q1:=Lib.hid hq1
 clear hr hs hp K hq0 hq1 n0
 go_enter Tryz.func105,Tryz.ntmps105
 go_upto_region 1 with fail
 go_cut [3] from 6 to 12 (fun s3 wx => ∃ B,w.heap.size < B∧s3=.pointer (some ⟨B,0,none⟩)∧E8 wx B m0 m1 m2 m3 q0 q1 q0 q1∧Grew (w.alloc (.cells #[.int .i64 0,.int .i64 0,.int .i64 0,.int .i64 0,.int .i64 0,.int .i64 0,.int .i64 0,.int .i64 0] 131)) wx)
 case first =>
  go_region_held3 (fun w' => w'.cell? ⟨b,o,none⟩=some (.int .i64 (at' p 0).1)∧w'.cell? ⟨b,o+1,none⟩=some (.int .i64 (at' p 0).2)) (simp [go_sem, *])
   (first | (go_at_call 52;refine (BC.out _ gw).mono ?_;rintro e w1 ⟨rfl,g1⟩;have ga1:Grew (w.alloc (.cells #[.int .i64 0,.int .i64 0,.int .i64 0,.int .i64 0,.int .i64 0,.int .i64 0,.int .i64 0,.int .i64 0] 131)) w1:=Grew.trans gw g1;obtain ⟨c1,f1,z1⟩:=laid g1;(try simp at z1);have e1:b < w1.heap.size:=(by omega);have e2:b < w1.heap.size+1:=(by omega);have e3:w.heap.size < w1.heap.size:=(by omega);have n1:¬ b=w1.heap.size:=(by omega);(try have e4:w.heap.size+1 < w1.heap.size:=(by omega));(try have e5:¬ b=w.heap.size+1:=(by omega))) | (go_at_call 141;refine (S0.out _).mono ?_;rintro e w2 ⟨rfl,g2⟩;have ga2:Grew (w.alloc (.cells #[.int .i64 0,.int .i64 0,.int .i64 0,.int .i64 0,.int .i64 0,.int .i64 0,.int .i64 0,.int .i64 0] 131)) w2:=Grew.trans gw g2;obtain ⟨c2,f2,z2⟩:=laid g2;(try simp at z2);have d1:b < w2.heap.size:=(by omega);have d2:b < w2.heap.size+1:=(by omega);have d3:w.heap.size < w2.heap.size:=(by omega);have d4:w1.heap.size≤w2.heap.size:=(by omega);have n2:¬ b=w2.heap.size:=(by omega);(try have d5:w1.heap.size < w2.heap.size:=(by omega));(try have d6:w.heap.size+1 < w2.heap.size:=(by omega))))
  all_goals (go_wp2_with fail;go_meet)
  all_goals exact ⟨_,by first | omega | (simp;omega),rfl,by unfold E8;simp [go_sem, *],gw⟩
 case rest =>
  obtain ⟨B,hB,rfl,hT,hG⟩:=hcut
  clear S0 s0 s1 l1 hb
  go_wp2_with fail
  go_loopw [15] (fun i wr => ∃ k:Nat,k≤p.length∧i=.int .i64 k∧E8 wr B m0 m1 m2 m3 (bl (gL p 1 1) (k - 1)) (bl (gL p 1 (-1)) (k - 1)) (bh (gL p 1 1) (k - 1)) (bh (gL p 1 (-1)) (k - 1))∧Grew (w.alloc (.cells #[.int .i64 0,.int .i64 0,.int .i64 0,.int .i64 0,.int .i64 0,.int .i64 0,.int .i64 0,.int .i64 0] 131)) wr) (fun i _ => p.length - (intOf i).toNat)
  case atStart => exact ⟨0,Nat.zero_le _,rfl,by rw [← Q0.out,← Q1.out] at hT;exact hT,hG⟩
  case round =>
   clear hT hG
   obtain ⟨k,hk,rfl,hT,hG⟩:=hrel
   by_cases hlt:k < p.length
   ·obtain ⟨x0,x1⟩:=(HR.out.grown (((Grew.refl w).alloc _ _).trans hG)).2 k hlt
    have i1:(k:Int) < (p.length:Int):=by omega
    have SC:=Lib.hid (SP.out k)
    have hz:=hG.size
    rw [World.size_alloc] at hz
    have E0:=Lib.hid (bl_next (gL p 1 1) k)
    have E1:=Lib.hid (bl_next (gL p 1 (-1)) k)
    have E2:=Lib.hid (bh_next (gL p 1 1) k)
    have E3:=Lib.hid (bh_next (gL p 1 (-1)) k)
    generalize bl (gL p 1 1) (k - 1)=s0 at hT E0
    generalize bl (gL p 1 (-1)) (k - 1)=s1 at hT E1
    generalize bh (gL p 1 1) (k - 1)=s2 at hT E2
    generalize bh (gL p 1 (-1)) (k - 1)=s3 at hT E3
    generalize gL p 1 1 k=v0 at SC E0 E2
    generalize gL p 1 (-1) k=v1 at SC E1 E3
    have WC:=Lib.hid (fun W => with_c s0 s1 s2 s3 v0 v1 v0 v1 W)
    generalize mnI s0 v0=r0 at WC E0
    generalize mnI s1 v1=r1 at WC E1
    generalize mxI s2 v0=r2 at WC E2
    generalize mxI s3 v1=r3 at WC E3
    have lB:=hT.2.2
    have HT:=Lib.hid (hT.grown ((Grew.refl wr).alloc #[.int .i64 (at' p k).1,.int .i64 (at' p k).2] 24).drew)
    have KC:=Lib.hid (Blk.new wr #[.int .i64 (at' p k).1,.int .i64 (at' p k).2] 24)
    obtain ⟨⟨_,b4,b5,b6,b7⟩,⟨_,f4,f5,f6,f7⟩,_⟩:=hT
    have lB1:B < wr.heap.size+1:=by omega
    have nb:¬ B=wr.heap.size:=by omega
    have nb':¬ wr.heap.size=B:=by omega
    go_wp2_with fail
    refine Bar.begin_ (S:=(fun w' => (w'.cell? ⟨B,4,none⟩=some (.int .i64 (s0))∧w'.cell? ⟨B,5,none⟩=some (.int .i64 (s1))∧w'.cell? ⟨B,6,none⟩=some (.int .i64 (s2))∧w'.cell? ⟨B,7,none⟩=some (.int .i64 (s3)))∧w'.cell? ⟨wr.heap.size,0,none⟩=some (.int .i64 ((at' p k).1))∧w'.cell? ⟨wr.heap.size,1,none⟩=some (.int .i64 ((at' p k).2)))) 6 (by kernel_rfl) (by simp [go_sem, *]) (fun hHeld => ?_)
    refine Bar.Walk.takeY (i:=0) (oi:=⟨some 19,_,_,_,_,_⟩) (v:=?_) rfl (by kernel_rfl) (by kernel_rfl) (by kernel_rfl) rfl (fun _ _ _ h => h) (Or.inl ⟨by rfl,?_⟩) (by assumption) ?_
    rotate_left
    ·intro w;go_simp;(try with_reducible rfl)
    try simp only [Act.put,List.setIfInBounds_toArray,List.set_cons_zero,List.set_cons_succ]
    refine Bar.Walk.take [6] (i:=1) (oi:=⟨some 20,_,_,_,_,_⟩) (v:=?_) rfl (by kernel_rfl) (by kernel_rfl) (by kernel_rfl) (by kernel_rfl) (fun _ _ _ h => h) (Or.inl ⟨by rfl,?_⟩) (by assumption) ?_
    rotate_left
    ·intro w hSw;(try dsimp only at hSw);go_simp;(try with_reducible rfl)
    try simp only [Act.put,List.setIfInBounds_toArray,List.set_cons_zero,List.set_cons_succ]
    refine Bar.Walk.take [6] (i:=2) (oi:=⟨some 21,_,_,_,_,_⟩) (v:=?_) rfl (by kernel_rfl) (by kernel_rfl) (by kernel_rfl) (by kernel_rfl) (fun _ _ _ h => h) (Or.inl ⟨by rfl,?_⟩) (by assumption) ?_
    rotate_left
    ·intro w hSw;(try dsimp only at hSw);go_simp;(try with_reducible rfl)
    try simp only [Act.put,List.setIfInBounds_toArray,List.set_cons_zero,List.set_cons_succ]
    refine Bar.Walk.step (i:=3) (o:=⟨some 22,_,_,_,_,_⟩) (by kernel_rfl) rfl (fun K hK => ?_)
    go_simp
    refine (SC.out _).mono ?_
    rintro e w1 ⟨rfl,g1⟩
    have T1:=HT.out.grown g1
    have T0:=Lib.hid T1
    have C1:=KC.out.drew.grown g1
    obtain ⟨⟨_,t4,t5,t6,t7⟩,⟨_,t8,t9,t10,t11⟩,_⟩:=T1
    obtain ⟨⟨y0,y1⟩,_,_⟩:=C1.two
    have Z1:=g1.size
    rw [World.size_drew,World.size_alloc] at Z1
    go_wp2_with fail
    refine hK.out _ _ (by (try dsimp only);simp [go_sem, *]) (fun h1 => ?_)
    clear hK K hHeld
    have hHeld:=h1
    clear h1
    try simp only [Act.put,List.setIfInBounds_toArray,List.set_cons_zero,List.set_cons_succ]
    refine Bar.Walk.step (i:=4) (o:=⟨some 23,_,_,_,_,_⟩) (by kernel_rfl) rfl (fun K hK => ?_)
    go_simp
    refine (WC.out _).mono ?_
    rintro e w2 ⟨rfl,g2⟩
    have T2:=T0.out.grown g2
    have C2:=C1.grown g2
    obtain ⟨⟨⟨u0,u1,u2,u3⟩,u4,u5,u6,u7⟩,⟨⟨f0,f1,f2,f3⟩,f4,f5,f6,f7⟩,lb2⟩:=T2
    obtain ⟨⟨z0,z1⟩,_,_⟩:=C2.two
    have Z2:=g2.size
    go_wp2_with fail
    refine hK.out _ _ (by (try dsimp only);simp [go_sem, *]) (fun h1 => ?_)
    clear hK K hHeld
    have hHeld:=h1
    clear h1
    try simp only [Act.put,List.setIfInBounds_toArray,List.set_cons_zero,List.set_cons_succ]
    refine Bar.Walk.step (i:=5) (o:=⟨some 24,_,_,_,_,_⟩) (by kernel_rfl) rfl (fun K hK => ?_)
    go_simp
    refine hK.out _ _ (by (try dsimp only);simp [go_sem, *]) (fun h1 => ?_)
    clear hK K hHeld
    have hHeld:=h1
    clear h1
    try simp only [Act.put,List.setIfInBounds_toArray,List.set_cons_zero,List.set_cons_succ]
    refine Bar.Walk.pass (o:=⟨none,_,_,_,_,_⟩) (by kernel_rfl) rfl (by kernel_rfl) (fun K hK => ?_)
    go_simp
    refine hK.out _ _ ?_
    clear hK K hHeld
    try simp only [Act.put,List.setIfInBounds_toArray,List.set_cons_zero,List.set_cons_succ]
    refine wpAny_done (by kernel_rfl) ?_ _
    go_wp2_with fail
    go_roundw
    case rel => exact ⟨k+1,by omega,by go_num,by rw [Nat.add_sub_cancel,E0.out,E1.out,E2.out,E3.out];(unfold E8;simp [go_sem, *]),by
     have G9:Grew (w.alloc (.cells #[.int .i64 0,.int .i64 0,.int .i64 0,.int .i64 0,.int .i64 0,.int .i64 0,.int .i64 0,.int .i64 0] 131)) w2:=Grew.trans (Grew.trans (hG.alloc _ _).drew g1) g2
     exact (((G9.setCell (by simp;omega) _).setCell (by simp;omega) _).setCell (by simp;omega) _).setCell (by simp;omega) _⟩
    case measure => simp [intOf];omega
   ·obtain rfl:k=p.length:=by omega
    obtain ⟨⟨⟨b0,b1,b2,b3⟩,b4,b5,b6,b7⟩,_,lB⟩:=hT
    have T0:=(Blk.new w #[.int .i64 0,.int .i64 0,.int .i64 0,.int .i64 0,.int .i64 0,.int .i64 0,.int .i64 0,.int .i64 0] 131).grown hG
    have lT:=T0.lt
    have fz:=fun o => blk_frozen T0 o
    have f0:=fz 0
    have f1:=fz 1
    have f2:=fz 2
    have f3:=fz 3
    have f4:=fz 4
    have f5:=fz 5
    have f6:=fz 6
    have f7:=fz 7
    obtain ⟨⟨c0,c1,c2,c3⟩,c4,c5,c6,c7⟩:=blk8 T0
    have G0:Grew w wr:=((Grew.refl w).alloc _ _).trans hG
    clear T0 fz hG
    go_wp2_with fail
    refine bodyPost_ret (v:=.agg #[.int .i64 m0,.int .i64 m1,.int .i64 m2,.int .i64 m3,.int .i64 (bl (gL p 1 1) (p.length - 1)),.int .i64 (bl (gL p 1 (-1)) (p.length - 1)),.int .i64 (bh (gL p 1 1) (p.length - 1)),.int .i64 (bh (gL p 1 (-1)) (p.length - 1))]) (by simp [results,Tryz.results105,go_sem, *]) rfl ⟨rfl,gw⟩
end Rg
end Go.Proofs.YtbpgfenippiepaaGreatDoor
