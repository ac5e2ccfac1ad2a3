/-
  The reference implementation of layer 9: the rays, the sides of a vector, and what lies between two rays.
  The reference implementation of layer 9: Lies, Ray, Between, Of; the places of a sector, Sector.
-/
import Derived.Test.YtbpgfenippiepaaGreatDoorMHullCu
import Derived.Test.YtbpgfenippiepaaGreatDoorMHullIn
import Derived.Test.YtbpgfenippiepaaGreatDoorMHullInB
import Derived.Test.YtbpgfenippiepaaGreatDoorMRayLnD
import Derived.Test.YtbpgfenippiepaaGreatDoorMHullAro
namespace Go.Proofs.YtbpgfenippiepaaGreatDoor
open Go.RowKit Hl
namespace Ry
set_option maxRecDepth 100000
def qF:List Pt:=[(1000,0),(995,98),(981,195),(957,290),(924,383),(882,471),(831,556),(773,634),(707,707),(634,773),(556,831),(471,882),(383,924),(290,957),(195,981),(98,995)]
theorem qF_at:∀ j,j < 16→at' qF j=q0 j:=by decide
theorem tn_four (m:Nat) (z:Pt):tn (m+4) z=tn m z:=lf4 _
theorem tn_mod {d:Nat} (h:d < 8) (z:Pt):tn d z=tn (d % 4) z:=by
 by_cases e:d < 4
 ·rw [Nat.mod_eq_of_lt e]
 ·obtain ⟨m,rfl⟩:∃ m,d=m+4:=⟨d - 4,by omega⟩
  rw [tn_four,Nat.add_mod_right,Nat.mod_eq_of_lt (by omega)]
theorem first_r (w:World):Calls Tryz.prog 82 #[] w fun e w' => ∃ g,e=.returned (.slice (some ⟨g,0,none⟩) 16 16)∧Row w' g 0 qF∧Grew w w':=by
 go_enter Tryz.func82,Tryz.ntmps82
 go_wp2_with fail
 go_ret
 exact ⟨_,rfl,row_new qF _ rfl w _,(Grew.refl w).alloc _ _⟩
def Nr (v:Pt):Prop:=(-1000000≤v.1∧v.1≤1000000)∧(-1000000≤v.2∧v.2≤1000000)
theorem turned_r (v:Pt) (w:World) (h:Nr v):Calls Tryz.prog 83 #[.agg #[.int .i64 v.1,.int .i64 v.2]] w fun e w' => e=.returned (.agg #[.int .i64 (lf v).1,.int .i64 (lf v).2])∧Grew w w':=by
 obtain ⟨x,y⟩:=v
 obtain ⟨⟨x0,x1⟩,y0,y1⟩:=h
 simp only at x0 x1 y0 y1 ⊢
 go_enter Tryz.func83,Tryz.ntmps83
 go_wp2_with fail
 exact bodyPost_ret (v:=.agg #[.int .i64 (-y),.int .i64 x]) (by simp [results,Tryz.results83,go_sem]) rfl ⟨rfl,gw⟩
set_option maxHeartbeats 1000000 in
theorem at_r (k:Nat) (w:World) (hk:k < 128):Calls Tryz.prog 45 #[.int .i64 k] w fun e w' => e=.returned (.agg #[.int .i64 (dir k).1,.int .i64 (dir k).2])∧Grew w w':=by
 obtain ⟨d,hd⟩:∃ d,k / 16=d:=⟨_,rfl⟩
 obtain ⟨m,hm⟩:∃ m,d % 4=m:=⟨_,rfl⟩
 obtain ⟨j,hj⟩:∃ j,k % 16=j:=⟨_,rfl⟩
 have ed:dir k=tn m (q0 j):=by unfold dir;rw [hd,hj,tn_mod (by omega),hm]
 rw [ed]
 have j16:j < 16:=by omega
 have m4:m < 4:=by omega
 have d8:d < 8:=by omega
 obtain ⟨z,hz⟩:∃ z,q0 j=z:=⟨_,rfl⟩
 have BD:Hid (∀ t,(-1000≤(tn t z).1∧(tn t z).1≤1000)∧(-1000≤(tn t z).2∧(tn t z).2≤1000)):=Lib.hid (fun t => tn_bdQ t (by rw [← hz];exact q0_bdQ j (by omega)))
 have QC:Hid (∀ W g,Row W g 0 qF→(W.cell? ⟨g,j * 2,none⟩=some (.int .i64 z.1)∧W.cell? ⟨g,j * 2+1,none⟩=some (.int .i64 z.2))∧g < W.heap.size):=Lib.hid (fun W g hr => by
  have h:=hr.2 j j16
  rw [Nat.zero_add,qF_at j j16,hz] at h
  exact ⟨h,hr.1⟩)
 rw [hz]
 have T1:(k:Int).tmod 16=(j:Int):=by rw [Int.tmod_eq_emod_of_nonneg (by omega)];omega
 have T2:(k:Int) % 16=(j:Int):=by omega
 have T3:(k:Int).tdiv 16=(d:Int):=by rw [Int.tdiv_eq_ediv_of_nonneg (by omega)];omega
 have T4:(k:Int) / 16=(d:Int):=by omega
 have T5:(d:Int).tmod 4=(m:Int):=by rw [Int.tmod_eq_emod_of_nonneg (by omega)];omega
 have T6:(d:Int) % 4=(m:Int):=by omega
 have i0:(0:Int)≤(j:Int):=by omega
 have i1:(j:Int) < 16:=by omega
 have k0:(0:Int)≤(k:Int):=by omega
 have k1:(k:Int) < 128:=by omega
 have d0:(0:Int)≤(d:Int):=by omega
 have d1:(d:Int) < 8:=by omega
 have TR:=Lib.hid (fun t W => turned_r (tn t z) W (by have:=BD.out t;unfold Nr;omega))
 clear ed hm hj hz hd
 go_enter Tryz.func45,Tryz.ntmps45
 go_wp2_with fail
 refine (first_r _).mono ?_
 rintro e w1 ⟨g,rfl,hr,g1⟩
 obtain ⟨⟨c0,c1⟩,hg⟩:=QC.out w1 g hr
 have kA:=(Blk.new w #[.int .i64 0,.int .i64 0] 24).grown g1
 have G1:Grew w w1:=Grew.trans ((Grew.refl w).alloc _ _) g1
 have sz:=g1.size
 rw [World.size_alloc] at sz
 clear hr g1 QC
 go_wp2_with fail
 have kB:=Blk.new w1 #[.int .i64 z.1,.int .i64 z.2] 24
 have kA:=kA.alloc (.cells #[.int .i64 z.1,.int .i64 z.2] 24)
 have G2:Grew w (w1.alloc (.cells #[.int .i64 z.1,.int .i64 z.2] 24)):=G1.alloc _ _
 clear c0 c1 hg
 go_loopw [4] (fun i wr => ∃ t:Nat,t≤m∧i=.int .i64 t∧Hid (Blk wr w.heap.size #[.int .i64 0,.int .i64 0] 24∧Blk wr w1.heap.size #[.int .i64 (tn t z).1,.int .i64 (tn t z).2] 24∧Grew w wr)) (fun i _ => m - (intOf i).toNat)
 case atStart => exact ⟨0,Nat.zero_le _,rfl,Lib.hid ⟨kA,kB,G2⟩⟩
 case round =>
  clear kA kB G2 G1
  obtain ⟨t,ht,rfl,HH⟩:=hrel
  obtain ⟨⟨b0,b1⟩,b2,b3⟩:=HH.out.2.1.two
  have lB:=HH.out.2.1.lt
  have t0:(0:Int)≤(t:Int):=by omega
  by_cases hlt:t < m
  ·have TT:=Lib.hid (TR.out t)
   have EN:Hid (lf (tn t z)=tn (t+1) z):=Lib.hid rfl
   generalize tn t z=x at b0 b1 TT EN HH
   have lt:(t:Int) < (m:Int):=by omega
   go_wp2_with fail
   refine (TT.out _).mono ?_
   rintro e w2 ⟨rfl,g2⟩
   have HH2:Hid (Blk w2 w.heap.size #[.int .i64 0,.int .i64 0] 24∧Blk w2 w1.heap.size #[.int .i64 x.1,.int .i64 x.2] 24∧Grew w w2):=Lib.hid ⟨HH.out.1.grown g2,HH.out.2.1.grown g2,HH.out.2.2.trans g2⟩
   clear HH b0 b1 b2 b3 lB
   obtain ⟨⟨b0,b1⟩,b2,b3⟩:=HH2.out.2.1.two
   have lB:=HH2.out.2.1.lt
   clear g2
   go_wp2_with fail
   go_roundw
   case rel =>
    refine ⟨t+1,by omega,by go_num,Lib.hid ⟨?_,?_,?_⟩⟩
    ·exact (HH2.out.1.other (by omega) _).other (by omega) _
    ·rw [← EN.out]
     exact HH2.out.2.1.put2
    ·have G:=HH2.out.2.2
     exact gw
   case measure => simp [intOf];omega
  ·obtain rfl:t=m:=by omega
   obtain ⟨⟨a0,a1⟩,a2,a3⟩:=HH.out.1.two
   have lA:=HH.out.1.lt
   go_wp2_with fail
   have G:=HH.out.2.2
   exact bodyPost_ret (v:=.agg #[.int .i64 (tn t z).1,.int .i64 (tn t z).2]) (by simp [results,Tryz.results45,go_sem, *]) rfl ⟨rfl,gw⟩
theorem mul_in2 {p y:Int} (hp:-1000000≤p∧p≤1000000) (hy:-1000000≤y∧y≤1000000):-1000000000000≤p * y∧p * y≤1000000000000:=by
 have a2:=Int.mul_nonneg (show 0≤p+1000000 by omega) (show 0≤y+1000000 by omega)
 have a3:=Int.mul_nonneg (show 0≤1000000 - p by omega) (show 0≤1000000 - y by omega)
 have a4:=Int.mul_nonneg (show 0≤p+1000000 by omega) (show 0≤1000000 - y by omega)
 have a5:=Int.mul_nonneg (show 0≤1000000 - p by omega) (show 0≤y+1000000 by omega)
 have e2:(p+1000000) * (y+1000000)=p * y+1000000 * p+1000000 * y+1000000000000:=by grind
 have e3:(1000000 - p) * (1000000 - y)=1000000000000 - 1000000 * y - 1000000 * p+p * y:=by grind
 have e4:(p+1000000) * (1000000 - y)=1000000 * p+1000000000000 - p * y - 1000000 * y:=by grind
 have e5:(1000000 - p) * (y+1000000)=1000000 * y+1000000000000 - p * y - 1000000 * p:=by grind
 omega
theorem cross_9 (u v:Pt) (w:World) (hu:Nr u) (hv:Nr v):Calls Tryz.prog 92 #[.agg #[.int .i64 u.1,.int .i64 u.2],.agg #[.int .i64 v.1,.int .i64 v.2]] w fun e w' => e=.returned (.int .i64 (xc u v))∧Grew w w':=by
 have XC:Hid (u.1 * v.2 - u.2 * v.1=xc u v):=Lib.hid rfl
 obtain ⟨m0,m1⟩:=mul_in2 hu.1 hv.2
 obtain ⟨n0,n1⟩:=mul_in2 hu.2 hv.1
 obtain ⟨p,q⟩:=u
 obtain ⟨x,y⟩:=v
 simp only at m0 m1 n0 n1 XC ⊢
 clear hu hv
 go_enter Tryz.func92,Tryz.ntmps92
 go_wp2_with fail
 go_ret
 exact ⟨by first | (rw [XC.out];done) | (simp [XC.out];done),gw⟩
theorem nr_dir (k:Nat):Nr (dir k):=by
 have:=dir_bd k
 unfold Nr
 omega
set_option maxHeartbeats 1000000 in
theorem on_r (k:Nat) (v:Pt) (w:World) (hk:k < 112) (hv:Nr v):Calls Tryz.prog 91 #[.int .i64 k,.agg #[.int .i64 v.1,.int .i64 v.2]] w fun e w' => e=.returned (.bool (decide (On k v)))∧Grew w w':=by
 have ONE:Hid (On k v↔(xc (dir k) v=0∧0 < dd (dir k) v)):=Lib.hid (by
  unfold On
  rw [sd_turned]
  constructor
  ·rintro ⟨h1,h2⟩;exact ⟨h1,by omega⟩
  ·rintro ⟨h1,h2⟩;exact ⟨h1,by omega⟩)
 have AC:Hid (∀ W,Calls Tryz.prog 45 #[.int .i64 k] W fun e w' => e=.returned (.agg #[.int .i64 (dir k).1,.int .i64 (dir k).2])∧Grew W w'):=Lib.hid (fun W => at_r k W (by omega))
 have CC:Hid (∀ W,Calls Tryz.prog 92 #[.agg #[.int .i64 (dir k).1,.int .i64 (dir k).2],.agg #[.int .i64 v.1,.int .i64 v.2]] W fun e w' => e=.returned (.int .i64 (xc (dir k) v))∧Grew W w'):=Lib.hid (fun W => cross_9 _ _ W (nr_dir k) hv)
 have kV:=Lib.hid (Blk.new w #[.int .i64 v.1,.int .i64 v.2] 24)
 have G0:Grew w (w.alloc (.cells #[.int .i64 v.1,.int .i64 v.2] 24)):=(Grew.refl w).alloc _ _
 obtain ⟨m0,m1⟩:=mul_in2 (nr_dir k).1 hv.1
 obtain ⟨n0,n1⟩:=mul_in2 (nr_dir k).2 hv.2
 have DD:Hid ((dir k).1 * v.1+(dir k).2 * v.2=dd (dir k) v):=Lib.hid rfl
 generalize xc (dir k) v=s at ONE CC
 generalize dir k=r at AC CC m0 m1 n0 n1 DD ONE
 obtain ⟨r1,r2⟩:=r
 obtain ⟨x,y⟩:=v
 simp only at AC CC m0 m1 n0 n1 DD kV G0 ⊢
 obtain ⟨a,ha⟩:∃ a,r1 * x=a:=⟨_,rfl⟩
 obtain ⟨b,hb⟩:∃ b,r2 * y=b:=⟨_,rfl⟩
 have W1:IntKind.i64.wrap (r1 * x)=a:=by rw [IntWalk.i64_in _ ⟨by omega,by omega⟩];exact ha
 have DD:Hid (a+b=dd (r1,r2) (x,y)):=Lib.hid (by rw [← ha,← hb];exact DD.out)
 clear hv
 by_cases hs:s=0
 ·obtain ⟨r,hr⟩:∃ r,decide (On k (x,y))=r:=⟨_,rfl⟩
  rw [hr]
  have FIN:Hid (decide (0 < a+b)=r):=Lib.hid (by
   rw [← hr]
   congr 1
   apply propext
   rw [ONE.out,← DD.out]
   exact ⟨fun h => ⟨hs,h⟩,fun h => h.2⟩)
  clear hr ONE DD
  subst hs
  go_enter Tryz.func91,Tryz.ntmps91
  go_wp2_with fail
  refine (AC.out _).mono ?_
  rintro e w1 ⟨rfl,g1⟩
  have G1:=Grew.trans G0 g1
  have kV1:=kV.out.grown g1
  obtain ⟨⟨c0,c1⟩,_,_⟩:=kV1.two
  have lV:=kV1.lt
  have lV1:w.heap.size < w1.heap.size+1:=by omega
  have kR:=Lib.hid (Blk.new w1 #[.int .i64 r1,.int .i64 r2] 24)
  have kV2:=Lib.hid (kV1.alloc (.cells #[.int .i64 r1,.int .i64 r2] 24))
  have G2:=Lib.hid (G1.alloc #[.int .i64 r1,.int .i64 r2] 24)
  clear g1
  go_wp2_with fail
  refine (CC.out _).mono ?_
  rintro e w2 ⟨rfl,g2⟩
  have kR2:=kR.out.grown g2
  have kV3:=kV2.out.grown g2
  have G3:=Lib.hid (G2.out.trans g2)
  clear c0 c1 lV lV1 g2 kV1 G1
  obtain ⟨⟨c0,c1⟩,_,_⟩:=kV3.two
  obtain ⟨⟨f0,f1⟩,_,_⟩:=kR2.two
  have lV:=kV3.lt
  have lR:=kR2.lt
  go_wp2_with fail
  go_ret
  have G:=G3.out
  exact ⟨by first | (simp [← FIN.out];done) | (simp [← FIN.out];done),gw⟩
 ·have hs2:(s == 0)=false:=by rw [beq_eq_false_iff_ne];exact hs
  rw [decide_eq_false (fun h => hs (ONE.out.1 h).1)]
  clear ONE DD
  go_enter Tryz.func91,Tryz.ntmps91
  go_wp2_with fail
  refine (AC.out _).mono ?_
  rintro e w1 ⟨rfl,g1⟩
  have G1:=Grew.trans G0 g1
  have kV1:=kV.out.grown g1
  obtain ⟨⟨c0,c1⟩,_,_⟩:=kV1.two
  have lV:=kV1.lt
  have lV1:w.heap.size < w1.heap.size+1:=by omega
  have G2:=Lib.hid (G1.alloc #[.int .i64 r1,.int .i64 r2] 24)
  clear g1
  go_wp2_with fail
  refine (CC.out _).mono ?_
  rintro e w2 ⟨rfl,g2⟩
  have G:=G2.out.trans g2
  clear c0 c1 lV lV1 g2 kV1 G1
  go_wp2_with fail
  go_ret
  exact ⟨by first | rfl | (simp;done),gw⟩
end Ry
end Go.Proofs.YtbpgfenippiepaaGreatDoor
namespace Go.Proofs.YtbpgfenippiepaaGreatDoor
open Go.RowKit Hl Ex
namespace Ry
set_option maxRecDepth 100000
theorem xc_neg (a b:Pt):xc a b = -(xc b a):=by unfold xc;grind
set_option maxHeartbeats 2000000 in
theorem lies_r (a n:Nat) (v:Pt) (w:World) (ha:a < 64) (hn:n≤31) (hv:Nr v):Calls Tryz.prog 55 #[.int .i64 a,.int .i64 n,.agg #[.int .i64 v.1,.int .i64 v.2]] w fun e w' => e=.returned (.bool (decide (Lies a n v)))∧Grew w w':=by
 have OC:Hid (∀ W,Calls Tryz.prog 91 #[.int .i64 a,.agg #[.int .i64 v.1,.int .i64 v.2]] W fun e w' => e=.returned (.bool (decide (On a v)))∧Grew W w'):=Lib.hid (fun W => on_r a v W (by omega) hv)
 have LI:Hid (Lies a n v↔(On a v∨(0 < n∧0≤xc (dir a) v∧0≤xc v (dir (a+n))))):=Lib.hid (by
  unfold Lies sd
  rw [xc_neg v]
  constructor
  ·rintro (h | ⟨h1,h2,h3⟩)
   ·exact Or.inl h
   ·exact Or.inr ⟨h1,h2,by omega⟩
  ·rintro (h | ⟨h1,h2,h3⟩)
   ·exact Or.inl h
   ·exact Or.inr ⟨h1,h2,by omega⟩)
 have kV:=Lib.hid (Blk.new w #[.int .i64 v.1,.int .i64 v.2] 24)
 have G0:Grew w (w.alloc (.cells #[.int .i64 v.1,.int .i64 v.2] 24)):=(Grew.refl w).alloc _ _
 have a0:(0:Int)≤(a:Int):=by omega
 have a1:(a:Int) < 64:=by omega
 have n0:(0:Int)≤(n:Int):=by omega
 have n1:(n:Int)≤31:=by omega
 by_cases hz:n=0
 ·obtain ⟨r,hr⟩:∃ r,decide (Lies a n v)=r:=⟨_,rfl⟩
  rw [hr]
  have OC:Hid (∀ W,Calls Tryz.prog 91 #[.int .i64 a,.agg #[.int .i64 v.1,.int .i64 v.2]] W fun e w' => e=.returned (.bool r)∧Grew W w'):=Lib.hid (by
   have e:decide (On a v)=r:=by
    rw [← hr]
    congr 1
    apply propext
    rw [LI.out]
    exact ⟨fun h => Or.inl h,fun h => h.resolve_right (fun h => by omega)⟩
   rw [← e]
   exact OC.out)
  subst hz
  clear hr LI hv
  go_enter Tryz.func55,Tryz.ntmps55
  go_wp2_with fail
  refine (OC.out _).mono ?_
  rintro e w1 ⟨rfl,g1⟩
  have G1:=Grew.trans G0 g1
  clear g1
  go_wp2_with fail
  go_ret
  exact ⟨rfl,gw⟩
 have hz1:((n:Int) == 0)=false:=by rw [beq_eq_false_iff_ne];omega
 have hz2:¬ n=0:=hz
 by_cases ho:On a v
 ·rw [decide_eq_true (LI.out.2 (Or.inl ho))]
  rw [decide_eq_true ho] at OC
  clear LI hv ho
  go_enter Tryz.func55,Tryz.ntmps55
  go_wp2_with fail
  refine (OC.out _).mono ?_
  rintro e w1 ⟨rfl,g1⟩
  have G1:=Grew.trans G0 g1
  obtain ⟨⟨c0,c1⟩,_,_⟩:=(kV.out.grown g1).two
  have lV:=(kV.out.grown g1).lt
  clear g1
  go_wp2_with fail
  refine (OC.out _).mono ?_
  rintro e w2 ⟨rfl,g2⟩
  have G2:=Grew.trans G1 g2
  clear g2
  go_wp2_with fail
  go_ret
  exact ⟨rfl,gw⟩
 rw [decide_eq_false ho] at OC
 have AC:Hid (∀ (z:Int),0≤z→z < 128→∀ W,Calls Tryz.prog 45 #[.int .i64 z] W fun e w' => e=.returned (.agg #[.int .i64 (dir z.toNat).1,.int .i64 (dir z.toNat).2])∧Grew W w'):=Lib.hid (fun z z0 z1 W => by
  have h:=at_r z.toNat W (by omega)
  rwa [show ((z.toNat:Nat):Int)=z by omega] at h)
 have CX:Hid (∀ (p q:Pt) W,Nr p→Nr q→Calls Tryz.prog 92 #[.agg #[.int .i64 p.1,.int .i64 p.2],.agg #[.int .i64 q.1,.int .i64 q.2]] W fun e w' => e=.returned (.int .i64 (xc p q))∧Grew W w'):=Lib.hid (fun p q W hp hq => cross_9 p q W hp hq)
 have NV:=Lib.hid hv
 by_cases hs:0≤xc (dir a) v
 ·obtain ⟨r,hr⟩:∃ r,decide (Lies a n v)=r:=⟨_,rfl⟩
  rw [hr]
  have FIN:Hid (decide (0≤xc v (dir (a+n)))=r):=Lib.hid (by
   rw [← hr]
   congr 1
   apply propext
   rw [LI.out]
   exact ⟨fun h => Or.inr ⟨by omega,hs,h⟩,fun h => by
    rcases h with h | h
    ·exact absurd h ho
    ·exact h.2.2⟩)
  have DN:Hid (dir ((a:Int)+(n:Int)).toNat=dir (a+n)):=Lib.hid (by rw [show ((a:Int)+(n:Int)).toNat=a+n by omega])
  have W1:IntKind.i64.wrap ((a:Int)+(n:Int))=(a:Int)+(n:Int):=IntWalk.i64_in _ ⟨by omega,by omega⟩
  clear hr LI hv ho
  go_enter Tryz.func55,Tryz.ntmps55
  go_wp2_with fail
  refine (OC.out _).mono ?_
  rintro e w1 ⟨rfl,g1⟩
  have G1:=Grew.trans G0 g1
  have kV1:=Lib.hid (kV.out.grown g1)
  obtain ⟨⟨c0,c1⟩,_,_⟩:=kV1.out.two
  have lV:=kV1.out.lt
  clear g1 G0
  go_wp2_with fail
  have GG:=Grew.refl w1
  go_region_held3 (fun W' => W'.cell? ⟨w.heap.size,0,none⟩=some (.int .i64 v.1)∧W'.cell? ⟨w.heap.size,1,none⟩=some (.int .i64 v.2)) (first | assumption | (simp [go_sem, *];done))
   (first
    | (go_at_call 45;refine (AC.out _ (by omega) (by omega) _).mono ?_;rintro e w2 ⟨rfl,g⟩;(have GG:=Grew.trans (by (repeat' (first | (with_reducible exact GG) | (with_reducible exact Grew.drew GG)))) g);(have kW:=kV1.out.grown GG);obtain ⟨⟨c0,c1⟩,_,_⟩:=kW.two)
    | (go_at_call 92;refine (CX.out _ _ _ (by first | exact nr_dir _ | exact NV.out) (by first | exact nr_dir _ | exact NV.out)).mono ?_;rintro e w2 ⟨rfl,g⟩;(have GG:=Grew.trans (by (repeat' (first | (with_reducible exact GG) | (with_reducible exact Grew.drew GG)))) g);(have kW:=kV1.out.grown GG);obtain ⟨⟨c0,c1⟩,_,_⟩:=kW.two))
  go_wp2_with fail
  go_ret
  have G:=Grew.trans G1 GG
  exact ⟨by first | (rw [← FIN.out];simp [DN.out];done) | (rw [← FIN.out,← DN.out];simp [hs];done) | (rw [← FIN.out];simp;done),gw⟩
 ·rw [decide_eq_false (fun h => by rcases LI.out.1 h with h | h;exact ho h;exact hs h.2.1)]
  have C1:Hid (∀ W,Calls Tryz.prog 92 #[.agg #[.int .i64 (dir a).1,.int .i64 (dir a).2],.agg #[.int .i64 v.1,.int .i64 v.2]] W fun e w' => e=.returned (.int .i64 (xc (dir a) v))∧Grew W w'):=Lib.hid (fun W => CX.out _ _ W (nr_dir a) NV.out)
  generalize xc (dir a) v=s at hs C1
  have hd:decide (0≤s)=false:=decide_eq_false hs
  clear hs
  clear LI hv ho
  go_enter Tryz.func55,Tryz.ntmps55
  go_wp2_with fail
  refine (OC.out _).mono ?_
  rintro e w1 ⟨rfl,g1⟩
  have G1:=Grew.trans G0 g1
  have kV1:=Lib.hid (kV.out.grown g1)
  obtain ⟨⟨c0,c1⟩,_,_⟩:=kV1.out.two
  have lV:=kV1.out.lt
  clear g1 G0
  go_wp2_with fail
  refine wp_region_held_drew (S:=(fun W' => W'.cell? ⟨w.heap.size,0,none⟩=some (.int .i64 v.1)∧W'.cell? ⟨w.heap.size,1,none⟩=some (.int .i64 v.2))) (by kernel_rfl) (by first | assumption | (simp [go_sem, *];done)) (fun hHeld => ?_)
  refine wpAnyH_take (i:=0) (oi:=⟨some 17,_,_,_,_,_⟩) (v:=?_) rfl (by kernel_rfl) (by kernel_rfl) (by kernel_rfl) (fun _ _ _ h => h) (Or.inl ⟨by rfl,?_⟩) (by assumption) ?_
  rotate_left
  ·intro w hSw;(try dsimp only at hSw);go_simp;(try with_reducible rfl)
  try simp only [Act.put,List.setIfInBounds_toArray,List.set_cons_zero,List.set_cons_succ]
  refine wpAnyH_take (i:=2) (oi:=⟨some 19,_,_,_,_,_⟩) (v:=?_) rfl (by kernel_rfl) (by kernel_rfl) (by kernel_rfl) (fun _ _ _ h => h) (Or.inl ⟨by rfl,?_⟩) (by assumption) ?_
  rotate_left
  ·intro w hSw;(try dsimp only at hSw);go_simp;(try with_reducible rfl)
  try simp only [Act.put,List.setIfInBounds_toArray,List.set_cons_zero,List.set_cons_succ]
  refine wpAnyH_ready (rs:=[1]) (by kernel_rfl) (by simp) ?_
  refine AllReadyH.cons (o:=⟨some 18,_,_,_,_,_⟩) rfl (fun K hK => ?_) AllReadyH.nil
  go_simp
  refine (AC.out _ (by omega) (by omega) _).mono ?_
  rintro e w2 ⟨rfl,g⟩
  have G2:=Grew.trans (Grew.drew (Grew.refl _)) g
  have kW2:=kV1.out.grown G2
  obtain ⟨⟨c0,c1⟩,_,_⟩:=kW2.two
  clear g
  go_wp2_with fail
  refine hK.out _ _ (by (try dsimp only);first | assumption | (simp [go_sem, *];done)) (fun h1 => ?_)
  clear hK K hHeld
  have hHeld:=h1
  clear h1
  try simp only [Act.put,List.setIfInBounds_toArray,List.set_cons_zero,List.set_cons_succ]
  refine wpAnyH_ready (rs:=[3]) (by kernel_rfl) (by simp) ?_
  refine AllReadyH.cons (o:=⟨some 20,_,_,_,_,_⟩) rfl (fun K hK => ?_) AllReadyH.nil
  go_simp
  refine (C1.out _).mono ?_
  rintro e w3 ⟨rfl,g⟩
  have G3:=Grew.trans G2 g
  have kW3:=kV1.out.grown G3
  obtain ⟨⟨c0,c1⟩,_,_⟩:=kW3.two
  clear g
  go_wp2_with fail
  refine hK.out _ _ (by (try dsimp only);first | assumption | (simp [go_sem, *];done)) (fun h1 => ?_)
  clear hK K hHeld
  have hHeld:=h1
  clear h1
  try simp only [Act.put,List.setIfInBounds_toArray,List.set_cons_zero,List.set_cons_succ]
  refine wpAnyH_take (i:=4) (oi:=⟨some 21,_,_,_,_,_⟩) (v:=?_) rfl (by kernel_rfl) (by kernel_rfl) (by kernel_rfl) (fun _ _ _ h => h) (Or.inl ⟨by rfl,?_⟩) (by assumption) ?_
  rotate_left
  ·intro w hSw;(try dsimp only at hSw);go_simp;(try with_reducible rfl)
  try simp only [Act.put,List.setIfInBounds_toArray,List.set_cons_zero,List.set_cons_succ]
  refine wpAnyH_take (i:=5) (oi:=⟨some 22,_,_,_,_,_⟩) (v:=?_) rfl (by kernel_rfl) (by kernel_rfl) (by kernel_rfl) (fun _ _ _ h => h) (Or.inl ⟨by rfl,?_⟩) (by assumption) ?_
  rotate_left
  ·intro w hSw;(try dsimp only at hSw);go_simp;(try with_reducible rfl)
  try simp only [Act.put,List.setIfInBounds_toArray,List.set_cons_zero,List.set_cons_succ]
  refine wpAnyH_take (i:=6) (oi:=⟨some 23,_,_,_,_,_⟩) (v:=undef) rfl (by kernel_rfl) (by kernel_rfl) (by kernel_rfl) (fun _ _ _ h => h) (Or.inr ⟨by rfl,rfl⟩) (by assumption) ?_
  try simp only [Act.put,List.setIfInBounds_toArray,List.set_cons_zero,List.set_cons_succ]
  refine wpAnyH_take (i:=7) (oi:=⟨some 24,_,_,_,_,_⟩) (v:=undef) rfl (by kernel_rfl) (by kernel_rfl) (by kernel_rfl) (fun _ _ _ h => h) (Or.inr ⟨by rfl,rfl⟩) (by assumption) ?_
  try simp only [Act.put,List.setIfInBounds_toArray,List.set_cons_zero,List.set_cons_succ]
  refine wpAnyH_take (i:=8) (oi:=⟨some 25,_,_,_,_,_⟩) (v:=undef) rfl (by kernel_rfl) (by kernel_rfl) (by kernel_rfl) (fun _ _ _ h => h) (Or.inr ⟨by rfl,rfl⟩) (by assumption) ?_
  try simp only [Act.put,List.setIfInBounds_toArray,List.set_cons_zero,List.set_cons_succ]
  refine wpAnyH_take (i:=9) (oi:=⟨some 26,_,_,_,_,_⟩) (v:=undef) rfl (by kernel_rfl) (by kernel_rfl) (by kernel_rfl) (fun _ _ _ h => h) (Or.inr ⟨by rfl,rfl⟩) (by assumption) ?_
  try simp only [Act.put,List.setIfInBounds_toArray,List.set_cons_zero,List.set_cons_succ]
  refine wpAnyH_take (i:=10) (oi:=⟨some 27,_,_,_,_,_⟩) (v:=undef) rfl (by kernel_rfl) (by kernel_rfl) (by kernel_rfl) (fun _ _ _ h => h) (Or.inr ⟨by rfl,rfl⟩) (by assumption) ?_
  try simp only [Act.put,List.setIfInBounds_toArray,List.set_cons_zero,List.set_cons_succ]
  refine wpAnyH_take (i:=11) (oi:=⟨some 28,_,_,_,_,_⟩) (v:=undef) rfl (by kernel_rfl) (by kernel_rfl) (by kernel_rfl) (fun _ _ _ h => h) (Or.inr ⟨by rfl,rfl⟩) (by assumption) ?_
  try simp only [Act.put,List.setIfInBounds_toArray,List.set_cons_zero,List.set_cons_succ]
  refine wpAnyH_take (i:=12) (oi:=⟨some 29,_,_,_,_,_⟩) (v:=undef) rfl (by kernel_rfl) (by kernel_rfl) (by kernel_rfl) (fun _ _ _ h => h) (Or.inr ⟨by rfl,rfl⟩) (by assumption) ?_
  try simp only [Act.put,List.setIfInBounds_toArray,List.set_cons_zero,List.set_cons_succ]
  refine wpAnyH_take (i:=13) (oi:=⟨some 30,_,_,_,_,_⟩) (v:=?_) rfl (by kernel_rfl) (by kernel_rfl) (by kernel_rfl) (fun _ _ _ h => h) (Or.inl ⟨by rfl,?_⟩) (by assumption) ?_
  rotate_left
  ·intro w hSw;(try dsimp only at hSw);go_simp;(try with_reducible rfl)
  try simp only [Act.put,List.setIfInBounds_toArray,List.set_cons_zero,List.set_cons_succ]
  refine wpAnyH_take (i:=14) (oi:=⟨some 6,_,_,_,_,_⟩) (v:=?_) rfl (by kernel_rfl) (by kernel_rfl) (by kernel_rfl) (fun _ _ _ h => h) (Or.inl ⟨by rfl,?_⟩) (by assumption) ?_
  rotate_left
  ·intro w hSw;(try dsimp only at hSw);go_simp;(try with_reducible rfl)
  try simp only [Act.put,List.setIfInBounds_toArray,List.set_cons_zero,List.set_cons_succ]
  refine wpAnyH_done (by kernel_rfl) ?_ _
  go_wp2_with fail
  go_ret
  have G:=Grew.trans G1 G3
  exact ⟨by first | rfl | (simp;done),gw⟩
theorem right_yes (a n:Int) (w:World) (h:(0≤a∧a < 64)∧0≤n∧n≤31):Calls Tryz.prog 68 #[.int .i64 a,.int .i64 n] w fun e w' => e=.returned (.bool true)∧w=w':=by
 obtain ⟨⟨h0,h1⟩,h2,h3⟩:=h
 go_enter Tryz.func68,Tryz.ntmps68
 go_wp2_with fail
 go_ret
 exact ⟨by first | rfl | (simp;omega),rfl⟩
end Ry
end Go.Proofs.YtbpgfenippiepaaGreatDoor
