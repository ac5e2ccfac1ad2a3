/-
  The landed package ray: what is a ray, a width, a vector; a ray by its number.
  The reference implementation of layer 9: the rays, the sides of a vector, and what lies between two rays.
  The landed package ray: the sides of a vector, Between, Of.
  The landed package ray: rounded places, and the rays that are ranged over.
-/
import Derived.Test.YtbpgfenippiepaaGreatDoorExactPlain
import Derived.Test.YtbpgfenippiepaaGreatDoorHullBar
import Derived.Test.YtbpgfenippiepaaGreatDoorHullCa
import Derived.Test.YtbpgfenippiepaaGreatDoorHullIn
import Derived.Test.YtbpgfenippiepaaGreatDoorHullInB
import Derived.Test.YtbpgfenippiepaaGreatDoorRayCnt
import Derived.Test.YtbpgfenippiepaaGreatDoorHullCu
namespace Go.Proofs.YtbpgfenippiepaaGreatDoor
open Go.RowKit Hl
namespace Ry
set_option maxRecDepth 100000
theorem q0_bdQ:∀ j,j < 17→(-1000≤(q0 j).1∧(q0 j).1≤1000)∧(-1000≤(q0 j).2∧(q0 j).2≤1000):=by decide
theorem tn_bdQ (m:Nat) {x:Pt} (h:(-1000≤x.1∧x.1≤1000)∧(-1000≤x.2∧x.2≤1000)):(-1000≤(tn m x).1∧(tn m x).1≤1000)∧(-1000≤(tn m x).2∧(tn m x).2≤1000):=by
 induction m with
 | zero => exact h
 | succ m ih =>
   show (-1000≤-(tn m x).2∧-(tn m x).2≤1000)∧(-1000≤(tn m x).1∧(tn m x).1≤1000)
   omega
def Vec (v:Pt):Prop:=((-1000000≤v.1∧v.1≤1000000)∧(-1000000≤v.2∧v.2≤1000000))∧v ≠ (0,0)
theorem isRay_yes (k:Int) (h0:0≤k) (h1:k < 64) (w:World):Calls Tryz.prog 78 #[.int .i64 k] w fun e w' => e=.returned (.bool true)∧w=w':=by
 go_enter Tryz.func78,Tryz.ntmps78
 go_wp2_with fail
 go_ret
 exact ⟨by first | rfl | (simp;omega),rfl⟩
theorem isRay_no (k:Int) (h:k < 0∨64≤k) (w:World):Calls Tryz.prog 78 #[.int .i64 k] w fun e w' => e=.returned (.bool false)∧w=w':=by
 by_cases h0:k < 0
 ·clear h
  go_enter Tryz.func78,Tryz.ntmps78
  go_wp2_with fail
  go_ret
  exact ⟨by first | rfl | (simp;omega),rfl⟩
 ·have h1:¬ k < 64:=by omega
  clear h
  go_enter Tryz.func78,Tryz.ntmps78
  go_wp2_with fail
  go_ret
  exact ⟨by first | rfl | (simp;omega),rfl⟩
theorem isWidth_yes (k:Int) (h0:0≤k) (h1:k≤31) (w:World):Calls Tryz.prog 99 #[.int .i64 k] w fun e w' => e=.returned (.bool true)∧w=w':=by
 go_enter Tryz.func99,Tryz.ntmps99
 go_wp2_with fail
 go_ret
 exact ⟨by first | rfl | (simp;omega),rfl⟩
theorem isWidth_no (k:Int) (h:k < 0∨31 < k) (w:World):Calls Tryz.prog 99 #[.int .i64 k] w fun e w' => e=.returned (.bool false)∧w=w':=by
 by_cases h0:k < 0
 ·clear h
  go_enter Tryz.func99,Tryz.ntmps99
  go_wp2_with fail
  go_ret
  exact ⟨by first | rfl | (simp;omega),rfl⟩
 ·have h1:¬ k≤31:=by omega
  clear h
  go_enter Tryz.func99,Tryz.ntmps99
  go_wp2_with fail
  go_ret
  exact ⟨by first | rfl | (simp;omega),rfl⟩
set_option maxHeartbeats 1000000 in
theorem direction_c (k:Nat) (w:World) (hT:Tq w) (hk:k < 128):Calls Tryz.prog 79 #[.int .i64 k] w fun e w' => e=.returned (.agg #[.int .i64 (dir k).1,.int .i64 (dir k).2])∧Grew w w':=by
 obtain ⟨m,hm⟩:∃ m,k / 16=m:=⟨_,rfl⟩
 obtain ⟨j,hj⟩:∃ j,k % 16=j:=⟨_,rfl⟩
 have ed:dir k=tn m (q0 j):=by unfold dir;rw [hm,hj]
 rw [ed]
 have j16:j < 16:=by omega
 have m8:m < 8:=by omega
 obtain ⟨c0,c1⟩:=hT.2 j j16
 have hg:=hT.1
 obtain ⟨z,hz⟩:∃ z,q0 j=z:=⟨_,rfl⟩
 have BD:Hid (∀ t,(-1000≤(tn t z).1∧(tn t z).1≤1000)∧(-1000≤(tn t z).2∧(tn t z).2≤1000)):=Lib.hid (fun t => tn_bdQ t (by rw [← hz];exact q0_bdQ j (by omega)))
 rw [hz] at c0 c1 ⊢
 have T1:(k:Int).tmod 16=(j:Int):=by rw [Int.tmod_eq_emod_of_nonneg (by omega)];omega
 have T2:(k:Int) % 16=(j:Int):=by omega
 have T3:(k:Int).tdiv 16=(m:Int):=by rw [Int.tdiv_eq_ediv_of_nonneg (by omega)];omega
 have T4:(k:Int) / 16=(m:Int):=by omega
 have i0:(0:Int)≤(j:Int):=by omega
 have i1:(j:Int) < 16:=by omega
 have k0:(0:Int)≤(k:Int):=by omega
 have k1:(k:Int) < 128:=by omega
 clear ed hm hj hz hT
 go_enter Tryz.func79,Tryz.ntmps79
 go_wp2_with fail
 have kA:Blk ((w.alloc (.cells #[.int .i64 0,.int .i64 0] 24)).alloc (.cells #[.int .i64 z.1,.int .i64 z.2] 24)) w.heap.size #[.int .i64 0,.int .i64 0] 24:=(Blk.new w _ _).alloc _
 have kB:Blk ((w.alloc (.cells #[.int .i64 0,.int .i64 0] 24)).alloc (.cells #[.int .i64 z.1,.int .i64 z.2] 24)) (w.heap.size+1) #[.int .i64 z.1,.int .i64 z.2] 24:=by
  have h:=Blk.new (w.alloc (.cells #[.int .i64 0,.int .i64 0] 24)) #[.int .i64 z.1,.int .i64 z.2] 24
  rwa [World.size_alloc] at h
 have G0:Grew w ((w.alloc (.cells #[.int .i64 0,.int .i64 0] 24)).alloc (.cells #[.int .i64 z.1,.int .i64 z.2] 24)):=((Grew.refl w).alloc _ _).alloc _ _
 clear c0 c1 hg
 go_loopw [10] (fun i wr => ∃ t:Nat,t≤m∧i=.int .i64 t∧Hid (Blk wr w.heap.size #[.int .i64 0,.int .i64 0] 24∧Blk wr (w.heap.size+1) #[.int .i64 (tn t z).1,.int .i64 (tn t z).2] 24∧Grew w wr)) (fun i _ => m - (intOf i).toNat)
 case atStart => exact ⟨0,Nat.zero_le _,rfl,Lib.hid ⟨kA,kB,G0⟩⟩
 case round =>
  clear kA kB G0
  obtain ⟨t,ht,rfl,HH⟩:=hrel
  obtain ⟨⟨a0,a1⟩,a2,a3⟩:=HH.out.1.two
  obtain ⟨⟨b0,b1⟩,b2,b3⟩:=HH.out.2.1.two
  have lA:=HH.out.1.lt
  have lB:=HH.out.2.1.lt
  have t0:(0:Int)≤(t:Int):=by omega
  by_cases hlt:t < m
  ·have BT:=BD.out t
   have EN:Hid (tn (t+1) z=(-(tn t z).2,(tn t z).1)):=Lib.hid rfl
   obtain ⟨u,hu⟩:∃ u,(tn t z).1=u:=⟨_,rfl⟩
   obtain ⟨v,hv⟩:∃ v,(tn t z).2=v:=⟨_,rfl⟩
   rw [hu] at b0 BT EN HH
   rw [hv] at b1 BT EN HH
   obtain ⟨⟨u0,u1⟩,v0,v1⟩:=BT
   clear hu hv
   have lt:(t:Int) < (m:Int):=by omega
   go_wp2_with fail
   go_roundw
   case rel =>
    refine ⟨t+1,by omega,by go_num,Lib.hid ⟨?_,?_,?_⟩⟩
    ·exact (HH.out.1.other (by omega) _).other (by omega) _
    ·rw [EN.out]
     exact HH.out.2.1.put2
    ·have G:=HH.out.2.2
     exact gw
   case measure => simp [intOf];omega
  ·obtain rfl:t=m:=by omega
   go_wp2_with fail
   have G:=HH.out.2.2
   exact bodyPost_ret (v:=.agg #[.int .i64 (tn t z).1,.int .i64 (tn t z).2]) (by simp [results,Tryz.results79,go_sem, *]) rfl ⟨rfl,gw⟩
theorem ray_ok (k:Nat) (w:World) (hT:Tq w) (hk:k < 64):Calls Tryz.prog 41 #[.int .i64 k] w fun e w' => e=.returned (.tuple #[.agg #[.int .i64 (dir k).1,.int .i64 (dir k).2],.int .i64 0])∧Grew w w':=by
 have G1:Grew w (w.alloc (.cells #[.int .i64 0,.int .i64 0] 24)):=(Grew.refl w).alloc _ _
 have DC:=Lib.hid (direction_c k _ (hT.grew G1) (by omega))
 have k0:(0:Int)≤(k:Int):=by omega
 have k1:(k:Int) < 64:=by omega
 have kA:=Lib.hid (Blk.new w #[.int .i64 0,.int .i64 0] 24)
 clear hT
 go_enter Tryz.func41,Tryz.ntmps41
 go_wp2_with fail
 refine (isRay_yes _ k0 k1 _).mono ?_
 rintro e w' ⟨rfl,rfl⟩
 go_wp2_with fail
 refine (DC.out).mono ?_
 rintro e w' ⟨rfl,g⟩
 have G2:=Lib.hid (G1.trans g)
 obtain ⟨⟨a0,a1⟩,a2,a3⟩:=(kA.out.grown g).two
 have lA:=(kA.out.grown g).lt
 clear g G1
 go_wp2_with fail
 have G:=G2.out
 exact bodyPost_ret (v:=.tuple #[.agg #[.int .i64 (dir k).1,.int .i64 (dir k).2],.int .i64 0]) (by simp [results,Tryz.results41,go_sem, *]) rfl ⟨rfl,gw⟩
theorem ray_bad (k:Int) (w:World) (hk:¬ (0≤k∧k < 64)):Calls Tryz.prog 41 #[.int .i64 k] w fun e w' => e=.returned (.tuple #[.agg #[.int .i64 0,.int .i64 0],.int .i64 1])∧Grew w w':=by
 have H:Hid (k < 0∨64≤k):=Lib.hid (by omega)
 clear hk
 go_enter Tryz.func41,Tryz.ntmps41
 go_wp2_with fail
 refine (isRay_no _ H.out _).mono ?_
 rintro e w' ⟨rfl,rfl⟩
 go_wp2_with fail
 exact bodyPost_ret (v:=.tuple #[.agg #[.int .i64 0,.int .i64 0],.int .i64 1]) (by simp [results,Tryz.results41,go_sem]) rfl ⟨rfl,gw⟩
end Ry
end Go.Proofs.YtbpgfenippiepaaGreatDoor
namespace Go.Proofs.YtbpgfenippiepaaGreatDoor
open Go.RowKit Hl
namespace Ry
set_option maxRecDepth 100000
def qF:List Pt:=[(1000,0),(995,98),(981,195),(957,290),(924,383),(882,471),(831,556),(773,634),(707,707),(634,773),(556,831),(471,882),(383,924),(290,957),(195,981),(98,995)]
theorem qF_at:∀ j,j < 16→at' qF j=q0 j:=by decide
theorem tn_four (m:Nat) (z:Pt):tn (m+4) z=tn m z:=lf4 _
theorem tn_mod {d:Nat} (h:d < 8) (z:Pt):tn d z=tn (d % 4) z:=by
 by_cases e:d < 4
 ·rw [Nat.mod_eq_of_lt e]
 ·obtain ⟨m,rfl⟩:∃ m,d=m+4:=⟨d - 4,by omega⟩
  rw [tn_four,Nat.add_mod_right,Nat.mod_eq_of_lt (by omega)]
theorem first_r (w:World):Calls Tryz.prog 82 #[] w fun e w' => ∃ g,e=.returned (.slice (some ⟨g,0,none⟩) 16 16)∧Row w' g 0 qF∧Grew w w':=by
 go_enter Tryz.func82,Tryz.ntmps82
 go_wp2_with fail
 go_ret
 exact ⟨_,rfl,row_new qF _ rfl w _,(Grew.refl w).alloc _ _⟩
def Nr (v:Pt):Prop:=(-1000000≤v.1∧v.1≤1000000)∧(-1000000≤v.2∧v.2≤1000000)
theorem turned_r (v:Pt) (w:World) (h:Nr v):Calls Tryz.prog 83 #[.agg #[.int .i64 v.1,.int .i64 v.2]] w fun e w' => e=.returned (.agg #[.int .i64 (lf v).1,.int .i64 (lf v).2])∧Grew w w':=by
 obtain ⟨x,y⟩:=v
 obtain ⟨⟨x0,x1⟩,y0,y1⟩:=h
 simp only at x0 x1 y0 y1 ⊢
 go_enter Tryz.func83,Tryz.ntmps83
 go_wp2_with fail
 exact bodyPost_ret (v:=.agg #[.int .i64 (-y),.int .i64 x]) (by simp [results,Tryz.results83,go_sem]) rfl ⟨rfl,gw⟩
set_option maxHeartbeats 1000000 in
theorem at_r (k:Nat) (w:World) (hk:k < 128):Calls Tryz.prog 45 #[.int .i64 k] w fun e w' => e=.returned (.agg #[.int .i64 (dir k).1,.int .i64 (dir k).2])∧Grew w w':=by
 obtain ⟨d,hd⟩:∃ d,k / 16=d:=⟨_,rfl⟩
 obtain ⟨m,hm⟩:∃ m,d % 4=m:=⟨_,rfl⟩
 obtain ⟨j,hj⟩:∃ j,k % 16=j:=⟨_,rfl⟩
 have ed:dir k=tn m (q0 j):=by unfold dir;rw [hd,hj,tn_mod (by omega),hm]
 rw [ed]
 have j16:j < 16:=by omega
 have m4:m < 4:=by omega
 have d8:d < 8:=by omega
 obtain ⟨z,hz⟩:∃ z,q0 j=z:=⟨_,rfl⟩
 have BD:Hid (∀ t,(-1000≤(tn t z).1∧(tn t z).1≤1000)∧(-1000≤(tn t z).2∧(tn t z).2≤1000)):=Lib.hid (fun t => tn_bdQ t (by rw [← hz];exact q0_bdQ j (by omega)))
 have QC:Hid (∀ W g,Row W g 0 qF→(W.cell? ⟨g,j * 2,none⟩=some (.int .i64 z.1)∧W.cell? ⟨g,j * 2+1,none⟩=some (.int .i64 z.2))∧g < W.heap.size):=Lib.hid (fun W g hr => by
  have h:=hr.2 j j16
  rw [Nat.zero_add,qF_at j j16,hz] at h
  exact ⟨h,hr.1⟩)
 rw [hz]
 have T1:(k:Int).tmod 16=(j:Int):=by rw [Int.tmod_eq_emod_of_nonneg (by omega)];omega
 have T2:(k:Int) % 16=(j:Int):=by omega
 have T3:(k:Int).tdiv 16=(d:Int):=by rw [Int.tdiv_eq_ediv_of_nonneg (by omega)];omega
 have T4:(k:Int) / 16=(d:Int):=by omega
 have T5:(d:Int).tmod 4=(m:Int):=by rw [Int.tmod_eq_emod_of_nonneg (by omega)];omega
 have T6:(d:Int) % 4=(m:Int):=by omega
 have i0:(0:Int)≤(j:Int):=by omega
 have i1:(j:Int) < 16:=by omega
 have k0:(0:Int)≤(k:Int):=by omega
 have k1:(k:Int) < 128:=by omega
 have d0:(0:Int)≤(d:Int):=by omega
 have d1:(d:Int) < 8:=by omega
 have TR:=Lib.hid (fun t W => turned_r (tn t z) W (by have:=BD.out t;unfold Nr;omega))
 clear ed hm hj hz hd
 go_enter Tryz.func45,Tryz.ntmps45
 go_wp2_with fail
 refine (first_r _).mono ?_
 rintro e w1 ⟨g,rfl,hr,g1⟩
 obtain ⟨⟨c0,c1⟩,hg⟩:=QC.out w1 g hr
 have kA:=(Blk.new w #[.int .i64 0,.int .i64 0] 24).grown g1
 have G1:Grew w w1:=Grew.trans ((Grew.refl w).alloc _ _) g1
 have sz:=g1.size
 rw [World.size_alloc] at sz
 clear hr g1 QC
 go_wp2_with fail
 have kB:=Blk.new w1 #[.int .i64 z.1,.int .i64 z.2] 24
 have kA:=kA.alloc (.cells #[.int .i64 z.1,.int .i64 z.2] 24)
 have G2:Grew w (w1.alloc (.cells #[.int .i64 z.1,.int .i64 z.2] 24)):=G1.alloc _ _
 clear c0 c1 hg
 go_loopw [4] (fun i wr => ∃ t:Nat,t≤m∧i=.int .i64 t∧Hid (Blk wr w.heap.size #[.int .i64 0,.int .i64 0] 24∧Blk wr w1.heap.size #[.int .i64 (tn t z).1,.int .i64 (tn t z).2] 24∧Grew w wr)) (fun i _ => m - (intOf i).toNat)
 case atStart => exact ⟨0,Nat.zero_le _,rfl,Lib.hid ⟨kA,kB,G2⟩⟩
 case round =>
  clear kA kB G2 G1
  obtain ⟨t,ht,rfl,HH⟩:=hrel
  obtain ⟨⟨b0,b1⟩,b2,b3⟩:=HH.out.2.1.two
  have lB:=HH.out.2.1.lt
  have t0:(0:Int)≤(t:Int):=by omega
  by_cases hlt:t < m
  ·have TT:=Lib.hid (TR.out t)
   have EN:Hid (lf (tn t z)=tn (t+1) z):=Lib.hid rfl
   generalize tn t z=x at b0 b1 TT EN HH
   have lt:(t:Int) < (m:Int):=by omega
   go_wp2_with fail
   refine (TT.out _).mono ?_
   rintro e w2 ⟨rfl,g2⟩
   have HH2:Hid (Blk w2 w.heap.size #[.int .i64 0,.int .i64 0] 24∧Blk w2 w1.heap.size #[.int .i64 x.1,.int .i64 x.2] 24∧Grew w w2):=Lib.hid ⟨HH.out.1.grown g2,HH.out.2.1.grown g2,HH.out.2.2.trans g2⟩
   clear HH b0 b1 b2 b3 lB
   obtain ⟨⟨b0,b1⟩,b2,b3⟩:=HH2.out.2.1.two
   have lB:=HH2.out.2.1.lt
   clear g2
   go_wp2_with fail
   go_roundw
   case rel =>
    refine ⟨t+1,by omega,by go_num,Lib.hid ⟨?_,?_,?_⟩⟩
    ·exact (HH2.out.1.other (by omega) _).other (by omega) _
    ·rw [← EN.out]
     exact HH2.out.2.1.put2
    ·have G:=HH2.out.2.2
     exact gw
   case measure => simp [intOf];omega
  ·obtain rfl:t=m:=by omega
   obtain ⟨⟨a0,a1⟩,a2,a3⟩:=HH.out.1.two
   have lA:=HH.out.1.lt
   go_wp2_with fail
   have G:=HH.out.2.2
   exact bodyPost_ret (v:=.agg #[.int .i64 (tn t z).1,.int .i64 (tn t z).2]) (by simp [results,Tryz.results45,go_sem, *]) rfl ⟨rfl,gw⟩
theorem mul_in2 {p y:Int} (hp:-1000000≤p∧p≤1000000) (hy:-1000000≤y∧y≤1000000):-1000000000000≤p * y∧p * y≤1000000000000:=by
 have a2:=Int.mul_nonneg (show 0≤p+1000000 by omega) (show 0≤y+1000000 by omega)
 have a3:=Int.mul_nonneg (show 0≤1000000 - p by omega) (show 0≤1000000 - y by omega)
 have a4:=Int.mul_nonneg (show 0≤p+1000000 by omega) (show 0≤1000000 - y by omega)
 have a5:=Int.mul_nonneg (show 0≤1000000 - p by omega) (show 0≤y+1000000 by omega)
 have e2:(p+1000000) * (y+1000000)=p * y+1000000 * p+1000000 * y+1000000000000:=by grind
 have e3:(1000000 - p) * (1000000 - y)=1000000000000 - 1000000 * y - 1000000 * p+p * y:=by grind
 have e4:(p+1000000) * (1000000 - y)=1000000 * p+1000000000000 - p * y - 1000000 * y:=by grind
 have e5:(1000000 - p) * (y+1000000)=1000000 * y+1000000000000 - p * y - 1000000 * p:=by grind
 omega
theorem cross_9 (u v:Pt) (w:World) (hu:Nr u) (hv:Nr v):Calls Tryz.prog 92 #[.agg #[.int .i64 u.1,.int .i64 u.2],.agg #[.int .i64 v.1,.int .i64 v.2]] w fun e w' => e=.returned (.int .i64 (xc u v))∧Grew w w':=by
 have XC:Hid (u.1 * v.2 - u.2 * v.1=xc u v):=Lib.hid rfl
 obtain ⟨m0,m1⟩:=mul_in2 hu.1 hv.2
 obtain ⟨n0,n1⟩:=mul_in2 hu.2 hv.1
 obtain ⟨p,q⟩:=u
 obtain ⟨x,y⟩:=v
 simp only at m0 m1 n0 n1 XC ⊢
 clear hu hv
 go_enter Tryz.func92,Tryz.ntmps92
 go_wp2_with fail
 go_ret
 exact ⟨by first | (rw [XC.out];done) | (simp [XC.out];done),gw⟩
theorem nr_dir (k:Nat):Nr (dir k):=by
 have:=dir_bd k
 unfold Nr
 omega
set_option maxHeartbeats 1000000 in
theorem on_r (k:Nat) (v:Pt) (w:World) (hk:k < 112) (hv:Nr v):Calls Tryz.prog 91 #[.int .i64 k,.agg #[.int .i64 v.1,.int .i64 v.2]] w fun e w' => e=.returned (.bool (decide (On k v)))∧Grew w w':=by
 have ONE:Hid (On k v↔(xc (dir k) v=0∧0 < dd (dir k) v)):=Lib.hid (by
  unfold On
  rw [sd_turned]
  constructor
  ·rintro ⟨h1,h2⟩;exact ⟨h1,by omega⟩
  ·rintro ⟨h1,h2⟩;exact ⟨h1,by omega⟩)
 have AC:Hid (∀ W,Calls Tryz.prog 45 #[.int .i64 k] W fun e w' => e=.returned (.agg #[.int .i64 (dir k).1,.int .i64 (dir k).2])∧Grew W w'):=Lib.hid (fun W => at_r k W (by omega))
 have CC:Hid (∀ W,Calls Tryz.prog 92 #[.agg #[.int .i64 (dir k).1,.int .i64 (dir k).2],.agg #[.int .i64 v.1,.int .i64 v.2]] W fun e w' => e=.returned (.int .i64 (xc (dir k) v))∧Grew W w'):=Lib.hid (fun W => cross_9 _ _ W (nr_dir k) hv)
 have kV:=Lib.hid (Blk.new w #[.int .i64 v.1,.int .i64 v.2] 24)
 have G0:Grew w (w.alloc (.cells #[.int .i64 v.1,.int .i64 v.2] 24)):=(Grew.refl w).alloc _ _
 obtain ⟨m0,m1⟩:=mul_in2 (nr_dir k).1 hv.1
 obtain ⟨n0,n1⟩:=mul_in2 (nr_dir k).2 hv.2
 have DD:Hid ((dir k).1 * v.1+(dir k).2 * v.2=dd (dir k) v):=Lib.hid rfl
 generalize xc (dir k) v=s at ONE CC
 generalize dir k=r at AC CC m0 m1 n0 n1 DD ONE
 obtain ⟨r1,r2⟩:=r
 obtain ⟨x,y⟩:=v
 simp only at AC CC m0 m1 n0 n1 DD kV G0 ⊢
 obtain ⟨a,ha⟩:∃ a,r1 * x=a:=⟨_,rfl⟩
 obtain ⟨b,hb⟩:∃ b,r2 * y=b:=⟨_,rfl⟩
 have W1:IntKind.i64.wrap (r1 * x)=a:=by rw [IntWalk.i64_in _ ⟨by omega,by omega⟩];exact ha
 have DD:Hid (a+b=dd (r1,r2) (x,y)):=Lib.hid (by rw [← ha,← hb];exact DD.out)
 clear hv
 by_cases hs:s=0
 ·obtain ⟨r,hr⟩:∃ r,decide (On k (x,y))=r:=⟨_,rfl⟩
  rw [hr]
  have FIN:Hid (decide (0 < a+b)=r):=Lib.hid (by
   rw [← hr]
   congr 1
   apply propext
   rw [ONE.out,← DD.out]
   exact ⟨fun h => ⟨hs,h⟩,fun h => h.2⟩)
  clear hr ONE DD
  subst hs
  go_enter Tryz.func91,Tryz.ntmps91
  go_wp2_with fail
  refine (AC.out _).mono ?_
  rintro e w1 ⟨rfl,g1⟩
  have G1:=Grew.trans G0 g1
  have kV1:=kV.out.grown g1
  obtain ⟨⟨c0,c1⟩,_,_⟩:=kV1.two
  have lV:=kV1.lt
  have lV1:w.heap.size < w1.heap.size+1:=by omega
  have kR:=Lib.hid (Blk.new w1 #[.int .i64 r1,.int .i64 r2] 24)
  have kV2:=Lib.hid (kV1.alloc (.cells #[.int .i64 r1,.int .i64 r2] 24))
  have G2:=Lib.hid (G1.alloc #[.int .i64 r1,.int .i64 r2] 24)
  clear g1
  go_wp2_with fail
  refine (CC.out _).mono ?_
  rintro e w2 ⟨rfl,g2⟩
  have kR2:=kR.out.grown g2
  have kV3:=kV2.out.grown g2
  have G3:=Lib.hid (G2.out.trans g2)
  clear c0 c1 lV lV1 g2 kV1 G1
  obtain ⟨⟨c0,c1⟩,_,_⟩:=kV3.two
  obtain ⟨⟨f0,f1⟩,_,_⟩:=kR2.two
  have lV:=kV3.lt
  have lR:=kR2.lt
  go_wp2_with fail
  go_ret
  have G:=G3.out
  exact ⟨by first | (simp [← FIN.out];done) | (simp [← FIN.out];done),gw⟩
 ·have hs2:(s == 0)=false:=by rw [beq_eq_false_iff_ne];exact hs
  rw [decide_eq_false (fun h => hs (ONE.out.1 h).1)]
  clear ONE DD
  go_enter Tryz.func91,Tryz.ntmps91
  go_wp2_with fail
  refine (AC.out _).mono ?_
  rintro e w1 ⟨rfl,g1⟩
  have G1:=Grew.trans G0 g1
  have kV1:=kV.out.grown g1
  obtain ⟨⟨c0,c1⟩,_,_⟩:=kV1.two
  have lV:=kV1.lt
  have lV1:w.heap.size < w1.heap.size+1:=by omega
  have G2:=Lib.hid (G1.alloc #[.int .i64 r1,.int .i64 r2] 24)
  clear g1
  go_wp2_with fail
  refine (CC.out _).mono ?_
  rintro e w2 ⟨rfl,g2⟩
  have G:=G2.out.trans g2
  clear c0 c1 lV lV1 g2 kV1 G1
  go_wp2_with fail
  go_ret
  exact ⟨by first | rfl | (simp;done),gw⟩
end Ry
end Go.Proofs.YtbpgfenippiepaaGreatDoor
namespace Go.Proofs.YtbpgfenippiepaaGreatDoor
open Go.RowKit Hl
namespace Ry
set_option maxRecDepth 100000
def Near (v:Pt):Prop:=(-1000000≤v.1∧v.1≤1000000)∧(-1000000≤v.2∧v.2≤1000000)
theorem Vec.near {v:Pt} (h:Vec v):Near v:=h.1
end Ry
end Go.Proofs.YtbpgfenippiepaaGreatDoor
namespace Go.Proofs.YtbpgfenippiepaaGreatDoor
open Go.RowKit Go.Shelf Hl Ex
attribute [local go_sem] Oper.semAt_some
namespace Ry
set_option maxRecDepth 100000
theorem ownAt_new (B:Nat) (w:World) (p:List Pt) (cs:Array Value) (h:(cellsOf p).toArray=cs) (hB:B≤w.heap.size) (hl:p.length≤4000):OwnAt B (w.alloc (.cells cs 24)) w.heap.size p.length p:=by
 refine ⟨hB,Nat.le_refl _,by unfold maxLen;omega,cs,World.alloc_heap_new w _,?_,fun i hi => ?_⟩
 ·rw [← h,List.size_toArray,cellsOf_len]
 ·have:=cellsOf_at p i hi
  subst h
  rw [List.getElem?_toArray,List.getElem?_toArray]
  exact this
theorem sc_in {c n d:Int} (hc:-1000≤c∧c≤1000) (h0:0≤n) (h1:n≤100000) (hd:d=998∨d=1001):Sc c n d∧Sp (fl (c * n) d)∧Sp (ce (c * n) d):=by
 have p:=prod_bd hc h0 h1
 have s1:=fl_spec (c * n) (b:=d) (by omega)
 have s2:=ce_spec (c * n) (b:=d) (by omega)
 unfold Sc Sp
 generalize fl (c * n) d=f at *
 generalize ce (c * n) d=g at *
 rcases hd with rfl | rfl <;> omega
def RndSays (r:Pt) (n d:Int) (w:World) (e:Ending) (w':World):Prop:=∃ g,e=.returned (.slice (some ⟨g,0,none⟩) 4 4)∧OwnAt w.heap.size w' g 4 (bx r n d)∧Grew w w'
set_option maxHeartbeats 1000000 in
theorem rounded_c (r:Pt) (n d:Int) (w:World) (hr:(-1000≤r.1∧r.1≤1000)∧(-1000≤r.2∧r.2≤1000)) (h0:0≤n) (h1:n≤100000) (hd:d=998∨d=1001):Calls Tryz.prog 101 #[.agg #[.int .i64 r.1,.int .i64 r.2],.int .i64 n,.int .i64 d] w (RndSays r n d w):=by
 obtain ⟨a1,a2,a3⟩:=sc_in hr.1 h0 h1 hd
 obtain ⟨b1,b2,b3⟩:=sc_in hr.2 h0 h1 hd
 have SX:Hid (∀ W,Calls Tryz.prog 138 #[.int .i64 r.1,.int .i64 n,.int .i64 d] W fun e w' => e=.returned (.tuple #[.int .i64 (fl (r.1 * n) d),.int .i64 (ce (r.1 * n) d),.int .i64 0])∧Grew W w'):=Lib.hid (fun W => scale_g _ _ _ W a1 a2 a3)
 have SY:Hid (∀ W,Calls Tryz.prog 138 #[.int .i64 r.2,.int .i64 n,.int .i64 d] W fun e w' => e=.returned (.tuple #[.int .i64 (fl (r.2 * n) d),.int .i64 (ce (r.2 * n) d),.int .i64 0])∧Grew W w'):=Lib.hid (fun W => scale_g _ _ _ W b1 b2 b3)
 have EB:Hid (bx r n d=[(fl (r.1 * n) d,fl (r.2 * n) d),(ce (r.1 * n) d,fl (r.2 * n) d),(fl (r.1 * n) d,ce (r.2 * n) d),(ce (r.1 * n) d,ce (r.2 * n) d)]):=Lib.hid rfl
 have kA:=Lib.hid (Blk.new w #[.int .i64 r.1,.int .i64 r.2] 24)
 have G0:Grew w (w.alloc (.cells #[.int .i64 r.1,.int .i64 r.2] 24)):=(Grew.refl w).alloc _ _
 generalize fl (r.1 * n) d=x at SX EB
 generalize ce (r.1 * n) d=X at SX EB
 generalize fl (r.2 * n) d=y at SY EB
 generalize ce (r.2 * n) d=Y at SY EB
 clear a1 a2 a3 b1 b2 b3 hr h0 h1 hd
 go_enter Tryz.func101,Tryz.ntmps101
 go_wp2_with fail
 refine (SX.out _).mono ?_
 rintro e w1 ⟨rfl,g1⟩
 have G1:=Grew.trans G0 g1
 obtain ⟨⟨c0,c1⟩,_,_⟩:=(kA.out.grown g1).two
 have lA:=(kA.out.grown g1).lt
 clear g1 G0
 go_wp2_with fail
 refine (SY.out _).mono ?_
 rintro e w2 ⟨rfl,g2⟩
 have G2:=Grew.trans G1 g2
 clear g2 G1 c0 c1 lA
 go_wp2_with fail
 go_ret
 have h:=ownAt_new w.heap.size w2 (bx r n d) _ rfl G2.size (by rw [EB.out];exact of_decide_eq_true rfl)
 rw [EB.out] at h
 refine ⟨_,rfl,?_,?_⟩
 ·rw [EB.out]
  exact h
 ·exact gw
def KeptL (L:List Nat) (W W':World):Prop:=W.heap.size≤W'.heap.size∧∀ k,k ∈ L→W'.heap[k]? = W.heap[k]?
theorem KeptL.refl (L:List Nat) (W:World):KeptL L W W:=⟨Nat.le_refl _,fun _ _ => rfl⟩
theorem KeptL.trans {L:List Nat} {X Y Z:World} (h:KeptL L X Y) (k:KeptL L Y Z):KeptL L X Z:=⟨Nat.le_trans h.1 k.1,fun i hi => (k.2 i hi).trans (h.2 i hi)⟩
theorem KeptL.cell {L:List Nat} {W W':World} (h:KeptL L W W') {k o:Nat} (hk:k ∈ L):W'.cell? ⟨k,o,none⟩=W.cell? ⟨k,o,none⟩:=World.cell?_of_block (a:=⟨k,o,none⟩) (h.2 k hk)
theorem KeptL.grown {L:List Nat} {X Y Z:World} {row:Option Nat} (h:KeptL L X Y) (g:Y.grownBy Z row) (hL:∀ k,k ∈ L→k < Y.heap.size) (hr:∀ k,row=some k→k ∉ L):KeptL L X Z :=
 ⟨Nat.le_trans h.1 g.size,fun k hk => (g.block k (hL k hk) (fun e => hr k e.symm hk)).trans (h.2 k hk)⟩
theorem KeptL.grew {L:List Nat} {X Y Z:World} (h:KeptL L X Y) (g:Grew Y Z) (hL:∀ k,k ∈ L→k < Y.heap.size):KeptL L X Z :=
 ⟨Nat.le_trans h.1 g.size,fun k hk => (g.block k (hL k hk)).trans (h.2 k hk)⟩
theorem grownBy_grew {X Y:World} (g:Grew X Y):X.grownBy Y none:=⟨g.os,g.tape,g.output,g.size,fun k hk _ => g.block k hk⟩
theorem keptL_put (L:List Nat) (W:World) (l:Nat) (o':Obj) (hl:∀ k,k ∈ L→k < l):KeptL L W (W.putObj l o') :=
 ⟨(grownBy_putObj' W l o').size,fun k hk => World.putObj_heap_other (by have:=hl k hk;omega)⟩
theorem Tq.kept {L:List Nat} {W W':World} (h:Tq W) (k:KeptL L W W') (hq:0 ∈ L):Tq W' :=
 ⟨Nat.lt_of_lt_of_le h.1 k.1,fun j hj => ⟨(k.cell hq).trans (h.2 j hj).1,(k.cell hq).trans (h.2 j hj).2⟩⟩
def encD (a k:Nat):Array Value:=#[.agg #[.int .i64 (dir (a+k)).1,.int .i64 (dir (a+k)).2]]
theorem rays_in (n:Nat) (a m:Int) (w:World) :
  CallsIn Fence.wide n Tryz.prog 102 #[.int .i64 a,.int .i64 m] w fun e w' => e=.returned (.func (.func 139) #[] #[.pointer (some ⟨w.heap.size+1,0,none⟩),.pointer (some ⟨w.heap.size,0,none⟩)])∧w'=(w.alloc (.cells #[.int .i64 a] 3)).alloc (.cells #[.int .i64 m] 3):=by
 refine callsIn_of_wp Tryz.func102 rfl trivial ?_ rfl
 simp only [Tryz.ntmps102,List.size_toArray,List.length_cons,List.length_nil,Nat.reduceAdd,Nat.reduceSub,Array.replicate_succ,Array.replicate_zero,List.push_toArray,List.append_toArray,List.nil_append,List.cons_append]
 gi_wp2
 go_ret
 exact ⟨rfl,rfl⟩
set_option maxHeartbeats 4000000 in
theorem rays1_in (n:Nat) (hn:1≤n) (l Bn Ba:Nat) (L:List Nat) (a m:Nat) (ham:a+m < 128) (J Jx:List Nat→World→Prop)
  (W:World) (hJ:AbidesFrom W.heap.size J)
  (hY:∀ pre k W1,J pre W1→pre.length < m+1→YieldAt Fence.wide (n - 1) Tryz.prog l (encD a k) W1 fun e W' =>
   (e=.returned (.bool true)∧J (pre ++ [k]) W'∧KeptL L W1 W')∨(e=.returned (.bool false)∧Jx (pre ++ [k]) W'))
  (hL:∀ k,k ∈ L→k < W.heap.size) (hBn:Bn ∈ L) (hBa:Ba ∈ L) (hq:0 ∈ L) (cn:W.cell? ⟨Bn,0,none⟩=some (.int .i64 m)) (ca:W.cell? ⟨Ba,0,none⟩=some (.int .i64 a)) (hT:Tq W) (h0:J [] W) :
  CallsIn Fence.wide n Tryz.prog 139 #[.func (.yield l) #[] #[],.pointer (some ⟨Bn,0,none⟩),.pointer (some ⟨Ba,0,none⟩)] W fun e W' => (∃ v,e=.returned v) ∧
   ((∃ ys,ys=List.range (m+1)∧J ys W')∨(∃ pre,(∃ k,k≤m+1∧pre=List.range k)∧Jx pre W')):=by
 have HY:=Lib.hid hY
 have HJ:=Lib.hid hJ
 have HL:=Lib.hid hL
 have HT:=Lib.hid hT
 have CN:=Lib.hid cn
 have CA:=Lib.hid ca
 have DC:Hid (∀ k,k≤m→∀ W',Tq W'→CallsIn Fence.wide (n - 1) Tryz.prog 79 #[.int .i64 ((a:Int)+(k:Int))] W' fun e w' => e=.returned (.agg #[.int .i64 (dir (a+k)).1,.int .i64 (dir (a+k)).2])∧Grew W' w'):=Lib.hid (fun k hk W' t => callsIn_wide.2 (by
  have h:=direction_c (a+k) W' t (by omega)
  rwa [Int.natCast_add] at h))
 have lBn:=hL Bn hBn
 have lBa:=hL Ba hBa
 have m0:(0:Int)≤(m:Int):=by omega
 have m1:(m:Int) < 128:=by omega
 have a0:(0:Int)≤(a:Int):=by omega
 have a1:(a:Int) < 128:=by omega
 clear hY hJ hT hL
 refine callsIn_of_wp Tryz.func139 rfl trivial ?_ rfl
 simp only [Tryz.ntmps139,List.size_toArray,List.length_cons,List.length_nil,Nat.reduceAdd,Nat.reduceSub,Array.replicate_succ,Array.replicate_zero,List.push_toArray,List.append_toArray,List.nil_append,List.cons_append]
 gi_wp2_with fail
 clear cn ca lBn lBa
 gi_loopw [7,4] (fun i _ wr => ∃ k:Nat,k≤m+1∧i=.int .i64 k∧Hid (J (List.range k) wr∧KeptL L W wr)) (fun i _ _ => m+1 - (intOf i).toNat)
 case atStart => exact ⟨0,Nat.zero_le _,rfl,Lib.hid ⟨h0,KeptL.refl _ _⟩⟩
 case round =>
  clear h0
  obtain ⟨k,hk,rfl,HK⟩:=hrel
  have k0:(0:Int)≤(k:Int):=by omega
  by_cases hlt:k < m+1
  ·have ca:=(HK.out.2.cell (o:=0) hBa).trans CA.out
   have lBa:Ba < wr.heap.size:=by have h1:=HL.out Ba hBa;have h2:=HK.out.2.1;omega
   have klt:(k:Int) < (m:Int)+1:=by omega
   have D1:=Lib.hid (DC.out k (by omega) wr (HT.out.kept HK.out.2 hq))
   have ENC:Hid (encD a k = #[.agg #[.int .i64 (dir (a+k)).1,.int .i64 (dir (a+k)).2]]):=Lib.hid rfl
   have K1:Hid (k≤m∧1≤n - 1+1):=Lib.hid ⟨by omega,by omega⟩
   generalize dir (a+k)=p at D1 ENC
   gi_wp2_with fail
   refine ⟨trivial,D1.out.mono ?_⟩
   rintro e w1 ⟨rfl,g1⟩
   have hJ1:J (List.range k) w1:=HJ.out _ _ _ none HK.out.1 (grownBy_grew g1) (fun r e => by cases e)
   have KW:Hid (KeptL L W w1):=Lib.hid (HK.out.2.grew g1 (fun j hj => Nat.lt_of_lt_of_le (HL.out j hj) HK.out.2.1))
   obtain ⟨fn,tmps,assign,body,hy,hR⟩:=HY.out _ k _ hJ1 (by have:=K1.out.1;rw [List.length_range];omega)
   have hR':=hR.mono (R':=fun e W' => ∃ r:Bool,e=.returned (.bool r)∧Hid ((r=true→J (List.range (k+1)) W'∧KeptL L W W')∧(r=false→Jx (List.range (k+1)) W'))) (by
    rintro e W' (⟨rfl,h1,h2⟩ | ⟨rfl,h1⟩)
    ·exact ⟨true,rfl,Lib.hid ⟨fun _ => ⟨by rw [List.range_succ];exact h1,KW.out.trans h2⟩,fun h => by cases h⟩⟩
    ·exact ⟨false,rfl,Lib.hid ⟨fun h => (by cases h),fun _ => (by rw [List.range_succ];exact h1)⟩⟩)
   clear hR hJ1 HK KW D1 ca lBa g1
   rw [ENC.out] at hy
   clear ENC
   gi_wp2_with fail
   refine hR'.mono ?_
   rintro e W3 ⟨r,rfl,hjr⟩
   cases r
   ·have F:=Lib.hid (hjr.out.2 (by first | rfl | trivial))
    clear hjr
    gi_wp2_with fail
    refine bodyPost_ret (results_none rfl _ _ _) rfl ?_
    exact ⟨⟨_,rfl⟩,.inr ⟨_,⟨k+1,by omega,rfl⟩,F.out⟩⟩
   ·have F:=Lib.hid (hjr.out.1 (by first | rfl | trivial))
    clear hjr
    gi_wp2_with fail
    go_roundw
    case rel => exact ⟨k+1,by omega,by go_num,F⟩
    case measure => simp [intOf];omega
  ·obtain rfl:k=m+1:=by omega
   gi_wp2
   go_end0
   exact ⟨⟨_,rfl⟩,.inl ⟨_,rfl,HK.out.1⟩⟩
theorem rays_stops (n:Nat) (hn:1≤n) (Bn Ba:Nat) (L:List Nat) (a m:Nat) (ham:a+m < 128) (w:World) (hL:∀ k,k ∈ L→k < w.heap.size) (hBn:Bn ∈ L) (hBa:Ba ∈ L) (hq:0 ∈ L)
  (cn:w.cell? ⟨Bn,0,none⟩=some (.int .i64 m)) (ca:w.cell? ⟨Ba,0,none⟩=some (.int .i64 a)) (hT:Tq w) :
  SeqStopsK Fence.wide n Tryz.prog 139 #[.pointer (some ⟨Bn,0,none⟩),.pointer (some ⟨Ba,0,none⟩)] (encD a) (KeptL L) (fun ys => ys=List.range (m+1)) (fun pre => ∃ k,k≤m+1∧pre=List.range k) (m+1) w :=
 fun l J Jx W hW hJ _hJx hY h0 => rays1_in n hn l Bn Ba L a m ham J Jx W hJ hY (fun k hk => Nat.lt_of_lt_of_le (hL k hk) hW.size) hBn hBa hq ((Grew.cell hW (hL _ hBn)).trans cn) ((Grew.cell hW (hL _ hBa)).trans ca) (hT.grew hW) h0
end Ry
end Go.Proofs.YtbpgfenippiepaaGreatDoor
