/-
  Plain geometry: what the least values say of a polygon; the eight-sided hull.
  Plain geometry: corners of a hull are its own.
  Plain geometry: with a further place the area of a hull is greater.
  Plain geometry: sides that have all points on their left, and turn left, are the sides of a hull.
  Plain geometry of sums of polygons: all sums, reaches, order, shifts, mirrors. No program.
  Plain geometry: a sum has at most as many corners as both polygons together. No program.
  Plain geometry of disks with eight sides. No program.
-/
import Derived.Test.YtbpgfenippiepaaGreatDoorMHullInB
import Derived.Test.YtbpgfenippiepaaGreatDoorMCutGeo
namespace Go.Proofs.YtbpgfenippiepaaGreatDoor
namespace Hl
theorem hs_of_least {q:List Pt} {x:Pt} (L:List Pt) (hq:Pg q) (hL:∀ y,y ∈ L→Hs q y) (h:∀ u v k:Int,∃ y,y ∈ L∧af u v k y≤af u v k x):Hs q x:=by
 by_cases h1:q.length=1
 ·rw [hs1 h1]
  have key:∀ y,y ∈ L→y=at' q 0:=fun y hy => ((hs1 h1).1 (hL y hy)).symm
  obtain ⟨y1,m1,e1⟩:=h 1 0 0
  obtain ⟨y2,m2,e2⟩:=h (-1) 0 0
  obtain ⟨y3,m3,e3⟩:=h 0 1 0
  obtain ⟨y4,m4,e4⟩:=h 0 (-1) 0
  rw [key _ m1] at e1
  rw [key _ m2] at e2
  rw [key _ m3] at e3
  rw [key _ m4] at e4
  unfold af at e1 e2 e3 e4
  exact Prod.ext (by omega) (by omega)
 ·by_cases h2:q.length=2
  ·rw [hs2 h2]
   have key:∀ y,y ∈ L→cr (at' q 0) (at' q 1) y=0∧btw (at' q 0) (at' q 1) y:=fun y hy => (hs2 h2).1 (hL y hy)
   have hl:=hq.2.1 1 (by omega) (by omega)
   refine ⟨?_,?_⟩
   ·have c1:0≤cr (at' q 0) (at' q 1) x:=by
     obtain ⟨y,m,e⟩:=h (-((at' q 1).2 - (at' q 0).2)) ((at' q 1).1 - (at' q 0).1) (((at' q 1).2 - (at' q 0).2) * (at' q 0).1 - ((at' q 1).1 - (at' q 0).1) * (at' q 0).2)
     rw [← cr_af,← cr_af,(key y m).1] at e
     exact e
    have c2:0≤cr (at' q 1) (at' q 0) x:=by
     obtain ⟨y,m,e⟩:=h (-((at' q 0).2 - (at' q 1).2)) ((at' q 0).1 - (at' q 1).1) (((at' q 0).2 - (at' q 1).2) * (at' q 1).1 - ((at' q 0).1 - (at' q 1).1) * (at' q 1).2)
     rw [← cr_af,← cr_af,cr_swap2,(key y m).1] at e
     exact e
    rw [cr_swap2] at c2
    omega
   ·obtain ⟨y1,m1,e1⟩:=h 1 0 0
    obtain ⟨y2,m2,e2⟩:=h (-1) 0 0
    obtain ⟨y3,m3,e3⟩:=h 0 1 0
    obtain ⟨y4,m4,e4⟩:=h 0 (-1) 0
    have k1:=(key _ m1).2
    have k2:=(key _ m2).2
    have k3:=(key _ m3).2
    have k4:=(key _ m4).2
    unfold af at e1 e2 e3 e4
    unfold btw at k1 k2 k3 k4 ⊢
    unfold ls at hl
    omega
  ·have h3:3≤q.length:=by have:=hq.1;omega
   rw [hs3 h3]
   intro i hi
   obtain ⟨y,m,e⟩:=h (-((at' q ((i+1) % q.length)).2 - (at' q i).2)) ((at' q ((i+1) % q.length)).1 - (at' q i).1) (((at' q ((i+1) % q.length)).2 - (at' q i).2) * (at' q i).1 - ((at' q ((i+1) % q.length)).1 - (at' q i).1) * (at' q i).2)
   rw [← cr_af,← cr_af] at e
   have:=(hs3 h3).1 (hL y m) i hi
   omega
theorem count_le (P:Nat→Pt):∀ (n:Nat) (L:List Pt),(∀ i j,i < n→j < n→i ≠ j→P i ≠ P j)→(∀ i,i < n→P i ∈ L)→n≤L.length
 | 0,_,_,_ => Nat.zero_le _
 | n+1,L,hd,hm => by
   have h:=count_le P n (L.erase (P n)) (fun i j hi hj => hd i j (by omega) (by omega)) (fun i hi => (List.mem_erase_of_ne (hd i n (by omega) (by omega) (by omega))).2 (hm i (by omega)))
   rw [List.length_erase_of_mem (hm n (by omega))] at h
   have:0 < L.length:=List.length_pos_of_mem (hm n (by omega))
   omega
theorem pg_distinct {q:List Pt} (h:Pg q) {i j:Nat} (hi:i < q.length) (hj:j < q.length) (hne:i ≠ j):at' q i ≠ at' q j:=by
 by_cases h3:3≤q.length
 ·exact corners_ne (h.2.2 (by omega)) h3 hi hj hne
 ·have h2:=pg_ne h (by omega)
  by_cases e:i=0
  ·obtain rfl:j=1:=by omega
   subst e;exact h2
  ·obtain rfl:i=1:=by omega
   obtain rfl:j=0:=by omega
   exact fun e => h2 e.symm
structure Bd (a b c d s t i j:Int):Prop where
 wa:∃ x y:Int,x=a∧(a≤x∧x≤b)∧(c≤y∧y≤d)∧(s≤x+y∧x+y≤t)∧(i≤x - y∧x - y≤j)
 wb:∃ x y:Int,x=b∧(a≤x∧x≤b)∧(c≤y∧y≤d)∧(s≤x+y∧x+y≤t)∧(i≤x - y∧x - y≤j)
 wc:∃ x y:Int,y=c∧(a≤x∧x≤b)∧(c≤y∧y≤d)∧(s≤x+y∧x+y≤t)∧(i≤x - y∧x - y≤j)
 wd:∃ x y:Int,y=d∧(a≤x∧x≤b)∧(c≤y∧y≤d)∧(s≤x+y∧x+y≤t)∧(i≤x - y∧x - y≤j)
 ws:∃ x y:Int,x+y=s∧(a≤x∧x≤b)∧(c≤y∧y≤d)∧(s≤x+y∧x+y≤t)∧(i≤x - y∧x - y≤j)
 wt:∃ x y:Int,x+y=t∧(a≤x∧x≤b)∧(c≤y∧y≤d)∧(s≤x+y∧x+y≤t)∧(i≤x - y∧x - y≤j)
 wi:∃ x y:Int,x - y=i∧(a≤x∧x≤b)∧(c≤y∧y≤d)∧(s≤x+y∧x+y≤t)∧(i≤x - y∧x - y≤j)
 wj:∃ x y:Int,x - y=j∧(a≤x∧x≤b)∧(c≤y∧y≤d)∧(s≤x+y∧x+y≤t)∧(i≤x - y∧x - y≤j)
def Keeps (a b c d s t i j:Int) (x:Pt):Prop:=(a≤x.1∧x.1≤b)∧(c≤x.2∧x.2≤d)∧(s≤x.1+x.2∧x.1+x.2≤t)∧(i≤x.1 - x.2∧x.1 - x.2≤j)
theorem oct_keeps {a b c d s t i j:Int} (h:Bd a b c d s t i j):∀ x,x ∈ octL a b c d s t i j→Keeps a b c d s t i j x:=by
 intro x hx
 unfold octL at hx
 simp only [List.mem_cons,List.not_mem_nil,or_false] at hx
 rcases hx with rfl | rfl | rfl | rfl | rfl | rfl | rfl | rfl
 ·obtain ⟨x1,y1,e1,⟨_,_⟩,⟨_,_⟩,⟨_,_⟩,⟨_,_⟩⟩:=h.wb
  obtain ⟨x2,y2,e2,⟨_,_⟩,⟨_,_⟩,⟨_,_⟩,⟨_,_⟩⟩:=h.wj
  unfold Keeps
  simp only
  omega
 ·obtain ⟨x1,y1,e1,⟨_,_⟩,⟨_,_⟩,⟨_,_⟩,⟨_,_⟩⟩:=h.wb
  obtain ⟨x2,y2,e2,⟨_,_⟩,⟨_,_⟩,⟨_,_⟩,⟨_,_⟩⟩:=h.wt
  unfold Keeps
  simp only
  omega
 ·obtain ⟨x1,y1,e1,⟨_,_⟩,⟨_,_⟩,⟨_,_⟩,⟨_,_⟩⟩:=h.wt
  obtain ⟨x2,y2,e2,⟨_,_⟩,⟨_,_⟩,⟨_,_⟩,⟨_,_⟩⟩:=h.wd
  unfold Keeps
  simp only
  omega
 ·obtain ⟨x1,y1,e1,⟨_,_⟩,⟨_,_⟩,⟨_,_⟩,⟨_,_⟩⟩:=h.wd
  obtain ⟨x2,y2,e2,⟨_,_⟩,⟨_,_⟩,⟨_,_⟩,⟨_,_⟩⟩:=h.wi
  unfold Keeps
  simp only
  omega
 ·obtain ⟨x1,y1,e1,⟨_,_⟩,⟨_,_⟩,⟨_,_⟩,⟨_,_⟩⟩:=h.wa
  obtain ⟨x2,y2,e2,⟨_,_⟩,⟨_,_⟩,⟨_,_⟩,⟨_,_⟩⟩:=h.wi
  unfold Keeps
  simp only
  omega
 ·obtain ⟨x1,y1,e1,⟨_,_⟩,⟨_,_⟩,⟨_,_⟩,⟨_,_⟩⟩:=h.wa
  obtain ⟨x2,y2,e2,⟨_,_⟩,⟨_,_⟩,⟨_,_⟩,⟨_,_⟩⟩:=h.ws
  unfold Keeps
  simp only
  omega
 ·obtain ⟨x1,y1,e1,⟨_,_⟩,⟨_,_⟩,⟨_,_⟩,⟨_,_⟩⟩:=h.ws
  obtain ⟨x2,y2,e2,⟨_,_⟩,⟨_,_⟩,⟨_,_⟩,⟨_,_⟩⟩:=h.wc
  unfold Keeps
  simp only
  omega
 ·obtain ⟨x1,y1,e1,⟨_,_⟩,⟨_,_⟩,⟨_,_⟩,⟨_,_⟩⟩:=h.wc
  obtain ⟨x2,y2,e2,⟨_,_⟩,⟨_,_⟩,⟨_,_⟩,⟨_,_⟩⟩:=h.wj
  unfold Keeps
  simp only
  omega
theorem oct_least {a b c d s t i j:Int} {x:Pt} (h:Keeps a b c d s t i j x) (u v k:Int):∃ y,y ∈ octL a b c d s t i j∧af u v k y≤af u v k x:=by
 obtain ⟨⟨h1,h2⟩,⟨h3,h4⟩,⟨h5,h6⟩,⟨h7,h8⟩⟩:=h
 by_cases hu:0≤u
 ·by_cases hv:0≤v
  ·by_cases hc:v≤u
   ·refine ⟨(a,s - a),by simp [octL],?_⟩
    have p1:=Int.mul_nonneg (show 0≤u - v by omega) (show 0≤x.1 - a by omega)
    have p2:=Int.mul_nonneg hv (show 0≤x.1+x.2 - s by omega)
    have e:af u v k x - af u v k (a,s - a)=(u - v) * (x.1 - a)+v * (x.1+x.2 - s):=by unfold af;grind
    omega
   ·refine ⟨(s - c,c),by simp [octL],?_⟩
    have p1:=Int.mul_nonneg (show 0≤v - u by omega) (show 0≤x.2 - c by omega)
    have p2:=Int.mul_nonneg hu (show 0≤x.1+x.2 - s by omega)
    have e:af u v k x - af u v k (s - c,c)=(v - u) * (x.2 - c)+u * (x.1+x.2 - s):=by unfold af;grind
    omega
  ·by_cases hc:-v≤u
   ·refine ⟨(a,a - i),by simp [octL],?_⟩
    have p1:=Int.mul_nonneg (show 0≤u+v by omega) (show 0≤x.1 - a by omega)
    have p2:=Int.mul_nonneg (show 0≤-v by omega) (show 0≤x.1 - x.2 - i by omega)
    have e:af u v k x - af u v k (a,a - i)=(u+v) * (x.1 - a)+(-v) * (x.1 - x.2 - i):=by unfold af;grind
    omega
   ·refine ⟨(d+i,d),by simp [octL],?_⟩
    have p1:=Int.mul_nonneg (show 0≤-(u+v) by omega) (show 0≤d - x.2 by omega)
    have p2:=Int.mul_nonneg hu (show 0≤x.1 - x.2 - i by omega)
    have e:af u v k x - af u v k (d+i,d)=(-(u+v)) * (d - x.2)+u * (x.1 - x.2 - i):=by unfold af;grind
    omega
 ·by_cases hv:0≤v
  ·by_cases hc:v≤-u
   ·refine ⟨(b,b - j),by simp [octL],?_⟩
    have p1:=Int.mul_nonneg (show 0≤-(u+v) by omega) (show 0≤b - x.1 by omega)
    have p2:=Int.mul_nonneg hv (show 0≤j - (x.1 - x.2) by omega)
    have e:af u v k x - af u v k (b,b - j)=(-(u+v)) * (b - x.1)+v * (j - (x.1 - x.2)):=by unfold af;grind
    omega
   ·refine ⟨(c+j,c),by simp [octL],?_⟩
    have p1:=Int.mul_nonneg (show 0≤u+v by omega) (show 0≤x.2 - c by omega)
    have p2:=Int.mul_nonneg (show 0≤-u by omega) (show 0≤j - (x.1 - x.2) by omega)
    have e:af u v k x - af u v k (c+j,c)=(u+v) * (x.2 - c)+(-u) * (j - (x.1 - x.2)):=by unfold af;grind
    omega
  ·by_cases hc:-v≤-u
   ·refine ⟨(b,t - b),by simp [octL],?_⟩
    have p1:=Int.mul_nonneg (show 0≤-(u - v) by omega) (show 0≤b - x.1 by omega)
    have p2:=Int.mul_nonneg (show 0≤-v by omega) (show 0≤t - (x.1+x.2) by omega)
    have e:af u v k x - af u v k (b,t - b)=(-(u - v)) * (b - x.1)+(-v) * (t - (x.1+x.2)):=by unfold af;grind
    omega
   ·refine ⟨(t - d,d),by simp [octL],?_⟩
    have p1:=Int.mul_nonneg (show 0≤-(v - u) by omega) (show 0≤d - x.2 by omega)
    have p2:=Int.mul_nonneg (show 0≤-u by omega) (show 0≤t - (x.1+x.2) by omega)
    have e:af u v k x - af u v k (t - d,d)=(-(v - u)) * (d - x.2)+(-u) * (t - (x.1+x.2)):=by unfold af;grind
    omega
theorem bd_of {p:List Pt} {a b c d s t i j:Int} (h1:IsMin p 1 0 a) (h2:IsMin p (-1) 0 (-b)) (h3:IsMin p 0 1 c) (h4:IsMin p 0 (-1) (-d)) (h5:IsMin p 1 1 s) (h6:IsMin p (-1) (-1) (-t)) (h7:IsMin p 1 (-1) i) (h8:IsMin p (-1) 1 (-j)):Bd a b c d s t i j∧∀ x,x ∈ p→Keeps a b c d s t i j x:=by
 have K:∀ x,x ∈ p→Keeps a b c d s t i j x:=by
  intro x hx
  have e1:=h1.2 x hx
  have e2:=h2.2 x hx
  have e3:=h3.2 x hx
  have e4:=h4.2 x hx
  have e5:=h5.2 x hx
  have e6:=h6.2 x hx
  have e7:=h7.2 x hx
  have e8:=h8.2 x hx
  unfold Keeps
  omega
 refine ⟨⟨?_,?_,?_,?_,?_,?_,?_,?_⟩,K⟩
 ·obtain ⟨x,hx,e⟩:=h1.1
  exact ⟨x.1,x.2,by omega,K x hx⟩
 ·obtain ⟨x,hx,e⟩:=h2.1
  exact ⟨x.1,x.2,by omega,K x hx⟩
 ·obtain ⟨x,hx,e⟩:=h3.1
  exact ⟨x.1,x.2,by omega,K x hx⟩
 ·obtain ⟨x,hx,e⟩:=h4.1
  exact ⟨x.1,x.2,by omega,K x hx⟩
 ·obtain ⟨x,hx,e⟩:=h5.1
  exact ⟨x.1,x.2,by omega,K x hx⟩
 ·obtain ⟨x,hx,e⟩:=h6.1
  exact ⟨x.1,x.2,by omega,K x hx⟩
 ·obtain ⟨x,hx,e⟩:=h7.1
  exact ⟨x.1,x.2,by omega,K x hx⟩
 ·obtain ⟨x,hx,e⟩:=h8.1
  exact ⟨x.1,x.2,by omega,K x hx⟩
theorem min_hull {L q:List Pt} {u v m:Int} (hq:IsHull L q) (hlo:∀ x,x ∈ L→m≤u * x.1+v * x.2) (hat:∃ x,x ∈ L∧u * x.1+v * x.2=m):IsMin q u v m:=by
 obtain ⟨x,hx,e⟩:=hat
 obtain ⟨k,hk,hle⟩:=hs_least hq.1 (hq.2.2 x hx) u v 0
 have hlo':∀ y,y ∈ q→m≤u * y.1+v * y.2:=fun y hy => hlo y (hq.2.1 y hy)
 refine ⟨⟨at' q k,at_mem hk,?_⟩,hlo'⟩
 have:=hlo' _ (at_mem hk)
 unfold af at hle
 omega
theorem oct_min {a b c d s t i j:Int} (B:Bd a b c d s t i j) {q:List Pt} (hq:IsHull (octL a b c d s t i j) q):IsMin q 1 0 a∧IsMin q (-1) 0 (-b)∧IsMin q 0 1 c∧IsMin q 0 (-1) (-d)∧IsMin q 1 1 s∧IsMin q (-1) (-1) (-t)∧IsMin q 1 (-1) i∧IsMin q (-1) 1 (-j):=by
 have K:=oct_keeps B
 refine ⟨?_,?_,?_,?_,?_,?_,?_,?_⟩
 ·exact min_hull hq (fun x hx => by have:=K x hx;unfold Keeps at this;omega) ⟨(a,a - i),by simp [octL],by simp;try omega⟩
 ·exact min_hull hq (fun x hx => by have:=K x hx;unfold Keeps at this;omega) ⟨(b,b - j),by simp [octL],by simp;try omega⟩
 ·exact min_hull hq (fun x hx => by have:=K x hx;unfold Keeps at this;omega) ⟨(s - c,c),by simp [octL],by simp;try omega⟩
 ·exact min_hull hq (fun x hx => by have:=K x hx;unfold Keeps at this;omega) ⟨(t - d,d),by simp [octL],by simp;try omega⟩
 ·exact min_hull hq (fun x hx => by have:=K x hx;unfold Keeps at this;omega) ⟨(a,s - a),by simp [octL],by simp;try omega⟩
 ·exact min_hull hq (fun x hx => by have:=K x hx;unfold Keeps at this;omega) ⟨(b,t - b),by simp [octL],by simp;try omega⟩
 ·exact min_hull hq (fun x hx => by have:=K x hx;unfold Keeps at this;omega) ⟨(d+i,d),by simp [octL],by simp;try omega⟩
 ·exact min_hull hq (fun x hx => by have:=K x hx;unfold Keeps at this;omega) ⟨(b,b - j),by simp [octL],by simp;try omega⟩
theorem oct_facts {p q:List Pt} (hp:Vl p) (h:IsOct p q):Vl q∧q.length≤8∧(∀ r,IsOct q r→r=q)∧(∀ x,Hs p x→Hs q x)∧(∀ lo hi lo' hi',IsBox p lo hi→IsBox q lo' hi'→lo'=lo∧hi'=hi):=by
 obtain ⟨a,b,c,d,s,t,i,j,h1,h2,h3,h4,h5,h6,h7,h8,hq⟩:=h
 obtain ⟨B,K⟩:=bd_of h1 h2 h3 h4 h5 h6 h7 h8
 obtain ⟨m1,m2,m3,m4,m5,m6,m7,m8⟩:=oct_min B hq
 have O:=oct_keeps B
 have hn:q.length≤8:=count_le (at' q) q.length (octL a b c d s t i j) (fun i j hi hj hne => pg_distinct hq.1 hi hj hne) (fun i hi => hq.2.1 _ (at_mem hi))
 have hpl:Plcs q:=fun n hn => by
  have hk:=O _ (hq.2.1 _ (at_mem hn))
  obtain ⟨y1,g1,e1⟩:=h1.1
  obtain ⟨y2,g2,e2⟩:=h2.1
  obtain ⟨y3,g3,e3⟩:=h3.1
  obtain ⟨y4,g4,e4⟩:=h4.1
  obtain ⟨n1,l1,r1⟩:=mem_at g1
  obtain ⟨n2,l2,r2⟩:=mem_at g2
  obtain ⟨n3,l3,r3⟩:=mem_at g3
  obtain ⟨n4,l4,r4⟩:=mem_at g4
  have p1:=hp.2.1 n1 l1
  have p2:=hp.2.1 n2 l2
  have p3:=hp.2.1 n3 l3
  have p4:=hp.2.1 n4 l4
  rw [r1] at p1
  rw [r2] at p2
  rw [r3] at p3
  rw [r4] at p4
  unfold Keeps at hk
  unfold Plc at p1 p2 p3 p4 ⊢
  omega
 refine ⟨vl_of hq.1 (by omega) hpl,hn,?_,?_,?_⟩
 ·intro r ⟨a',b',c',d',s',t',i',j',k1,k2,k3,k4,k5,k6,k7,k8,hr⟩
  obtain rfl:=k1.one m1
  obtain rfl:b'=b:=by have:=k2.one m2;omega
  obtain rfl:=k3.one m3
  obtain rfl:d'=d:=by have:=k4.one m4;omega
  obtain rfl:=k5.one m5
  obtain rfl:t'=t:=by have:=k6.one m6;omega
  obtain rfl:=k7.one m7
  obtain rfl:j'=j:=by have:=k8.one m8;omega
  exact hull_unique hr hq
 ·intro x hx
  have hk:Keeps a b c d s t i j x:=by
   have g:∀ u v m,IsMin p u v m→m≤u * x.1+v * x.2:=by
    intro u v m hm
    obtain ⟨n,hn,hle⟩:=hs_least hp.pg hx u v 0
    have:=hm.2 _ (at_mem hn)
    unfold af at hle
    omega
   have e1:=g _ _ _ h1
   have e2:=g _ _ _ h2
   have e3:=g _ _ _ h3
   have e4:=g _ _ _ h4
   have e5:=g _ _ _ h5
   have e6:=g _ _ _ h6
   have e7:=g _ _ _ h7
   have e8:=g _ _ _ h8
   unfold Keeps
   omega
  exact hs_of_least _ hq.1 hq.2.2 (oct_least hk)
 ·intro lo hi lo' hi' ⟨p1,p2,p3,p4⟩ ⟨q1,q2,q3,q4⟩
  have e1:=p1.one h1
  have e2:=p2.one h2
  have e3:=p3.one h3
  have e4:=p4.one h4
  have f1:=q1.one m1
  have f2:=q2.one m2
  have f3:=q3.one m3
  have f4:=q4.one m4
  exact ⟨Prod.ext (by omega) (by omega),Prod.ext (by omega) (by omega)⟩
theorem box_has {p:List Pt} {lo hi x:Pt} (hp:Pg p) (h:IsBox p lo hi) (hx:Hs p x):lo.1≤x.1∧x.1≤hi.1∧lo.2≤x.2∧x.2≤hi.2:=by
 obtain ⟨p1,p2,p3,p4⟩:=h
 have g:∀ u v m,IsMin p u v m→m≤u * x.1+v * x.2:=by
  intro u v m hm
  obtain ⟨n,hn,hle⟩:=hs_least hp hx u v 0
  have:=hm.2 _ (at_mem hn)
  unfold af at hle
  omega
 have e1:=g _ _ _ p1
 have e2:=g _ _ _ p2
 have e3:=g _ _ _ p3
 have e4:=g _ _ _ p4
 omega
end Hl
end Go.Proofs.YtbpgfenippiepaaGreatDoor
namespace Go.Proofs.YtbpgfenippiepaaGreatDoor
namespace Hl
theorem hull_plcs {l q:List Pt} (h:IsHull l q) (hp:Plcs l):Plcs q:=fun i hi => by
 obtain ⟨j,hj,e⟩:=mem_at (h.2.1 _ (at_mem hi))
 rw [← e];exact hp j hj
theorem hs_corner {p:List Pt} (h:Pg p) {i:Nat} (hi:i < p.length):Hs p (at' p i):=by
 by_cases h1:p.length=1
 ·obtain rfl:i=0:=by omega
  exact (hs1 h1).2 rfl
 ·by_cases h2:p.length=2
  ·rw [hs2 h2]
   by_cases e:i=0
   ·subst e;exact ⟨cr_self _ _,by unfold btw;omega⟩
   ·obtain rfl:i=1:=by omega
    exact ⟨cr_self' _ _,by unfold btw;omega⟩
  ·have h3:3≤p.length:=by have:=h.1;omega
   rw [hs3 h3]
   intro j hj
   by_cases e1:i=j
   ·rw [e1,cr_self];exact Int.le_refl _
   ·by_cases e2:i=(j+1) % p.length
    ·rw [← e2,cr_self'];exact Int.le_refl _
    ·exact Int.le_of_lt (h.2.2 (by omega) j i hj hi e1 e2)
theorem hull_self {q:List Pt} (h:Pg q):IsHull q q:=⟨h,fun _ hx => hx,fun x hx => by
 obtain ⟨i,hi,e⟩:=mem_at hx
 rw [← e];exact hs_corner h hi⟩
end Hl
end Go.Proofs.YtbpgfenippiepaaGreatDoor
namespace Go.Proofs.YtbpgfenippiepaaGreatDoor
namespace Hl
def dt (a b y:Pt):Int:=(b.1 - a.1) * (y.1 - a.1)+(b.2 - a.2) * (y.2 - a.2)
theorem dt_af (a b y:Pt):dt a b y=af (b.1 - a.1) (b.2 - a.2) (-((b.1 - a.1) * a.1+(b.2 - a.2) * a.2)) y:=by unfold dt af;grind
theorem dt_self (a b:Pt):dt a b a=0:=by unfold dt;grind
theorem dt_cr (v a b y:Pt):cr v a b * dt a b y=cr v a y * dt a b b+cr a b y * ((b.1 - a.1) * (v.1 - a.1)+(b.2 - a.2) * (v.2 - a.2)):=by unfold cr dt;grind
theorem dt_cr' (a b n y:Pt):cr a b n * dt b a y=cr b n y * dt b a a+cr a b y * ((a.1 - b.1) * (n.1 - b.1)+(a.2 - b.2) * (n.2 - b.2)):=by unfold cr dt;grind
theorem dt_pos {a b:Pt} (h:a ≠ b):0 < dt a b b:=by
 have e:dt a b b=(b.1 - a.1) * (b.1 - a.1)+(b.2 - a.2) * (b.2 - a.2):=rfl
 rw [e]
 have s1:0≤(b.1 - a.1) * (b.1 - a.1):=by
  rcases Int.le_total 0 (b.1 - a.1) with k | k
  ·exact Int.mul_nonneg k k
  ·have:=Int.mul_nonneg (show 0≤-(b.1 - a.1) by omega) (show 0≤-(b.1 - a.1) by omega)
   rwa [Int.neg_mul_neg] at this
 have s2:0≤(b.2 - a.2) * (b.2 - a.2):=by
  rcases Int.le_total 0 (b.2 - a.2) with k | k
  ·exact Int.mul_nonneg k k
  ·have:=Int.mul_nonneg (show 0≤-(b.2 - a.2) by omega) (show 0≤-(b.2 - a.2) by omega)
   rwa [Int.neg_mul_neg] at this
 by_cases e1:b.1 - a.1=0
 ·have e2:b.2 - a.2 ≠ 0:=fun e2 => h (Prod.ext (by omega) (by omega))
  rcases Int.lt_or_gt_of_ne e2 with k | k
  ·have:=Int.mul_pos (show 0 < -(b.2 - a.2) by omega) (show 0 < -(b.2 - a.2) by omega)
   rw [Int.neg_mul_neg] at this
   omega
  ·have:=Int.mul_pos (show 0 < b.2 - a.2 by omega) (show 0 < b.2 - a.2 by omega)
   omega
 ·rcases Int.lt_or_gt_of_ne e1 with k | k
  ·have:=Int.mul_pos (show 0 < -(b.1 - a.1) by omega) (show 0 < -(b.1 - a.1) by omega)
   rw [Int.neg_mul_neg] at this
   omega
  ·have:=Int.mul_pos (show 0 < b.1 - a.1 by omega) (show 0 < b.1 - a.1 by omega)
   omega
section
variable {l p q:List Pt} {x:Pt}
end
end Hl
end Go.Proofs.YtbpgfenippiepaaGreatDoor
namespace Go.Proofs.YtbpgfenippiepaaGreatDoor
namespace Hl
theorem on_side {v a b n y:Pt} (h1:0 < cr v a b) (h2:0 < cr a b n) (e:cr a b y=0) (g1:0≤cr v a y) (g2:0≤cr b n y):0≤dt a b y∧0≤dt b a y:=by
 have hne:a ≠ b:=fun ee => by rw [ee] at h2;rw [cr_same] at h2;omega
 have d1:=dt_pos hne
 have d2:=dt_pos hne.symm
 have e1:=dt_cr v a b y
 have e2:=dt_cr' a b n y
 rw [e,Int.zero_mul,Int.add_zero] at e1 e2
 refine ⟨nonneg_of h1 ?_,nonneg_of h2 ?_⟩
 ·rw [e1];exact Int.mul_nonneg g1 (Int.le_of_lt d1)
 ·rw [e2];exact Int.mul_nonneg g2 (Int.le_of_lt d2)
theorem mid_zero {u v a b y:Pt} (e:cr a b y=0) (hy:cr u v y=0) (ga:0≤cr u v a) (gb:0≤cr u v b) (h1:0 < dt a b y) (h2:0 < dt b a y):cr u v a=0∧cr u v b=0:=by
 have hne:a ≠ b:=fun ee => by
  rw [ee] at h1
  have:dt b b y=0:=by unfold dt;grind
  omega
 have d:=dt_pos hne
 have k:dt b a y * cr u v a+dt a b y * cr u v b=dt a b b * cr u v y - cr a b y * ((v.1 - u.1) * (b.1 - a.1)+(v.2 - u.2) * (b.2 - a.2)):=by unfold dt cr;grind
 rw [e,hy,Int.mul_zero,Int.zero_mul,Int.sub_zero] at k
 have m1:=Int.mul_nonneg (Int.le_of_lt h2) ga
 have m2:=Int.mul_nonneg (Int.le_of_lt h1) gb
 refine ⟨?_,?_⟩
 ·by_cases z:cr u v a=0
  ·exact z
  ·have:=Int.mul_pos h2 (show 0 < cr u v a by omega)
   omega
 ·by_cases z:cr u v b=0
  ·exact z
  ·have:=Int.mul_pos h1 (show 0 < cr u v b by omega)
   omega
theorem dt_zero {a b y:Pt} (h:a ≠ b) (e:cr a b y=0) (d:dt a b y=0):y=a:=by
 have p:=dt_pos h
 have k1:dt a b b * (y.1 - a.1)=dt a b y * (b.1 - a.1) - cr a b y * (b.2 - a.2):=by unfold dt cr;grind
 have k2:dt a b b * (y.2 - a.2)=dt a b y * (b.2 - a.2)+cr a b y * (b.1 - a.1):=by unfold dt cr;grind
 rw [d,e,Int.zero_mul,Int.zero_mul] at k1 k2
 have z1:y.1 - a.1=0:=by
  rcases Int.mul_eq_zero.1 (show dt a b b * (y.1 - a.1)=0 by omega) with h | h
  ·omega
  ·exact h
 have z2:y.2 - a.2=0:=by
  rcases Int.mul_eq_zero.1 (show dt a b b * (y.2 - a.2)=0 by omega) with h | h
  ·omega
  ·exact h
 exact Prod.ext (by omega) (by omega)
theorem cvx_of_sides {n:Nat} {P:Nat→Pt} (hn:3≤n) (hd:∀ i j,i < n→j < n→i ≠ j→P i ≠ P j) (hl:∀ i k,i < n→k < n→0≤cr (P i) (P ((i+1) % n)) (P k)) (ht:∀ i,i < n→0 < cr (P (pv n i)) (P i) (P ((i+1) % n))):Cvx n P:=by
 intro i k hi hk hki hki'
 have h0:=hl i k hi hk
 by_cases z:cr (P i) (P ((i+1) % n)) (P k)=0
 ·exfalso
  have hi':(i+1) % n < n:=Nat.mod_lt _ (by omega)
  have t1:=ht i hi
  have t2:=ht _ hi'
  have epv:pv n ((i+1) % n)=i:=by
   unfold pv
   by_cases e:i+1=n
   ·rw [e,Nat.mod_self,Nat.zero_add,Nat.mod_eq_of_lt (by omega)];omega
   ·have h1:i+1 < n:=by omega
    rw [Nat.mod_eq_of_lt h1]
    have h2:i+1+(n - 1)=n+i:=by omega
    rw [h2,Nat.add_mod_left,Nat.mod_eq_of_lt hi]
  rw [epv] at t2
  have hv:pv n i < n:=Nat.mod_lt _ (by omega)
  have g1:0≤cr (P (pv n i)) (P i) (P k):=by
   have:=hl (pv n i) k hv hk
   rwa [pv_next hi] at this
  have g2:=hl ((i+1) % n) k hi' hk
  obtain ⟨d1,d2⟩:=on_side t1 t2 z g1 g2
  have hne:=hd i _ hi hi' (fun e => nx_ne (by omega) hi e.symm)
  have z':cr (P ((i+1) % n)) (P i) (P k)=0:=by rw [cr_swap2];omega
  have p1:0 < dt (P i) (P ((i+1) % n)) (P k):=by
   by_cases e:dt (P i) (P ((i+1) % n)) (P k)=0
   ·exact absurd (dt_zero hne z e) (hd k i hk hi hki)
   ·omega
  have p2:0 < dt (P ((i+1) % n)) (P i) (P k):=by
   by_cases e:dt (P ((i+1) % n)) (P i) (P k)=0
   ·exact absurd (dt_zero hne.symm z' e) (hd k _ hk hi' hki')
   ·omega
  have tk:=ht k hk
  have hkv:pv n k < n:=Nat.mod_lt _ (by omega)
  have a1:0≤cr (P (pv n k)) (P k) (P i):=by have:=hl (pv n k) i hkv hi;rwa [pv_next hk] at this
  have a2:0≤cr (P (pv n k)) (P k) (P ((i+1) % n)):=by have:=hl (pv n k) _ hkv hi';rwa [pv_next hk] at this
  have m1:=mid_zero z (cr_self' _ _) a1 a2 p1 p2
  have m2:=mid_zero z (cr_self _ _) (hl k i hk hi) (hl k _ hk hi') p1 p2
  have hk':(k+1) % n < n:=Nat.mod_lt _ (by omega)
  have nk:=hd k i hk hi hki
  have q1:cr (P k) (P i) (P (pv n k))=0:=by rw [← cr_rot];exact m1.1
  have q2:cr (P k) (P i) (P ((k+1) % n))=0:=by rw [cr_swap];rw [m2.1];rfl
  have q3:cr (P k) (P i) (P k)=0:=cr_self _ _
  have:=on_line nk q1 q3 q2
  omega
 ·omega
theorem hull_of_sides {l p:List Pt} (hn:3≤p.length) (hm:∀ x,x ∈ p→x ∈ l) (hd:∀ i j,i < p.length→j < p.length→i ≠ j→at' p i ≠ at' p j) (hl:∀ i,i < p.length→∀ y,y ∈ l→0≤cr (at' p i) (at' p ((i+1) % p.length)) y)
  (ht:∀ i,i < p.length→0 < cr (at' p (pv p.length i)) (at' p i) (at' p ((i+1) % p.length))) (h0:∀ i,1≤i→i < p.length→ls (at' p 0) (at' p i)):IsHull l p :=
 ⟨⟨by omega,h0,fun _ => cvx_of_sides hn hd (fun i k hi hk => hl i hi _ (hm _ (at_mem hk))) ht⟩,hm,fun y hy => (hs3 hn).2 (fun i hi => hl i hi y hy)⟩
end Hl
end Go.Proofs.YtbpgfenippiepaaGreatDoor
namespace Go.Proofs.YtbpgfenippiepaaGreatDoor
open Hl
namespace Mk
def plus (x y:Pt):Pt:=(x.1+y.1,x.2+y.2)
def neg (x:Pt):Pt:=(-x.1,-x.2)
def sums (p q:List Pt):List Pt:=p.flatMap fun x => q.map (plus x)
theorem mem_sums {p q:List Pt} {z:Pt}:z ∈ sums p q↔∃ x,x ∈ p∧∃ y,y ∈ q∧plus x y=z:=by
 unfold sums
 rw [List.mem_flatMap]
 constructor
 ·rintro ⟨x,hx,h⟩
  obtain ⟨y,hy,e⟩:=List.mem_map.1 h
  exact ⟨x,hx,y,hy,e⟩
 ·rintro ⟨x,hx,y,hy,e⟩
  exact ⟨x,hx,List.mem_map.2 ⟨y,hy,e⟩⟩
theorem plus_comm (x y:Pt):plus x y=plus y x:=by unfold plus;rw [Int.add_comm,Int.add_comm x.2]
theorem plus_assoc (x y z:Pt):plus (plus x y) z=plus x (plus y z):=by unfold plus;rw [Int.add_assoc,Int.add_assoc]
theorem neg_neg (x:Pt):neg (neg x)=x:=by unfold neg;rcases x with ⟨a,b⟩;simp
theorem hull_congr {l m s:List Pt} (h:IsHull l s) (e:∀ x,x ∈ l↔x ∈ m):IsHull m s:=⟨h.1,fun x hx => (e x).1 (h.2.1 x hx),fun x hx => h.2.2 x ((e x).2 hx)⟩
theorem sum_comm {p q s:List Pt} (hs:IsHull (sums p q) s):IsHull (sums q p) s:=hull_congr hs fun x => by
 rw [mem_sums,mem_sums]
 constructor <;> rintro ⟨a,ha,b,hb,e⟩ <;> exact ⟨b,hb,a,ha,by rw [plus_comm];exact e⟩
def shift (p:List Pt) (b:Pt):List Pt:=p.map fun x => plus x b
theorem shift_len (p:List Pt) (b:Pt):(shift p b).length=p.length:=List.length_map ..
theorem shift_at {p:List Pt} {b:Pt} {i:Nat} (h:i < p.length):at' (shift p b) i=plus (at' p i) b:=by
 unfold at' shift
 rw [List.getD_eq_getElem?_getD,List.getD_eq_getElem?_getD,List.getElem?_map,List.getElem?_eq_getElem h]
 rfl
theorem cr_plus (a b c z:Pt):cr (plus a z) (plus b z) (plus c z)=cr a b c:=by unfold cr plus;grind
theorem ls_plus (a b z:Pt):ls (plus a z) (plus b z)↔ls a b:=by unfold ls plus;simp only;omega
theorem btw_plus (a b x z:Pt):btw (plus a z) (plus b z) (plus x z)↔btw a b x:=by unfold btw plus;simp only;omega
theorem plus_inj {a b z:Pt} (h:plus a z=plus b z):a=b:=by
 unfold plus at h
 injection h with h1 h2
 exact Prod.ext (by omega) (by omega)
theorem shift_pg {p:List Pt} (h:Pg p) (b:Pt):Pg (shift p b):=by
 refine ⟨by rw [shift_len];exact h.1,fun i h1 h2 => ?_,fun h2 => ?_⟩
 ·rw [shift_len] at h2
  rw [shift_at (by omega),shift_at h2,ls_plus]
  exact h.2.1 i h1 h2
 ·rw [shift_len] at h2 ⊢
  intro i k hi hk n1 n2
  rw [shift_at hi,shift_at hk,shift_at (nx_lt (by omega)),cr_plus]
  exact h.2.2 h2 i k hi hk n1 n2
theorem shift_hs {p:List Pt} (h:Pg p) (b x:Pt):Hs (shift p b) (plus x b)↔Hs p x:=by
 have h0:=h.1
 unfold Hs Ins
 rw [shift_len]
 split
 ·rw [shift_at (by omega)]
  exact ⟨fun e => plus_inj e,fun e => by rw [e]⟩
 ·split
  ·rw [shift_at (by omega),shift_at (by omega),cr_plus,btw_plus]
  ·constructor
   ·intro g i hi
    have:=g i hi
    rwa [shift_at hi,shift_at (nx_lt (by omega)),cr_plus] at this
   ·intro g i hi
    rw [shift_at hi,shift_at (nx_lt (by omega)),cr_plus]
    exact g i hi
theorem mem_shift {p:List Pt} {b z:Pt}:z ∈ shift p b↔∃ x,x ∈ p∧plus x b=z:=List.mem_map
def mirror (p:List Pt):List Pt:=p.map neg
theorem hs_three_i {p:List Pt} (h:3≤p.length) {x:Pt}:Hs p x↔Ins p.length (at' p) x:=by unfold Hs;rw [if_neg (by omega),if_neg (by omega)]
end Mk
end Go.Proofs.YtbpgfenippiepaaGreatDoor
namespace Go.Proofs.YtbpgfenippiepaaGreatDoor
open Hl
namespace Mk
def xp (a b:Pt):Int:=a.1 * b.2 - a.2 * b.1
def dp (a b:Pt):Int:=a.1 * b.1+a.2 * b.2
def sub (a b:Pt):Pt:=(a.1 - b.1,a.2 - b.2)
theorem lag (d w z:Pt):dp d d * xp w z=dp d w * xp d z - xp d w * dp d z:=by unfold dp xp;grind
theorem lag2 (d w z:Pt):dp d d * dp w z=dp d w * dp d z+xp d w * xp d z:=by unfold dp xp;grind
theorem xp_swap (a b:Pt):xp a b = -(xp b a):=by unfold xp;grind
theorem dp_comm (a b:Pt):dp a b=dp b a:=by unfold dp;grind
theorem xp_neg (d a b:Pt):xp d (sub a b) = -(xp d (sub b a)):=by unfold xp sub;grind
theorem sq_nonneg (a:Int):0≤a * a:=by rw [← Int.natAbs_mul_self];omega
theorem sq_pos {a:Int} (h:a ≠ 0):0 < a * a:=by
 rcases Int.lt_or_gt_of_ne h with g | g
 ·exact Int.mul_pos_of_neg_of_neg g g
 ·exact Int.mul_pos g g
theorem dd_pos {d:Pt} (h:d ≠ (0,0)):0 < dp d d:=by
 unfold dp
 have h1:=sq_nonneg d.1
 have h2:=sq_nonneg d.2
 by_cases e1:d.1=0
 ·by_cases e2:d.2=0
  ·exact absurd (Prod.ext e1 e2) h
  ·have:=sq_pos e2
   omega
 ·have:=sq_pos e1
  omega
theorem xp_dp {d w:Pt} (hd:d ≠ (0,0)) (hw:w ≠ (0,0)) (h:xp d w=0):dp d w ≠ 0:=fun e => by
 have:=lag2 d w w
 rw [h,e,Int.zero_mul] at this
 have:=Int.mul_pos (dd_pos hd) (dd_pos hw)
 omega
theorem pos_of_mul {a b:Int} (hb:0≤b) (h:0 < a * b):0 < a:=by
 rcases Int.lt_or_le 0 a with g | g
 ·exact g
 ·have:=Int.mul_nonneg (show 0≤-a by omega) hb
  rw [Int.neg_mul] at this
  omega
end Mk
end Go.Proofs.YtbpgfenippiepaaGreatDoor
namespace Go.Proofs.YtbpgfenippiepaaGreatDoor
open Hl
namespace Mk
def Wd (n m:Int):Prop:=0≤m∧2 * n * n≤m * m∧∀ j:Int,0≤j→2 * n * n≤j * j→m≤j
theorem wd_unique {n m m':Int} (h:Wd n m) (h':Wd n m'):m=m':=by
 have a:=h.2.2 m' h'.1 h'.2.1
 have b:=h'.2.2 m h.1 h.2.1
 omega
def In (n m:Int) (x:Pt):Prop:=Keeps (-n) n (-n) n (-m) m (-m) m x
def diskL (n m:Int):List Pt:=octL (-n) n (-n) n (-m) m (-m) m
end Mk
end Go.Proofs.YtbpgfenippiepaaGreatDoor
