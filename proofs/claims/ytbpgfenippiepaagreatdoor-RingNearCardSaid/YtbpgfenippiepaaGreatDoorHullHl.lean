/-
  Plain geometry: corners of a hull are its own.
  What package cut owes, a contract each; plain facts of the polygons that it returns.
  Plain geometry: with a further place the area of a hull is greater.
  Plain geometry: sides that have all points on their left, and turn left, are the sides of a hull.
  Plain geometry of sums of polygons: all sums, reaches, order, shifts, mirrors. No program.
  Plain geometry: a sum has at most as many corners as both polygons together. No program.
-/
import Derived.Test.YtbpgfenippiepaaGreatDoorHullInB
import Derived.Test.YtbpgfenippiepaaGreatDoorCutGeo
namespace Go.Proofs.YtbpgfenippiepaaGreatDoor
namespace Hl
theorem hull_plcs {l q:List Pt} (h:IsHull l q) (hp:Plcs l):Plcs q:=fun i hi => by
 obtain ⟨j,hj,e⟩:=mem_at (h.2.1 _ (at_mem hi))
 rw [← e];exact hp j hj
theorem hs_corner {p:List Pt} (h:Pg p) {i:Nat} (hi:i < p.length):Hs p (at' p i):=by
 by_cases h1:p.length=1
 ·obtain rfl:i=0:=by omega
  exact (hs1 h1).2 rfl
 ·by_cases h2:p.length=2
  ·rw [hs2 h2]
   by_cases e:i=0
   ·subst e;exact ⟨cr_self _ _,by unfold btw;omega⟩
   ·obtain rfl:i=1:=by omega
    exact ⟨cr_self' _ _,by unfold btw;omega⟩
  ·have h3:3≤p.length:=by have:=h.1;omega
   rw [hs3 h3]
   intro j hj
   by_cases e1:i=j
   ·rw [e1,cr_self];exact Int.le_refl _
   ·by_cases e2:i=(j+1) % p.length
    ·rw [← e2,cr_self'];exact Int.le_refl _
    ·exact Int.le_of_lt (h.2.2 (by omega) j i hj hi e1 e2)
theorem hull_self {q:List Pt} (h:Pg q):IsHull q q:=⟨h,fun _ hx => hx,fun x hx => by
 obtain ⟨i,hi,e⟩:=mem_at hx
 rw [← e];exact hs_corner h hi⟩
end Hl
end Go.Proofs.YtbpgfenippiepaaGreatDoor
namespace Go.Proofs.YtbpgfenippiepaaGreatDoor
open Go.RowKit
namespace Ct
open Hl
theorem near_iff {W:Int} (hW:0 < W) (N q:Int):(-W < q * W - N∧q * W - N < W)↔(q=N / W∨q = -(-N / W)):=by
 have h1:=Int.ediv_mul_le N (show W ≠ 0 by omega)
 have h2:=Int.lt_ediv_add_one_mul_self N hW
 have h3:=Int.ediv_mul_le (-N) (show W ≠ 0 by omega)
 have h4:=Int.lt_ediv_add_one_mul_self (-N) hW
 rw [Int.add_mul,Int.one_mul] at h2 h4
 have e0:-(-N / W) * W = -(-N / W * W):=by grind
 have mono:∀ a b:Int,a * W < b * W→a < b:=fun a b h => Int.lt_of_mul_lt_mul_right h (Int.le_of_lt hW)
 constructor
 ·rintro ⟨a,b⟩
  have g1:N / W < q+1:=mono _ _ (by rw [Int.add_mul,Int.one_mul];omega)
  have g2:q < -(-N / W)+1:=mono _ _ (by rw [Int.add_mul,Int.one_mul,e0];omega)
  have g3:-(-N / W) < N / W+2:=mono _ _ (by rw [Int.add_mul,e0];omega)
  omega
 ·rintro (rfl | rfl)
  ·omega
  ·rw [e0];omega
def frL (m n:Int) (a b:Pt):List Pt:=[((m * a.1+n * b.1) / (m+n),(m * a.2+n * b.2) / (m+n)),(-(-(m * a.1+n * b.1) / (m+n)),(m * a.2+n * b.2) / (m+n)),((m * a.1+n * b.1) / (m+n),-(-(m * a.2+n * b.2) / (m+n))),(-(-(m * a.1+n * b.1) / (m+n)),-(-(m * a.2+n * b.2) / (m+n)))]
theorem mem_frL {m n:Int} (hm:0 < m) (hn:0 < n) (a b y:Pt):y ∈ frL m n a b↔Wr m n a b y:=by
 have hW:0 < m+n:=by omega
 unfold Wr
 rw [near_iff hW,near_iff hW]
 rcases y with ⟨y1,y2⟩
 simp only [frL,List.mem_cons,List.not_mem_nil,or_false,Prod.mk.injEq]
 constructor
 ·rintro (⟨h,k⟩ | ⟨h,k⟩ | ⟨h,k⟩ | ⟨h,k⟩) <;> simp [h,k]
 ·rintro ⟨h | h,k | k⟩ <;> simp [h,k]
theorem cvx_order {n:Nat} {P:Nat→Pt} (h:Cvx n P) {i j:Nat} (hij:i < j):∀ d,j+1+d < n→0 < cr (P i) (P j) (P (j+1+d)):=by
 have side:∀ k,i < n→k+1 < n→k ≠ i→k+1 ≠ i→0 < cr (P i) (P k) (P (k+1)):=fun k hin hk h1 h2 => by
  have:=h k i (by omega) (by omega) (fun e => h1 e.symm) (by rw [Nat.mod_eq_of_lt hk];exact fun e => h2 e.symm)
  rw [Nat.mod_eq_of_lt hk] at this
  rwa [cr_rot]
 intro d
 induction d with
 | zero => exact fun hn => side j (by omega) hn (by omega) (by omega)
 | succ d ih =>
   intro hn
   have ih:=ih (by omega)
   have base:∀ k,i+1 < k→k < n→0 < cr (P i) (P (i+1)) (P k):=fun k h1 h2 => by
    have:=h i k (by omega) h2 (by omega) (by rw [Nat.mod_eq_of_lt (by omega)];omega)
    rwa [Nat.mod_eq_of_lt (by omega)] at this
   have s:=side (j+1+d) (by omega) hn (by omega) (by omega)
   have e:cr (P i) (P (i+1)) (P (j+1+d)) * cr (P i) (P j) (P (j+1+d+1))=cr (P i) (P (i+1)) (P j) * cr (P i) (P (j+1+d)) (P (j+1+d+1))+cr (P i) (P (i+1)) (P (j+1+d+1)) * cr (P i) (P j) (P (j+1+d)):=by unfold cr;grind
   have b1:=base (j+1+d) (by omega) (by omega)
   have b2:=base (j+1+d+1) (by omega) hn
   have b3:0≤cr (P i) (P (i+1)) (P j):=by
    by_cases z:j=i+1
    ·rw [z,cr_self'];exact Int.le_refl _
    ·exact Int.le_of_lt (base j (by omega) (by omega))
   have q1:=Int.mul_nonneg b3 (Int.le_of_lt s)
   have q2:=Int.mul_pos b2 ih
   show 0 < cr (P i) (P j) (P (j+1+d+1))
   by_cases z:0 < cr (P i) (P j) (P (j+1+d+1))
   ·exact z
   ·have:=Int.mul_nonneg (Int.le_of_lt b1) (show 0≤-cr (P i) (P j) (P (j+1+d+1)) by omega)
    rw [Int.mul_neg] at this
    omega
theorem cvx_left {n:Nat} {P:Nat→Pt} (h:Cvx n P) {i j k:Nat} (hij:i < j) (hjk:j < k) (hk:k < n):0 < cr (P i) (P j) (P k):=by
 have:=cvx_order h hij (k - (j+1)) (by omega)
 rwa [show j+1+(k - (j+1))=k by omega] at this
theorem alt_four {n:Nat} {P:Nat→Pt} (h:Cvx n P) (u v k:Int) {a b c d:Nat} (hab:a < b) (hbc:b < c) (hcd:c < d) (hd:d < n):¬ (0 < af u v k (P a)∧af u v k (P b) < 0∧0 < af u v k (P c)∧af u v k (P d) < 0):=by
 rintro ⟨h1,h2,h3,h4⟩
 have p1:=cvx_left h hbc hcd hd
 have p2:=cvx_left h (Nat.lt_trans hab hbc) hcd hd
 have p3:=cvx_left h hab (Nat.lt_trans hbc hcd) hd
 have p4:=cvx_left h hab hbc (Nat.lt_trans hcd hd)
 have e:cr (P b) (P c) (P d) * af u v k (P a)+cr (P a) (P b) (P d) * af u v k (P c)=cr (P a) (P c) (P d) * af u v k (P b)+cr (P a) (P b) (P c) * af u v k (P d):=by unfold cr af;grind
 have q1:=Int.mul_pos p1 h1
 have q2:=Int.mul_pos p3 h3
 have q3:=Int.mul_pos p2 (show 0 < -af u v k (P b) by omega)
 have q4:=Int.mul_pos p4 (show 0 < -af u v k (P d) by omega)
 rw [Int.mul_neg] at q3 q4
 omega
theorem three_not_cross {n:Nat} {S:Nat→Int} (A:∀ a b c d,a < b→b < c→c < d→d < n→¬ (0 < S a∧S b < 0∧0 < S c∧S d < 0)) (B:∀ a b c d,a < b→b < c→c < d→d < n→¬ (S a < 0∧0 < S b∧S c < 0∧0 < S d))
  {k1 k2 k3:Nat} (h12:k1 < k2) (h23:k2 < k3) (h3:k3 < n) (d1:Df (S k1) (S ((k1+1) % n))) (d2:Df (S k2) (S ((k2+1) % n))) (d3:Df (S k3) (S ((k3+1) % n))):False:=by
 rw [Nat.mod_eq_of_lt (show k1+1 < n by omega)] at d1
 rw [Nat.mod_eq_of_lt (show k2+1 < n by omega)] at d2
 have ne:∀ a b:Nat,S a < 0→0 < S b→a ≠ b:=fun a b h1 h2 e => by rw [e] at h1;omega
 obtain ⟨x,hx,hx'⟩:∃ x,x=(k3+1) % n∧(x=k3+1∧x < n∨x=0):=⟨_,rfl,by
  by_cases e:k3+1=n
  ·rw [e,Nat.mod_self];exact Or.inr rfl
  ·rw [Nat.mod_eq_of_lt (by omega)];exact Or.inl ⟨rfl,by omega⟩⟩
 rw [← hx] at d3
 rcases d1 with ⟨a1,a2⟩ | ⟨a1,a2⟩ <;> rcases d2 with ⟨b1,b2⟩ | ⟨b1,b2⟩
 ·have:=ne k2 (k1+1) b1 a2
  exact B k1 (k1+1) k2 (k2+1) (by omega) (by omega) (by omega) (by omega) ⟨a1,a2,b1,b2⟩
 ·rcases d3 with ⟨c1,c2⟩ | ⟨c1,c2⟩
  ·rcases hx' with ⟨e,_⟩ | e
   ·exact B k1 (k1+1) (k2+1) x (by omega) (by omega) (by omega) (by omega) ⟨a1,a2,b2,c2⟩
   ·have:=ne k1 x a1 c2
    exact A x k1 (k1+1) (k2+1) (by omega) (by omega) (by omega) (by omega) ⟨c2,a1,a2,b2⟩
  ·have:=ne (k2+1) k3 b2 c1
   rcases hx' with ⟨e,_⟩ | e
   ·exact A k2 (k2+1) k3 x (by omega) (by omega) (by omega) (by omega) ⟨b1,b2,c1,c2⟩
   ·exact B x k2 (k2+1) k3 (by omega) (by omega) (by omega) (by omega) ⟨c2,b1,b2,c1⟩
 ·rcases d3 with ⟨c1,c2⟩ | ⟨c1,c2⟩
  ·have:=ne k3 (k2+1) c1 b2
   rcases hx' with ⟨e,_⟩ | e
   ·exact B k2 (k2+1) k3 x (by omega) (by omega) (by omega) (by omega) ⟨b1,b2,c1,c2⟩
   ·exact A x k2 (k2+1) k3 (by omega) (by omega) (by omega) (by omega) ⟨c2,b1,b2,c1⟩
  ·rcases hx' with ⟨e,_⟩ | e
   ·exact A k1 (k1+1) (k2+1) x (by omega) (by omega) (by omega) (by omega) ⟨a1,a2,b2,c2⟩
   ·have:=ne x k1 c2 a1
    exact B x k1 (k1+1) (k2+1) (by omega) (by omega) (by omega) (by omega) ⟨c2,a1,a2,b2⟩
 ·have:=ne (k1+1) k2 a2 b1
  exact A k1 (k1+1) k2 (k2+1) (by omega) (by omega) (by omega) (by omega) ⟨a1,a2,b1,b2⟩
theorem cross_two {q:List Pt} (hq:Pg q) (u v k:Int):((List.range q.length).filter fun i => decide (Df (af u v k (at' q i)) (af u v k (at' q ((i+1) % q.length))))).length≤2:=by
 by_cases h2:q.length≤2
 ·exact Nat.le_trans (List.length_filter_le _ _) (by rw [List.length_range];exact h2)
 have hc:=hq.2.2 (by omega)
 have hs:((List.range q.length).filter fun i => decide (Df (af u v k (at' q i)) (af u v k (at' q ((i+1) % q.length))))).Pairwise (· < ·):=List.Pairwise.filter _ List.pairwise_lt_range
 have hm:∀ i,i ∈ ((List.range q.length).filter fun i => decide (Df (af u v k (at' q i)) (af u v k (at' q ((i+1) % q.length)))))→i < q.length∧Df (af u v k (at' q i)) (af u v k (at' q ((i+1) % q.length))):=fun i hi => by simpa using hi
 revert hs hm
 generalize ((List.range q.length).filter fun i => decide (Df (af u v k (at' q i)) (af u v k (at' q ((i+1) % q.length)))))=L
 intro hs hm
 match L,hs,hm with
 | [],_,_ => simp
 | [_],_,_ => simp
 | [_,_],_,_ => simp
 | a :: b :: c :: L,hs,hm =>
   exfalso
   have g1:=List.pairwise_cons.1 hs
   have g2:=List.pairwise_cons.1 g1.2
   have ng:∀ z,af (-u) (-v) (-k) z = -af u v k z:=fun z => by unfold af;grind
   exact three_not_cross (S:=fun i => af u v k (at' q i)) (fun a b c d h1 h2 h3 h4 => alt_four hc u v k h1 h2 h3 h4) (fun a b c d h1 h2 h3 h4 g => by
    refine alt_four hc (-u) (-v) (-k) h1 h2 h3 h4 ?_
    rw [ng,ng,ng,ng]
    have g:af u v k (at' q a) < 0∧0 < af u v k (at' q b)∧af u v k (at' q c) < 0∧0 < af u v k (at' q d):=g
    omega) (g1.1 b (by simp)) (g2.1 c (by simp)) (hm c (by simp)).1 (hm a (by simp)).2 (hm b (by simp)).2 (hm c (by simp)).2
def Poly (S:Pt→Prop) (q:List Pt):Prop:=∃ l q0,(∀ y,y ∈ l↔S y)∧IsHull l q0∧((q0.length≤64∧q=q0)∨(64 < q0.length∧IsOct q0 q))
theorem members {l l' q:List Pt} (h:IsHull l q) (e:∀ x,x ∈ l↔x ∈ l'):IsHull l' q:=⟨h.1,fun x hx => (e x).1 (h.2.1 x hx),fun x hx => h.2.2 x ((e x).2 hx)⟩
theorem oct_one {p q r:List Pt} (h:IsOct p q) (g:IsOct p r):q=r:=by
 obtain ⟨a,b,c,d,s,t,i,j,h1,h2,h3,h4,h5,h6,h7,h8,hq⟩:=h
 obtain ⟨a',b',c',d',s',t',i',j',k1,k2,k3,k4,k5,k6,k7,k8,hr⟩:=g
 obtain rfl:=k1.one h1
 obtain rfl:b'=b:=by have:=k2.one h2;omega
 obtain rfl:=k3.one h3
 obtain rfl:d'=d:=by have:=k4.one h4;omega
 obtain rfl:=k5.one h5
 obtain rfl:t'=t:=by have:=k6.one h6;omega
 obtain rfl:=k7.one h7
 obtain rfl:j'=j:=by have:=k8.one h8;omega
 exact hull_unique hq hr
theorem oct_more {p q:List Pt} (hp:Pg p) (hpl:Plcs p) (h:IsOct p q):Vl q∧(∀ x,Hs p x→Hs q x)∧∀ x,x ∈ q→((∃ y,y ∈ p∧y.1≤x.1)∧∃ y,y ∈ p∧x.1≤y.1)∧(∃ y,y ∈ p∧y.2≤x.2)∧∃ y,y ∈ p∧x.2≤y.2:=by
 obtain ⟨a,b,c,d,s,t,i,j,h1,h2,h3,h4,h5,h6,h7,h8,hq⟩:=h
 obtain ⟨B,K⟩:=bd_of h1 h2 h3 h4 h5 h6 h7 h8
 have O:=oct_keeps B
 have hn:q.length≤8:=count_le (at' q) q.length (octL a b c d s t i j) (fun i j hi hj hne => pg_distinct hq.1 hi hj hne) (fun i hi => hq.2.1 _ (at_mem hi))
 have box:∀ x,x ∈ q→((∃ y,y ∈ p∧y.1≤x.1)∧∃ y,y ∈ p∧x.1≤y.1)∧(∃ y,y ∈ p∧y.2≤x.2)∧∃ y,y ∈ p∧x.2≤y.2:=fun x hx => by
  have hk:=O _ (hq.2.1 _ hx)
  unfold Keeps at hk
  obtain ⟨y1,g1,e1⟩:=h1.1
  obtain ⟨y2,g2,e2⟩:=h2.1
  obtain ⟨y3,g3,e3⟩:=h3.1
  obtain ⟨y4,g4,e4⟩:=h4.1
  exact ⟨⟨⟨y1,g1,by omega⟩,y2,g2,by omega⟩,⟨y3,g3,by omega⟩,y4,g4,by omega⟩
 have hpl':Plcs q:=fun n hn => by
  obtain ⟨⟨⟨y1,g1,e1⟩,y2,g2,e2⟩,⟨y3,g3,e3⟩,y4,g4,e4⟩:=box _ (at_mem hn)
  obtain ⟨n1,l1,r1⟩:=mem_at g1
  obtain ⟨n2,l2,r2⟩:=mem_at g2
  obtain ⟨n3,l3,r3⟩:=mem_at g3
  obtain ⟨n4,l4,r4⟩:=mem_at g4
  have p1:=hpl n1 l1
  have p2:=hpl n2 l2
  have p3:=hpl n3 l3
  have p4:=hpl n4 l4
  rw [r1] at p1
  rw [r2] at p2
  rw [r3] at p3
  rw [r4] at p4
  unfold Plc at p1 p2 p3 p4 ⊢
  omega
 refine ⟨vl_of hq.1 (by omega) hpl',?_,box⟩
 intro x hx
 have hk:Keeps a b c d s t i j x:=by
  have g:∀ u v m,IsMin p u v m→m≤u * x.1+v * x.2:=by
   intro u v m hm
   obtain ⟨n,hn,hle⟩:=hs_least hp hx u v 0
   have:=hm.2 _ (at_mem hn)
   unfold af at hle
   omega
  have e1:=g _ _ _ h1
  have e2:=g _ _ _ h2
  have e3:=g _ _ _ h3
  have e4:=g _ _ _ h4
  have e5:=g _ _ _ h5
  have e6:=g _ _ _ h6
  have e7:=g _ _ _ h7
  have e8:=g _ _ _ h8
  unfold Keeps
  omega
 exact hs_of_least _ hq.1 hq.2.2 (oct_least hk)
theorem poly_one {S:Pt→Prop} {q r:List Pt} (h:Poly S q) (g:Poly S r):q=r:=by
 obtain ⟨l,q0,e,hq,k⟩:=h
 obtain ⟨l',r0,e',hr,k'⟩:=g
 obtain rfl:=hull_unique (members hq (fun x => (e x).trans (e' x).symm)) hr
 rcases k with ⟨k,rfl⟩ | ⟨k,o⟩ <;> rcases k' with ⟨k',rfl⟩ | ⟨k',o'⟩
 ·rfl
 ·omega
 ·omega
 ·exact oct_one o o'
theorem Poly.same {S S':Pt→Prop} (e:∀ y,S y↔S' y) {q:List Pt} (h:Poly S q):Poly S' q:=by
 obtain ⟨l,q0,e',g⟩:=h
 exact ⟨l,q0,fun y => (e' y).trans (e y),g⟩
theorem Poly.some {S:Pt→Prop} {q:List Pt} (h:Poly S q):∃ y,S y:=by
 obtain ⟨l,q0,e,hq,_⟩:=h
 exact ⟨at' q0 0,(e _).1 (hq.2.1 _ (at_mem hq.1.1))⟩
theorem hull_plc {S:Pt→Prop} {l q0:List Pt} (e:∀ y,y ∈ l↔S y) (hq:IsHull l q0) (hS:∀ y,S y→Plc y):Plcs q0:=fun _ hi => hS _ ((e _).1 (hq.2.1 _ (at_mem hi)))
theorem Poly.vl {S:Pt→Prop} {q:List Pt} (h:Poly S q) (hS:∀ y,S y→Plc y):Vl q:=by
 obtain ⟨l,q0,e,hq,k⟩:=h
 have hp:=hull_plc e hq hS
 rcases k with ⟨k,rfl⟩ | ⟨_,o⟩
 ·exact vl_of hq.1 k hp
 ·exact (oct_more hq.1 hp o).1
theorem Poly.has {S:Pt→Prop} {q:List Pt} (h:Poly S q) (hS:∀ y,S y→Plc y) {x:Pt} (hx:∀ u v k:Int,∃ y,S y∧af u v k y≤af u v k x):Hs q x:=by
 obtain ⟨l,q0,e,hq,k⟩:=h
 have hp:=hull_plc e hq hS
 have h0:Hs q0 x:=hs_of_least l hq.1 hq.2.2 (fun u v k => by
  obtain ⟨y,hy,g⟩:=hx u v k
  exact ⟨y,(e y).2 hy,g⟩)
 rcases k with ⟨k,rfl⟩ | ⟨_,o⟩
 ·exact h0
 ·exact (oct_more hq.1 hp o).2.1 x h0
theorem Poly.within {S:Pt→Prop} {q:List Pt} (h:Poly S q) (hS:∀ y,S y→Plc y) {a b c d:Int} (hB:∀ y,S y→(a≤y.1∧y.1≤b)∧c≤y.2∧y.2≤d):∀ y,y ∈ q→(a≤y.1∧y.1≤b)∧c≤y.2∧y.2≤d:=by
 obtain ⟨l,q0,e,hq,k⟩:=h
 have hp:=hull_plc e hq hS
 have h0:∀ y,y ∈ q0→(a≤y.1∧y.1≤b)∧c≤y.2∧y.2≤d:=fun y hy => hB y ((e y).1 (hq.2.1 y hy))
 rcases k with ⟨k,rfl⟩ | ⟨_,o⟩
 ·exact h0
 ·intro y hy
  obtain ⟨⟨⟨y1,g1,e1⟩,y2,g2,e2⟩,⟨y3,g3,e3⟩,y4,g4,e4⟩:=(oct_more hq.1 hp o).2.2 y hy
  have:=h0 _ g1
  have:=h0 _ g2
  have:=h0 _ g3
  have:=h0 _ g4
  omega
theorem Poly.small {S:Pt→Prop} {q:List Pt} (h:Poly S q) (L:List Pt) (hL:∀ y,S y→y ∈ L) (h64:L.length≤64):∀ y,y ∈ q→S y:=by
 obtain ⟨l,q0,e,hq,k⟩:=h
 have:=count_le (at' q0) q0.length L (fun i j hi hj hne => pg_distinct hq.1 hi hj hne) (fun i hi => hL _ ((e _).1 (hq.2.1 _ (at_mem hi))))
 rcases k with ⟨k,rfl⟩ | ⟨k,_⟩
 ·exact fun y hy => (e y).1 (hq.2.1 y hy)
 ·omega
theorem Poly.own {S:Pt→Prop} {p q:List Pt} (h:Poly S q) (hp:Pg p) (h64:p.length≤64) (h1:∀ y,y ∈ p→S y) (h2:∀ y,S y→Hs p y):q=p:=by
 obtain ⟨l,q0,e,hq,k⟩:=h
 have:IsHull l p:=⟨hp,fun y hy => (e y).2 (h1 y hy),fun y hy => h2 y ((e y).1 hy)⟩
 obtain rfl:=hull_unique hq this
 rcases k with ⟨_,k⟩ | ⟨k,_⟩
 ·exact k
 ·omega
def WF (h:Hf):Prop:=((-1000000≤h.1∧h.1≤1000000)∧(-1000000≤h.2.1∧h.2.1≤1000000)∧-1000000000000≤h.2.2∧h.2.2≤1000000000000)∧¬ (h.1=0∧h.2.1=0)
instance (h:Hf):Decidable (WF h):=by unfold WF;infer_instance
def PolySays (S:Pt→Prop) (w:World) (e:Ending) (w':World):Prop:=(∃ q v,Poly S q∧e=.returned (.tuple #[v,.bool true,.int .i64 0])∧Sl w' v q∧Grew w w')∨((¬ ∃ y,S y)∧∃ v,e=.returned (.tuple #[v,.bool false,.int .i64 0])∧Sl w' v []∧Grew w w')
def NoSays (w:World) (e:Ending) (w':World):Prop:=∃ v,e=.returned (.tuple #[v,.bool false,.int .i64 1])∧Sl w' v []∧Grew w w'
def YesNo (q:Prop) (w:World) (e:Ending) (w':World):Prop:=∃ r:Bool,e=.returned (.tuple #[.bool r,.int .i64 0])∧(r=true↔q)∧Grew w w'
structure Code:Prop where
 in_ok:∀ (h:Hf) (x:Pt) (w:World),WF h→Plc x→Calls Tryz.prog 160 #[.agg #[.int .i64 h.1,.int .i64 h.2.1,.int .i64 h.2.2],.agg #[.int .i64 x.1,.int .i64 x.2]] w (YesNo (ov h x≤0) w)
 in_bad:∀ (h:Hf) (x:Pt) (w:World),¬ (WF h∧Plc x)→Calls Tryz.prog 160 #[.agg #[.int .i64 h.1,.int .i64 h.2.1,.int .i64 h.2.2],.agg #[.int .i64 x.1,.int .i64 x.2]] w fun e w' => e=.returned (.tuple #[.bool false,.int .i64 1])∧Grew w w'
 cut_ok:∀ (p:List Pt) (h:Hf) (v:Value) (w:World),Sl w v p→Vl p→WF h→Calls Tryz.prog 126 #[v,.agg #[.int .i64 h.1,.int .i64 h.2.1,.int .i64 h.2.2]] w (PolySays (LeftS p h) w)
 cut_bad:∀ (p:List Pt) (h:Hf) (v:Value) (w:World),Sl w v p→p.length≤9223372036854775807→¬ (Vl p∧WF h)→Calls Tryz.prog 126 #[v,.agg #[.int .i64 h.1,.int .i64 h.2.1,.int .i64 h.2.2]] w (NoSays w)
 meet_ok:∀ (p q:List Pt) (v v':Value) (w:World),Sl w v p→Sl w v' q→Vl p→Vl q→Calls Tryz.prog 75 #[v,v'] w (PolySays (BothS p q) w)
 meet_bad:∀ (p q:List Pt) (v v':Value) (w:World),Sl w v p→Sl w v' q→p.length≤9223372036854775807→q.length≤9223372036854775807→¬ (Vl p∧Vl q)→Calls Tryz.prog 75 #[v,v'] w (NoSays w)
end Ct
end Go.Proofs.YtbpgfenippiepaaGreatDoor
namespace Go.Proofs.YtbpgfenippiepaaGreatDoor
namespace Hl
def dt (a b y:Pt):Int:=(b.1 - a.1) * (y.1 - a.1)+(b.2 - a.2) * (y.2 - a.2)
theorem dt_af (a b y:Pt):dt a b y=af (b.1 - a.1) (b.2 - a.2) (-((b.1 - a.1) * a.1+(b.2 - a.2) * a.2)) y:=by unfold dt af;grind
theorem dt_self (a b:Pt):dt a b a=0:=by unfold dt;grind
theorem dt_cr (v a b y:Pt):cr v a b * dt a b y=cr v a y * dt a b b+cr a b y * ((b.1 - a.1) * (v.1 - a.1)+(b.2 - a.2) * (v.2 - a.2)):=by unfold cr dt;grind
theorem dt_cr' (a b n y:Pt):cr a b n * dt b a y=cr b n y * dt b a a+cr a b y * ((a.1 - b.1) * (n.1 - b.1)+(a.2 - b.2) * (n.2 - b.2)):=by unfold cr dt;grind
theorem dt_pos {a b:Pt} (h:a ≠ b):0 < dt a b b:=by
 have e:dt a b b=(b.1 - a.1) * (b.1 - a.1)+(b.2 - a.2) * (b.2 - a.2):=rfl
 rw [e]
 have s1:0≤(b.1 - a.1) * (b.1 - a.1):=by
  rcases Int.le_total 0 (b.1 - a.1) with k | k
  ·exact Int.mul_nonneg k k
  ·have:=Int.mul_nonneg (show 0≤-(b.1 - a.1) by omega) (show 0≤-(b.1 - a.1) by omega)
   rwa [Int.neg_mul_neg] at this
 have s2:0≤(b.2 - a.2) * (b.2 - a.2):=by
  rcases Int.le_total 0 (b.2 - a.2) with k | k
  ·exact Int.mul_nonneg k k
  ·have:=Int.mul_nonneg (show 0≤-(b.2 - a.2) by omega) (show 0≤-(b.2 - a.2) by omega)
   rwa [Int.neg_mul_neg] at this
 by_cases e1:b.1 - a.1=0
 ·have e2:b.2 - a.2 ≠ 0:=fun e2 => h (Prod.ext (by omega) (by omega))
  rcases Int.lt_or_gt_of_ne e2 with k | k
  ·have:=Int.mul_pos (show 0 < -(b.2 - a.2) by omega) (show 0 < -(b.2 - a.2) by omega)
   rw [Int.neg_mul_neg] at this
   omega
  ·have:=Int.mul_pos (show 0 < b.2 - a.2 by omega) (show 0 < b.2 - a.2 by omega)
   omega
 ·rcases Int.lt_or_gt_of_ne e1 with k | k
  ·have:=Int.mul_pos (show 0 < -(b.1 - a.1) by omega) (show 0 < -(b.1 - a.1) by omega)
   rw [Int.neg_mul_neg] at this
   omega
  ·have:=Int.mul_pos (show 0 < b.1 - a.1 by omega) (show 0 < b.1 - a.1 by omega)
   omega
section
variable {l p q:List Pt} {x:Pt}
end
end Hl
end Go.Proofs.YtbpgfenippiepaaGreatDoor
namespace Go.Proofs.YtbpgfenippiepaaGreatDoor
namespace Hl
theorem on_side {v a b n y:Pt} (h1:0 < cr v a b) (h2:0 < cr a b n) (e:cr a b y=0) (g1:0≤cr v a y) (g2:0≤cr b n y):0≤dt a b y∧0≤dt b a y:=by
 have hne:a ≠ b:=fun ee => by rw [ee] at h2;rw [cr_same] at h2;omega
 have d1:=dt_pos hne
 have d2:=dt_pos hne.symm
 have e1:=dt_cr v a b y
 have e2:=dt_cr' a b n y
 rw [e,Int.zero_mul,Int.add_zero] at e1 e2
 refine ⟨nonneg_of h1 ?_,nonneg_of h2 ?_⟩
 ·rw [e1];exact Int.mul_nonneg g1 (Int.le_of_lt d1)
 ·rw [e2];exact Int.mul_nonneg g2 (Int.le_of_lt d2)
theorem mid_zero {u v a b y:Pt} (e:cr a b y=0) (hy:cr u v y=0) (ga:0≤cr u v a) (gb:0≤cr u v b) (h1:0 < dt a b y) (h2:0 < dt b a y):cr u v a=0∧cr u v b=0:=by
 have hne:a ≠ b:=fun ee => by
  rw [ee] at h1
  have:dt b b y=0:=by unfold dt;grind
  omega
 have d:=dt_pos hne
 have k:dt b a y * cr u v a+dt a b y * cr u v b=dt a b b * cr u v y - cr a b y * ((v.1 - u.1) * (b.1 - a.1)+(v.2 - u.2) * (b.2 - a.2)):=by unfold dt cr;grind
 rw [e,hy,Int.mul_zero,Int.zero_mul,Int.sub_zero] at k
 have m1:=Int.mul_nonneg (Int.le_of_lt h2) ga
 have m2:=Int.mul_nonneg (Int.le_of_lt h1) gb
 refine ⟨?_,?_⟩
 ·by_cases z:cr u v a=0
  ·exact z
  ·have:=Int.mul_pos h2 (show 0 < cr u v a by omega)
   omega
 ·by_cases z:cr u v b=0
  ·exact z
  ·have:=Int.mul_pos h1 (show 0 < cr u v b by omega)
   omega
theorem dt_zero {a b y:Pt} (h:a ≠ b) (e:cr a b y=0) (d:dt a b y=0):y=a:=by
 have p:=dt_pos h
 have k1:dt a b b * (y.1 - a.1)=dt a b y * (b.1 - a.1) - cr a b y * (b.2 - a.2):=by unfold dt cr;grind
 have k2:dt a b b * (y.2 - a.2)=dt a b y * (b.2 - a.2)+cr a b y * (b.1 - a.1):=by unfold dt cr;grind
 rw [d,e,Int.zero_mul,Int.zero_mul] at k1 k2
 have z1:y.1 - a.1=0:=by
  rcases Int.mul_eq_zero.1 (show dt a b b * (y.1 - a.1)=0 by omega) with h | h
  ·omega
  ·exact h
 have z2:y.2 - a.2=0:=by
  rcases Int.mul_eq_zero.1 (show dt a b b * (y.2 - a.2)=0 by omega) with h | h
  ·omega
  ·exact h
 exact Prod.ext (by omega) (by omega)
theorem cvx_of_sides {n:Nat} {P:Nat→Pt} (hn:3≤n) (hd:∀ i j,i < n→j < n→i ≠ j→P i ≠ P j) (hl:∀ i k,i < n→k < n→0≤cr (P i) (P ((i+1) % n)) (P k)) (ht:∀ i,i < n→0 < cr (P (pv n i)) (P i) (P ((i+1) % n))):Cvx n P:=by
 intro i k hi hk hki hki'
 have h0:=hl i k hi hk
 by_cases z:cr (P i) (P ((i+1) % n)) (P k)=0
 ·exfalso
  have hi':(i+1) % n < n:=Nat.mod_lt _ (by omega)
  have t1:=ht i hi
  have t2:=ht _ hi'
  have epv:pv n ((i+1) % n)=i:=by
   unfold pv
   by_cases e:i+1=n
   ·rw [e,Nat.mod_self,Nat.zero_add,Nat.mod_eq_of_lt (by omega)];omega
   ·have h1:i+1 < n:=by omega
    rw [Nat.mod_eq_of_lt h1]
    have h2:i+1+(n - 1)=n+i:=by omega
    rw [h2,Nat.add_mod_left,Nat.mod_eq_of_lt hi]
  rw [epv] at t2
  have hv:pv n i < n:=Nat.mod_lt _ (by omega)
  have g1:0≤cr (P (pv n i)) (P i) (P k):=by
   have:=hl (pv n i) k hv hk
   rwa [pv_next hi] at this
  have g2:=hl ((i+1) % n) k hi' hk
  obtain ⟨d1,d2⟩:=on_side t1 t2 z g1 g2
  have hne:=hd i _ hi hi' (fun e => nx_ne (by omega) hi e.symm)
  have z':cr (P ((i+1) % n)) (P i) (P k)=0:=by rw [cr_swap2];omega
  have p1:0 < dt (P i) (P ((i+1) % n)) (P k):=by
   by_cases e:dt (P i) (P ((i+1) % n)) (P k)=0
   ·exact absurd (dt_zero hne z e) (hd k i hk hi hki)
   ·omega
  have p2:0 < dt (P ((i+1) % n)) (P i) (P k):=by
   by_cases e:dt (P ((i+1) % n)) (P i) (P k)=0
   ·exact absurd (dt_zero hne.symm z' e) (hd k _ hk hi' hki')
   ·omega
  have tk:=ht k hk
  have hkv:pv n k < n:=Nat.mod_lt _ (by omega)
  have a1:0≤cr (P (pv n k)) (P k) (P i):=by have:=hl (pv n k) i hkv hi;rwa [pv_next hk] at this
  have a2:0≤cr (P (pv n k)) (P k) (P ((i+1) % n)):=by have:=hl (pv n k) _ hkv hi';rwa [pv_next hk] at this
  have m1:=mid_zero z (cr_self' _ _) a1 a2 p1 p2
  have m2:=mid_zero z (cr_self _ _) (hl k i hk hi) (hl k _ hk hi') p1 p2
  have hk':(k+1) % n < n:=Nat.mod_lt _ (by omega)
  have nk:=hd k i hk hi hki
  have q1:cr (P k) (P i) (P (pv n k))=0:=by rw [← cr_rot];exact m1.1
  have q2:cr (P k) (P i) (P ((k+1) % n))=0:=by rw [cr_swap];rw [m2.1];rfl
  have q3:cr (P k) (P i) (P k)=0:=cr_self _ _
  have:=on_line nk q1 q3 q2
  omega
 ·omega
theorem hull_of_sides {l p:List Pt} (hn:3≤p.length) (hm:∀ x,x ∈ p→x ∈ l) (hd:∀ i j,i < p.length→j < p.length→i ≠ j→at' p i ≠ at' p j) (hl:∀ i,i < p.length→∀ y,y ∈ l→0≤cr (at' p i) (at' p ((i+1) % p.length)) y)
  (ht:∀ i,i < p.length→0 < cr (at' p (pv p.length i)) (at' p i) (at' p ((i+1) % p.length))) (h0:∀ i,1≤i→i < p.length→ls (at' p 0) (at' p i)):IsHull l p :=
 ⟨⟨by omega,h0,fun _ => cvx_of_sides hn hd (fun i k hi hk => hl i hi _ (hm _ (at_mem hk))) ht⟩,hm,fun y hy => (hs3 hn).2 (fun i hi => hl i hi y hy)⟩
end Hl
end Go.Proofs.YtbpgfenippiepaaGreatDoor
namespace Go.Proofs.YtbpgfenippiepaaGreatDoor
open Hl
namespace Mk
def plus (x y:Pt):Pt:=(x.1+y.1,x.2+y.2)
def neg (x:Pt):Pt:=(-x.1,-x.2)
def sums (p q:List Pt):List Pt:=p.flatMap fun x => q.map (plus x)
theorem mem_sums {p q:List Pt} {z:Pt}:z ∈ sums p q↔∃ x,x ∈ p∧∃ y,y ∈ q∧plus x y=z:=by
 unfold sums
 rw [List.mem_flatMap]
 constructor
 ·rintro ⟨x,hx,h⟩
  obtain ⟨y,hy,e⟩:=List.mem_map.1 h
  exact ⟨x,hx,y,hy,e⟩
 ·rintro ⟨x,hx,y,hy,e⟩
  exact ⟨x,hx,List.mem_map.2 ⟨y,hy,e⟩⟩
theorem sums_mem {p q:List Pt} {x y:Pt} (hx:x ∈ p) (hy:y ∈ q):plus x y ∈ sums p q:=mem_sums.2 ⟨x,hx,y,hy,rfl⟩
theorem plus_comm (x y:Pt):plus x y=plus y x:=by unfold plus;rw [Int.add_comm,Int.add_comm x.2]
theorem plus_assoc (x y z:Pt):plus (plus x y) z=plus x (plus y z):=by unfold plus;rw [Int.add_assoc,Int.add_assoc]
theorem neg_neg (x:Pt):neg (neg x)=x:=by unfold neg;rcases x with ⟨a,b⟩;simp
theorem af_plus (u v k:Int) (x y:Pt):af u v k (plus x y)=af u v 0 x+af u v k y:=by unfold af plus;grind
theorem hull_congr {l m s:List Pt} (h:IsHull l s) (e:∀ x,x ∈ l↔x ∈ m):IsHull m s:=⟨h.1,fun x hx => (e x).1 (h.2.1 x hx),fun x hx => h.2.2 x ((e x).2 hx)⟩
theorem sum_has {p q s:List Pt} (hp:Pg p) (hq:Pg q) (hs:IsHull (sums p q) s) {x y:Pt} (hx:Hs p x) (hy:Hs q y):Hs s (plus x y):=by
 refine hs_of_least (sums p q) hs.1 hs.2.2 fun u v k => ?_
 obtain ⟨i,hi,ei⟩:=hs_least hp hx u v 0
 obtain ⟨j,hj,ej⟩:=hs_least hq hy u v k
 refine ⟨plus (at' p i) (at' q j),sums_mem (at_mem hi) (at_mem hj),?_⟩
 rw [af_plus,af_plus]
 omega
theorem min_sum {p q s:List Pt} (hs:IsHull (sums p q) s) {u v a b:Int} (ha:IsMin p u v a) (hb:IsMin q u v b):IsMin s u v (a+b):=by
 refine min_hull hs (fun x hx => ?_) ?_
 ·obtain ⟨y,hy,z,hz,rfl⟩:=mem_sums.1 hx
  have h1:=ha.2 y hy
  have h2:=hb.2 z hz
  unfold plus
  simp only
  grind
 ·obtain ⟨⟨y,hy,ey⟩,_⟩:=ha
  obtain ⟨⟨z,hz,ez⟩,_⟩:=hb
  refine ⟨plus y z,sums_mem hy hz,?_⟩
  unfold plus
  simp only
  grind
theorem sum_comm {p q s:List Pt} (hs:IsHull (sums p q) s):IsHull (sums q p) s:=hull_congr hs fun x => by
 rw [mem_sums,mem_sums]
 constructor <;> rintro ⟨a,ha,b,hb,e⟩ <;> exact ⟨b,hb,a,ha,by rw [plus_comm];exact e⟩
def shift (p:List Pt) (b:Pt):List Pt:=p.map fun x => plus x b
theorem shift_len (p:List Pt) (b:Pt):(shift p b).length=p.length:=List.length_map ..
theorem shift_at {p:List Pt} {b:Pt} {i:Nat} (h:i < p.length):at' (shift p b) i=plus (at' p i) b:=by
 unfold at' shift
 rw [List.getD_eq_getElem?_getD,List.getD_eq_getElem?_getD,List.getElem?_map,List.getElem?_eq_getElem h]
 rfl
theorem cr_plus (a b c z:Pt):cr (plus a z) (plus b z) (plus c z)=cr a b c:=by unfold cr plus;grind
theorem ls_plus (a b z:Pt):ls (plus a z) (plus b z)↔ls a b:=by unfold ls plus;simp only;omega
theorem btw_plus (a b x z:Pt):btw (plus a z) (plus b z) (plus x z)↔btw a b x:=by unfold btw plus;simp only;omega
theorem plus_inj {a b z:Pt} (h:plus a z=plus b z):a=b:=by
 unfold plus at h
 injection h with h1 h2
 exact Prod.ext (by omega) (by omega)
theorem shift_pg {p:List Pt} (h:Pg p) (b:Pt):Pg (shift p b):=by
 refine ⟨by rw [shift_len];exact h.1,fun i h1 h2 => ?_,fun h2 => ?_⟩
 ·rw [shift_len] at h2
  rw [shift_at (by omega),shift_at h2,ls_plus]
  exact h.2.1 i h1 h2
 ·rw [shift_len] at h2 ⊢
  intro i k hi hk n1 n2
  rw [shift_at hi,shift_at hk,shift_at (nx_lt (by omega)),cr_plus]
  exact h.2.2 h2 i k hi hk n1 n2
theorem shift_hs {p:List Pt} (h:Pg p) (b x:Pt):Hs (shift p b) (plus x b)↔Hs p x:=by
 have h0:=h.1
 unfold Hs Ins
 rw [shift_len]
 split
 ·rw [shift_at (by omega)]
  exact ⟨fun e => plus_inj e,fun e => by rw [e]⟩
 ·split
  ·rw [shift_at (by omega),shift_at (by omega),cr_plus,btw_plus]
  ·constructor
   ·intro g i hi
    have:=g i hi
    rwa [shift_at hi,shift_at (nx_lt (by omega)),cr_plus] at this
   ·intro g i hi
    rw [shift_at hi,shift_at (nx_lt (by omega)),cr_plus]
    exact g i hi
theorem mem_shift {p:List Pt} {b z:Pt}:z ∈ shift p b↔∃ x,x ∈ p∧plus x b=z:=List.mem_map
theorem shift_sum {p:List Pt} (h:Pg p) (b:Pt):IsHull (sums p [b]) (shift p b):=by
 refine hull_congr (hull_self (shift_pg h b)) fun x => ?_
 rw [mem_shift,mem_sums]
 constructor
 ·rintro ⟨y,hy,e⟩;exact ⟨y,hy,b,List.mem_singleton.2 rfl,e⟩
 ·rintro ⟨y,hy,c,hc,e⟩;rw [List.mem_singleton] at hc;subst hc;exact ⟨y,hy,e⟩
def mirror (p:List Pt):List Pt:=p.map neg
theorem hs_three_i {p:List Pt} (h:3≤p.length) {x:Pt}:Hs p x↔Ins p.length (at' p) x:=by unfold Hs;rw [if_neg (by omega),if_neg (by omega)]
theorem corner_strict {p:List Pt} (h:Pg p) {i:Nat} (hi:i < p.length):∃ u v k:Int,∀ j,j < p.length→j ≠ i→af u v k (at' p i) < af u v k (at' p j):=by
 by_cases h1:p.length=1
 ·exact ⟨0,0,0,fun j hj hne => by omega⟩
 by_cases h2:p.length=2
 ·have hne:at' p 0 ≠ at' p 1:=pg_ne h (by omega)
  obtain ⟨o,ho,ho2,hc⟩:∃ o,o < 2∧at' p i ≠ at' p o∧∀ j,j < 2→j ≠ i→j=o:=by
   rcases (show i=0∨i=1 by omega) with rfl | rfl
   ·exact ⟨1,by omega,hne,fun j _ _ => by omega⟩
   ·exact ⟨0,by omega,hne.symm,fun j _ _ => by omega⟩
  obtain ⟨u,v,k,e⟩:∃ u v k:Int,∀ y,dt (at' p i) (at' p o) y=af u v k y:=⟨_,_,_,dt_af _ _⟩
  refine ⟨u,v,k,fun j hj hne2 => ?_⟩
  have:=dt_pos ho2
  rw [hc j (by omega) hne2,← e,← e,dt_self]
  exact this
 ·have h3:3≤p.length:=by have:=h.1;omega
  have hc:=h.2.2 (by omega)
  have t:=turn hc h3 hi
  obtain ⟨u,v,k,e⟩:∃ u v k:Int,∀ y,cr (at' p (pv p.length i)) (at' p i) y+cr (at' p i) (at' p ((i+1) % p.length)) y=af u v k y:=⟨_,_,_,fun y => by rw [cr_af,cr_af,af_add]⟩
  refine ⟨u,v,k,fun j hj hne => ?_⟩
  have hall:∀ x,x ∈ p→0≤cr (at' p (pv p.length i)) (at' p i) x∧0≤cr (at' p i) (at' p ((i+1) % p.length)) x:=fun x hx => by
   have hin:=(hs_three_i h3).1 ((hull_self h).2.2 x hx)
   exact ⟨ins_pv hin hi,hin i hi⟩
  obtain ⟨a1,a2⟩:=hall _ (at_mem hj)
  have ne:cr (at' p (pv p.length i)) (at' p i) (at' p j)+cr (at' p i) (at' p ((i+1) % p.length)) (at' p j) ≠ 0:=fun e => by
   have:=only_corner t (by omega) (show cr (at' p i) (at' p ((i+1) % p.length)) (at' p j)=0 by omega)
   exact corners_ne hc h3 hj hi hne this
  have z:cr (at' p (pv p.length i)) (at' p i) (at' p i)+cr (at' p i) (at' p ((i+1) % p.length)) (at' p i)=0:=by rw [cr_self',cr_self];rfl
  rw [← e,← e]
  omega
end Mk
end Go.Proofs.YtbpgfenippiepaaGreatDoor
namespace Go.Proofs.YtbpgfenippiepaaGreatDoor
open Hl
namespace Mk
def xp (a b:Pt):Int:=a.1 * b.2 - a.2 * b.1
def dp (a b:Pt):Int:=a.1 * b.1+a.2 * b.2
def sub (a b:Pt):Pt:=(a.1 - b.1,a.2 - b.2)
theorem lag (d w z:Pt):dp d d * xp w z=dp d w * xp d z - xp d w * dp d z:=by unfold dp xp;grind
theorem lag2 (d w z:Pt):dp d d * dp w z=dp d w * dp d z+xp d w * xp d z:=by unfold dp xp;grind
theorem cr_xp (a b c:Pt):cr a b c=xp (sub b a) (sub c a):=by unfold cr xp sub;grind
theorem xp_sub (d x y z:Pt):xp d (sub x z) - xp d (sub y z)=xp d (sub x y):=by unfold xp sub;grind
theorem xp_swap (a b:Pt):xp a b = -(xp b a):=by unfold xp;grind
theorem dp_comm (a b:Pt):dp a b=dp b a:=by unfold dp;grind
theorem xp_neg (d a b:Pt):xp d (sub a b) = -(xp d (sub b a)):=by unfold xp sub;grind
theorem dp_neg (d a b:Pt):dp d (sub a b) = -(dp d (sub b a)):=by unfold dp sub;grind
theorem sq_nonneg (a:Int):0≤a * a:=by rw [← Int.natAbs_mul_self];omega
theorem sq_pos {a:Int} (h:a ≠ 0):0 < a * a:=by
 rcases Int.lt_or_gt_of_ne h with g | g
 ·exact Int.mul_pos_of_neg_of_neg g g
 ·exact Int.mul_pos g g
theorem dd_pos {d:Pt} (h:d ≠ (0,0)):0 < dp d d:=by
 unfold dp
 have h1:=sq_nonneg d.1
 have h2:=sq_nonneg d.2
 by_cases e1:d.1=0
 ·by_cases e2:d.2=0
  ·exact absurd (Prod.ext e1 e2) h
  ·have:=sq_pos e2
   omega
 ·have:=sq_pos e1
  omega
theorem sub_ne {a b:Pt} (h:a ≠ b):sub a b ≠ (0,0):=fun e => h (by
 unfold sub at e
 injection e with e1 e2
 exact Prod.ext (by omega) (by omega))
def Par (d w:Pt):Prop:=xp d w=0∧0 < dp d w
theorem xp_dp {d w:Pt} (hd:d ≠ (0,0)) (hw:w ≠ (0,0)) (h:xp d w=0):dp d w ≠ 0:=fun e => by
 have:=lag2 d w w
 rw [h,e,Int.zero_mul] at this
 have:=Int.mul_pos (dd_pos hd) (dd_pos hw)
 omega
theorem pos_of_mul {a b:Int} (hb:0≤b) (h:0 < a * b):0 < a:=by
 rcases Int.lt_or_le 0 a with g | g
 ·exact g
 ·have:=Int.mul_nonneg (show 0≤-a by omega) hb
  rw [Int.neg_mul] at this
  omega
def Sd (p:List Pt) (d:Pt) (i:Nat):Prop:=i < p.length∧Par d (sub (at' p ((i+1) % p.length)) (at' p i))
theorem side_pos {p:List Pt} (hp:Pg p) (h3:3≤p.length) {d:Pt} {i:Nat} (hi:i < p.length) (hz:xp d (sub (at' p ((i+1) % p.length)) (at' p i))=0) (hl:∀ l,l < p.length→0≤xp d (sub (at' p l) (at' p i))) (hd:d ≠ (0,0)):Sd p d i:=by
 refine ⟨hi,hz,?_⟩
 have hc:=hp.2.2 (by omega)
 obtain ⟨k,hk,k1,k2⟩:∃ k,k < p.length∧k ≠ i∧k ≠ (i+1) % p.length:=⟨pv p.length i,pv_lt (by omega),fun e => by
  have:=pv_next hi
  rw [e] at this
  exact nx_ne (by omega) hi this,fun e => nx_pv h3 hi e.symm⟩
 have c:=hc i k hi hk k1 k2
 rw [cr_xp] at c
 have g:=hl k hk
 have e:=lag d (sub (at' p ((i+1) % p.length)) (at' p i)) (sub (at' p k) (at' p i))
 rw [hz,Int.zero_mul,Int.sub_zero] at e
 exact pos_of_mul g (by rw [← e];exact Int.mul_pos (dd_pos hd) c)
theorem side_dir {p:List Pt} (hp:Pg p) {d:Pt} (hd:d ≠ (0,0)) {a b:Nat} (ha:a < p.length) (hb:b < p.length) (hne:at' p a ≠ at' p b) (hl:∀ l,l < p.length→0≤xp d (sub (at' p l) (at' p a))) (e:xp d (sub (at' p b) (at' p a))=0):∃ i,Sd p d i:=by
 have hab:a ≠ b:=fun h => hne (by rw [h])
 by_cases h2:p.length=2
 ·have nz:=xp_dp hd (sub_ne (fun h => hne h.symm)) e
  have na:(a+1) % p.length=b:=by rw [h2];omega
  have nb:(b+1) % p.length=a:=by rw [h2];omega
  rcases Int.lt_or_gt_of_ne nz with g | g
  ·exact ⟨b,hb,by rw [nb,xp_neg,e];rfl,by rw [nb,dp_neg];omega⟩
  ·exact ⟨a,ha,by rw [na];exact e,by rw [na];exact g⟩
 ·have h3:3≤p.length:=by omega
  have af_e:∀ l,af (-d.2) d.1 0 (at' p l) - af (-d.2) d.1 0 (at' p a)=xp d (sub (at' p l) (at' p a)):=fun l => by unfold af xp sub;grind
  have hlb:∀ l,l < p.length→0≤xp d (sub (at' p l) (at' p b)):=fun l hll => by
   have h1:=hl l hll
   have h2:=xp_sub d (at' p l) (at' p b) (at' p a)
   omega
  rcases Ct.least_near hp (u:=-d.2) (v:=d.1) (k:=0) (N:=af (-d.2) d.1 0 (at' p a)) (fun l hll => by have:=af_e l;have:=hl l hll;omega) ha hb hab rfl (by have:=af_e b;omega) with h | h | h
  ·exact ⟨a,side_pos hp h3 ha (by rw [← h];exact e) hl hd⟩
  ·exact ⟨b,side_pos hp h3 hb (by rw [← h,xp_neg,e];rfl) hlb hd⟩
  ·exfalso
   have hc:=hp.2.2 (by omega)
   have z:∀ l,l < p.length→xp d (sub (at' p l) (at' p a))=0:=fun l hll => by have:=af_e l;have:=h l hll;omega
   have t:=three_not hc h3
   refine t ?_
   have w1:xp d (sub (at' p 1) (at' p 0))=0:=by have:=xp_sub d (at' p 1) (at' p 0) (at' p a);have:=z 1 (by omega);have:=z 0 (by omega);omega
   have w2:xp d (sub (at' p 2) (at' p 0))=0:=by have:=xp_sub d (at' p 2) (at' p 0) (at' p a);have:=z 2 (by omega);have:=z 0 (by omega);omega
   have L:=lag d (sub (at' p 1) (at' p 0)) (sub (at' p 2) (at' p 0))
   rw [w1,w2,Int.mul_zero,Int.zero_mul,Int.sub_zero] at L
   rw [cr_xp]
   rcases Int.mul_eq_zero.1 L with g | g
   ·have:=dd_pos hd;omega
   ·exact g
theorem par_sign {d w:Pt} (h:Par d w):(∀ z,0≤xp d z→0≤xp w z)∧(∀ z,xp w z=0→xp d z=0):=by
 have hw:0 < dp w w:=dd_pos (fun e => by have:=h.2;rw [e] at this;simp [dp] at this)
 have key:∀ z,dp w w * xp d z=dp w d * xp w z:=fun z => by
  have:=lag w d z
  rw [xp_swap w d,h.1,Int.neg_zero,Int.zero_mul,Int.sub_zero] at this
  exact this
 have hd:0 < dp w d:=by rw [dp_comm];exact h.2
 constructor
 ·intro z hz
  refine nonneg_of hd ?_
  rw [← key]
  exact Int.mul_nonneg (Int.le_of_lt hw) hz
 ·intro z hz
  have:=key z
  rw [hz,Int.mul_zero] at this
  rcases Int.mul_eq_zero.1 this with g | g
  ·omega
  ·exact g
theorem sides_apart {s:List Pt} (hs:Pg s) (h3:3≤s.length) {i j:Nat} (hi:i < s.length) (hj:j < s.length) {w:Pt} (h1:Par (sub (at' s ((i+1) % s.length)) (at' s i)) w) (h2:Par (sub (at' s ((j+1) % s.length)) (at' s j)) w):i=j:=by
 have hc:=hs.2.2 (by omega)
 have left:∀ a l,a < s.length→l < s.length→0≤xp (sub (at' s ((a+1) % s.length)) (at' s a)) (sub (at' s l) (at' s a)):=fun a l ha hl => by
  rw [← cr_xp]
  exact (hs_three_i h3).1 ((hull_self hs).2.2 _ (at_mem hl)) a ha
 have zero:∀ a l,a < s.length→l < s.length→xp (sub (at' s ((a+1) % s.length)) (at' s a)) (sub (at' s l) (at' s a))=0→l=a∨l=(a+1) % s.length:=fun a l ha hl e => by
  rw [← cr_xp] at e
  by_cases g:l=a
  ·exact Or.inl g
  ·by_cases g2:l=(a+1) % s.length
   ·exact Or.inr g2
   ·have:=hc a l ha hl g g2
    omega
 have p1:=(par_sign h1).1 _ (left i j hi hj)
 have p2:=(par_sign h2).1 _ (left j i hj hi)
 have n1:=xp_neg w (at' s i) (at' s j)
 have z1:=zero i j hi hj ((par_sign h1).2 _ (by omega))
 have z2:=zero j i hj hi ((par_sign h2).2 _ (by omega))
 rcases z1 with e | e
 ·exact e.symm
 ·rcases z2 with g | g
  ·exact g
  ·exfalso
   by_cases w1:i+1 < s.length
   ·rw [Nat.mod_eq_of_lt w1] at e
    by_cases w2:j+1 < s.length
    ·rw [Nat.mod_eq_of_lt w2] at g;omega
    ·have:j+1=s.length:=by omega
     rw [this,Nat.mod_self] at g
     omega
   ·have:i+1=s.length:=by omega
    rw [this,Nat.mod_self] at e
    subst e
    rw [Nat.mod_eq_of_lt (by omega)] at g
    omega
theorem sum_count {p q s:List Pt} (hp:Pg p) (hq:Pg q) (hs:IsHull (sums p q) s):s.length≤p.length+q.length:=by
 by_cases h3:3≤s.length
 ·have each:∀ j,j < s.length→(∃ i,Sd p (sub (at' s ((j+1) % s.length)) (at' s j)) i)∨∃ i,Sd q (sub (at' s ((j+1) % s.length)) (at' s j)) i:=fun j hj => by
   have hj1:(j+1) % s.length < s.length:=nx_lt (by omega)
   have hd:sub (at' s ((j+1) % s.length)) (at' s j) ≠ (0,0):=sub_ne (pg_distinct hs.1 hj1 hj (nx_ne (by omega) hj))
   obtain ⟨d,ed⟩:∃ d,d=sub (at' s ((j+1) % s.length)) (at' s j):=⟨_,rfl⟩
   rw [← ed] at hd ⊢
   obtain ⟨x,hx,y,hy,exy⟩:=mem_sums.1 (hs.2.1 _ (at_mem hj))
   obtain ⟨x',hx',y',hy',exy'⟩:=mem_sums.1 (hs.2.1 _ (at_mem hj1))
   have left:∀ a b,a ∈ p→b ∈ q→0≤xp d (sub (plus a b) (at' s j)):=fun a b ha hb => by
    rw [ed,← cr_xp]
    exact (hs_three_i h3).1 (hs.2.2 _ (sums_mem ha hb)) j hj
   have e0:xp d (sub (plus x' y') (at' s j))=0:=by rw [exy',ed];unfold xp;grind
   have sp:∀ a b c e,xp d (sub (plus a b) (plus c e))=xp d (sub a c)+xp d (sub b e):=fun a b c e => by unfold xp sub plus;grind
   have self:∀ a,xp d (sub a a)=0:=fun a => by unfold xp sub;grind
   have l1:∀ a,a ∈ p→0≤xp d (sub a x):=fun a ha => by have:=left a y ha hy;rw [← exy,sp,self] at this;omega
   have l2:∀ b,b ∈ q→0≤xp d (sub b y):=fun b hb => by have:=left x b hx hb;rw [← exy,sp,self] at this;omega
   rw [← exy,sp] at e0
   have m1:=l1 x' hx'
   have m2:=l2 y' hy'
   obtain ⟨a,ha,rfl⟩:=mem_at hx
   obtain ⟨b,hb,rfl⟩:=mem_at hy
   obtain ⟨a',ha',rfl⟩:=mem_at hx'
   obtain ⟨b',hb',rfl⟩:=mem_at hy'
   by_cases g:at' p a=at' p a'
   ·by_cases g2:at' q b=at' q b'
    ·exfalso
     apply hd
     rw [ed,← exy,← exy',g,g2]
     unfold sub
     simp
    ·exact Or.inr (side_dir hq hd hb hb' g2 (fun l hl => l2 _ (at_mem hl)) (by omega))
   ·exact Or.inl (side_dir hp hd ha ha' g (fun l hl => l1 _ (at_mem hl)) (by omega))
  have lab:∀ j,∃ z:Pt,j < s.length→(z.2=0∧0≤z.1∧Sd p (sub (at' s ((j+1) % s.length)) (at' s j)) z.1.toNat)∨(z.2=1∧0≤z.1∧Sd q (sub (at' s ((j+1) % s.length)) (at' s j)) z.1.toNat):=fun j => by
   by_cases hj:j < s.length
   ·rcases each j hj with ⟨i,h⟩ | ⟨i,h⟩
    ·exact ⟨((i:Int),0),fun _ => Or.inl ⟨rfl,by simp,by simpa using h⟩⟩
    ·exact ⟨((i:Int),1),fun _ => Or.inr ⟨rfl,by simp,by simpa using h⟩⟩
   ·exact ⟨(0,0),fun h => absurd h hj⟩
  have L:(((List.range p.length).map fun i:Nat => ((i:Int),(0:Int))) ++ ((List.range q.length).map fun i:Nat => ((i:Int),(1:Int)))).length=p.length+q.length:=by simp
  rw [← L]
  refine count_le (fun j => Classical.choose (lab j)) s.length _ (fun i j hi hj hne e => ?_) (fun j hj => ?_)
  ·have c1:=Classical.choose_spec (lab i) hi
   have c2:=Classical.choose_spec (lab j) hj
   rw [show Classical.choose (lab i)=Classical.choose (lab j) from e] at c1
   generalize Classical.choose (lab j)=z at c1 c2
   rcases c1 with ⟨a1,_,b1⟩ | ⟨a1,_,b1⟩ <;> rcases c2 with ⟨a2,_,b2⟩ | ⟨a2,_,b2⟩
   ·exact hne (sides_apart hs.1 h3 hi hj b1.2 b2.2)
   ·omega
   ·omega
   ·exact hne (sides_apart hs.1 h3 hi hj b1.2 b2.2)
  ·have c:=Classical.choose_spec (lab j) hj
   show Classical.choose (lab j) ∈ _
   generalize Classical.choose (lab j)=z at c
   rw [List.mem_append,List.mem_map,List.mem_map]
   rcases c with ⟨a,b,c⟩ | ⟨a,b,c⟩
   ·exact Or.inl ⟨z.1.toNat,List.mem_range.2 c.1,Prod.ext (by simp;omega) a.symm⟩
   ·exact Or.inr ⟨z.1.toNat,List.mem_range.2 c.1,Prod.ext (by simp;omega) a.symm⟩
 ·have:=hp.1
  have:=hq.1
  omega
end Mk
end Go.Proofs.YtbpgfenippiepaaGreatDoor
