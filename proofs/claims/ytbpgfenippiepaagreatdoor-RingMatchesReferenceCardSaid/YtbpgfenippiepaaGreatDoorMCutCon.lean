/-
  What package cut owes, a contract each; plain facts of the polygons that it returns.
  The landed package hull: what speaks of single places.
  Whether a polygon has a place, as a test; the landed isUpTo, isWellFormed, beyond, around.
-/
import Derived.Test.YtbpgfenippiepaaGreatDoorMCutGeo
import Derived.Test.YtbpgfenippiepaaGreatDoorMHullOct
import Derived.Test.YtbpgfenippiepaaGreatDoorMHullIn
import Derived.Test.YtbpgfenippiepaaGreatDoorMExactPlain
namespace Go.Proofs.YtbpgfenippiepaaGreatDoor
open Go.RowKit
namespace Ct
open Hl
theorem near_iff {W:Int} (hW:0 < W) (N q:Int):(-W < q * W - N∧q * W - N < W)↔(q=N / W∨q = -(-N / W)):=by
 have h1:=Int.ediv_mul_le N (show W ≠ 0 by omega)
 have h2:=Int.lt_ediv_add_one_mul_self N hW
 have h3:=Int.ediv_mul_le (-N) (show W ≠ 0 by omega)
 have h4:=Int.lt_ediv_add_one_mul_self (-N) hW
 rw [Int.add_mul,Int.one_mul] at h2 h4
 have e0:-(-N / W) * W = -(-N / W * W):=by grind
 have mono:∀ a b:Int,a * W < b * W→a < b:=fun a b h => Int.lt_of_mul_lt_mul_right h (Int.le_of_lt hW)
 constructor
 ·rintro ⟨a,b⟩
  have g1:N / W < q+1:=mono _ _ (by rw [Int.add_mul,Int.one_mul];omega)
  have g2:q < -(-N / W)+1:=mono _ _ (by rw [Int.add_mul,Int.one_mul,e0];omega)
  have g3:-(-N / W) < N / W+2:=mono _ _ (by rw [Int.add_mul,e0];omega)
  omega
 ·rintro (rfl | rfl)
  ·omega
  ·rw [e0];omega
def frL (m n:Int) (a b:Pt):List Pt:=[((m * a.1+n * b.1) / (m+n),(m * a.2+n * b.2) / (m+n)),(-(-(m * a.1+n * b.1) / (m+n)),(m * a.2+n * b.2) / (m+n)),((m * a.1+n * b.1) / (m+n),-(-(m * a.2+n * b.2) / (m+n))),(-(-(m * a.1+n * b.1) / (m+n)),-(-(m * a.2+n * b.2) / (m+n)))]
theorem mem_frL {m n:Int} (hm:0 < m) (hn:0 < n) (a b y:Pt):y ∈ frL m n a b↔Wr m n a b y:=by
 have hW:0 < m+n:=by omega
 unfold Wr
 rw [near_iff hW,near_iff hW]
 rcases y with ⟨y1,y2⟩
 simp only [frL,List.mem_cons,List.not_mem_nil,or_false,Prod.mk.injEq]
 constructor
 ·rintro (⟨h,k⟩ | ⟨h,k⟩ | ⟨h,k⟩ | ⟨h,k⟩) <;> simp [h,k]
 ·rintro ⟨h | h,k | k⟩ <;> simp [h,k]
def crL (a b:Pt) (s t:Int):List Pt:=if s < 0∧0 < t then frL t (-s) a b else if 0 < s∧t < 0 then frL (-t) s a b else []
theorem mem_crL (a b:Pt) (s t:Int) (y:Pt):y ∈ crL a b s t↔Fr a b s t y:=by
 unfold crL
 by_cases h:s < 0∧0 < t
 ·rw [if_pos h,mem_frL h.2 (by omega)]
  constructor
  ·exact fun g => ⟨_,_,⟨h.2,by omega,Or.inl ⟨by omega,rfl⟩⟩,g⟩
  ·rintro ⟨m,n,⟨hm,hn,⟨e,e'⟩ | ⟨e,e'⟩⟩,g⟩
   ·obtain rfl:n = -s:=by omega
    subst e';exact g
   ·omega
 ·rw [if_neg h]
  by_cases h':0 < s∧t < 0
  ·rw [if_pos h',mem_frL (by omega) h'.1]
   constructor
   ·exact fun g => ⟨_,_,⟨by omega,h'.1,Or.inr ⟨rfl,by omega⟩⟩,g⟩
   ·rintro ⟨m,n,⟨hm,hn,⟨e,e'⟩ | ⟨e,e'⟩⟩,g⟩
    ·omega
    ·obtain rfl:m = -t:=by omega
     subst e;exact g
  ·rw [if_neg h']
   refine ⟨fun g => (by cases g),fun g => ?_⟩
   have:=g.df
   unfold Df at this
   omega
theorem crL_len (a b:Pt) (s t:Int):(crL a b s t).length≤if decide (Df s t)=true then 4 else 0:=by
 unfold crL
 by_cases h:s < 0∧0 < t
 ·rw [if_pos h,if_pos (show decide (Df s t)=true from decide_eq_true (Or.inl h))];exact Nat.le_refl _
 ·by_cases h':0 < s∧t < 0
  ·rw [if_neg h,if_pos h',if_pos (show decide (Df s t)=true from decide_eq_true (Or.inr h'))];exact Nat.le_refl _
  ·rw [if_neg h,if_neg h'];exact Nat.zero_le _
def leftL (p:List Pt) (h:Hf):List Pt:=(List.range p.length).flatMap fun i => (if ov h (at' p i)≤0 then [at' p i] else []) ++ crL (at' p i) (at' p ((i+1) % p.length)) (ov h (at' p i)) (ov h (at' p ((i+1) % p.length)))
theorem mem_leftL (p:List Pt) (h:Hf) (y:Pt):y ∈ leftL p h↔LeftS p h y:=by
 unfold leftL LeftS
 rw [List.mem_flatMap]
 constructor
 ·rintro ⟨i,hi,hy⟩
  have hi:=List.mem_range.1 hi
  rcases List.mem_append.1 hy with g | g
  ·by_cases z:ov h (at' p i)≤0
   ·rw [if_pos z] at g
    obtain rfl:y=at' p i:=by simpa using g
    exact Or.inl ⟨i,hi,rfl,z⟩
   ·rw [if_neg z] at g;cases g
  ·exact Or.inr ⟨i,hi,(mem_crL _ _ _ _ _).1 g⟩
 ·rintro (⟨i,hi,rfl,z⟩ | ⟨i,hi,g⟩)
  ·exact ⟨i,List.mem_range.2 hi,List.mem_append.2 (Or.inl (by rw [if_pos z];simp))⟩
  ·exact ⟨i,List.mem_range.2 hi,List.mem_append.2 (Or.inr ((mem_crL _ _ _ _ _).2 g))⟩
theorem cvx_order {n:Nat} {P:Nat→Pt} (h:Cvx n P) {i j:Nat} (hij:i < j):∀ d,j+1+d < n→0 < cr (P i) (P j) (P (j+1+d)):=by
 have side:∀ k,i < n→k+1 < n→k ≠ i→k+1 ≠ i→0 < cr (P i) (P k) (P (k+1)):=fun k hin hk h1 h2 => by
  have:=h k i (by omega) (by omega) (fun e => h1 e.symm) (by rw [Nat.mod_eq_of_lt hk];exact fun e => h2 e.symm)
  rw [Nat.mod_eq_of_lt hk] at this
  rwa [cr_rot]
 intro d
 induction d with
 | zero => exact fun hn => side j (by omega) hn (by omega) (by omega)
 | succ d ih =>
   intro hn
   have ih:=ih (by omega)
   have base:∀ k,i+1 < k→k < n→0 < cr (P i) (P (i+1)) (P k):=fun k h1 h2 => by
    have:=h i k (by omega) h2 (by omega) (by rw [Nat.mod_eq_of_lt (by omega)];omega)
    rwa [Nat.mod_eq_of_lt (by omega)] at this
   have s:=side (j+1+d) (by omega) hn (by omega) (by omega)
   have e:cr (P i) (P (i+1)) (P (j+1+d)) * cr (P i) (P j) (P (j+1+d+1))=cr (P i) (P (i+1)) (P j) * cr (P i) (P (j+1+d)) (P (j+1+d+1))+cr (P i) (P (i+1)) (P (j+1+d+1)) * cr (P i) (P j) (P (j+1+d)):=by unfold cr;grind
   have b1:=base (j+1+d) (by omega) (by omega)
   have b2:=base (j+1+d+1) (by omega) hn
   have b3:0≤cr (P i) (P (i+1)) (P j):=by
    by_cases z:j=i+1
    ·rw [z,cr_self'];exact Int.le_refl _
    ·exact Int.le_of_lt (base j (by omega) (by omega))
   have q1:=Int.mul_nonneg b3 (Int.le_of_lt s)
   have q2:=Int.mul_pos b2 ih
   show 0 < cr (P i) (P j) (P (j+1+d+1))
   by_cases z:0 < cr (P i) (P j) (P (j+1+d+1))
   ·exact z
   ·have:=Int.mul_nonneg (Int.le_of_lt b1) (show 0≤-cr (P i) (P j) (P (j+1+d+1)) by omega)
    rw [Int.mul_neg] at this
    omega
theorem cvx_left {n:Nat} {P:Nat→Pt} (h:Cvx n P) {i j k:Nat} (hij:i < j) (hjk:j < k) (hk:k < n):0 < cr (P i) (P j) (P k):=by
 have:=cvx_order h hij (k - (j+1)) (by omega)
 rwa [show j+1+(k - (j+1))=k by omega] at this
theorem alt_four {n:Nat} {P:Nat→Pt} (h:Cvx n P) (u v k:Int) {a b c d:Nat} (hab:a < b) (hbc:b < c) (hcd:c < d) (hd:d < n):¬ (0 < af u v k (P a)∧af u v k (P b) < 0∧0 < af u v k (P c)∧af u v k (P d) < 0):=by
 rintro ⟨h1,h2,h3,h4⟩
 have p1:=cvx_left h hbc hcd hd
 have p2:=cvx_left h (Nat.lt_trans hab hbc) hcd hd
 have p3:=cvx_left h hab (Nat.lt_trans hbc hcd) hd
 have p4:=cvx_left h hab hbc (Nat.lt_trans hcd hd)
 have e:cr (P b) (P c) (P d) * af u v k (P a)+cr (P a) (P b) (P d) * af u v k (P c)=cr (P a) (P c) (P d) * af u v k (P b)+cr (P a) (P b) (P c) * af u v k (P d):=by unfold cr af;grind
 have q1:=Int.mul_pos p1 h1
 have q2:=Int.mul_pos p3 h3
 have q3:=Int.mul_pos p2 (show 0 < -af u v k (P b) by omega)
 have q4:=Int.mul_pos p4 (show 0 < -af u v k (P d) by omega)
 rw [Int.mul_neg] at q3 q4
 omega
theorem three_not_cross {n:Nat} {S:Nat→Int} (A:∀ a b c d,a < b→b < c→c < d→d < n→¬ (0 < S a∧S b < 0∧0 < S c∧S d < 0)) (B:∀ a b c d,a < b→b < c→c < d→d < n→¬ (S a < 0∧0 < S b∧S c < 0∧0 < S d))
  {k1 k2 k3:Nat} (h12:k1 < k2) (h23:k2 < k3) (h3:k3 < n) (d1:Df (S k1) (S ((k1+1) % n))) (d2:Df (S k2) (S ((k2+1) % n))) (d3:Df (S k3) (S ((k3+1) % n))):False:=by
 rw [Nat.mod_eq_of_lt (show k1+1 < n by omega)] at d1
 rw [Nat.mod_eq_of_lt (show k2+1 < n by omega)] at d2
 have ne:∀ a b:Nat,S a < 0→0 < S b→a ≠ b:=fun a b h1 h2 e => by rw [e] at h1;omega
 obtain ⟨x,hx,hx'⟩:∃ x,x=(k3+1) % n∧(x=k3+1∧x < n∨x=0):=⟨_,rfl,by
  by_cases e:k3+1=n
  ·rw [e,Nat.mod_self];exact Or.inr rfl
  ·rw [Nat.mod_eq_of_lt (by omega)];exact Or.inl ⟨rfl,by omega⟩⟩
 rw [← hx] at d3
 rcases d1 with ⟨a1,a2⟩ | ⟨a1,a2⟩ <;> rcases d2 with ⟨b1,b2⟩ | ⟨b1,b2⟩
 ·have:=ne k2 (k1+1) b1 a2
  exact B k1 (k1+1) k2 (k2+1) (by omega) (by omega) (by omega) (by omega) ⟨a1,a2,b1,b2⟩
 ·rcases d3 with ⟨c1,c2⟩ | ⟨c1,c2⟩
  ·rcases hx' with ⟨e,_⟩ | e
   ·exact B k1 (k1+1) (k2+1) x (by omega) (by omega) (by omega) (by omega) ⟨a1,a2,b2,c2⟩
   ·have:=ne k1 x a1 c2
    exact A x k1 (k1+1) (k2+1) (by omega) (by omega) (by omega) (by omega) ⟨c2,a1,a2,b2⟩
  ·have:=ne (k2+1) k3 b2 c1
   rcases hx' with ⟨e,_⟩ | e
   ·exact A k2 (k2+1) k3 x (by omega) (by omega) (by omega) (by omega) ⟨b1,b2,c1,c2⟩
   ·exact B x k2 (k2+1) k3 (by omega) (by omega) (by omega) (by omega) ⟨c2,b1,b2,c1⟩
 ·rcases d3 with ⟨c1,c2⟩ | ⟨c1,c2⟩
  ·have:=ne k3 (k2+1) c1 b2
   rcases hx' with ⟨e,_⟩ | e
   ·exact B k2 (k2+1) k3 x (by omega) (by omega) (by omega) (by omega) ⟨b1,b2,c1,c2⟩
   ·exact A x k2 (k2+1) k3 (by omega) (by omega) (by omega) (by omega) ⟨c2,b1,b2,c1⟩
  ·rcases hx' with ⟨e,_⟩ | e
   ·exact A k1 (k1+1) (k2+1) x (by omega) (by omega) (by omega) (by omega) ⟨a1,a2,b2,c2⟩
   ·have:=ne x k1 c2 a1
    exact B x k1 (k1+1) (k2+1) (by omega) (by omega) (by omega) (by omega) ⟨c2,a1,a2,b2⟩
 ·have:=ne (k1+1) k2 a2 b1
  exact A k1 (k1+1) k2 (k2+1) (by omega) (by omega) (by omega) (by omega) ⟨a1,a2,b1,b2⟩
theorem cross_two {q:List Pt} (hq:Pg q) (u v k:Int):((List.range q.length).filter fun i => decide (Df (af u v k (at' q i)) (af u v k (at' q ((i+1) % q.length))))).length≤2:=by
 by_cases h2:q.length≤2
 ·exact Nat.le_trans (List.length_filter_le _ _) (by rw [List.length_range];exact h2)
 have hc:=hq.2.2 (by omega)
 have hs:((List.range q.length).filter fun i => decide (Df (af u v k (at' q i)) (af u v k (at' q ((i+1) % q.length))))).Pairwise (· < ·):=List.Pairwise.filter _ List.pairwise_lt_range
 have hm:∀ i,i ∈ ((List.range q.length).filter fun i => decide (Df (af u v k (at' q i)) (af u v k (at' q ((i+1) % q.length)))))→i < q.length∧Df (af u v k (at' q i)) (af u v k (at' q ((i+1) % q.length))):=fun i hi => by simpa using hi
 revert hs hm
 generalize ((List.range q.length).filter fun i => decide (Df (af u v k (at' q i)) (af u v k (at' q ((i+1) % q.length)))))=L
 intro hs hm
 match L,hs,hm with
 | [],_,_ => simp
 | [_],_,_ => simp
 | [_,_],_,_ => simp
 | a :: b :: c :: L,hs,hm =>
   exfalso
   have g1:=List.pairwise_cons.1 hs
   have g2:=List.pairwise_cons.1 g1.2
   have ng:∀ z,af (-u) (-v) (-k) z = -af u v k z:=fun z => by unfold af;grind
   exact three_not_cross (S:=fun i => af u v k (at' q i)) (fun a b c d h1 h2 h3 h4 => alt_four hc u v k h1 h2 h3 h4) (fun a b c d h1 h2 h3 h4 g => by
    refine alt_four hc (-u) (-v) (-k) h1 h2 h3 h4 ?_
    rw [ng,ng,ng,ng]
    have g:af u v k (at' q a) < 0∧0 < af u v k (at' q b)∧af u v k (at' q c) < 0∧0 < af u v k (at' q d):=g
    omega) (g1.1 b (by simp)) (g2.1 c (by simp)) (hm c (by simp)).1 (hm a (by simp)).2 (hm b (by simp)).2 (hm c (by simp)).2
theorem flat_len {G:Nat→List Pt} {P:Nat→Bool} {c:Nat}:∀ L:List Nat,(∀ i,i ∈ L→(G i).length≤c+if P i=true then 4 else 0)→(L.flatMap G).length≤c * L.length+4 * (L.filter P).length
 | [],_ => Nat.zero_le _
 | i :: L,h => by
   have ih:=flat_len (P:=P) (c:=c) L (fun j hj => h j (List.mem_cons_of_mem _ hj))
   have hi:=h i (by simp)
   rw [List.flatMap_cons,List.length_append,List.length_cons]
   by_cases z:P i=true
   ·rw [List.filter_cons_of_pos z,List.length_cons]
    rw [if_pos z] at hi
    grind
   ·rw [List.filter_cons_of_neg z]
    rw [if_neg z] at hi
    grind
theorem leftL_len {p:List Pt} (hp:Pg p) (h:Hf):(leftL p h).length≤p.length+8:=by
 have a:=flat_len (c:=1) (P:=fun i => decide (Df (ov h (at' p i)) (ov h (at' p ((i+1) % p.length))))) (G:=fun i => (if ov h (at' p i)≤0 then [at' p i] else []) ++ crL (at' p i) (at' p ((i+1) % p.length)) (ov h (at' p i)) (ov h (at' p ((i+1) % p.length)))) (List.range p.length) (fun i _ => by
  rw [List.length_append]
  have:=crL_len (at' p i) (at' p ((i+1) % p.length)) (ov h (at' p i)) (ov h (at' p ((i+1) % p.length)))
  have:(if ov h (at' p i)≤0 then [at' p i] else []).length≤1:=by split <;> simp
  omega)
 have b:=cross_two hp h.1 h.2.1 (-h.2.2)
 simp only [← ov_af] at b
 rw [List.length_range] at a
 unfold leftL
 omega
def Poly (S:Pt→Prop) (q:List Pt):Prop:=∃ l q0,(∀ y,y ∈ l↔S y)∧IsHull l q0∧((q0.length≤64∧q=q0)∨(64 < q0.length∧IsOct q0 q))
theorem members {l l' q:List Pt} (h:IsHull l q) (e:∀ x,x ∈ l↔x ∈ l'):IsHull l' q:=⟨h.1,fun x hx => (e x).1 (h.2.1 x hx),fun x hx => h.2.2 x ((e x).2 hx)⟩
theorem oct_one {p q r:List Pt} (h:IsOct p q) (g:IsOct p r):q=r:=by
 obtain ⟨a,b,c,d,s,t,i,j,h1,h2,h3,h4,h5,h6,h7,h8,hq⟩:=h
 obtain ⟨a',b',c',d',s',t',i',j',k1,k2,k3,k4,k5,k6,k7,k8,hr⟩:=g
 obtain rfl:=k1.one h1
 obtain rfl:b'=b:=by have:=k2.one h2;omega
 obtain rfl:=k3.one h3
 obtain rfl:d'=d:=by have:=k4.one h4;omega
 obtain rfl:=k5.one h5
 obtain rfl:t'=t:=by have:=k6.one h6;omega
 obtain rfl:=k7.one h7
 obtain rfl:j'=j:=by have:=k8.one h8;omega
 exact hull_unique hq hr
theorem oct_more {p q:List Pt} (hp:Pg p) (hpl:Plcs p) (h:IsOct p q):Vl q∧(∀ x,Hs p x→Hs q x)∧∀ x,x ∈ q→((∃ y,y ∈ p∧y.1≤x.1)∧∃ y,y ∈ p∧x.1≤y.1)∧(∃ y,y ∈ p∧y.2≤x.2)∧∃ y,y ∈ p∧x.2≤y.2:=by
 obtain ⟨a,b,c,d,s,t,i,j,h1,h2,h3,h4,h5,h6,h7,h8,hq⟩:=h
 obtain ⟨B,K⟩:=bd_of h1 h2 h3 h4 h5 h6 h7 h8
 have O:=oct_keeps B
 have hn:q.length≤8:=count_le (at' q) q.length (octL a b c d s t i j) (fun i j hi hj hne => pg_distinct hq.1 hi hj hne) (fun i hi => hq.2.1 _ (at_mem hi))
 have box:∀ x,x ∈ q→((∃ y,y ∈ p∧y.1≤x.1)∧∃ y,y ∈ p∧x.1≤y.1)∧(∃ y,y ∈ p∧y.2≤x.2)∧∃ y,y ∈ p∧x.2≤y.2:=fun x hx => by
  have hk:=O _ (hq.2.1 _ hx)
  unfold Keeps at hk
  obtain ⟨y1,g1,e1⟩:=h1.1
  obtain ⟨y2,g2,e2⟩:=h2.1
  obtain ⟨y3,g3,e3⟩:=h3.1
  obtain ⟨y4,g4,e4⟩:=h4.1
  exact ⟨⟨⟨y1,g1,by omega⟩,y2,g2,by omega⟩,⟨y3,g3,by omega⟩,y4,g4,by omega⟩
 have hpl':Plcs q:=fun n hn => by
  obtain ⟨⟨⟨y1,g1,e1⟩,y2,g2,e2⟩,⟨y3,g3,e3⟩,y4,g4,e4⟩:=box _ (at_mem hn)
  obtain ⟨n1,l1,r1⟩:=mem_at g1
  obtain ⟨n2,l2,r2⟩:=mem_at g2
  obtain ⟨n3,l3,r3⟩:=mem_at g3
  obtain ⟨n4,l4,r4⟩:=mem_at g4
  have p1:=hpl n1 l1
  have p2:=hpl n2 l2
  have p3:=hpl n3 l3
  have p4:=hpl n4 l4
  rw [r1] at p1
  rw [r2] at p2
  rw [r3] at p3
  rw [r4] at p4
  unfold Plc at p1 p2 p3 p4 ⊢
  omega
 refine ⟨vl_of hq.1 (by omega) hpl',?_,box⟩
 intro x hx
 have hk:Keeps a b c d s t i j x:=by
  have g:∀ u v m,IsMin p u v m→m≤u * x.1+v * x.2:=by
   intro u v m hm
   obtain ⟨n,hn,hle⟩:=hs_least hp hx u v 0
   have:=hm.2 _ (at_mem hn)
   unfold af at hle
   omega
  have e1:=g _ _ _ h1
  have e2:=g _ _ _ h2
  have e3:=g _ _ _ h3
  have e4:=g _ _ _ h4
  have e5:=g _ _ _ h5
  have e6:=g _ _ _ h6
  have e7:=g _ _ _ h7
  have e8:=g _ _ _ h8
  unfold Keeps
  omega
 exact hs_of_least _ hq.1 hq.2.2 (oct_least hk)
theorem poly_one {S:Pt→Prop} {q r:List Pt} (h:Poly S q) (g:Poly S r):q=r:=by
 obtain ⟨l,q0,e,hq,k⟩:=h
 obtain ⟨l',r0,e',hr,k'⟩:=g
 obtain rfl:=hull_unique (members hq (fun x => (e x).trans (e' x).symm)) hr
 rcases k with ⟨k,rfl⟩ | ⟨k,o⟩ <;> rcases k' with ⟨k',rfl⟩ | ⟨k',o'⟩
 ·rfl
 ·omega
 ·omega
 ·exact oct_one o o'
theorem Poly.same {S S':Pt→Prop} (e:∀ y,S y↔S' y) {q:List Pt} (h:Poly S q):Poly S' q:=by
 obtain ⟨l,q0,e',g⟩:=h
 exact ⟨l,q0,fun y => (e' y).trans (e y),g⟩
theorem Poly.some {S:Pt→Prop} {q:List Pt} (h:Poly S q):∃ y,S y:=by
 obtain ⟨l,q0,e,hq,_⟩:=h
 exact ⟨at' q0 0,(e _).1 (hq.2.1 _ (at_mem hq.1.1))⟩
theorem hull_plc {S:Pt→Prop} {l q0:List Pt} (e:∀ y,y ∈ l↔S y) (hq:IsHull l q0) (hS:∀ y,S y→Plc y):Plcs q0:=fun _ hi => hS _ ((e _).1 (hq.2.1 _ (at_mem hi)))
theorem Poly.vl {S:Pt→Prop} {q:List Pt} (h:Poly S q) (hS:∀ y,S y→Plc y):Vl q:=by
 obtain ⟨l,q0,e,hq,k⟩:=h
 have hp:=hull_plc e hq hS
 rcases k with ⟨k,rfl⟩ | ⟨_,o⟩
 ·exact vl_of hq.1 k hp
 ·exact (oct_more hq.1 hp o).1
theorem Poly.has {S:Pt→Prop} {q:List Pt} (h:Poly S q) (hS:∀ y,S y→Plc y) {x:Pt} (hx:∀ u v k:Int,∃ y,S y∧af u v k y≤af u v k x):Hs q x:=by
 obtain ⟨l,q0,e,hq,k⟩:=h
 have hp:=hull_plc e hq hS
 have h0:Hs q0 x:=hs_of_least l hq.1 hq.2.2 (fun u v k => by
  obtain ⟨y,hy,g⟩:=hx u v k
  exact ⟨y,(e y).2 hy,g⟩)
 rcases k with ⟨k,rfl⟩ | ⟨_,o⟩
 ·exact h0
 ·exact (oct_more hq.1 hp o).2.1 x h0
theorem Poly.within {S:Pt→Prop} {q:List Pt} (h:Poly S q) (hS:∀ y,S y→Plc y) {a b c d:Int} (hB:∀ y,S y→(a≤y.1∧y.1≤b)∧c≤y.2∧y.2≤d):∀ y,y ∈ q→(a≤y.1∧y.1≤b)∧c≤y.2∧y.2≤d:=by
 obtain ⟨l,q0,e,hq,k⟩:=h
 have hp:=hull_plc e hq hS
 have h0:∀ y,y ∈ q0→(a≤y.1∧y.1≤b)∧c≤y.2∧y.2≤d:=fun y hy => hB y ((e y).1 (hq.2.1 y hy))
 rcases k with ⟨k,rfl⟩ | ⟨_,o⟩
 ·exact h0
 ·intro y hy
  obtain ⟨⟨⟨y1,g1,e1⟩,y2,g2,e2⟩,⟨y3,g3,e3⟩,y4,g4,e4⟩:=(oct_more hq.1 hp o).2.2 y hy
  have:=h0 _ g1
  have:=h0 _ g2
  have:=h0 _ g3
  have:=h0 _ g4
  omega
theorem Poly.small {S:Pt→Prop} {q:List Pt} (h:Poly S q) (L:List Pt) (hL:∀ y,S y→y ∈ L) (h64:L.length≤64):∀ y,y ∈ q→S y:=by
 obtain ⟨l,q0,e,hq,k⟩:=h
 have:=count_le (at' q0) q0.length L (fun i j hi hj hne => pg_distinct hq.1 hi hj hne) (fun i hi => hL _ ((e _).1 (hq.2.1 _ (at_mem hi))))
 rcases k with ⟨k,rfl⟩ | ⟨k,_⟩
 ·exact fun y hy => (e y).1 (hq.2.1 y hy)
 ·omega
theorem Poly.own {S:Pt→Prop} {p q:List Pt} (h:Poly S q) (hp:Pg p) (h64:p.length≤64) (h1:∀ y,y ∈ p→S y) (h2:∀ y,S y→Hs p y):q=p:=by
 obtain ⟨l,q0,e,hq,k⟩:=h
 have:IsHull l p:=⟨hp,fun y hy => (e y).2 (h1 y hy),fun y hy => h2 y ((e y).1 hy)⟩
 obtain rfl:=hull_unique hq this
 rcases k with ⟨_,k⟩ | ⟨k,_⟩
 ·exact k
 ·omega
def WF (h:Hf):Prop:=((-1000000≤h.1∧h.1≤1000000)∧(-1000000≤h.2.1∧h.2.1≤1000000)∧-1000000000000≤h.2.2∧h.2.2≤1000000000000)∧¬ (h.1=0∧h.2.1=0)
instance (h:Hf):Decidable (WF h):=by unfold WF;infer_instance
def PolySays (S:Pt→Prop) (w:World) (e:Ending) (w':World):Prop:=(∃ q v,Poly S q∧e=.returned (.tuple #[v,.bool true,.int .i64 0])∧Sl w' v q∧Grew w w')∨((¬ ∃ y,S y)∧∃ v,e=.returned (.tuple #[v,.bool false,.int .i64 0])∧Sl w' v []∧Grew w w')
def NoSays (w:World) (e:Ending) (w':World):Prop:=∃ v,e=.returned (.tuple #[v,.bool false,.int .i64 1])∧Sl w' v []∧Grew w w'
def YesNo (q:Prop) (w:World) (e:Ending) (w':World):Prop:=∃ r:Bool,e=.returned (.tuple #[.bool r,.int .i64 0])∧(r=true↔q)∧Grew w w'
def C1 (p q:List Pt) (y:Pt):Prop:=y ∈ p∧Hs q y
def C3 (p q:List Pt) (y:Pt):Prop:=(∃ i k,(i < p.length∧k < q.length)∧XF (at' p i) (at' p ((i+1) % p.length)) (at' q k) (at' q ((k+1) % q.length)) y)∧Hs p y∧Hs q y
structure Code:Prop where
 in_ok:∀ (h:Hf) (x:Pt) (w:World),WF h→Plc x→Calls Tryz.prog 160 #[.agg #[.int .i64 h.1,.int .i64 h.2.1,.int .i64 h.2.2],.agg #[.int .i64 x.1,.int .i64 x.2]] w (YesNo (ov h x≤0) w)
 in_bad:∀ (h:Hf) (x:Pt) (w:World),¬ (WF h∧Plc x)→Calls Tryz.prog 160 #[.agg #[.int .i64 h.1,.int .i64 h.2.1,.int .i64 h.2.2],.agg #[.int .i64 x.1,.int .i64 x.2]] w fun e w' => e=.returned (.tuple #[.bool false,.int .i64 1])∧Grew w w'
 cut_ok:∀ (p:List Pt) (h:Hf) (v:Value) (w:World),Sl w v p→Vl p→WF h→Calls Tryz.prog 126 #[v,.agg #[.int .i64 h.1,.int .i64 h.2.1,.int .i64 h.2.2]] w (PolySays (LeftS p h) w)
 cut_bad:∀ (p:List Pt) (h:Hf) (v:Value) (w:World),Sl w v p→p.length≤9223372036854775807→¬ (Vl p∧WF h)→Calls Tryz.prog 126 #[v,.agg #[.int .i64 h.1,.int .i64 h.2.1,.int .i64 h.2.2]] w (NoSays w)
 meet_ok:∀ (p q:List Pt) (v v':Value) (w:World),Sl w v p→Sl w v' q→Vl p→Vl q→Calls Tryz.prog 75 #[v,v'] w (PolySays (BothS p q) w)
 meet_bad:∀ (p q:List Pt) (v v':Value) (w:World),Sl w v p→Sl w v' q→p.length≤9223372036854775807→q.length≤9223372036854775807→¬ (Vl p∧Vl q)→Calls Tryz.prog 75 #[v,v'] w (NoSays w)
end Ct
end Go.Proofs.YtbpgfenippiepaaGreatDoor
namespace Go.Proofs.YtbpgfenippiepaaGreatDoor
open Go.RowKit
namespace Hl
theorem coord_c (n:Int) (w:World):Calls Tryz.prog 167 #[.int .i64 n] w fun e w' => e=.returned (.bool (decide (-500000≤n∧n≤500000)))∧w=w':=by
 by_cases h1:-500000≤n
 ·by_cases h2:n≤500000
  ·rw [decide_eq_true (show -500000≤n∧n≤500000 from ⟨h1,h2⟩)]
   go_enter Tryz.func167,Tryz.ntmps167
   go_wp2_with fail
   go_ret
   exact ⟨rfl,rfl⟩
  ·rw [decide_eq_false (show ¬ (-500000≤n∧n≤500000) from fun h => h2 h.2)]
   go_enter Tryz.func167,Tryz.ntmps167
   go_wp2_with fail
   go_ret
   exact ⟨rfl,rfl⟩
 ·rw [decide_eq_false (show ¬ (-500000≤n∧n≤500000) from fun h => h1 h.1)]
  go_enter Tryz.func167,Tryz.ntmps167
  go_wp2_with fail
  go_ret
  exact ⟨rfl,rfl⟩
theorem place_c (x:Pt) (w:World):Calls Tryz.prog 128 #[.agg #[.int .i64 x.1,.int .i64 x.2]] w fun e w' => e=.returned (.bool (decide (Plc x)))∧w.alloc (.cells #[.int .i64 x.1,.int .i64 x.2] 24)=w':=by
 rcases x with ⟨x,y⟩
 have ed:decide (Plc (x,y))=(decide (-500000≤x∧x≤500000) && decide (-500000≤y∧y≤500000)):=by
  rw [Bool.eq_iff_iff,decide_eq_true_eq,Bool.and_eq_true,decide_eq_true_eq,decide_eq_true_eq]
  exact Iff.rfl
 rw [ed]
 have cx:=fun w => coord_c x w
 have cy:=fun w => coord_c y w
 generalize decide (-500000≤x∧x≤500000)=p at cx ⊢
 generalize decide (-500000≤y∧y≤500000)=q at cy ⊢
 have CX:=Lib.hid cx
 have CY:=Lib.hid cy
 clear cx cy ed
 cases p
 ·go_enter Tryz.func128,Tryz.ntmps128
  go_wp2_with fail
  refine (CX.out _).mono ?_
  rintro e w1 ⟨rfl,rfl⟩
  go_wp2_with fail
  go_ret
  exact ⟨rfl,rfl⟩
 ·go_enter Tryz.func128,Tryz.ntmps128
  go_wp2_with fail
  refine (CX.out _).mono ?_
  rintro e w1 ⟨rfl,rfl⟩
  go_wp2_with fail
  refine (CY.out _).mono ?_
  rintro e w1 ⟨rfl,rfl⟩
  go_wp2_with fail
  go_ret
  exact ⟨rfl,rfl⟩
theorem places_c (p:List Pt) (b o c:Nat) (w:World) (hr:Row w b o p) (hl:p.length≤9223372036854775807):Calls Tryz.prog 93 #[.slice (some ⟨b,o,none⟩) p.length c] w (Tells (Plcs p) w):=by
 have HR:=Lib.hid hr
 clear hr
 go_enter Tryz.func93,Tryz.ntmps93
 go_wp2_with fail
 go_loopw [7] (fun i wr => ∃ k:Nat,k≤p.length∧i=.int .i64 k∧Grew w wr∧Hid (∀ j,j < k→Plc (at' p j))) (fun i _ => p.length - (intOf i).toNat)
 case atStart => exact ⟨0,Nat.zero_le _,rfl,Grew.refl _,Lib.hid (fun j hj => by omega)⟩
 case round =>
  obtain ⟨k,hk,rfl,G,D⟩:=hrel
  by_cases hlt:k < p.length
  ·obtain ⟨q0,q1⟩:=(HR.out.grown G).2 k hlt
   have PX:Hid (∀ w,Calls Tryz.prog 128 #[.agg #[.int .i64 (at' p k).1,.int .i64 (at' p k).2]] w fun e w' => e=.returned (.bool (decide (Plc (at' p k))))∧Grew w w'):=Lib.hid (fun w => (place_c (at' p k) w).mono (by rintro e w' ⟨rfl,rfl⟩;exact ⟨rfl,(Grew.refl w).alloc _ _⟩))
   by_cases hp:Plc (at' p k)
   ·have HP:=Lib.hid hp
    rw [decide_eq_true hp] at PX
    clear hp
    go_wp2_with fail
    refine (PX.out _).mono ?_
    rintro e w1 ⟨rfl,g1⟩
    have G1:Grew w w1:=Grew.trans (G.alloc _ _) g1
    clear g1
    go_wp2_with fail
    go_roundw
    case rel => exact ⟨k+1,by omega,by go_num,G1,Lib.hid (fun j hj => by
     by_cases e:j=k
     ·rw [e];exact HP.out
     ·exact D.out j (by omega))⟩
    case measure => simp [intOf];omega
   ·have HP:=Lib.hid hp
    rw [decide_eq_false hp] at PX
    clear hp
    go_wp2_with fail
    refine (PX.out _).mono ?_
    rintro e w1 ⟨rfl,g1⟩
    have G1:Grew w w1:=Grew.trans (G.alloc _ _) g1
    clear g1
    go_wp2_with fail
    go_ret
    exact Tells.no (fun h => HP.out (h k hlt)) rfl G1
  ·go_wp2_with fail
   go_ret
   exact Tells.yes (fun i hi => D.out i (by omega)) rfl G
theorem less_c (x y:Pt) (w:World):Calls Tryz.prog 94 #[.agg #[.int .i64 x.1,.int .i64 x.2],.agg #[.int .i64 y.1,.int .i64 y.2]] w fun e w' => e=.returned (.bool (decide (ls x y)))∧(w.alloc (.cells #[.int .i64 (x.1),.int .i64 (x.2)] 24)).alloc (.cells #[.int .i64 (y.1),.int .i64 (y.2)] 24)=w':=by
 rcases x with ⟨a,b⟩
 rcases y with ⟨c,d⟩
 by_cases h:ls (a,b) (c,d)
 ·rw [decide_eq_true h]
  rcases h with h | ⟨h,k⟩
  ·simp only at h
   go_enter Tryz.func94,Tryz.ntmps94
   go_wp2_with fail
   go_ret
   exact ⟨rfl,rfl⟩
  ·simp only at h k
   subst h
   go_enter Tryz.func94,Tryz.ntmps94
   go_wp2_with fail
   go_ret
   exact ⟨rfl,rfl⟩
 ·rw [decide_eq_false h]
  by_cases e:a=c
  ·subst e
   have k:d≤b:=by
    by_cases k:b < d
    ·exact absurd (Or.inr ⟨rfl,k⟩) h
    ·omega
   clear h
   go_enter Tryz.func94,Tryz.ntmps94
   go_wp2_with fail
   go_ret
   exact ⟨by first | rfl | (simp;omega),rfl⟩
  ·have k:c < a:=by
    by_cases k:a < c
    ·exact absurd (Or.inl k) h
    ·omega
   have e':(a == c)=false:=by simp [e]
   clear h e
   go_enter Tryz.func94,Tryz.ntmps94
   go_wp2_with fail
   go_ret
   exact ⟨by first | rfl | (simp;omega),rfl⟩
theorem turn_c (x y z:Pt) (w:World) (ha:Plc x) (hb:Plc y) (hc:Plc z):Calls Tryz.prog 131 #[.agg #[.int .i64 x.1,.int .i64 x.2],.agg #[.int .i64 y.1,.int .i64 y.2],.agg #[.int .i64 z.1,.int .i64 z.2]] w fun e w' => e=.returned (.int .i64 (cr x y z))∧((w.alloc (.cells #[.int .i64 (x.1),.int .i64 (x.2)] 24)).alloc (.cells #[.int .i64 (y.1),.int .i64 (y.2)] 24)).alloc (.cells #[.int .i64 (z.1),.int .i64 (z.2)] 24)=w':=by
 rcases x with ⟨a1,a2⟩
 rcases y with ⟨b1,b2⟩
 rcases z with ⟨c1,c2⟩
 obtain ⟨⟨m0,m1⟩,⟨m2,m3⟩⟩:=cr_bd ha hb hc
 obtain ⟨⟨p0,p1⟩,⟨p2,p3⟩⟩:=ha
 obtain ⟨⟨q0,q1⟩,⟨q2,q3⟩⟩:=hb
 obtain ⟨⟨r0,r1⟩,⟨r2,r3⟩⟩:=hc
 simp only at p0 p1 p2 p3 q0 q1 q2 q3 r0 r1 r2 r3 m0 m1 m2 m3
 go_enter Tryz.func131,Tryz.ntmps131
 go_wp2_with fail
 go_ret
 exact ⟨rfl,rfl⟩
def Measures (g:Nat) (m:Pt→Int):Prop:=∀ (x:Pt) (w:World),Plc x→Calls Tryz.prog g #[.agg #[.int .i64 x.1,.int .i64 x.2]] w fun e w' => e=.returned (.int .i64 (m x))∧w.alloc (.cells #[.int .i64 x.1,.int .i64 x.2] 24)=w'
theorem measX:Measures 168 (fun x => x.1):=fun x w hx => by
 rcases x with ⟨x,y⟩
 clear hx
 go_enter Tryz.func168,Tryz.ntmps168
 go_wp2_with fail
 go_ret
 exact ⟨rfl,rfl⟩
theorem measY:Measures 169 (fun x => x.2):=fun x w hx => by
 rcases x with ⟨x,y⟩
 clear hx
 go_enter Tryz.func169,Tryz.ntmps169
 go_wp2_with fail
 go_ret
 exact ⟨rfl,rfl⟩
theorem measS:Measures 135 (fun x => x.1+x.2):=fun x w hx => by
 rcases x with ⟨x,y⟩
 obtain ⟨⟨h0,h1⟩,⟨h2,h3⟩⟩:=hx
 simp only at h0 h1 h2 h3
 go_enter Tryz.func135,Tryz.ntmps135
 go_wp2_with fail
 go_ret
 exact ⟨rfl,rfl⟩
theorem measD:Measures 136 (fun x => x.1 - x.2):=fun x w hx => by
 rcases x with ⟨x,y⟩
 obtain ⟨⟨h0,h1⟩,⟨h2,h3⟩⟩:=hx
 simp only at h0 h1 h2 h3
 go_enter Tryz.func136,Tryz.ntmps136
 go_wp2_with fail
 go_ret
 exact ⟨rfl,rfl⟩
end Hl
end Go.Proofs.YtbpgfenippiepaaGreatDoor
namespace Go.Proofs.YtbpgfenippiepaaGreatDoor
open Go.RowKit Hl
namespace Ct
instance (n:Nat) (P:Nat→Pt) (x:Pt):Decidable (Ins n P x):=by unfold Ins;infer_instance
instance (a b x:Pt):Decidable (btw a b x):=by unfold btw;infer_instance
instance (p:List Pt) (x:Pt):Decidable (Hs p x):=by unfold Hs;infer_instance
def hsB (p:List Pt) (x:Pt):Bool:=decide (Hs p x)
theorem mem_hsB {p q:List Pt} {y:Pt}:y ∈ p.filter (hsB q)↔y ∈ p∧Hs q y:=by
 rw [List.mem_filter]
 unfold hsB
 rw [decide_eq_true_eq]
theorem mem_list {p:List Pt} {y:Pt}:y ∈ p↔∃ i,i < p.length∧at' p i=y:=⟨fun h => mem_at h,fun ⟨i,hi,e⟩ => by rw [← e];exact at_mem hi⟩
end Ct
end Go.Proofs.YtbpgfenippiepaaGreatDoor
namespace Go.Proofs.YtbpgfenippiepaaGreatDoor
open Go.RowKit
namespace Ct
open Hl
def EB (h:Hf):Prop:=(-1000000≤h.1∧h.1≤1000000)∧(-1000000≤h.2.1∧h.2.1≤1000000)∧-1000000000000≤h.2.2∧h.2.2≤1000000000000
theorem WF.eb {h:Hf} (k:WF h):EB h:=k.1
theorem mul_bd {x y a b:Int} (hx:-a≤x∧x≤a) (hy:-b≤y∧y≤b):-(a * b)≤x * y∧x * y≤a * b:=by
 have p1:=Int.mul_nonneg (show 0≤a - x by omega) (show 0≤b+y by omega)
 have p2:=Int.mul_nonneg (show 0≤a+x by omega) (show 0≤b - y by omega)
 have p3:=Int.mul_nonneg (show 0≤a - x by omega) (show 0≤b - y by omega)
 have p4:=Int.mul_nonneg (show 0≤a+x by omega) (show 0≤b+y by omega)
 have e1:(a - x) * (b+y)+(a+x) * (b - y)=2 * (a * b) - 2 * (x * y):=by grind
 have e2:(a - x) * (b - y)+(a+x) * (b+y)=2 * (a * b)+2 * (x * y):=by grind
 omega
theorem ov_bd {h:Hf} {x:Pt} (hh:EB h) (hx:Plc x):(-500000000000≤h.1 * x.1∧h.1 * x.1≤500000000000)∧(-500000000000≤h.2.1 * x.2∧h.2.1 * x.2≤500000000000)∧-2000000000000≤ov h x∧ov h x≤2000000000000:=by
 have h1:=mul_bd hh.1 hx.1
 have h2:=mul_bd hh.2.1 hx.2
 have h3:=hh.2.2
 unfold ov
 omega
theorem upTo_c (m n:Int) (w:World) (hm:-1000000000000≤m∧m≤1000000000000):Calls Tryz.prog 195 #[.int .i64 m,.int .i64 n] w fun e w' => e=.returned (.bool (decide (-m≤n∧n≤m)))∧w=w':=by
 by_cases h1:-m≤n
 ·by_cases h2:n≤m
  ·rw [decide_eq_true (show -m≤n∧n≤m from ⟨h1,h2⟩)]
   go_enter Tryz.func195,Tryz.ntmps195
   go_wp2_with fail
   go_ret
   exact ⟨rfl,rfl⟩
  ·rw [decide_eq_false (show ¬ (-m≤n∧n≤m) from fun h => h2 h.2)]
   go_enter Tryz.func195,Tryz.ntmps195
   go_wp2_with fail
   go_ret
   exact ⟨rfl,rfl⟩
 ·rw [decide_eq_false (show ¬ (-m≤n∧n≤m) from fun h => h1 h.1)]
  go_enter Tryz.func195,Tryz.ntmps195
  go_wp2_with fail
  go_ret
  exact ⟨rfl,rfl⟩
theorem beyond_c (h:Hf) (x:Pt) (w:World) (hh:EB h) (hx:Plc x):Calls Tryz.prog 164 #[.agg #[.int .i64 h.1,.int .i64 h.2.1,.int .i64 h.2.2],.agg #[.int .i64 x.1,.int .i64 x.2]] w fun e w' => e=.returned (.int .i64 (ov h x))∧(w.alloc (.cells #[.int .i64 h.1,.int .i64 h.2.1,.int .i64 h.2.2] 172)).alloc (.cells #[.int .i64 x.1,.int .i64 x.2] 24)=w':=by
 obtain ⟨⟨b0,b1⟩,⟨b2,b3⟩,b4,b5⟩:=ov_bd hh hx
 obtain ⟨-,-,b6,b7⟩:=hh
 rcases h with ⟨A,B,C⟩
 rcases x with ⟨x,y⟩
 unfold ov at *
 simp only at *
 go_enter Tryz.func164,Tryz.ntmps164
 go_wp2_with fail
 go_ret
 exact ⟨rfl,rfl⟩
theorem well_c (h:Hf) (w:World):Calls Tryz.prog 162 #[.agg #[.int .i64 h.1,.int .i64 h.2.1,.int .i64 h.2.2]] w fun e w' => e=.returned (.bool (decide (WF h)))∧w.alloc (.cells #[.int .i64 h.1,.int .i64 h.2.1,.int .i64 h.2.2] 78)=w':=by
 rcases h with ⟨A,B,C⟩
 have ed:decide (WF (A,B,C))=(((!(decide (A=0) && decide (B=0)) && decide (-1000000≤A∧A≤1000000)) && decide (-1000000≤B∧B≤1000000)) && decide (-1000000000000≤C∧C≤1000000000000)):=by
  rw [Bool.eq_iff_iff]
  simp only [decide_eq_true_eq,Bool.and_eq_true,Bool.not_eq_true',Bool.and_eq_false_iff,decide_eq_false_iff_not]
  unfold WF
  simp only
  omega
 rw [ed]
 have CA:=Lib.hid (fun w => upTo_c 1000000 A w (by omega))
 have CB:=Lib.hid (fun w => upTo_c 1000000 B w (by omega))
 have CC:=Lib.hid (fun w => upTo_c 1000000000000 C w (by omega))
 generalize decide (-1000000≤A∧A≤1000000)=p at CA ⊢
 generalize decide (-1000000≤B∧B≤1000000)=q at CB ⊢
 generalize decide (-1000000000000≤C∧C≤1000000000000)=r at CC ⊢
 clear ed
 have walk:∀ z:Bool,Hid ((!(decide (A=0) && decide (B=0)))=z)→(A=0∧B=0∧z=false∨A=0∧B ≠ 0∧z=true∨A ≠ 0∧z=true)→Calls Tryz.prog 162 #[.agg #[.int .i64 A,.int .i64 B,.int .i64 C]] w fun e w' => e=.returned (.bool (((z && p) && q) && r))∧w.alloc (.cells #[.int .i64 A,.int .i64 B,.int .i64 C] 78)=w':=by
  intro z _ hz
  have fin:∀ n:Bool,n=(((z && p) && q) && r)→Hid ((((z && p) && q) && r)=n):=fun n h => Lib.hid h.symm
  rcases hz with ⟨rfl,rfl,rfl⟩ | ⟨rfl,hb,rfl⟩ | ⟨ha,rfl⟩
  ·have F:=fin false (by simp)
   clear fin
   generalize (((false && p) && q) && r)=n at F ⊢
   obtain rfl:=F.out
   go_enter Tryz.func162,Tryz.ntmps162
   go_wp2_with fail
   go_ret
   exact ⟨rfl,rfl⟩
  all_goals
   first
    | (have hb1:(B != 0)=true:=by simp [hb])
    | (have ha1:(A != 0)=true:=by simp [ha])
   cases p
   ·have F:=fin false (by simp)
    clear fin
    generalize (((true && false) && q) && r)=n at F ⊢
    obtain rfl:=F.out
    go_enter Tryz.func162,Tryz.ntmps162
    go_wp2_with fail
    refine (CA.out _).mono ?_
    rintro e w1 ⟨rfl,rfl⟩
    go_wp2_with fail
    go_ret
    exact ⟨rfl,rfl⟩
   ·cases q
    ·have F:=fin false (by simp)
     clear fin
     generalize (((true && true) && false) && r)=n at F ⊢
     obtain rfl:=F.out
     go_enter Tryz.func162,Tryz.ntmps162
     go_wp2_with fail
     refine (CA.out _).mono ?_
     rintro e w1 ⟨rfl,rfl⟩
     go_wp2_with fail
     refine (CB.out _).mono ?_
     rintro e w1 ⟨rfl,rfl⟩
     go_wp2_with fail
     go_ret
     exact ⟨rfl,rfl⟩
    ·have F:=fin r (by simp)
     clear fin
     generalize (((true && true) && true) && r)=n at F ⊢
     obtain rfl:=F.out
     go_enter Tryz.func162,Tryz.ntmps162
     go_wp2_with fail
     refine (CA.out _).mono ?_
     rintro e w1 ⟨rfl,rfl⟩
     go_wp2_with fail
     refine (CB.out _).mono ?_
     rintro e w1 ⟨rfl,rfl⟩
     go_wp2_with fail
     refine (CC.out _).mono ?_
     rintro e w1 ⟨rfl,rfl⟩
     go_wp2_with fail
     go_ret
     exact ⟨rfl,rfl⟩
 by_cases ha:A=0
 ·by_cases hb:B=0
  ·subst ha;subst hb;exact walk _ (Lib.hid rfl) (Or.inl ⟨rfl,rfl,rfl⟩)
  ·subst ha;exact walk _ (Lib.hid rfl) (Or.inr (Or.inl ⟨rfl,hb,by simp [hb]⟩))
 ·exact walk _ (Lib.hid rfl) (Or.inr (Or.inr ⟨ha,by simp [ha]⟩))
set_option maxHeartbeats 400000 in
theorem around_c (a b:Int) (w:World) (hb:b ≠ 0) (ha:-2000000000000000000≤a∧a≤2000000000000000000) :
  Calls Tryz.prog 191 #[.int .i64 a,.int .i64 b] w fun e w' => e=.returned (.tuple #[.int .i64 (Ex.fl a b),.int .i64 (Ex.ce a b)])∧w=w':=by
 obtain ⟨q0,q1⟩:=Ex.tdiv_bd a b hb
 have q2:-2000000000000000000≤a.tdiv b:=by omega
 have q3:a.tdiv b≤2000000000000000000:=by omega
 clear q0 q1
 have hb':(b == 0)=false:=by simp [hb]
 obtain ⟨_,c1,c2,_,_⟩:=Ex.cut_facts a b hb
 by_cases h:a.tmod b=0
 ·obtain ⟨e1,e2⟩:=Ex.fl_whole hb h
  rw [e1,e2]
  have h':(a.tmod b == 0)=true:=by simp [h]
  clear e1 e2 c1 c2
  go_enter Tryz.func191,Tryz.ntmps191
  go_wp2_with fail
  go_ret2
  exact ⟨rfl,rfl⟩
 ·have h':(a.tmod b == 0)=false:=by simp [h]
  have an:a ≠ 0:=fun e => h (by rw [e];exact Int.zero_tmod b)
  have sg:(a.tmod b < 0)↔a < 0:=by
   constructor
   ·intro g
    by_cases z:a < 0
    ·exact z
    ·have:=c1 (by omega);omega
   ·intro g
    have:=c2 (by omega);omega
  clear c1 c2
  by_cases hs:(a.tmod b < 0)↔(b < 0)
  ·obtain ⟨e1,e2⟩:=Ex.fl_above hb h hs
   rw [e1,e2]
   have h2:(decide (a < 0) == decide (b < 0))=true:=by simp only [beq_iff_eq,decide_eq_decide];rw [← sg];exact hs
   clear e1 e2 h hs sg
   go_enter Tryz.func191,Tryz.ntmps191
   go_wp2_with fail
   go_ret2
   exact ⟨rfl,rfl⟩
  ·obtain ⟨e1,e2⟩:=Ex.fl_below hb h hs
   rw [e1,e2]
   have h2:(decide (a < 0) == decide (b < 0))=false:=by
    rw [Bool.eq_false_iff]
    intro g
    simp only [beq_iff_eq,decide_eq_decide] at g
    exact hs (sg.trans g)
   have h3:a.tdiv b - 1+1=a.tdiv b:=by omega
   clear e1 e2 h hs sg
   go_enter Tryz.func191,Tryz.ntmps191
   go_wp2_with fail
   go_ret2
   exact ⟨by first | rfl | (simp;omega),rfl⟩
theorem fl_fr {s t m n a b:Int} (h:Wt s t m n):a+Ex.fl ((b - a) * s) (s - t)=(m * a+n * b) / (m+n)∧a+Ex.ce ((b - a) * s) (s - t) = -(-(m * a+n * b) / (m+n)):=by
 have hW:m+n ≠ 0:=by have:=h.1;have:=h.2.1;omega
 have hW':0 < m+n:=by have:=h.1;have:=h.2.1;omega
 have key:∀ x:Int,Ex.fl x (m+n)=x / (m+n):=fun x => by unfold Ex.fl;rw [if_pos hW']
 have k1:Ex.fl ((b - a) * s) (s - t)=((b - a) * n) / (m+n)∧Ex.ce ((b - a) * s) (s - t) = -((-((b - a) * n)) / (m+n)):=by
  rcases h.2.2 with ⟨e1,e2⟩ | ⟨e1,e2⟩
  ·rw [e1,e2,show -n - m = -(m+n) by omega,Int.mul_neg,Ex.fl_neg_neg _ _ hW,Ex.ce_neg_neg _ _ hW]
   unfold Ex.ce
   rw [key,key]
   exact ⟨rfl,rfl⟩
  ·rw [e1,e2,show n - -m=m+n by omega]
   unfold Ex.ce
   rw [key,key]
   exact ⟨rfl,rfl⟩
 have e1:m * a+n * b=(b - a) * n+a * (m+n):=by grind
 have e2:-(m * a+n * b) = -((b - a) * n)+-a * (m+n):=by grind
 rw [k1.1,k1.2,e2,Int.add_mul_ediv_right _ _ hW,e1,Int.add_mul_ediv_right _ _ hW]
 omega
end Ct
end Go.Proofs.YtbpgfenippiepaaGreatDoor
