/-
  Plain geometry: a chain of corners that grows by a sorted list of points.
  Plain geometry: a chain there and a chain back are a hull.
  Plain geometry: a hull that is found corner by corner.
  The least point; the point behind a corner; all corners.
-/
import Derived.Test.YtbpgfenippiepaaGreatDoorMHullOct
namespace Go.Proofs.YtbpgfenippiepaaGreatDoor
namespace Hl
structure Chain (u v k:Int) (L:Pt→Prop) (S:List Pt):Prop where
 some':1≤S.length
 inc:∀ i,i+1 < S.length→af u v k (at' S i) < af u v k (at' S (i+1))
 turns:∀ i,i+2 < S.length→0 < cr (at' S i) (at' S (i+1)) (at' S (i+2))
 left:∀ i,i+1 < S.length→∀ y,L y→0≤cr (at' S i) (at' S (i+1)) y
 low:∀ y,L y→af u v k (at' S 0)≤af u v k y
 mem:∀ i,i < S.length→L (at' S i)
structure Pend (u v k:Int) (L:Pt→Prop) (S:List Pt) (x:Pt):Prop extends Chain u v k L S where
 up:∀ y,L y→af u v k y < af u v k x
 fine:∀ y,L y→af u v k (at' S (S.length - 1))≤af u v k y→0≤cr (at' S (S.length - 1)) x y
theorem at_append {p q:List Pt} {i:Nat} (h:i < p.length):at' (p ++ q) i=at' p i:=by
 unfold at'
 simp [List.getD,List.getElem?_append_left h]
theorem at_last (p:List Pt) (x:Pt):at' (p ++ [x]) p.length=x:=by
 unfold at'
 simp [List.getD]
theorem at_take {p:List Pt} {n i:Nat} (h:i < n) (_hn:n≤p.length):at' (p.take n) i=at' p i:=by
 unfold at'
 simp [List.getD,h]
theorem Chain.one {u v k:Int} {x:Pt}:Chain u v k (fun y => y=x) [x] :=
 ⟨by simp,fun i h => by simp at h,fun i h => by simp at h,fun i h => by simp at h,fun y h => by rw [h];exact Int.le_refl _,fun i h => by
  have e:i=0:=by simpa using h
  subst e;rfl⟩
theorem inc_all {u v k:Int} {S:List Pt} (h:∀ i,i+1 < S.length→af u v k (at' S i) < af u v k (at' S (i+1))):∀ i j,i < j→j < S.length→af u v k (at' S i) < af u v k (at' S j):=by
 intro i j hij
 induction j with
 | zero => omega
 | succ j ih =>
   intro hj
   have h1:=h j hj
   by_cases e:i=j
   ·rw [e];exact h1
   ·have:=ih (by omega) (by omega)
    omega
theorem Chain.pend {u v k:Int} {L:Pt→Prop} {S:List Pt} (h:Chain u v k L S) {x:Pt} (hx:∀ y,L y→af u v k y < af u v k x) (hi:∀ y,L y→af u v k (at' S (S.length - 1))≤af u v k y→y=at' S (S.length - 1)):Pend u v k L S x :=
 ⟨h,hx,fun y hy hle => by rw [hi y hy hle,cr_self];exact Int.le_refl _⟩
theorem Pend.pop {u v k:Int} {L:Pt→Prop} {S:List Pt} {x:Pt} (h:Pend u v k L S x) (h2:2≤S.length) (hc:cr (at' S (S.length - 2)) (at' S (S.length - 1)) x≤0):Pend u v k L (S.take (S.length - 1)) x:=by
 have hl:(S.take (S.length - 1)).length=S.length - 1:=by simp
 have hb:S.length - 2+1=S.length - 1:=by omega
 refine ⟨⟨by omega,fun i hi => ?_,fun i hi => ?_,fun i hi y hy => ?_,fun y hy => ?_,fun i hi => ?_⟩,h.up,fun y hy hle => ?_⟩
 ·rw [hl] at hi
  rw [at_take (by omega) (by omega),at_take (by omega) (by omega)]
  exact h.inc i (by omega)
 ·rw [hl] at hi
  rw [at_take (by omega) (by omega),at_take (by omega) (by omega),at_take (by omega) (by omega)]
  exact h.turns i (by omega)
 ·rw [hl] at hi
  rw [at_take (by omega) (by omega),at_take (by omega) (by omega)]
  exact h.left i (by omega) y hy
 ·rw [at_take (by omega) (by omega)]
  exact h.low y hy
 ·rw [hl] at hi
  rw [at_take (by omega) (by omega)]
  exact h.mem i (by omega)
 ·rw [hl] at hle ⊢
  have e:S.length - 1 - 1=S.length - 2:=by omega
  rw [e,at_take (by omega) (by omega)] at hle ⊢
  have i1:=h.inc (S.length - 2) (by omega)
  have l1:=h.left (S.length - 2) (by omega) y hy
  rw [hb] at i1 l1
  have u1:=h.up _ (h.mem (S.length - 1) (by omega))
  exact pop_left i1 (by omega) hle hc l1
theorem back_left {u v k:Int} {z a x y:Pt} (hza:af u v k z < af u v k a) (hax:af u v k a < af u v k x) (hya:af u v k y≤af u v k a) (c1:0 < cr z a x) (c2:0≤cr z a y):0≤cr a x y:=by
 have e:=tri u v k a z x y
 rw [cr_swap2 z a y,cr_swap2 z a x] at e
 have m1:=Int.mul_nonneg c2 (show 0≤af u v k x - af u v k a by omega)
 have m2:=Int.mul_nonneg (Int.le_of_lt c1) (show 0≤af u v k a - af u v k y by omega)
 refine nonneg_of (show 0 < af u v k a - af u v k z by omega) ?_
 have e2:(af u v k a - af u v k z) * cr a x y=cr z a y * (af u v k x - af u v k a)+cr z a x * (af u v k a - af u v k y):=by grind
 rw [e2]
 omega
theorem Pend.push {u v k:Int} {L:Pt→Prop} {S:List Pt} {x:Pt} (h:Pend u v k L S x) (hc:2≤S.length→0 < cr (at' S (S.length - 2)) (at' S (S.length - 1)) x):Chain u v k (fun y => L y∨y=x) (S ++ [x]):=by
 have hs:=h.some'
 have hl:(S ++ [x]).length=S.length+1:=by simp
 have hinc:∀ i,i+1 < (S ++ [x]).length→af u v k (at' (S ++ [x]) i) < af u v k (at' (S ++ [x]) (i+1)):=by
  intro i hi
  rw [hl] at hi
  rw [at_append (by omega)]
  by_cases e:i+1=S.length
  ·rw [e,at_last]
   exact h.up _ (h.mem i (by omega))
  ·rw [at_append (by omega)]
   exact h.inc i (by omega)
 have hturn:∀ i,i+2 < (S ++ [x]).length→0 < cr (at' (S ++ [x]) i) (at' (S ++ [x]) (i+1)) (at' (S ++ [x]) (i+2)):=by
  intro i hi
  rw [hl] at hi
  rw [at_append (by omega),at_append (by omega)]
  by_cases e:i+2=S.length
  ·rw [e,at_last]
   have e1:S.length - 2=i:=by omega
   have e2:S.length - 1=i+1:=by omega
   have:=hc (by omega)
   rwa [e1,e2] at this
  ·rw [at_append (by omega)]
   exact h.turns i (by omega)
 have hall:=chain_all (u:=u) (v:=v) (k:=k) (P:=at' (S ++ [x])) (S ++ [x]).length hinc hturn
 refine ⟨by omega,hinc,hturn,fun i hi y hy => ?_,fun y hy => ?_,fun i hi => ?_⟩
 ·rw [hl] at hi
  rcases hy with hy | rfl
  ·rw [at_append (by omega)]
   by_cases e:i+1=S.length
   ·rw [e,at_last]
    have ei:S.length - 1=i:=by omega
    by_cases hle:af u v k (at' S i)≤af u v k y
    ·have:=h.fine y hy (by rw [ei];exact hle)
     rwa [ei] at this
    ·have h1:1≤i:=by
      by_cases e0:i=0
      ·subst e0;exact absurd (h.low y hy) hle
      ·omega
     have ez:i - 1+1=i:=by omega
     have z1:=h.inc (i - 1) (by omega)
     have z2:=h.left (i - 1) (by omega) y hy
     have z3:=hc (by omega)
     have e2:S.length - 2=i - 1:=by omega
     rw [ez] at z1 z2
     rw [ei,e2] at z3
     exact back_left z1 (h.up _ (h.mem i (by omega))) (by omega) z3 z2
   ·rw [at_append (by omega)]
    exact h.left i (by omega) y hy
  ·by_cases e:i+1=S.length
   ·rw [e,at_last,cr_self'];exact Int.le_refl _
   ·have:=hall i (i+1) S.length (by omega) (by omega) (by omega)
    rw [at_last] at this
    omega
 ·rw [at_append (by omega)]
  rcases hy with hy | rfl
  ·exact h.low y hy
  ·exact Int.le_of_lt (h.up _ (h.mem 0 (by omega)))
 ·rw [hl] at hi
  by_cases e:i=S.length
  ·rw [e,at_last];exact Or.inr rfl
  ·rw [at_append (by omega)];exact Or.inl (h.mem i (by omega))
end Hl
end Go.Proofs.YtbpgfenippiepaaGreatDoor
namespace Go.Proofs.YtbpgfenippiepaaGreatDoor
namespace Hl
section
variable {u v k:Int} {l S T:List Pt}
theorem neg_af (u v k:Int) (x:Pt):af (-u) (-v) (-k) x = -(af u v k x):=by unfold af;grind
theorem meet_flat {A M B y:Pt} (hA:af u v k A < af u v k M) (hB:af u v k B < af u v k M) (z:cr A M B=0) (h1:0≤cr A M y) (h2:0≤cr M B y):cr A M y=0:=by
 have e:=tri u v k M A B y
 have z1:cr M A B=0:=by rw [cr_swap2,z];rfl
 have z2:cr M A y = -(cr A M y):=cr_swap2 _ _ _
 rw [z1,z2,Int.zero_mul,Int.sub_zero] at e
 have m1:=Int.mul_nonneg h2 (show 0≤af u v k M - af u v k A by omega)
 have e2:cr M B y * (af u v k M - af u v k A)+cr A M y * (af u v k M - af u v k B)=0:=by grind
 by_cases c:cr A M y=0
 ·exact c
 ·have:=Int.mul_pos (show 0 < cr A M y by omega) (show 0 < af u v k M - af u v k B by omega)
  omega
theorem junction (hS:Chain u v k (fun y => y ∈ l) S) (hT:Chain (-u) (-v) (-k) (fun y => y ∈ l) T) (h1:2≤S.length) (h2:2≤T.length) (h3:3≤S.length∨3≤T.length) (e:at' S (S.length - 1)=at' T 0):0 < cr (at' S (S.length - 2)) (at' S (S.length - 1)) (at' T 1):=by
 have es:S.length - 2+1=S.length - 1:=by omega
 have iA:=hS.inc (S.length - 2) (by omega)
 have lA:=hS.left (S.length - 2) (by omega)
 rw [es] at iA lA
 have iB:=hT.inc 0 (by omega)
 have lB:=hT.left 0 (by omega)
 rw [neg_af,neg_af] at iB
 rw [Nat.zero_add] at iB lB
 rw [← e] at iB lB
 have g:=lA _ (hT.mem 1 (by omega))
 by_cases z:cr (at' S (S.length - 2)) (at' S (S.length - 1)) (at' T 1)=0
 ·exfalso
  have flat:∀ y,y ∈ l→cr (at' S (S.length - 2)) (at' S (S.length - 1)) y=0:=fun y hy => meet_flat iA (by omega) z (lA y hy) (lB y hy)
  have ne:at' S (S.length - 2) ≠ at' S (S.length - 1):=fun ee => by rw [ee] at iA;omega
  rcases h3 with h3 | h3
  ·have t:=hS.turns 0 (by omega)
   have:=on_line ne (flat _ (hS.mem 0 (by omega))) (flat _ (hS.mem (0+1) (by omega))) (flat _ (hS.mem (0+2) (by omega)))
   omega
  ·have t:=hT.turns 0 (by omega)
   have:=on_line ne (flat _ (hT.mem 0 (by omega))) (flat _ (hT.mem (0+1) (by omega))) (flat _ (hT.mem (0+2) (by omega)))
   omega
 ·omega
theorem chains_apart (hS:Chain u v k (fun y => y ∈ l) S) (hT:Chain (-u) (-v) (-k) (fun y => y ∈ l) T) {i b:Nat} (hi0:1≤i) (hi:i+1 < S.length) (hb:b+1 < T.length):at' S i ≠ at' T b:=by
 intro e
 have ei:i - 1+1=i:=by omega
 have ei2:i - 1+2=i+1:=by omega
 have t:=hS.turns (i - 1) (by omega)
 rw [ei,ei2] at t
 have g1:=hS.inc i hi
 have g2:=hT.inc b hb
 rw [neg_af,neg_af,← e] at g2
 have l1:=hT.left b hb _ (hS.mem (i+1) hi)
 rw [← e] at l1
 have l2:=hS.left i hi _ (hT.mem (b+1) hb)
 have l3:=hS.left (i - 1) (by omega) _ (hT.mem (b+1) hb)
 rw [ei] at l3
 have z:cr (at' S i) (at' S (i+1)) (at' T (b+1))=0:=by rw [cr_swap] at l1;omega
 have q:=tri u v k (at' S i) (at' S (i+1)) (at' T (b+1)) (at' S (i - 1))
 rw [z,Int.zero_mul,Int.sub_zero,← cr_rot,← cr_rot (at' S (i - 1)) (at' S i) (at' S (i+1))] at q
 have m1:=Int.mul_nonneg l3 (show 0≤af u v k (at' S (i+1)) - af u v k (at' S i) by omega)
 have m2:=Int.mul_pos t (show 0 < af u v k (at' S i) - af u v k (at' T (b+1)) by omega)
 have q2:cr (at' S (i - 1)) (at' S i) (at' T (b+1)) * (af u v k (at' S (i+1)) - af u v k (at' S i))+cr (at' S (i - 1)) (at' S i) (at' S (i+1)) * (af u v k (at' S i) - af u v k (at' T (b+1)))=0:=by grind
 omega
theorem btw_of {a b y:Pt} (hab:af u v k a < af u v k b) (c:cr a b y=0) (h1:af u v k a≤af u v k y) (h2:af u v k y≤af u v k b):btw a b y:=by
 have s1:=seg1 u v k a b y
 have s2:=seg2 u v k a b y
 rw [c,Int.mul_zero,Int.add_zero] at s1
 rw [c,Int.mul_zero,Int.sub_zero] at s2
 have key:∀ d e:Int,d * (af u v k y - af u v k a)=e * (af u v k b - af u v k a)→(0≤e∧e≤d)∨(d≤e∧e≤0):=by
  intro d e h
  rcases Int.le_total 0 d with hd | hd
  ·left
   constructor
   ·have:=Int.mul_nonneg hd (show 0≤af u v k y - af u v k a by omega)
    exact nonneg_of (show 0 < af u v k b - af u v k a by omega) (by rw [Int.mul_comm];omega)
   ·have:=Int.mul_nonneg hd (show 0≤af u v k b - af u v k y by omega)
    have e3:(af u v k b - af u v k a) * (d - e)=d * (af u v k b - af u v k y):=by grind
    have:=nonneg_of (show 0 < af u v k b - af u v k a by omega) (show 0≤(af u v k b - af u v k a) * (d - e) by rw [e3];exact this)
    omega
  ·right
   constructor
   ·have:=Int.mul_nonneg (show 0≤-d by omega) (show 0≤af u v k b - af u v k y by omega)
    have e3:(af u v k b - af u v k a) * (e - d)=(-d) * (af u v k b - af u v k y):=by grind
    have:=nonneg_of (show 0 < af u v k b - af u v k a by omega) (show 0≤(af u v k b - af u v k a) * (e - d) by rw [e3];exact this)
    omega
   ·have:=Int.mul_nonneg (show 0≤-d by omega) (show 0≤af u v k y - af u v k a by omega)
    have e3:(af u v k b - af u v k a) * (-e)=(-d) * (af u v k y - af u v k a):=by grind
    have:=nonneg_of (show 0 < af u v k b - af u v k a by omega) (show 0≤(af u v k b - af u v k a) * (-e) by rw [e3];exact this)
    omega
 have k1:=key _ _ s1
 have k2:=key _ _ s2
 unfold btw
 omega
theorem two_chains (hS:Chain u v k (fun y => y ∈ l) S) (hT:Chain (-u) (-v) (-k) (fun y => y ∈ l) T) (h1:2≤S.length) (h2:2≤T.length) (eM:at' S (S.length - 1)=at' T 0) (em:at' T (T.length - 1)=at' S 0)
  (hls:∀ y z,y ∈ l→z ∈ l→af u v k y < af u v k z→ls y z):IsHull l (S.take (S.length - 1) ++ T.take (T.length - 1)):=by
 obtain ⟨s,hs⟩:∃ s,S.length=s+1:=⟨S.length - 1,by omega⟩
 obtain ⟨t,ht⟩:∃ t,T.length=t+1:=⟨T.length - 1,by omega⟩
 have ls1:S.length - 1=s:=by omega
 have lt1:T.length - 1=t:=by omega
 rw [ls1] at eM ⊢
 rw [lt1] at em ⊢
 obtain ⟨p,hp⟩:∃ p,S.take s ++ T.take t=p:=⟨_,rfl⟩
 have hn:p.length=s+t:=by rw [← hp];simp;omega
 have aS:∀ i,i < s→at' p i=at' S i:=fun i hi => by
  rw [← hp,at_append (by simp;omega),at_take hi (by omega)]
 have aT:∀ j,j < t→at' p (s+j)=at' T j:=fun j hj => by
  have h:at' (S.take s ++ T.take t) (s+j)=at' (T.take t) j:=by
   have hl:(S.take s).length=s:=by simp;omega
   unfold at'
   simp only [List.getD,List.getElem?_append_right (show (S.take s).length≤s+j by omega),hl,Nat.add_sub_cancel_left]
  rw [← hp,h,at_take hj (by omega)]
 rw [hp]
 have nS:∀ i,i < s→at' p ((i+1) % p.length)=at' S (i+1):=fun i hi => by
  rw [hn,Nat.mod_eq_of_lt (by omega)]
  by_cases e:i+1=s
  ·have:=aT 0 (by omega)
   rw [Nat.add_zero] at this
   rw [e,this,eM]
  ·exact aS _ (by omega)
 have nT:∀ j,j < t→at' p ((s+j+1) % p.length)=at' T (j+1):=fun j hj => by
  by_cases e:j+1=t
  ·have e2:s+j+1=s+t:=by omega
   rw [hn,e2,Nat.mod_self,aS 0 (by omega),e,em]
  ·rw [hn,Nat.mod_eq_of_lt (by omega)]
   exact aT (j+1) (by omega)
 have incS:=inc_all hS.inc
 have incT:=inc_all hT.inc
 have hm:∀ x,x ∈ p→x ∈ l:=fun x hx => by
  obtain ⟨i,hi,e⟩:=mem_at hx
  rw [← e]
  by_cases c:i < s
  ·rw [aS i c];exact hS.mem i (by omega)
  ·obtain ⟨j,hj⟩:∃ j,i=s+j:=⟨i - s,by omega⟩
   rw [hj,aT j (by omega)];exact hT.mem j (by omega)
 have cross:∀ i j,i < s→j < t→at' S i ≠ at' T j:=fun i j hi hj e => by
  by_cases e0:i=0
  ·subst e0
   rw [← em] at e
   have:=incT j t hj (by omega)
   rw [e] at this
   omega
  ·by_cases j0:j=0
   ·subst j0
    rw [← eM] at e
    have:=incS i s hi (by omega)
    rw [e] at this
    omega
   ·exact chains_apart hS hT (by omega) (by omega) (by omega) e
 have hd:∀ i j,i < p.length→j < p.length→i ≠ j→at' p i ≠ at' p j:=by
  have half:∀ i j,i < j→j < p.length→at' p i ≠ at' p j:=by
   intro i j hij hj e
   by_cases ci:i < s
   ·by_cases cj:j < s
    ·rw [aS i ci,aS j cj] at e
     have:=incS i j hij (by omega)
     rw [e] at this
     omega
    ·obtain ⟨b,hb⟩:∃ b,j=s+b:=⟨j - s,by omega⟩
     rw [aS i ci,hb,aT b (by omega)] at e
     exact cross i b ci (by omega) e
   ·obtain ⟨a,ha⟩:∃ a,i=s+a:=⟨i - s,by omega⟩
    obtain ⟨b,hb⟩:∃ b,j=s+b:=⟨j - s,by omega⟩
    rw [ha,hb,aT a (by omega),aT b (by omega)] at e
    have:=incT a b (by omega) (by omega)
    rw [e] at this
    omega
  intro i j hi hj hne e
  rcases Nat.lt_or_gt_of_ne hne with c | c
  ·exact half i j c hj e
  ·exact half j i c hi e.symm
 have hl:∀ i,i < p.length→∀ y,y ∈ l→0≤cr (at' p i) (at' p ((i+1) % p.length)) y:=fun i hi y hy => by
  by_cases c:i < s
  ·rw [aS i c,nS i c];exact hS.left i (by omega) y hy
  ·obtain ⟨j,hj⟩:∃ j,i=s+j:=⟨i - s,by omega⟩
   rw [hj,aT j (by omega),nT j (by omega)];exact hT.left j (by omega) y hy
 have h0:∀ i,1≤i→i < p.length→ls (at' p 0) (at' p i):=fun i h1' hi => by
  refine hls _ _ (hm _ (at_mem (by omega))) (hm _ (at_mem hi)) ?_
  rw [aS 0 (by omega)]
  by_cases c:i < s
  ·rw [aS i c];exact incS 0 i (by omega) (by omega)
  ·obtain ⟨j,hj⟩:∃ j,i=s+j:=⟨i - s,by omega⟩
   rw [hj,aT j (by omega)]
   have:=incT j t (by omega) (by omega)
   rw [neg_af,neg_af,em] at this
   omega
 by_cases h3:3≤p.length
 ·refine hull_of_sides h3 hm hd hl (fun i hi => ?_) h0
  have cond:3≤S.length∨3≤T.length:=by omega
  by_cases c:i < s
  ·rw [nS i c]
   by_cases e0:i=0
   ·subst e0
    have epv:pv p.length 0=s+(t - 1):=by
     unfold pv
     rw [hn,Nat.zero_add,Nat.mod_eq_of_lt (by omega)];omega
    rw [epv,aT _ (by omega),aS 0 (by omega)]
    have hS':Chain (- -u) (- -v) (- -k) (fun y => y ∈ l) S:=by rw [Int.neg_neg,Int.neg_neg,Int.neg_neg];exact hS
    have:=junction hT hS' h2 h1 cond.symm (by rw [lt1];exact em)
    have e3:T.length - 2=t - 1:=by omega
    rw [e3,lt1,em] at this
    exact this
   ·have epv:pv p.length i=i - 1:=by
     unfold pv
     have:i+(p.length - 1)=p.length+(i - 1):=by omega
     rw [this,Nat.add_mod_left,Nat.mod_eq_of_lt (by omega)]
    rw [epv,aS _ (by omega),aS i c]
    have:=hS.turns (i - 1) (by omega)
    have e1:i - 1+1=i:=by omega
    have e2:i - 1+2=i+1:=by omega
    rwa [e1,e2] at this
  ·obtain ⟨j,hj⟩:∃ j,i=s+j:=⟨i - s,by omega⟩
   subst hj
   rw [nT j (by omega)]
   have epv:pv p.length (s+j)=s+j - 1:=by
    unfold pv
    have:s+j+(p.length - 1)=p.length+(s+j - 1):=by omega
    rw [this,Nat.add_mod_left,Nat.mod_eq_of_lt (by omega)]
   rw [epv]
   by_cases e0:j=0
   ·subst e0
    have e5:s+0 - 1=s - 1:=by omega
    rw [e5,aS _ (by omega),aT 0 (by omega),← eM]
    have:=junction hS hT h1 h2 cond (by rw [ls1];exact eM)
    have e3:S.length - 2=s - 1:=by omega
    rw [e3,ls1] at this
    exact this
   ·have e4:s+j - 1=s+(j - 1):=by omega
    rw [e4,aT _ (by omega),aT j (by omega)]
    have:=hT.turns (j - 1) (by omega)
    have e1:j - 1+1=j:=by omega
    have e2:j - 1+2=j+1:=by omega
    rwa [e1,e2] at this
 ·have s1:s=1:=by omega
  have t1:t=1:=by omega
  subst s1 t1
  refine ⟨⟨by omega,h0,fun h => by omega⟩,hm,fun y hy => ?_⟩
  rw [hs2 (by omega)]
  have p0:=aS 0 (by omega)
  have p1:=aT 0 (by omega)
  rw [Nat.add_zero,← eM] at p1
  rw [p0,p1]
  have l1:=hS.left 0 (by omega) y hy
  have l2:=hT.left 0 (by omega) y hy
  rw [Nat.zero_add,← eM,em] at l2
  rw [Nat.zero_add] at l1
  rw [cr_swap2] at l2
  have g:=hS.inc 0 (by omega)
  rw [Nat.zero_add] at g
  have lo:=hS.low y hy
  have up:=hT.low y hy
  rw [neg_af,neg_af,← eM] at up
  exact ⟨by omega,btw_of g (by omega) lo (by omega)⟩
end
end Hl
end Go.Proofs.YtbpgfenippiepaaGreatDoor
namespace Go.Proofs.YtbpgfenippiepaaGreatDoor
namespace Hl
instance decBtw (a b x:Pt):Decidable (btw a b x):=by unfold btw;infer_instance
def Good (f t y:Pt):Prop:=0 < cr f t y∨(cr f t y=0∧btw f t y)
def nx (f tg y:Pt):Pt:=if tg=f∨cr f tg y < 0∨(cr f tg y=0∧btw f y tg) then y else tg
def NX (f:Pt) (l:List Pt):Pt:=l.foldl (nx f) f
def Best (f tg:Pt) (L:Pt→Prop):Prop:=(tg=f∧∀ y,L y→y=f)∨(tg ≠ f∧L tg∧∀ y,L y→Good f tg y)
theorem good_f (f t:Pt):Good f t f:=Or.inr ⟨cr_self _ _,by unfold btw;omega⟩
theorem good_t (f t:Pt):Good f t t:=Or.inr ⟨cr_self' _ _,by unfold btw;omega⟩
theorem best_step {f tg y:Pt} {L:Pt→Prop} (u v k:Int) (hg:∀ z,(L z∨z=y)→z ≠ f→af u v k f < af u v k z) (h:Best f tg L):Best f (nx f tg y) (fun z => L z∨z=y):=by
 unfold nx
 rcases h with ⟨h1,h2⟩ | ⟨h1,h2,h3⟩
 ·rw [if_pos (Or.inl h1)]
  by_cases e:y=f
  ·exact Or.inl ⟨e,fun z hz => hz.elim (h2 z) (fun ez => ez.trans e)⟩
  ·refine Or.inr ⟨e,Or.inr rfl,fun z hz => ?_⟩
   rcases hz with hz | rfl
   ·rw [h2 z hz];exact good_f _ _
   ·exact good_t _ _
 ·have gto:=hg tg (Or.inl h2) h1
  by_cases c1:cr f tg y < 0
  ·rw [if_pos (Or.inr (Or.inl c1))]
   have hy:y ≠ f:=fun e => by rw [e,cr_self] at c1;omega
   have gy:=hg y (Or.inr rfl) hy
   refine Or.inr ⟨hy,Or.inr rfl,fun z hz => ?_⟩
   rcases hz with hz | rfl
   ·by_cases ez:z=f
    ·rw [ez];exact good_f _ _
    ·have gz:=hg z (Or.inl hz) ez
     have c2:0≤cr f tg z:=by rcases h3 z hz with h | h <;> omega
     have e:=tri u v k f tg y z
     have m1:=Int.mul_nonneg c2 (show 0≤af u v k y - af u v k f by omega)
     have m2:=Int.mul_pos (show 0 < -(cr f tg y) by omega) (show 0 < af u v k z - af u v k f by omega)
     have e2:cr f y z * (af u v k tg - af u v k f)=cr f tg z * (af u v k y - af u v k f)+-(cr f tg y) * (af u v k z - af u v k f):=by grind
     left
     by_cases hp:0 < cr f y z
     ·exact hp
     ·have:=Int.mul_nonneg (show 0≤-(cr f y z) by omega) (show 0≤af u v k tg - af u v k f by omega)
      have e3:-(cr f y z) * (af u v k tg - af u v k f) = -(cr f y z * (af u v k tg - af u v k f)):=by grind
      omega
   ·exact good_t _ _
  ·by_cases c2:cr f tg y=0∧btw f y tg
   ·rw [if_pos (Or.inr (Or.inr c2))]
    have hy:y ≠ f:=fun e => by
     have:=c2.2
     rw [e] at this
     unfold btw at this
     exact h1 (Prod.ext (by omega) (by omega))
    have gy:=hg y (Or.inr rfl) hy
    refine Or.inr ⟨hy,Or.inr rfl,fun z hz => ?_⟩
    rcases hz with hz | rfl
    ·have e:=tri u v k f tg y z
     rw [c2.1,Int.zero_mul,Int.sub_zero] at e
     rcases h3 z hz with h | ⟨h,hb⟩
     ·left
      have m:=Int.mul_pos h (show 0 < af u v k y - af u v k f by omega)
      by_cases hp:0 < cr f y z
      ·exact hp
      ·have:=Int.mul_nonneg (show 0≤-(cr f y z) by omega) (show 0≤af u v k tg - af u v k f by omega)
       have e3:-(cr f y z) * (af u v k tg - af u v k f) = -(cr f y z * (af u v k tg - af u v k f)):=by grind
       omega
     ·right
      rw [h,Int.zero_mul] at e
      refine ⟨?_,?_⟩
      ·rcases Int.mul_eq_zero.1 e with e | e
       ·exact e
       ·omega
      ·have b:=c2.2
       unfold btw at b hb ⊢
       omega
    ·exact good_t _ _
   ·rw [if_neg (fun h => h.elim h1 (fun h => h.elim c1 c2))]
    refine Or.inr ⟨h1,Or.inl h2,fun z hz => ?_⟩
    rcases hz with hz | rfl
    ·exact h3 z hz
    ·by_cases c3:0 < cr f tg z
     ·exact Or.inl c3
     ·have c0:cr f tg z=0:=by omega
      right
      refine ⟨c0,?_⟩
      by_cases ez:z=f
      ·rw [ez];unfold btw;omega
      ·have gz:=hg z (Or.inr rfl) ez
       by_cases hle:af u v k z≤af u v k tg
       ·exact btw_of gto c0 (by omega) hle
       ·exact absurd ⟨c0,btw_of gz (by rw [cr_swap,c0];rfl) (by omega) (by omega)⟩ c2
theorem best_all {f:Pt} {l:List Pt} (u v k:Int) (hg:∀ z,z ∈ l→z ≠ f→af u v k f < af u v k z):Best f (NX f l) (fun y => y ∈ l):=by
 have key:∀ (m:List Pt) (tg:Pt) (L:Pt→Prop),(∀ z,(L z∨z ∈ m)→z ≠ f→af u v k f < af u v k z)→Best f tg L→Best f (m.foldl (nx f) tg) (fun z => L z∨z ∈ m):=by
  intro m
  induction m with
  | nil =>
    intro tg L _ h
    rcases h with ⟨a,b⟩ | ⟨a,b,c⟩
    ·exact Or.inl ⟨a,fun y hy => hy.elim (b y) (fun h => by cases h)⟩
    ·exact Or.inr ⟨a,Or.inl b,fun y hy => hy.elim (c y) (fun h => by cases h)⟩
  | cons x m ih =>
    intro tg L hg h
    have h1:=best_step (y:=x) u v k (fun z hz => hg z (hz.elim Or.inl (fun e => Or.inr (by rw [e];exact List.mem_cons_self)))) h
    have h2:=ih (nx f tg x) (fun z => L z∨z=x) (fun z hz => hg z (by
     rcases hz with (hz | hz) | hz
     ·exact Or.inl hz
     ·exact Or.inr (by rw [hz];exact List.mem_cons_self)
     ·exact Or.inr (List.mem_cons_of_mem _ hz))) h1
    have hm:∀ z,(L z∨z=x)∨z ∈ m↔L z∨z ∈ x :: m:=fun z => by rw [List.mem_cons,or_assoc]
    rcases h2 with ⟨a,b⟩ | ⟨a,b,c⟩
    ·exact Or.inl ⟨a,fun y hy => b y ((hm y).2 hy)⟩
    ·exact Or.inr ⟨a,(hm _).1 b,fun y hy => c y ((hm y).2 hy)⟩
 have h:=key l f (fun _ => False) (fun z hz => hg z (hz.elim (fun h => h.elim) id)) (Or.inl ⟨rfl,fun _ h => h.elim⟩)
 rcases h with ⟨a,b⟩ | ⟨a,b,c⟩
 ·exact Or.inl ⟨a,fun y hy => b y (Or.inr hy)⟩
 ·exact Or.inr ⟨a,b.elim (fun h => h.elim) id,fun y hy => c y (Or.inr hy)⟩
theorem corner_fun {a c:Pt} {l:List Pt} (hac:a ≠ c) (h:∀ y,y ∈ l→Good a c y):∃ u v k:Int,∀ z,z ∈ l→z ≠ c→af u v k c < af u v k z:=by
 obtain ⟨M,hM,hb⟩:=steep (fun i => -(dt c a (at' l i))) l.length
 have f1:∀ y,cr a c y=af (-(c.2 - a.2)) (c.1 - a.1) ((c.2 - a.2) * a.1 - (c.1 - a.1) * a.2) y:=cr_af a c
 have f2:∀ y,dt c a y=af (a.1 - c.1) (a.2 - c.2) (-((a.1 - c.1) * c.1+(a.2 - c.2) * c.2)) y:=dt_af c a
 refine ⟨M * -(c.2 - a.2)+(a.1 - c.1),M * (c.1 - a.1)+(a.2 - c.2),M * ((c.2 - a.2) * a.1 - (c.1 - a.1) * a.2)+-((a.1 - c.1) * c.1+(a.2 - c.2) * c.2),fun z hz hne => ?_⟩
 have e:∀ y,af (M * -(c.2 - a.2)+(a.1 - c.1)) (M * (c.1 - a.1)+(a.2 - c.2)) (M * ((c.2 - a.2) * a.1 - (c.1 - a.1) * a.2)+-((a.1 - c.1) * c.1+(a.2 - c.2) * c.2)) y=M * cr a c y+dt c a y:=fun y => by rw [f1,f2];unfold af;grind
 rw [e,e,cr_self',dt_self,Int.mul_zero]
 obtain ⟨i,hi,ei⟩:=mem_at hz
 have hbi:=hb i hi
 simp only [ei] at hbi
 rcases h z hz with g | ⟨g,b⟩
 ·have:=Int.mul_le_mul_of_nonneg_left (show 1≤cr a c z by omega) (Int.le_of_lt hM)
  omega
 ·rw [g,Int.mul_zero]
  have g':cr c a z=0:=by rw [cr_swap2,g];rfl
  have d0:0≤dt c a z:=by
   unfold dt
   unfold btw at b
   have s1:0≤(a.1 - c.1) * (z.1 - c.1):=by
    rcases Int.le_total 0 (a.1 - c.1) with k | k
    ·exact Int.mul_nonneg k (by omega)
    ·have:=Int.mul_nonneg (show 0≤-(a.1 - c.1) by omega) (show 0≤-(z.1 - c.1) by omega)
     rwa [Int.neg_mul_neg] at this
   have s2:0≤(a.2 - c.2) * (z.2 - c.2):=by
    rcases Int.le_total 0 (a.2 - c.2) with k | k
    ·exact Int.mul_nonneg k (by omega)
    ·have:=Int.mul_nonneg (show 0≤-(a.2 - c.2) by omega) (show 0≤-(z.2 - c.2) by omega)
     rwa [Int.neg_mul_neg] at this
   omega
  by_cases d:dt c a z=0
  ·exact absurd (dt_zero hac.symm g' d) hne
  ·omega
theorem one_before {a b c:Pt} (h1:Good a c b) (h2:Good b c a):a=b:=by
 have e:cr b c a = -(cr a c b):=by unfold cr;grind
 rcases h1 with h1 | ⟨h1,k1⟩
 ·rcases h2 with h2 | ⟨h2,_⟩ <;> omega
 ·rcases h2 with h2 | ⟨h2,k2⟩
  ·omega
  ·unfold btw at k1 k2
   exact Prod.ext (by omega) (by omega)
def X (f:Pt) (l:List Pt):Nat→Pt
 | 0 => f
 | i+1 => NX (X f l i) l
section
variable {f:Pt} {l:List Pt}
theorem X_good (hf:f ∈ l) (h0:∀ z,z ∈ l→z ≠ f→ls f z) (hne:∃ z,z ∈ l∧z ≠ f):∀ i,X f l i ∈ l∧X f l (i+1) ∈ l∧X f l i ≠ X f l (i+1)∧∀ y,y ∈ l→Good (X f l i) (X f l (i+1)) y:=by
 have go:∀ c,(∃ u v k:Int,∀ z,z ∈ l→z ≠ c→af u v k c < af u v k z)→(∃ z,z ∈ l∧z ≠ c)→NX c l ∈ l∧c ≠ NX c l∧∀ y,y ∈ l→Good c (NX c l) y:=by
  intro c ⟨u,v,k,hg⟩ ⟨z,hz,hzc⟩
  rcases best_all u v k hg with ⟨_,b⟩ | ⟨a,b,d⟩
  ·exact absurd (b z hz) hzc
  ·exact ⟨b,fun e => a e.symm,d⟩
 intro i
 induction i with
 | zero =>
   obtain ⟨M,hM,hb⟩:=steep (fun i => f.2 - (at' l i).2) l.length
   have h:=go f ⟨M,1,0,fun z hz hzf => by
    obtain ⟨i,hi,ei⟩:=mem_at hz
    have hbi:=hb i hi
    simp only [ei] at hbi
    unfold af
    rcases h0 z hz hzf with h | ⟨h,h'⟩
    ·have:=Int.mul_le_mul_of_nonneg_left (show f.1+1≤z.1 by omega) (Int.le_of_lt hM)
     rw [Int.mul_add] at this
     omega
    ·rw [h];omega⟩ hne
   exact ⟨hf,h.1,h.2.1,h.2.2⟩
 | succ i ih =>
   obtain ⟨h1,hc,h2,h3⟩:=ih
   have h:=go _ (corner_fun h2 h3) ⟨X f l i,h1,h2⟩
   exact ⟨hc,h.1,h.2.1,h.2.2⟩
theorem X_back (hf:f ∈ l) (h0:∀ z,z ∈ l→z ≠ f→ls f z) (hne:∃ z,z ∈ l∧z ≠ f) {i j:Nat} (e:X f l (i+1)=X f l (j+1)):X f l i=X f l j:=by
 obtain ⟨a1,_,_,a4⟩:=X_good hf h0 hne i
 obtain ⟨b1,_,_,b4⟩:=X_good hf h0 hne j
 refine one_before (c:=X f l (i+1)) (a4 _ b1) ?_
 rw [e]
 exact b4 _ a1
theorem X_distinct (hf:f ∈ l) (h0:∀ z,z ∈ l→z ≠ f→ls f z) (hne:∃ z,z ∈ l∧z ≠ f) {k:Nat} (hk:∀ i,1≤i→i < k→X f l i ≠ f):∀ i j,i < j→j < k→X f l i ≠ X f l j:=by
 intro i
 induction i with
 | zero => intro j hj hjk e;exact hk j (by omega) hjk e.symm
 | succ i ih =>
   intro j hj hjk e
   obtain ⟨j',rfl⟩:∃ j',j=j'+1:=⟨j - 1,by omega⟩
   exact ih j' (by omega) (by omega) (X_back hf h0 hne e)
theorem X_few (hf:f ∈ l) (h0:∀ z,z ∈ l→z ≠ f→ls f z) (hne:∃ z,z ∈ l∧z ≠ f) {k:Nat} (hk:∀ i,1≤i→i < k→X f l i ≠ f):k≤l.length :=
 count_le (X f l) k l (fun i j hi hj hij => by
  rcases Nat.lt_or_gt_of_ne hij with c | c
  ·exact X_distinct hf h0 hne hk i j c hj
  ·exact fun e => X_distinct hf h0 hne hk j i c hi e.symm) (fun i _ => (X_good hf h0 hne i).1)
theorem X_hull (hf:f ∈ l) (h0:∀ z,z ∈ l→z ≠ f→ls f z) (hne:∃ z,z ∈ l∧z ≠ f) {n:Nat} (hn:1≤n) (hk:∀ i,1≤i→i < n→X f l i ≠ f) (hend:X f l n=f) {p:List Pt} (hp:p.length=n) (ep:∀ i,i < n→at' p i=X f l i):IsHull l p:=by
 have G:=X_good hf h0 hne
 have D:=X_distinct hf h0 hne hk
 have n2:2≤n:=by
  by_cases e:n=1
  ·subst e;exact absurd hend.symm (G 0).2.2.1
  ·omega
 have nxt:∀ i,i < n→at' p ((i+1) % p.length)=X f l (i+1):=fun i hi => by
  rw [hp]
  by_cases e:i+1=n
  ·rw [e,Nat.mod_self,ep 0 (by omega),hend];rfl
  ·rw [Nat.mod_eq_of_lt (by omega)];exact ep _ (by omega)
 have hm:∀ x,x ∈ p→x ∈ l:=fun x hx => by
  obtain ⟨i,hi,e⟩:=mem_at hx
  rw [← e,ep i (by omega)];exact (G i).1
 have hfirst:∀ i,1≤i→i < p.length→ls (at' p 0) (at' p i):=fun i h1 hi => by
  rw [ep 0 (by omega),ep i (by omega)]
  exact h0 _ (G i).1 (hk i h1 (by omega))
 by_cases h3:3≤n
 ·refine hull_of_sides (by omega) hm (fun i j hi hj hij => ?_) (fun i hi y hy => ?_) (fun i hi => ?_) hfirst
  ·rw [ep i (by omega),ep j (by omega)]
   rcases Nat.lt_or_gt_of_ne hij with c | c
   ·exact D i j c (by omega)
   ·exact fun e => D j i c (by omega) e.symm
  ·rw [ep i (by omega),nxt i (by omega)]
   rcases (G i).2.2.2 y hy with h | h <;> omega
  ·rw [nxt i (by omega),ep i (by omega)]
   obtain ⟨j,hj,ej,ej2⟩:∃ j,at' p (pv p.length i)=X f l j∧X f l (j+1)=X f l i∧X f l j ≠ X f l (i+1):=by
    by_cases e0:i=0
    ·subst e0
     refine ⟨n - 1,?_,?_,?_⟩
     ·have epv:pv p.length 0=n - 1:=by unfold pv;rw [hp,Nat.zero_add,Nat.mod_eq_of_lt (by omega)]
      rw [epv];exact ep _ (by omega)
     ·have e1:n - 1+1=n:=by omega
      rw [e1,hend];rfl
     ·exact fun e => D 1 (n - 1) (by omega) (by omega) e.symm
    ·refine ⟨i - 1,?_,?_,?_⟩
     ·have epv:pv p.length i=i - 1:=by
       unfold pv
       have:i+(p.length - 1)=p.length+(i - 1):=by omega
       rw [this,Nat.add_mod_left,Nat.mod_eq_of_lt (by omega)]
      rw [epv];exact ep _ (by omega)
     ·have e1:i - 1+1=i:=by omega
      rw [e1]
     ·by_cases e:i+1=n
      ·rw [e,hend]
       by_cases e1:i=1
       ·omega
       ·exact hk (i - 1) (by omega) (by omega)
      ·exact D (i - 1) (i+1) (by omega) (by omega)
   rw [hj]
   have g1:=(G j).2.2.2 _ (G i).2.1
   have g2:=(G i).2.2.2 _ (G j).1
   rw [ej] at g1
   rcases g1 with g1 | ⟨g1,b1⟩
   ·exact g1
   ·exfalso
    refine ej2 ?_
    have e:cr (X f l i) (X f l (i+1)) (X f l j)=cr (X f l j) (X f l i) (X f l (i+1)):=(cr_rot _ _ _).symm
    rcases g2 with g2 | ⟨_,b2⟩
    ·omega
    ·unfold btw at b1 b2
     exact Prod.ext (by omega) (by omega)
 ·have e2:n=2:=by omega
  subst e2
  refine ⟨⟨by omega,hfirst,fun h => by omega⟩,hm,fun y hy => ?_⟩
  rw [hs2 hp,ep 0 (by omega),ep 1 (by omega)]
  have g1:Good f (X f l 1) y:=(G 0).2.2.2 y hy
  have g2:Good (X f l 1) (X f l 2) y:=(G 1).2.2.2 y hy
  rw [hend] at g2
  have ex:X f l 0=f:=rfl
  rw [ex]
  have e:cr (X f l 1) f y = -(cr f (X f l 1) y):=cr_swap2 _ _ _
  rcases g1 with g1 | g1
  ·rcases g2 with g2 | g2 <;> omega
  ·exact g1
end
end Hl
end Go.Proofs.YtbpgfenippiepaaGreatDoor
namespace Go.Proofs.YtbpgfenippiepaaGreatDoor
open Go.RowKit
namespace Hl
def LeastB (l:List Pt) (k:Nat) (m:Pt):Prop:=m ∈ l∧∀ j,j < k→at' l j ≠ m→ls m (at' l j)
theorem LeastB.yes {l:List Pt} {k:Nat} {m:Pt} (h:LeastB l k m) (hk:k < l.length) (hl:ls (at' l k) m):LeastB l (k+1) (at' l k):=⟨at_mem hk,fun j hj hne => by
 by_cases e:j=k
 ·rw [e] at hne;exact absurd rfl hne
 ·by_cases em:at' l j=m
  ·rw [em];exact hl
  ·exact ls_trans hl (h.2 j (by omega) em)⟩
theorem LeastB.no {l:List Pt} {k:Nat} {m:Pt} (h:LeastB l k m) (_hk:k < l.length) (hl:¬ ls (at' l k) m):LeastB l (k+1) m:=⟨h.1,fun j hj hne => by
 by_cases e:j=k
 ·rw [e] at hne ⊢
  rcases ls_total (at' l k) m with a | a | a
  ·exact absurd a hl
  ·exact absurd a hne
  ·exact a
 ·exact h.2 j (by omega) hne⟩
def LeastSays (l:List Pt) (w:World) (e:Ending) (w':World):Prop:=∃ m:Pt,e=.returned (.agg #[.int .i64 m.1,.int .i64 m.2])∧(m ∈ l∧∀ z,z ∈ l→z ≠ m→ls m z)∧Grew w w'
set_option maxRecDepth 100000 in
set_option maxHeartbeats 2000000 in
theorem least_any (l:List Pt) (b o c:Nat) (w:World) (hr:Row w b o l) (h1:1≤l.length) (h2:l.length≤9223372036854775807):Calls Tryz.prog 147 #[.slice (some ⟨b,o,none⟩) l.length c] w (LeastSays l w):=by
 have HR:=Lib.hid hr
 obtain ⟨s0,s1⟩:=hr.2 0 (by omega)
 rw [Nat.zero_mul,Nat.add_zero] at s0 s1
 have hb:=hr.1
 have hb1:b < w.heap.size+1:=by omega
 have p0:(0:Int) < (l.length:Int):=by omega
 have p1:0 < l.length:=by omega
 clear hr
 go_enter Tryz.func147,Tryz.ntmps147
 go_wp2_with fail
 go_loopw [4] (fun i wr => ∃ (k:Nat) (m:Pt),1≤k∧k≤l.length∧i=.int .i64 k∧Grew w wr∧w.heap.size+1 < wr.heap.size∧(((wr.frozen? ⟨w.heap.size,0,none⟩=false∧wr.frozen? ⟨w.heap.size,1,none⟩=false)∧wr.frozen? ⟨w.heap.size+1,0,none⟩=false)∧wr.frozen? ⟨w.heap.size+1,1,none⟩=false)∧LeastB l k m∧(wr.cell? ⟨w.heap.size,0,none⟩=some (.int .i64 0)∧wr.cell? ⟨w.heap.size,1,none⟩=some (.int .i64 0))∧wr.cell? ⟨w.heap.size+1,0,none⟩=some (.int .i64 m.1)∧wr.cell? ⟨w.heap.size+1,1,none⟩=some (.int .i64 m.2)) (fun i _ => l.length - (intOf i).toNat)
 case atStart => exact ⟨1,at' l 0,Nat.le_refl _,h1,rfl,by exact gw,by simp,⟨⟨⟨by simp [go_sem],by simp [go_sem]⟩,by simp [go_sem]⟩,by simp [go_sem]⟩,⟨at_mem (by omega),fun j hj hne => by
  obtain rfl:j=0:=by omega
  exact absurd rfl hne⟩,⟨by simp [go_sem],by simp [go_sem]⟩,by simp [go_sem],by simp [go_sem]⟩
 case round =>
  clear s0 s1 hb hb1
  obtain ⟨k,m,hk1,hk,rfl,G,y0,⟨⟨⟨f0,f1⟩,f2⟩,f3⟩,LB,⟨r0,r1⟩,x0,x1⟩:=hrel
  by_cases hlt:k < l.length
  ·obtain ⟨s0,s1⟩:=(HR.out.grown G).2 k hlt
   have hb:=(HR.out.grown G).1
   have hb1:b < wr.heap.size+1:=by omega
   have y1:w.heap.size+1 < wr.heap.size+1:=by omega
   have yy:w.heap.size < wr.heap.size:=by omega
   have y2:w.heap.size < wr.heap.size+1:=by omega
   have y3:w.heap.size < wr.heap.size+1+1:=by omega
   have i0:(0:Int)≤(k:Int):=by omega
   have i1:(k:Int) < (l.length:Int):=by omega
   have LX0:=less_x (at' l k) m
   by_cases hp:ls (at' l k) m
   ·rw [decide_eq_true hp] at LX0
    ·have LX:=Lib.hid LX0
     have HP:=Lib.hid hp
     clear LX0 hp
     go_wp2_with fail
     go_region_held3 (fun w' => w'.cell? ⟨b,o+k * 2,none⟩=some (.int .i64 (at' l k).1)∧w'.cell? ⟨b,o+k * 2+1,none⟩=some (.int .i64 (at' l k).2)∧w'.cell? ⟨w.heap.size+1,0,none⟩=some (.int .i64 m.1)∧w'.cell? ⟨w.heap.size+1,1,none⟩=some (.int .i64 m.2)) (simp [go_sem,hb,hb1,s0,s1,x0,x1,y0,y1])
      (first | (go_at_call 116;refine (LX.out _).mono ?_;rintro e w' ⟨rfl,rfl⟩))
     go_wp2_with fail
     go_roundw
     case rel => exact ⟨k+1,at' l k,by omega,by omega,by go_num,by exact gw,by simp;omega,⟨⟨⟨by simp [frozen?_alloc_cells,go_sem,f0],by simp [frozen?_alloc_cells,go_sem,f1]⟩,by simp [frozen?_alloc_cells,go_sem,f2]⟩,by simp [frozen?_alloc_cells,go_sem,f3]⟩,LB.yes hlt HP.out,⟨by simp [go_sem,r0,yy,y2],by simp [go_sem,r1,yy,y2]⟩,by simp [go_sem,x0,y0,y1],by simp [go_sem,x1,y0,y1]⟩
     case measure => simp [intOf];omega
   ·rw [decide_eq_false hp] at LX0
    ·have LX:=Lib.hid LX0
     have HP:=Lib.hid hp
     clear LX0 hp
     go_wp2_with fail
     go_region_held3 (fun w' => w'.cell? ⟨b,o+k * 2,none⟩=some (.int .i64 (at' l k).1)∧w'.cell? ⟨b,o+k * 2+1,none⟩=some (.int .i64 (at' l k).2)∧w'.cell? ⟨w.heap.size+1,0,none⟩=some (.int .i64 m.1)∧w'.cell? ⟨w.heap.size+1,1,none⟩=some (.int .i64 m.2)) (simp [go_sem,hb,hb1,s0,s1,x0,x1,y0,y1])
      (first | (go_at_call 116;refine (LX.out _).mono ?_;rintro e w' ⟨rfl,rfl⟩))
     go_wp2_with fail
     go_roundw
     case rel => exact ⟨k+1,m,by omega,by omega,by go_num,by exact gw,by simp;omega,⟨⟨⟨by simp [frozen?_alloc_cells,go_sem,f0],by simp [frozen?_alloc_cells,go_sem,f1]⟩,by simp [frozen?_alloc_cells,go_sem,f2]⟩,by simp [frozen?_alloc_cells,go_sem,f3]⟩,LB.no hlt HP.out,⟨by simp [go_sem,r0,yy,y2],by simp [go_sem,r1,yy,y2]⟩,by simp [go_sem,x0,y0,y1],by simp [go_sem,x1,y0,y1]⟩
     case measure => simp [intOf];omega
  ·go_wp2_with fail
   refine bodyPost_ret (v:=.agg #[.int .i64 m.1,.int .i64 m.2]) (by simp [results,Tryz.results147,go_sem, *]) rfl (show LeastSays l w (.returned (.agg #[.int .i64 m.1,.int .i64 m.2])) _ from ⟨m,rfl,⟨LB.1,fun z hz hne => by
    obtain ⟨j,hj,e⟩:=mem_at hz
    rw [← e] at hne ⊢
    exact LB.2 j (by omega) hne⟩,by exact gw⟩)
end Hl
end Go.Proofs.YtbpgfenippiepaaGreatDoor
