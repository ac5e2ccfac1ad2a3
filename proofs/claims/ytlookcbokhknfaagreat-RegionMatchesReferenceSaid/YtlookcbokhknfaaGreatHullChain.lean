/-
  Plain geometry: a chain of corners that grows by a sorted list of points.
  Plain geometry: a chain there and a chain back are a hull.
  Plain geometry: corners that turn left, rise, and then fall, are a polygon; and the other way round.
-/
import Derived.Test.YtlookcbokhknfaaGreatHullOct
namespace Go.Proofs.YtlookcbokhknfaaGreat
namespace Hl
structure Chain (u v k:Int) (L:Pt→Prop) (S:List Pt):Prop where
 some':1≤S.length
 inc:∀ i,i+1 < S.length→af u v k (at' S i) < af u v k (at' S (i+1))
 turns:∀ i,i+2 < S.length→0 < cr (at' S i) (at' S (i+1)) (at' S (i+2))
 left:∀ i,i+1 < S.length→∀ y,L y→0≤cr (at' S i) (at' S (i+1)) y
 low:∀ y,L y→af u v k (at' S 0)≤af u v k y
 mem:∀ i,i < S.length→L (at' S i)
structure Pend (u v k:Int) (L:Pt→Prop) (S:List Pt) (x:Pt):Prop extends Chain u v k L S where
 up:∀ y,L y→af u v k y < af u v k x
 fine:∀ y,L y→af u v k (at' S (S.length - 1))≤af u v k y→0≤cr (at' S (S.length - 1)) x y
theorem at_append {p q:List Pt} {i:Nat} (h:i < p.length):at' (p ++ q) i=at' p i:=by
 unfold at'
 simp [List.getD,List.getElem?_append_left h]
theorem at_last (p:List Pt) (x:Pt):at' (p ++ [x]) p.length=x:=by
 unfold at'
 simp [List.getD]
theorem at_take {p:List Pt} {n i:Nat} (h:i < n) (_hn:n≤p.length):at' (p.take n) i=at' p i:=by
 unfold at'
 simp [List.getD,h]
theorem Chain.one {u v k:Int} {x:Pt}:Chain u v k (fun y => y=x) [x] :=
 ⟨by simp,fun i h => by simp at h,fun i h => by simp at h,fun i h => by simp at h,fun y h => by rw [h];exact Int.le_refl _,fun i h => by
  have e:i=0:=by simpa using h
  subst e;rfl⟩
theorem inc_all {u v k:Int} {S:List Pt} (h:∀ i,i+1 < S.length→af u v k (at' S i) < af u v k (at' S (i+1))):∀ i j,i < j→j < S.length→af u v k (at' S i) < af u v k (at' S j):=by
 intro i j hij
 induction j with
 | zero => omega
 | succ j ih =>
   intro hj
   have h1:=h j hj
   by_cases e:i=j
   ·rw [e];exact h1
   ·have:=ih (by omega) (by omega)
    omega
theorem Chain.pend {u v k:Int} {L:Pt→Prop} {S:List Pt} (h:Chain u v k L S) {x:Pt} (hx:∀ y,L y→af u v k y < af u v k x) (hi:∀ y,L y→af u v k (at' S (S.length - 1))≤af u v k y→y=at' S (S.length - 1)):Pend u v k L S x :=
 ⟨h,hx,fun y hy hle => by rw [hi y hy hle,cr_self];exact Int.le_refl _⟩
theorem Pend.pop {u v k:Int} {L:Pt→Prop} {S:List Pt} {x:Pt} (h:Pend u v k L S x) (h2:2≤S.length) (hc:cr (at' S (S.length - 2)) (at' S (S.length - 1)) x≤0):Pend u v k L (S.take (S.length - 1)) x:=by
 have hl:(S.take (S.length - 1)).length=S.length - 1:=by simp
 have hb:S.length - 2+1=S.length - 1:=by omega
 refine ⟨⟨by omega,fun i hi => ?_,fun i hi => ?_,fun i hi y hy => ?_,fun y hy => ?_,fun i hi => ?_⟩,h.up,fun y hy hle => ?_⟩
 ·rw [hl] at hi
  rw [at_take (by omega) (by omega),at_take (by omega) (by omega)]
  exact h.inc i (by omega)
 ·rw [hl] at hi
  rw [at_take (by omega) (by omega),at_take (by omega) (by omega),at_take (by omega) (by omega)]
  exact h.turns i (by omega)
 ·rw [hl] at hi
  rw [at_take (by omega) (by omega),at_take (by omega) (by omega)]
  exact h.left i (by omega) y hy
 ·rw [at_take (by omega) (by omega)]
  exact h.low y hy
 ·rw [hl] at hi
  rw [at_take (by omega) (by omega)]
  exact h.mem i (by omega)
 ·rw [hl] at hle ⊢
  have e:S.length - 1 - 1=S.length - 2:=by omega
  rw [e,at_take (by omega) (by omega)] at hle ⊢
  have i1:=h.inc (S.length - 2) (by omega)
  have l1:=h.left (S.length - 2) (by omega) y hy
  rw [hb] at i1 l1
  have u1:=h.up _ (h.mem (S.length - 1) (by omega))
  exact pop_left i1 (by omega) hle hc l1
theorem back_left {u v k:Int} {z a x y:Pt} (hza:af u v k z < af u v k a) (hax:af u v k a < af u v k x) (hya:af u v k y≤af u v k a) (c1:0 < cr z a x) (c2:0≤cr z a y):0≤cr a x y:=by
 have e:=tri u v k a z x y
 rw [cr_swap2 z a y,cr_swap2 z a x] at e
 have m1:=Int.mul_nonneg c2 (show 0≤af u v k x - af u v k a by omega)
 have m2:=Int.mul_nonneg (Int.le_of_lt c1) (show 0≤af u v k a - af u v k y by omega)
 refine nonneg_of (show 0 < af u v k a - af u v k z by omega) ?_
 have e2:(af u v k a - af u v k z) * cr a x y=cr z a y * (af u v k x - af u v k a)+cr z a x * (af u v k a - af u v k y):=by grind
 rw [e2]
 omega
theorem Pend.push {u v k:Int} {L:Pt→Prop} {S:List Pt} {x:Pt} (h:Pend u v k L S x) (hc:2≤S.length→0 < cr (at' S (S.length - 2)) (at' S (S.length - 1)) x):Chain u v k (fun y => L y∨y=x) (S ++ [x]):=by
 have hs:=h.some'
 have hl:(S ++ [x]).length=S.length+1:=by simp
 have hinc:∀ i,i+1 < (S ++ [x]).length→af u v k (at' (S ++ [x]) i) < af u v k (at' (S ++ [x]) (i+1)):=by
  intro i hi
  rw [hl] at hi
  rw [at_append (by omega)]
  by_cases e:i+1=S.length
  ·rw [e,at_last]
   exact h.up _ (h.mem i (by omega))
  ·rw [at_append (by omega)]
   exact h.inc i (by omega)
 have hturn:∀ i,i+2 < (S ++ [x]).length→0 < cr (at' (S ++ [x]) i) (at' (S ++ [x]) (i+1)) (at' (S ++ [x]) (i+2)):=by
  intro i hi
  rw [hl] at hi
  rw [at_append (by omega),at_append (by omega)]
  by_cases e:i+2=S.length
  ·rw [e,at_last]
   have e1:S.length - 2=i:=by omega
   have e2:S.length - 1=i+1:=by omega
   have:=hc (by omega)
   rwa [e1,e2] at this
  ·rw [at_append (by omega)]
   exact h.turns i (by omega)
 have hall:=chain_all (u:=u) (v:=v) (k:=k) (P:=at' (S ++ [x])) (S ++ [x]).length hinc hturn
 refine ⟨by omega,hinc,hturn,fun i hi y hy => ?_,fun y hy => ?_,fun i hi => ?_⟩
 ·rw [hl] at hi
  rcases hy with hy | rfl
  ·rw [at_append (by omega)]
   by_cases e:i+1=S.length
   ·rw [e,at_last]
    have ei:S.length - 1=i:=by omega
    by_cases hle:af u v k (at' S i)≤af u v k y
    ·have:=h.fine y hy (by rw [ei];exact hle)
     rwa [ei] at this
    ·have h1:1≤i:=by
      by_cases e0:i=0
      ·subst e0;exact absurd (h.low y hy) hle
      ·omega
     have ez:i - 1+1=i:=by omega
     have z1:=h.inc (i - 1) (by omega)
     have z2:=h.left (i - 1) (by omega) y hy
     have z3:=hc (by omega)
     have e2:S.length - 2=i - 1:=by omega
     rw [ez] at z1 z2
     rw [ei,e2] at z3
     exact back_left z1 (h.up _ (h.mem i (by omega))) (by omega) z3 z2
   ·rw [at_append (by omega)]
    exact h.left i (by omega) y hy
  ·by_cases e:i+1=S.length
   ·rw [e,at_last,cr_self'];exact Int.le_refl _
   ·have:=hall i (i+1) S.length (by omega) (by omega) (by omega)
    rw [at_last] at this
    omega
 ·rw [at_append (by omega)]
  rcases hy with hy | rfl
  ·exact h.low y hy
  ·exact Int.le_of_lt (h.up _ (h.mem 0 (by omega)))
 ·rw [hl] at hi
  by_cases e:i=S.length
  ·rw [e,at_last];exact Or.inr rfl
  ·rw [at_append (by omega)];exact Or.inl (h.mem i (by omega))
end Hl
end Go.Proofs.YtlookcbokhknfaaGreat
namespace Go.Proofs.YtlookcbokhknfaaGreat
namespace Hl
section
variable {u v k:Int} {l S T:List Pt}
theorem neg_af (u v k:Int) (x:Pt):af (-u) (-v) (-k) x = -(af u v k x):=by unfold af;grind
theorem meet_flat {A M B y:Pt} (hA:af u v k A < af u v k M) (hB:af u v k B < af u v k M) (z:cr A M B=0) (h1:0≤cr A M y) (h2:0≤cr M B y):cr A M y=0:=by
 have e:=tri u v k M A B y
 have z1:cr M A B=0:=by rw [cr_swap2,z];rfl
 have z2:cr M A y = -(cr A M y):=cr_swap2 _ _ _
 rw [z1,z2,Int.zero_mul,Int.sub_zero] at e
 have m1:=Int.mul_nonneg h2 (show 0≤af u v k M - af u v k A by omega)
 have e2:cr M B y * (af u v k M - af u v k A)+cr A M y * (af u v k M - af u v k B)=0:=by grind
 by_cases c:cr A M y=0
 ·exact c
 ·have:=Int.mul_pos (show 0 < cr A M y by omega) (show 0 < af u v k M - af u v k B by omega)
  omega
theorem junction (hS:Chain u v k (fun y => y ∈ l) S) (hT:Chain (-u) (-v) (-k) (fun y => y ∈ l) T) (h1:2≤S.length) (h2:2≤T.length) (h3:3≤S.length∨3≤T.length) (e:at' S (S.length - 1)=at' T 0):0 < cr (at' S (S.length - 2)) (at' S (S.length - 1)) (at' T 1):=by
 have es:S.length - 2+1=S.length - 1:=by omega
 have iA:=hS.inc (S.length - 2) (by omega)
 have lA:=hS.left (S.length - 2) (by omega)
 rw [es] at iA lA
 have iB:=hT.inc 0 (by omega)
 have lB:=hT.left 0 (by omega)
 rw [neg_af,neg_af] at iB
 rw [Nat.zero_add] at iB lB
 rw [← e] at iB lB
 have g:=lA _ (hT.mem 1 (by omega))
 by_cases z:cr (at' S (S.length - 2)) (at' S (S.length - 1)) (at' T 1)=0
 ·exfalso
  have flat:∀ y,y ∈ l→cr (at' S (S.length - 2)) (at' S (S.length - 1)) y=0:=fun y hy => meet_flat iA (by omega) z (lA y hy) (lB y hy)
  have ne:at' S (S.length - 2) ≠ at' S (S.length - 1):=fun ee => by rw [ee] at iA;omega
  rcases h3 with h3 | h3
  ·have t:=hS.turns 0 (by omega)
   have:=on_line ne (flat _ (hS.mem 0 (by omega))) (flat _ (hS.mem (0+1) (by omega))) (flat _ (hS.mem (0+2) (by omega)))
   omega
  ·have t:=hT.turns 0 (by omega)
   have:=on_line ne (flat _ (hT.mem 0 (by omega))) (flat _ (hT.mem (0+1) (by omega))) (flat _ (hT.mem (0+2) (by omega)))
   omega
 ·omega
theorem chains_apart (hS:Chain u v k (fun y => y ∈ l) S) (hT:Chain (-u) (-v) (-k) (fun y => y ∈ l) T) {i b:Nat} (hi0:1≤i) (hi:i+1 < S.length) (hb:b+1 < T.length):at' S i ≠ at' T b:=by
 intro e
 have ei:i - 1+1=i:=by omega
 have ei2:i - 1+2=i+1:=by omega
 have t:=hS.turns (i - 1) (by omega)
 rw [ei,ei2] at t
 have g1:=hS.inc i hi
 have g2:=hT.inc b hb
 rw [neg_af,neg_af,← e] at g2
 have l1:=hT.left b hb _ (hS.mem (i+1) hi)
 rw [← e] at l1
 have l2:=hS.left i hi _ (hT.mem (b+1) hb)
 have l3:=hS.left (i - 1) (by omega) _ (hT.mem (b+1) hb)
 rw [ei] at l3
 have z:cr (at' S i) (at' S (i+1)) (at' T (b+1))=0:=by rw [cr_swap] at l1;omega
 have q:=tri u v k (at' S i) (at' S (i+1)) (at' T (b+1)) (at' S (i - 1))
 rw [z,Int.zero_mul,Int.sub_zero,← cr_rot,← cr_rot (at' S (i - 1)) (at' S i) (at' S (i+1))] at q
 have m1:=Int.mul_nonneg l3 (show 0≤af u v k (at' S (i+1)) - af u v k (at' S i) by omega)
 have m2:=Int.mul_pos t (show 0 < af u v k (at' S i) - af u v k (at' T (b+1)) by omega)
 have q2:cr (at' S (i - 1)) (at' S i) (at' T (b+1)) * (af u v k (at' S (i+1)) - af u v k (at' S i))+cr (at' S (i - 1)) (at' S i) (at' S (i+1)) * (af u v k (at' S i) - af u v k (at' T (b+1)))=0:=by grind
 omega
theorem btw_of {a b y:Pt} (hab:af u v k a < af u v k b) (c:cr a b y=0) (h1:af u v k a≤af u v k y) (h2:af u v k y≤af u v k b):btw a b y:=by
 have s1:=seg1 u v k a b y
 have s2:=seg2 u v k a b y
 rw [c,Int.mul_zero,Int.add_zero] at s1
 rw [c,Int.mul_zero,Int.sub_zero] at s2
 have key:∀ d e:Int,d * (af u v k y - af u v k a)=e * (af u v k b - af u v k a)→(0≤e∧e≤d)∨(d≤e∧e≤0):=by
  intro d e h
  rcases Int.le_total 0 d with hd | hd
  ·left
   constructor
   ·have:=Int.mul_nonneg hd (show 0≤af u v k y - af u v k a by omega)
    exact nonneg_of (show 0 < af u v k b - af u v k a by omega) (by rw [Int.mul_comm];omega)
   ·have:=Int.mul_nonneg hd (show 0≤af u v k b - af u v k y by omega)
    have e3:(af u v k b - af u v k a) * (d - e)=d * (af u v k b - af u v k y):=by grind
    have:=nonneg_of (show 0 < af u v k b - af u v k a by omega) (show 0≤(af u v k b - af u v k a) * (d - e) by rw [e3];exact this)
    omega
  ·right
   constructor
   ·have:=Int.mul_nonneg (show 0≤-d by omega) (show 0≤af u v k b - af u v k y by omega)
    have e3:(af u v k b - af u v k a) * (e - d)=(-d) * (af u v k b - af u v k y):=by grind
    have:=nonneg_of (show 0 < af u v k b - af u v k a by omega) (show 0≤(af u v k b - af u v k a) * (e - d) by rw [e3];exact this)
    omega
   ·have:=Int.mul_nonneg (show 0≤-d by omega) (show 0≤af u v k y - af u v k a by omega)
    have e3:(af u v k b - af u v k a) * (-e)=(-d) * (af u v k y - af u v k a):=by grind
    have:=nonneg_of (show 0 < af u v k b - af u v k a by omega) (show 0≤(af u v k b - af u v k a) * (-e) by rw [e3];exact this)
    omega
 have k1:=key _ _ s1
 have k2:=key _ _ s2
 unfold btw
 omega
theorem two_chains (hS:Chain u v k (fun y => y ∈ l) S) (hT:Chain (-u) (-v) (-k) (fun y => y ∈ l) T) (h1:2≤S.length) (h2:2≤T.length) (eM:at' S (S.length - 1)=at' T 0) (em:at' T (T.length - 1)=at' S 0)
  (hls:∀ y z,y ∈ l→z ∈ l→af u v k y < af u v k z→ls y z):IsHull l (S.take (S.length - 1) ++ T.take (T.length - 1)):=by
 obtain ⟨s,hs⟩:∃ s,S.length=s+1:=⟨S.length - 1,by omega⟩
 obtain ⟨t,ht⟩:∃ t,T.length=t+1:=⟨T.length - 1,by omega⟩
 have ls1:S.length - 1=s:=by omega
 have lt1:T.length - 1=t:=by omega
 rw [ls1] at eM ⊢
 rw [lt1] at em ⊢
 obtain ⟨p,hp⟩:∃ p,S.take s ++ T.take t=p:=⟨_,rfl⟩
 have hn:p.length=s+t:=by rw [← hp];simp;omega
 have aS:∀ i,i < s→at' p i=at' S i:=fun i hi => by
  rw [← hp,at_append (by simp;omega),at_take hi (by omega)]
 have aT:∀ j,j < t→at' p (s+j)=at' T j:=fun j hj => by
  have h:at' (S.take s ++ T.take t) (s+j)=at' (T.take t) j:=by
   have hl:(S.take s).length=s:=by simp;omega
   unfold at'
   simp only [List.getD,List.getElem?_append_right (show (S.take s).length≤s+j by omega),hl,Nat.add_sub_cancel_left]
  rw [← hp,h,at_take hj (by omega)]
 rw [hp]
 have nS:∀ i,i < s→at' p ((i+1) % p.length)=at' S (i+1):=fun i hi => by
  rw [hn,Nat.mod_eq_of_lt (by omega)]
  by_cases e:i+1=s
  ·have:=aT 0 (by omega)
   rw [Nat.add_zero] at this
   rw [e,this,eM]
  ·exact aS _ (by omega)
 have nT:∀ j,j < t→at' p ((s+j+1) % p.length)=at' T (j+1):=fun j hj => by
  by_cases e:j+1=t
  ·have e2:s+j+1=s+t:=by omega
   rw [hn,e2,Nat.mod_self,aS 0 (by omega),e,em]
  ·rw [hn,Nat.mod_eq_of_lt (by omega)]
   exact aT (j+1) (by omega)
 have incS:=inc_all hS.inc
 have incT:=inc_all hT.inc
 have hm:∀ x,x ∈ p→x ∈ l:=fun x hx => by
  obtain ⟨i,hi,e⟩:=mem_at hx
  rw [← e]
  by_cases c:i < s
  ·rw [aS i c];exact hS.mem i (by omega)
  ·obtain ⟨j,hj⟩:∃ j,i=s+j:=⟨i - s,by omega⟩
   rw [hj,aT j (by omega)];exact hT.mem j (by omega)
 have cross:∀ i j,i < s→j < t→at' S i ≠ at' T j:=fun i j hi hj e => by
  by_cases e0:i=0
  ·subst e0
   rw [← em] at e
   have:=incT j t hj (by omega)
   rw [e] at this
   omega
  ·by_cases j0:j=0
   ·subst j0
    rw [← eM] at e
    have:=incS i s hi (by omega)
    rw [e] at this
    omega
   ·exact chains_apart hS hT (by omega) (by omega) (by omega) e
 have hd:∀ i j,i < p.length→j < p.length→i ≠ j→at' p i ≠ at' p j:=by
  have half:∀ i j,i < j→j < p.length→at' p i ≠ at' p j:=by
   intro i j hij hj e
   by_cases ci:i < s
   ·by_cases cj:j < s
    ·rw [aS i ci,aS j cj] at e
     have:=incS i j hij (by omega)
     rw [e] at this
     omega
    ·obtain ⟨b,hb⟩:∃ b,j=s+b:=⟨j - s,by omega⟩
     rw [aS i ci,hb,aT b (by omega)] at e
     exact cross i b ci (by omega) e
   ·obtain ⟨a,ha⟩:∃ a,i=s+a:=⟨i - s,by omega⟩
    obtain ⟨b,hb⟩:∃ b,j=s+b:=⟨j - s,by omega⟩
    rw [ha,hb,aT a (by omega),aT b (by omega)] at e
    have:=incT a b (by omega) (by omega)
    rw [e] at this
    omega
  intro i j hi hj hne e
  rcases Nat.lt_or_gt_of_ne hne with c | c
  ·exact half i j c hj e
  ·exact half j i c hi e.symm
 have hl:∀ i,i < p.length→∀ y,y ∈ l→0≤cr (at' p i) (at' p ((i+1) % p.length)) y:=fun i hi y hy => by
  by_cases c:i < s
  ·rw [aS i c,nS i c];exact hS.left i (by omega) y hy
  ·obtain ⟨j,hj⟩:∃ j,i=s+j:=⟨i - s,by omega⟩
   rw [hj,aT j (by omega),nT j (by omega)];exact hT.left j (by omega) y hy
 have h0:∀ i,1≤i→i < p.length→ls (at' p 0) (at' p i):=fun i h1' hi => by
  refine hls _ _ (hm _ (at_mem (by omega))) (hm _ (at_mem hi)) ?_
  rw [aS 0 (by omega)]
  by_cases c:i < s
  ·rw [aS i c];exact incS 0 i (by omega) (by omega)
  ·obtain ⟨j,hj⟩:∃ j,i=s+j:=⟨i - s,by omega⟩
   rw [hj,aT j (by omega)]
   have:=incT j t (by omega) (by omega)
   rw [neg_af,neg_af,em] at this
   omega
 by_cases h3:3≤p.length
 ·refine hull_of_sides h3 hm hd hl (fun i hi => ?_) h0
  have cond:3≤S.length∨3≤T.length:=by omega
  by_cases c:i < s
  ·rw [nS i c]
   by_cases e0:i=0
   ·subst e0
    have epv:pv p.length 0=s+(t - 1):=by
     unfold pv
     rw [hn,Nat.zero_add,Nat.mod_eq_of_lt (by omega)];omega
    rw [epv,aT _ (by omega),aS 0 (by omega)]
    have hS':Chain (- -u) (- -v) (- -k) (fun y => y ∈ l) S:=by rw [Int.neg_neg,Int.neg_neg,Int.neg_neg];exact hS
    have:=junction hT hS' h2 h1 cond.symm (by rw [lt1];exact em)
    have e3:T.length - 2=t - 1:=by omega
    rw [e3,lt1,em] at this
    exact this
   ·have epv:pv p.length i=i - 1:=by
     unfold pv
     have:i+(p.length - 1)=p.length+(i - 1):=by omega
     rw [this,Nat.add_mod_left,Nat.mod_eq_of_lt (by omega)]
    rw [epv,aS _ (by omega),aS i c]
    have:=hS.turns (i - 1) (by omega)
    have e1:i - 1+1=i:=by omega
    have e2:i - 1+2=i+1:=by omega
    rwa [e1,e2] at this
  ·obtain ⟨j,hj⟩:∃ j,i=s+j:=⟨i - s,by omega⟩
   subst hj
   rw [nT j (by omega)]
   have epv:pv p.length (s+j)=s+j - 1:=by
    unfold pv
    have:s+j+(p.length - 1)=p.length+(s+j - 1):=by omega
    rw [this,Nat.add_mod_left,Nat.mod_eq_of_lt (by omega)]
   rw [epv]
   by_cases e0:j=0
   ·subst e0
    have e5:s+0 - 1=s - 1:=by omega
    rw [e5,aS _ (by omega),aT 0 (by omega),← eM]
    have:=junction hS hT h1 h2 cond (by rw [ls1];exact eM)
    have e3:S.length - 2=s - 1:=by omega
    rw [e3,ls1] at this
    exact this
   ·have e4:s+j - 1=s+(j - 1):=by omega
    rw [e4,aT _ (by omega),aT j (by omega)]
    have:=hT.turns (j - 1) (by omega)
    have e1:j - 1+1=j:=by omega
    have e2:j - 1+2=j+1:=by omega
    rwa [e1,e2] at this
 ·have s1:s=1:=by omega
  have t1:t=1:=by omega
  subst s1 t1
  refine ⟨⟨by omega,h0,fun h => by omega⟩,hm,fun y hy => ?_⟩
  rw [hs2 (by omega)]
  have p0:=aS 0 (by omega)
  have p1:=aT 0 (by omega)
  rw [Nat.add_zero,← eM] at p1
  rw [p0,p1]
  have l1:=hS.left 0 (by omega) y hy
  have l2:=hT.left 0 (by omega) y hy
  rw [Nat.zero_add,← eM,em] at l2
  rw [Nat.zero_add] at l1
  rw [cr_swap2] at l2
  have g:=hS.inc 0 (by omega)
  rw [Nat.zero_add] at g
  have lo:=hS.low y hy
  have up:=hT.low y hy
  rw [neg_af,neg_af,← eM] at up
  exact ⟨by omega,btw_of g (by omega) lo (by omega)⟩
end
end Hl
end Go.Proofs.YtlookcbokhknfaaGreat
namespace Go.Proofs.YtlookcbokhknfaaGreat
namespace Hl
theorem ls_steep {a b:Pt} (ha:Plc a) (hb:Plc b):ls a b↔af 1000001 1 0 a < af 1000001 1 0 b:=by
 unfold Plc at ha hb
 unfold ls af
 omega
theorem sep_id (u v k:Int) (m M p q y:Pt):(af u v k M - af u v k m) * cr p q y=(af u v k M - af u v k y) * cr p q m+(af u v k y - af u v k m) * cr p q M+(af u v k q - af u v k p) * cr m M y:=by unfold af cr;grind
theorem pos_of {d s:Int} (hd:0 < d) (h:0 < d * s):0 < s:=by
 by_cases hs:0 < s
 ·exact hs
 ·have:=Int.mul_nonneg (show 0≤d by omega) (show 0≤-s by omega)
  rw [Int.mul_neg] at this
  omega
theorem sep {u v k:Int} {m M p q y:Pt} (hm:af u v k m < af u v k M) (h1:af u v k m≤af u v k y) (h2:af u v k y≤af u v k M) (hpq:af u v k p < af u v k q) (a:0≤cr p q m) (b:0≤cr p q M) (c:0 < cr m M y):0 < cr p q y:=by
 refine pos_of (show 0 < af u v k M - af u v k m by omega) ?_
 rw [sep_id]
 have e1:=Int.mul_nonneg (show 0≤af u v k M - af u v k y by omega) a
 have e2:=Int.mul_nonneg (show 0≤af u v k y - af u v k m by omega) b
 have e3:=Int.mul_pos (show 0 < af u v k q - af u v k p by omega) c
 omega
theorem grows_all {g:Nat→Int} {a:Nat} (h:∀ i,i < a→g i < g (i+1)):∀ i j,i < j→j≤a→g i < g j:=by
 intro i j hij
 induction j with
 | zero => omega
 | succ j ih =>
   intro hj
   have h1:=h j (by omega)
   by_cases e:i=j
   ·rw [e];exact h1
   ·have:=ih (by omega) (by omega)
    omega
theorem chains_left {u v k:Int} {A B:Nat→Pt} {a b:Nat} (ia:∀ i,i < a→af u v k (A i) < af u v k (A (i+1))) (ta:∀ i,i+2≤a→0 < cr (A i) (A (i+1)) (A (i+2)))
  (ib:∀ j,j < b→af u v k (B (j+1)) < af u v k (B j)) (tb:∀ j,j+2≤b→0 < cr (B j) (B (j+1)) (B (j+2))) (e1:A a=B 0) (e2:B b=A 0) {i:Nat} (hi:i < a) :
  (∀ l,l≤a→l ≠ i→l ≠ i+1→0 < cr (A i) (A (i+1)) (A l))∧∀ j,0 < j→j < b→0 < cr (A i) (A (i+1)) (B j):=by
 have ca:=chain_all (u:=u) (v:=v) (k:=k) (P:=A) (a+1) (fun i hi => ia i (by omega)) (fun i hi => ta i (by omega))
 have cb:=chain_all (u:=-u) (v:=-v) (k:=-k) (P:=B) (b+1) (fun i hi => by have:=ib i (by omega);rw [neg_af,neg_af];omega) (fun i hi => tb i (by omega))
 have ga:=grows_all (g:=fun i => af u v k (A i)) ia
 have gb:=grows_all (g:=fun i => -(af u v k (B i))) (a:=b) (fun i hi => by have:=ib i hi;omega)
 have side:∀ l,l≤a→l ≠ i→l ≠ i+1→0 < cr (A i) (A (i+1)) (A l):=fun l hl h1 h2 => by
  by_cases h:l < i
  ·rw [← cr_rot]
   exact ca l i (i+1) h (by omega) (by omega)
  ·exact ca i (i+1) l (by omega) (by omega) (by omega)
 refine ⟨side,fun j h1 h2 => ?_⟩
 have m0:0≤cr (A i) (A (i+1)) (A 0):=by
  by_cases e:i=0
  ·rw [e,cr_self];exact Int.le_refl _
  ·exact Int.le_of_lt (side 0 (by omega) (by omega) (by omega))
 have m1:0≤cr (A i) (A (i+1)) (A a):=by
  by_cases e:i+1=a
  ·rw [← e,cr_self'];exact Int.le_refl _
  ·exact Int.le_of_lt (side a (by omega) (by omega) (by omega))
 have c:0 < cr (A 0) (A a) (B j):=by
  have:=cb 0 j b h1 h2 (by omega)
  rw [e2,← e1] at this
  rw [cr_rot]
  exact this
 have f0:=ga 0 a (by omega) (Nat.le_refl _)
 have f1:=gb 0 j h1 (by omega)
 have f2:=gb j b h2 (Nat.le_refl _)
 rw [e2] at f2
 rw [← e1] at f1
 exact sep f0 (by omega) (by omega) (ia i hi) m0 m1 c
def Rise (p:List Pt) (i:Nat):Prop:=ls (at' p i) (at' p ((i+1) % p.length))
instance (p:List Pt) (i:Nat):Decidable (Rise p i):=by unfold Rise ls;infer_instance
def Goes (p:List Pt):Prop:=∀ i,i < p.length→0 < cr (at' p (pv p.length i)) (at' p i) (at' p ((i+1) % p.length))∧(Rise p i→i=0∨Rise p (i - 1))
theorem pv_succ {n i:Nat} (h:i+1 < n):pv n (i+1)=i:=by
 unfold pv
 rw [show i+1+(n - 1)=i+n by omega,Nat.add_mod_right,Nat.mod_eq_of_lt (by omega)]
theorem goes_cvx {p:List Pt} (h3:3≤p.length) (hp:Plcs p) (h:Goes p):(∀ i,1≤i→i < p.length→ls (at' p 0) (at' p i))∧Cvx p.length (at' p):=by
 obtain ⟨n,hn⟩:∃ n,p.length=n:=⟨_,rfl⟩
 unfold Goes at h
 have hR:∀ i,Rise p i↔ls (at' p i) (at' p ((i+1) % p.length)):=fun i => Iff.rfl
 rw [hn] at h3 h hR ⊢
 have hpl:∀ i,i < n→Plc (at' p i):=fun i hi => hp i (by omega)
 have hpl':∀ i,Plc (at' p (i % n)):=fun i => hpl _ (Nat.mod_lt _ (by omega))
 have up:∀ i,i < n→Rise p i→af 1000001 1 0 (at' p i) < af 1000001 1 0 (at' p ((i+1) % n)):=fun i hi hr => (ls_steep (hpl i hi) (hpl' _)).1 ((hR i).1 hr)
 have dn:∀ i,i < n→¬ Rise p i→af 1000001 1 0 (at' p ((i+1) % n)) < af 1000001 1 0 (at' p i):=fun i hi hr => by
  rcases ls_total (at' p i) (at' p ((i+1) % n)) with e | e | e
  ·exact absurd ((hR i).2 e) hr
  ·have:=(h i hi).1
   rw [← e,cr_self'] at this
   omega
  ·exact (ls_steep (hpl' _) (hpl i hi)).1 e
 have pre:∀ j,j < n→Rise p j→∀ i,i≤j→Rise p i:=by
  intro j
  induction j with
  | zero => intro _ hr i hi;obtain rfl:i=0:=by omega
            exact hr
  | succ j ih =>
    intro hj hr i hi
    by_cases e:i=j+1
    ·rw [e];exact hr
    ·exact ih (by omega) (((h _ hj).2 hr).resolve_left (by omega)) i (by omega)
 have cut:∀ m,m≤n→∃ r,r≤m∧(∀ i,i < r→Rise p i)∧∀ i,r≤i→i < m→¬ Rise p i:=by
  intro m
  induction m with
  | zero => intro _;exact ⟨0,Nat.le_refl _,fun i hi => by omega,fun i h1 h2 => by omega⟩
  | succ m ih =>
    intro hm
    obtain ⟨r,h1,h2,h4⟩:=ih (by omega)
    by_cases hr:Rise p m
    ·exact ⟨m+1,Nat.le_refl _,fun i hi => pre m (by omega) hr i (by omega),fun i h1 h2 => by omega⟩
    ·refine ⟨r,by omega,h2,fun i h5 h6 => ?_⟩
     by_cases e:i=m
     ·rw [e];exact hr
     ·exact h4 i h5 (by omega)
 obtain ⟨r,hrn,hup,hdn⟩:=cut n (Nat.le_refl _)
 have r0:1≤r:=by
  by_cases e:1≤r
  ·exact e
  ·exfalso
   have hr0:r=0:=by omega
   have g:=grows_all (g:=fun i => -(af 1000001 1 0 (at' p (i % n)))) (a:=n) (fun i hi => by
    have:=dn i hi (hdn i (by omega) hi)
    rw [Nat.mod_eq_of_lt hi]
    omega) 0 n (by omega) (Nat.le_refl _)
   simp only [Nat.mod_self,Nat.zero_mod] at g
   omega
 have r1:r < n:=by
  by_cases e:r < n
  ·exact e
  ·exfalso
   have g:=grows_all (g:=fun i => af 1000001 1 0 (at' p (i % n))) (a:=n) (fun i hi => by
    have:=up i hi (hup i (by omega))
    rw [Nat.mod_eq_of_lt hi]
    omega) 0 n (by omega) (Nat.le_refl _)
   simp only [Nat.mod_self,Nat.zero_mod] at g
   omega
 have ia:∀ i,i < r→af 1000001 1 0 (at' p i) < af 1000001 1 0 (at' p (i+1)):=fun i hi => by
  have:=up i (by omega) (hup i hi)
  rwa [Nat.mod_eq_of_lt (show i+1 < n by omega)] at this
 have ta:∀ i,i+2≤r→0 < cr (at' p i) (at' p (i+1)) (at' p (i+2)):=fun i hi => by
  have:=(h (i+1) (by omega)).1
  rwa [pv_succ (by omega),Nat.mod_eq_of_lt (show i+1+1 < n by omega)] at this
 obtain ⟨B,hB⟩:∃ B:Nat→Pt,B=fun j => at' p ((r+j) % n):=⟨_,rfl⟩
 have eB:∀ j,r+j < n→B j=at' p (r+j):=fun j hj => by rw [hB];simp only;rw [Nat.mod_eq_of_lt hj]
 have eB':∀ j,B (j+1)=at' p ((r+j+1) % n):=fun j => by rw [hB];simp only;rw [Nat.add_assoc]
 have ib:∀ j,j < n - r→af 1000001 1 0 (B (j+1)) < af 1000001 1 0 (B j):=fun j hj => by
  have:=dn (r+j) (by omega) (hdn _ (by omega) (by omega))
  rw [eB j (by omega),eB']
  exact this
 have tb:∀ j,j+2≤n - r→0 < cr (B j) (B (j+1)) (B (j+2)):=fun j hj => by
  have:=(h (r+j+1) (by omega)).1
  rw [pv_succ (by omega)] at this
  rw [eB j (by omega),eB (j+1) (by omega),eB' (j+1)]
  exact this
 have e1:at' p r=B 0:=(eB 0 (by omega)).symm
 have e2:B (n - r)=at' p 0:=by
  rw [hB];simp only;rw [show r+(n - r)=n by omega,Nat.mod_self]
 have sa:=fun i hi => chains_left ia ta ib tb e1 e2 (i:=i) hi
 have sb:=fun i hi => chains_left (u:=-1000001) (v:=-1) (k:=-0) (A:=B) (B:=at' p) (a:=n - r) (b:=r) (fun j hj => by have:=ib j hj;rw [neg_af,neg_af];omega) tb
  (fun j hj => by have:=ia j hj;rw [neg_af,neg_af];omega) ta e2 e1 (i:=i) hi
 have ga:=grows_all (g:=fun i => af 1000001 1 0 (at' p i)) ia
 have gb:=grows_all (g:=fun i => -(af 1000001 1 0 (B i))) (a:=n - r) (fun i hi => by have:=ib i hi;omega)
 constructor
 ·intro i h1 h2
  refine (ls_steep (hpl 0 (by omega)) (hpl i h2)).2 ?_
  by_cases e:i≤r
  ·exact ga 0 i (by omega) e
  ·have:=gb (i - r) (n - r) (by omega) (Nat.le_refl _)
   rw [e2,eB (i - r) (by omega),show r+(i - r)=i by omega] at this
   omega
 ·intro i k hi hk hki hkn
  by_cases e:i < r
  ·rw [Nat.mod_eq_of_lt (show i+1 < n by omega)] at hkn ⊢
   obtain ⟨s1,s2⟩:=sa i e
   by_cases ek:k≤r
   ·exact s1 k ek hki hkn
   ·have:=s2 (k - r) (by omega) (by omega)
    rwa [eB (k - r) (by omega),show r+(k - r)=k by omega] at this
  ·obtain ⟨j,rfl⟩:∃ j,i=r+j:=⟨i - r,by omega⟩
   obtain ⟨s1,s2⟩:=sb j (by omega)
   rw [← eB j (by omega),← eB']
   by_cases ek:k=0
   ·rw [ek,← e2]
    refine s1 (n - r) (Nat.le_refl _) (by omega) (fun h => ?_)
    apply hkn
    rw [ek,show r+j+1=n by omega,Nat.mod_self]
   ·by_cases el:k < r
    ·exact s2 k (by omega) el
    ·have:=s1 (k - r) (by omega) (by omega) (fun h => by
      apply hkn
      rw [Nat.mod_eq_of_lt (by omega)]
      omega)
     rwa [eB (k - r) (by omega),show r+(k - r)=k by omega] at this
theorem cvx_goes {p:List Pt} (h3:3≤p.length) (hp:Plcs p) (h0:∀ i,1≤i→i < p.length→ls (at' p 0) (at' p i)) (hc:Cvx p.length (at' p)):Goes p:=by
 intro i hi
 refine ⟨turn hc h3 hi,fun hr => ?_⟩
 by_cases e:i=0
 ·exact Or.inl e
 ·refine Or.inr ?_
  obtain ⟨j,rfl⟩:∃ j,i=j+1:=⟨i - 1,by omega⟩
  rw [Nat.add_sub_cancel]
  by_cases hj:Rise p j
  ·exact hj
  ·exfalso
   have t:=turn hc h3 hi
   rw [pv_succ hi] at t
   have p0:=hp 0 (by omega)
   have pj:=hp j (by omega)
   have pi:=hp (j+1) hi
   have pn:=hp ((j+1+1) % p.length) (Nat.mod_lt _ (by omega))
   have f0:=(ls_steep p0 pi).1 (h0 (j+1) (by omega) hi)
   have f2:=(ls_steep pi pn).1 hr
   have f1:af 1000001 1 0 (at' p (j+1))≤af 1000001 1 0 (at' p j):=by
    unfold Rise at hj
    rw [Nat.mod_eq_of_lt hi] at hj
    have:¬ af 1000001 1 0 (at' p j) < af 1000001 1 0 (at' p (j+1)):=fun h => hj ((ls_steep pj pi).2 h)
    omega
   have c:=cone 1000001 1 0 (at' p j) (at' p (j+1)) (at' p ((j+1+1) % p.length)) (at' p 0)
   have c1:0≤cr (at' p j) (at' p (j+1)) (at' p 0):=by
    by_cases e0:j=0
    ·rw [e0,cr_self];exact Int.le_refl _
    ·have:=hc j 0 (by omega) (by omega) (by omega) (by rw [Nat.mod_eq_of_lt hi];omega)
     rw [Nat.mod_eq_of_lt hi] at this
     omega
   have c2:0≤cr (at' p (j+1)) (at' p ((j+1+1) % p.length)) (at' p 0):=by
    by_cases e0:0=(j+1+1) % p.length
    ·rw [← e0,cr_self'];exact Int.le_refl _
    ·have:=hc (j+1) 0 hi (by omega) (by omega) e0
     omega
   have m1:=Int.mul_nonneg c1 (show 0≤af 1000001 1 0 (at' p ((j+1+1) % p.length)) - af 1000001 1 0 (at' p (j+1)) by omega)
   have m2:=Int.mul_nonneg c2 (show 0≤af 1000001 1 0 (at' p j) - af 1000001 1 0 (at' p (j+1)) by omega)
   have m3:=Int.mul_pos t (show 0 < -(af 1000001 1 0 (at' p 0) - af 1000001 1 0 (at' p (j+1))) by omega)
   rw [Int.mul_neg,c] at m3
   omega
end Hl
end Go.Proofs.YtlookcbokhknfaaGreat
