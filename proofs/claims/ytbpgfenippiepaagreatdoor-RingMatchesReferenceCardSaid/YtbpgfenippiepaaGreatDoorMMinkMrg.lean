/-
  Plain geometry: the sides of two polygons, merged by direction. No program.
-/
import Derived.Test.YtbpgfenippiepaaGreatDoorMHullOct
import Derived.Test.YtbpgfenippiepaaGreatDoorMHullCe
namespace Go.Proofs.YtbpgfenippiepaaGreatDoor
open Hl
namespace Mk
def up (v:Pt):Prop:=0 < v.1∨(v.1=0∧0 < v.2)
instance (v:Pt):Decidable (up v):=by unfold up;infer_instance
def nz (v:Pt):Prop:=v.1 ≠ 0∨v.2 ≠ 0
def lt (d e:Pt):Prop:=(up d∧¬ up e)∨((up d↔up e)∧0 < xp d e)
def le (d e:Pt):Prop:=(up d∧¬ up e)∨((up d↔up e)∧0≤xp d e)
theorem lt_le {d e:Pt} (h:lt d e):le d e:=by
 rcases h with h | ⟨h,g⟩
 ·exact Or.inl h
 ·exact Or.inr ⟨h,Int.le_of_lt g⟩
theorem xp_self (a:Pt):xp a a=0:=by unfold xp;grind
theorem le_refl (d:Pt):le d d:=Or.inr ⟨Iff.rfl,by rw [xp_self];exact Int.le_refl _⟩
theorem down_neg {v:Pt} (h:nz v) (g:¬ up v):up (neg v):=by
 unfold nz at h
 unfold up at g
 unfold up neg
 simp only
 omega
theorem xp_neg_r (a b:Pt):xp a (neg b)=xp b a:=by unfold xp neg;grind
theorem xp_neg_l (a b:Pt):xp (neg a) b=xp b a:=by unfold xp neg;grind
theorem xp_neg_neg (a b:Pt):xp (neg a) (neg b)=xp a b:=by unfold xp neg;grind
theorem xp_three (a b c:Pt):xp a c * b.1=xp a b * c.1+xp b c * a.1:=by unfold xp;grind
theorem up_first {a:Pt} (h:up a):0≤a.1:=by unfold up at h;omega
theorem up_second {a:Pt} (h:up a) (z:a.1=0):0 < a.2:=by unfold up at h;omega
theorem xp_right {b c:Pt} (z:b.1=0):xp b c = -(b.2 * c.1):=by unfold xp;rw [z,Int.zero_mul];omega
theorem xp_left {a c:Pt} (z:c.1=0):xp a c=a.1 * c.2:=by unfold xp;rw [z,Int.mul_zero];omega
theorem pos_r {s d:Int} (hd:0 < d) (h:0 < s * d):0 < s:=pos_of_mul (Int.le_of_lt hd) h
theorem nonneg_r {s d:Int} (hd:0 < d) (h:0≤s * d):0≤s:=nonneg_of hd (by rw [Int.mul_comm];exact h)
theorem tr_le {a b c:Pt} (ha:up a) (hb:up b) (hc:up c) (h1:0≤xp a b) (h2:0≤xp b c):0≤xp a c:=by
 have a0:=up_first ha
 have c0:=up_first hc
 by_cases z:b.1=0
 ·have b2:=up_second hb z
  rw [xp_right z] at h2
  have zc:c.1=0:=by
   rcases Int.lt_or_le 0 c.1 with g | g
   ·have:=Int.mul_pos b2 g;omega
   ·omega
  rw [xp_left zc]
  exact Int.mul_nonneg a0 (Int.le_of_lt (up_second hc zc))
 ·refine nonneg_r (show 0 < b.1 by have:=up_first hb;omega) ?_
  rw [xp_three]
  have m1:=Int.mul_nonneg h1 c0
  have m2:=Int.mul_nonneg h2 a0
  omega
theorem tr_lt {a b c:Pt} (ha:up a) (hb:up b) (hc:up c) (h1:0≤xp a b) (h2:0≤xp b c) (h:0 < xp a b∨0 < xp b c):0 < xp a c:=by
 have a0:=up_first ha
 have c0:=up_first hc
 by_cases z:b.1=0
 ·have b2:=up_second hb z
  rw [xp_right z] at h2 h
  have zc:c.1=0:=by
   rcases Int.lt_or_le 0 c.1 with g | g
   ·have:=Int.mul_pos b2 g;omega
   ·omega
  rw [zc,Int.mul_zero] at h
  have h':0 < xp a b:=by rcases h with h | h;exact h;omega
  rw [xp_left z] at h'
  have a1:0 < a.1:=pos_r b2 h'
  rw [xp_left zc]
  exact Int.mul_pos a1 (up_second hc zc)
 ·have b1:0 < b.1:=by have:=up_first hb;omega
  refine pos_r b1 ?_
  rw [xp_three]
  have m1:=Int.mul_nonneg h1 c0
  have m2:=Int.mul_nonneg h2 a0
  have a1:0 < a.1:=by
   by_cases za:a.1=0
   ·exfalso
    rw [xp_right za] at h1
    have:=Int.mul_pos (up_second ha za) b1
    omega
   ·omega
  rcases h with h | h
  ·by_cases zc:c.1=0
   ·rw [xp_left zc] at m2 ⊢
    have:=Int.mul_pos (Int.mul_pos b1 (up_second hc zc)) a1
    omega
   ·have:=Int.mul_pos h (show 0 < c.1 by omega)
    omega
  ·have:=Int.mul_pos h a1
   omega
theorem same_lt {a b c:Pt} (na:nz a) (nb:nz b) (nc:nz c) (s1:up a↔up b) (s2:up b↔up c) (h1:0≤xp a b) (h2:0≤xp b c) (h:0 < xp a b∨0 < xp b c):0 < xp a c:=by
 by_cases u:up b
 ·exact tr_lt (s1.2 u) u (s2.1 u) h1 h2 h
 ·rw [← xp_neg_neg] at h1 h2 ⊢
  rw [← xp_neg_neg,← xp_neg_neg b] at h
  exact tr_lt (down_neg na (fun g => u (s1.1 g))) (down_neg nb u) (down_neg nc (fun g => u (s2.2 g))) h1 h2 h
theorem lt_trans {a b c:Pt} (na:nz a) (nb:nz b) (nc:nz c) (h:lt a b) (k:lt b c):lt a c:=by
 rcases h with ⟨u,d⟩ | ⟨s,x⟩
 ·rcases k with ⟨u2,_⟩ | ⟨s2,_⟩
  ·exact absurd u2 d
  ·exact Or.inl ⟨u,fun g => d (s2.2 g)⟩
 ·rcases k with ⟨u2,d2⟩ | ⟨s2,x2⟩
  ·exact Or.inl ⟨s.2 u2,d2⟩
  ·exact Or.inr ⟨s.trans s2,same_lt na nb nc s s2 (Int.le_of_lt x) (Int.le_of_lt x2) (Or.inl x)⟩
theorem lt_irrefl (a:Pt):¬ lt a a:=by
 rintro (⟨u,d⟩ | ⟨_,x⟩)
 ·exact d u
 ·rw [xp_self] at x;omega
theorem xp_plus_l (a b z:Pt):xp (plus a b) z=xp a z+xp b z:=by unfold xp plus;grind
theorem xp_plus_r (z a b:Pt):xp z (plus a b)=xp z a+xp z b:=by unfold xp plus;grind
theorem up_plus {a b:Pt} (_na:nz a) (_nb:nz b) (s:up a↔up b):up (plus a b)↔up a:=by
 unfold nz at _na _nb
 unfold up at s
 unfold up plus
 simp only
 omega
theorem nz_plus {a b:Pt} (_na:nz a) (nb:nz b) (s:up a↔up b):nz (plus a b):=by
 unfold nz at _na nb ⊢
 unfold up at s
 unfold plus
 simp only
 omega
theorem lt_plus_r {a b c:Pt} (na:nz a) (nb:nz b) (s:up a↔up b) (h:lt c a) (k:lt c b):lt c (plus a b):=by
 have e:=up_plus na nb s
 rcases h with ⟨u,d⟩ | ⟨s1,x⟩
 ·exact Or.inl ⟨u,fun g => d (e.1 g)⟩
 ·rcases k with ⟨u2,d2⟩ | ⟨_,x2⟩
  ·exact absurd (s.1 (s1.1 u2)) d2
  ·refine Or.inr ⟨s1.trans e.symm,?_⟩
   rw [xp_plus_r]
   omega
theorem lt_plus_l {a b c:Pt} (na:nz a) (nb:nz b) (nc:nz c) (s:up a↔up b) (z:xp a b=0) (h:lt a c):lt (plus a b) c:=by
 have e:=up_plus na nb s
 rcases h with ⟨u,d⟩ | ⟨s1,x⟩
 ·exact Or.inl ⟨e.2 u,d⟩
 ·refine Or.inr ⟨e.trans s1,?_⟩
  rw [xp_plus_l]
  have z':xp b a=0:=by rw [xp_swap];omega
  have:=same_lt nb na nc s.symm s1 (by omega) (by omega) (Or.inr x)
  omega
theorem le_plus {a b:Pt} (na:nz a) (nb:nz b) (s:up a↔up b) (z:xp a b=0):le (plus a b) a:=by
 refine Or.inr ⟨up_plus na nb s,?_⟩
 rw [xp_plus_l,xp_self,xp_swap b a]
 omega
def sd (p:List Pt) (i:Nat):Pt:=sub (at' p ((i+1) % p.length)) (at' p i)
theorem up_ls {a b:Pt}:up (sub b a)↔ls a b:=by unfold up sub ls;simp only;omega
theorem rise_up {p:List Pt} {i:Nat}:Rise p i↔up (sd p i):=up_ls.symm
theorem nz_sub {a b:Pt} (h:a ≠ b):nz (sub b a):=by
 unfold nz sub
 simp only
 by_cases e:b.1=a.1
 ·right
  intro g
  exact h (Prod.ext e.symm (by omega))
 ·left;omega
theorem sd_nz {p:List Pt} (hp:Pg p) (h2:2≤p.length) {i:Nat} (hi:i < p.length):nz (sd p i) :=
 nz_sub (pg_distinct hp hi (nx_lt (by omega)) (fun e => nx_ne h2 hi e.symm))
theorem sd_first {p:List Pt} (hp:Pg p) (h2:2≤p.length):up (sd p 0):=by
 refine up_ls.2 ?_
 rw [Nat.mod_eq_of_lt (by omega)]
 exact hp.2.1 1 (by omega) (by omega)
theorem sd_last {p:List Pt} (hp:Pg p) (h2:2≤p.length):¬ up (sd p (p.length - 1)):=by
 intro h
 have h:=up_ls.1 h
 rw [show p.length - 1+1=p.length by omega,Nat.mod_self] at h
 exact ls_asymm h (hp.2.1 _ (by omega) (by omega))
theorem cr_sides (a b c:Pt):cr a b c=xp (sub b a) (sub c b):=by unfold cr xp sub;grind
theorem sd_turn {p:List Pt} (hp:Pg p) (h2:2≤p.length) {i:Nat} (hi:i < p.length):0≤xp (sd p (pv p.length i)) (sd p i):=by
 have e:xp (sd p (pv p.length i)) (sd p i)=cr (at' p (pv p.length i)) (at' p i) (at' p ((i+1) % p.length)):=by
  rw [cr_sides]
  unfold sd
  rw [pv_next hi]
 rw [e]
 by_cases h3:3≤p.length
 ·exact Int.le_of_lt (turn (hp.2.2 (by omega)) h3 hi)
 ·have l2:p.length=2:=by omega
  have:pv p.length i=(i+1) % p.length:=by
   unfold pv
   rw [l2]
  rw [this]
  have:cr (at' p ((i+1) % p.length)) (at' p i) (at' p ((i+1) % p.length))=0:=cr_self _ _
  omega
theorem sd_next {p:List Pt} (hp:Vl p) (h2:2≤p.length) {i:Nat} (hi:i+1 < p.length):lt (sd p i) (sd p (i+1)):=by
 by_cases h3:3≤p.length
 ·have G:=cvx_goes h3 hp.2.1 hp.pg.2.1 (hp.pg.2.2 (by omega)) (i+1) hi
  rw [pv_succ hi] at G
  have x:0 < xp (sd p i) (sd p (i+1)):=by
   have:=G.1
   rw [cr_sides] at this
   unfold sd
   rw [Nat.mod_eq_of_lt hi]
   exact this
  have r:up (sd p (i+1))→up (sd p i):=fun u => by
   have:=(G.2 (rise_up.2 u)).resolve_left (by omega)
   exact rise_up.1 this
  by_cases u:up (sd p i)
  ·by_cases u2:up (sd p (i+1))
   ·exact Or.inr ⟨⟨fun _ => u2,fun _ => u⟩,x⟩
   ·exact Or.inl ⟨u,u2⟩
  ·exact Or.inr ⟨⟨fun g => absurd g u,r⟩,x⟩
 ·have e0:i=0:=by omega
  subst e0
  refine Or.inl ⟨sd_first hp.pg h2,?_⟩
  have:=sd_last hp.pg h2
  rwa [show p.length - 1=0+1 by omega] at this
theorem ext_of {p:List Pt} (hp:Pg p) (h2:2≤p.length) {i:Nat} (hi:i < p.length) {d:Pt} (h1:0≤xp (sd p (pv p.length i)) d) (h3:0≤xp d (sd p i)):∀ x,x ∈ p→0≤xp d (sub x (at' p i)):=by
 intro x hx
 by_cases l3:3≤p.length
 ·have c:=cone (-d.2) d.1 0 (at' p (pv p.length i)) (at' p i) (at' p ((i+1) % p.length)) x
  have e:∀ y z,af (-d.2) d.1 0 y - af (-d.2) d.1 0 z=xp d (sub y z):=fun y z => by unfold af xp sub;grind
  rw [e,e,e] at c
  have t:=turn (hp.2.2 (by omega)) l3 hi
  have ins:=(hs_three_i l3).1 ((hull_self hp).2.2 x hx)
  have g1:=ins_pv ins hi
  have g2:=ins i hi
  have f:xp d (sub (at' p (pv p.length i)) (at' p i))=xp (sd p (pv p.length i)) d:=by
   unfold sd
   rw [pv_next hi]
   unfold xp sub
   grind
  rw [f] at c
  refine nonneg_of t ?_
  rw [c]
  have m1:=Int.mul_nonneg g1 h3
  have m2:=Int.mul_nonneg g2 h1
  unfold sd at m1
  omega
 ·obtain ⟨j,hj,rfl⟩:=mem_at hx
  by_cases e:j=i
  ·rw [e]
   have:xp d (sub (at' p i) (at' p i))=0:=by unfold xp sub;grind
   omega
  ·have:j=(i+1) % p.length:=by
    have l2:p.length=2:=by omega
    rw [l2] at hi hj ⊢
    omega
   rw [this]
   exact h3
theorem pv_zero {n:Nat} (h:0 < n):pv n 0=n - 1:=by unfold pv;rw [Nat.zero_add,Nat.mod_eq_of_lt (by omega)]
theorem pv_pos {n i:Nat} (h:1≤i) (hi:i < n):pv n i=i - 1:=by
 obtain ⟨j,rfl⟩:∃ j,i=j+1:=⟨i - 1,by omega⟩
 rw [pv_succ hi]
 rfl
def ad (p:List Pt) (i:Nat):Pt:=at' p (i % p.length)
theorem ext_at {p:List Pt} (hp:Pg p) (h2:2≤p.length) {i:Nat} (hi:i≤p.length) {d:Pt} (nd:nz d) (h1:1≤i→lt (sd p (i - 1)) d) (h3:i < p.length→le d (sd p i)):∀ x,x ∈ p→0≤xp d (sub x (ad p i)):=by
 have u0:=sd_first hp h2
 have ul:=sd_last hp h2
 have nl:=sd_nz hp h2 (show p.length - 1 < p.length by omega)
 have t0:=sd_turn hp h2 (show 0 < p.length by omega)
 rw [pv_zero (by omega)] at t0
 unfold ad
 by_cases e0:i=0
 ·subst e0
  rw [Nat.zero_mod]
  have u:up d∧0≤xp d (sd p 0):=by
   rcases h3 (by omega) with ⟨_,g⟩ | ⟨s,x⟩
   ·exact absurd u0 g
   ·exact ⟨s.2 u0,x⟩
  refine ext_of hp h2 (by omega) ?_ u.2
  rw [pv_zero (by omega),← xp_neg_r]
  exact tr_le u.1 u0 (down_neg nl ul) u.2 (by rw [xp_neg_r];exact t0)
 ·by_cases en:i=p.length
  ·rw [en,Nat.mod_self]
   have h:=h1 (by omega)
   rw [en] at h
   have u:¬ up d∧0 < xp (sd p (p.length - 1)) d:=by
    rcases h with ⟨g,_⟩ | ⟨s,x⟩
    ·exact absurd g ul
    ·exact ⟨fun g => ul (s.2 g),x⟩
   refine ext_of hp h2 (by omega) (by rw [pv_zero (by omega)];exact Int.le_of_lt u.2) ?_
   rw [← xp_neg_r]
   exact tr_le u0 (down_neg nl ul) (down_neg nd u.1) (by rw [xp_neg_r];exact t0) (by rw [xp_neg_neg];exact Int.le_of_lt u.2)
  ·have hi':i < p.length:=by omega
   rw [Nat.mod_eq_of_lt hi']
   have t:=sd_turn hp h2 hi'
   have np:=sd_nz hp h2 (show i - 1 < p.length by omega)
   have nn:=sd_nz hp h2 hi'
   rw [pv_pos (by omega) hi'] at t
   have k1:=h1 (by omega)
   have k3:=h3 hi'
   have both:0≤xp (sd p (i - 1)) d∧0≤xp d (sd p i):=by
    rcases k1 with ⟨a,b⟩ | ⟨s,x⟩
    ·rcases k3 with ⟨a2,_⟩ | ⟨s2,x2⟩
     ·exact absurd a2 b
     ·refine ⟨?_,x2⟩
      have dn:=down_neg nn (fun g => b (s2.2 g))
      rw [← xp_neg_l]
      exact tr_le (down_neg nd b) dn a (by rw [xp_neg_neg];exact x2) (by rw [xp_neg_l];exact t)
    ·rcases k3 with ⟨a2,b2⟩ | ⟨_,x2⟩
     ·refine ⟨Int.le_of_lt x,?_⟩
      rw [← xp_neg_l]
      exact tr_le (down_neg nn b2) (s.2 a2) a2 (by rw [xp_neg_l];exact t) (Int.le_of_lt x)
     ·exact ⟨Int.le_of_lt x,x2⟩
   refine ext_of hp h2 hi' (by rw [pv_pos (by omega) hi'];exact both.1) both.2
def mg:List Pt→List Pt→List Pt
 | [],b => b
 | x :: a,[] => x :: a
 | x :: a,y :: b => if 0 < xp x y then x :: mg a (y :: b) else if xp x y < 0 then y :: mg (x :: a) b else plus x y :: mg a b
termination_by a b => a.length+b.length
theorem mg_nil_l (b:List Pt):mg [] b=b:=by rw [mg]
theorem mg_nil_r (a:List Pt):mg a []=a:=by cases a <;> rw [mg]
theorem mg_lt {x y:Pt} {a b:List Pt} (h:0 < xp x y):mg (x :: a) (y :: b)=x :: mg a (y :: b):=by rw [mg,if_pos h]
theorem mg_gt {x y:Pt} {a b:List Pt} (h:xp x y < 0):mg (x :: a) (y :: b)=y :: mg (x :: a) b:=by rw [mg,if_neg (by omega),if_pos h]
theorem mg_eq {x y:Pt} {a b:List Pt} (h:xp x y=0):mg (x :: a) (y :: b)=plus x y :: mg a b:=by rw [mg,if_neg (by omega),if_neg (by omega)]
def rs (p:List Pt):Nat→Nat→List Pt
 | _,0 => []
 | i,k+1 => sd p i :: rs p (i+1) k
def cs:Pt→List Pt→List Pt
 | _,[] => []
 | c,d :: D => c :: cs (plus c d) D
def Cor (p q:List Pt):Pt→List Pt→Prop
 | c,[] => c=plus (at' p 0) (at' q 0)
 | c,d :: D => (∃ x,x ∈ p∧∃ y,y ∈ q∧c=plus x y∧(∀ x',x' ∈ p→0≤xp d (sub x' x))∧∀ y',y' ∈ q→0≤xp d (sub y' y))∧Cor p q (plus c d) D
theorem Cor.swap {p q:List Pt}:∀ {D:List Pt} {c:Pt},Cor p q c D→Cor q p c D
 | [],_,h => by
   show _=_
   rw [plus_comm]
   exact h
 | _ :: _,_,⟨⟨x,hx,y,hy,e,g1,g2⟩,h⟩ => ⟨⟨y,hy,x,hx,by rw [plus_comm];exact e,g2,g1⟩,h.swap⟩
structure Gd (p q:List Pt) (i j:Nat) (D:List Pt):Prop where
 low:∀ c,nz c→(i < p.length→lt c (sd p i))→(j < q.length→lt c (sd q j))→∀ d,d ∈ D→lt c d
 srt:D.Pairwise lt
 nzs:∀ d,d ∈ D→nz d
 cor:Cor p q (plus (ad p i) (ad q j)) D
theorem Gd.swap {p q:List Pt} {i j:Nat} {D:List Pt} (h:Gd p q i j D):Gd q p j i D :=
 ⟨fun c nc h1 h2 => h.low c nc h2 h1,h.srt,h.nzs,by rw [plus_comm];exact h.cor.swap⟩
theorem ad_step {p:List Pt} {i:Nat} (hi:i < p.length):plus (ad p i) (sd p i)=ad p (i+1):=by
 unfold ad sd plus sub
 rw [Nat.mod_eq_of_lt hi]
 exact Prod.ext (by simp only;omega) (by simp only;omega)
theorem ad_mem {p:List Pt} (h:1≤p.length) (i:Nat):ad p i ∈ p:=at_mem (Nat.mod_lt _ (by omega))
theorem low_next {p:List Pt} (hp:Vl p) (h2:2≤p.length) {i:Nat} (hi:i < p.length) {c:Pt} (nc:nz c) (h:lt c (sd p i)):i+1 < p.length→lt c (sd p (i+1)):=fun g =>
 lt_trans nc (sd_nz hp.pg h2 hi) (sd_nz hp.pg h2 g) h (sd_next hp h2 g)
theorem prev_lt {p:List Pt} (hp:Vl p) (h2:2≤p.length) {i:Nat} (hi:i < p.length):1≤i→lt (sd p (i - 1)) (sd p i):=fun g => by
 have:=sd_next hp h2 (i:=i - 1) (by omega)
 rwa [show i - 1+1=i by omega] at this
theorem step_a {p q:List Pt} (hp:Vl p) (hq:Vl q) (p2:2≤p.length) (q2:2≤q.length) {i j:Nat} (hi:i < p.length) (hj:j≤q.length) (hlt:j < q.length→lt (sd p i) (sd q j)) (I2:1≤j→lt (sd q (j - 1)) (sd p i)) {D:List Pt} (h:Gd p q (i+1) j D):Gd p q i j (sd p i :: D):=by
 have na:=sd_nz hp.pg p2 hi
 refine ⟨fun c nc h1 h2 d hd => ?_,?_,fun d hd => ?_,?_⟩
 ·rcases List.mem_cons.1 hd with rfl | hd
  ·exact h1 hi
  ·exact h.low c nc (low_next hp p2 hi nc (h1 hi)) h2 d hd
 ·exact List.pairwise_cons.2 ⟨h.low _ na (fun g => sd_next hp p2 g) hlt,h.srt⟩
 ·rcases List.mem_cons.1 hd with rfl | hd
  ·exact na
  ·exact h.nzs d hd
 ·refine ⟨⟨ad p i,ad_mem (by omega) i,ad q j,ad_mem (by omega) j,rfl,?_,?_⟩,?_⟩
  ·exact ext_at hp.pg p2 (by omega) na (prev_lt hp p2 hi) (fun _ => le_refl _)
  ·exact ext_at hq.pg q2 hj na I2 (fun g => lt_le (hlt g))
  ·have e:plus (plus (ad p i) (ad q j)) (sd p i)=plus (ad p (i+1)) (ad q j):=by
    rw [← ad_step hi,plus_assoc,plus_comm (ad q j),← plus_assoc]
   rw [e]
   exact h.cor
theorem step_ab {p q:List Pt} (hp:Vl p) (hq:Vl q) (p2:2≤p.length) (q2:2≤q.length) {i j:Nat} (hi:i < p.length) (hj:j < q.length) (s:up (sd p i)↔up (sd q j)) (z:xp (sd p i) (sd q j)=0)
  (I1:1≤i→lt (sd p (i - 1)) (sd q j)) (I2:1≤j→lt (sd q (j - 1)) (sd p i)) {D:List Pt} (h:Gd p q (i+1) (j+1) D):Gd p q i j (plus (sd p i) (sd q j) :: D):=by
 have na:=sd_nz hp.pg p2 hi
 have nb:=sd_nz hq.pg q2 hj
 have nd:=nz_plus na nb s
 have z':xp (sd q j) (sd p i)=0:=by rw [xp_swap];omega
 have la:∀ c,nz c→lt (sd p i) c→lt (plus (sd p i) (sd q j)) c:=fun c nc g => lt_plus_l na nb nc s z g
 have lb:∀ c,nz c→lt (sd q j) c→lt (plus (sd p i) (sd q j)) c:=fun c nc g => by rw [plus_comm];exact lt_plus_l nb na nc s.symm z' g
 refine ⟨fun c nc h1 h2 d hd => ?_,?_,fun d hd => ?_,?_⟩
 ·rcases List.mem_cons.1 hd with rfl | hd
  ·exact lt_plus_r na nb s (h1 hi) (h2 hj)
  ·exact h.low c nc (low_next hp p2 hi nc (h1 hi)) (low_next hq q2 hj nc (h2 hj)) d hd
 ·exact List.pairwise_cons.2 ⟨h.low _ nd (fun g => la _ (sd_nz hp.pg p2 g) (sd_next hp p2 g)) (fun g => lb _ (sd_nz hq.pg q2 g) (sd_next hq q2 g)),h.srt⟩
 ·rcases List.mem_cons.1 hd with rfl | hd
  ·exact nd
  ·exact h.nzs d hd
 ·refine ⟨⟨ad p i,ad_mem (by omega) i,ad q j,ad_mem (by omega) j,rfl,?_,?_⟩,?_⟩
  ·exact ext_at hp.pg p2 (by omega) nd (fun g => lt_plus_r na nb s (prev_lt hp p2 hi g) (I1 g)) (fun _ => le_plus na nb s z)
  ·exact ext_at hq.pg q2 (by omega) nd (fun g => lt_plus_r na nb s (I2 g) (prev_lt hq q2 hj g)) (fun _ => by rw [plus_comm];exact le_plus nb na s.symm z')
  ·have e:plus (plus (ad p i) (ad q j)) (plus (sd p i) (sd q j))=plus (ad p (i+1)) (ad q (j+1)):=by
    rw [← ad_step hi,← ad_step hj]
    unfold plus
    exact Prod.ext (by simp only;omega) (by simp only;omega)
   rw [e]
   exact h.cor
theorem cmp_up {q:List Pt} (hq:Vl q) (q2:2≤q.length) {j:Nat} (hj:j < q.length) {a:Pt} (ha:up a) (hb:¬ up (sd q j)) (I2:1≤j→lt (sd q (j - 1)) a):0 < xp a (sd q j):=by
 have j1:1≤j:=by
  by_cases e:j=0
  ·exact absurd (by rw [e];exact sd_first hq.pg q2) hb
  ·omega
 have t:=sd_turn hq.pg q2 hj
 rw [pv_pos j1 hj] at t
 have nb:=sd_nz hq.pg q2 hj
 rcases I2 j1 with ⟨_,g⟩ | ⟨s,x⟩
 ·exact absurd ha g
 ·rw [← xp_neg_l]
  exact tr_lt (down_neg nb hb) (s.2 ha) ha (by rw [xp_neg_l];exact t) (Int.le_of_lt x) (Or.inr x)
theorem cmp {p q:List Pt} (hp:Vl p) (hq:Vl q) (p2:2≤p.length) (q2:2≤q.length) {i j:Nat} (hi:i < p.length) (hj:j < q.length) (I1:1≤i→lt (sd p (i - 1)) (sd q j)) (I2:1≤j→lt (sd q (j - 1)) (sd p i)) :
  (0 < xp (sd p i) (sd q j)→lt (sd p i) (sd q j))∧(xp (sd p i) (sd q j) < 0→lt (sd q j) (sd p i))∧(xp (sd p i) (sd q j)=0→(up (sd p i)↔up (sd q j))):=by
 have w:=xp_swap (sd q j) (sd p i)
 by_cases u:up (sd p i)
 ·by_cases u2:up (sd q j)
  ·have s:up (sd p i)↔up (sd q j):=⟨fun _ => u2,fun _ => u⟩
   exact ⟨fun h => Or.inr ⟨s,h⟩,fun h => Or.inr ⟨s.symm,by omega⟩,fun _ => s⟩
  ·have:=cmp_up hq q2 hj u u2 I2
   exact ⟨fun _ => Or.inl ⟨u,u2⟩,fun h => by omega,fun h => by omega⟩
 ·by_cases u2:up (sd q j)
  ·have:=cmp_up hp p2 hi u2 u I1
   exact ⟨fun h => by omega,fun _ => Or.inl ⟨u2,u⟩,fun h => by omega⟩
  ·have s:up (sd p i)↔up (sd q j):=⟨fun g => absurd g u,fun g => absurd g u2⟩
   exact ⟨fun h => Or.inr ⟨s,h⟩,fun h => Or.inr ⟨s.symm,by omega⟩,fun _ => s⟩
theorem merged {p q:List Pt} (hp:Vl p) (hq:Vl q) (p2:2≤p.length) (q2:2≤q.length):∀ N k l i j,k+l≤N→i+k=p.length→j+l=q.length→(1≤i→j < q.length→lt (sd p (i - 1)) (sd q j))→(1≤j→i < p.length→lt (sd q (j - 1)) (sd p i))→Gd p q i j (mg (rs p i k) (rs q j l)):=by
 intro N
 induction N with
 | zero =>
   intro k l i j hN hi hj _ _
   obtain rfl:k=0:=by omega
   obtain rfl:l=0:=by omega
   obtain rfl:i=p.length:=by omega
   obtain rfl:j=q.length:=by omega
   rw [rs,rs,mg_nil_l]
   refine ⟨fun _ _ _ _ d hd => (by cases hd),List.Pairwise.nil,fun d hd => (by cases hd),?_⟩
   unfold ad
   rw [Nat.mod_self,Nat.mod_self]
   rfl
 | succ N ih =>
   intro k l i j hN hi hj I1 I2
   have takeA:∀ k',k=k'+1→(j < q.length→lt (sd p i) (sd q j))→Gd p q i j (sd p i :: mg (rs p (i+1) k') (rs q j l)):=fun k' hk hlt =>
    step_a hp hq p2 q2 (by omega) (by omega) hlt (fun g => I2 g (by omega)) (ih k' l (i+1) j (by omega) (by omega) hj (fun _ g => hlt g) (fun g1 g2 =>
     low_next hp p2 (by omega) (sd_nz hq.pg q2 (by omega)) (I2 g1 (by omega)) g2))
   have takeB:∀ l',l=l'+1→(i < p.length→lt (sd q j) (sd p i))→Gd p q i j (sd q j :: mg (rs p i k) (rs q (j+1) l')):=fun l' hl hlt =>
    (step_a hq hp q2 p2 (by omega) (by omega) hlt (fun g => I1 g (by omega)) (ih k l' i (j+1) (by omega) hi (by omega) (fun g1 g2 =>
     low_next hq q2 (by omega) (sd_nz hp.pg p2 (by omega)) (I1 g1 (by omega)) g2) (fun _ g => hlt g)).swap).swap
   cases k with
   | zero =>
     cases l with
     | zero => exact ih 0 0 i j (by omega) hi hj I1 I2
     | succ l =>
       have:=takeB l rfl (fun g => by omega)
       rw [rs,mg_nil_l] at this ⊢
       exact this
   | succ k =>
     cases l with
     | zero =>
       have:=takeA k rfl (fun g => by omega)
       rw [show rs q j 0=[] from rfl,mg_nil_r] at this ⊢
       exact this
     | succ l =>
       obtain ⟨c1,c2,c3⟩:=cmp hp hq p2 q2 (i:=i) (j:=j) (by omega) (by omega) (fun g => I1 g (by omega)) (fun g => I2 g (by omega))
       rcases Int.lt_trichotomy (xp (sd p i) (sd q j)) 0 with c | c | c
       ·have:=takeB l rfl (fun _ => c2 c)
        rw [show rs q j (l+1)=sd q j :: rs q (j+1) l from rfl,show rs p i (k+1)=sd p i :: rs p (i+1) k from rfl,mg_gt c]
        exact this
       ·have s:=c3 c
        have na:=sd_nz hp.pg p2 (show i < p.length by omega)
        have nb:=sd_nz hq.pg q2 (show j < q.length by omega)
        have eqlt:∀ {a b x:Pt},nz a→nz b→nz x→(up a↔up b)→xp a b=0→lt a x→lt b x:=fun {a b x} ha hb hx s z g => by
         rcases g with ⟨u,d⟩ | ⟨s1,x1⟩
         ·exact Or.inl ⟨s.1 u,d⟩
         ·have z':xp b a=0:=by rw [xp_swap];omega
          exact Or.inr ⟨s.symm.trans s1,same_lt hb ha hx s.symm s1 (by omega) (by omega) (Or.inr x1)⟩
        have:=step_ab hp hq p2 q2 (by omega) (by omega) s c (fun g => I1 g (by omega)) (fun g => I2 g (by omega)) (ih k l (i+1) (j+1) (by omega) (by omega) (by omega)
         (fun _ g => by
          show lt (sd p i) (sd q (j+1))
          have nq:=sd_nz hq.pg q2 g
          exact eqlt nb na nq s.symm (by rw [xp_swap];omega) (sd_next hq q2 g))
         (fun _ g => by
          show lt (sd q j) (sd p (i+1))
          have nq:=sd_nz hp.pg p2 g
          exact eqlt na nb nq s c (sd_next hp p2 g)))
        rw [show rs q j (l+1)=sd q j :: rs q (j+1) l from rfl,show rs p i (k+1)=sd p i :: rs p (i+1) k from rfl,mg_eq c]
        exact this
       ·have:=takeA k rfl (fun _ => c1 c)
        rw [show rs q j (l+1)=sd q j :: rs q (j+1) l from rfl,show rs p i (k+1)=sd p i :: rs p (i+1) k from rfl,mg_lt c]
        exact this
end Mk
end Go.Proofs.YtbpgfenippiepaaGreatDoor
