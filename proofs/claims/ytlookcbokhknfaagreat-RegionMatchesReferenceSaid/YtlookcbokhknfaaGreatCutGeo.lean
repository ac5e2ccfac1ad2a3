/-
  Frames of points on a line; what a half-plane leaves of a polygon, and what two polygons have in common, has a least place in every direction.
  Plain geometry: a sum has at most as many corners as both polygons together. No program.
-/
import Derived.Test.YtlookcbokhknfaaGreatHullGeo
import Derived.Test.YtlookcbokhknfaaGreatHullOct
namespace Go.Proofs.YtlookcbokhknfaaGreat
namespace Ct
open Hl
def Wr (m n:Int) (a b y:Pt):Prop:=(-(m+n) < y.1 * (m+n) - (m * a.1+n * b.1)∧y.1 * (m+n) - (m * a.1+n * b.1) < m+n)∧-(m+n) < y.2 * (m+n) - (m * a.2+n * b.2)∧y.2 * (m+n) - (m * a.2+n * b.2) < m+n
def Wt (s t m n:Int):Prop:=0 < m∧0 < n∧((s = -n∧t=m)∨(s=n∧t = -m))
def Df (s t:Int):Prop:=(s < 0∧0 < t)∨(0 < s∧t < 0)
instance (s t:Int):Decidable (Df s t):=by unfold Df;infer_instance
def Fr (a b:Pt) (s t:Int) (y:Pt):Prop:=∃ m n:Int,Wt s t m n∧Wr m n a b y
theorem Wt.df {s t m n:Int} (h:Wt s t m n):Df s t:=by unfold Wt at h;unfold Df;omega
theorem df_wt {s t:Int} (h:Df s t):∃ m n,Wt s t m n:=by
 rcases h with ⟨h1,h2⟩ | ⟨h1,h2⟩
 ·exact ⟨t,-s,h2,by omega,Or.inl ⟨by omega,rfl⟩⟩
 ·exact ⟨-t,s,by omega,h1,Or.inr ⟨rfl,by omega⟩⟩
theorem Fr.df {a b y:Pt} {s t:Int} (h:Fr a b s t y):Df s t:=h.elim fun _ h => h.elim fun _ h => h.1.df
theorem wr_bounds {m n lo hi:Int} (hm:0 < m) (hn:0 < n) {a b y:Int} (ha:lo≤a∧a≤hi) (hb:lo≤b∧b≤hi) (h:-(m+n) < y * (m+n) - (m * a+n * b)∧y * (m+n) - (m * a+n * b) < m+n):lo≤y∧y≤hi:=by
 have p1:=Int.mul_nonneg (Int.le_of_lt hm) (show 0≤a - lo by omega)
 have p2:=Int.mul_nonneg (Int.le_of_lt hn) (show 0≤b - lo by omega)
 have p3:=Int.mul_nonneg (Int.le_of_lt hm) (show 0≤hi - a by omega)
 have p4:=Int.mul_nonneg (Int.le_of_lt hn) (show 0≤hi - b by omega)
 have e1:m * (a - lo)+n * (b - lo)=m * a+n * b - lo * (m+n):=by grind
 have e2:m * (hi - a)+n * (hi - b)=hi * (m+n) - (m * a+n * b):=by grind
 have hW:0 < m+n:=by omega
 constructor
 ·by_cases z:y < lo
  ·have:=Int.mul_nonneg (show 0≤lo - 1 - y by omega) (Int.le_of_lt hW)
   have e:(lo - 1 - y) * (m+n)=lo * (m+n) - (m+n) - y * (m+n):=by grind
   omega
  ·omega
 ·by_cases z:hi < y
  ·have:=Int.mul_nonneg (show 0≤y - hi - 1 by omega) (Int.le_of_lt hW)
   have e:(y - hi - 1) * (m+n)=y * (m+n) - hi * (m+n) - (m+n):=by grind
   omega
  ·omega
abbrev Hf:=Int × Int × Int
def ov (h:Hf) (x:Pt):Int:=h.1 * x.1+h.2.1 * x.2 - h.2.2
theorem ov_af (h:Hf) (x:Pt):ov h x=af h.1 h.2.1 (-h.2.2) x:=by unfold ov af;omega
def LeftS (p:List Pt) (h:Hf) (y:Pt):Prop:=(∃ i,i < p.length∧at' p i=y∧ov h y≤0)∨∃ i,i < p.length∧Fr (at' p i) (at' p ((i+1) % p.length)) (ov h (at' p i)) (ov h (at' p ((i+1) % p.length))) y
theorem least_near {p:List Pt} (hp:Pg p) {u v k N:Int} (hl:∀ l,l < p.length→N≤af u v k (at' p l)) {i j:Nat} (hi:i < p.length) (hj:j < p.length) (hne:i ≠ j) (ei:af u v k (at' p i)=N) (ej:af u v k (at' p j)=N):j=(i+1) % p.length∨i=(j+1) % p.length∨∀ l,l < p.length→af u v k (at' p l)=N:=by
 by_cases h2:p.length≤2
 ·have:p.length=2:=by omega
  rw [this]
  omega
 ·have hn:3≤p.length:=by omega
  have hc:=hp.2.2 (by omega)
  by_cases a:j=(i+1) % p.length
  ·exact Or.inl a
  by_cases b:i=(j+1) % p.length
  ·exact Or.inr (Or.inl b)
  refine Or.inr (Or.inr fun l hl' => ?_)
  have hv:pv p.length i < p.length:=pv_lt (by omega)
  have hx:(i+1) % p.length < p.length:=nx_lt (by omega)
  have nj:j ≠ pv p.length i:=fun e => b (by rw [e,pv_next hi])
  have c1:0 < cr (at' p (pv p.length i)) (at' p i) (at' p j):=by
   have:=hc (pv p.length i) j hv hj nj (by rw [pv_next hi];exact fun e => hne e.symm)
   rwa [pv_next hi] at this
  have c2:0 < cr (at' p i) (at' p ((i+1) % p.length)) (at' p j):=hc i j hi hj (fun e => hne e.symm) a
  have e:=cone u v k (at' p (pv p.length i)) (at' p i) (at' p ((i+1) % p.length)) (at' p j)
  rw [ej,ei,Int.sub_self,Int.mul_zero] at e
  have g1:=hl _ hx
  have g2:=hl _ hv
  have m1:=Int.mul_nonneg (Int.le_of_lt c1) (show 0≤af u v k (at' p ((i+1) % p.length)) - N by omega)
  have m2:=Int.mul_nonneg (Int.le_of_lt c2) (show 0≤af u v k (at' p (pv p.length i)) - N by omega)
  have z1:af u v k (at' p ((i+1) % p.length))=N:=by
   by_cases z:af u v k (at' p ((i+1) % p.length))=N
   ·exact z
   ·have:=Int.mul_pos c1 (show 0 < af u v k (at' p ((i+1) % p.length)) - N by omega);omega
  have z2:af u v k (at' p (pv p.length i))=N:=by
   by_cases z:af u v k (at' p (pv p.length i))=N
   ·exact z
   ·have:=Int.mul_pos c2 (show 0 < af u v k (at' p (pv p.length i)) - N by omega);omega
  have e':=cone u v k (at' p (pv p.length i)) (at' p i) (at' p ((i+1) % p.length)) (at' p l)
  rw [z1,z2,ei,Int.sub_self,Int.mul_zero,Int.mul_zero,Int.add_zero] at e'
  have t:=turn hc hn hi
  rcases Int.mul_eq_zero.1 e' with g | g <;> omega
end Ct
end Go.Proofs.YtlookcbokhknfaaGreat
namespace Go.Proofs.YtlookcbokhknfaaGreat
namespace Ct
open Hl
def XF (a b c d y:Pt):Prop:=Df (cr c d a) (cr c d b)∧Fr c d (cr a b c) (cr a b d) y
def BothS (p q:List Pt) (y:Pt):Prop:=(∃ i,i < p.length∧at' p i=y∧Hs q y)∨(∃ k,k < q.length∧at' q k=y∧Hs p y)∨∃ i k,(i < p.length∧k < q.length)∧XF (at' p i) (at' p ((i+1) % p.length)) (at' q k) (at' q ((k+1) % q.length)) y
theorem pl3 (u v k:Int) (a b c d:Pt):cr c d b * af u v k a+-cr c d a * af u v k b = -cr a b d * af u v k c+cr a b c * af u v k d:=by unfold cr af;grind
theorem pl4 (a b c d:Pt):cr c d b+-cr c d a = -cr a b d+cr a b c:=by unfold cr;grind
theorem Wr.same {m n m' n':Int} {a b c d y:Pt} (h:Wr m n a b y) (e:m+n=m'+n') (e1:m * a.1+n * b.1=m' * c.1+n' * d.1) (e2:m * a.2+n * b.2=m' * c.2+n' * d.2):Wr m' n' c d y:=by
 unfold Wr at *
 rw [← e,← e1,← e2]
 exact h
theorem XF.turn {a b c d y:Pt} (h:XF a b c d y):XF c d a b y:=by
 obtain ⟨h1,m,n,hw,hr⟩:=h
 have e0:=pl4 a b c d
 have e1:=pl3 1 0 0 a b c d
 have e2:=pl3 0 1 0 a b c d
 have f1:∀ z:Pt,af 1 0 0 z=z.1:=fun z => by unfold af;omega
 have f2:∀ z:Pt,af 0 1 0 z=z.2:=fun z => by unfold af;omega
 rw [f1,f1,f1,f1] at e1
 rw [f2,f2,f2,f2] at e2
 refine ⟨hw.df,?_⟩
 obtain ⟨hm,hn,⟨s,t⟩ | ⟨s,t⟩⟩:=hw
 ·rw [s,t] at e0 e1 e2
  refine ⟨-cr c d b,cr c d a,⟨?_,?_,Or.inr ⟨rfl,by omega⟩⟩,hr.same (by omega) (by grind) (by grind)⟩ <;> (unfold Df at h1;omega)
 ·rw [s,t] at e0 e1 e2
  refine ⟨cr c d b,-cr c d a,⟨?_,?_,Or.inl ⟨by omega,rfl⟩⟩,hr.same (by omega) (by grind) (by grind)⟩ <;> (unfold Df at h1;omega)
theorem BothS.swap {p q:List Pt} {y:Pt} (h:BothS p q y):BothS q p y:=by
 rcases h with h | h | ⟨i,k,⟨hi,hk⟩,h⟩
 ·exact Or.inr (Or.inl h)
 ·exact Or.inl h
 ·exact Or.inr (Or.inr ⟨k,i,⟨hk,hi⟩,h.turn⟩)
end Ct
end Go.Proofs.YtlookcbokhknfaaGreat
namespace Go.Proofs.YtlookcbokhknfaaGreat
open Hl
namespace Mk
def xp (a b:Pt):Int:=a.1 * b.2 - a.2 * b.1
def dp (a b:Pt):Int:=a.1 * b.1+a.2 * b.2
def sub (a b:Pt):Pt:=(a.1 - b.1,a.2 - b.2)
theorem lag (d w z:Pt):dp d d * xp w z=dp d w * xp d z - xp d w * dp d z:=by unfold dp xp;grind
theorem lag2 (d w z:Pt):dp d d * dp w z=dp d w * dp d z+xp d w * xp d z:=by unfold dp xp;grind
theorem cr_xp (a b c:Pt):cr a b c=xp (sub b a) (sub c a):=by unfold cr xp sub;grind
theorem xp_sub (d x y z:Pt):xp d (sub x z) - xp d (sub y z)=xp d (sub x y):=by unfold xp sub;grind
theorem xp_swap (a b:Pt):xp a b = -(xp b a):=by unfold xp;grind
theorem dp_comm (a b:Pt):dp a b=dp b a:=by unfold dp;grind
theorem xp_neg (d a b:Pt):xp d (sub a b) = -(xp d (sub b a)):=by unfold xp sub;grind
theorem dp_neg (d a b:Pt):dp d (sub a b) = -(dp d (sub b a)):=by unfold dp sub;grind
theorem sq_nonneg (a:Int):0≤a * a:=by rw [← Int.natAbs_mul_self];omega
theorem sq_pos {a:Int} (h:a ≠ 0):0 < a * a:=by
 rcases Int.lt_or_gt_of_ne h with g | g
 ·exact Int.mul_pos_of_neg_of_neg g g
 ·exact Int.mul_pos g g
theorem dd_pos {d:Pt} (h:d ≠ (0,0)):0 < dp d d:=by
 unfold dp
 have h1:=sq_nonneg d.1
 have h2:=sq_nonneg d.2
 by_cases e1:d.1=0
 ·by_cases e2:d.2=0
  ·exact absurd (Prod.ext e1 e2) h
  ·have:=sq_pos e2
   omega
 ·have:=sq_pos e1
  omega
theorem sub_ne {a b:Pt} (h:a ≠ b):sub a b ≠ (0,0):=fun e => h (by
 unfold sub at e
 injection e with e1 e2
 exact Prod.ext (by omega) (by omega))
def Par (d w:Pt):Prop:=xp d w=0∧0 < dp d w
theorem xp_dp {d w:Pt} (hd:d ≠ (0,0)) (hw:w ≠ (0,0)) (h:xp d w=0):dp d w ≠ 0:=fun e => by
 have:=lag2 d w w
 rw [h,e,Int.zero_mul] at this
 have:=Int.mul_pos (dd_pos hd) (dd_pos hw)
 omega
theorem pos_of_mul {a b:Int} (hb:0≤b) (h:0 < a * b):0 < a:=by
 rcases Int.lt_or_le 0 a with g | g
 ·exact g
 ·have:=Int.mul_nonneg (show 0≤-a by omega) hb
  rw [Int.neg_mul] at this
  omega
def Sd (p:List Pt) (d:Pt) (i:Nat):Prop:=i < p.length∧Par d (sub (at' p ((i+1) % p.length)) (at' p i))
theorem side_pos {p:List Pt} (hp:Pg p) (h3:3≤p.length) {d:Pt} {i:Nat} (hi:i < p.length) (hz:xp d (sub (at' p ((i+1) % p.length)) (at' p i))=0) (hl:∀ l,l < p.length→0≤xp d (sub (at' p l) (at' p i))) (hd:d ≠ (0,0)):Sd p d i:=by
 refine ⟨hi,hz,?_⟩
 have hc:=hp.2.2 (by omega)
 obtain ⟨k,hk,k1,k2⟩:∃ k,k < p.length∧k ≠ i∧k ≠ (i+1) % p.length:=⟨pv p.length i,pv_lt (by omega),fun e => by
  have:=pv_next hi
  rw [e] at this
  exact nx_ne (by omega) hi this,fun e => nx_pv h3 hi e.symm⟩
 have c:=hc i k hi hk k1 k2
 rw [cr_xp] at c
 have g:=hl k hk
 have e:=lag d (sub (at' p ((i+1) % p.length)) (at' p i)) (sub (at' p k) (at' p i))
 rw [hz,Int.zero_mul,Int.sub_zero] at e
 exact pos_of_mul g (by rw [← e];exact Int.mul_pos (dd_pos hd) c)
theorem side_dir {p:List Pt} (hp:Pg p) {d:Pt} (hd:d ≠ (0,0)) {a b:Nat} (ha:a < p.length) (hb:b < p.length) (hne:at' p a ≠ at' p b) (hl:∀ l,l < p.length→0≤xp d (sub (at' p l) (at' p a))) (e:xp d (sub (at' p b) (at' p a))=0):∃ i,Sd p d i:=by
 have hab:a ≠ b:=fun h => hne (by rw [h])
 by_cases h2:p.length=2
 ·have nz:=xp_dp hd (sub_ne (fun h => hne h.symm)) e
  have na:(a+1) % p.length=b:=by rw [h2];omega
  have nb:(b+1) % p.length=a:=by rw [h2];omega
  rcases Int.lt_or_gt_of_ne nz with g | g
  ·exact ⟨b,hb,by rw [nb,xp_neg,e];rfl,by rw [nb,dp_neg];omega⟩
  ·exact ⟨a,ha,by rw [na];exact e,by rw [na];exact g⟩
 ·have h3:3≤p.length:=by omega
  have af_e:∀ l,af (-d.2) d.1 0 (at' p l) - af (-d.2) d.1 0 (at' p a)=xp d (sub (at' p l) (at' p a)):=fun l => by unfold af xp sub;grind
  have hlb:∀ l,l < p.length→0≤xp d (sub (at' p l) (at' p b)):=fun l hll => by
   have h1:=hl l hll
   have h2:=xp_sub d (at' p l) (at' p b) (at' p a)
   omega
  rcases Ct.least_near hp (u:=-d.2) (v:=d.1) (k:=0) (N:=af (-d.2) d.1 0 (at' p a)) (fun l hll => by have:=af_e l;have:=hl l hll;omega) ha hb hab rfl (by have:=af_e b;omega) with h | h | h
  ·exact ⟨a,side_pos hp h3 ha (by rw [← h];exact e) hl hd⟩
  ·exact ⟨b,side_pos hp h3 hb (by rw [← h,xp_neg,e];rfl) hlb hd⟩
  ·exfalso
   have hc:=hp.2.2 (by omega)
   have z:∀ l,l < p.length→xp d (sub (at' p l) (at' p a))=0:=fun l hll => by have:=af_e l;have:=h l hll;omega
   have t:=three_not hc h3
   refine t ?_
   have w1:xp d (sub (at' p 1) (at' p 0))=0:=by have:=xp_sub d (at' p 1) (at' p 0) (at' p a);have:=z 1 (by omega);have:=z 0 (by omega);omega
   have w2:xp d (sub (at' p 2) (at' p 0))=0:=by have:=xp_sub d (at' p 2) (at' p 0) (at' p a);have:=z 2 (by omega);have:=z 0 (by omega);omega
   have L:=lag d (sub (at' p 1) (at' p 0)) (sub (at' p 2) (at' p 0))
   rw [w1,w2,Int.mul_zero,Int.zero_mul,Int.sub_zero] at L
   rw [cr_xp]
   rcases Int.mul_eq_zero.1 L with g | g
   ·have:=dd_pos hd;omega
   ·exact g
theorem par_sign {d w:Pt} (h:Par d w):(∀ z,0≤xp d z→0≤xp w z)∧(∀ z,xp w z=0→xp d z=0):=by
 have hw:0 < dp w w:=dd_pos (fun e => by have:=h.2;rw [e] at this;simp [dp] at this)
 have key:∀ z,dp w w * xp d z=dp w d * xp w z:=fun z => by
  have:=lag w d z
  rw [xp_swap w d,h.1,Int.neg_zero,Int.zero_mul,Int.sub_zero] at this
  exact this
 have hd:0 < dp w d:=by rw [dp_comm];exact h.2
 constructor
 ·intro z hz
  refine nonneg_of hd ?_
  rw [← key]
  exact Int.mul_nonneg (Int.le_of_lt hw) hz
 ·intro z hz
  have:=key z
  rw [hz,Int.mul_zero] at this
  rcases Int.mul_eq_zero.1 this with g | g
  ·omega
  ·exact g
theorem sides_apart {s:List Pt} (hs:Pg s) (h3:3≤s.length) {i j:Nat} (hi:i < s.length) (hj:j < s.length) {w:Pt} (h1:Par (sub (at' s ((i+1) % s.length)) (at' s i)) w) (h2:Par (sub (at' s ((j+1) % s.length)) (at' s j)) w):i=j:=by
 have hc:=hs.2.2 (by omega)
 have left:∀ a l,a < s.length→l < s.length→0≤xp (sub (at' s ((a+1) % s.length)) (at' s a)) (sub (at' s l) (at' s a)):=fun a l ha hl => by
  rw [← cr_xp]
  exact (hs_three_i h3).1 ((hull_self hs).2.2 _ (at_mem hl)) a ha
 have zero:∀ a l,a < s.length→l < s.length→xp (sub (at' s ((a+1) % s.length)) (at' s a)) (sub (at' s l) (at' s a))=0→l=a∨l=(a+1) % s.length:=fun a l ha hl e => by
  rw [← cr_xp] at e
  by_cases g:l=a
  ·exact Or.inl g
  ·by_cases g2:l=(a+1) % s.length
   ·exact Or.inr g2
   ·have:=hc a l ha hl g g2
    omega
 have p1:=(par_sign h1).1 _ (left i j hi hj)
 have p2:=(par_sign h2).1 _ (left j i hj hi)
 have n1:=xp_neg w (at' s i) (at' s j)
 have z1:=zero i j hi hj ((par_sign h1).2 _ (by omega))
 have z2:=zero j i hj hi ((par_sign h2).2 _ (by omega))
 rcases z1 with e | e
 ·exact e.symm
 ·rcases z2 with g | g
  ·exact g
  ·exfalso
   by_cases w1:i+1 < s.length
   ·rw [Nat.mod_eq_of_lt w1] at e
    by_cases w2:j+1 < s.length
    ·rw [Nat.mod_eq_of_lt w2] at g;omega
    ·have:j+1=s.length:=by omega
     rw [this,Nat.mod_self] at g
     omega
   ·have:i+1=s.length:=by omega
    rw [this,Nat.mod_self] at e
    subst e
    rw [Nat.mod_eq_of_lt (by omega)] at g
    omega
theorem sum_count {p q s:List Pt} (hp:Pg p) (hq:Pg q) (hs:IsHull (sums p q) s):s.length≤p.length+q.length:=by
 by_cases h3:3≤s.length
 ·have each:∀ j,j < s.length→(∃ i,Sd p (sub (at' s ((j+1) % s.length)) (at' s j)) i)∨∃ i,Sd q (sub (at' s ((j+1) % s.length)) (at' s j)) i:=fun j hj => by
   have hj1:(j+1) % s.length < s.length:=nx_lt (by omega)
   have hd:sub (at' s ((j+1) % s.length)) (at' s j) ≠ (0,0):=sub_ne (pg_distinct hs.1 hj1 hj (nx_ne (by omega) hj))
   obtain ⟨d,ed⟩:∃ d,d=sub (at' s ((j+1) % s.length)) (at' s j):=⟨_,rfl⟩
   rw [← ed] at hd ⊢
   obtain ⟨x,hx,y,hy,exy⟩:=mem_sums.1 (hs.2.1 _ (at_mem hj))
   obtain ⟨x',hx',y',hy',exy'⟩:=mem_sums.1 (hs.2.1 _ (at_mem hj1))
   have left:∀ a b,a ∈ p→b ∈ q→0≤xp d (sub (plus a b) (at' s j)):=fun a b ha hb => by
    rw [ed,← cr_xp]
    exact (hs_three_i h3).1 (hs.2.2 _ (sums_mem ha hb)) j hj
   have e0:xp d (sub (plus x' y') (at' s j))=0:=by rw [exy',ed];unfold xp;grind
   have sp:∀ a b c e,xp d (sub (plus a b) (plus c e))=xp d (sub a c)+xp d (sub b e):=fun a b c e => by unfold xp sub plus;grind
   have self:∀ a,xp d (sub a a)=0:=fun a => by unfold xp sub;grind
   have l1:∀ a,a ∈ p→0≤xp d (sub a x):=fun a ha => by have:=left a y ha hy;rw [← exy,sp,self] at this;omega
   have l2:∀ b,b ∈ q→0≤xp d (sub b y):=fun b hb => by have:=left x b hx hb;rw [← exy,sp,self] at this;omega
   rw [← exy,sp] at e0
   have m1:=l1 x' hx'
   have m2:=l2 y' hy'
   obtain ⟨a,ha,rfl⟩:=mem_at hx
   obtain ⟨b,hb,rfl⟩:=mem_at hy
   obtain ⟨a',ha',rfl⟩:=mem_at hx'
   obtain ⟨b',hb',rfl⟩:=mem_at hy'
   by_cases g:at' p a=at' p a'
   ·by_cases g2:at' q b=at' q b'
    ·exfalso
     apply hd
     rw [ed,← exy,← exy',g,g2]
     unfold sub
     simp
    ·exact Or.inr (side_dir hq hd hb hb' g2 (fun l hl => l2 _ (at_mem hl)) (by omega))
   ·exact Or.inl (side_dir hp hd ha ha' g (fun l hl => l1 _ (at_mem hl)) (by omega))
  have lab:∀ j,∃ z:Pt,j < s.length→(z.2=0∧0≤z.1∧Sd p (sub (at' s ((j+1) % s.length)) (at' s j)) z.1.toNat)∨(z.2=1∧0≤z.1∧Sd q (sub (at' s ((j+1) % s.length)) (at' s j)) z.1.toNat):=fun j => by
   by_cases hj:j < s.length
   ·rcases each j hj with ⟨i,h⟩ | ⟨i,h⟩
    ·exact ⟨((i:Int),0),fun _ => Or.inl ⟨rfl,by simp,by simpa using h⟩⟩
    ·exact ⟨((i:Int),1),fun _ => Or.inr ⟨rfl,by simp,by simpa using h⟩⟩
   ·exact ⟨(0,0),fun h => absurd h hj⟩
  have L:(((List.range p.length).map fun i:Nat => ((i:Int),(0:Int))) ++ ((List.range q.length).map fun i:Nat => ((i:Int),(1:Int)))).length=p.length+q.length:=by simp
  rw [← L]
  refine count_le (fun j => Classical.choose (lab j)) s.length _ (fun i j hi hj hne e => ?_) (fun j hj => ?_)
  ·have c1:=Classical.choose_spec (lab i) hi
   have c2:=Classical.choose_spec (lab j) hj
   rw [show Classical.choose (lab i)=Classical.choose (lab j) from e] at c1
   generalize Classical.choose (lab j)=z at c1 c2
   rcases c1 with ⟨a1,_,b1⟩ | ⟨a1,_,b1⟩ <;> rcases c2 with ⟨a2,_,b2⟩ | ⟨a2,_,b2⟩
   ·exact hne (sides_apart hs.1 h3 hi hj b1.2 b2.2)
   ·omega
   ·omega
   ·exact hne (sides_apart hs.1 h3 hi hj b1.2 b2.2)
  ·have c:=Classical.choose_spec (lab j) hj
   show Classical.choose (lab j) ∈ _
   generalize Classical.choose (lab j)=z at c
   rw [List.mem_append,List.mem_map,List.mem_map]
   rcases c with ⟨a,b,c⟩ | ⟨a,b,c⟩
   ·exact Or.inl ⟨z.1.toNat,List.mem_range.2 c.1,Prod.ext (by simp;omega) a.symm⟩
   ·exact Or.inr ⟨z.1.toNat,List.mem_range.2 c.1,Prod.ext (by simp;omega) a.symm⟩
 ·have:=hp.1
  have:=hq.1
  omega
end Mk
end Go.Proofs.YtlookcbokhknfaaGreat
