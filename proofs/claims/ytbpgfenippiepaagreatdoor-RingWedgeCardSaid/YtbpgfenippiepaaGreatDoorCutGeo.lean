/-
  Frames of points on a line; what a half-plane leaves of a polygon, and what two polygons have in common, has a least place in every direction.
-/
import Derived.Test.YtbpgfenippiepaaGreatDoorHullGeo
namespace Go.Proofs.YtbpgfenippiepaaGreatDoor
namespace Ct
open Hl
def Wr (m n:Int) (a b y:Pt):Prop:=(-(m+n) < y.1 * (m+n) - (m * a.1+n * b.1)∧y.1 * (m+n) - (m * a.1+n * b.1) < m+n)∧-(m+n) < y.2 * (m+n) - (m * a.2+n * b.2)∧y.2 * (m+n) - (m * a.2+n * b.2) < m+n
def Wt (s t m n:Int):Prop:=0 < m∧0 < n∧((s = -n∧t=m)∨(s=n∧t = -m))
def Df (s t:Int):Prop:=(s < 0∧0 < t)∨(0 < s∧t < 0)
instance (s t:Int):Decidable (Df s t):=by unfold Df;infer_instance
def Fr (a b:Pt) (s t:Int) (y:Pt):Prop:=∃ m n:Int,Wt s t m n∧Wr m n a b y
theorem Wt.df {s t m n:Int} (h:Wt s t m n):Df s t:=by unfold Wt at h;unfold Df;omega
theorem df_wt {s t:Int} (h:Df s t):∃ m n,Wt s t m n:=by
 rcases h with ⟨h1,h2⟩ | ⟨h1,h2⟩
 ·exact ⟨t,-s,h2,by omega,Or.inl ⟨by omega,rfl⟩⟩
 ·exact ⟨-t,s,by omega,h1,Or.inr ⟨rfl,by omega⟩⟩
theorem Fr.df {a b y:Pt} {s t:Int} (h:Fr a b s t y):Df s t:=h.elim fun _ h => h.elim fun _ h => h.1.df
theorem near_one {W:Int} (hW:0 < W) (N u:Int):∃ q:Int,(-W < q * W - N∧q * W - N < W)∧u * (q * W - N)≤0:=by
 by_cases hu:0≤u
 ·have h1:=Int.ediv_mul_le N (show W ≠ 0 by omega)
  have h2:=Int.lt_ediv_add_one_mul_self N hW
  rw [Int.add_mul,Int.one_mul] at h2
  have:=Int.mul_nonneg hu (show 0≤N - N / W * W by omega)
  have e:u * (N / W * W - N) = -(u * (N - N / W * W)):=by grind
  exact ⟨N / W,by omega,by omega⟩
 ·have h1:=Int.ediv_mul_le (-N) (show W ≠ 0 by omega)
  have h2:=Int.lt_ediv_add_one_mul_self (-N) hW
  rw [Int.add_mul,Int.one_mul] at h2
  have e0:-(-N / W) * W = -(-N / W * W):=by grind
  have:=Int.mul_nonneg (show 0≤-u by omega) (show 0≤-(-N / W * W) - N by omega)
  have e:u * (-(-N / W * W) - N) = -(-u * (-(-N / W * W) - N)):=by grind
  exact ⟨-(-N / W),by rw [e0];omega,by rw [e0];omega⟩
theorem wr_least {m n:Int} (hm:0 < m) (hn:0 < n) (a b:Pt) (u v k:Int):∃ y,Wr m n a b y∧(m+n) * af u v k y≤m * af u v k a+n * af u v k b:=by
 obtain ⟨q,h1,e1⟩:=near_one (show 0 < m+n by omega) (m * a.1+n * b.1) u
 obtain ⟨r,h2,e2⟩:=near_one (show 0 < m+n by omega) (m * a.2+n * b.2) v
 refine ⟨(q,r),⟨h1,h2⟩,?_⟩
 have e:(m+n) * af u v k (q,r) - (m * af u v k a+n * af u v k b)=u * (q * (m+n) - (m * a.1+n * b.1))+v * (r * (m+n) - (m * a.2+n * b.2)):=by unfold af;grind
 omega
theorem le_of_scaled {W f g s:Int} (hW:0 < W) (h:W * f≤s) (k:s≤W * g):f≤g:=by
 have:0≤W * (g - f):=by rw [Int.mul_sub];omega
 have:=nonneg_of hW this
 omega
theorem wr_bounds {m n lo hi:Int} (hm:0 < m) (hn:0 < n) {a b y:Int} (ha:lo≤a∧a≤hi) (hb:lo≤b∧b≤hi) (h:-(m+n) < y * (m+n) - (m * a+n * b)∧y * (m+n) - (m * a+n * b) < m+n):lo≤y∧y≤hi:=by
 have p1:=Int.mul_nonneg (Int.le_of_lt hm) (show 0≤a - lo by omega)
 have p2:=Int.mul_nonneg (Int.le_of_lt hn) (show 0≤b - lo by omega)
 have p3:=Int.mul_nonneg (Int.le_of_lt hm) (show 0≤hi - a by omega)
 have p4:=Int.mul_nonneg (Int.le_of_lt hn) (show 0≤hi - b by omega)
 have e1:m * (a - lo)+n * (b - lo)=m * a+n * b - lo * (m+n):=by grind
 have e2:m * (hi - a)+n * (hi - b)=hi * (m+n) - (m * a+n * b):=by grind
 have hW:0 < m+n:=by omega
 constructor
 ·by_cases z:y < lo
  ·have:=Int.mul_nonneg (show 0≤lo - 1 - y by omega) (Int.le_of_lt hW)
   have e:(lo - 1 - y) * (m+n)=lo * (m+n) - (m+n) - y * (m+n):=by grind
   omega
  ·omega
 ·by_cases z:hi < y
  ·have:=Int.mul_nonneg (show 0≤y - hi - 1 by omega) (Int.le_of_lt hW)
   have e:(y - hi - 1) * (m+n)=y * (m+n) - hi * (m+n) - (m+n):=by grind
   omega
  ·omega
abbrev Hf:=Int × Int × Int
def ov (h:Hf) (x:Pt):Int:=h.1 * x.1+h.2.1 * x.2 - h.2.2
theorem ov_af (h:Hf) (x:Pt):ov h x=af h.1 h.2.1 (-h.2.2) x:=by unfold ov af;omega
def LeftS (p:List Pt) (h:Hf) (y:Pt):Prop:=(∃ i,i < p.length∧at' p i=y∧ov h y≤0)∨∃ i,i < p.length∧Fr (at' p i) (at' p ((i+1) % p.length)) (ov h (at' p i)) (ov h (at' p ((i+1) % p.length))) y
theorem least_of {α:Type} (R:α→α→Prop):∀ (L:List α),L ≠ []→(∀ a b,a ∈ L→b ∈ L→R a b∨R b a)→(∀ a b c,a ∈ L→b ∈ L→c ∈ L→R a b→R b c→R a c)→∃ a,a ∈ L∧∀ b,b ∈ L→R a b
 | [],h,_,_ => absurd rfl h
 | [x],_,tot,_ => ⟨x,by simp,fun b hb => by
   obtain rfl:b=x:=by simpa using hb
   exact (tot b b hb hb).elim id id⟩
 | x :: y :: L,_,tot,tr => by
   obtain ⟨a,ha,hl⟩:=least_of R (y :: L) (by simp) (fun a b ha hb => tot a b (List.mem_cons_of_mem _ ha) (List.mem_cons_of_mem _ hb)) (fun a b c ha hb hc => tr a b c (List.mem_cons_of_mem _ ha) (List.mem_cons_of_mem _ hb) (List.mem_cons_of_mem _ hc))
   have ha':=List.mem_cons_of_mem x ha
   have hx:x ∈ x :: y :: L:=by simp
   rcases tot x a hx ha' with g | g
   ·refine ⟨x,hx,fun b hb => ?_⟩
    rcases List.mem_cons.1 hb with rfl | hb'
    ·exact (tot b b hb hb).elim id id
    ·exact tr x a b hx ha' hb g (hl b hb')
   ·refine ⟨a,ha',fun b hb => ?_⟩
    rcases List.mem_cons.1 hb with rfl | hb'
    ·exact g
    ·exact hl b hb'
theorem least_frac {α:Type} (N D:α→Int) (L:List α) (h:L ≠ []) (hD:∀ a,a ∈ L→0 < D a):∃ a,a ∈ L∧∀ b,b ∈ L→N a * D b≤N b * D a:=by
 refine least_of (fun a b => N a * D b≤N b * D a) L h (fun a b _ _ => Int.le_total _ _) (fun a b c ha hb hc h1 h2 => ?_)
 have da:=hD a ha
 have db:=hD b hb
 have dc:=hD c hc
 have p1:=Int.mul_le_mul_of_nonneg_right h1 (Int.le_of_lt dc)
 have p2:=Int.mul_le_mul_of_nonneg_right h2 (Int.le_of_lt da)
 have:0≤D b * (N c * D a - N a * D c):=by
  have e:D b * (N c * D a - N a * D c)=(N c * D b * D a - N b * D c * D a)+(N b * D a * D c - N a * D b * D c):=by grind
  omega
 have:=nonneg_of db this
 omega
theorem turn_over {n:Nat} {S:Nat→Int} {i j:Nat} (hi:i < n) (hj:j < n) (h1:S i≤0) (h2:0 < S j):∃ k,k < n∧S k≤0∧0 < S ((k+1) % n):=by
 by_cases H:∃ k,k < n∧S k≤0∧0 < S ((k+1) % n)
 ·exact H
 ·exfalso
  have step:∀ k,k < n→S k≤0→S ((k+1) % n)≤0:=fun k hk hs => by
   by_cases z:0 < S ((k+1) % n)
   ·exact absurd ⟨k,hk,hs,z⟩ H
   ·omega
  have all:∀ d,S ((i+d) % n)≤0:=by
   intro d
   induction d with
   | zero => rw [Nat.add_zero,Nat.mod_eq_of_lt hi];exact h1
   | succ d ih =>
     have:=step _ (Nat.mod_lt _ (by omega)) ih
     rw [Nat.mod_add_mod] at this
     rwa [← Nat.add_assoc]
  have:=all (j+n - i)
  rw [show i+(j+n - i)=j+n by omega,Nat.add_mod_right,Nat.mod_eq_of_lt hj] at this
  omega
theorem af_comb (d e u v k u' v' k':Int) (x:Pt):af (d * u+e * u') (d * v+e * v') (d * k+e * k') x=d * af u v k x+e * af u' v' k' x:=by unfold af;grind
theorem least_near {p:List Pt} (hp:Pg p) {u v k N:Int} (hl:∀ l,l < p.length→N≤af u v k (at' p l)) {i j:Nat} (hi:i < p.length) (hj:j < p.length) (hne:i ≠ j) (ei:af u v k (at' p i)=N) (ej:af u v k (at' p j)=N):j=(i+1) % p.length∨i=(j+1) % p.length∨∀ l,l < p.length→af u v k (at' p l)=N:=by
 by_cases h2:p.length≤2
 ·have:p.length=2:=by omega
  rw [this]
  omega
 ·have hn:3≤p.length:=by omega
  have hc:=hp.2.2 (by omega)
  by_cases a:j=(i+1) % p.length
  ·exact Or.inl a
  by_cases b:i=(j+1) % p.length
  ·exact Or.inr (Or.inl b)
  refine Or.inr (Or.inr fun l hl' => ?_)
  have hv:pv p.length i < p.length:=pv_lt (by omega)
  have hx:(i+1) % p.length < p.length:=nx_lt (by omega)
  have nj:j ≠ pv p.length i:=fun e => b (by rw [e,pv_next hi])
  have c1:0 < cr (at' p (pv p.length i)) (at' p i) (at' p j):=by
   have:=hc (pv p.length i) j hv hj nj (by rw [pv_next hi];exact fun e => hne e.symm)
   rwa [pv_next hi] at this
  have c2:0 < cr (at' p i) (at' p ((i+1) % p.length)) (at' p j):=hc i j hi hj (fun e => hne e.symm) a
  have e:=cone u v k (at' p (pv p.length i)) (at' p i) (at' p ((i+1) % p.length)) (at' p j)
  rw [ej,ei,Int.sub_self,Int.mul_zero] at e
  have g1:=hl _ hx
  have g2:=hl _ hv
  have m1:=Int.mul_nonneg (Int.le_of_lt c1) (show 0≤af u v k (at' p ((i+1) % p.length)) - N by omega)
  have m2:=Int.mul_nonneg (Int.le_of_lt c2) (show 0≤af u v k (at' p (pv p.length i)) - N by omega)
  have z1:af u v k (at' p ((i+1) % p.length))=N:=by
   by_cases z:af u v k (at' p ((i+1) % p.length))=N
   ·exact z
   ·have:=Int.mul_pos c1 (show 0 < af u v k (at' p ((i+1) % p.length)) - N by omega);omega
  have z2:af u v k (at' p (pv p.length i))=N:=by
   by_cases z:af u v k (at' p (pv p.length i))=N
   ·exact z
   ·have:=Int.mul_pos c2 (show 0 < af u v k (at' p (pv p.length i)) - N by omega);omega
  have e':=cone u v k (at' p (pv p.length i)) (at' p i) (at' p ((i+1) % p.length)) (at' p l)
  rw [z1,z2,ei,Int.sub_self,Int.mul_zero,Int.mul_zero,Int.add_zero] at e'
  have t:=turn hc hn hi
  rcases Int.mul_eq_zero.1 e' with g | g <;> omega
theorem clip_least {p:List Pt} (hp:Pg p) {x:Pt} (hx:Hs p x) {h:Hf} (hs:ov h x≤0) (u v k:Int):∃ y,LeftS p h y∧af u v k y≤af u v k x:=by
 have P0:0 < p.length:=hp.1
 let F:=fun i => af u v k (at' p i)
 let S:=fun i => ov h (at' p i)
 obtain ⟨m,hm,Lm⟩:=least_at F p.length P0
 have Fm:F m≤af u v k x:=by
  obtain ⟨j,hj,e⟩:=hs_least hp hx u v k
  have:=Lm j hj
  show af u v k (at' p m)≤_
  have:af u v k (at' p m)≤af u v k (at' p j):=this
  omega
 by_cases sm:S m≤0
 ·exact ⟨at' p m,Or.inl ⟨m,hm,rfl,sm⟩,Fm⟩
 have Sm:0 < S m:=by omega
 obtain ⟨i0,hi0,e0⟩:=hs_least hp hx h.1 h.2.1 (-h.2.2)
 rw [← ov_af,← ov_af] at e0
 have S0:S i0≤0:=by show ov h (at' p i0)≤0;omega
 let nn:=fun c:Nat × Nat => if c.1=c.2 then F c.1 else S c.2 * F c.1 - S c.1 * F c.2
 let dd:=fun c:Nat × Nat => if c.1=c.2 then (1:Int) else S c.2 - S c.1
 let C:=((List.range p.length).flatMap fun i => (List.range p.length).map fun j => (i,j)).filter fun c => decide ((c.1=c.2∧S c.1=0)∨(S c.1 < 0∧0 < S c.2))
 have hC:∀ c,c ∈ C↔(c.1 < p.length∧c.2 < p.length)∧((c.1=c.2∧S c.1=0)∨(S c.1 < 0∧0 < S c.2)):=by
  intro c
  rcases c with ⟨c1,c2⟩
  simp [C,List.mem_flatMap]
 have hne:C ≠ []:=by
  by_cases z:S i0=0
  ·exact List.ne_nil_of_mem ((hC (i0,i0)).2 ⟨⟨hi0,hi0⟩,Or.inl ⟨rfl,z⟩⟩)
  ·exact List.ne_nil_of_mem ((hC (i0,m)).2 ⟨⟨hi0,hm⟩,Or.inr ⟨by show S i0 < 0;omega,Sm⟩⟩)
 have hD:∀ c,c ∈ C→0 < dd c:=by
  intro c hc
  have:=((hC c).1 hc).2
  show 0 < (if c.1=c.2 then (1:Int) else S c.2 - S c.1)
  by_cases e:c.1=c.2
  ·rw [if_pos e];omega
  ·rw [if_neg e];omega
 obtain ⟨c,hc,Lc⟩:=least_frac nn dd C hne hD
 rcases c with ⟨i,j⟩
 obtain ⟨⟨hi,hj⟩,kind⟩:=(hC (i,j)).1 hc
 have LcP:∀ a b,a < p.length→b < p.length→S a < 0→0 < S b→nn (i,j) * (S b - S a)≤(S b * F a - S a * F b) * dd (i,j):=by
  intro a b ha hb h1 h2
  have:=Lc (a,b) ((hC (a,b)).2 ⟨⟨ha,hb⟩,Or.inr ⟨h1,h2⟩⟩)
  have ne:a ≠ b:=fun e => by rw [e] at h1;omega
  have e1:nn (a,b)=S b * F a - S a * F b:=if_neg ne
  have e2:dd (a,b)=S b - S a:=if_neg ne
  rwa [e1,e2] at this
 have LcZ:∀ a,a < p.length→S a=0→nn (i,j)≤F a * dd (i,j):=by
  intro a ha h1
  have:=Lc (a,a) ((hC (a,a)).2 ⟨⟨ha,ha⟩,Or.inl ⟨rfl,h1⟩⟩)
  have e1:nn (a,a)=F a:=if_pos rfl
  have e2:dd (a,a)=1:=if_pos rfl
  rwa [e1,e2,Int.mul_one] at this
 rcases kind with ⟨e,z⟩ | ⟨h1,h2⟩
 ·-- a corner on the edge
  have e:i=j:=e
  subst e
  have z:S i=0:=z
  have en:nn (i,i)=F i:=if_pos rfl
  have ed:dd (i,i)=1:=if_pos rfl
  rw [en,ed] at LcP LcZ
  by_cases g:F i≤af u v k x
  ·exact ⟨at' p i,Or.inl ⟨i,hi,rfl,by show S i≤0;omega⟩,g⟩
  exfalso
  let T:=(List.range p.length).filter fun l => decide (0 < S l)
  have hT:∀ l,l ∈ T↔l < p.length∧0 < S l:=by intro l;simp [T]
  obtain ⟨b,hb,Lb⟩:=least_frac (fun l => F l - F i) S T (List.ne_nil_of_mem ((hT m).2 ⟨hm,Sm⟩)) (fun l hl => ((hT l).1 hl).2)
  obtain ⟨hb1,hb2⟩:=(hT b).1 hb
  have gb:F b - F i≤0:=by
   have q:=Lb m ((hT m).2 ⟨hm,Sm⟩)
   have:=Lm i hi
   have q2:=Int.mul_nonneg (show 0≤F i - F m by omega) (Int.le_of_lt hb2)
   have e:(F m - F i) * S b = -((F i - F m) * S b):=by grind
   by_cases zz:F b - F i≤0
   ·exact zz
   ·have:=Int.mul_pos (show 0 < F b - F i by omega) Sm
    omega
  obtain ⟨l,hl,el⟩:=hs_least hp hx (S b * u+(-(F b - F i)) * h.1) (S b * v+(-(F b - F i)) * h.2.1) (S b * k+(-(F b - F i)) * (-h.2.2))
  rw [af_comb,af_comb,← ov_af,← ov_af] at el
  have el:S b * F l+-(F b - F i) * S l≤S b * af u v k x+-(F b - F i) * ov h x:=el
  have up:S b * F i≤S b * F l+-(F b - F i) * S l:=by
   by_cases c1:0 < S l
   ·have:=Lb l ((hT l).2 ⟨hl,c1⟩)
    have e:S b * F l+-(F b - F i) * S l - S b * F i=(F l - F i) * S b - (F b - F i) * S l:=by grind
    omega
   ·by_cases c2:S l=0
    ·have:=LcZ l hl c2
     rw [c2,Int.mul_zero]
     have:=Int.mul_nonneg (Int.le_of_lt hb2) (show 0≤F l - F i by omega)
     rw [Int.mul_sub] at this
     omega
    ·have:=LcP l b hl hb1 (by omega) hb2
     have e:S b * F l+-(F b - F i) * S l - S b * F i=(S b * F l - S l * F b) * 1 - F i * (S b - S l):=by grind
     omega
  have q1:=Int.mul_nonneg (show 0≤-(F b - F i) by omega) (show 0≤-ov h x by omega)
  have e1:-(F b - F i) * -ov h x = -(-(F b - F i) * ov h x):=by grind
  have q2:=Int.mul_pos hb2 (show 0 < F i - af u v k x by omega)
  rw [Int.mul_sub] at q2
  omega
 ·-- two corners on both sides
  have h1:S i < 0:=h1
  have h2:0 < S j:=h2
  have hij:i ≠ j:=fun e => by rw [e] at h1;omega
  have en:nn (i,j)=S j * F i - S i * F j:=if_neg hij
  have ed:dd (i,j)=S j - S i:=if_neg hij
  rw [en,ed] at LcP LcZ
  have up:∀ l,l < p.length→S j * F i - S i * F j≤(S j - S i) * F l+(F i - F j) * S l:=by
   intro l hl
   by_cases c1:0 < S l
   ·have:=LcP i l hi hl h1 c1
    have q:0≤-S i * ((S j - S i) * F l+(F i - F j) * S l - (S j * F i - S i * F j)):=by
     have e:-S i * ((S j - S i) * F l+(F i - F j) * S l - (S j * F i - S i * F j))=(S l * F i - S i * F l) * (S j - S i) - (S j * F i - S i * F j) * (S l - S i):=by grind
     omega
    have:=nonneg_of (show 0 < -S i by omega) q
    omega
   ·by_cases c2:S l=0
    ·have:=LcZ l hl c2
     rw [c2,Int.mul_zero,Int.mul_comm (S j - S i)]
     omega
    ·have:=LcP l j hl hj (by omega) h2
     have q:0≤S j * ((S j - S i) * F l+(F i - F j) * S l - (S j * F i - S i * F j)):=by
      have e:S j * ((S j - S i) * F l+(F i - F j) * S l - (S j * F i - S i * F j))=(S j * F l - S l * F j) * (S j - S i) - (S j * F i - S i * F j) * (S j - S l):=by grind
      omega
     have:=nonneg_of h2 q
     omega
  have lam:0≤F i - F j:=by
   have q:=up m hm
   have:=Lm i hi
   have q1:=Int.mul_nonneg (show 0≤S j - S i by omega) (show 0≤F i - F m by omega)
   have e:(F i - F j) * (S m - S i)=((S j - S i) * F m+(F i - F j) * S m - (S j * F i - S i * F j))+(S j - S i) * (F i - F m):=by grind
   have q2:0≤(S m - S i) * (F i - F j):=by rw [Int.mul_comm,e];omega
   exact nonneg_of (show 0 < S m - S i by omega) q2
  obtain ⟨l,hl,el⟩:=hs_least hp hx ((S j - S i) * u+(F i - F j) * h.1) ((S j - S i) * v+(F i - F j) * h.2.1) ((S j - S i) * k+(F i - F j) * (-h.2.2))
  rw [af_comb,af_comb,← ov_af,← ov_af] at el
  have el:(S j - S i) * F l+(F i - F j) * S l≤(S j - S i) * af u v k x+(F i - F j) * ov h x:=el
  have q1:=Int.mul_nonneg lam (show 0≤-ov h x by omega)
  have e1:(F i - F j) * -ov h x = -((F i - F j) * ov h x):=by grind
  have upl:=up l hl
  have fx:S j * F i - S i * F j≤(S j - S i) * af u v k x:=by omega
  have fin:∀ a b,a < p.length→b=(a+1) % p.length→(S j - S i) * (S b * F a - S a * F b)=(S j * F i - S i * F j) * (S b - S a)→S a < 0→0 < S b→∃ y,LeftS p h y∧af u v k y≤af u v k x:=by
   intro a b ha hb ee sa sb
   obtain ⟨y,w,ey⟩:=wr_least (show 0 < S b by omega) (show 0 < -S a by omega) (at' p a) (at' p b) u v k
   refine ⟨y,Or.inr ⟨a,ha,S b,-S a,⟨by omega,by omega,Or.inl ⟨by show S a = - -S a;omega,by rw [← hb]⟩⟩,by rw [← hb];exact w⟩,?_⟩
   have ey:(S b+-S a) * af u v k y≤S b * F a+-S a * F b:=ey
   refine le_of_scaled (W:=(S j - S i) * (S b - S a)) (s:=(S j * F i - S i * F j) * (S b - S a)) (Int.mul_pos (by omega) (by omega)) ?_ ?_
   ·rw [← ee]
    have:=Int.mul_le_mul_of_nonneg_left ey (show 0≤S j - S i by omega)
    have e2:(S j - S i) * ((S b+-S a) * af u v k y)=(S j - S i) * (S b - S a) * af u v k y:=by grind
    have e3:(S j - S i) * (S b * F a+-S a * F b)=(S j - S i) * (S b * F a - S a * F b):=by grind
    omega
   ·have:=Int.mul_le_mul_of_nonneg_right fx (show 0≤S b - S a by omega)
    have e2:(S j - S i) * af u v k x * (S b - S a)=(S j - S i) * (S b - S a) * af u v k x:=by grind
    omega
  have fin':∀ a b,a < p.length→b=(a+1) % p.length→(S j - S i) * (-S b * F a+S a * F b)=(S j * F i - S i * F j) * (S a - S b)→0 < S a→S b < 0→∃ y,LeftS p h y∧af u v k y≤af u v k x:=by
   intro a b ha hb ee sa sb
   obtain ⟨y,w,ey⟩:=wr_least (show 0 < -S b by omega) (show 0 < S a by omega) (at' p a) (at' p b) u v k
   refine ⟨y,Or.inr ⟨a,ha,-S b,S a,⟨by omega,by omega,Or.inr ⟨rfl,by rw [← hb];show S b = - -S b;omega⟩⟩,by rw [← hb];exact w⟩,?_⟩
   have ey:(-S b+S a) * af u v k y≤-S b * F a+S a * F b:=ey
   refine le_of_scaled (W:=(S j - S i) * (S a - S b)) (s:=(S j * F i - S i * F j) * (S a - S b)) (Int.mul_pos (by omega) (by omega)) ?_ ?_
   ·rw [← ee]
    have:=Int.mul_le_mul_of_nonneg_left ey (show 0≤S j - S i by omega)
    have e2:(S j - S i) * ((-S b+S a) * af u v k y)=(S j - S i) * (S a - S b) * af u v k y:=by grind
    omega
   ·have:=Int.mul_le_mul_of_nonneg_right fx (show 0≤S a - S b by omega)
    have e2:(S j - S i) * af u v k x * (S a - S b)=(S j - S i) * (S a - S b) * af u v k x:=by grind
    omega
  have LS:∀ l,af ((S j - S i) * u+(F i - F j) * h.1) ((S j - S i) * v+(F i - F j) * h.2.1) ((S j - S i) * k+(F i - F j) * (-h.2.2)) (at' p l)=(S j - S i) * F l+(F i - F j) * S l:=fun l => by
   rw [af_comb,← ov_af]
  rcases least_near hp (N:=S j * F i - S i * F j) (fun l hl => by rw [LS];exact up l hl) hi hj hij (by rw [LS];grind) (by rw [LS];grind) with a | a | a
  ·exact fin i j hi a (by grind) h1 h2
  ·exact fin' j i hj a (by grind) h2 h1
  ·obtain ⟨q,hq,s1,s2⟩:=turn_over (S:=S) hi hj (Int.le_of_lt h1) h2
   have aq:=a q hq
   have aq':=a _ (nx_lt (n:=p.length) (i:=q) (by omega))
   rw [LS] at aq aq'
   by_cases z:S q=0
   ·refine ⟨at' p q,Or.inl ⟨q,hq,rfl,by show S q≤0;omega⟩,?_⟩
    rw [z,Int.mul_zero,Int.add_zero] at aq
    exact le_of_scaled (W:=S j - S i) (f:=F q) (by omega) (Int.le_of_eq aq) fx
   ·exact fin q _ hq rfl (by grind) (by omega) s2
end Ct
end Go.Proofs.YtbpgfenippiepaaGreatDoor
namespace Go.Proofs.YtbpgfenippiepaaGreatDoor
namespace Ct
open Hl
def XF (a b c d y:Pt):Prop:=Df (cr c d a) (cr c d b)∧Fr c d (cr a b c) (cr a b d) y
def BothS (p q:List Pt) (y:Pt):Prop:=(∃ i,i < p.length∧at' p i=y∧Hs q y)∨(∃ k,k < q.length∧at' q k=y∧Hs p y)∨∃ i k,(i < p.length∧k < q.length)∧XF (at' p i) (at' p ((i+1) % p.length)) (at' q k) (at' q ((k+1) % q.length)) y
theorem pl1 (v a b c d:Pt):-cr a b d * cr v a c+cr a b c * cr v a d = -cr c d a * cr v a b:=by unfold cr;grind
theorem pl2 (a b n c d:Pt):-cr a b d * cr b n c+cr a b c * cr b n d=cr c d b * cr a b n:=by unfold cr;grind
theorem pl3 (u v k:Int) (a b c d:Pt):cr c d b * af u v k a+-cr c d a * af u v k b = -cr a b d * af u v k c+cr a b c * af u v k d:=by unfold cr af;grind
theorem pl4 (a b c d:Pt):cr c d b+-cr c d a = -cr a b d+cr a b c:=by unfold cr;grind
theorem Wr.comm {m n:Int} {a b y:Pt} (h:Wr m n a b y):Wr n m b a y:=by
 unfold Wr at *
 rw [Int.add_comm n m,Int.add_comm (n * b.1),Int.add_comm (n * b.2)]
 exact h
theorem Wr.same {m n m' n':Int} {a b c d y:Pt} (h:Wr m n a b y) (e:m+n=m'+n') (e1:m * a.1+n * b.1=m' * c.1+n' * d.1) (e2:m * a.2+n * b.2=m' * c.2+n' * d.2):Wr m' n' c d y:=by
 unfold Wr at *
 rw [← e,← e1,← e2]
 exact h
theorem cr_neg (a b x:Pt):cr b a x = -cr a b x:=cr_swap2 a b x
theorem XF.flip {a b c d y:Pt} (h:XF a b c d y):XF a b d c y:=by
 obtain ⟨h1,m,n,hw,hr⟩:=h
 refine ⟨?_,n,m,?_,hr.comm⟩
 ·rw [cr_neg c d,cr_neg c d];unfold Df at *;omega
 ·unfold Wt at *;omega
theorem XF.turn {a b c d y:Pt} (h:XF a b c d y):XF c d a b y:=by
 obtain ⟨h1,m,n,hw,hr⟩:=h
 have e0:=pl4 a b c d
 have e1:=pl3 1 0 0 a b c d
 have e2:=pl3 0 1 0 a b c d
 have f1:∀ z:Pt,af 1 0 0 z=z.1:=fun z => by unfold af;omega
 have f2:∀ z:Pt,af 0 1 0 z=z.2:=fun z => by unfold af;omega
 rw [f1,f1,f1,f1] at e1
 rw [f2,f2,f2,f2] at e2
 refine ⟨hw.df,?_⟩
 obtain ⟨hm,hn,⟨s,t⟩ | ⟨s,t⟩⟩:=hw
 ·rw [s,t] at e0 e1 e2
  refine ⟨-cr c d b,cr c d a,⟨?_,?_,Or.inr ⟨rfl,by omega⟩⟩,hr.same (by omega) (by grind) (by grind)⟩ <;> (unfold Df at h1;omega)
 ·rw [s,t] at e0 e1 e2
  refine ⟨cr c d b,-cr c d a,⟨?_,?_,Or.inl ⟨by omega,rfl⟩⟩,hr.same (by omega) (by grind) (by grind)⟩ <;> (unfold Df at h1;omega)
theorem BothS.swap {p q:List Pt} {y:Pt} (h:BothS p q y):BothS q p y:=by
 rcases h with h | h | ⟨i,k,⟨hi,hk⟩,h⟩
 ·exact Or.inr (Or.inl h)
 ·exact Or.inl h
 ·exact Or.inr (Or.inr ⟨k,i,⟨hk,hi⟩,h.turn⟩)
theorem pv_nx {n i:Nat} (h:1≤n) (hi:i < n):pv n ((i+1) % n)=i:=by
 unfold pv
 by_cases e:i+1=n
 ·rw [e,Nat.mod_self,Nat.zero_add,Nat.mod_eq_of_lt (by omega)];omega
 ·rw [Nat.mod_eq_of_lt (show i+1 < n by omega),show i+1+(n - 1)=n+i by omega,Nat.add_mod_left,Nat.mod_eq_of_lt hi]
theorem ins_corner {n:Nat} {P:Nat→Pt} (h:Cvx n P) {k:Nat} (hk:k < n):Ins n P (P k):=fun i hi => by
 by_cases e:k=i
 ·subst e;rw [cr_self];exact Int.le_refl _
 ·by_cases e':k=(i+1) % n
  ·rw [← e',cr_self'];exact Int.le_refl _
  ·exact Int.le_of_lt (h i k hi hk e e')
theorem leave {n:Nat} {P:Nat→Pt} (h:Cvx n P) (hn:3≤n) {c d:Pt} {m w:Int} (hm:0 < m) (hw:0≤w) (hz:∀ i,i < n→0≤m * cr (P i) (P ((i+1) % n)) c+w * cr (P i) (P ((i+1) % n)) d) (hd:¬ Ins n P d) :
  ∃ i,i < n∧cr (P i) (P ((i+1) % n)) d < 0∧0≤cr (P i) (P ((i+1) % n)) c∧(∀ k,k < n→0≤-cr (P i) (P ((i+1) % n)) d * cr (P k) (P ((k+1) % n)) c+cr (P i) (P ((i+1) % n)) c * cr (P k) (P ((k+1) % n)) d)∧cr c d (P i)≤0∧0≤cr c d (P ((i+1) % n)):=by
 let L:=(List.range n).filter fun k => decide (cr (P k) (P ((k+1) % n)) d < 0)
 have hL:∀ k,k ∈ L↔k < n∧cr (P k) (P ((k+1) % n)) d < 0:=by intro k;simp [L]
 have hne:L ≠ []:=by
  intro e
  refine hd fun i hi => ?_
  by_cases z:cr (P i) (P ((i+1) % n)) d < 0
  ·have:=(hL i).2 ⟨hi,z⟩;rw [e] at this;cases this
  ·omega
 obtain ⟨i,hi,Li⟩:=least_frac (fun k => cr (P k) (P ((k+1) % n)) c) (fun k => -cr (P k) (P ((k+1) % n)) d) L hne (fun k hk => by have:=((hL k).1 hk).2;omega)
 obtain ⟨hi,di⟩:=(hL i).1 hi
 have ci:0≤cr (P i) (P ((i+1) % n)) c:=by
  have q:=hz i hi
  have:=Int.mul_nonneg hw (show 0≤-cr (P i) (P ((i+1) % n)) d by omega)
  rw [Int.mul_neg] at this
  exact nonneg_of hm (by omega)
 have K:∀ k,k < n→0≤-cr (P i) (P ((i+1) % n)) d * cr (P k) (P ((k+1) % n)) c+cr (P i) (P ((i+1) % n)) c * cr (P k) (P ((k+1) % n)) d:=by
  intro k hk
  by_cases z:cr (P k) (P ((k+1) % n)) d < 0
  ·have:=Li k ((hL k).2 ⟨hk,z⟩)
   grind
  ·by_cases zc:0≤cr (P k) (P ((k+1) % n)) c
   ·have q1:=Int.mul_nonneg (show 0≤-cr (P i) (P ((i+1) % n)) d by omega) zc
    have q2:=Int.mul_nonneg ci (show 0≤cr (P k) (P ((k+1) % n)) d by omega)
    omega
   ·have q1:=Int.mul_nonneg (show 0≤-cr (P i) (P ((i+1) % n)) d by omega) (hz k hk)
    have q2:=Int.mul_nonneg (hz i hi) (show 0≤cr (P k) (P ((k+1) % n)) d by omega)
    refine nonneg_of hm ?_
    grind
 refine ⟨i,hi,di,ci,K,?_,?_⟩
 ·have q:=K (pv n i) (pv_lt (by omega))
  rw [pv_next hi,pl1,Int.mul_comm] at q
  have:=nonneg_of (turn h hn hi) q
  omega
 ·have q:=K ((i+1) % n) (nx_lt (by omega))
  rw [pl2,Int.mul_comm] at q
  have t:=turn h hn (nx_lt (n:=n) (i:=i) (by omega))
  rw [pv_nx (by omega) hi] at t
  exact nonneg_of t q
def Div (m w:Int) (c d x:Pt):Prop:=(0≤m∧0≤w∧0 < m+w)∧∀ u v k:Int,(m+w) * af u v k x=m * af u v k c+w * af u v k d
theorem seg_one {n:Nat} {P:Nat→Pt} (h:Cvx n P) (hn:3≤n) {c d:Pt} {m w:Int} (hm:0≤m) (hw:0≤w) (hmw:0 < m+w) (hz:∀ i,i < n→0≤m * cr (P i) (P ((i+1) % n)) c+w * cr (P i) (P ((i+1) % n)) d) (u v k:Int) (hg:m * af u v k c+w * af u v k d≤0) (hgd:af u v k d≤0) :
  (Ins n P d∧af u v k d≤0)∨(Ins n P c∧af u v k c≤0)∨(∃ i,i < n∧af u v k (P i)≤0∧∃ m w,Div m w c d (P i))∨∃ i y,i < n∧XF (P i) (P ((i+1) % n)) c d y∧af u v k y≤0:=by
 by_cases hd:Ins n P d
 ·exact Or.inl ⟨hd,hgd⟩
 refine Or.inr ?_
 have hm':0 < m:=by
  by_cases z:m=0
  ·exfalso
   refine hd fun i hi => ?_
   have:=hz i hi
   rw [z,Int.zero_mul,Int.zero_add] at this
   exact nonneg_of (show 0 < w by omega) this
  ·omega
 obtain ⟨i,hi,di,ci,K,s,t⟩:=leave h hn hm' hw hz hd
 have gw:-cr (P i) (P ((i+1) % n)) d * af u v k c+cr (P i) (P ((i+1) % n)) c * af u v k d≤0:=by
  have q1:=Int.mul_nonneg (show 0≤-cr (P i) (P ((i+1) % n)) d by omega) (show 0≤-(m * af u v k c+w * af u v k d) by omega)
  have q2:=Int.mul_nonneg (hz i hi) (show 0≤-af u v k d by omega)
  have:0≤-(-cr (P i) (P ((i+1) % n)) d * af u v k c+cr (P i) (P ((i+1) % n)) c * af u v k d):=nonneg_of hm' (by grind)
  omega
 have e4:=pl4 (P i) (P ((i+1) % n)) c d
 have e3:=fun u v k => pl3 u v k (P i) (P ((i+1) % n)) c d
 by_cases b0:cr (P i) (P ((i+1) % n)) c=0
 ·refine Or.inl ⟨fun j hj => ?_,?_⟩
  ·have:=K j hj
   rw [b0,Int.zero_mul,Int.add_zero] at this
   exact nonneg_of (show 0 < -cr (P i) (P ((i+1) % n)) d by omega) this
  ·rw [b0,Int.zero_mul,Int.add_zero] at gw
   have:0≤-af u v k c:=nonneg_of (show 0 < -cr (P i) (P ((i+1) % n)) d by omega) (by rw [Int.mul_neg];omega)
   omega
 refine Or.inr ?_
 by_cases s0:cr c d (P i)=0
 ·refine Or.inl ⟨i,hi,?_,-cr (P i) (P ((i+1) % n)) d,cr (P i) (P ((i+1) % n)) c,⟨by omega,by omega,by omega⟩,fun u v k => ?_⟩
  ·have:=e3 u v k
   rw [s0] at this
   have:0≤-af u v k (P i):=nonneg_of (show 0 < cr c d (P ((i+1) % n)) by omega) (by rw [Int.mul_neg];omega)
   omega
  ·have:=e3 u v k
   rw [s0,Int.neg_zero,Int.zero_mul,Int.add_zero] at this
   rw [← e4,s0,Int.neg_zero,Int.add_zero]
   exact this
 by_cases t0:cr c d (P ((i+1) % n))=0
 ·refine Or.inl ⟨(i+1) % n,nx_lt (by omega),?_,-cr (P i) (P ((i+1) % n)) d,cr (P i) (P ((i+1) % n)) c,⟨by omega,by omega,by omega⟩,fun u v k => ?_⟩
  ·have:=e3 u v k
   rw [t0] at this
   have:0≤-af u v k (P ((i+1) % n)):=nonneg_of (show 0 < -cr c d (P i) by omega) (by rw [Int.mul_neg];omega)
   omega
  ·have:=e3 u v k
   rw [t0] at this
   rw [← e4,t0,Int.zero_add]
   omega
 refine Or.inr ?_
 obtain ⟨y,wy,ey⟩:=wr_least (show 0 < -cr (P i) (P ((i+1) % n)) d by omega) (show 0 < cr (P i) (P ((i+1) % n)) c by omega) c d u v k
 refine ⟨i,y,hi,⟨Or.inl ⟨by omega,by omega⟩,_,_,⟨by omega,by omega,Or.inr ⟨rfl,by omega⟩⟩,wy⟩,?_⟩
 have:0≤-af u v k y:=nonneg_of (show 0 < -cr (P i) (P ((i+1) % n)) d+cr (P i) (P ((i+1) % n)) c by omega) (by rw [Int.mul_neg];omega)
 omega
theorem Div.flip {m w:Int} {c d x:Pt} (h:Div m w c d x):Div w m d c x:=⟨⟨h.1.2.1,h.1.1,by have:=h.1.2.2;omega⟩,fun u v k => by have:=h.2 u v k;rw [Int.add_comm w m,this];omega⟩
theorem seg_any {n:Nat} {P:Nat→Pt} (h:Cvx n P) (hn:3≤n) {c d:Pt} {m w:Int} (hm:0≤m) (hw:0≤w) (hmw:0 < m+w) (hz:∀ i,i < n→0≤m * cr (P i) (P ((i+1) % n)) c+w * cr (P i) (P ((i+1) % n)) d) (u v k:Int) (hg:m * af u v k c+w * af u v k d≤0) :
  (Ins n P d∧af u v k d≤0)∨(Ins n P c∧af u v k c≤0)∨(∃ i,i < n∧af u v k (P i)≤0∧∃ m w,Div m w c d (P i))∨∃ i y,i < n∧XF (P i) (P ((i+1) % n)) c d y∧af u v k y≤0:=by
 by_cases hd:af u v k d≤0
 ·exact seg_one h hn hm hw hmw hz u v k hg hd
 have hc:af u v k c≤0:=by
  by_cases z:af u v k c≤0
  ·exact z
  ·exfalso
   by_cases m0:m=0
   ·have:=Int.mul_pos (show 0 < w by omega) (show 0 < af u v k d by omega)
    rw [m0,Int.zero_mul] at hg
    omega
   ·have q1:=Int.mul_pos (show 0 < m by omega) (show 0 < af u v k c by omega)
    have q2:=Int.mul_nonneg hw (show 0≤af u v k d by omega)
    omega
 rcases seg_one h hn hw hm (by omega) (c:=d) (d:=c) (fun i hi => by have:=hz i hi;omega) u v k (by omega) hc with g | g | ⟨i,hi,gi,m',w',g⟩ | ⟨i,y,hi,g,gy⟩
 ·exact Or.inr (Or.inl g)
 ·exact Or.inl g
 ·exact Or.inr (Or.inr (Or.inl ⟨i,hi,gi,w',m',g.flip⟩))
 ·exact Or.inr (Or.inr (Or.inr ⟨i,y,hi,g.flip,gy⟩))
theorem range_btw {a b x:Pt} (h:ls a b) (c:cr a b x=0) (h1:x=a∨ls a x) (h2:x=b∨ls x b):btw a b x:=by
 rcases a with ⟨a1,a2⟩
 rcases b with ⟨b1,b2⟩
 rcases x with ⟨x1,x2⟩
 simp only [ls,btw,cr,Prod.mk.injEq] at *
 by_cases e:a1=b1
 ·subst e
  omega
 ·have hlt:0 < b1 - a1:=by omega
  have g1:0≤x1 - a1:=by omega
  have g2:0≤b1 - x1:=by omega
  by_cases s:a2≤b2
  ·have p1:=Int.mul_nonneg (show 0≤b2 - a2 by omega) g1
   have p2:=Int.mul_nonneg (show 0≤b2 - a2 by omega) g2
   have q1:0≤x2 - a2:=nonneg_of hlt (by omega)
   have q2:0≤b2 - x2:=nonneg_of hlt (by grind)
   omega
  ·have p1:=Int.mul_nonneg (show 0≤a2 - b2 by omega) g1
   have p2:=Int.mul_nonneg (show 0≤a2 - b2 by omega) g2
   have q1:0≤a2 - x2:=nonneg_of hlt (by grind)
   have q2:0≤x2 - b2:=nonneg_of hlt (by grind)
   omega
theorem seg_weights {a b x:Pt} (h:a ≠ b) (c:cr a b x=0) (t:btw a b x):∃ m w,Div m w a b x:=by
 have t':=t
 unfold btw at t'
 by_cases e:a.1=b.1
 ·have e2:a.2 ≠ b.2:=fun e2 => h (Prod.ext e e2)
  have x1:x.1=a.1:=by omega
  by_cases s:a.2 < b.2
  ·exact ⟨b.2 - x.2,x.2 - a.2,⟨by omega,by omega,by omega⟩,fun u v k => by unfold af;rw [x1,← e];grind⟩
  ·exact ⟨x.2 - b.2,a.2 - x.2,⟨by omega,by omega,by omega⟩,fun u v k => by unfold af;rw [x1,← e];grind⟩
 ·by_cases s:a.1 < b.1
  ·exact ⟨b.1 - x.1,x.1 - a.1,⟨by omega,by omega,by omega⟩,fun u v k => by unfold af;unfold cr at c;grind⟩
  ·exact ⟨x.1 - b.1,a.1 - x.1,⟨by omega,by omega,by omega⟩,fun u v k => by unfold af;unfold cr at c;grind⟩
theorem Div.crs {m w:Int} {c d x:Pt} (h:Div m w c d x) (a b:Pt):(m+w) * cr a b x=m * cr a b c+w * cr a b d:=by
 rw [cr_af,cr_af,cr_af];exact h.2 _ _ _
theorem div_range {m w c d x:Int} (h:0≤m∧0≤w∧0 < m+w) (e:(m+w) * x=m * c+w * d):c≤x∧x≤d∨d≤x∧x≤c:=by
 obtain ⟨h1,h2,h3⟩:=h
 by_cases s:c≤d
 ·have q1:=Int.mul_nonneg h2 (show 0≤d - c by omega)
  have q2:=Int.mul_nonneg h1 (show 0≤d - c by omega)
  have p1:0≤x - c:=nonneg_of h3 (by grind)
  have p2:0≤d - x:=nonneg_of h3 (by grind)
  omega
 ·have q1:=Int.mul_nonneg h2 (show 0≤c - d by omega)
  have q2:=Int.mul_nonneg h1 (show 0≤c - d by omega)
  have p1:0≤c - x:=nonneg_of h3 (by grind)
  have p2:0≤x - d:=nonneg_of h3 (by grind)
  omega
theorem Div.seg {m w:Int} {c d x:Pt} (h:Div m w c d x):cr c d x=0∧btw c d x:=by
 have e:=h.crs c d
 rw [cr_self,cr_self',Int.mul_zero,Int.mul_zero] at e
 have e1:=h.2 1 0 0
 have e2:=h.2 0 1 0
 have f1:∀ z:Pt,af 1 0 0 z=z.1:=fun z => by unfold af;omega
 have f2:∀ z:Pt,af 0 1 0 z=z.2:=fun z => by unfold af;omega
 rw [f1,f1,f1] at e1
 rw [f2,f2,f2] at e2
 have h3:=h.1.2.2
 refine ⟨?_,div_range h.1 e1,div_range h.1 e2⟩
 rcases Int.mul_eq_zero.1 (show (m+w) * cr c d x=0 by omega) with g | g <;> omega
theorem Div.ins {m w:Int} {c d x:Pt} (h:Div m w c d x) {n:Nat} {P:Nat→Pt} (hc:Ins n P c) (hd:Ins n P d):Ins n P x:=fun i hi => by
 have e:=h.crs (P i) (P ((i+1) % n))
 have q1:=Int.mul_nonneg h.1.1 (hc i hi)
 have q2:=Int.mul_nonneg h.1.2.1 (hd i hi)
 exact nonneg_of h.1.2.2 (by omega)
theorem hs_one {p:List Pt} (h:p.length=1) (x:Pt):Hs p x↔at' p 0=x:=by unfold Hs;rw [if_pos h]
theorem hs_two {p:List Pt} (h:p.length=2) (x:Pt):Hs p x↔(cr (at' p 0) (at' p 1) x=0∧btw (at' p 0) (at' p 1) x):=by unfold Hs;rw [if_neg (by omega),if_pos h]
theorem hs_three {p:List Pt} (h:3≤p.length) (x:Pt):Hs p x↔Ins p.length (at' p) x:=by unfold Hs;rw [if_neg (by omega),if_neg (by omega)]
theorem both_two {p q:List Pt} (hp:Pg p) (hq:Pg q) (h2:p.length=2) (h3:3≤q.length) {x:Pt} (hx:Hs p x) (hy:Hs q x) (u v k:Int) (hf:af u v k x≤0):∃ y,BothS p q y∧af u v k y≤0:=by
 obtain ⟨c,t⟩:=(hs_two h2 x).1 hx
 have hi:=(hs_three h3 x).1 hy
 obtain ⟨m,w,hd⟩:=seg_weights (pg_ne hp (by omega)) c t
 have hc:=hq.2.2 (by omega)
 rcases seg_any hc h3 hd.1.1 hd.1.2.1 hd.1.2.2 (c:=at' p 0) (d:=at' p 1) (fun i hlt => by
   rw [← hd.crs];exact Int.mul_nonneg (Int.le_of_lt hd.1.2.2) (hi i hlt)) u v k (by
   rw [← hd.2]
   have:=Int.mul_nonneg (Int.le_of_lt hd.1.2.2) (show 0≤-af u v k x by omega)
   rw [Int.mul_neg] at this
   omega) with ⟨g,e⟩ | ⟨g,e⟩ | ⟨i,hlt,e,m',w',g⟩ | ⟨i,y,hlt,g,e⟩
 ·exact ⟨_,Or.inl ⟨1,by omega,rfl,(hs_three h3 _).2 g⟩,e⟩
 ·exact ⟨_,Or.inl ⟨0,by omega,rfl,(hs_three h3 _).2 g⟩,e⟩
 ·exact ⟨_,Or.inr (Or.inl ⟨i,hlt,rfl,(hs_two h2 _).2 g.seg⟩),e⟩
 ·refine ⟨y,Or.inr (Or.inr ⟨0,i,⟨by omega,hlt⟩,?_⟩),e⟩
  rw [h2]
  exact g.turn
theorem both_segs {p q:List Pt} (hp:Pg p) (hq:Pg q) (h2:p.length=2) (h3:q.length=2) {x:Pt} (hx:Hs p x) (hy:Hs q x) (u v k:Int) (hf:af u v k x≤0):∃ y,BothS p q y∧af u v k y≤0:=by
 have hx':=(hs_two h2 x).1 hx
 have hy':=(hs_two h3 x).1 hy
 have nab:=pg_ne hp (by omega)
 have ncd:=pg_ne hq (by omega)
 have lab:=hp.2.1 1 (by omega) (by omega)
 have lcd:=hq.2.1 1 (by omega) (by omega)
 obtain ⟨m,w,hd⟩:=seg_weights nab hx'.1 hx'.2
 obtain ⟨m',w',hd'⟩:=seg_weights ncd hy'.1 hy'.2
 by_cases xa:x=at' p 0
 ·exact ⟨x,Or.inl ⟨0,by omega,xa.symm,hy⟩,hf⟩
 by_cases xb:x=at' p 1
 ·exact ⟨x,Or.inl ⟨1,by omega,xb.symm,hy⟩,hf⟩
 by_cases xc:x=at' q 0
 ·exact ⟨x,Or.inr (Or.inl ⟨0,by omega,xc.symm,hx⟩),hf⟩
 by_cases xd:x=at' q 1
 ·exact ⟨x,Or.inr (Or.inl ⟨1,by omega,xd.symm,hx⟩),hf⟩
 have pos:∀ {m w:Int} {a b:Pt},Div m w a b x→x ≠ a→x ≠ b→0 < m∧0 < w:=by
  intro m w a b g na nb
  have g1:=g.2 1 0 0
  have g2:=g.2 0 1 0
  have f1:∀ z:Pt,af 1 0 0 z=z.1:=fun z => by unfold af;omega
  have f2:∀ z:Pt,af 0 1 0 z=z.2:=fun z => by unfold af;omega
  rw [f1,f1,f1] at g1
  rw [f2,f2,f2] at g2
  obtain ⟨⟨p1,p2,p3⟩,_⟩:=g
  refine ⟨?_,?_⟩
  ·by_cases z:m=0
   ·rw [z,Int.zero_add,Int.zero_mul,Int.zero_add] at g1 g2
    exact absurd (Prod.ext (Int.eq_of_mul_eq_mul_left (show w ≠ 0 by omega) g1) (Int.eq_of_mul_eq_mul_left (show w ≠ 0 by omega) g2)) nb
   ·omega
  ·by_cases z:w=0
   ·rw [z,Int.add_zero,Int.zero_mul,Int.add_zero] at g1 g2
    exact absurd (Prod.ext (Int.eq_of_mul_eq_mul_left (show m ≠ 0 by omega) g1) (Int.eq_of_mul_eq_mul_left (show m ≠ 0 by omega) g2)) na
   ·omega
 have P1:=pos hd xa xb
 have P2:=pos hd' xc xd
 have e1:=hd.crs (at' q 0) (at' q 1)
 have e2:=hd'.crs (at' p 0) (at' p 1)
 rw [hy'.1,Int.mul_zero] at e1
 rw [hx'.1,Int.mul_zero] at e2
 have df:∀ {m w s t:Int},0 < m→0 < w→0=m * s+w * t→s ≠ 0→Df s t:=by
  intro m w s t h1 h2 e ne
  unfold Df
  by_cases z:0 < s
  ·have:=Int.mul_pos h1 z
   by_cases zz:0≤t
   ·have:=Int.mul_nonneg (Int.le_of_lt h2) zz;omega
   ·omega
  ·have:=Int.mul_pos h1 (show 0 < -s by omega)
   rw [Int.mul_neg] at this
   by_cases zz:t≤0
   ·have:=Int.mul_nonneg (Int.le_of_lt h2) (show 0≤-t by omega)
    rw [Int.mul_neg] at this
    omega
   ·omega
 by_cases s0:cr (at' q 0) (at' q 1) (at' p 0)=0
 ·-- all on one line
  have s1:cr (at' q 0) (at' q 1) (at' p 1)=0:=by
   rw [s0,Int.mul_zero,Int.zero_add] at e1
   rcases Int.mul_eq_zero.1 e1.symm with g | g <;> omega
  have c0:cr (at' p 0) (at' p 1) (at' q 0)=0:=on_line ncd s0 s1 (cr_self _ _)
  have c1:cr (at' p 0) (at' p 1) (at' q 1)=0:=on_line ncd s0 s1 (cr_self' _ _)
  have Rp:∀ z,z=x∨z=at' p 0∨z=at' p 1→(z=at' p 0∨ls (at' p 0) z)∧(z=at' p 1∨ls z (at' p 1)):=by
   intro z hz
   rcases hz with rfl | rfl | rfl
   ·exact two_range lab hx'.1 hx'.2
   ·exact ⟨Or.inl rfl,Or.inr lab⟩
   ·exact ⟨Or.inr lab,Or.inl rfl⟩
  have Rx:=two_range lcd hy'.1 hy'.2
  have main:∀ e,(e=at' p 0∨e=at' p 1)→af u v k e≤0→∃ y,BothS p q y∧af u v k y≤0:=by
   intro e he ge
   have ce:cr (at' q 0) (at' q 1) e=0:=by rcases he with rfl | rfl;exact s0;exact s1
   have hxe:e ≠ x:=by rcases he with rfl | rfl;exact fun g => xa g.symm;exact fun g => xb g.symm
   have Re:=Rp e (Or.inr he)
   have Rx':=Rp x (Or.inl rfl)
   have btwn:∀ f,cr (at' p 0) (at' p 1) f=0→cr (at' q 0) (at' q 1) f=0→(ls e f∧ls f x∨ls x f∧ls f e)→Hs p f∧af u v k f≤0:=by
    intro f cf cf' hb
    refine ⟨(hs_two h2 f).2 ⟨cf,range_btw lab cf ?_ ?_⟩,?_⟩
    ·rcases hb with ⟨b1,b2⟩ | ⟨b1,b2⟩
     ·rcases Re.1 with g | g
      ·rw [g] at b1;exact Or.inr b1
      ·exact Or.inr (ls_trans g b1)
     ·rcases Rx'.1 with g | g
      ·exact absurd g xa
      ·exact Or.inr (ls_trans g b1)
    ·rcases hb with ⟨b1,b2⟩ | ⟨b1,b2⟩
     ·rcases Rx'.2 with g | g
      ·exact absurd g xb
      ·exact Or.inr (ls_trans b2 g)
     ·rcases Re.2 with g | g
      ·rw [g] at b2;exact Or.inr b2
      ·exact Or.inr (ls_trans b2 g)
    ·have ng:∀ z,af (-u) (-v) (-k) z = -af u v k z:=fun z => by unfold af;grind
     have cexf:cr e x f=0:=on_line ncd ce hy'.1 cf'
     have bexf:btw e x f:=by
      rcases hb with ⟨b1,b2⟩ | ⟨b1,b2⟩
      ·exact range_btw (ls_trans b1 b2) cexf (Or.inr b1) (Or.inr b2)
      ·exact btw_swap (range_btw (ls_trans b1 b2) (by rw [cr_swap2,cexf];rfl) (Or.inr b1) (Or.inr b2))
     by_cases o:-af u v k e≤-af u v k x
     ·have:=seg_least hxe cexf bexf (-u) (-v) (-k) (by rw [ng,ng];exact o)
      rw [ng,ng] at this
      omega
     ·have:=seg_least hxe.symm (by rw [cr_swap2,cexf];rfl) (btw_swap bexf) (-u) (-v) (-k) (by rw [ng,ng];omega)
      rw [ng,ng] at this
      omega
   have fin:(e=at' q 0∨ls (at' q 0) e)→(e=at' q 1∨ls e (at' q 1))→∃ y,BothS p q y∧af u v k y≤0:=fun g1 g2 => by
    have hq':Hs q e:=(hs_two h3 e).2 ⟨ce,range_btw lcd ce g1 g2⟩
    rcases he with rfl | rfl
    ·exact ⟨_,Or.inl ⟨0,by omega,rfl,hq'⟩,ge⟩
    ·exact ⟨_,Or.inl ⟨1,by omega,rfl,hq'⟩,ge⟩
   rcases ls_total e (at' q 0) with g | g | g
   ·have:=btwn (at' q 0) c0 (cr_self _ _) (Or.inl ⟨g,Rx.1.elim (fun g => absurd g xc) id⟩)
    exact ⟨_,Or.inr (Or.inl ⟨0,by omega,rfl,this.1⟩),this.2⟩
   ·exact fin (Or.inl g) (Or.inr (by rw [g];exact lcd))
   ·rcases ls_total e (at' q 1) with g' | g' | g'
    ·exact fin (Or.inr g) (Or.inr g')
    ·exact fin (Or.inr g) (Or.inl g')
    ·have:=btwn (at' q 1) c1 (cr_self' _ _) (Or.inr ⟨Rx.2.elim (fun g => absurd g xd) id,g'⟩)
     exact ⟨_,Or.inr (Or.inl ⟨1,by omega,rfl,this.1⟩),this.2⟩
  by_cases g0:af u v k (at' p 0)≤0
  ·exact main _ (Or.inl rfl) g0
  ·refine main _ (Or.inr rfl) ?_
   by_cases g1:af u v k (at' p 1)≤0
   ·exact g1
   ·exfalso
    have e:=hd.2 u v k
    have q1:=Int.mul_pos P1.1 (show 0 < af u v k (at' p 0) by omega)
    have q2:=Int.mul_pos P1.2 (show 0 < af u v k (at' p 1) by omega)
    have q3:=Int.mul_nonneg (Int.le_of_lt hd.1.2.2) (show 0≤-af u v k x by omega)
    rw [Int.mul_neg] at q3
    omega
 ·-- they cross
  have d1:=df P1.1 P1.2 e1 s0
  have n0:cr (at' p 0) (at' p 1) (at' q 0) ≠ 0:=fun z => by
   have z1:cr (at' p 0) (at' p 1) (at' q 1)=0:=by
    rw [z,Int.mul_zero,Int.zero_add] at e2
    rcases Int.mul_eq_zero.1 e2.symm with g | g <;> omega
   exact s0 (on_line nab z z1 (cr_self _ _))
  have d2:=df P2.1 P2.2 e2 n0
  obtain ⟨M,N,hw⟩:=df_wt d2
  obtain ⟨y,wy,ey⟩:=wr_least hw.1 hw.2.1 (at' q 0) (at' q 1) u v k
  refine ⟨y,Or.inr (Or.inr ⟨0,0,⟨by omega,by omega⟩,?_⟩),?_⟩
  ·rw [h2,h3];exact ⟨d1,M,N,hw,wy⟩
  ·have e:=hd'.2 u v k
   have prop:m' * N=w' * M:=by
    obtain ⟨_,_,⟨a,b⟩ | ⟨a,b⟩⟩:=hw
    ·rw [a,b] at e2;rw [Int.mul_neg] at e2;omega
    ·rw [a,b] at e2;rw [Int.mul_neg] at e2;omega
   have q3:=Int.mul_nonneg (Int.le_of_lt hd'.1.2.2) (show 0≤-af u v k x by omega)
   have q4:=Int.mul_nonneg (Int.le_of_lt hw.1) (show 0≤-(m' * af u v k (at' q 0)+w' * af u v k (at' q 1)) by rw [← e];rw [Int.mul_neg] at q3;omega)
   have:0≤-(M * af u v k (at' q 0)+N * af u v k (at' q 1)):=nonneg_of P2.1 (by grind)
   have hMN:0 < M+N:=by have:=hw.1;have:=hw.2.1;omega
   have:0≤-af u v k y:=nonneg_of hMN (by rw [Int.mul_neg];omega)
   omega
theorem both_zero {p q:List Pt} (hp:Pg p) (hq:Pg q) {x:Pt} (hx:Hs p x) (hy:Hs q x) (u v k:Int) (hf:af u v k x≤0):∃ y,BothS p q y∧af u v k y≤0:=by
 have P0:=hp.1
 have Q0:=hq.1
 by_cases p1:p.length=1
 ·exact ⟨x,Or.inl ⟨0,by omega,(hs_one p1 x).1 hx,hy⟩,hf⟩
 by_cases q1:q.length=1
 ·exact ⟨x,Or.inr (Or.inl ⟨0,by omega,(hs_one q1 x).1 hy,hx⟩),hf⟩
 by_cases p2:p.length=2
 ·by_cases q2:q.length=2
  ·exact both_segs hp hq p2 q2 hx hy u v k hf
  ·exact both_two hp hq p2 (by omega) hx hy u v k hf
 by_cases q2:q.length=2
 ·obtain ⟨y,b,e⟩:=both_two hq hp q2 (by omega) hy hx u v k hf
  exact ⟨y,b.swap,e⟩
 have p3:3≤p.length:=by omega
 have q3:3≤q.length:=by omega
 have ip:=(hs_three p3 x).1 hx
 have iq:=(hs_three q3 x).1 hy
 have cp:=hp.2.2 (by omega)
 have cq:=hq.2.2 (by omega)
 obtain ⟨j,hj,lj⟩:=hs_least hp hx u v k
 by_cases a0:Ins q.length (at' q) (at' p j)
 ·exact ⟨_,Or.inl ⟨j,hj,rfl,(hs_three q3 _).2 a0⟩,by omega⟩
 obtain ⟨i,hi,di,ci,K,s,t⟩:=leave cq q3 (c:=x) (d:=at' p j) (m:=1) (w:=0) (by omega) (by omega) (fun i hi => by have:=iq i hi;omega) a0
 have e3:=fun u v k => pl3 u v k (at' q i) (at' q ((i+1) % q.length)) x (at' p j)
 have e4:=pl4 (at' q i) (at' q ((i+1) % q.length)) x (at' p j)
 have hx':(i+1) % q.length < q.length:=nx_lt (by omega)
 rcases seg_any cp p3 (c:=at' q i) (d:=at' q ((i+1) % q.length)) t (show 0≤-cr x (at' p j) (at' q i) by omega) (by omega) (fun l hl => by
   have:=e3 (-((at' p ((l+1) % p.length)).2 - (at' p l).2)) ((at' p ((l+1) % p.length)).1 - (at' p l).1) (((at' p ((l+1) % p.length)).2 - (at' p l).2) * (at' p l).1 - ((at' p ((l+1) % p.length)).1 - (at' p l).1) * (at' p l).2)
   rw [← cr_af,← cr_af,← cr_af,← cr_af] at this
   rw [this]
   have g1:=Int.mul_nonneg (show 0≤-cr (at' q i) (at' q ((i+1) % q.length)) (at' p j) by omega) (ip l hl)
   have g2:=Int.mul_nonneg ci (ins_corner cp hj l hl)
   omega) u v k (by
   rw [e3]
   have g1:=Int.mul_nonneg (show 0≤-cr (at' q i) (at' q ((i+1) % q.length)) (at' p j) by omega) (show 0≤-af u v k x by omega)
   have g2:=Int.mul_nonneg ci (show 0≤-af u v k (at' p j) by omega)
   rw [Int.mul_neg] at g1 g2
   omega) with ⟨g,e⟩ | ⟨g,e⟩ | ⟨l,hl,e,m',w',g⟩ | ⟨l,y,hl,g,e⟩
 ·exact ⟨_,Or.inr (Or.inl ⟨_,hx',rfl,(hs_three p3 _).2 g⟩),e⟩
 ·exact ⟨_,Or.inr (Or.inl ⟨_,hi,rfl,(hs_three p3 _).2 g⟩),e⟩
 ·exact ⟨_,Or.inl ⟨l,hl,rfl,(hs_three q3 _).2 (g.ins (ins_corner cq hi) (ins_corner cq hx'))⟩,e⟩
 ·exact ⟨y,Or.inr (Or.inr ⟨l,i,⟨hl,hi⟩,g⟩),e⟩
theorem both_least {p q:List Pt} (hp:Pg p) (hq:Pg q) {x:Pt} (hx:Hs p x) (hy:Hs q x) (u v k:Int):∃ y,BothS p q y∧af u v k y≤af u v k x:=by
 have key:∀ z,af u v (k - af u v k x) z=af u v k z - af u v k x:=fun z => by unfold af;omega
 obtain ⟨y,b,e⟩:=both_zero hp hq hx hy u v (k - af u v k x) (by rw [key];omega)
 rw [key] at e
 exact ⟨y,b,by omega⟩
end Ct
end Go.Proofs.YtbpgfenippiepaaGreatDoor
