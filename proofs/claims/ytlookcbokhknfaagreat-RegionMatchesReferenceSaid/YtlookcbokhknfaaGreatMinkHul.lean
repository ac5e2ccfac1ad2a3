/-
  The laws of package mink, without the program.
  What package hull owes besides: the slices that it hands back are new.
  What mink.Sum owes, with the new memory said.
  Plain geometry: the merged sides go around the sum of two polygons. No program.
  Plain geometry: the sum of two eight-sided hulls is the eight-sided hull of the sum. No program.
-/
import Derived.Test.YtlookcbokhknfaaGreatMinkPlus
import Derived.Test.YtlookcbokhknfaaGreatHullCon
import Derived.Test.YtlookcbokhknfaaGreatMinkMrg
namespace Go.Proofs.YtlookcbokhknfaaGreat
open Go.RowKit Hl
namespace Mk
theorem oct_wide {p q:List Pt} (hg:Pg p) (hpl:Plcs p) (h:IsOct p q):Vl q∧∀ x,Hs p x→Hs q x:=by
 obtain ⟨a,b,c,d,s,t,i,j,h1,h2,h3,h4,h5,h6,h7,h8,hq⟩:=h
 obtain ⟨B,K⟩:=bd_of h1 h2 h3 h4 h5 h6 h7 h8
 have O:=oct_keeps B
 have hn:q.length≤8:=hull_le hq
 have hpl:Plcs q:=fun n hn => by
  have hk:=O _ (hq.2.1 _ (at_mem hn))
  obtain ⟨y1,g1,e1⟩:=h1.1
  obtain ⟨y2,g2,e2⟩:=h2.1
  obtain ⟨y3,g3,e3⟩:=h3.1
  obtain ⟨y4,g4,e4⟩:=h4.1
  obtain ⟨n1,l1,r1⟩:=mem_at g1
  obtain ⟨n2,l2,r2⟩:=mem_at g2
  obtain ⟨n3,l3,r3⟩:=mem_at g3
  obtain ⟨n4,l4,r4⟩:=mem_at g4
  have p1:=hpl n1 l1
  have p2:=hpl n2 l2
  have p3:=hpl n3 l3
  have p4:=hpl n4 l4
  rw [r1] at p1
  rw [r2] at p2
  rw [r3] at p3
  rw [r4] at p4
  unfold Keeps at hk
  unfold Plc at p1 p2 p3 p4 ⊢
  omega
 refine ⟨vl_of hq.1 (by omega) hpl,fun x hx => ?_⟩
 have hk:Keeps a b c d s t i j x:=by
  have g:∀ u v m,IsMin p u v m→m≤u * x.1+v * x.2:=by
   intro u v m hm
   obtain ⟨n,hn,hle⟩:=hs_least hg hx u v 0
   have:=hm.2 _ (at_mem hn)
   unfold af at hle
   omega
  have e1:=g _ _ _ h1
  have e2:=g _ _ _ h2
  have e3:=g _ _ _ h3
  have e4:=g _ _ _ h4
  have e5:=g _ _ _ h5
  have e6:=g _ _ _ h6
  have e7:=g _ _ _ h7
  have e8:=g _ _ _ h8
  unfold Keeps
  omega
 exact hs_of_least _ hq.1 hq.2.2 (oct_least hk)
theorem vl_hull {l s:List Pt} (h:IsHull l s) (hl:s.length≤64) (hp:Plcs s):Vl s:=vl_of h.1 hl hp
theorem sum_good {p q r:List Pt} (h:SumIs p q 0 r) (hv:Vl p∧Vl q):∃ s,IsHull (sums p q) s∧Plcs s∧((s.length≤64∧r=s)∨(64 < s.length∧IsOct s r)):=by
 rcases h with ⟨a,_,_⟩ | ⟨_,s,hs,⟨_,e,_⟩ | ⟨b,_,c⟩⟩
 ·exact absurd hv a
 ·exact absurd e (by decide)
 ·exact ⟨s,hs,b,c⟩
theorem sums_law {p q r:List Pt} (hp:Vl p) (hq:Vl q) (h:SumIs p q 0 r):Vl r∧∀ x y,Hs p x→Hs q y→Hs r (plus x y):=by
 obtain ⟨s,hs,hl,⟨a,rfl⟩ | ⟨a,ho⟩⟩:=sum_good h ⟨hp,hq⟩
 ·exact ⟨vl_hull hs a hl,fun x y hx hy => sum_has hp.pg hq.pg hs hx hy⟩
 ·obtain ⟨v,f⟩:=oct_wide hs.1 hl ho
  exact ⟨v,fun x y hx hy => f _ (sum_has hp.pg hq.pg hs hx hy)⟩
end Mk
end Go.Proofs.YtlookcbokhknfaaGreat
namespace Go.Proofs.YtlookcbokhknfaaGreat
open Go.RowKit
namespace Hl
theorem Own.less {B B':Nat} {w:World} {v:Value} {p:List Pt} (h:Own B w v p) (hb:B'≤B):Own B' w v p:=by
 obtain ⟨hl,h | ⟨g,cap,cur,e,h1,h2⟩⟩:=h
 ·exact ⟨hl,Or.inl h⟩
 ·exact ⟨hl,Or.inr ⟨g,cap,cur,e,Nat.le_trans hb h1,h2⟩⟩
structure SlN (w w':World) (v:Value) (p:List Pt):Prop where
 own:Own w.heap.size w' v p
theorem SlN.sl {w w':World} {v:Value} {p:List Pt} (h:SlN w w' v p):Sl w' v p:=h.own.sl
theorem SlN.new {w w':World} {v:Value} {p:List Pt} (h:SlN w w' v p):∀ k,v.ownBlock=some k→w.heap.size≤k:=fun k e => (World.ownsRow.lt h.own k e).1
theorem SlN.grown {w w1 w2:World} {v:Value} {p:List Pt} (h:SlN w w1 v p) (g:Grew w1 w2):SlN w w2 v p:=⟨h.own.grew g⟩
theorem SlN.later {w w1 w2:World} {v:Value} {p:List Pt} (h:SlN w1 w2 v p) (g:Grew w w1):SlN w w2 v p:=⟨h.own.less g.size⟩
def HullNew (l:List Pt) (w:World) (e:Ending) (w':World):Prop:=∃ q,IsHull l q∧((q.length≤64∧∃ v,e=.returned (.tuple #[v,.int .i64 0])∧SlN w w' v q∧Grew w w')∨(64 < q.length∧Empty 2 w e w'))
def EightNew (p:List Pt) (w:World) (e:Ending) (w':World):Prop:=∃ q v,IsOct p q∧e=.returned (.tuple #[v,.int .i64 0])∧SlN w w' v q∧Grew w w'
theorem HullNew.says {l:List Pt} {w:World} {e:Ending} {w':World} (h:HullNew l w e w'):HullSays l w e w':=by
 obtain ⟨q,hq,⟨h1,v,he,hs,g⟩ | h⟩:=h
 ·exact ⟨q,hq,Or.inl ⟨h1,v,he,hs.sl,g⟩⟩
 ·exact ⟨q,hq,Or.inr h⟩
theorem EightNew.says {p:List Pt} {w:World} {e:Ending} {w':World} (h:EightNew p w e w'):EightSays p w e w':=by
 obtain ⟨q,v,hq,he,hs,g⟩:=h
 exact ⟨q,v,hq,he,hs.sl,g⟩
structure CodeN:Prop extends Code where
 hull_new:∀ (l:List Pt) (v:Value) (w:World),Sl w v l→l.length≤4000→l ≠ []→Plcs l→Calls Tryz.prog 139 #[v] w (HullNew l w)
 eight_new:∀ (p:List Pt) (v:Value) (w:World),Sl w v p→Vl p→Calls Tryz.prog 118 #[v] w (EightNew p w)
end Hl
end Go.Proofs.YtlookcbokhknfaaGreat
namespace Go.Proofs.YtlookcbokhknfaaGreat
open Go.RowKit Hl
namespace Mk
def SumNew (p q:List Pt) (w:World) (e:Ending) (w':World):Prop:=∃ s,IsHull (sums p q) s∧((¬ Plcs s∧Empty 3 w e w')∨(Plcs s∧∃ v t,((s.length≤64∧t=s)∨(64 < s.length∧IsOct s t))∧e=.returned (.tuple #[v,.int .i64 0])∧SlN w w' v t∧Grew w w'))
theorem SumNew.says {p q:List Pt} {w:World} {e:Ending} {w':World} (h:SumNew p q w e w'):SumSays p q w e w':=by
 obtain ⟨s,hs,h | ⟨h,v,t,ht,he,hn,g⟩⟩:=h
 ·exact ⟨s,hs,Or.inl h⟩
 ·exact ⟨s,hs,Or.inr ⟨h,v,t,ht,he,hn.sl,g⟩⟩
end Mk
end Go.Proofs.YtlookcbokhknfaaGreat
namespace Go.Proofs.YtlookcbokhknfaaGreat
open Hl
namespace Mk
theorem at_succ (x:Pt) (l:List Pt) (i:Nat):at' (x :: l) (i+1)=at' l i:=rfl
theorem cs_next:∀ (D:List Pt) (c:Pt) (k:Nat),k+1 < D.length→at' (cs c D) (k+1)=plus (at' (cs c D) k) (at' D k)
 | [],_,_,h => absurd h (by simp)
 | [_],_,_,h => absurd h (by simp)
 | d :: e :: D,c,0,_ => rfl
 | d :: e :: D,c,k+1,h => by
   rw [cs,at_succ,at_succ,at_succ]
   exact cs_next (e :: D) (plus c d) k (by simpa using h)
theorem cor_last {p q:List Pt}:∀ (D:List Pt) (c:Pt),Cor p q c D→1≤D.length→plus (at' (cs c D) (D.length - 1)) (at' D (D.length - 1))=plus (at' p 0) (at' q 0)
 | [],_,_,h => absurd h (by simp)
 | [d],c,⟨_,h⟩,_ => h
 | d :: e :: D,c,⟨_,h⟩,_ => by
   have:=cor_last (e :: D) (plus c d) h (by simp)
   simp only [List.length_cons,Nat.add_sub_cancel] at this ⊢
   rw [cs,at_succ,at_succ]
   exact this
theorem cor_at {p q:List Pt}:∀ (D:List Pt) (c:Pt),Cor p q c D→∀ k,k < D.length→∃ x,x ∈ p∧∃ y,y ∈ q∧at' (cs c D) k=plus x y∧(∀ x',x' ∈ p→0≤xp (at' D k) (sub x' x))∧∀ y',y' ∈ q→0≤xp (at' D k) (sub y' y)
 | [],_,_,_,h => absurd h (by simp)
 | d :: D,c,⟨h,_⟩,0,_ => h
 | d :: D,c,⟨_,h⟩,k+1,hk => cor_at D (plus c d) h k (by simpa using hk)
theorem srt_at:∀ {D:List Pt},D.Pairwise lt→∀ {i j:Nat},i < j→j < D.length→lt (at' D i) (at' D j)
 | [],_,_,_,_,h => absurd h (by simp)
 | d :: D,h,0,j+1,_,hj => (List.pairwise_cons.1 h).1 _ (at_mem (p:=D) (i:=j) (by simpa using hj))
 | d :: D,h,i+1,j+1,hij,hj => srt_at (List.pairwise_cons.1 h).2 (i:=i) (j:=j) (by omega) (by simpa using hj)
theorem nz_ne {v:Pt} (h:nz v):v ≠ (0,0):=fun e => by rw [e] at h;unfold nz at h;simp at h
theorem sub_plus (a b c e:Pt):sub (plus a b) (plus c e)=plus (sub a c) (sub b e):=by unfold sub plus;exact Prod.ext (by simp only;omega) (by simp only;omega)
theorem sub_of_plus {a b d:Pt} (h:b=plus a d):sub b a=d:=by rw [h];unfold sub plus;exact Prod.ext (by simp only;omega) (by simp only;omega)
theorem xp_sub_add (d a b c:Pt):xp d (sub a c)=xp d (sub a b)+xp d (sub b c):=by unfold xp sub;grind
theorem par_same {u v:Pt} (nu:nz u) (nv:nz v) (z:xp u v=0) (d:0 < dp u v):up u↔up v:=by
 have key:∀ {a b:Pt},nz b→xp a b=0→0 < dp a b→up a→up b:=fun {a b} nb z d ha => by
  by_cases ub:up b
  ·exact ub
  ·exfalso
   have hb:=down_neg nb ub
   have a0:=up_first ha
   have b0:=up_first hb
   have n1:(neg b).1 = -b.1:=rfl
   have n2:(neg b).2 = -b.2:=rfl
   unfold dp at d
   have z':a.1 * b.2=a.2 * b.1:=by unfold xp at z;omega
   by_cases z1:a.1=0
   ·have a2:=up_second ha z1
    rw [z1,Int.zero_mul] at z'
    have b1:b.1=0:=by
     rcases Int.mul_eq_zero.1 z'.symm with h | h
     ·omega
     ·exact h
    have b2:=up_second hb (by omega)
    rw [z1,b1] at d
    have:=Int.mul_pos a2 (show 0 < -b.2 by omega)
    rw [Int.mul_neg] at this
    omega
   ·have a1:0 < a.1:=by omega
    have m1:=Int.mul_nonneg a0 (show 0≤-b.1 by omega)
    rw [Int.mul_neg] at m1
    have m2:0 < a.1 * (a.2 * b.2):=by
     have:=Int.mul_pos a1 (show 0 < a.2 * b.2 by omega)
     exact this
    have e:a.1 * (a.2 * b.2)=a.2 * a.2 * b.1:=by
     rw [show a.1 * (a.2 * b.2)=a.2 * (a.1 * b.2) by grind,z']
     grind
    rw [e] at m2
    have:=Int.mul_nonneg (sq_nonneg a.2) (show 0≤-b.1 by omega)
    rw [Int.mul_neg] at this
    omega
 have z':xp v u=0:=by rw [xp_swap];omega
 exact ⟨key nv z d,key nu z' (by rw [dp_comm];exact d)⟩
theorem opp {u v:Pt} (nu:nz u) (nv:nz v) (z:xp u v=0) (n:¬ (up u↔up v)):dp u v < 0:=by
 have h0:=xp_dp (nz_ne nu) (nz_ne nv) z
 rcases Int.lt_or_gt_of_ne h0 with h | h
 ·exact h
 ·exact absurd (par_same nu nv z h) n
theorem lag_zero {u v z:Pt} (nu:nz u) (h1:xp u v=0) (h2:xp u z=0):xp v z=0:=by
 have e:=lag u v z
 rw [h1,h2,Int.mul_zero,Int.zero_mul,Int.sub_zero] at e
 have:=dd_pos (nz_ne nu)
 rcases Int.mul_eq_zero.1 e with h | h
 ·omega
 ·exact h
theorem lag_neg {u v z:Pt} (nu:nz u) (h1:xp u v=0) (d:dp u v < 0) (h:0≤xp v z):xp u z≤0:=by
 have e:=lag u v z
 rw [h1,Int.zero_mul,Int.sub_zero] at e
 have g:=Int.mul_nonneg (Int.le_of_lt (dd_pos (nz_ne nu))) h
 rw [e] at g
 rcases Int.lt_or_le 0 (xp u z) with k | k
 ·have:=Int.mul_neg_of_neg_of_pos d k
  omega
 ·exact k
structure Ring (l L D:List Pt):Prop where
 len:L.length=D.length
 three:3≤D.length
 next:∀ k,k < D.length→at' L ((k+1) % D.length)=plus (at' L k) (at' D k)
 left:∀ k,k < D.length→∀ y,y ∈ l→0≤xp (at' D k) (sub y (at' L k))
 mem:∀ k,k < D.length→at' L k ∈ l
 srt:∀ {i j:Nat},i < j→j < D.length→lt (at' D i) (at' D j)
 nzs:∀ k,k < D.length→nz (at' D k)
theorem Ring.side {l L D:List Pt} (R:Ring l L D) {k:Nat} (hk:k < D.length):sub (at' L ((k+1) % D.length)) (at' L k)=at' D k:=sub_of_plus (R.next k hk)
theorem Ring.half {l L D:List Pt} (R:Ring l L D) {e f:Nat} (he:e < D.length) (hf:f < D.length) (hne:e ≠ f) (z:xp (at' D e) (at' D f)=0):¬ (up (at' D e)↔up (at' D f)):=by
 intro s
 have z':xp (at' D f) (at' D e)=0:=by rw [xp_swap];omega
 rcases Nat.lt_or_gt_of_ne hne with h | h
 ·rcases R.srt h hf with ⟨u,d⟩ | ⟨_,x⟩
  ·exact d (s.1 u)
  ·omega
 ·rcases R.srt h he with ⟨u,d⟩ | ⟨_,x⟩
  ·exact d (s.2 u)
  ·omega
theorem Ring.flat {l L D:List Pt} (R:Ring l L D) {e f:Nat} (he:e < D.length) (hf:f < D.length) (hne:e ≠ f) (z:xp (at' D e) (at' D f)=0) (h:xp (at' D e) (sub (at' L e) (at' L f))=0):False:=by
 have ne:=R.nzs e he
 have nf:=R.nzs f hf
 have n:=R.half he hf hne z
 have d:=opp ne nf z n
 have all:∀ m,m < D.length→xp (at' D e) (sub (at' L m) (at' L e))=0:=fun m hm => by
  have h1:=R.left e he _ (R.mem m hm)
  have h2:=lag_neg ne z d (R.left f hf _ (R.mem m hm))
  have h3:=xp_sub_add (at' D e) (at' L m) (at' L e) (at' L f)
  omega
 have par:∀ m,m < D.length→xp (at' D e) (at' D m)=0:=fun m hm => by
  rw [← R.side hm]
  have h1:=all m hm
  have h2:=all _ (nx_lt (n:=D.length) (i:=m) (by omega))
  have h3:=xp_sub_add (at' D e) (at' L ((m+1) % D.length)) (at' L m) (at' L e)
  omega
 obtain ⟨m,hm,m1,m2⟩:∃ m,m < D.length∧m ≠ e∧m ≠ f:=by
  have:=R.three
  by_cases h0:0 ≠ e∧0 ≠ f
  ·exact ⟨0,by omega,h0.1,h0.2⟩
  ·by_cases h1:1 ≠ e∧1 ≠ f
   ·exact ⟨1,by omega,h1.1,h1.2⟩
   ·exact ⟨2,by omega,by omega,by omega⟩
 have k1:=R.half he hm (Ne.symm m1) (par m hm)
 have k2:=R.half hf hm (Ne.symm m2) (lag_zero ne z (par m hm))
 by_cases a:up (at' D e) <;> by_cases b:up (at' D f) <;> by_cases c:up (at' D m) <;> simp [a,b,c] at n k1 k2
theorem Ring.turn {l L D:List Pt} (R:Ring l L D) {i:Nat} (hi:i < D.length):0 < xp (at' D (pv D.length i)) (at' D i):=by
 have h3:=R.three
 have hv:pv D.length i < D.length:=pv_lt (by omega)
 have e:=R.next _ hv
 rw [pv_next hi] at e
 have e1:sub (at' L i) (at' L (pv D.length i))=at' D (pv D.length i):=sub_of_plus e
 have h1:=R.left _ hv _ (R.mem _ (nx_lt (n:=D.length) (i:=i) (by omega)))
 rw [xp_sub_add _ _ (at' L i),R.side hi,e1,xp_self] at h1
 rcases Int.lt_or_le 0 (xp (at' D (pv D.length i)) (at' D i)) with g | g
 ·exact g
 ·refine (R.flat hv hi (fun e => by
   have:=pv_next hi
   rw [e] at this
   exact nx_ne (by omega) hi this) (by omega) ?_).elim
  have:=xp_neg (at' D (pv D.length i)) (at' L (pv D.length i)) (at' L i)
  rw [e1,xp_self] at this
  omega
theorem Ring.ne {l L D:List Pt} (R:Ring l L D) {i j:Nat} (hi:i < D.length) (hj:j < D.length) (hne:i ≠ j):at' L i ≠ at' L j:=by
 intro e
 have h3:=R.three
 have key:∀ a b,a < D.length→b < D.length→at' L a=at' L b→0≤xp (at' D a) (at' D b):=fun a b ha hb e => by
  have h1:=R.left a ha _ (R.mem _ (nx_lt (n:=D.length) (i:=b) (by omega)))
  rw [e,R.side hb] at h1
  exact h1
 have a:=key i j hi hj e
 have b:=key j i hj hi e.symm
 have s:=xp_swap (at' D i) (at' D j)
 exact R.flat hi hj hne (by omega) (by rw [e];unfold xp sub;grind)
theorem ring_hull {l L D:List Pt} (R:Ring l L D) (h0:∀ y,y ∈ l→y=at' L 0∨ls (at' L 0) y):IsHull l L:=by
 have h3:=R.three
 have len:=R.len
 have ln:L.length=D.length:=len
 refine hull_of_sides (by omega) (fun x hx => ?_) ?_ ?_ ?_ ?_
 ·obtain ⟨k,hk,rfl⟩:=mem_at hx
  exact R.mem k (by omega)
 ·intro i j hi hj hne
  exact R.ne (by omega) (by omega) hne
 ·intro i hi y hy
  rw [ln,cr_xp,R.side (by omega)]
  exact R.left i (by omega) y hy
 ·intro i hi
  rw [ln,cr_sides,R.side (by omega)]
  have hv:pv D.length i < D.length:=pv_lt (by omega)
  have e:=R.next _ hv
  rw [pv_next (show i < D.length by omega)] at e
  rw [sub_of_plus e]
  exact R.turn (by omega)
 ·intro i h1 hi
  rcases h0 _ (R.mem i (by omega)) with e | e
  ·exact absurd e (R.ne (by omega) (by omega) (by omega))
  ·exact e
theorem pg_least {p:List Pt} (hp:Pg p) {x:Pt} (hx:x ∈ p):x=at' p 0∨ls (at' p 0) x:=by
 obtain ⟨i,hi,rfl⟩:=mem_at hx
 by_cases e:i=0
 ·exact Or.inl (by rw [e])
 ·exact Or.inr (hp.2.1 i (by omega) hi)
theorem sums_least {p q:List Pt} (hp:Pg p) (hq:Pg q) {y:Pt} (hy:y ∈ sums p q):y=plus (at' p 0) (at' q 0)∨ls (plus (at' p 0) (at' q 0)) y:=by
 obtain ⟨a,ha,b,hb,rfl⟩:=mem_sums.1 hy
 have h1:=pg_least hp ha
 have h2:=pg_least hq hb
 generalize at' p 0=u at h1
 generalize at' q 0=v at h2
 rcases a with ⟨a1,a2⟩
 rcases b with ⟨b1,b2⟩
 rcases u with ⟨u1,u2⟩
 rcases v with ⟨v1,v2⟩
 unfold ls plus at *
 simp only [Prod.mk.injEq] at *
 omega
theorem two_sum {p q:List Pt} (hp:Pg p) (hq:Pg q) (lp:p.length=2) (lq:q.length=2) (z:xp (sd p 0) (sd q 0)=0):IsHull (sums p q) [plus (at' p 0) (at' q 0),plus (at' p 1) (at' q 1)]:=by
 have up1:=hp.2.1 1 (by omega) (by omega)
 have uq1:=hq.2.1 1 (by omega) (by omega)
 have ep:sd p 0=sub (at' p 1) (at' p 0):=by unfold sd;rw [lp]
 have eq:sd q 0=sub (at' q 1) (at' q 0):=by unfold sd;rw [lq]
 rw [ep,eq] at z
 have mp:∀ x,x ∈ p→x=at' p 0∨x=at' p 1:=fun x hx => by
  obtain ⟨i,hi,rfl⟩:=mem_at hx
  rcases (show i=0∨i=1 by omega) with rfl | rfl
  ·exact Or.inl rfl
  ·exact Or.inr rfl
 have mq:∀ x,x ∈ q→x=at' q 0∨x=at' q 1:=fun x hx => by
  obtain ⟨i,hi,rfl⟩:=mem_at hx
  rcases (show i=0∨i=1 by omega) with rfl | rfl
  ·exact Or.inl rfl
  ·exact Or.inr rfl
 have p0:at' p 0 ∈ p:=at_mem (by omega)
 have p1:at' p 1 ∈ p:=at_mem (by omega)
 have q0:at' q 0 ∈ q:=at_mem (by omega)
 have q1:at' q 1 ∈ q:=at_mem (by omega)
 have hlen:[plus (at' p 0) (at' q 0),plus (at' p 1) (at' q 1)].length=2:=rfl
 refine ⟨⟨by rw [hlen];omega,fun i h1 h2 => ?_,fun h => absurd h (by rw [hlen];omega)⟩,fun x hx => ?_,fun x hx => ?_⟩
 ·rw [hlen] at h2
  obtain rfl:i=1:=by omega
  show ls (plus (at' p 0) (at' q 0)) (plus (at' p 1) (at' q 1))
  unfold ls plus at *
  simp only at *
  omega
 ·rcases List.mem_cons.1 hx with rfl | hx
  ·exact sums_mem p0 q0
  ·obtain rfl:=List.mem_singleton.1 hx
   exact sums_mem p1 q1
 ·obtain ⟨a,ha,b,hb,rfl⟩:=mem_sums.1 hx
  unfold Hs
  rw [if_neg (by rw [hlen];omega),if_pos hlen]
  show cr (plus (at' p 0) (at' q 0)) (plus (at' p 1) (at' q 1)) (plus a b)=0∧btw (plus (at' p 0) (at' q 0)) (plus (at' p 1) (at' q 1)) (plus a b)
  have ha:=mp a ha
  have hb:=mq b hb
  generalize at' p 0=A at *
  generalize at' p 1=B at *
  generalize at' q 0=C at *
  generalize at' q 1=E at *
  have zz:(B.1 - A.1) * (E.2 - C.2)=(B.2 - A.2) * (E.1 - C.1):=by unfold xp sub at z;simp only at z;omega
  have same:(0≤B.2 - A.2∧0≤E.2 - C.2)∨(B.2 - A.2≤0∧E.2 - C.2≤0):=by
   unfold ls at up1 uq1
   by_cases g1:B.2 - A.2 < 0
   ·by_cases g2:E.2 - C.2≤0
    ·omega
    ·exfalso
     have m1:=Int.mul_pos (show 0 < B.1 - A.1 by omega) (show 0 < E.2 - C.2 by omega)
     have m2:=Int.mul_nonneg (show 0≤-(B.2 - A.2) by omega) (show 0≤E.1 - C.1 by omega)
     rw [Int.neg_mul] at m2
     omega
   ·by_cases g2:E.2 - C.2 < 0
    ·by_cases g3:B.2 - A.2=0
     ·omega
     ·exfalso
      have m1:=Int.mul_pos (show 0 < B.2 - A.2 by omega) (show 0 < E.1 - C.1 by omega)
      have m2:=Int.mul_nonneg (show 0≤B.1 - A.1 by omega) (show 0≤-(E.2 - C.2) by omega)
      rw [Int.mul_neg] at m2
      omega
    ·omega
  have x1:0≤B.1 - A.1:=by unfold ls at up1;omega
  have x2:0≤E.1 - C.1:=by unfold ls at uq1;omega
  rcases ha with rfl | rfl <;> rcases hb with rfl | rfl <;> refine ⟨by unfold cr plus;grind,?_⟩ <;> unfold btw plus <;> simp only <;> omega
theorem merge_hull {p q:List Pt} (hp:Vl p) (hq:Vl q) (p2:2≤p.length) (q2:2≤q.length):IsHull (sums p q) (cs (plus (at' p 0) (at' q 0)) (mg (rs p 0 p.length) (rs q 0 q.length))):=by
 have G:=merged hp hq p2 q2 (p.length+q.length) p.length q.length 0 0 (Nat.le_refl _) (Nat.zero_add _) (Nat.zero_add _) (fun h => absurd h (by omega)) (fun h => absurd h (by omega))
 have ML:=mg_len (p.length+q.length) (rs p 0 p.length) (rs q 0 q.length) (by rw [rs_len,rs_len];exact Nat.le_refl _)
 rw [rs_len,rs_len] at ML
 obtain ⟨D,hD⟩:∃ D,mg (rs p 0 p.length) (rs q 0 q.length)=D:=⟨_,rfl⟩
 have e0:plus (ad p 0) (ad q 0)=plus (at' p 0) (at' q 0):=by unfold ad;rw [Nat.zero_mod,Nat.zero_mod]
 obtain ⟨_,srt,nzs,cor⟩:=G
 rw [e0] at cor
 rw [hD] at srt nzs cor ML ⊢
 by_cases h3:3≤D.length
 ·have R:Ring (sums p q) (cs (plus (at' p 0) (at' q 0)) D) D:=by
   refine ⟨cs_len _ _,h3,fun k hk => ?_,fun k hk y hy => ?_,fun k hk => ?_,fun {i j} h1 h2 => srt_at srt h1 h2,fun k hk => nzs _ (at_mem hk)⟩
   ·by_cases e:k+1 < D.length
    ·rw [Nat.mod_eq_of_lt e]
     exact cs_next D _ k e
    ·have ek:k=D.length - 1:=by omega
     rw [show k+1=D.length by omega,Nat.mod_self,ek,cor_last D _ cor (by omega)]
     cases D with
     | nil => simp at h3
     | cons d D => rfl
   ·obtain ⟨x,hx,z,hz,e,g1,g2⟩:=cor_at D _ cor k hk
    obtain ⟨a,ha,b,hb,rfl⟩:=mem_sums.1 hy
    rw [e,sub_plus,xp_plus_r]
    have:=g1 a ha
    have:=g2 b hb
    omega
   ·obtain ⟨x,hx,z,hz,e,_⟩:=cor_at D _ cor k hk
    rw [e]
    exact sums_mem hx hz
  refine ring_hull R (fun y hy => ?_)
  have e1:at' (cs (plus (at' p 0) (at' q 0)) D) 0=plus (at' p 0) (at' q 0):=by
   cases D with
   | nil => simp at h3
   | cons d D => rfl
  rw [e1]
  exact sums_least hp.pg hq.pg hy
 ·have lp:p.length=2:=by omega
  have lq:q.length=2:=by omega
  have ep:rs p 0 p.length=[sd p 0,sd p 1]:=by rw [lp];rfl
  have eq:rs q 0 q.length=[sd q 0,sd q 1]:=by rw [lq];rfl
  rw [ep,eq] at hD
  have z:xp (sd p 0) (sd q 0)=0:=by
   rcases Int.lt_trichotomy (xp (sd p 0) (sd q 0)) 0 with c | c | c
   ·exfalso
    rw [mg_gt c] at hD
    have:=mg_len 3 [sd p 0,sd p 1] [sd q 1] (by simp)
    rw [← hD] at h3
    simp only [List.length_cons,List.length_nil] at this h3
    omega
   ·exact c
   ·exfalso
    rw [mg_lt c] at hD
    have:=mg_len 3 [sd p 1] [sd q 0,sd q 1] (by simp)
    rw [← hD] at h3
    simp only [List.length_cons,List.length_nil] at this h3
    omega
  have T:=two_sum hp.pg hq.pg lp lq z
  have s1:sd p 1=sub (at' p 0) (at' p 1):=by unfold sd;rw [lp]
  have s2:sd q 1=sub (at' q 0) (at' q 1):=by unfold sd;rw [lq]
  have t1:sd p 0=sub (at' p 1) (at' p 0):=by unfold sd;rw [lp]
  have t2:sd q 0=sub (at' q 1) (at' q 0):=by unfold sd;rw [lq]
  have z2:xp (sd p 1) (sd q 1)=0:=by
   rw [s1,s2]
   rw [t1,t2] at z
   unfold xp sub at *
   grind
  have e2:D=[plus (sd p 0) (sd q 0),plus (sd p 1) (sd q 1)]:=by
   rw [← hD,mg_eq z,mg_eq z2,mg_nil_l]
  have e3:plus (plus (at' p 0) (at' q 0)) (plus (sd p 0) (sd q 0))=plus (at' p 1) (at' q 1):=by
   rw [t1,t2]
   unfold plus sub
   exact Prod.ext (by simp only;omega) (by simp only;omega)
  rw [e2]
  show IsHull _ [_,plus (plus (at' p 0) (at' q 0)) (plus (sd p 0) (sd q 0))]
  rw [e3]
  exact T
theorem plus_zero (x:Pt):plus x (0,0)=x:=by unfold plus;simp
theorem zero_plus (x:Pt):plus (0,0) x=x:=by unfold plus;simp
theorem xp_zero (x:Pt):xp x (0,0)=0:=by unfold xp;simp
theorem zero_xp (x:Pt):xp (0,0) x=0:=by unfold xp;simp
theorem rs_one {p:List Pt} (h:p.length=1):rs p 0 p.length=[(0,0)]:=by
 rw [h]
 show [sd p 0]=_
 unfold sd sub
 rw [h]
 simp
theorem cs_sides {p:List Pt} (z:Pt):∀ k i,i+k=p.length→cs (plus (at' p i) z) (rs p i k)=(p.drop i).map fun x => plus x z
 | 0,i,h => by
   rw [rs,List.drop_of_length_le (by omega)]
   rfl
 | k+1,i,h => by
   have hi:i < p.length:=by omega
   have e:at' p i=p[i]:=by unfold at';simp [hi]
   rw [rs,cs,List.drop_eq_getElem_cons hi,List.map_cons,← e]
   congr 1
   by_cases hk:k=0
   ·rw [hk,rs,List.drop_of_length_le (by omega)]
    rfl
   ·have hs:plus (plus (at' p i) z) (sd p i)=plus (at' p (i+1)) z:=by
     unfold sd
     rw [Nat.mod_eq_of_lt (show i+1 < p.length by omega)]
     unfold plus sub
     exact Prod.ext (by simp only;omega) (by simp only;omega)
    rw [hs]
    exact cs_sides z k (i+1) (by omega)
def msum (p q:List Pt):List Pt:=cs (plus (at' p 0) (at' q 0)) (mg (rs p 0 p.length) (rs q 0 q.length))
theorem one_list {p:List Pt} (h:p.length=1):p=[at' p 0]:=by
 cases p with
 | nil => cases h
 | cons x p =>
   cases p with
   | nil => rfl
   | cons y p => simp at h
theorem mg_zero_r {a:List Pt} (h:1≤a.length):mg a [(0,0)]=a:=by
 cases a with
 | nil => simp at h
 | cons x a => rw [mg_eq (xp_zero x),plus_zero,mg_nil_r]
theorem mg_zero_l {a:List Pt} (h:1≤a.length):mg [(0,0)] a=a:=by
 cases a with
 | nil => simp at h
 | cons x a => rw [mg_eq (zero_xp x),zero_plus,mg_nil_l]
theorem msum_hull {p q:List Pt} (hp:Vl p) (hq:Vl q):IsHull (sums p q) (msum p q):=by
 have lp:=hp.1.1
 have lq:=hq.1.1
 unfold msum
 by_cases q1:q.length=1
 ·have e:=shift_sum hp.pg (at' q 0)
  rw [← one_list q1] at e
  rw [rs_one q1,mg_zero_r (by rw [rs_len];exact lp),cs_sides _ _ 0 (Nat.zero_add _)]
  exact e
 ·by_cases p1:p.length=1
  ·have e:=sum_comm (shift_sum hq.pg (at' p 0))
   rw [← one_list p1] at e
   rw [rs_one p1,mg_zero_l (by rw [rs_len];exact lq),plus_comm,cs_sides _ _ 0 (Nat.zero_add _)]
   exact e
  ·exact merge_hull hp hq (by omega) (by omega)
end Mk
end Go.Proofs.YtlookcbokhknfaaGreat
namespace Go.Proofs.YtlookcbokhknfaaGreat
open Hl
namespace Mk
theorem up_to (g:Nat→Int):∀ n:Nat,∃ N:Int,0≤N∧∀ l,l < n→g l≤N
 | 0 => ⟨0,by omega,fun l h => by omega⟩
 | n+1 => by
   obtain ⟨N,h0,h⟩:=up_to g n
   by_cases c:g n≤N
   ·exact ⟨N,h0,fun l hl => by
     rcases (show l < n∨l=n by omega) with h1 | rfl
     ·exact h l h1
     ·exact c⟩
   ·exact ⟨g n,by omega,fun l hl => by
     rcases (show l < n∨l=n by omega) with h1 | rfl
     ·have:=h l h1
      omega
     ·omega⟩
theorem hs_strict {t:List Pt} (ht:Pg t) {i:Nat} {u v k:Int} (hst:∀ j,j < t.length→j ≠ i→af u v k (at' t i) < af u v k (at' t j)) {y:Pt} (hy:Hs t y) (hle:af u v k y≤af u v k (at' t i)):y=at' t i:=by
 by_cases hne:y=at' t i
 ·exact hne
 ·exfalso
  obtain ⟨x,hx⟩:∃ x,at' t i=x:=⟨_,rfl⟩
  rw [hx] at hst hle hne
  obtain ⟨a,ha⟩:∃ a,x.1 - y.1=a:=⟨_,rfl⟩
  obtain ⟨b,hb⟩:∃ b,x.2 - y.2=b:=⟨_,rfl⟩
  have pos:0 < a * a+b * b:=by
   by_cases ea:a=0
   ·have eb:b ≠ 0:=fun eb => hne (Prod.ext (by omega) (by omega))
    have:=sq_pos eb
    have:=sq_nonneg a
    omega
   ·have:=sq_pos ea
    have:=sq_nonneg b
    omega
  have dif:(a * x.1+b * x.2) - (a * y.1+b * y.2)=a * a+b * b:=by
   rw [← ha,← hb]
   grind
  obtain ⟨N,N0,hN⟩:=up_to (fun l => (a * x.1+b * x.2) - (a * (at' t l).1+b * (at' t l).2)) t.length
  obtain ⟨l,hl,e⟩:=hs_least ht hy (N * u+a) (N * v+b) 0
  have hNl:=hN l hl
  unfold af at hst hle e
  have e1:∀ z:Pt,(N * u+a) * z.1+(N * v+b) * z.2+0=N * (u * z.1+v * z.2)+(a * z.1+b * z.2):=fun z => by grind
  rw [e1,e1] at e
  by_cases hli:l=i
  ·rw [hli,hx] at e
   have:=Int.mul_le_mul_of_nonneg_left (show u * y.1+v * y.2≤u * x.1+v * x.2 by omega) N0
   omega
  ·have h1:=hst l hl hli
   have h2:=Int.mul_le_mul_of_nonneg_left (show u * y.1+v * y.2≤u * x.1+v * x.2 by omega) N0
   have h3:=Int.mul_le_mul_of_nonneg_left (show u * x.1+v * x.2+1≤u * (at' t l).1+v * (at' t l).2 by omega) N0
   rw [Int.mul_add,Int.mul_one] at h3
   omega
theorem octL_split {a b c d s t i j a' b' c' d' s' t' i' j':Int} {y:Pt} (hy:y ∈ octL (a+a') (b+b') (c+c') (d+d') (s+s') (t+t') (i+i') (j+j')):∃ x,x ∈ octL a b c d s t i j∧∃ z,z ∈ octL a' b' c' d' s' t' i' j'∧plus x z=y:=by
 unfold octL at hy
 simp only [List.mem_cons,List.not_mem_nil,or_false] at hy
 rcases hy with rfl | rfl | rfl | rfl | rfl | rfl | rfl | rfl
 ·exact ⟨(b,b - j),by simp [octL],(b',b' - j'),by simp [octL],Prod.ext (by simp only [plus]) (by simp only [plus];omega)⟩
 ·exact ⟨(b,t - b),by simp [octL],(b',t' - b'),by simp [octL],Prod.ext (by simp only [plus]) (by simp only [plus];omega)⟩
 ·exact ⟨(t - d,d),by simp [octL],(t' - d',d'),by simp [octL],Prod.ext (by simp only [plus];omega) (by simp only [plus])⟩
 ·exact ⟨(d+i,d),by simp [octL],(d'+i',d'),by simp [octL],Prod.ext (by simp only [plus];omega) (by simp only [plus])⟩
 ·exact ⟨(a,a - i),by simp [octL],(a',a' - i'),by simp [octL],Prod.ext (by simp only [plus]) (by simp only [plus];omega)⟩
 ·exact ⟨(a,s - a),by simp [octL],(a',s' - a'),by simp [octL],Prod.ext (by simp only [plus]) (by simp only [plus];omega)⟩
 ·exact ⟨(s - c,c),by simp [octL],(s' - c',c'),by simp [octL],Prod.ext (by simp only [plus];omega) (by simp only [plus])⟩
 ·exact ⟨(c+j,c),by simp [octL],(c'+j',c'),by simp [octL],Prod.ext (by simp only [plus];omega) (by simp only [plus])⟩
theorem keeps_plus {a b c d s t i j a' b' c' d' s' t' i' j':Int} {x z:Pt} (h:Keeps a b c d s t i j x) (h':Keeps a' b' c' d' s' t' i' j' z):Keeps (a+a') (b+b') (c+c') (d+d') (s+s') (t+t') (i+i') (j+j') (plus x z):=by
 unfold Keeps plus at *
 simp only
 omega
theorem oct_sum {p q p8 q8 s r:List Pt} (hp:IsOct p p8) (hq:IsOct q q8) (hs:IsHull (sums p q) s) (hr:IsHull (sums p8 q8) r):IsOct s r:=by
 obtain ⟨a,b,c,d,m,n,i,j,h1,h2,h3,h4,h5,h6,h7,h8,hp8⟩:=hp
 obtain ⟨a',b',c',d',m',n',i',j',g1,g2,g3,g4,g5,g6,g7,g8,hq8⟩:=hq
 have neg2:∀ x y:Int,-x+-y = -(x+y):=fun x y => by omega
 refine ⟨a+a',b+b',c+c',d+d',m+m',n+n',i+i',j+j',min_sum hs h1 g1,by rw [← neg2];exact min_sum hs h2 g2,min_sum hs h3 g3,by rw [← neg2];exact min_sum hs h4 g4,min_sum hs h5 g5,by rw [← neg2];exact min_sum hs h6 g6,min_sum hs h7 g7,by rw [← neg2];exact min_sum hs h8 g8,?_⟩
 have O:=oct_keeps (bd_of h1 h2 h3 h4 h5 h6 h7 h8).1
 have O':=oct_keeps (bd_of g1 g2 g3 g4 g5 g6 g7 g8).1
 have all:∀ y,y ∈ octL (a+a') (b+b') (c+c') (d+d') (m+m') (n+n') (i+i') (j+j')→Hs r y:=fun y hy => by
  obtain ⟨x,hx,z,hz,rfl⟩:=octL_split hy
  exact sum_has hp8.1 hq8.1 hr (hp8.2.2 x hx) (hq8.2.2 z hz)
 refine ⟨hr.1,fun x hx => ?_,all⟩
 obtain ⟨l,hl,rfl⟩:=mem_at hx
 obtain ⟨u,v,k,hst⟩:=corner_strict hr.1 hl
 obtain ⟨x1,hx1,x2,hx2,e⟩:=mem_sums.1 (hr.2.1 _ hx)
 have K:=keeps_plus (O x1 (hp8.2.1 _ hx1)) (O' x2 (hq8.2.1 _ hx2))
 rw [e] at K
 obtain ⟨y,hy,hle⟩:=oct_least K u v k
 rw [← hs_strict hr.1 hst (all y hy) hle]
 exact hy
theorem oct_plcs {s r:List Pt} (h:IsOct s r):Plcs s↔Plcs r:=by
 obtain ⟨a,b,c,d,m,n,i,j,h1,h2,h3,h4,h5,h6,h7,h8,hr⟩:=h
 obtain ⟨B,K⟩:=bd_of h1 h2 h3 h4 h5 h6 h7 h8
 obtain ⟨m1,m2,m3,m4,_⟩:=oct_min B hr
 have key:∀ {x y:List Pt},IsMin x 1 0 a→IsMin x (-1) 0 (-b)→IsMin x 0 1 c→IsMin x 0 (-1) (-d)→IsMin y 1 0 a→IsMin y (-1) 0 (-b)→IsMin y 0 1 c→IsMin y 0 (-1) (-d)→Plcs x→Plcs y:=fun {x y} h1 h2 h3 h4 k1 k2 k3 k4 hx l hl => by
  obtain ⟨y1,g1,e1⟩:=h1.1
  obtain ⟨y2,g2,e2⟩:=h2.1
  obtain ⟨y3,g3,e3⟩:=h3.1
  obtain ⟨y4,g4,e4⟩:=h4.1
  obtain ⟨n1,l1,r1⟩:=mem_at g1
  obtain ⟨n2,l2,r2⟩:=mem_at g2
  obtain ⟨n3,l3,r3⟩:=mem_at g3
  obtain ⟨n4,l4,r4⟩:=mem_at g4
  have p1:=hx n1 l1
  have p2:=hx n2 l2
  have p3:=hx n3 l3
  have p4:=hx n4 l4
  rw [r1] at p1
  rw [r2] at p2
  rw [r3] at p3
  rw [r4] at p4
  have q1:=k1.2 _ (at_mem hl)
  have q2:=k2.2 _ (at_mem hl)
  have q3:=k3.2 _ (at_mem hl)
  have q4:=k4.2 _ (at_mem hl)
  unfold Plc at p1 p2 p3 p4 ⊢
  omega
 exact ⟨key h1 h2 h3 h4 m1 m2 m3 m4,key m1 m2 m3 m4 h1 h2 h3 h4⟩
end Mk
end Go.Proofs.YtlookcbokhknfaaGreat
