/-
  Bearings, without a program: which places see a beacon, what half-planes leave of single places.
  What package ring owes, and what it needs.
  The examples at the head of the statements about layer 10, without a program.
-/
import Derived.Test.YtbpgfenippiepaaGreatDoorHullFrame
import Derived.Test.YtbpgfenippiepaaGreatDoorHullIn
import Derived.Test.YtbpgfenippiepaaGreatDoorRegCon
namespace Go.Proofs.YtbpgfenippiepaaGreatDoor
open Hl Rg
open Ct (Hf ov LeftS Poly WF)
namespace Rn
def Sees (y x:Pt) (a n:Nat):Prop:=dif x y=(0,0)∨Ry.Lies a n (dif x y)
instance (y x:Pt) (a n:Nat):Decidable (Sees y x a n):=by unfold Sees;infer_instance
def H1 (x:Pt) (a:Nat):Hf:=(-(Ry.dir a).2,(Ry.dir a).1,-(Ry.dir a).2 * x.1+(Ry.dir a).1 * x.2)
def H2 (x:Pt) (b:Nat):Hf:=((Ry.dir b).2,-(Ry.dir b).1,(Ry.dir b).2 * x.1+-(Ry.dir b).1 * x.2)
def H3 (x:Pt) (a:Nat):Hf:=((Ry.dir a).1,(Ry.dir a).2,(Ry.dir a).1 * x.1+(Ry.dir a).2 * x.2)
theorem ov_1 (x y:Pt) (a:Nat):ov (H1 x a) y = -(Ry.sd a (dif x y)):=by unfold ov H1 Ry.sd Ry.xc dif;simp only;grind
theorem ov_2 (x y:Pt) (b:Nat):ov (H2 x b) y=Ry.sd b (dif x y):=by unfold ov H2 Ry.sd Ry.xc dif;simp only;grind
theorem ov_3 (x y:Pt) (a:Nat):ov (H3 x a) y = -(Ry.dd (Ry.dir a) (dif x y)):=by unfold ov H3 Ry.dd dif;simp only;grind
theorem sd_none (k:Nat):Ry.sd k (0,0)=0:=by unfold Ry.sd Ry.xc;simp
theorem dd_none (k:Nat):Ry.dd (Ry.dir k) (0,0)=0:=by unfold Ry.dd;simp
theorem sees_iff {y x:Pt} {a n:Nat} (ha:a < 64) (hn:n≤31):Sees y x a n↔(ov (H1 x a) y≤0∧ov (H2 x (a+n)) y≤0∧(n=0→ov (H3 x a) y≤0)):=by
 rw [ov_1,ov_2,ov_3]
 unfold Sees
 generalize dif x y=v
 have e0:=Ry.sd_turned a v
 have case:Ry.On a v→Ry.sd a v=0∧0 < Ry.dd (Ry.dir a) v:=fun h => ⟨h.1,by have:=h.2;omega⟩
 constructor
 ·intro h
  by_cases hv:v=(0,0)
  ·subst hv
   rw [sd_none,sd_none,dd_none]
   omega
  ·replace h:=h.resolve_left hv
   by_cases n0:n=0
   ·subst n0
    rcases h with h | h
    ·have:=case h
     exact ⟨by omega,by rw [Nat.add_zero];omega,fun _ => by omega⟩
    ·omega
   ·obtain ⟨k,f⟩:=Ry.found hv
    have:=f.cone ha hn (by omega) h
    exact ⟨by omega,by omega,fun e => absurd e n0⟩
 ·rintro ⟨h1,h2,h3⟩
  by_cases n0:n=0
  ·subst n0
   have h3:=h3 rfl
   rw [Nat.add_zero] at h2
   have z:Ry.sd a v=0:=by omega
   by_cases d0:Ry.dd (Ry.dir a) v=0
   ·left
    have l:=Ry.lag (Ry.dir a) v
    unfold Ry.sd at z
    rw [z,d0] at l
    have g:=(Ry.dir_dd (k:=a) (by omega)).1
    have k:=Ry.dd_nonneg v
    have vv:Ry.dd v v=0:=by
     rcases Int.mul_eq_zero.1 (show Ry.dd (Ry.dir a) (Ry.dir a) * Ry.dd v v=0 by omega) with e | e
     ·omega
     ·exact e
    have s1:=Ry.sq0 v.1
    have s2:=Ry.sq0 v.2
    unfold Ry.dd at vv
    exact Prod.ext (sq_zero (by omega)) (sq_zero (by omega))
   ·exact Or.inr (Or.inl ⟨z,by omega⟩)
  ·exact Or.inr (Or.inr ⟨by omega,by omega,by omega⟩)
theorem sees_more {y x:Pt} {a n m:Nat} (ha:a < 64) (hm:m≤31) (h:n≤m) (s:Sees y x a n):Sees y x a m:=by
 rcases s with s | s
 ·exact Or.inl s
 ·by_cases hv:dif x y=(0,0)
  ·exact Or.inl hv
  ·obtain ⟨k,f⟩:=Ry.found hv
   refine Or.inr ((f.lies_iff ha hm).2 ?_)
   have:=(f.lies_iff ha (by omega)).1 s
   by_cases e:n=m
   ·subst e;exact this
   ·left;omega
theorem dir_zero {k:Nat} (hk:k < 128):¬ ((Ry.dir k).1=0∧(Ry.dir k).2=0):=fun ⟨a,b⟩ => by
 have:=(Ry.dir_dd hk).1
 unfold Ry.dd at this
 rw [a,b] at this
 omega
def CutR (L:Rgn) (h:Hf) (r:Rgn):Prop:=∃ c,CutC L h c∧TidyIs c r
theorem CutR.one {L:Rgn} {h:Hf} {r r':Rgn} (g:CutR L h r) (k:CutR L h r'):r=r':=by
 obtain ⟨c,hc,t⟩:=g
 obtain ⟨c',hc',t'⟩:=k
 rw [hc.one hc'] at t
 exact tidy_one t t'
theorem CutR.vl {L:Rgn} {h:Hf} {r:Rgn} (g:CutR L h r) (hL:AllV L):VlR r:=by
 obtain ⟨c,hc,t⟩:=g
 exact tidy_vl (cut_vl hL hc) t
theorem CutR.has {L:Rgn} {h:Hf} {r:Rgn} (g:CutR L h r) (hL:AllV L) {y:Pt} (hy:InR L y) (ho:ov h y≤0):InR r y:=by
 obtain ⟨c,hc,t⟩:=g
 exact tidy_has (cut_vl hL hc) t (cut_has hL hc hy ho)
def Ones (L:Rgn):Prop:=∀ p,p ∈ L→∃ z,p=[z]
theorem one_hs {z y:Pt}:Hs [z] y↔z=y:=by rw [hs1 rfl];rfl
theorem ones_in {L:Rgn} (h:Ones L) {y:Pt}:InR L y↔[y] ∈ L:=by
 constructor
 ·rintro ⟨p,hp,hy⟩
  obtain ⟨z,rfl⟩:=h p hp
  rw [← one_hs.1 hy]
  exact hp
 ·intro h
  exact ⟨_,h,one_hs.2 rfl⟩
theorem left_one {z y:Pt} {h:Hf} (hy:LeftS [z] h y):y=z∧ov h z≤0:=by
 rcases hy with ⟨i,hi,e,ho⟩ | ⟨i,hi,f⟩
 ·have:i=0:=by simp at hi;omega
  subst this
  have e:z=y:=e
  subst e
  exact ⟨rfl,ho⟩
 ·have:i=0:=by simp at hi;omega
  subst this
  have:=f.df
  unfold Ct.Df at this
  have e:(0+1) % [z].length=0:=by simp
  rw [e] at this
  omega
theorem poly_one_is {S:Pt→Prop} {q:List Pt} {z:Pt} (h:Poly S q) (hS:∀ y,S y→y=z):q=[z]:=by
 obtain ⟨l,q0,e,hq,k⟩:=h
 have hl:∀ y,y ∈ q0→y=z:=fun y hy => hS y ((e y).1 (hq.2.1 y hy))
 have n1:=hq.1.1
 have e1:q0.length=1:=by
  by_cases c:q0.length=1
  ·exact c
  ·have a:=hl _ (at_mem (i:=0) (p:=q0) (by omega))
   have b:=hl _ (at_mem (i:=1) (p:=q0) (by omega))
   exact absurd (a.trans b.symm) (pg_distinct hq.1 (by omega) (by omega) (by omega))
 have e2:q0=[z]:=by
  obtain ⟨x,rfl⟩:=List.length_eq_one_iff.1 e1
  rw [hl x (by simp)]
 rcases k with ⟨_,rfl⟩ | ⟨k,_⟩
 ·exact e2
 ·omega
theorem cutr_ones {L:Rgn} {h:Hf} {r:Rgn} (hl:L.length≤32) (o:Ones L) (g:CutR L h r):(∀ p,p ∈ r→p ∈ L)∧(∀ z,[z] ∈ r→ov h z≤0)∧r.length≤32∧Ones r:=by
 obtain ⟨c,hc,t⟩:=g
 have len:=cut_len hc
 have hr:=tidy_same (by omega) t
 have key:∀ p,p ∈ r→∃ z,p=[z]∧p ∈ L∧ov h z≤0:=fun p hp => by
  rw [hr] at hp
  obtain ⟨i,s,hi,hs,hp⟩:=Col.mem hc (kept_sub hp)
  have hin:=nth_mem hi
  obtain ⟨z,ez⟩:=o _ hin
  rw [ez] at hs hin
  rcases hs with ⟨q,hq,rfl⟩ | ⟨_,rfl⟩
  ·obtain ⟨y,hy⟩:=hq.some
   have:=poly_one_is hq (fun y hy => (left_one hy).1)
   rw [List.mem_singleton.1 hp,this]
   exact ⟨z,rfl,hin,(left_one hy).2⟩
  ·cases hp
 refine ⟨fun p hp => ?_,fun z hz => ?_,by have:=tidy_len t;omega,fun p hp => ?_⟩
 ·obtain ⟨z,_,h,_⟩:=key p hp;exact h
 ·obtain ⟨z',e,_,h⟩:=key _ hz
  injection e with e _
  rw [e];exact h
 ·obtain ⟨z,e,_⟩:=key p hp;exact ⟨z,e⟩
def WedC (L:Rgn) (x:Pt) (a n:Nat) (r:Rgn):Prop:=∃ r1 r2,CutR L (H1 x a) r1∧CutR r1 (H2 x (a+n)) r2∧((n ≠ 0∧r=r2)∨(n=0∧CutR r2 (H3 x a) r))
def WedOk (L:Rgn) (x:Pt) (a n:Int):Prop:=(VlR L∧Plc x)∧(0≤a∧a≤63)∧0≤n∧n≤31
def WedP (L:Rgn) (x:Pt) (a n:Int) (k:Int) (r:Rgn):Prop:=(¬ WedOk L x a n∧k=1∧r=[])∨(WedOk L x a n∧k=0∧WedC L x a.toNat n.toNat r)
theorem WedC.one {L:Rgn} {x:Pt} {a n:Nat} {r r':Rgn} (h:WedC L x a n r) (g:WedC L x a n r'):r=r':=by
 obtain ⟨r1,r2,h1,h2,h3⟩:=h
 obtain ⟨s1,s2,g1,g2,g3⟩:=g
 obtain rfl:=h1.one g1
 obtain rfl:=h2.one g2
 rcases h3 with ⟨_,rfl⟩ | ⟨z,h3⟩ <;> rcases g3 with ⟨_,rfl⟩ | ⟨z',g3⟩
 ·rfl
 ·omega
 ·omega
 ·exact h3.one g3
theorem WedP.one {L:Rgn} {x:Pt} {a n k k':Int} {r r':Rgn} (h:WedP L x a n k r) (g:WedP L x a n k' r'):k=k'∧r=r':=by
 rcases h with ⟨b,rfl,rfl⟩ | ⟨b,rfl,h⟩ <;> rcases g with ⟨b',rfl,rfl⟩ | ⟨b',rfl,g⟩
 ·exact ⟨rfl,rfl⟩
 ·exact absurd b' b
 ·exact absurd b b'
 ·exact ⟨rfl,h.one g⟩
theorem WedC.vl {L:Rgn} {x:Pt} {a n:Nat} {r:Rgn} (hL:AllV L) (h:WedC L x a n r):VlR r:=by
 obtain ⟨r1,r2,h1,h2,h3⟩:=h
 have v1:=(h1.vl hL).2
 have v2:=h2.vl v1
 rcases h3 with ⟨_,rfl⟩ | ⟨_,h3⟩
 ·exact v2
 ·exact h3.vl v2.2
theorem WedC.has {L:Rgn} {x:Pt} {a n:Nat} {r:Rgn} (ha:a < 64) (hn:n≤31) (hL:AllV L) (h:WedC L x a n r) {y:Pt} (hy:InR L y) (s:Sees y x a n):InR r y:=by
 obtain ⟨o1,o2,o3⟩:=(sees_iff ha hn).1 s
 obtain ⟨r1,r2,h1,h2,h3⟩:=h
 have v1:=(h1.vl hL).2
 have v2:=(h2.vl v1).2
 have i2:=h2.has v1 (h1.has hL hy o1) o2
 rcases h3 with ⟨_,rfl⟩ | ⟨z,h3⟩
 ·exact i2
 ·exact h3.has v2 i2 (o3 z)
theorem WedC.only {L:Rgn} {x:Pt} {a n:Nat} {r:Rgn} (ha:a < 64) (hn:n≤31) (hl:L.length≤32) (o:Ones L) (h:WedC L x a n r) {y:Pt} (hy:InR r y):InR L y∧Sees y x a n:=by
 obtain ⟨r1,r2,h1,h2,h3⟩:=h
 obtain ⟨a1,a2,a3,a4⟩:=cutr_ones hl o h1
 obtain ⟨b1,b2,b3,b4⟩:=cutr_ones a3 a4 h2
 have fin:[y] ∈ r2→(n=0→ov (H3 x a) y≤0)→InR L y∧Sees y x a n:=fun h e =>
  ⟨(ones_in o).2 (a1 _ (b1 _ h)),(sees_iff ha hn).2 ⟨a2 _ (b1 _ h),b2 _ h,e⟩⟩
 rcases h3 with ⟨z,rfl⟩ | ⟨z,h3⟩
 ·exact fin ((ones_in b4).1 hy) (fun e => absurd e z)
 ·obtain ⟨c1,c2,c3,c4⟩:=cutr_ones b3 b4 h3
  have hy:=(ones_in c4).1 hy
  exact fin (c1 _ hy) (fun _ => c2 _ hy)
def sing (l:List Pt):Rgn:=l.map fun z => [z]
theorem sing_ones (l:List Pt):Ones (sing l):=fun p hp => by
 obtain ⟨z,_,e⟩:=List.mem_map.1 hp
 exact ⟨z,e.symm⟩
theorem sing_in {l:List Pt} {y:Pt}:InR (sing l) y↔y ∈ l:=by
 rw [ones_in (sing_ones l)]
 unfold sing
 rw [List.mem_map]
 constructor
 ·rintro ⟨z,hz,e⟩
  injection e with e _
  rw [← e];exact hz
 ·intro h
  exact ⟨y,h,rfl⟩
theorem sing_len (l:List Pt):(sing l).length=l.length:=List.length_map ..
theorem sing_plc {l:List Pt} (h:AllV (sing l)) {y:Pt} (hy:y ∈ l):Plc y:=(h [y] (List.mem_map.2 ⟨y,hy,rfl⟩)).2.1 0 (by simp)
theorem sing_plcs {l:List Pt} (hl:l.length≤20):VlR (sing l)↔∀ y,y ∈ l→Plc y:=by
 constructor
 ·intro h y hy
  exact sing_plc h.2 hy
 ·intro h
  refine ⟨by rw [sing_len];omega,fun p hp => ?_⟩
  obtain ⟨z,hz,rfl⟩:=List.mem_map.1 hp
  exact Mk.one_vl (h z hz)
theorem wed_sees {l:List Pt} {x:Pt} {a n:Nat} {r:Rgn} (ha:a < 64) (hn:n≤31) (hl:l.length≤20) (hL:AllV (sing l)) (h:WedC (sing l) x a n r) {y:Pt} (hy:y ∈ l):InR r y↔Sees y x a n :=
 ⟨fun g => (h.only ha hn (by rw [sing_len];omega) (sing_ones l) g).2,fun s => h.has ha hn hL (sing_in.2 hy) s⟩
theorem tidy_bx {L out:Rgn} {a b c d:Int} (h:TidyIs L out) (hB:InBx L a b c d):InBx out a b c d:=by
 have hk:∀ p,p ∈ kept L→∀ y,y ∈ p→Bx a b c d y:=fun p hp => hB p (kept_sub hp)
 rcases h with ⟨_,rfl⟩ | ⟨_,q,o,rfl⟩
 ·exact hk
 ·intro p hp y hy
  rcases List.mem_append.1 hp with hp | hp
  ·exact hk p (List.mem_of_mem_take hp) y hy
  ·rw [List.mem_singleton.1 hp] at hy
   obtain ⟨a',b',c',d',s,t,i,j,h1,h2,h3,h4,h5,h6,h7,h8,hq⟩:=o
   have K:=oct_keeps (bd_of h1 h2 h3 h4 h5 h6 h7 h8).1 _ (hq.2.1 y hy)
   have pm:∀ z,z ∈ ((kept L).drop 31).flatten→Bx a b c d z:=fun z hz => by
    obtain ⟨p,hp,hz⟩:=List.mem_flatten.1 hz
    exact hk p (List.mem_of_mem_drop hp) z hz
   obtain ⟨y1,g1,e1⟩:=h1.1
   obtain ⟨y2,g2,e2⟩:=h2.1
   obtain ⟨y3,g3,e3⟩:=h3.1
   obtain ⟨y4,g4,e4⟩:=h4.1
   have p1:=pm _ g1
   have p2:=pm _ g2
   have p3:=pm _ g3
   have p4:=pm _ g4
   unfold Keeps at K
   unfold Bx at *
   omega
theorem box_inbx {L:Rgn} {lo hi:Pt} (h:IsBox L.flatten lo hi):InBx L lo.1 hi.1 lo.2 hi.2:=fun p hp y hy => by
 have m:=List.mem_flatten.2 ⟨p,hp,hy⟩
 have h1:=h.1.2 y m
 have h2:=h.2.1.2 y m
 have h3:=h.2.2.1.2 y m
 have h4:=h.2.2.2.2 y m
 unfold Bx
 omega
theorem met_bx {A B out:Rgn} {a b c d:Int} (hA:AllV A) (hB:AllV B) (g:MetC A B out) (k:InBx A a b c d):InBx out a b c d:=fun p hp y hy => by
 obtain ⟨i,r,hi,hr,hp⟩:=Col.mem g hp
 obtain ⟨j,s,hj,hs,hp⟩:=Col.mem hr hp
 have v:=hA _ (nth_mem hi)
 have u:=hB _ (nth_mem hj)
 rcases hs with ⟨q,hq,rfl⟩ | ⟨_,rfl⟩
 ·rw [List.mem_singleton.1 hp] at hy
  obtain ⟨lo,hi',bx⟩:=box_some (p:=nth A i) v.1.1
  have kk:=k _ (nth_mem hi)
  refine hq.within (fun y hy => Ct.both_plc v.2.1 u.2.1 hy) (fun y hy => ?_) y hy
  have:=Ct.both_box v.pg u.pg bx hy
  obtain ⟨y1,g1,e1⟩:=bx.1.1
  obtain ⟨y2,g2,e2⟩:=bx.2.1.1
  obtain ⟨y3,g3,e3⟩:=bx.2.2.1.1
  obtain ⟨y4,g4,e4⟩:=bx.2.2.2.1
  have p1:=kk _ g1
  have p2:=kk _ g2
  have p3:=kk _ g3
  have p4:=kk _ g4
  unfold Bx at *
  omega
 ·cases hp
theorem near_box {A B out:Rgn} {c:Rgn} {lo hi low high:Pt} (hA:AllV A) (hB:AllV B) (g:MetC A B c) (t:TidyIs c out) (h:IsBox out.flatten lo hi) (k:IsBox A.flatten low high):low.1≤lo.1∧low.2≤lo.2∧hi.1≤high.1∧hi.2≤high.2:=by
 have b:=tidy_bx t (met_bx hA hB g (box_inbx k))
 have pm:∀ z,z ∈ out.flatten→Bx low.1 high.1 low.2 high.2 z:=fun z hz => by
  obtain ⟨p,hp,hz⟩:=List.mem_flatten.1 hz
  exact b p hp z hz
 obtain ⟨y1,g1,e1⟩:=h.1.1
 obtain ⟨y2,g2,e2⟩:=h.2.1.1
 obtain ⟨y3,g3,e3⟩:=h.2.2.1.1
 obtain ⟨y4,g4,e4⟩:=h.2.2.2.1
 have p1:=pm _ g1
 have p2:=pm _ g2
 have p3:=pm _ g3
 have p4:=pm _ g4
 unfold Bx at *
 omega
def mv (L:Rgn) (z:Pt):Rgn:=L.map fun p => Mk.shift p z
theorem mv_len (L:Rgn) (z:Pt):(mv L z).length=L.length:=List.length_map ..
theorem mv_nth {L:Rgn} {z:Pt} {i:Nat} (h:i < L.length):nth (mv L z) i=Mk.shift (nth L i) z:=by
 rw [nth_get h,nth_get (by rw [mv_len];exact h)]
 exact List.getElem_map ..
theorem shift_inj {p q:List Pt} {z:Pt} (h:Mk.shift p z=Mk.shift q z):p=q:=(List.map_inj_right (fun _ _ e => Mk.plus_inj e)).1 h
theorem lies_mv {p q:List Pt} (hq:Pg q) {z:Pt}:Lies (Mk.shift p z) (Mk.shift q z)↔Lies p q:=by
 constructor
 ·intro h y hy
  exact (Mk.shift_hs hq z y).1 (h _ (Mk.mem_shift.2 ⟨y,hy,rfl⟩))
 ·intro h y hy
  obtain ⟨x,hx,rfl⟩:=Mk.mem_shift.1 hy
  exact (Mk.shift_hs hq z x).2 (h x hx)
theorem cov_mv {L:Rgn} (hL:AllV L) {z:Pt} {i:Nat} (hi:i < L.length):Cov (mv L z) i↔Cov L i:=by
 unfold Cov Up
 constructor
 ·rintro ⟨k,hk,h1,h2,h3⟩
  rw [mv_len] at hk
  rw [mv_nth hi,mv_nth hk] at h2 h3
  exact ⟨k,hk,h1,(lies_mv (hL _ (nth_mem hk)).pg).1 h2,h3.imp (fun h e => h (by rw [e])) id⟩
 ·rintro ⟨k,hk,h1,h2,h3⟩
  refine ⟨k,by rw [mv_len];exact hk,h1,?_,?_⟩
  ·rw [mv_nth hi,mv_nth hk];exact (lies_mv (hL _ (nth_mem hk)).pg).2 h2
  ·rw [mv_nth hi,mv_nth hk];exact h3.imp (fun h e => h (shift_inj e)) id
theorem kept_mv {L:Rgn} (hL:AllV L) (z:Pt):kept (mv L z)=mv (kept L) z:=by
 have f:∀ n,n≤L.length→keptN (mv L z) n=mv (keptN L n) z:=by
  intro n
  induction n with
  | zero => intro _;rfl
  | succ n ih =>
    intro hn
    have ih:=ih (by omega)
    have c:=cov_mv hL (z:=z) (i:=n) (by omega)
    by_cases h:Cov L n
    ·rw [keptN_yes (covB_iff.2 h),keptN_yes (covB_iff.2 (c.2 h)),ih]
    ·rw [keptN_no (covB_not.2 h),keptN_no (covB_not.2 (fun g => h (c.1 g))),ih,mv_nth (by omega)]
     unfold mv
     rw [List.map_append]
     rfl
 have:=f L.length (Nat.le_refl _)
 unfold kept
 rw [mv_len]
 exact this
theorem shift_two (p:List Pt) (x z:Pt):Mk.shift (Mk.shift p x) z=Mk.shift p (Mk.plus x z):=by
 unfold Mk.shift
 rw [List.map_map]
 exact List.map_congr_left fun y _ => Mk.plus_assoc y x z
theorem ring_mv {x z:Pt} {lo hi:Int} {L M:Rgn} (h:RingC x lo hi L) (g:RingC (Mk.plus x z) lo hi M):M=mv L z:=by
 apply List.ext_getElem (by rw [mv_len,h.1,g.1])
 intro i h1 h2
 have hi':i < 32:=by have:=g.1;omega
 obtain ⟨q,a,b,_⟩:=h.2 i hi'
 obtain ⟨q',a',b',_⟩:=g.2 i hi'
 rw [← nth_get h1,← nth_get h2,mv_nth (by rw [h.1];exact hi'),b,b',hull_unique a a',shift_two]
theorem sum_one {p s:List Pt} {z:Pt} {k:Int} (hp:Vl p) (hz:Plc z) (hs:Vl (Mk.shift p z)) (h:Mk.SumIs p [z] k s):k=0∧s=Mk.shift p z:=by
 rcases h with ⟨n,_,_⟩ | ⟨_,q,hq,d⟩
 ·exact absurd ⟨hp,Mk.one_vl hz⟩ n
 obtain rfl:=hull_unique hq (Mk.shift_sum hp.pg z)
 rcases d with ⟨n,_⟩ | ⟨_,rfl,⟨_,e⟩ | ⟨d,_⟩⟩
 ·exact absurd hs.2.1 n
 ·exact ⟨rfl,e⟩
 ·have:=hs.1.2
  omega
theorem sumc_mv {L:Rgn} {z:Pt} (hz:Plc z) (hL:AllV L) (hs:AllV (mv L z)):∀ {n:Nat} {out:Rgn},n≤L.length→SumC L [z] n out→out=(mv L z).take n
 | 0,_,_,h => by rw [List.take_zero];exact h
 | n+1,out,hn,h => by
   obtain ⟨a,b,h1,⟨s,h2,rfl⟩,rfl⟩:=h
   have e1:=sumc_mv hz hL hs (n:=n) (by omega) h1
   have hm:n < (mv L z).length:=by rw [mv_len];omega
   have e2:=(sum_one (hL _ (nth_mem (by omega))) hz (by rw [← mv_nth (by omega)];exact hs _ (nth_mem hm)) h2).2
   rw [e1,e2,List.take_succ_eq_append_getElem hm,← nth_get hm,mv_nth (by omega)]
theorem ring_moved {x z:Pt} {lo hi:Int} {L M r s t:Rgn} {k:Int} (hd:Dst lo hi) (hz:Plc z) (h:RingC x lo hi L) (g:RingC (Mk.plus x z) lo hi M) (hr:TidyIs L r) (hs:TidyIs M s) (ht:SumP r [z] k t):k=0∧s=t:=by
 have vL:=ring_vl hd h
 have vM:=ring_vl hd g
 have e:=ring_mv h g
 have er:=tidy_same (by rw [h.1];omega) hr
 have es:=tidy_same (by rw [g.1];omega) hs
 have vr:=tidy_vl vL hr
 have vm:AllV (mv r z):=fun p hp => by
  rw [er,← kept_mv vL,← e] at hp
  exact vM p (kept_sub hp)
 rcases ht with ⟨rfl,_,_,i,hi',h3⟩ | ⟨n,_⟩ | ⟨_,rfl,c,hc,tc⟩
 ·have:=(sum_one (vr.2 _ (nth_mem hi')) hz (by rw [← mv_nth hi'];exact vm _ (nth_mem (by rw [mv_len];exact hi'))) h3).1
  omega
 ·exact absurd ⟨vr,Mk.one_vl hz⟩ n
 ·have ec:=sumc_mv hz vr.2 vm (Nat.le_refl _) hc
  rw [← mv_len r z,List.take_length] at ec
  have len:(mv r z).length≤32:=by rw [mv_len];exact vr.1
  have et:=tidy_same (by rw [ec];exact len) tc
  refine ⟨rfl,?_⟩
  rw [et,ec,er,← kept_mv vL,← e,kept_twice]
  exact es
end Rn
end Go.Proofs.YtbpgfenippiepaaGreatDoor
namespace Go.Proofs.YtbpgfenippiepaaGreatDoor
open Go.RowKit Hl
namespace Rn
open Rg (Rgn VlR AnsR AnsB Rl MetC TidyIs TidP CutP MetP HasP BoxA SumP)
open Ct (Hf)
def NearP (L:Rgn) (x:Pt) (lo hi:Int) (k:Int) (r:Rgn):Prop:=(¬ VlR L∧k=1∧r=[])∨(VlR L∧((k ≠ 0∧r=[]∧RingP x lo hi k [])∨(k=0∧∃ c m,RingP x lo hi 0 c∧MetC L c m∧TidyIs m r)))
theorem NearP.one {L:Rgn} {x:Pt} {lo hi k k':Int} {r r':Rgn} (h:NearP L x lo hi k r) (g:NearP L x lo hi k' r'):k=k'∧r=r':=by
 rcases h with ⟨b,rfl,rfl⟩ | ⟨b,⟨n,rfl,h⟩ | ⟨rfl,c,m,h,hm,t⟩⟩ <;> rcases g with ⟨b',rfl,rfl⟩ | ⟨b',⟨n',rfl,g⟩ | ⟨rfl,c',m',g,gm,t'⟩⟩
 ·exact ⟨rfl,rfl⟩
 ·exact absurd b' b
 ·exact absurd b' b
 ·exact absurd b b'
 ·exact ⟨(h.one g).1,rfl⟩
 ·exact absurd (h.one g).1 n
 ·exact absurd b b'
 ·exact absurd (g.one h).1 n'
 ·obtain rfl:=(h.one g).2
  rw [hm.one gm] at t
  exact ⟨rfl,Rg.tidy_one t t'⟩
theorem ringp_vl {x:Pt} {lo hi k:Int} {r:Rgn} (h:RingP x lo hi k r):VlR r:=by
 rcases h with ⟨_,_,rfl⟩ | ⟨b,⟨_,_,rfl⟩ | ⟨_,L,c,t⟩⟩
 ·exact ⟨by simp,fun p hp => (by cases hp)⟩
 ·exact ⟨by simp,fun p hp => (by cases hp)⟩
 ·exact ring_vlr b.2 c t
theorem ringp_nil {x:Pt} {lo hi k:Int} {r:Rgn} (h:RingP x lo hi k r) (hk:k ≠ 0):r=[]:=by
 rcases h with ⟨_,_,e⟩ | ⟨_,⟨_,_,e⟩ | ⟨e,_⟩⟩
 ·exact e
 ·exact e
 ·exact absurd e hk
structure Nd (T:World→Prop):Prop where
 keep:∀ W w,Grew W w→T W→T w
 valid:∀ (L:Rgn) (v:Value) (w:World),Rl w v L→Calls Tryz.prog 21 #[v] w (Tells (VlR L) w)
 tidy:∀ (L:Rgn) (v:Value) (w:World),Rl w v L→Calls Tryz.prog 32 #[v] w (AnsR (TidP L) w)
 cut:∀ (L:Rgn) (h:Hf) (v:Value) (w:World),Rl w v L→Calls Tryz.prog 81 #[v,.agg #[.int .i64 h.1,.int .i64 h.2.1,.int .i64 h.2.2]] w (AnsR (CutP L h) w)
 meet:∀ (a b:Rgn) (v u:Value) (w:World),Rl w v a→Rl w u b→Calls Tryz.prog 38 #[v,u] w (AnsR (MetP a b) w)
 ray:∀ (k:Nat) (w:World),T w→k < 64→Calls Tryz.prog 41 #[.int .i64 k] w fun e w' => e=.returned (.tuple #[.agg #[.int .i64 (Ry.dir k).1,.int .i64 (Ry.dir k).2],.int .i64 0])∧Grew w w'
 ray_bad:∀ (k:Int) (w:World),¬ (0≤k∧k < 64)→Calls Tryz.prog 41 #[.int .i64 k] w fun e w' => e=.returned (.tuple #[.agg #[.int .i64 0,.int .i64 0],.int .i64 1])∧Grew w w'
 sec:∀ (a n:Nat) (lo hi:Int) (w:World),T w→a < 64→n≤31→Dst lo hi→Calls Tryz.prog 61 #[.int .i64 a,.int .i64 n,.agg #[.int .i64 lo,.int .i64 hi]] w fun e w' => ∃ q v,IsHull (Ry.secL a n lo hi) q∧q.length≤64∧e=.returned (.tuple #[v,.int .i64 0])∧Sl w' v q∧Grew w w'
 sec_bad:∀ (a n lo hi:Int) (w:World),¬ ((0≤a∧a < 64)∧(0≤n∧n≤31)∧Dst lo hi)→Calls Tryz.prog 61 #[.int .i64 a,.int .i64 n,.agg #[.int .i64 lo,.int .i64 hi]] w (Empty 1 w)
 shift:∀ (p:List Pt) (z:Pt) (v:Value) (w:World),Sl w v p→p.length≤9223372036854775807→Calls Tryz.prog 31 #[v,.agg #[.int .i64 z.1,.int .i64 z.2]] w (Mk.Ans (Mk.ShfIs p z) w)
structure Fns (T:World→Prop) (fr fn fw:Nat):Prop where
 ring:∀ (x:Pt) (lo hi:Int) (w:World),T w→Calls Tryz.prog fr #[.agg #[.int .i64 x.1,.int .i64 x.2],.agg #[.int .i64 lo,.int .i64 hi]] w (AnsR (RingP x lo hi) w)
 near:∀ (L:Rgn) (x:Pt) (lo hi:Int) (v:Value) (w:World),T w→Rl w v L→Calls Tryz.prog fn #[v,.agg #[.int .i64 x.1,.int .i64 x.2],.agg #[.int .i64 lo,.int .i64 hi]] w (AnsR (NearP L x lo hi) w)
 wedge:∀ (L:Rgn) (x:Pt) (a n:Int) (v:Value) (w:World),T w→Rl w v L→Calls Tryz.prog fw #[v,.agg #[.int .i64 x.1,.int .i64 x.2],.int .i64 a,.int .i64 n] w (AnsR (WedP L x a n) w)
structure Code (T:World→Prop):Prop where
 keep:∀ W w,Grew W w→T W→T w
 fns:Fns T 11 14 16
abbrev HasC:Prop:=∀ (L:Rgn) (x:Pt) (v:Value) (w:World),Rl w v L→Calls Tryz.prog 22 #[v,.agg #[.int .i64 x.1,.int .i64 x.2]] w (AnsB (HasP L x) w)
abbrev ValC:Prop:=∀ (L:Rgn) (v:Value) (w:World),Rl w v L→Calls Tryz.prog 21 #[v] w (Tells (VlR L) w)
abbrev BoxC:Prop:=∀ (L:Rgn) (v:Value) (w:World),Rl w v L→Calls Tryz.prog 25 #[v] w (BoxA L w)
abbrev SumC:Prop:=∀ (L:Rgn) (p:List Pt) (v u:Value) (w:World),Rl w v L→Sl w u p→p.length≤9223372036854775807→Calls Tryz.prog 29 #[v,u] w (AnsR (SumP L p) w)
end Rn
end Go.Proofs.YtbpgfenippiepaaGreatDoor
namespace Go.Proofs.YtbpgfenippiepaaGreatDoor
open Hl Rg
open Ct (Hf)
namespace Rn
theorem near_vl {L:Rgn} {x:Pt} {lo hi k:Int} {r:Rgn} (h:NearP L x lo hi k r):VlR r:=by
 rcases h with ⟨_,_,rfl⟩ | ⟨b,⟨_,rfl,_⟩ | ⟨_,c,m,hc,hm,t⟩⟩
 ·exact ⟨by simp,fun p hp => (by cases hp)⟩
 ·exact ⟨by simp,fun p hp => (by cases hp)⟩
 ·exact tidy_vl (met_vl b.2 (ringp_vl hc).2 hm) t
theorem dist_of {lo hi:Int} (h:0≤lo∧lo≤hi∧hi≤100000):Dst lo hi:=h
theorem ex_a {k:Int} {r:Rgn} (h:RingP (30,40) 50 50 k r):k=0∧InR r (0,0):=by
 have hd:Dst 50 50:=dist_of (by decide)
 obtain ⟨e,L,c,t⟩:=ring_fits hd h (by decide) 60 (by decide) (by decide) (by decide)
 exact ⟨e,ring_has hd c t (by decide) (by decide)⟩
theorem ex_b {k:Int} {r:Rgn} (h:RingP (30,40) 60 70 k r):k=0∧¬ InR r (0,0):=by
 have hd:Dst 60 70:=dist_of (by decide)
 obtain ⟨e,L,c,t⟩:=ring_fits hd h (by decide) 80 (by decide) (by decide) (by decide)
 refine ⟨e,fun i => ?_⟩
 rcases (ring_tight hd c t i).2 with g | g
 ·exact absurd g (by decide)
 ·exact absurd g (by decide)
theorem sing_vl {l:List Pt} (hl:l.length≤20) (h:l.all (fun y => decide (Plc y))=true):VlR (sing l):=(sing_plcs hl).2 fun y hy => of_decide_eq_true (List.all_eq_true.1 h y hy)
theorem ones_one {r:Rgn} {z:Pt} (h:∀ p,p ∈ r→p=[z]) (hk:kept r=r) (hz:[z] ∈ r):r=sing [z]:=by
 have f:=kept_free r
 rw [hk] at f
 match r,h,f,hz with
 | [],_,_,hz => cases hz
 | [p],h,_,_ => rw [h p (by simp)];rfl
 | p :: q :: r,h,f,_ =>
   have ep:=h p (by simp)
   have eq:=h q (by simp)
   have:=(List.pairwise_cons.1 f).1 q (by simp)
   rw [ep,eq] at this
   exact absurd (fun y hy => by rw [List.mem_singleton.1 hy];exact one_hs.2 rfl) this.1
theorem cutr_kept {L:Rgn} {h:Hf} {r:Rgn} (hl:L.length≤32) (g:CutR L h r):kept r=r:=by
 obtain ⟨c,hc,t⟩:=g
 have len:=cut_len hc
 rw [tidy_same (by omega) t,kept_twice]
theorem ex_c {k:Int} {r:Rgn} (h:WedP (sing [(0,0),(0,90),(200,200)]) (100,100) 7 2 k r):k=0∧r=sing [(0,0)]:=by
 have hv:VlR (sing [(0,0),(0,90),(200,200)]):=sing_vl (by decide) (by decide)
 rcases h with ⟨b,_⟩ | ⟨b,e,h⟩
 ·exact absurd ⟨⟨hv,by decide⟩,by decide,by decide⟩ b
 ·refine ⟨e,?_⟩
  have only:∀ y,InR r y→y=(0,0):=fun y hy => by
   obtain ⟨i,s⟩:=h.only (a:=7) (n:=2) (by decide) (by decide) (by decide) (sing_ones _) hy
   have m:=sing_in.1 i
   simp only [List.mem_cons,List.mem_nil_iff,or_false] at m
   rcases m with rfl | rfl | rfl
   ·rfl
   ·exact absurd s (by decide)
   ·exact absurd s (by decide)
  have is:InR r (0,0):=h.has (a:=7) (n:=2) (by decide) (by decide) hv.2 (sing_in.2 (by simp)) (by decide)
  obtain ⟨r1,r2,h1,h2,h3⟩:=h
  obtain ⟨a1,a2,a3,a4⟩:=cutr_ones (by decide) (sing_ones _) h1
  obtain ⟨b1,b2,b3,b4⟩:=cutr_ones a3 a4 h2
  rcases h3 with ⟨_,rfl⟩ | ⟨z,_⟩
  ·refine ones_one (fun p hp => ?_) (cutr_kept a3 h2) ((ones_in b4).1 is)
   obtain ⟨z,rfl⟩:=b4 p hp
   rw [only z ((ones_in b4).2 hp)]
  ·exact absurd z (by decide)
theorem ex_d {k:Int} {r:Rgn} (h:NearP (sing [(0,0),(1,1)]) (30,40) 50 60 k r):k=0∧InR r (0,0):=by
 have hv:VlR (sing [(0,0),(1,1)]):=sing_vl (by decide) (by decide)
 have hd:Dst 50 60:=dist_of (by decide)
 rcases h with ⟨b,_⟩ | ⟨_,⟨n,_,h⟩ | ⟨e,c,m,h,hm,t⟩⟩
 ·exact absurd hv b
 ·exact absurd (ring_fits hd h (by decide) 70 (by decide) (by decide) (by decide)).1 n
 ·obtain ⟨_,L,cc,ct⟩:=ring_fits hd h (by decide) 70 (by decide) (by decide) (by decide)
  exact ⟨e,tidy_has (met_vl hv.2 (ringp_vl h).2 hm) t (met_has hv.2 (ringp_vl h).2 hm (sing_in.2 (by simp)) (ring_has hd cc ct (by decide) (by decide)))⟩
theorem ex_i {k:Int} {r:Rgn} (h:RingP (499990,0) 0 20 k r):k=3:=by
 have hd:Dst 0 20:=dist_of (by decide)
 rcases h with ⟨b,_⟩ | ⟨_,⟨_,e,_⟩ | ⟨_,L,c,_⟩⟩
 ·exact absurd ⟨by decide,hd⟩ b
 ·exact e
 ·obtain ⟨q,a,b,p⟩:=c.2 0 (by decide)
  have i:Hs q (21,0):=a.2.2 _ (Ry.mem_sec.2 (Or.inr (Or.inr ⟨0,by decide,Ry.mem_bx.2 (by decide)⟩)))
  have j:=(Mk.shift_hs a.1 (499990,0) (21,0)).2 i
  have g:=Mk.has_plc (Mk.shift_pg a.1 _) p j
  exact absurd g (by decide)
theorem ex_j {k:Int} {r:Rgn} (h:RingP (0,0) 3 2 k r):k=1:=by
 rcases h with ⟨_,e,_⟩ | ⟨b,_⟩
 ·exact e
 ·exact absurd b.2.2.1 (by decide)
end Rn
end Go.Proofs.YtbpgfenippiepaaGreatDoor
