/-
  Bearings, without a program: which places see a beacon, what half-planes leave of single places.
  What package ring owes, and what it needs.
  The landed package ring: half-planes by a closure, a view that cuts itself, what a place is.
  The examples at the head of the statements about layer 10, without a program.
-/
import Derived.Test.YtbpgfenippiepaaGreatDoorMMinkOne
import Derived.Test.YtbpgfenippiepaaGreatDoorMHullIn
import Derived.Test.YtbpgfenippiepaaGreatDoorMRegCon
import Derived.Test.YtbpgfenippiepaaGreatDoorMHullCm
namespace Go.Proofs.YtbpgfenippiepaaGreatDoor
open Hl Rg
open Ct (Hf ov LeftS Poly WF)
namespace Rn
def Sees (y x:Pt) (a n:Nat):Prop:=dif x y=(0,0)∨Ry.Lies a n (dif x y)
instance (y x:Pt) (a n:Nat):Decidable (Sees y x a n):=by unfold Sees;infer_instance
def H1 (x:Pt) (a:Nat):Hf:=(-(Ry.dir a).2,(Ry.dir a).1,-(Ry.dir a).2 * x.1+(Ry.dir a).1 * x.2)
def H2 (x:Pt) (b:Nat):Hf:=((Ry.dir b).2,-(Ry.dir b).1,(Ry.dir b).2 * x.1+-(Ry.dir b).1 * x.2)
def H3 (x:Pt) (a:Nat):Hf:=((Ry.dir a).1,(Ry.dir a).2,(Ry.dir a).1 * x.1+(Ry.dir a).2 * x.2)
theorem ov_1 (x y:Pt) (a:Nat):ov (H1 x a) y = -(Ry.sd a (dif x y)):=by unfold ov H1 Ry.sd Ry.xc dif;simp only;grind
theorem ov_2 (x y:Pt) (b:Nat):ov (H2 x b) y=Ry.sd b (dif x y):=by unfold ov H2 Ry.sd Ry.xc dif;simp only;grind
theorem ov_3 (x y:Pt) (a:Nat):ov (H3 x a) y = -(Ry.dd (Ry.dir a) (dif x y)):=by unfold ov H3 Ry.dd dif;simp only;grind
theorem sd_none (k:Nat):Ry.sd k (0,0)=0:=by unfold Ry.sd Ry.xc;simp
theorem dd_none (k:Nat):Ry.dd (Ry.dir k) (0,0)=0:=by unfold Ry.dd;simp
theorem sees_iff {y x:Pt} {a n:Nat} (ha:a < 64) (hn:n≤31):Sees y x a n↔(ov (H1 x a) y≤0∧ov (H2 x (a+n)) y≤0∧(n=0→ov (H3 x a) y≤0)):=by
 rw [ov_1,ov_2,ov_3]
 unfold Sees
 generalize dif x y=v
 have e0:=Ry.sd_turned a v
 have case:Ry.On a v→Ry.sd a v=0∧0 < Ry.dd (Ry.dir a) v:=fun h => ⟨h.1,by have:=h.2;omega⟩
 constructor
 ·intro h
  by_cases hv:v=(0,0)
  ·subst hv
   rw [sd_none,sd_none,dd_none]
   omega
  ·replace h:=h.resolve_left hv
   by_cases n0:n=0
   ·subst n0
    rcases h with h | h
    ·have:=case h
     exact ⟨by omega,by rw [Nat.add_zero];omega,fun _ => by omega⟩
    ·omega
   ·obtain ⟨k,f⟩:=Ry.found hv
    have:=f.cone ha hn (by omega) h
    exact ⟨by omega,by omega,fun e => absurd e n0⟩
 ·rintro ⟨h1,h2,h3⟩
  by_cases n0:n=0
  ·subst n0
   have h3:=h3 rfl
   rw [Nat.add_zero] at h2
   have z:Ry.sd a v=0:=by omega
   by_cases d0:Ry.dd (Ry.dir a) v=0
   ·left
    have l:=Ry.lag (Ry.dir a) v
    unfold Ry.sd at z
    rw [z,d0] at l
    have g:=(Ry.dir_dd (k:=a) (by omega)).1
    have k:=Ry.dd_nonneg v
    have vv:Ry.dd v v=0:=by
     rcases Int.mul_eq_zero.1 (show Ry.dd (Ry.dir a) (Ry.dir a) * Ry.dd v v=0 by omega) with e | e
     ·omega
     ·exact e
    have s1:=Ry.sq0 v.1
    have s2:=Ry.sq0 v.2
    unfold Ry.dd at vv
    exact Prod.ext (sq_zero (by omega)) (sq_zero (by omega))
   ·exact Or.inr (Or.inl ⟨z,by omega⟩)
  ·exact Or.inr (Or.inr ⟨by omega,by omega,by omega⟩)
theorem dir_zero {k:Nat} (hk:k < 128):¬ ((Ry.dir k).1=0∧(Ry.dir k).2=0):=fun ⟨a,b⟩ => by
 have:=(Ry.dir_dd hk).1
 unfold Ry.dd at this
 rw [a,b] at this
 omega
def CutR (L:Rgn) (h:Hf) (r:Rgn):Prop:=∃ c,CutC L h c∧TidyIs c r
theorem CutR.one {L:Rgn} {h:Hf} {r r':Rgn} (g:CutR L h r) (k:CutR L h r'):r=r':=by
 obtain ⟨c,hc,t⟩:=g
 obtain ⟨c',hc',t'⟩:=k
 rw [hc.one hc'] at t
 exact tidy_one t t'
theorem CutR.vl {L:Rgn} {h:Hf} {r:Rgn} (g:CutR L h r) (hL:AllV L):VlR r:=by
 obtain ⟨c,hc,t⟩:=g
 exact tidy_vl (cut_vl hL hc) t
theorem CutR.has {L:Rgn} {h:Hf} {r:Rgn} (g:CutR L h r) (hL:AllV L) {y:Pt} (hy:InR L y) (ho:ov h y≤0):InR r y:=by
 obtain ⟨c,hc,t⟩:=g
 exact tidy_has (cut_vl hL hc) t (cut_has hL hc hy ho)
def Ones (L:Rgn):Prop:=∀ p,p ∈ L→∃ z,p=[z]
theorem one_hs {z y:Pt}:Hs [z] y↔z=y:=by rw [hs1 rfl];rfl
theorem ones_in {L:Rgn} (h:Ones L) {y:Pt}:InR L y↔[y] ∈ L:=by
 constructor
 ·rintro ⟨p,hp,hy⟩
  obtain ⟨z,rfl⟩:=h p hp
  rw [← one_hs.1 hy]
  exact hp
 ·intro h
  exact ⟨_,h,one_hs.2 rfl⟩
theorem left_one {z y:Pt} {h:Hf} (hy:LeftS [z] h y):y=z∧ov h z≤0:=by
 rcases hy with ⟨i,hi,e,ho⟩ | ⟨i,hi,f⟩
 ·have:i=0:=by simp at hi;omega
  subst this
  have e:z=y:=e
  subst e
  exact ⟨rfl,ho⟩
 ·have:i=0:=by simp at hi;omega
  subst this
  have:=f.df
  unfold Ct.Df at this
  have e:(0+1) % [z].length=0:=by simp
  rw [e] at this
  omega
theorem poly_one_is {S:Pt→Prop} {q:List Pt} {z:Pt} (h:Poly S q) (hS:∀ y,S y→y=z):q=[z]:=by
 obtain ⟨l,q0,e,hq,k⟩:=h
 have hl:∀ y,y ∈ q0→y=z:=fun y hy => hS y ((e y).1 (hq.2.1 y hy))
 have n1:=hq.1.1
 have e1:q0.length=1:=by
  by_cases c:q0.length=1
  ·exact c
  ·have a:=hl _ (at_mem (i:=0) (p:=q0) (by omega))
   have b:=hl _ (at_mem (i:=1) (p:=q0) (by omega))
   exact absurd (a.trans b.symm) (pg_distinct hq.1 (by omega) (by omega) (by omega))
 have e2:q0=[z]:=by
  obtain ⟨x,rfl⟩:=List.length_eq_one_iff.1 e1
  rw [hl x (by simp)]
 rcases k with ⟨_,rfl⟩ | ⟨k,_⟩
 ·exact e2
 ·omega
theorem cutr_ones {L:Rgn} {h:Hf} {r:Rgn} (hl:L.length≤32) (o:Ones L) (g:CutR L h r):(∀ p,p ∈ r→p ∈ L)∧(∀ z,[z] ∈ r→ov h z≤0)∧r.length≤32∧Ones r:=by
 obtain ⟨c,hc,t⟩:=g
 have len:=cut_len hc
 have hr:=tidy_same (by omega) t
 have key:∀ p,p ∈ r→∃ z,p=[z]∧p ∈ L∧ov h z≤0:=fun p hp => by
  rw [hr] at hp
  obtain ⟨i,s,hi,hs,hp⟩:=Col.mem hc (kept_sub hp)
  have hin:=nth_mem hi
  obtain ⟨z,ez⟩:=o _ hin
  rw [ez] at hs hin
  rcases hs with ⟨q,hq,rfl⟩ | ⟨_,rfl⟩
  ·obtain ⟨y,hy⟩:=hq.some
   have:=poly_one_is hq (fun y hy => (left_one hy).1)
   rw [List.mem_singleton.1 hp,this]
   exact ⟨z,rfl,hin,(left_one hy).2⟩
  ·cases hp
 refine ⟨fun p hp => ?_,fun z hz => ?_,by have:=tidy_len t;omega,fun p hp => ?_⟩
 ·obtain ⟨z,_,h,_⟩:=key p hp;exact h
 ·obtain ⟨z',e,_,h⟩:=key _ hz
  injection e with e _
  rw [e];exact h
 ·obtain ⟨z,e,_⟩:=key p hp;exact ⟨z,e⟩
def WedC (L:Rgn) (x:Pt) (a n:Nat) (r:Rgn):Prop:=∃ r1 r2,CutR L (H1 x a) r1∧CutR r1 (H2 x (a+n)) r2∧((n ≠ 0∧r=r2)∨(n=0∧CutR r2 (H3 x a) r))
def WedOk (L:Rgn) (x:Pt) (a n:Int):Prop:=(VlR L∧Plc x)∧(0≤a∧a≤63)∧0≤n∧n≤31
def WedP (L:Rgn) (x:Pt) (a n:Int) (k:Int) (r:Rgn):Prop:=(¬ WedOk L x a n∧k=1∧r=[])∨(WedOk L x a n∧k=0∧WedC L x a.toNat n.toNat r)
theorem WedC.one {L:Rgn} {x:Pt} {a n:Nat} {r r':Rgn} (h:WedC L x a n r) (g:WedC L x a n r'):r=r':=by
 obtain ⟨r1,r2,h1,h2,h3⟩:=h
 obtain ⟨s1,s2,g1,g2,g3⟩:=g
 obtain rfl:=h1.one g1
 obtain rfl:=h2.one g2
 rcases h3 with ⟨_,rfl⟩ | ⟨z,h3⟩ <;> rcases g3 with ⟨_,rfl⟩ | ⟨z',g3⟩
 ·rfl
 ·omega
 ·omega
 ·exact h3.one g3
theorem WedP.one {L:Rgn} {x:Pt} {a n k k':Int} {r r':Rgn} (h:WedP L x a n k r) (g:WedP L x a n k' r'):k=k'∧r=r':=by
 rcases h with ⟨b,rfl,rfl⟩ | ⟨b,rfl,h⟩ <;> rcases g with ⟨b',rfl,rfl⟩ | ⟨b',rfl,g⟩
 ·exact ⟨rfl,rfl⟩
 ·exact absurd b' b
 ·exact absurd b b'
 ·exact ⟨rfl,h.one g⟩
theorem WedC.vl {L:Rgn} {x:Pt} {a n:Nat} {r:Rgn} (hL:AllV L) (h:WedC L x a n r):VlR r:=by
 obtain ⟨r1,r2,h1,h2,h3⟩:=h
 have v1:=(h1.vl hL).2
 have v2:=h2.vl v1
 rcases h3 with ⟨_,rfl⟩ | ⟨_,h3⟩
 ·exact v2
 ·exact h3.vl v2.2
theorem WedC.has {L:Rgn} {x:Pt} {a n:Nat} {r:Rgn} (ha:a < 64) (hn:n≤31) (hL:AllV L) (h:WedC L x a n r) {y:Pt} (hy:InR L y) (s:Sees y x a n):InR r y:=by
 obtain ⟨o1,o2,o3⟩:=(sees_iff ha hn).1 s
 obtain ⟨r1,r2,h1,h2,h3⟩:=h
 have v1:=(h1.vl hL).2
 have v2:=(h2.vl v1).2
 have i2:=h2.has v1 (h1.has hL hy o1) o2
 rcases h3 with ⟨_,rfl⟩ | ⟨z,h3⟩
 ·exact i2
 ·exact h3.has v2 i2 (o3 z)
theorem WedC.only {L:Rgn} {x:Pt} {a n:Nat} {r:Rgn} (ha:a < 64) (hn:n≤31) (hl:L.length≤32) (o:Ones L) (h:WedC L x a n r) {y:Pt} (hy:InR r y):InR L y∧Sees y x a n:=by
 obtain ⟨r1,r2,h1,h2,h3⟩:=h
 obtain ⟨a1,a2,a3,a4⟩:=cutr_ones hl o h1
 obtain ⟨b1,b2,b3,b4⟩:=cutr_ones a3 a4 h2
 have fin:[y] ∈ r2→(n=0→ov (H3 x a) y≤0)→InR L y∧Sees y x a n:=fun h e =>
  ⟨(ones_in o).2 (a1 _ (b1 _ h)),(sees_iff ha hn).2 ⟨a2 _ (b1 _ h),b2 _ h,e⟩⟩
 rcases h3 with ⟨z,rfl⟩ | ⟨z,h3⟩
 ·exact fin ((ones_in b4).1 hy) (fun e => absurd e z)
 ·obtain ⟨c1,c2,c3,c4⟩:=cutr_ones b3 b4 h3
  have hy:=(ones_in c4).1 hy
  exact fin (c1 _ hy) (fun _ => c2 _ hy)
def sing (l:List Pt):Rgn:=l.map fun z => [z]
theorem sing_ones (l:List Pt):Ones (sing l):=fun p hp => by
 obtain ⟨z,_,e⟩:=List.mem_map.1 hp
 exact ⟨z,e.symm⟩
theorem sing_in {l:List Pt} {y:Pt}:InR (sing l) y↔y ∈ l:=by
 rw [ones_in (sing_ones l)]
 unfold sing
 rw [List.mem_map]
 constructor
 ·rintro ⟨z,hz,e⟩
  injection e with e _
  rw [← e];exact hz
 ·intro h
  exact ⟨y,h,rfl⟩
theorem sing_len (l:List Pt):(sing l).length=l.length:=List.length_map ..
theorem sing_plc {l:List Pt} (h:AllV (sing l)) {y:Pt} (hy:y ∈ l):Plc y:=(h [y] (List.mem_map.2 ⟨y,hy,rfl⟩)).2.1 0 (by simp)
theorem sing_plcs {l:List Pt} (hl:l.length≤20):VlR (sing l)↔∀ y,y ∈ l→Plc y:=by
 constructor
 ·intro h y hy
  exact sing_plc h.2 hy
 ·intro h
  refine ⟨by rw [sing_len];omega,fun p hp => ?_⟩
  obtain ⟨z,hz,rfl⟩:=List.mem_map.1 hp
  exact Mk.one_vl (h z hz)
end Rn
end Go.Proofs.YtbpgfenippiepaaGreatDoor
namespace Go.Proofs.YtbpgfenippiepaaGreatDoor
open Go.RowKit Hl
namespace Rn
open Rg (Rgn VlR AnsR Rl MetC TidyIs TidP CutP MetP HasP SumP)
open Ct (Hf)
def NearP (L:Rgn) (x:Pt) (lo hi:Int) (k:Int) (r:Rgn):Prop:=(¬ VlR L∧k=1∧r=[])∨(VlR L∧((k ≠ 0∧r=[]∧RingP x lo hi k [])∨(k=0∧∃ c m,RingP x lo hi 0 c∧MetC L c m∧TidyIs m r)))
theorem NearP.one {L:Rgn} {x:Pt} {lo hi k k':Int} {r r':Rgn} (h:NearP L x lo hi k r) (g:NearP L x lo hi k' r'):k=k'∧r=r':=by
 rcases h with ⟨b,rfl,rfl⟩ | ⟨b,⟨n,rfl,h⟩ | ⟨rfl,c,m,h,hm,t⟩⟩ <;> rcases g with ⟨b',rfl,rfl⟩ | ⟨b',⟨n',rfl,g⟩ | ⟨rfl,c',m',g,gm,t'⟩⟩
 ·exact ⟨rfl,rfl⟩
 ·exact absurd b' b
 ·exact absurd b' b
 ·exact absurd b b'
 ·exact ⟨(h.one g).1,rfl⟩
 ·exact absurd (h.one g).1 n
 ·exact absurd b b'
 ·exact absurd (g.one h).1 n'
 ·obtain rfl:=(h.one g).2
  rw [hm.one gm] at t
  exact ⟨rfl,Rg.tidy_one t t'⟩
theorem ringp_vl {x:Pt} {lo hi k:Int} {r:Rgn} (h:RingP x lo hi k r):VlR r:=by
 rcases h with ⟨_,_,rfl⟩ | ⟨b,⟨_,_,rfl⟩ | ⟨_,L,c,t⟩⟩
 ·exact ⟨by simp,fun p hp => (by cases hp)⟩
 ·exact ⟨by simp,fun p hp => (by cases hp)⟩
 ·exact ring_vlr b.2 c t
theorem ringp_nil {x:Pt} {lo hi k:Int} {r:Rgn} (h:RingP x lo hi k r) (hk:k ≠ 0):r=[]:=by
 rcases h with ⟨_,_,e⟩ | ⟨_,⟨_,_,e⟩ | ⟨e,_⟩⟩
 ·exact e
 ·exact e
 ·exact absurd e hk
structure Nd (T:World→Prop):Prop where
 keep:∀ W w,Grew W w→T W→T w
 valid:∀ (L:Rgn) (v:Value) (w:World),Rl w v L→Calls Tryz.prog 21 #[v] w (Tells (VlR L) w)
 tidy:∀ (L:Rgn) (v:Value) (w:World),Rl w v L→Calls Tryz.prog 32 #[v] w (AnsR (TidP L) w)
 cut:∀ (L:Rgn) (h:Hf) (v:Value) (w:World),Rl w v L→Calls Tryz.prog 81 #[v,.agg #[.int .i64 h.1,.int .i64 h.2.1,.int .i64 h.2.2]] w (AnsR (CutP L h) w)
 meet:∀ (a b:Rgn) (v u:Value) (w:World),Rl w v a→Rl w u b→Calls Tryz.prog 38 #[v,u] w (AnsR (MetP a b) w)
 ray:∀ (k:Nat) (w:World),T w→k < 64→Calls Tryz.prog 41 #[.int .i64 k] w fun e w' => e=.returned (.tuple #[.agg #[.int .i64 (Ry.dir k).1,.int .i64 (Ry.dir k).2],.int .i64 0])∧Grew w w'
 ray_bad:∀ (k:Int) (w:World),¬ (0≤k∧k < 64)→Calls Tryz.prog 41 #[.int .i64 k] w fun e w' => e=.returned (.tuple #[.agg #[.int .i64 0,.int .i64 0],.int .i64 1])∧Grew w w'
 sec:∀ (a n:Nat) (lo hi:Int) (w:World),T w→a < 64→n≤31→Dst lo hi→Calls Tryz.prog 61 #[.int .i64 a,.int .i64 n,.agg #[.int .i64 lo,.int .i64 hi]] w fun e w' => ∃ q v,IsHull (Ry.secL a n lo hi) q∧q.length≤64∧e=.returned (.tuple #[v,.int .i64 0])∧Sl w' v q∧Grew w w'
 sec_bad:∀ (a n lo hi:Int) (w:World),¬ ((0≤a∧a < 64)∧(0≤n∧n≤31)∧Dst lo hi)→Calls Tryz.prog 61 #[.int .i64 a,.int .i64 n,.agg #[.int .i64 lo,.int .i64 hi]] w (Empty 1 w)
 shift:∀ (p:List Pt) (z:Pt) (v:Value) (w:World),Sl w v p→p.length≤9223372036854775807→Calls Tryz.prog 31 #[v,.agg #[.int .i64 z.1,.int .i64 z.2]] w (Mk.Ans (Mk.ShfIs p z) w)
structure Fns (T:World→Prop) (fr fn fw:Nat):Prop where
 ring:∀ (x:Pt) (lo hi:Int) (w:World),T w→Calls Tryz.prog fr #[.agg #[.int .i64 x.1,.int .i64 x.2],.agg #[.int .i64 lo,.int .i64 hi]] w (AnsR (RingP x lo hi) w)
 near:∀ (L:Rgn) (x:Pt) (lo hi:Int) (v:Value) (w:World),T w→Rl w v L→Calls Tryz.prog fn #[v,.agg #[.int .i64 x.1,.int .i64 x.2],.agg #[.int .i64 lo,.int .i64 hi]] w (AnsR (NearP L x lo hi) w)
 wedge:∀ (L:Rgn) (x:Pt) (a n:Int) (v:Value) (w:World),T w→Rl w v L→Calls Tryz.prog fw #[v,.agg #[.int .i64 x.1,.int .i64 x.2],.int .i64 a,.int .i64 n] w (AnsR (WedP L x a n) w)
structure Code (T:World→Prop):Prop where
 keep:∀ W w,Grew W w→T W→T w
 fns:Fns T 11 14 16
end Rn
end Go.Proofs.YtbpgfenippiepaaGreatDoor
namespace Go.Proofs.YtbpgfenippiepaaGreatDoor
open Go.RowKit Go.Shelf Hl
attribute [local go_sem] Oper.semAt_some
namespace Rn
open Rg (Rgn VlR AnsR Rl CutP nth IsHd)
open Ct (Hf)
theorem blk3f {W:World} {B:Nat} {x y z:Value} {t:TypeId} (h:Blk W B #[x,y,z] t):(W.cell? ⟨B,0,none⟩=some x∧W.cell? ⟨B,1,none⟩=some y∧W.cell? ⟨B,2,none⟩=some z)∧W.frozen? ⟨B,0,none⟩=false∧W.frozen? ⟨B,1,none⟩=false∧W.frozen? ⟨B,2,none⟩=false:=by simp [World.cell?,World.frozen?,show W.heap[B]? = _ from h]
def Apt (w:World) (cs:Array Value):Prop:=(∀ (j:Nat) (u:Value) (p:List Pt),cs[j]? = some u→0 < p.length→¬ Sl w u p)∧∀ (j:Nat) (a b:Int),cs[j]? = some (.int .i64 a)→cs[j+1]? = some (.int .i64 b)→False
theorem blk_cell {w:World} {B j:Nat} {cs:Array Value} {t:TypeId} {u:Value} (h:Blk w B cs t) (e:w.cell? ⟨B,j,none⟩=some u):cs[j]? = some u:=by
 simpa [World.cell?,show w.heap[B]? = _ from h] using e
theorem sl_set {w:World} {B j:Nat} {cs:Array Value} {t:TypeId} {u z:Value} {p:List Pt} (hB:Blk w B cs t) (ha:Apt w cs) (h:Sl w u p):Sl (w.setCell ⟨B,j,none⟩ z) u p:=by
 obtain ⟨rfl,a,c,rfl⟩ | ⟨b,o,c,rfl,hr⟩:=h
 ·exact Or.inl ⟨rfl,a,c,rfl⟩
 ·by_cases h0:0 < p.length
  ·have ne:b ≠ B:=fun e => by
    subst e
    exact ha.2 _ _ _ (blk_cell hB (hr.2 0 h0).1) (blk_cell hB (hr.2 0 h0).2)
   have g:=gb_set w B j z
   exact Or.inr ⟨b,o,c,rfl,Nat.lt_of_lt_of_le hr.1 g.size,fun i hi => ⟨World.grownBy.cell g (hr.2 i hi).1 (fun e => ne (Option.some.inj e)),World.grownBy.cell g (hr.2 i hi).2 (fun e => ne (Option.some.inj e))⟩⟩
  ·have e:p=[]:=List.length_eq_zero_iff.1 (by omega)
   subst e
   exact Or.inl ⟨rfl,_,_,rfl⟩
theorem rl_set {w:World} {B j:Nat} {cs:Array Value} {t:TypeId} {v z:Value} {L:Rgn} (hB:Blk w B cs t) (ha:Apt w cs) (h:Rl w v L) (hp:∀ p,p ∈ L→0 < p.length):Rl (w.setCell ⟨B,j,none⟩ z) v L:=by
 obtain ⟨h | ⟨b,o,c,rfl,hb,hr⟩,hd⟩:=h
 ·exact ⟨Or.inl h,hd⟩
 ·refine ⟨Or.inr ⟨b,o,c,rfl,Nat.lt_of_lt_of_le hb (gb_set w B j z).size,fun i hi => ?_⟩,hd⟩
  obtain ⟨u,e,s⟩:=hr i hi
  have ne:b ≠ B:=fun h => by
   subst h
   exact ha.1 _ _ _ (blk_cell hB e) (hp _ (Rg.nth_mem hi)) s
  exact ⟨u,World.grownBy.cell (gb_set w B j z) e (fun e => ne (Option.some.inj e)),sl_set hB ha s⟩
theorem rl_not {w:World} {v:Value} {L:Rgn} (h:Rl w v L) (h0:0 < L.length) {p:List Pt} (hp:0 < p.length):¬ Sl w v p:=fun s => by
 obtain ⟨e,_⟩ | ⟨b,o,c,rfl,hr⟩:=s
 ·rw [e] at hp;cases hp
 ·obtain ⟨b',o',e,hb,hR⟩:=h.row h0
  injection e with e
  injection e with e1 e2
  subst e1 e2
  obtain ⟨u,e,s⟩:=hR 0 h0
  have k:=(hr.2 0 hp).1
  rw [Nat.zero_mul,e] at k
  obtain ⟨a,n,rfl⟩:=s.shape
  injection k with k
  cases k
theorem mul_small {a x:Int} (ha:-1000≤a∧a≤1000) (hx:-500000≤x∧x≤500000):-500000000≤a * x∧a * x≤500000000:=by
 have h:(a * x).natAbs≤1000 * 500000:=by
  rw [Int.natAbs_mul]
  exact Nat.mul_le_mul (by omega) (by omega)
 omega
theorem halves1_c (x:Pt) (a b:Int) (X:Nat) (w:World) (hx:Plc x) (ha:-1000≤a∧a≤1000) (hb:-1000≤b∧b≤1000) (hX:Blk w X #[.int .i64 x.1,.int .i64 x.2] 24) :
  Calls Tryz.prog 80 (#[.int .i64 a,.int .i64 b] ++ #[.pointer (some ⟨X,0,none⟩)]) w fun e w' => e=.returned (.agg #[.int .i64 a,.int .i64 b,.int .i64 (a * x.1+b * x.2)])∧Grew w w':=by
 have m1:=mul_small ha hx.1
 have m2:=mul_small hb hx.2
 have W1:RowKit.wrap64 (a * x.1)=a * x.1:=IntWalk.wrap64_in _ ⟨by omega,by omega⟩
 have W2:RowKit.wrap64 (b * x.2)=b * x.2:=IntWalk.wrap64_in _ ⟨by omega,by omega⟩
 have W3:RowKit.wrap64 (a * x.1+b * x.2)=a * x.1+b * x.2:=IntWalk.wrap64_in _ ⟨by omega,by omega⟩
 obtain ⟨⟨x0,x1⟩,_,_⟩:=hX.two
 have lX:=hX.lt
 have lX1:X < w.heap.size+1:=by omega
 have nX:¬ X=w.heap.size:=by omega
 simp only [List.append_toArray,List.cons_append,List.nil_append]
 clear m1 m2
 go_enter Tryz.func80,Tryz.ntmps80
 go_wp2_with fail
 refine bodyPost_ret (v:=.agg #[.int .i64 a,.int .i64 b,.int .i64 (a * x.1+b * x.2)]) (by simp [results,Tryz.results80,go_sem,W1,W2,W3]) rfl ⟨rfl,gw⟩
theorem halves_c (x:Pt) (w:World):Calls Tryz.prog 43 #[.agg #[.int .i64 x.1,.int .i64 x.2]] w fun e w' => e=.returned (.func (.func 80) #[] #[.pointer (some ⟨w.heap.size,0,none⟩)])∧w.alloc (.cells #[.int .i64 x.1,.int .i64 x.2] 24)=w':=by
 go_enter Tryz.func43,Tryz.ntmps43
 go_wp2_with fail
 go_ret
 exact ⟨rfl,rfl⟩
def vwA (v:Value) (k:Int) (X:Nat):Array Value:=#[v,.int .i64 k,.func (.func 80) #[] #[.pointer (some ⟨X,0,none⟩)]]
theorem vw_apt {w:World} {a:Option Addr} {n c:Nat} {k:Int} {X:Nat} (h:∀ p,0 < p.length→¬ Sl w (.slice a n c) p):Apt w (vwA (.slice a n c) k X):=by
 have no:∀ (u:Value) (p:List Pt),(∀ a n c,u ≠ .slice a n c)→¬ Sl w u p:=fun u p hu s => by
  obtain ⟨a,c,e⟩:=s.shape
  exact hu _ _ _ e
 refine ⟨fun j u p e hp => ?_,fun j x y e1 e2 => ?_⟩
 ·unfold vwA at e
  match j with
  | 0 => obtain rfl:Value.slice a n c=u:=by simpa using e
         exact h p hp
  | 1 => obtain rfl:Value.int .i64 k=u:=by simpa using e
         exact no _ p (fun _ _ _ e => by cases e)
  | 2 => obtain rfl:Value.func (.func 80) #[] #[.pointer (some ⟨X,0,none⟩)]=u:=by simpa using e
         exact no _ p (fun _ _ _ e => by cases e)
  | j+3 => simp at e
 ·unfold vwA at e1 e2
  match j with
  | 0 => simp at e1
  | 1 => simp at e2
  | 2 => simp at e2
  | j+3 => simp at e1
theorem cutp_vl {L r:Rgn} {h:Hf} {k:Int} (g:CutP L h k r):VlR r∧r.length≤L.length:=by
 rcases g with ⟨_,_,rfl⟩ | ⟨b,_,c,hc,ht⟩
 ·exact ⟨⟨by simp,fun p hp => (by cases hp)⟩,Nat.zero_le _⟩
 ·exact ⟨Rg.tidy_vl (Rg.cut_vl b.1.2 hc) ht,Nat.le_trans (Rg.tidy_len ht) (Rg.cut_len hc)⟩
def CutS (L:Rgn) (h:Hf) (B X:Nat) (w:World) (e:Ending) (w':World):Prop:=e=.returned (.tuple #[])∧∃ v k r,CutP L h k r∧Blk w' B (vwA v k X) 73∧Rl w' v r∧Hl.Leaves w.heap.size B w w'
set_option maxRecDepth 100000 in
set_option maxHeartbeats 8000000 in
theorem cut_go (N:∀ (L:Rgn) (h:Hf) (v:Value) (w:World),Rl w v L→Calls Tryz.prog 81 #[v,.agg #[.int .i64 h.1,.int .i64 h.2.1,.int .i64 h.2.2]] w (AnsR (CutP L h) w)) (L:Rgn) (x:Pt) (a b:Int) (B X:Nat) (v:Value) (w:World) (hx:Plc x) (ha:-1000≤a∧a≤1000) (hb:-1000≤b∧b≤1000) (hX:Blk w X #[.int .i64 x.1,.int .i64 x.2] 24) (hB:Blk w B (vwA v 0 X) 73) (hr:Rl w v L) :
  Calls Tryz.prog 44 #[.pointer (some ⟨B,0,none⟩),.int .i64 a,.int .i64 b] w (CutS L (a,b,a * x.1+b * x.2) B X w):=by
 have HC:=Lib.hid (fun W (g:Grew w W) => halves1_c x a b X W hx ha hb (hX.grown g))
 simp only [List.append_toArray,List.cons_append,List.nil_append] at HC
 have CC:=Lib.hid (fun W (g:Grew w W) => N L (a,b,a * x.1+b * x.2) v W (hr.grown g))
 have RL:=Lib.hid hr
 have BV:=Lib.hid hB
 obtain ⟨va,vc,rfl⟩:=hr.shape
 obtain ⟨vn,hvn⟩:∃ n,L.length=n:=⟨_,rfl⟩
 rw [hvn] at CC BV RL hB
 have LN:=Lib.hid hvn
 simp only at CC
 unfold vwA at BV hB
 obtain ⟨⟨c0,c1,c2⟩,q0,q1,q2⟩:=blk3f hB
 have lB:=hB.lt
 generalize a * x.1+b * x.2=c at *
 clear hr hB hX hx ha hb hvn N q0 q1 q2
 go_enter Tryz.func44,Tryz.ntmps44
 go_wp2_with fail
 refine Bar.begin_ (S:=(fun w' => w'.cell? ⟨B,0,none⟩=some (.slice va vn vc)∧w'.cell? ⟨B,1,none⟩=some (.int .i64 0)∧w'.cell? ⟨B,2,none⟩=some (.func (.func 80) #[] #[.pointer (some ⟨X,0,none⟩)]))) 21 (by kernel_rfl) (by simp [go_sem, *]) (fun hHeld => ?_)
 refine Bar.Walk.takeY (i:=0) (oi:=⟨some 13,_,_,_,_,_⟩) (v:=?_) rfl (by kernel_rfl) (by kernel_rfl) (by kernel_rfl) rfl (fun _ _ _ h => h) (Or.inl ⟨by rfl,?_⟩) (by assumption) ?_
 rotate_left
 ·intro w;go_simp;(try with_reducible rfl)
 try simp only [Act.put,List.setIfInBounds_toArray,List.set_cons_zero,List.set_cons_succ]
 refine Bar.Walk.takeY (i:=1) (oi:=⟨some 14,_,_,_,_,_⟩) (v:=?_) rfl (by kernel_rfl) (by kernel_rfl) (by kernel_rfl) rfl (fun _ _ _ h => h) (Or.inl ⟨by rfl,?_⟩) (by assumption) ?_
 rotate_left
 ·intro w;go_simp;(try with_reducible rfl)
 try simp only [Act.put,List.setIfInBounds_toArray,List.set_cons_zero,List.set_cons_succ]
 refine Bar.Walk.takeY (i:=2) (oi:=⟨some 15,_,_,_,_,_⟩) (v:=?_) rfl (by kernel_rfl) (by kernel_rfl) (by kernel_rfl) rfl (fun _ _ _ h => h) (Or.inl ⟨by rfl,?_⟩) (by assumption) ?_
 rotate_left
 ·intro w;go_simp;(try with_reducible rfl)
 try simp only [Act.put,List.setIfInBounds_toArray,List.set_cons_zero,List.set_cons_succ]
 refine Bar.Walk.takeY (i:=3) (oi:=⟨some 16,_,_,_,_,_⟩) (v:=?_) rfl (by kernel_rfl) (by kernel_rfl) (by kernel_rfl) rfl (fun _ _ _ h => h) (Or.inl ⟨by rfl,?_⟩) (by assumption) ?_
 rotate_left
 ·intro w;go_simp;(try with_reducible rfl)
 try simp only [Act.put,List.setIfInBounds_toArray,List.set_cons_zero,List.set_cons_succ]
 refine Bar.Walk.takeY (i:=4) (oi:=⟨some 17,_,_,_,_,_⟩) (v:=?_) rfl (by kernel_rfl) (by kernel_rfl) (by kernel_rfl) rfl (fun _ _ _ h => h) (Or.inl ⟨by rfl,?_⟩) (by assumption) ?_
 rotate_left
 ·intro w;go_simp;(try with_reducible rfl)
 try simp only [Act.put,List.setIfInBounds_toArray,List.set_cons_zero,List.set_cons_succ]
 refine Bar.Walk.takeY (i:=5) (oi:=⟨some 18,_,_,_,_,_⟩) (v:=?_) rfl (by kernel_rfl) (by kernel_rfl) (by kernel_rfl) rfl (fun _ _ _ h => h) (Or.inl ⟨by rfl,?_⟩) (by assumption) ?_
 rotate_left
 ·intro w;go_simp;(try with_reducible rfl)
 try simp only [Act.put,List.setIfInBounds_toArray,List.set_cons_zero,List.set_cons_succ]
 refine Bar.Walk.take [21] (i:=6) (oi:=⟨some 19,_,_,_,_,_⟩) (v:=?_) rfl (by kernel_rfl) (by kernel_rfl) (by kernel_rfl) (by kernel_rfl) (fun _ _ _ h => h) (Or.inl ⟨by rfl,?_⟩) (by assumption) ?_
 rotate_left
 ·intro w hSw;(try dsimp only at hSw);go_simp;(try with_reducible rfl)
 try simp only [Act.put,List.setIfInBounds_toArray,List.set_cons_zero,List.set_cons_succ]
 refine Bar.Walk.takeY (i:=7) (oi:=⟨some 20,_,_,_,_,_⟩) (v:=?_) rfl (by kernel_rfl) (by kernel_rfl) (by kernel_rfl) rfl (fun _ _ _ h => h) (Or.inl ⟨by rfl,?_⟩) (by assumption) ?_
 rotate_left
 ·intro w;go_simp;(try with_reducible rfl)
 try simp only [Act.put,List.setIfInBounds_toArray,List.set_cons_zero,List.set_cons_succ]
 refine Bar.Walk.takeY (i:=8) (oi:=⟨some 21,_,_,_,_,_⟩) (v:=?_) rfl (by kernel_rfl) (by kernel_rfl) (by kernel_rfl) rfl (fun _ _ _ h => h) (Or.inl ⟨by rfl,?_⟩) (by assumption) ?_
 rotate_left
 ·intro w;go_simp;(try with_reducible rfl)
 try simp only [Act.put,List.setIfInBounds_toArray,List.set_cons_zero,List.set_cons_succ]
 refine Bar.Walk.takeY (i:=9) (oi:=⟨some 22,_,_,_,_,_⟩) (v:=?_) rfl (by kernel_rfl) (by kernel_rfl) (by kernel_rfl) rfl (fun _ _ _ h => h) (Or.inl ⟨by rfl,?_⟩) (by assumption) ?_
 rotate_left
 ·intro w;go_simp;(try with_reducible rfl)
 try simp only [Act.put,List.setIfInBounds_toArray,List.set_cons_zero,List.set_cons_succ]
 refine Bar.Walk.take [21] (i:=10) (oi:=⟨some 23,_,_,_,_,_⟩) (v:=?_) rfl (by kernel_rfl) (by kernel_rfl) (by kernel_rfl) (by kernel_rfl) (fun _ _ _ h => h) (Or.inl ⟨by rfl,?_⟩) (by assumption) ?_
 rotate_left
 ·intro w hSw;(try dsimp only at hSw);go_simp;(try with_reducible rfl)
 try simp only [Act.put,List.setIfInBounds_toArray,List.set_cons_zero,List.set_cons_succ]
 refine Bar.Walk.takeY (i:=11) (oi:=⟨some 24,_,_,_,_,_⟩) (v:=?_) rfl (by kernel_rfl) (by kernel_rfl) (by kernel_rfl) rfl (fun _ _ _ h => h) (Or.inl ⟨by rfl,?_⟩) (by assumption) ?_
 rotate_left
 ·intro w;go_simp;(try with_reducible rfl)
 try simp only [Act.put,List.setIfInBounds_toArray,List.set_cons_zero,List.set_cons_succ]
 refine Bar.Walk.takeY (i:=12) (oi:=⟨some 25,_,_,_,_,_⟩) (v:=?_) rfl (by kernel_rfl) (by kernel_rfl) (by kernel_rfl) rfl (fun _ _ _ h => h) (Or.inl ⟨by rfl,?_⟩) (by assumption) ?_
 rotate_left
 ·intro w;go_simp;(try with_reducible rfl)
 try simp only [Act.put,List.setIfInBounds_toArray,List.set_cons_zero,List.set_cons_succ]
 refine Bar.Walk.step (i:=13) (o:=⟨some 26,_,_,_,_,_⟩) (by kernel_rfl) rfl (fun K hK => ?_)
 go_simp
 refine (HC.out _ (Grew.drew (Grew.refl _))).mono ?_
 rintro e w1 ⟨rfl,g1⟩
 have G1:=Lib.hid (Grew.trans (Grew.drew (Grew.refl w)) g1)
 have B1:=BV.out.grown G1.out
 obtain ⟨⟨k0,k1,k2⟩,f0,f1,f2⟩:=blk3f B1
 clear g1
 go_wp2_with fail
 refine hK.out _ _ (by (try dsimp only);simp [go_sem, *]) (fun h1 => ?_)
 clear hK K hHeld
 have hHeld:=h1
 clear h1
 try simp only [Act.put,List.setIfInBounds_toArray,List.set_cons_zero,List.set_cons_succ]
 refine Bar.Walk.step (i:=14) (o:=⟨some 27,_,_,_,_,_⟩) (by kernel_rfl) rfl (fun K hK => ?_)
 go_simp
 refine (CC.out _ G1.out).mono ?_
 rintro e w2 ⟨u,k,r,hp,rfl,hr,g2⟩
 have G2:=Lib.hid (Grew.trans G1.out g2)
 have R2:=Lib.hid hr
 have HP:=Lib.hid hp
 have B2:=BV.out.grown G2.out
 obtain ⟨⟨k0,k1,k2⟩,f0,f1,f2⟩:=blk3f B2
 have lB2:=B2.lt
 obtain ⟨ua,uc,rfl⟩:=hr.shape
 clear g2 hr hp
 go_wp2_with fail
 refine hK.out _ _ (by (try dsimp only);simp [go_sem, *]) (fun h1 => ?_)
 clear hK K hHeld
 have hHeld:=h1
 clear h1
 try simp only [Act.put,List.setIfInBounds_toArray,List.set_cons_zero,List.set_cons_succ]
 refine Bar.Walk.takeY (i:=15) (oi:=⟨some 12,_,_,_,_,_⟩) (v:=?_) rfl (by kernel_rfl) (by kernel_rfl) (by kernel_rfl) rfl (fun _ _ _ h => h) (Or.inl ⟨by rfl,?_⟩) (by assumption) ?_
 rotate_left
 ·intro w;go_simp;(try with_reducible rfl)
 try simp only [Act.put,List.setIfInBounds_toArray,List.set_cons_zero,List.set_cons_succ]
 refine Bar.Walk.takeY (i:=16) (oi:=⟨some 28,_,_,_,_,_⟩) (v:=?_) rfl (by kernel_rfl) (by kernel_rfl) (by kernel_rfl) rfl (fun _ _ _ h => h) (Or.inl ⟨by rfl,?_⟩) (by assumption) ?_
 rotate_left
 ·intro w;go_simp;(try with_reducible rfl)
 try simp only [Act.put,List.setIfInBounds_toArray,List.set_cons_zero,List.set_cons_succ]
 refine Bar.Walk.takeY (i:=17) (oi:=⟨some 29,_,_,_,_,_⟩) (v:=?_) rfl (by kernel_rfl) (by kernel_rfl) (by kernel_rfl) rfl (fun _ _ _ h => h) (Or.inl ⟨by rfl,?_⟩) (by assumption) ?_
 rotate_left
 ·intro w;go_simp;(try with_reducible rfl)
 try simp only [Act.put,List.setIfInBounds_toArray,List.set_cons_zero,List.set_cons_succ]
 refine Bar.Walk.takeY (i:=18) (oi:=⟨some 30,_,_,_,_,_⟩) (v:=?_) rfl (by kernel_rfl) (by kernel_rfl) (by kernel_rfl) rfl (fun _ _ _ h => h) (Or.inl ⟨by rfl,?_⟩) (by assumption) ?_
 rotate_left
 ·intro w;go_simp;(try with_reducible rfl)
 try simp only [Act.put,List.setIfInBounds_toArray,List.set_cons_zero,List.set_cons_succ]
 refine Bar.Walk.takeY (i:=19) (oi:=⟨some 31,_,_,_,_,_⟩) (v:=?_) rfl (by kernel_rfl) (by kernel_rfl) (by kernel_rfl) rfl (fun _ _ _ h => h) (Or.inl ⟨by rfl,?_⟩) (by assumption) ?_
 rotate_left
 ·intro w;go_simp;(try with_reducible rfl)
 try simp only [Act.put,List.setIfInBounds_toArray,List.set_cons_zero,List.set_cons_succ]
 refine Bar.Walk.takeY (i:=20) (oi:=⟨some 32,_,_,_,_,_⟩) (v:=?_) rfl (by kernel_rfl) (by kernel_rfl) (by kernel_rfl) rfl (fun _ _ _ h => h) (Or.inl ⟨by rfl,?_⟩) (by assumption) ?_
 rotate_left
 ·intro w;go_simp;(try with_reducible rfl)
 try simp only [Act.put,List.setIfInBounds_toArray,List.set_cons_zero,List.set_cons_succ]
 refine Bar.Walk.pass (o:=⟨none,_,_,_,_,_⟩) (by kernel_rfl) rfl (by kernel_rfl) (fun K hK => ?_)
 go_simp
 refine hK.out _ _ ?_
 clear hK K hHeld
 try simp only [Act.put,List.setIfInBounds_toArray,List.set_cons_zero,List.set_cons_succ]
 refine wpAny_take (i:=22) (oi:=⟨some 33,_,_,_,_,_⟩) (v:=?_) rfl (by kernel_rfl) (by kernel_rfl) (by kernel_rfl) (fun _ _ _ h => h) (Or.inl ⟨by rfl,?_⟩) ?_
 rotate_left
 ·intro w;go_simp;(try with_reducible rfl)
 try simp only [Act.put,List.setIfInBounds_toArray,List.set_cons_zero,List.set_cons_succ]
 refine wpAny_take (i:=23) (oi:=⟨some 34,_,_,_,_,_⟩) (v:=?_) rfl (by kernel_rfl) (by kernel_rfl) (by kernel_rfl) (fun _ _ _ h => h) (Or.inl ⟨by rfl,?_⟩) ?_
 rotate_left
 ·intro w;go_simp;(try with_reducible rfl)
 try simp only [Act.put,List.setIfInBounds_toArray,List.set_cons_zero,List.set_cons_succ]
 refine wpAny_take (i:=24) (oi:=⟨some 35,_,_,_,_,_⟩) (v:=?_) rfl (by kernel_rfl) (by kernel_rfl) (by kernel_rfl) (fun _ _ _ h => h) (Or.inl ⟨by rfl,?_⟩) ?_
 rotate_left
 ·intro w;go_simp;(try with_reducible rfl)
 try simp only [Act.put,List.setIfInBounds_toArray,List.set_cons_zero,List.set_cons_succ]
 refine Bar.any_step (i:=25) (o:=⟨none,_,_,_,_,_⟩) (by kernel_rfl) rfl (fun K hK => ?_)
 go_simp
 refine hK.out _ _ ?_
 clear hK K
 try simp only [Act.put,List.setIfInBounds_toArray,List.set_cons_zero,List.set_cons_succ]
 refine wpAny_done (by kernel_rfl) ?_ _
 go_wp2_with fail
 go_end0
 have PV:∀ p,p ∈ r→0 < p.length:=fun p hp => ((cutp_vl HP.out).1.2 p hp).1.1
 have B3:Blk (w2.setCell ⟨B,0,none⟩ (.slice ua r.length uc)) B (vwA (.slice ua r.length uc) 0 X) 73:=B2.set (o:=0) (.slice ua r.length uc)
 have B4:Blk ((w2.setCell ⟨B,0,none⟩ (.slice ua r.length uc)).setCell ⟨B,1,none⟩ (.int .i64 k)) B (vwA (.slice ua r.length uc) k X) 73:=B3.set (o:=1) (.int .i64 k)
 refine ⟨rfl,_,k,r,HP.out,B4,?_,(((Hl.Leaves.refl _ _ _).grew G2.out (Nat.le_refl _)).grown (gb_set _ B 0 _) G2.out.size (fun j e => by cases e;exact Or.inr rfl)).grown (gb_set _ B 1 _) (Nat.le_trans G2.out.size (gb_set w2 B 0 (.slice ua r.length uc)).size) (fun j e => by cases e;exact Or.inr rfl)⟩
 by_cases h0:r.length=0
 ·obtain rfl:=List.length_eq_zero_iff.1 h0
  exact Rl.nil _ _ _
 ·have L0:0 < L.length:=by have:=(cutp_vl HP.out).2;omega
  have s1:=rl_set (j:=0) (z:=.slice ua r.length uc) B2 (vw_apt (k:=0) (X:=X) (fun p hp => rl_not (RL.out.grown G2.out) L0 hp)) R2.out PV
  exact rl_set (j:=1) (z:=.int .i64 k) B3 (vw_apt (fun p hp => rl_not s1 (by omega) hp)) s1 PV
end Rn
end Go.Proofs.YtbpgfenippiepaaGreatDoor
namespace Go.Proofs.YtbpgfenippiepaaGreatDoor
open Hl Rg
open Ct (Hf)
namespace Rn
theorem near_vl {L:Rgn} {x:Pt} {lo hi k:Int} {r:Rgn} (h:NearP L x lo hi k r):VlR r:=by
 rcases h with ⟨_,_,rfl⟩ | ⟨b,⟨_,rfl,_⟩ | ⟨_,c,m,hc,hm,t⟩⟩
 ·exact ⟨by simp,fun p hp => (by cases hp)⟩
 ·exact ⟨by simp,fun p hp => (by cases hp)⟩
 ·exact tidy_vl (met_vl b.2 (ringp_vl hc).2 hm) t
theorem dist_of {lo hi:Int} (h:0≤lo∧lo≤hi∧hi≤100000):Dst lo hi:=h
theorem ex_a {k:Int} {r:Rgn} (h:RingP (30,40) 50 50 k r):k=0∧InR r (0,0):=by
 have hd:Dst 50 50:=dist_of (by decide)
 obtain ⟨e,L,c,t⟩:=ring_fits hd h (by decide) 60 (by decide) (by decide) (by decide)
 exact ⟨e,ring_has hd c t (by decide) (by decide)⟩
theorem ex_b {k:Int} {r:Rgn} (h:RingP (30,40) 60 70 k r):k=0∧¬ InR r (0,0):=by
 have hd:Dst 60 70:=dist_of (by decide)
 obtain ⟨e,L,c,t⟩:=ring_fits hd h (by decide) 80 (by decide) (by decide) (by decide)
 refine ⟨e,fun i => ?_⟩
 rcases (ring_tight hd c t i).2 with g | g
 ·exact absurd g (by decide)
 ·exact absurd g (by decide)
theorem sing_vl {l:List Pt} (hl:l.length≤20) (h:l.all (fun y => decide (Plc y))=true):VlR (sing l):=(sing_plcs hl).2 fun y hy => of_decide_eq_true (List.all_eq_true.1 h y hy)
theorem ones_one {r:Rgn} {z:Pt} (h:∀ p,p ∈ r→p=[z]) (hk:kept r=r) (hz:[z] ∈ r):r=sing [z]:=by
 have f:=kept_free r
 rw [hk] at f
 match r,h,f,hz with
 | [],_,_,hz => cases hz
 | [p],h,_,_ => rw [h p (by simp)];rfl
 | p :: q :: r,h,f,_ =>
   have ep:=h p (by simp)
   have eq:=h q (by simp)
   have:=(List.pairwise_cons.1 f).1 q (by simp)
   rw [ep,eq] at this
   exact absurd (fun y hy => by rw [List.mem_singleton.1 hy];exact one_hs.2 rfl) this.1
theorem cutr_kept {L:Rgn} {h:Hf} {r:Rgn} (hl:L.length≤32) (g:CutR L h r):kept r=r:=by
 obtain ⟨c,hc,t⟩:=g
 have len:=cut_len hc
 rw [tidy_same (by omega) t,kept_twice]
theorem ex_c {k:Int} {r:Rgn} (h:WedP (sing [(0,0),(0,90),(200,200)]) (100,100) 7 2 k r):k=0∧r=sing [(0,0)]:=by
 have hv:VlR (sing [(0,0),(0,90),(200,200)]):=sing_vl (by decide) (by decide)
 rcases h with ⟨b,_⟩ | ⟨b,e,h⟩
 ·exact absurd ⟨⟨hv,by decide⟩,by decide,by decide⟩ b
 ·refine ⟨e,?_⟩
  have only:∀ y,InR r y→y=(0,0):=fun y hy => by
   obtain ⟨i,s⟩:=h.only (a:=7) (n:=2) (by decide) (by decide) (by decide) (sing_ones _) hy
   have m:=sing_in.1 i
   simp only [List.mem_cons,List.mem_nil_iff,or_false] at m
   rcases m with rfl | rfl | rfl
   ·rfl
   ·exact absurd s (by decide)
   ·exact absurd s (by decide)
  have is:InR r (0,0):=h.has (a:=7) (n:=2) (by decide) (by decide) hv.2 (sing_in.2 (by simp)) (by decide)
  obtain ⟨r1,r2,h1,h2,h3⟩:=h
  obtain ⟨a1,a2,a3,a4⟩:=cutr_ones (by decide) (sing_ones _) h1
  obtain ⟨b1,b2,b3,b4⟩:=cutr_ones a3 a4 h2
  rcases h3 with ⟨_,rfl⟩ | ⟨z,_⟩
  ·refine ones_one (fun p hp => ?_) (cutr_kept a3 h2) ((ones_in b4).1 is)
   obtain ⟨z,rfl⟩:=b4 p hp
   rw [only z ((ones_in b4).2 hp)]
  ·exact absurd z (by decide)
theorem ex_d {k:Int} {r:Rgn} (h:NearP (sing [(0,0),(1,1)]) (30,40) 50 60 k r):k=0∧InR r (0,0):=by
 have hv:VlR (sing [(0,0),(1,1)]):=sing_vl (by decide) (by decide)
 have hd:Dst 50 60:=dist_of (by decide)
 rcases h with ⟨b,_⟩ | ⟨_,⟨n,_,h⟩ | ⟨e,c,m,h,hm,t⟩⟩
 ·exact absurd hv b
 ·exact absurd (ring_fits hd h (by decide) 70 (by decide) (by decide) (by decide)).1 n
 ·obtain ⟨_,L,cc,ct⟩:=ring_fits hd h (by decide) 70 (by decide) (by decide) (by decide)
  exact ⟨e,tidy_has (met_vl hv.2 (ringp_vl h).2 hm) t (met_has hv.2 (ringp_vl h).2 hm (sing_in.2 (by simp)) (ring_has hd cc ct (by decide) (by decide)))⟩
theorem ex_i {k:Int} {r:Rgn} (h:RingP (499990,0) 0 20 k r):k=3:=by
 have hd:Dst 0 20:=dist_of (by decide)
 rcases h with ⟨b,_⟩ | ⟨_,⟨_,e,_⟩ | ⟨_,L,c,_⟩⟩
 ·exact absurd ⟨by decide,hd⟩ b
 ·exact e
 ·obtain ⟨q,a,b,p⟩:=c.2 0 (by decide)
  have i:Hs q (21,0):=a.2.2 _ (Ry.mem_sec.2 (Or.inr (Or.inr ⟨0,by decide,Ry.mem_bx.2 (by decide)⟩)))
  have j:=(Mk.shift_hs a.1 (499990,0) (21,0)).2 i
  have g:=Mk.has_plc (Mk.shift_pg a.1 _) p j
  exact absurd g (by decide)
theorem ex_j {k:Int} {r:Rgn} (h:RingP (0,0) 3 2 k r):k=1:=by
 rcases h with ⟨_,e,_⟩ | ⟨b,_⟩
 ·exact e
 ·exact absurd b.2.2.1 (by decide)
end Rn
end Go.Proofs.YtbpgfenippiepaaGreatDoor
