/-
  64 directions, plain: the sides of a vector, the ray that is found for it, and what lies between two rays.
  Plain: what is no corner of a hull, and how many corners there are at most.
-/
import Derived.Test.YtbpgfenippiepaaGreatDoorHullGeo
namespace Go.Proofs.YtbpgfenippiepaaGreatDoor
namespace Ry
open Hl
def qL:List Pt:=[(1000,0),(995,98),(981,195),(957,290),(924,383),(882,471),(831,556),(773,634),(707,707),(634,773),(556,831),(471,882),(383,924),(290,957),(195,981),(98,995),(0,1000)]
def q0 (j:Nat):Pt:=qL.getD j (0,0)
def lf (x:Pt):Pt:=(-x.2,x.1)
def tn:Nat→Pt→Pt
 | 0,x => x
 | n+1,x => lf (tn n x)
def dir (k:Nat):Pt:=tn (k / 16) (q0 (k % 16))
def xc (a b:Pt):Int:=a.1 * b.2 - a.2 * b.1
def dd (a b:Pt):Int:=a.1 * b.1+a.2 * b.2
def sd (k:Nat) (v:Pt):Int:=xc (dir k) v
def On (k:Nat) (v:Pt):Prop:=sd k v=0∧sd (k+16) v < 0
def Lies (a n:Nat) (v:Pt):Prop:=On a v∨(0 < n∧0≤sd a v∧sd (a+n) v≤0)
instance (k:Nat) (v:Pt):Decidable (On k v):=by unfold On;infer_instance
instance (a n:Nat) (v:Pt):Decidable (Lies a n v):=by unfold Lies;infer_instance
theorem lf4 (x:Pt):lf (lf (lf (lf x)))=x:=by unfold lf;simp
theorem dir_16 (k:Nat):dir (k+16)=lf (dir k):=by
 unfold dir
 rw [Nat.add_div_right _ (by decide),Nat.add_mod_right]
 rfl
theorem dir_32 (k:Nat):dir (k+32)=(-(dir k).1,-(dir k).2):=by
 rw [show k+32=k+16+16 by omega,dir_16,dir_16]
 rfl
theorem dir_64 (k:Nat):dir (k+64)=dir k:=by
 rw [show k+64=k+16+16+16+16 by omega,dir_16,dir_16,dir_16,dir_16,lf4]
theorem dir_mod {k:Nat} (h:k < 128):dir (k % 64)=dir k:=by
 by_cases h1:k < 64
 ·rw [Nat.mod_eq_of_lt h1]
 ·obtain ⟨j,rfl⟩:∃ j,k=j+64:=⟨k - 64,by omega⟩
  rw [Nat.add_mod_right,Nat.mod_eq_of_lt (by omega),dir_64]
theorem dir_rep (m j:Nat) (h:j≤16):dir (16 * m+j)=tn m (q0 j):=by
 by_cases h1:j < 16
 ·unfold dir
  rw [show (16 * m+j) / 16=m by omega,show (16 * m+j) % 16=j by omega]
 ·obtain rfl:j=16:=by omega
  rw [dir_16]
  unfold dir
  rw [show 16 * m / 16=m by omega,show 16 * m % 16=0 by omega]
  have e:q0 16=lf (q0 0):=rfl
  rw [e]
  generalize q0 0=z
  induction m with
  | zero => rfl
  | succ m ih => show lf (lf (tn m z))=lf (tn m (lf z));rw [ih]
def tabOk (i k:Nat):Bool :=
 let d:=(k+64 - i) % 64
 let c:=xc (dir i) (dir k)
 if d == 0 || d == 32 then c == 0 else if d < 32 then decide (0 < c) else decide (c < 0)
theorem tab_all:((List.range 64).all fun i => (List.range 64).all fun k => tabOk i k)=true:=by decide +kernel
theorem tab {i k:Nat} (hi:i < 64) (hk:k < 64):tabOk i k=true:=by
 have h:=List.all_eq_true.1 tab_all i (List.mem_range.2 hi)
 exact List.all_eq_true.1 h k (List.mem_range.2 hk)
theorem xc_sign {i k:Nat} (hi:i < 128) (hk:k < 128):((k+128 - i) % 64=0∨(k+128 - i) % 64=32→xc (dir i) (dir k)=0)∧(1≤(k+128 - i) % 64→(k+128 - i) % 64≤31→0 < xc (dir i) (dir k))∧(33≤(k+128 - i) % 64→xc (dir i) (dir k) < 0):=by
 have t:=tab (Nat.mod_lt i (show 0 < 64 by decide)) (Nat.mod_lt k (show 0 < 64 by decide))
 unfold tabOk at t
 rw [dir_mod hi,dir_mod hk] at t
 have e:(k % 64+64 - i % 64) % 64=(k+128 - i) % 64:=by omega
 rw [e] at t
 generalize xc (dir i) (dir k)=c at t ⊢
 generalize hd:(k+128 - i) % 64=d at t ⊢
 simp only at t
 refine ⟨fun h => ?_,fun h1 h2 => ?_,fun h => ?_⟩
 ·rw [if_pos (by rcases h with h | h <;> subst h <;> rfl)] at t
  simpa using t
 ·rw [if_neg (by simp;omega),if_pos (by omega)] at t
  simpa using t
 ·rw [if_neg (by simp;omega),if_neg (by omega)] at t
  simpa using t
theorem plk (a b c v:Pt):xc a b * xc c v = -(xc b v) * xc c a+xc a v * xc c b:=by unfold xc;grind
theorem pos_of {d s:Int} (hd:0 < d) (h:0 < d * s):0 < s:=by
 by_cases e:0 < s
 ·exact e
 ·have:=Int.mul_le_mul_of_nonneg_left (show s≤0 by omega) (Int.le_of_lt hd)
  omega
theorem neg_of {d s:Int} (hd:0 < d) (h:d * s < 0):s < 0:=by
 by_cases e:s < 0
 ·exact e
 ·have:=Int.mul_nonneg (Int.le_of_lt hd) (show 0≤s by omega)
  omega
structure Fd (v:Pt) (k:Nat):Prop where
 lt:k < 64
 ge:0≤sd k v
 le:sd (k+1) v < 0
theorem sd_32 (k:Nat) (v:Pt):sd (k+32) v = -(sd k v):=by
 unfold sd
 rw [dir_32]
 unfold xc
 simp only
 grind
theorem sd_64 (k:Nat) (v:Pt):sd (k+64) v=sd k v:=by unfold sd;rw [dir_64]
theorem sd_mod {k:Nat} (v:Pt) (h:k < 128):sd (k % 64) v=sd k v:=by unfold sd;rw [dir_mod h]
theorem Fd.sign {v:Pt} {k:Nat} (f:Fd v k) {i:Nat} (hi:i < 128):((k+128 - i) % 64=0→sd i v=sd k v)∧((k+128 - i) % 64=32→sd i v = -(sd k v))∧(1≤(k+128 - i) % 64→(k+128 - i) % 64≤31→0 < sd i v)∧(33≤(k+128 - i) % 64→sd i v < 0):=by
 have hk:=f.lt
 have D:0 < xc (dir k) (dir (k+1)):=(xc_sign (i:=k) (k:=k+1) (by omega) (by omega)).2.1 (by omega) (by omega)
 have p:=plk (dir k) (dir (k+1)) (dir i) v
 have a:0 < -(sd (k+1) v):=by have:=f.le;omega
 have b:=f.ge
 change _ * sd i v = -(sd (k+1) v) * _+sd k v * _ at p
 have s1:=xc_sign (i:=i) (k:=k) hi (by omega)
 have s2:=xc_sign (i:=i) (k:=k+1) hi (by omega)
 have e:(k+1+128 - i) % 64=((k+128 - i) % 64+1) % 64:=by omega
 rw [e] at s2
 refine ⟨fun h => ?_,fun h => ?_,fun h1 h2 => ?_,fun h => ?_⟩
 ·rw [← sd_mod v hi,show i % 64=k by omega]
 ·by_cases g:i % 64 < 32
  ·have:=sd_32 (i % 64) v
   rw [show i % 64+32=k by omega,sd_mod v hi] at this
   omega
  ·have:=sd_32 k v
   rw [show k+32=i % 64 by omega,sd_mod v hi] at this
   exact this
 ·refine pos_of D ?_
  rw [p]
  have t1:=Int.mul_pos a (s1.2.1 h1 h2)
  have t2:0≤sd k v * xc (dir i) (dir (k+1)):=Int.mul_nonneg b (by
   by_cases g:(k+128 - i) % 64=31
   ·rw [s2.1 (by omega)];exact Int.le_refl _
   ·exact Int.le_of_lt (s2.2.1 (by omega) (by omega)))
  omega
 ·refine neg_of D ?_
  rw [p]
  have t1:=Int.mul_neg_of_pos_of_neg a (s1.2.2 h)
  have t2:sd k v * xc (dir i) (dir (k+1))≤0:=by
   by_cases g:(k+128 - i) % 64=63
   ·rw [s2.1 (by omega),Int.mul_zero];exact Int.le_refl _
   ·exact Int.mul_nonpos_of_nonneg_of_nonpos b (Int.le_of_lt (s2.2.2 (by omega)))
  omega
theorem Fd.on_iff {v:Pt} {k:Nat} (f:Fd v k) {i:Nat} (hi:i < 112):On i v↔((k+128 - i) % 64=0∧sd k v=0):=by
 obtain ⟨a1,a2,a3,a4⟩:=f.sign (i:=i) (by omega)
 obtain ⟨b1,b2,b3,b4⟩:=f.sign (i:=i+16) (by omega)
 have e:(k+128 - (i+16)) % 64=((k+128 - i) % 64+48) % 64:=by omega
 rw [e] at b1 b2 b3 b4
 have g:=f.ge
 unfold On
 have hm:=Nat.mod_lt (k+128 - i) (show 0 < 64 by decide)
 generalize (k+128 - i) % 64=d at *
 generalize sd i v=x at *
 generalize sd (i+16) v=y at *
 generalize sd k v=z at *
 constructor
 ·rintro ⟨h1,h2⟩
  by_cases d0:d=0
  ·exact ⟨d0,by omega⟩
  ·exfalso
   by_cases d1:d≤31
   ·have:=a3 (by omega) d1;omega
   ·by_cases d2:d=32
    ·have:=b3 (by omega) (by omega);omega
    ·have:=a4 (by omega);omega
 ·rintro ⟨rfl,h2⟩
  exact ⟨by have:=a1 rfl;omega,b4 (by omega)⟩
theorem Fd.lies_iff {v:Pt} {k:Nat} (f:Fd v k) {a n:Nat} (ha:a < 64) (hn:n≤31):Lies a n v↔((k+64 - a) % 64 < n∨((k+64 - a) % 64=n∧sd k v=0)):=by
 obtain ⟨a1,a2,a3,a4⟩:=f.sign (i:=a) (by omega)
 obtain ⟨b1,b2,b3,b4⟩:=f.sign (i:=a+n) (by omega)
 have o:=f.on_iff (i:=a) (by omega)
 have g:=f.ge
 unfold Lies
 rw [o]
 have e0:(k+128 - a) % 64=(k+64 - a) % 64:=by omega
 have e:(k+128 - (a+n)) % 64=((k+64 - a) % 64+64 - n) % 64:=by omega
 rw [e] at b1 b2 b3 b4
 rw [e0] at a1 a2 a3 a4 ⊢
 have hm:=Nat.mod_lt (k+64 - a) (show 0 < 64 by decide)
 clear o e e0
 generalize (k+64 - a) % 64=d at *
 generalize sd a v=x at *
 generalize sd (a+n) v=y at *
 generalize sd k v=z at *
 constructor
 ·rintro (⟨h1,h2⟩ | ⟨h0,h1,h2⟩)
  ·omega
  ·by_cases dn:d < n
   ·exact Or.inl dn
   ·by_cases de:d=n
    ·have:=b1 (by omega);exact Or.inr ⟨de,by omega⟩
    ·exfalso
     by_cases d1:d≤31
     ·have:=b3 (by omega) (by omega);omega
     ·by_cases d2:d=32
      ·have:=b3 (by omega) (by omega);omega
      ·have:=a4 (by omega);omega
 ·rintro (h | ⟨h,hz⟩)
  ·refine Or.inr ⟨by omega,?_,?_⟩
   ·by_cases d0:d=0
    ·have:=a1 d0;omega
    ·have:=a3 (by omega) (by omega);omega
   ·by_cases d0:d+32=n
    ·omega
    ·have:=b4 (by omega);omega
  ·by_cases n0:n=0
   ·exact Or.inl ⟨by omega,hz⟩
   ·refine Or.inr ⟨by omega,?_,?_⟩
    ·have:=a3 (by omega) (by omega);omega
    ·have:=b1 (by omega);omega
theorem Fd.one {v:Pt} {k j:Nat} (f:Fd v k) (g:Fd v j):j=k:=by
 have hk:=f.lt
 have hj:=g.lt
 obtain ⟨a1,a2,a3,a4⟩:=f.sign (i:=j) (by omega)
 obtain ⟨b1,b2,b3,b4⟩:=f.sign (i:=j+1) (by omega)
 have:=g.ge
 have:=g.le
 have:=f.ge
 have e:(k+128 - (j+1)) % 64=((k+128 - j) % 64+63) % 64:=by omega
 rw [e] at b1 b2 b3 b4
 have hd:(k+128 - j) % 64=0:=by
  have hm:=Nat.mod_lt (k+128 - j) (show 0 < 64 by decide)
  generalize (k+128 - j) % 64=d at *
  by_cases d0:d=0
  ·exact d0
  ·exfalso
   by_cases d1:d≤32
   ·by_cases d2:d=1
    ·have:=b1 (by omega);omega
    ·have:=b3 (by omega) (by omega);omega
   ·have:=a4 (by omega);omega
 omega
theorem sd_zero (v:Pt):sd 0 v=1000 * v.2:=by unfold sd xc;rw [show dir 0=(1000,0) from rfl];simp only;omega
theorem sd_16 (v:Pt):sd 16 v = -1000 * v.1:=by unfold sd xc;rw [show dir 16=(0,1000) from rfl];simp only;omega
theorem found {v:Pt} (hv:v ≠ (0,0)):∃ k,Fd v k:=by
 by_cases h:∃ k,Fd v k
 ·exact h
 ·exfalso
  have up:∀ k,k < 64→0≤sd k v→0≤sd (k+1) v:=fun k hk h0 => by
   by_cases e:0≤sd (k+1) v
   ·exact e
   ·exact absurd ⟨k,hk,h0,by omega⟩ h
  by_cases h0:0≤sd 0 v
  ·have all:∀ k,k≤64→0≤sd k v:=by
    intro k
    induction k with
    | zero => exact fun _ => h0
    | succ k ih => exact fun hk => up k (by omega) (ih (by omega))
   have c1:=sd_32 0 v
   have c2:=sd_32 16 v
   have d1:=all (0+32) (by omega)
   have d2:=all (16+32) (by omega)
   have d3:=all 16 (by omega)
   have e1:=sd_zero v
   have e2:=sd_16 v
   exact hv (Prod.ext (by simp only;omega) (by simp only;omega))
  ·have all:∀ k,k≤64→sd (64 - k) v < 0:=by
    intro k
    induction k with
    | zero => intro _;rw [show 64 - 0=0+64 by rfl,sd_64];omega
    | succ k ih =>
      intro hk
      by_cases e:sd (64 - (k+1)) v < 0
      ·exact e
      ·have:=up (64 - (k+1)) (by omega) (by omega)
       rw [show 64 - (k+1)+1=64 - k by omega] at this
       have:=ih (by omega)
       omega
   have c1:=sd_32 0 v
   have d1:=all 32 (by omega)
   rw [show 64 - 32=0+32 by rfl] at d1
   omega
end Ry
end Go.Proofs.YtbpgfenippiepaaGreatDoor
namespace Go.Proofs.YtbpgfenippiepaaGreatDoor
namespace Ry
open Hl
theorem af_comb (u v k a b c:Int) (x A B C:Pt) (hx:a * (A.1 - x.1)+b * (B.1 - x.1)+c * (C.1 - x.1)=0) (hy:a * (A.2 - x.2)+b * (B.2 - x.2)+c * (C.2 - x.2)=0) :
  a * af u v k A+b * af u v k B+c * af u v k C=(a+b+c) * af u v k x:=by
 unfold af
 have e1:u * (a * (A.1 - x.1)+b * (B.1 - x.1)+c * (C.1 - x.1))=0:=by rw [hx,Int.mul_zero]
 have e2:v * (a * (A.2 - x.2)+b * (B.2 - x.2)+c * (C.2 - x.2))=0:=by rw [hy,Int.mul_zero]
 grind
theorem zero_of {a f:Int} (ha:0 < a) (h:a * f=0):f=0:=by
 rcases Int.mul_eq_zero.1 h with e | e
 ·omega
 ·exact e
theorem zeros {p q r:Int} (hp:0≤p) (hq:0≤q) (hr:0≤r) (h:p+q+r=0):p=0∧q=0∧r=0:=by omega
theorem kill {l q:List Pt} (h:IsHull l q) (h3:3≤q.length) {x A B C:Pt} (hx:x ∈ q) (hA:A ∈ l) (hB:B ∈ l) (hC:C ∈ l) {a b c:Int} (ha:0≤a) (hb:0≤b) (hc:0≤c)
  (ex:a * (A.1 - x.1)+b * (B.1 - x.1)+c * (C.1 - x.1)=0) (ey:a * (A.2 - x.2)+b * (B.2 - x.2)+c * (C.2 - x.2)=0):(0 < a→A=x)∧(0 < b→B=x)∧(0 < c→C=x):=by
 obtain ⟨i,hi,rfl⟩:=mem_at hx
 have hP:=h.1.2.2 (by omega)
 have ins:∀ y,y ∈ l→Ins q.length (at' q) y:=fun y hy => by
  have:=h.2.2 y hy
  unfold Hs at this
  rwa [if_neg (by omega),if_neg (by omega)] at this
 have f:∀ y,y ∈ l→0≤cr (at' q (pv q.length i)) (at' q i) y:=fun y hy => ins_pv (ins y hy) hi
 have g:∀ y,y ∈ l→0≤cr (at' q i) (at' q ((i+1) % q.length)) y:=fun y hy => ins y hy i hi
 have z1:a * cr (at' q (pv q.length i)) (at' q i) A+b * cr (at' q (pv q.length i)) (at' q i) B+c * cr (at' q (pv q.length i)) (at' q i) C=0:=by
  rw [cr_af,cr_af,cr_af,af_comb _ _ _ a b c (at' q i) A B C ex ey,← cr_af,cr_self',Int.mul_zero]
 have z2:a * cr (at' q i) (at' q ((i+1) % q.length)) A+b * cr (at' q i) (at' q ((i+1) % q.length)) B+c * cr (at' q i) (at' q ((i+1) % q.length)) C=0:=by
  rw [cr_af,cr_af,cr_af,af_comb _ _ _ a b c (at' q i) A B C ex ey,← cr_af,cr_self,Int.mul_zero]
 obtain ⟨a1,b1,c1⟩:=zeros (Int.mul_nonneg ha (f A hA)) (Int.mul_nonneg hb (f B hB)) (Int.mul_nonneg hc (f C hC)) z1
 obtain ⟨a2,b2,c2⟩:=zeros (Int.mul_nonneg ha (g A hA)) (Int.mul_nonneg hb (g B hB)) (Int.mul_nonneg hc (g C hC)) z2
 have t:=turn hP h3 hi
 exact ⟨fun p => only_corner t (zero_of p a1) (zero_of p a2),fun p => only_corner t (zero_of p b1) (zero_of p b2),fun p => only_corner t (zero_of p c1) (zero_of p c2)⟩
theorem tn_comb (m:Nat):∀ (a b c:Int) (x A B C:Pt),a * (A.1 - x.1)+b * (B.1 - x.1)+c * (C.1 - x.1)=0→a * (A.2 - x.2)+b * (B.2 - x.2)+c * (C.2 - x.2)=0 →
  a * ((tn m A).1 - (tn m x).1)+b * ((tn m B).1 - (tn m x).1)+c * ((tn m C).1 - (tn m x).1)=0∧a * ((tn m A).2 - (tn m x).2)+b * ((tn m B).2 - (tn m x).2)+c * ((tn m C).2 - (tn m x).2)=0:=by
 induction m with
 | zero => exact fun a b c x A B C h1 h2 => ⟨h1,h2⟩
 | succ m ih =>
   intro a b c x A B C h1 h2
   obtain ⟨i1,i2⟩:=ih a b c x A B C h1 h2
   refine ⟨?_,i1⟩
   show a * (-(tn m A).2 - -(tn m x).2)+b * (-(tn m B).2 - -(tn m x).2)+c * (-(tn m C).2 - -(tn m x).2)=0
   rw [show -(tn m A).2 - -(tn m x).2 = -((tn m A).2 - (tn m x).2) by omega,show -(tn m B).2 - -(tn m x).2 = -((tn m B).2 - (tn m x).2) by omega,show -(tn m C).2 - -(tn m x).2 = -((tn m C).2 - (tn m x).2) by omega,Int.mul_neg,Int.mul_neg,Int.mul_neg]
   omega
theorem lf_inj {x y:Pt} (h:lf x=lf y):x=y:=by
 unfold lf at h
 have h1:=congrArg Prod.fst h
 have h2:=congrArg Prod.snd h
 simp only at h1 h2
 exact Prod.ext h2 (by omega)
theorem tn_inj (m:Nat):∀ {x y:Pt},tn m x=tn m y→x=y:=by
 induction m with
 | zero => exact fun h => h
 | succ m ih => exact fun h => ih (lf_inj h)
theorem kill_tn {l q:List Pt} (h:IsHull l q) (h3:3≤q.length) (m:Nat) {x A B C:Pt} (hx:tn m x ∈ q) (hA:tn m A ∈ l) (hB:tn m B ∈ l) (hC:tn m C ∈ l) {a b c:Int} (ha:0≤a) (hb:0≤b) (hc:0≤c)
  (ex:a * (A.1 - x.1)+b * (B.1 - x.1)+c * (C.1 - x.1)=0) (ey:a * (A.2 - x.2)+b * (B.2 - x.2)+c * (C.2 - x.2)=0):(0 < a→A=x)∧(0 < b→B=x)∧(0 < c→C=x):=by
 obtain ⟨e1,e2⟩:=tn_comb m a b c x A B C ex ey
 obtain ⟨k1,k2,k3⟩:=kill h h3 hx hA hB hC ha hb hc e1 e2
 exact ⟨fun p => tn_inj m (k1 p),fun p => tn_inj m (k2 p),fun p => tn_inj m (k3 p)⟩
theorem corners_ne {n:Nat} {P:Nat→Pt} (h:Cvx n P) (hn:3≤n) {i k:Nat} (hi:i < n) (hk:k < n) (hik:k ≠ i):P k ≠ P i:=fun e => by
 by_cases e1:k=(i+1) % n
 ·have:=turn h hn hi
  rw [← e1,e,cr_self'] at this
  omega
 ·have:=h i k hi hk hik e1
  rw [e,cr_self] at this
  omega
theorem nodup_of:∀ (q:List Pt),(∀ i k,i < q.length→k < q.length→k ≠ i→at' q k ≠ at' q i)→q.Nodup
 | [],_ => List.nodup_nil
 | x :: q,h => by
   refine List.nodup_cons.2 ⟨fun hx => ?_,nodup_of q fun i k hi hk hik => ?_⟩
   ·obtain ⟨i,hi,e⟩:=mem_at hx
    exact h 0 (i+1) (Nat.succ_pos _) (Nat.succ_lt_succ hi) (Nat.succ_ne_zero i) e
   ·exact h (i+1) (k+1) (Nat.succ_lt_succ hi) (Nat.succ_lt_succ hk) (fun e => hik (Nat.succ.inj e))
theorem len_sub:∀ (q S:List Pt),q.Nodup→(∀ x,x ∈ q→x ∈ S)→q.length≤S.length
 | [],_,_,_ => Nat.zero_le _
 | x :: q,S,hq,hs => by
   obtain ⟨hx,hq'⟩:=List.nodup_cons.1 hq
   have hm:=hs x List.mem_cons_self
   have:=len_sub q (S.erase x) hq' fun y hy => by
    have hne:y ≠ x:=fun e => hx (by rw [← e];exact hy)
    rw [List.mem_erase_of_ne hne]
    exact hs y (List.mem_cons_of_mem _ hy)
   rw [List.length_erase_of_mem hm] at this
   have:=List.length_pos_of_mem hm
   rw [List.length_cons]
   omega
theorem hull_sub {l q S:List Pt} (h:IsHull l q) (h3:3≤q.length) (hs:∀ x,x ∈ q→x ∈ S):q.length≤S.length :=
 len_sub q S (nodup_of q fun _ _ hi hk hik => corners_ne (h.1.2.2 (by omega)) h3 hi hk hik) hs
theorem column (l:List Pt) (X:Int):∃ m M:Int,∀ y,y ∈ l→y.1=X→(m≤y.2∧y.2≤M)∧(X,m) ∈ l∧(X,M) ∈ l:=by
 induction l with
 | nil => exact ⟨0,0,fun y hy => by cases hy⟩
 | cons z l ih =>
   obtain ⟨m,M,h⟩:=ih
   by_cases hz:z.1=X
   ·by_cases hy:∃ y,y ∈ l∧y.1=X
    ·obtain ⟨y,y1,y2⟩:=hy
     obtain ⟨h1,h2,h3⟩:=h y y1 y2
     refine ⟨min m z.2,max M z.2,fun w hw hX => ?_⟩
     have hw':m≤w.2∧w.2≤M∨w=z:=by
      rcases List.mem_cons.1 hw with e | e
      ·exact Or.inr e
      ·exact Or.inl (h w e hX).1
     refine ⟨⟨?_,?_⟩,?_,?_⟩
     ·rcases hw' with e | e
      ·omega
      ·rw [e];omega
     ·rcases hw' with e | e
      ·omega
      ·rw [e];omega
     ·by_cases hmz:m≤z.2
      ·rw [Int.min_eq_left hmz];exact List.mem_cons_of_mem _ h2
      ·rw [Int.min_eq_right (by omega)];exact List.mem_cons.2 (Or.inl (Prod.ext hz.symm rfl))
     ·by_cases hmz:M≤z.2
      ·rw [Int.max_eq_right hmz];exact List.mem_cons.2 (Or.inl (Prod.ext hz.symm rfl))
      ·rw [Int.max_eq_left (by omega)];exact List.mem_cons_of_mem _ h3
    ·refine ⟨z.2,z.2,fun w hw hX => ?_⟩
     rcases List.mem_cons.1 hw with e | e
     ·subst e
      have:(X,w.2)=w:=Prod.ext hz.symm rfl
      rw [this]
      exact ⟨⟨Int.le_refl _,Int.le_refl _⟩,List.mem_cons_self,List.mem_cons_self⟩
     ·exact absurd ⟨w,e,hX⟩ hy
   ·refine ⟨m,M,fun w hw hX => ?_⟩
    rcases List.mem_cons.1 hw with e | e
    ·exact absurd (e ▸ hX) hz
    ·obtain ⟨h1,h2,h3⟩:=h w e hX
     exact ⟨h1,List.mem_cons_of_mem _ h2,List.mem_cons_of_mem _ h3⟩
theorem columns {l q:List Pt} (h:IsHull l q) (h3:3≤q.length) (r:Nat) (hr:∀ x,x ∈ l→-(r:Int)≤x.1∧x.1≤r):q.length≤2 * (2 * r+1):=by
 have cm:∃ f:Int→Int × Int,∀ X y,y ∈ l→y.1=X→((f X).1≤y.2∧y.2≤(f X).2)∧(X,(f X).1) ∈ l∧(X,(f X).2) ∈ l:=by
  refine ⟨fun X => (Classical.choose (column l X),Classical.choose (Classical.choose_spec (column l X))),fun X => ?_⟩
  exact Classical.choose_spec (Classical.choose_spec (column l X))
 obtain ⟨f,hf⟩:=cm
 have hs:q.length≤((List.range (2 * r+1)).flatMap fun (i:Nat) => [((i:Int) - r,(f ((i:Int) - r)).1),((i:Int) - r,(f ((i:Int) - r)).2)]).length:=by
  refine hull_sub h h3 fun x hx => ?_
  have hl:=h.2.1 x hx
  obtain ⟨⟨b1,b2⟩,m1,m2⟩:=hf x.1 x hl rfl
  have hR:=hr x hl
  refine List.mem_flatMap.2 ⟨(x.1+r).toNat,List.mem_range.2 (by omega),?_⟩
  have e:(((x.1+r).toNat:Nat):Int) - r=x.1:=by omega
  rw [e]
  obtain ⟨k1,k2,_⟩:=kill h h3 (x:=x) (A:=(x.1,(f x.1).1)) (B:=(x.1,(f x.1).2)) (C:=x) (a:=(f x.1).2 - x.2) (b:=x.2 - (f x.1).1) (c:=0) hx m1 m2 hl (by omega) (by omega) (Int.le_refl _) (by simp) (by simp only;grind)
  by_cases e1:(f x.1).2=x.2
  ·refine List.mem_cons_of_mem _ (List.mem_cons.2 (Or.inl ?_))
   rw [e1]
  ·refine List.mem_cons.2 (Or.inl (k1 ?_).symm)
   omega
 rw [List.length_flatMap] at hs
 have e:(List.map (fun (i:Nat) => ([((i:Int) - (r:Int),(f ((i:Int) - r)).1),((i:Int) - r,(f ((i:Int) - r)).2)]:List Pt).length) (List.range (2 * r+1))).sum=2 * (2 * r+1):=by
  have:(fun (i:Nat) => ([((i:Int) - (r:Int),(f ((i:Int) - r)).1),((i:Int) - r,(f ((i:Int) - r)).2)]:List Pt).length)=fun _ => 2:=rfl
  rw [this]
  generalize 2 * r+1=N
  induction N with
  | zero => rfl
  | succ N ih => rw [List.range_succ,List.map_append,List.sum_append,ih];simp;omega
 omega
end Ry
end Go.Proofs.YtbpgfenippiepaaGreatDoor
