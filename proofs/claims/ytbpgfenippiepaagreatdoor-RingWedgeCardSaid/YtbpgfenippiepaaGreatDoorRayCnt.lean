/-
  Plain: the places that a sector is the hull of, and that this hull never has more than 64 corners.
-/
import Derived.Test.YtbpgfenippiepaaGreatDoorRayDir
import Derived.Test.YtbpgfenippiepaaGreatDoorExactPlain
namespace Go.Proofs.YtbpgfenippiepaaGreatDoor
namespace Ry
open Hl Ex
def bx (r:Pt) (n d:Int):List Pt:=[(fl (r.1 * n) d,fl (r.2 * n) d),(ce (r.1 * n) d,fl (r.2 * n) d),(fl (r.1 * n) d,ce (r.2 * n) d),(ce (r.1 * n) d,ce (r.2 * n) d)]
def secL (a n:Nat) (lo hi:Int):List Pt:=bx (dir a) lo 1001 ++ bx (dir (a+n)) lo 1001 ++ (List.range (n+1)).flatMap fun i => bx (dir (a+i)) hi 998
theorem mem_bx {r:Pt} {n d:Int} {x:Pt}:x ∈ bx r n d↔(x.1=fl (r.1 * n) d∨x.1=ce (r.1 * n) d)∧(x.2=fl (r.2 * n) d∨x.2=ce (r.2 * n) d):=by
 obtain ⟨u,v⟩:=x
 unfold bx
 simp only [List.mem_cons,List.mem_nil_iff,or_false,Prod.mk.injEq]
 constructor
 ·rintro (⟨h1,h2⟩ | ⟨h1,h2⟩ | ⟨h1,h2⟩ | ⟨h1,h2⟩)
  ·exact ⟨Or.inl h1,Or.inl h2⟩
  ·exact ⟨Or.inr h1,Or.inl h2⟩
  ·exact ⟨Or.inl h1,Or.inr h2⟩
  ·exact ⟨Or.inr h1,Or.inr h2⟩
 ·rintro ⟨h1 | h1,h2 | h2⟩
  ·exact Or.inl ⟨h1,h2⟩
  ·exact Or.inr (Or.inr (Or.inl ⟨h1,h2⟩))
  ·exact Or.inr (Or.inl ⟨h1,h2⟩)
  ·exact Or.inr (Or.inr (Or.inr ⟨h1,h2⟩))
theorem mem_sec {a n:Nat} {lo hi:Int} {x:Pt}:x ∈ secL a n lo hi↔x ∈ bx (dir a) lo 1001∨x ∈ bx (dir (a+n)) lo 1001∨∃ i,i≤n∧x ∈ bx (dir (a+i)) hi 998:=by
 unfold secL
 rw [List.mem_append,List.mem_append,List.mem_flatMap,or_assoc]
 constructor
 ·rintro (h | h | ⟨i,hi,h⟩)
  ·exact Or.inl h
  ·exact Or.inr (Or.inl h)
  ·exact Or.inr (Or.inr ⟨i,by have:=List.mem_range.1 hi;omega,h⟩)
 ·rintro (h | h | ⟨i,hi,h⟩)
  ·exact Or.inl h
  ·exact Or.inr (Or.inl h)
  ·exact Or.inr (Or.inr ⟨i,List.mem_range.2 (by omega),h⟩)
theorem fl_neg (a b:Int):fl (-a) b = -(ce a b):=by unfold ce;omega
theorem ce_neg_fl (a b:Int):ce (-a) b = -(fl a b):=by unfold ce;rw [Int.neg_neg]
theorem bx_lf {r:Pt} {n d:Int} {x:Pt}:lf x ∈ bx (lf r) n d↔x ∈ bx r n d:=by
 rw [mem_bx,mem_bx]
 unfold lf
 simp only
 rw [Int.neg_mul,fl_neg,ce_neg_fl]
 constructor
 ·rintro ⟨h1,h2⟩;exact ⟨h2,by omega⟩
 ·rintro ⟨h1,h2⟩;exact ⟨by omega,h1⟩
theorem bx_tn (m:Nat) {r:Pt} {n d:Int} {x:Pt}:tn m x ∈ bx (tn m r) n d↔x ∈ bx r n d:=by
 induction m with
 | zero => exact Iff.rfl
 | succ m ih => exact bx_lf.trans ih
theorem tn_onto (m:Nat):∀ x:Pt,∃ z,x=tn m z:=by
 induction m with
 | zero => exact fun x => ⟨x,rfl⟩
 | succ m ih =>
   intro x
   obtain ⟨z,hz⟩:=ih (x.2,-x.1)
   refine ⟨z,?_⟩
   show x=lf (tn m z)
   rw [← hz]
   unfold lf
   simp
theorem q0_bd:∀ j,j < 17→(0≤(q0 j).1∧(q0 j).1≤1000)∧(0≤(q0 j).2∧(q0 j).2≤1000):=by decide
theorem tn_bd (m:Nat) {x:Pt} (h:(-1000≤x.1∧x.1≤1000)∧(-1000≤x.2∧x.2≤1000)):(-1000≤(tn m x).1∧(tn m x).1≤1000)∧(-1000≤(tn m x).2∧(tn m x).2≤1000):=by
 induction m with
 | zero => exact h
 | succ m ih =>
   show (-1000≤-(tn m x).2∧-(tn m x).2≤1000)∧(-1000≤(tn m x).1∧(tn m x).1≤1000)
   omega
theorem dir_bd (k:Nat):(-1000≤(dir k).1∧(dir k).1≤1000)∧(-1000≤(dir k).2∧(dir k).2≤1000):=by
 unfold dir
 have:=q0_bd (k % 16) (by omega)
 exact tn_bd _ ⟨⟨by omega,by omega⟩,by omega,by omega⟩
theorem prod_bd {c n h:Int} (hc:-1000≤c∧c≤1000) (h0:0≤n) (h1:n≤h):-(1000 * h)≤c * n∧c * n≤1000 * h:=by
 have a1:=Int.mul_le_mul_of_nonneg_right hc.1 h0
 have a2:=Int.mul_le_mul_of_nonneg_right hc.2 h0
 omega
theorem bx_bd {r:Pt} {n d h b:Int} (hr:(-1000≤r.1∧r.1≤1000)∧(-1000≤r.2∧r.2≤1000)) (h0:0≤n) (h1:n≤h) (hd:d=998∨d=1001) (hb:1000 * h < 998 * b) {x:Pt} (hx:x ∈ bx r n d):(-b≤x.1∧x.1≤b)∧(-b≤x.2∧x.2≤b):=by
 obtain ⟨h2,h3⟩:=mem_bx.1 hx
 have key:∀ c:Int,(-1000≤c∧c≤1000)→(-b≤fl (c * n) d∧fl (c * n) d≤b)∧(-b≤ce (c * n) d∧ce (c * n) d≤b):=fun c hc => by
  have p:=prod_bd hc h0 h1
  have s1:=fl_spec (c * n) (b:=d) (by omega)
  have s2:=ce_spec (c * n) (b:=d) (by omega)
  generalize fl (c * n) d=f at *
  generalize ce (c * n) d=g at *
  rcases hd with rfl | rfl <;> omega
 have k1:=key r.1 hr.1
 have k2:=key r.2 hr.2
 refine ⟨?_,?_⟩
 ·rcases h2 with e | e <;> rw [e] <;> omega
 ·rcases h3 with e | e <;> rw [e] <;> omega
theorem sec_bd {a n:Nat} {lo hi b:Int} (h0:0≤lo) (h1:lo≤hi) (hb:1000 * hi < 998 * b) {x:Pt} (hx:x ∈ secL a n lo hi):(-b≤x.1∧x.1≤b)∧(-b≤x.2∧x.2≤b):=by
 rcases mem_sec.1 hx with h | h | ⟨i,_,h⟩
 ·exact bx_bd (dir_bd _) h0 h1 (Or.inr rfl) hb h
 ·exact bx_bd (dir_bd _) h0 h1 (Or.inr rfl) hb h
 ·exact bx_bd (dir_bd _) (by omega) (Int.le_refl _) (Or.inl rfl) hb h
structure Nb (x0 x1 x2 X0 X1 X2 y0 y1 y2 Y0 Y1 Y2:Int):Prop where
 hx:x1≤X1∧X1≤x1+1
 hy:y1≤Y1∧Y1≤y1+1
 mx:x2≤x1∧x1≤x0∧X2≤X1∧X1≤X0
 my:y0≤y1∧y1≤y2∧Y0≤Y1∧Y1≤Y2
 a1:(x2 < x1∧X2 < X1)∨(y1 < y2∧Y1 < Y2)
 a0:(x1 < x0∧X1 < X0)∨(y0 < y1∧Y0 < Y1)
variable {x0 x1 x2 X0 X1 X2 y0 y1 y2 Y0 Y1 Y2:Int}
theorem pick {l q:List Pt} (h:IsHull l q) (h3:3≤q.length) (m:Nat) (N:Nb x0 x1 x2 X0 X1 X2 y0 y1 y2 Y0 Y1 Y2) (p0:tn m (X0,y0) ∈ l) (p1:tn m (x1,y1) ∈ l) (p2:tn m (X1,Y1) ∈ l) (p3:tn m (x2,Y2) ∈ l)
  {z:Pt} (hz:(z.1=x1∨z.1=X1)∧(z.2=y1∨z.2=Y1)) (hq:tn m z ∈ q):z=(x1,y1)∨z=(X1,Y1):=by
 obtain ⟨u,v⟩:=z
 simp only at hz
 have hx:=N.hx
 have hy:=N.hy
 have mx:=N.mx
 have my:=N.my
 have a1:=N.a1
 have a0:=N.a0
 by_cases e1:X1=x1
 ·rcases hz.2 with e | e
  ·exact Or.inl (Prod.ext (by simp only;omega) e)
  ·exact Or.inr (Prod.ext (by simp only;omega) e)
 by_cases e2:Y1=y1
 ·rcases hz.1 with e | e
  ·exact Or.inl (Prod.ext e (by simp only;omega))
  ·exact Or.inr (Prod.ext e (by simp only;omega))
 obtain rfl:X1=x1+1:=by omega
 obtain rfl:Y1=y1+1:=by omega
 obtain ⟨rfl | rfl,rfl | rfl⟩:=hz
 ·exact Or.inl rfl
 ·exfalso
  obtain ⟨k1,_,_⟩:=kill_tn h h3 m (a:=1) (b:=Y2 - (y1+1)) (c:=u - x2) hq p3 p1 p2 (by omega) (by omega) (by omega) (by simp only;grind) (by simp only;grind)
  have e:=k1 (by omega)
  have e1:=congrArg Prod.fst e
  have e2:=congrArg Prod.snd e
  simp only at e1 e2
  omega
 ·exfalso
  obtain ⟨k1,_,_⟩:=kill_tn h h3 m (a:=1) (b:=v - y0) (c:=X0 - (x1+1)) hq p0 p2 p1 (by omega) (by omega) (by omega) (by simp only;grind) (by simp only;grind)
  have e:=k1 (by omega)
  have e1:=congrArg Prod.fst e
  have e2:=congrArg Prod.snd e
  simp only at e1 e2
  omega
 ·exact Or.inr rfl
theorem low {l q:List Pt} (h:IsHull l q) (h3:3≤q.length) (m:Nat) (N:Nb x0 x1 x2 X0 X1 X2 y0 y1 y2 Y0 Y1 Y2) (p0:tn m (x0,y0) ∈ l) (p1:tn m (X1,Y1) ∈ l) (p2:tn m (x2,y2) ∈ l)
  (K:(y2 - y1) * (x0 - x1)≤(x1 - x2) * (y1 - y0)) (hs:(X1=x1+1∧Y1=y1+1)∨(x2 < x1∧x1 < x0∧y0 < y1∧y1 < y2)) (hq:tn m (x1,y1) ∈ q):(x1,y1)=(X1,Y1):=by
 have hx:=N.hx
 have hy:=N.hy
 have mx:=N.mx
 have my:=N.my
 have a1:=N.a1
 have a0:=N.a0
 have fin:∀ a b:Int,0 < a→0≤b→a * (x0 - x1)+b * (x2 - x1)+((x1 - x2) * (y1 - y0) - (y2 - y1) * (x0 - x1)) * (X1 - x1)=0→a * (y0 - y1)+b * (y2 - y1)+((x1 - x2) * (y1 - y0) - (y2 - y1) * (x0 - x1)) * (Y1 - y1)=0→False:=fun a b ha hb ex ey => by
  obtain ⟨k1,_,_⟩:=kill_tn h h3 m (a:=a) (b:=b) (c:=(x1 - x2) * (y1 - y0) - (y2 - y1) * (x0 - x1)) hq p0 p2 p1 (by omega) hb (by omega) ex ey
  have e:=k1 ha
  have e1:=congrArg Prod.fst e
  have e2:=congrArg Prod.snd e
  simp only at e1 e2
  omega
 by_cases e1:X1=x1
 ·by_cases e2:Y1=y1
  ·rw [e1,e2]
  ·exfalso
   obtain rfl:Y1=y1+1:=by omega
   subst e1
   exact fin (X1 - x2) (x0 - X1) (by omega) (by omega) (by grind) (by grind)
 ·obtain rfl:X1=x1+1:=by omega
  by_cases e2:Y1=y1
  ·exfalso
   subst e2
   exact fin (y2 - Y1) (Y1 - y0) (by omega) (by omega) (by grind) (by grind)
  ·exfalso
   obtain rfl:Y1=y1+1:=by omega
   exact fin (x1 - x2+(y2 - y1)) (x0 - x1+(y1 - y0)) (by omega) (by omega) (by grind) (by grind)
theorem high {l q:List Pt} (h:IsHull l q) (h3:3≤q.length) (m:Nat) (N:Nb x0 x1 x2 (x0+1) (x1+1) (x2+1) y0 y1 y2 (y0+1) (y1+1) (y2+1)) (p0:tn m (x0+1,y0+1) ∈ l) (p1:tn m (x1,y1) ∈ l) (p2:tn m (x2+1,y2+1) ∈ l)
  (K:¬ (y2 - y1) * (x0 - x1)≤(x1 - x2) * (y1 - y0)) (hq:tn m (x1+1,y1+1) ∈ q):False:=by
 have mx:=N.mx
 have my:=N.my
 have a1:=N.a1
 have a0:=N.a0
 obtain ⟨k1,_,_⟩:=kill_tn h h3 m (a:=x1 - x2+(y2 - y1)) (b:=x0 - x1+(y1 - y0)) (c:=(y2 - y1) * (x0 - x1) - (x1 - x2) * (y1 - y0)) hq p0 p2 p1 (by omega) (by omega) (by omega) (by simp only;grind) (by simp only;grind)
 have e:=k1 (by omega)
 have e1:=congrArg Prod.fst e
 have e2:=congrArg Prod.snd e
 simp only at e1 e2
 omega
theorem step:∀ j,j < 16→(q0 (j+1)).1+5≤(q0 j).1∧(q0 j).2+5≤(q0 (j+1)).2∧((q0 (j+1)).1+73≤(q0 j).1∨(q0 j).2+73≤(q0 (j+1)).2):=by decide
theorem bend:∀ j,j < 15→997 * (((q0 (j+1)).1 - (q0 (j+2)).1)+((q0 (j+2)).2 - (q0 (j+1)).2)+((q0 j).1 - (q0 (j+1)).1)+((q0 (j+1)).2 - (q0 j).2))≤499 * (((q0 (j+1)).1 - (q0 (j+2)).1) * ((q0 (j+1)).2 - (q0 j).2) - ((q0 (j+2)).2 - (q0 (j+1)).2) * ((q0 j).1 - (q0 (j+1)).1)):=by decide
theorem odd_all:((List.range 16).all fun j => (List.range 499).all fun h => j == 0 || h == 0 || (((q0 j).1 * (h:Int)) % 998 != 0 && ((q0 j).2 * (h:Int)) % 998 != 0))=true:=by decide +kernel
theorem odd {j:Nat} (h1:1≤j) (h2:j < 16) {H:Int} (g1:1≤H) (g2:H < 499):((q0 j).1 * H) % 998 ≠ 0∧((q0 j).2 * H) % 998 ≠ 0:=by
 have h:=List.all_eq_true.1 (List.all_eq_true.1 odd_all j (List.mem_range.2 h2)) H.toNat (List.mem_range.2 (by omega))
 have e:((H.toNat:Nat):Int)=H:=by omega
 rw [e] at h
 have n1:(j == 0)=false:=by rw [beq_eq_false_iff_ne];omega
 have n2:(H.toNat == 0)=false:=by rw [beq_eq_false_iff_ne];omega
 rw [n1,n2] at h
 simpa using h
theorem fl_up {r s H:Int} (k:Int) (h0:0≤H) (h:r+k≤s):r * H+k * H≤s * H:=by
 have:=Int.mul_le_mul_of_nonneg_right h h0
 rw [Int.add_mul] at this
 exact this
def xl (H:Int) (j:Nat):Int:=fl ((q0 j).1 * H) 998
def xh (H:Int) (j:Nat):Int:=ce ((q0 j).1 * H) 998
def yl (H:Int) (j:Nat):Int:=fl ((q0 j).2 * H) 998
def yh (H:Int) (j:Nat):Int:=ce ((q0 j).2 * H) 998
theorem mem_q {H:Int} {j:Nat} {x:Pt}:x ∈ bx (q0 j) H 998↔(x.1=xl H j∨x.1=xh H j)∧(x.2=yl H j∨x.2=yh H j):=mem_bx
theorem specs (H:Int) (j:Nat):((998 * xl H j≤(q0 j).1 * H∧(q0 j).1 * H < 998 * xl H j+998)∧((q0 j).1 * H≤998 * xh H j∧998 * xh H j < (q0 j).1 * H+998))∧((998 * yl H j≤(q0 j).2 * H∧(q0 j).2 * H < 998 * yl H j+998)∧((q0 j).2 * H≤998 * yh H j∧998 * yh H j < (q0 j).2 * H+998)) :=
 ⟨⟨fl_spec _ (by decide),ce_spec _ (by decide)⟩,⟨fl_spec _ (by decide),ce_spec _ (by decide)⟩⟩
theorem nb {H:Int} (h:14≤H) {j:Nat} (hj:j < 15):Nb (xl H j) (xl H (j+1)) (xl H (j+2)) (xh H j) (xh H (j+1)) (xh H (j+2)) (yl H j) (yl H (j+1)) (yl H (j+2)) (yh H j) (yh H (j+1)) (yh H (j+2)):=by
 obtain ⟨⟨a1,a2⟩,a3,a4⟩:=specs H j
 obtain ⟨⟨b1,b2⟩,b3,b4⟩:=specs H (j+1)
 obtain ⟨⟨c1,c2⟩,c3,c4⟩:=specs H (j+2)
 obtain ⟨s1,s2,s3⟩:=step j (by omega)
 obtain ⟨t1,t2,t3⟩:=((step (j+1) (by omega)):(q0 (j+2)).1+5≤(q0 (j+1)).1∧(q0 (j+1)).2+5≤(q0 (j+2)).2∧((q0 (j+2)).1+73≤(q0 (j+1)).1∨(q0 (j+1)).2+73≤(q0 (j+2)).2))
 have m1:=fl_up (H:=H) 5 (by omega) s1
 have m2:=fl_up (H:=H) 5 (by omega) s2
 have m3:=fl_up (H:=H) 5 (by omega) t1
 have m4:=fl_up (H:=H) 5 (by omega) t2
 have m5:(q0 (j+1)).1 * H+73 * H≤(q0 j).1 * H∨(q0 j).2 * H+73 * H≤(q0 (j+1)).2 * H:=s3.imp (fl_up (H:=H) 73 (by omega)) (fl_up (H:=H) 73 (by omega))
 have m6:(q0 (j+2)).1 * H+73 * H≤(q0 (j+1)).1 * H∨(q0 (j+1)).2 * H+73 * H≤(q0 (j+2)).2 * H:=t3.imp (fl_up (H:=H) 73 (by omega)) (fl_up (H:=H) 73 (by omega))
 clear s1 s2 s3 t1 t2 t3
 generalize (q0 j).1 * H=u0 at *
 generalize (q0 (j+1)).1 * H=u1 at *
 generalize (q0 (j+2)).1 * H=u2 at *
 generalize (q0 j).2 * H=v0 at *
 generalize (q0 (j+1)).2 * H=v1 at *
 generalize (q0 (j+2)).2 * H=v2 at *
 exact ⟨by omega,by omega,by omega,by omega,by omega,by omega⟩
theorem mid {H dx dy dx' dy' p q p' q':Int} (h:499≤H) (d1:5≤dx) (d2:5≤dy) (d3:5≤dx') (d4:5≤dy') (hb:997 * (dx+dy+dx'+dy')≤499 * (dx * dy' - dy * dx'))
  (hp:dx * H - 997≤998 * p) (hq:998 * q≤dy * H+997) (hp':998 * p'≤dx' * H+997) (hq':dy' * H - 997≤998 * q') (q0:0≤q) (p0:0≤p'):q * p'≤p * q':=by
 have e1:5 * H≤dx * H:=Int.mul_le_mul_of_nonneg_right d1 (by omega)
 have e4:5 * H≤dy' * H:=Int.mul_le_mul_of_nonneg_right d4 (by omega)
 have m1:(998 * q) * (998 * p')≤(dy * H+997) * (dx' * H+997):=Int.mul_le_mul hq hp' (by omega) (by omega)
 have m2:(dx * H - 997) * (dy' * H - 997)≤(998 * p) * (998 * q'):=Int.mul_le_mul hp hq' (by omega) (by omega)
 have C:0≤dx * dy' - dy * dx':=by omega
 have m3:499 * (dx * dy' - dy * dx')≤H * (dx * dy' - dy * dx'):=Int.mul_le_mul_of_nonneg_right h C
 have m4:0≤H * (H * (dx * dy' - dy * dx') - 997 * (dx+dy+dx'+dy')):=Int.mul_nonneg (by omega) (by omega)
 have e:(dx * H - 997) * (dy' * H - 997) - (dy * H+997) * (dx' * H+997)=H * (H * (dx * dy' - dy * dx') - 997 * (dx+dy+dx'+dy')):=by grind
 have e2:(998 * q) * (998 * p')=996004 * (q * p'):=by grind
 have e3:(998 * p) * (998 * q')=996004 * (p * q'):=by grind
 omega
def Kc (H:Int) (j:Nat):Prop:=(yl H (j+1) - yl H j) * (xl H (j - 1) - xl H j)≤(xl H j - xl H (j+1)) * (yl H j - yl H (j - 1))
instance (H:Int) (j:Nat):Decidable (Kc H j):=by unfold Kc;infer_instance
theorem far_apart {H:Int} (h:499≤H) {j:Nat} (hj:j < 15):(xl H (j+2) < xl H (j+1)∧xl H (j+1) < xl H j∧yl H j < yl H (j+1)∧yl H (j+1) < yl H (j+2))∧Kc H (j+1):=by
 obtain ⟨⟨a1,_⟩,a3,_⟩:=specs H j
 obtain ⟨⟨b1,_⟩,b3,_⟩:=specs H (j+1)
 obtain ⟨⟨c1,_⟩,c3,_⟩:=specs H (j+2)
 obtain ⟨s1,s2,_⟩:=step j (by omega)
 obtain ⟨t1,t2,_⟩:=((step (j+1) (by omega)):(q0 (j+2)).1+5≤(q0 (j+1)).1∧(q0 (j+1)).2+5≤(q0 (j+2)).2∧((q0 (j+2)).1+73≤(q0 (j+1)).1∨(q0 (j+1)).2+73≤(q0 (j+2)).2))
 have B:=bend j hj
 have m1:=fl_up (H:=H) 5 (by omega) s1
 have m2:=fl_up (H:=H) 5 (by omega) s2
 have m3:=fl_up (H:=H) 5 (by omega) t1
 have m4:=fl_up (H:=H) 5 (by omega) t2
 unfold Kc
 rw [Nat.add_sub_cancel]
 show _∧(yl H (j+2) - _) * _≤(_ - xl H (j+2)) * _
 generalize (q0 j).1=u0 at *
 generalize (q0 (j+1)).1=u1 at *
 generalize (q0 (j+2)).1=u2 at *
 generalize (q0 j).2=v0 at *
 generalize (q0 (j+1)).2=v1 at *
 generalize (q0 (j+2)).2=v2 at *
 refine ⟨by omega,mid (H:=H) (dx:=u1 - u2) (dy:=v2 - v1) (dx':=u0 - u1) (dy':=v1 - v0) h (by omega) (by omega) (by omega) (by omega) B ?_ ?_ ?_ ?_ (by omega) (by omega)⟩
 ·rw [Int.sub_mul];omega
 ·rw [Int.sub_mul];omega
 ·rw [Int.sub_mul];omega
 ·rw [Int.sub_mul];omega
theorem near_one {H:Int} (h1:1≤H) (h2:H < 499) {j:Nat} (j1:1≤j) (j2:j < 16):xh H j=xl H j+1∧yh H j=yl H j+1:=by
 obtain ⟨a1,a3⟩:=specs H j
 obtain ⟨o1,o2⟩:=odd j1 j2 h1 h2
 generalize (q0 j).1 * H=u at *
 generalize (q0 j).2 * H=v at *
 omega
def gS (H:Int) (t:Nat):List Pt :=
 if t % 16=0∨t % 16=1∨t % 16=15 then [tn (t / 16) (xl H (t % 16),yl H (t % 16)),tn (t / 16) (xh H (t % 16),yh H (t % 16))]
 else if Kc H (t % 16) then [tn (t / 16) (xh H (t % 16),yh H (t % 16))] else [tn (t / 16) (xl H (t % 16),yl H (t % 16))]
def wS (t:Nat):Nat:=if t % 16=0∨t % 16=1∨t % 16=15 then 2 else 1
theorem gS_len (H:Int) (t:Nat):(gS H t).length=wS t:=by
 unfold gS wS
 split
 ·rfl
 ·split <;> rfl
theorem far_in {l q:List Pt} (h:IsHull l q) (h3:3≤q.length) {H:Int} (h14:14≤H) {t:Nat} (t1:1≤t) (hl:∀ s,t - 1≤s→s≤t+1→∀ x,x ∈ bx (dir s) H 998→x ∈ l) {x:Pt} (hx:x ∈ q) (hb:x ∈ bx (dir t) H 998):x ∈ gS H t:=by
 obtain ⟨m,hm⟩:∃ m,t / 16=m:=⟨_,rfl⟩
 obtain ⟨j,hj⟩:∃ j,t % 16=j:=⟨_,rfl⟩
 obtain rfl:t=16 * m+j:=by omega
 have hj16:j < 16:=by omega
 unfold gS
 rw [hm,hj]
 rw [dir_rep m j (by omega)] at hb
 obtain ⟨z,rfl⟩:=tn_onto m x
 have hz:=mem_q.1 ((bx_tn m).1 hb)
 by_cases j0:j=0
 ·subst j0
  rw [if_pos (Or.inl rfl)]
  have e:yl H 0=0∧yh H 0=0:=by
   obtain ⟨_,a3⟩:=specs H 0
   rw [show (q0 0).2=0 from rfl,Int.zero_mul] at a3
   omega
  rw [e.1,e.2] at hz ⊢
  obtain ⟨u,v⟩:=z
  simp only [or_self] at hz
  obtain ⟨rfl | rfl,rfl⟩:=hz
  ·exact List.mem_cons_self
  ·exact List.mem_cons_of_mem _ List.mem_cons_self
 ·obtain ⟨i,rfl⟩:∃ i,j=i+1:=⟨j - 1,by omega⟩
  have N:=nb h14 (j:=i) (by omega)
  have L:∀ s,i≤s→s≤i+2→∀ z,((z.1=xl H s∨z.1=xh H s)∧(z.2=yl H s∨z.2=yh H s))→tn m z ∈ l:=fun s s1 s2 z hz => by
   refine hl (16 * m+s) (by omega) (by omega) _ ?_
   rw [dir_rep m s (by omega)]
   exact (bx_tn m).2 (mem_q.2 hz)
  have P:=pick h h3 m N (L i (by omega) (by omega) _ ⟨Or.inr rfl,Or.inl rfl⟩) (L (i+1) (by omega) (by omega) _ ⟨Or.inl rfl,Or.inl rfl⟩) (L (i+1) (by omega) (by omega) _ ⟨Or.inr rfl,Or.inr rfl⟩) (L (i+2) (by omega) (by omega) _ ⟨Or.inl rfl,Or.inr rfl⟩) hz hx
  by_cases je:i+1=0∨i+1=1∨i+1=15
  ·rw [if_pos je]
   rcases P with rfl | rfl
   ·exact List.mem_cons_self
   ·exact List.mem_cons_of_mem _ List.mem_cons_self
  ·rw [if_neg je]
   by_cases K:Kc H (i+1)
   ·rw [if_pos K]
    rcases P with rfl | rfl
    ·have:=low h h3 m N (L i (by omega) (by omega) _ ⟨Or.inl rfl,Or.inl rfl⟩) (L (i+1) (by omega) (by omega) _ ⟨Or.inr rfl,Or.inr rfl⟩) (L (i+2) (by omega) (by omega) _ ⟨Or.inl rfl,Or.inl rfl⟩) K (by
      by_cases g:H < 499
      ·exact Or.inl (near_one (by omega) g (by omega) hj16)
      ·exact Or.inr (far_apart (by omega) (by omega)).1) hx
     rw [this]
     exact List.mem_cons_self
    ·exact List.mem_cons_self
   ·rw [if_neg K]
    rcases P with rfl | rfl
    ·exact List.mem_cons_self
    ·exfalso
     by_cases g:H < 499
     ·have n0:=near_one (H:=H) (by omega) g (j:=i) (by omega) (by omega)
      have n1:=near_one (H:=H) (by omega) g (j:=i+1) (by omega) (by omega)
      have n2:=near_one (H:=H) (by omega) g (j:=i+2) (by omega) (by omega)
      have q0:=L i (by omega) (by omega) (xh H i,yh H i) ⟨Or.inr rfl,Or.inr rfl⟩
      have q2:=L (i+2) (by omega) (by omega) (xh H (i+2),yh H (i+2)) ⟨Or.inr rfl,Or.inr rfl⟩
      rw [n0.1,n0.2] at q0
      rw [n2.1,n2.2] at q2
      rw [n0.1,n0.2,n1.1,n1.2,n2.1,n2.2] at N
      rw [n1.1,n1.2] at hx
      exact high h h3 m N q0 (L (i+1) (by omega) (by omega) _ ⟨Or.inl rfl,Or.inl rfl⟩) q2 K hx
     ·exact K (far_apart (by omega) (by omega)).2
theorem few_all:((List.range 64).all fun a => (List.range 32).all fun n => decide (((List.range (n - 1)).map fun i => wS (a+1+i)).sum≤48))=true:=by decide +kernel
theorem sec_few {a n:Nat} {lo hi:Int} {q:List Pt} (ha:a < 64) (hn:n≤31) (h0:0≤lo) (h1:lo≤hi) (h:IsHull (secL a n lo hi) q):q.length≤64:=by
 by_cases h3:q.length < 3
 ·omega
 have h3:3≤q.length:=by omega
 by_cases h14:hi < 14
 ·have:=columns h h3 14 (fun x hx => (sec_bd h0 h1 (b:=14) (by omega) hx).1)
  omega
 have h14:14≤hi:=by omega
 have key:q.length≤(bx (dir a) lo 1001 ++ bx (dir (a+n)) lo 1001 ++ bx (dir a) hi 998 ++ bx (dir (a+n)) hi 998 ++ (List.range (n - 1)).flatMap fun i => gS hi (a+1+i)).length:=by
  refine hull_sub h h3 fun x hx => ?_
  simp only [List.mem_append,List.mem_flatMap,List.mem_range]
  rcases mem_sec.1 (h.2.1 x hx) with g | g | ⟨i,hi',g⟩
  ·exact Or.inl (Or.inl (Or.inl (Or.inl g)))
  ·exact Or.inl (Or.inl (Or.inl (Or.inr g)))
  ·by_cases i0:i=0
   ·subst i0
    exact Or.inl (Or.inl (Or.inr g))
   ·by_cases i1:i=n
    ·subst i1
     exact Or.inl (Or.inr g)
    ·refine Or.inr ⟨i - 1,by omega,?_⟩
     rw [show a+1+(i - 1)=a+i by omega]
     refine far_in h h3 h14 (by omega) (fun s s1 s2 y hy => ?_) hx g
     refine mem_sec.2 (Or.inr (Or.inr ⟨s - a,by omega,?_⟩))
     rwa [show a+(s - a)=s by omega]
 have hw:=List.all_eq_true.1 (List.all_eq_true.1 few_all a (List.mem_range.2 ha)) n (List.mem_range.2 (by omega))
 have hw:=of_decide_eq_true hw
 rw [List.length_append,List.length_flatMap] at key
 have e:(fun i => (gS hi (a+1+i)).length)=fun i => wS (a+1+i):=funext fun i => gS_len _ _
 rw [e] at key
 have e4:(bx (dir a) lo 1001 ++ bx (dir (a+n)) lo 1001 ++ bx (dir a) hi 998 ++ bx (dir (a+n)) hi 998).length=16:=rfl
 rw [e4] at key
 omega
end Ry
end Go.Proofs.YtbpgfenippiepaaGreatDoor
