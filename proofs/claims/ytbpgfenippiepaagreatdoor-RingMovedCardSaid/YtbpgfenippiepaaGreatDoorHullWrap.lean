/-
  Plain geometry: a hull that is found corner by corner.
  The least point; the point behind a corner; all corners.
  The point behind a corner.
  All corners of points, one after the other.
  The reference's Bounds.
  The reference's Corners, Box, Octagon, Eight; Has of what is no polygon.
  Plain geometry of disks with eight sides. No program.
  The reference functions of layer 6: Mirror.
  The reference functions of layer 6: Plus.
  What package mink owes, and what the reference functions of layer 6 do: Sum, Shift, Mirror, Disk.
  One answer for each argument: what the four functions of package mink return, and that it is unique.
  The laws of package mink, without the program.
  What package hull owes besides: the slices that it hands back are new.
  What mink.Sum owes, with the new memory said.
  Plain geometry: the sum of two eight-sided hulls is the eight-sided hull of the sum. No program.
-/
import Derived.Test.YtbpgfenippiepaaGreatDoorHullChain
import Derived.Test.YtbpgfenippiepaaGreatDoorHullInB
import Derived.RegionTactic
import Derived.ChangeAlike
import Derived.Test.YtbpgfenippiepaaGreatDoorHullHl
import Derived.Deep.AppendLies
import Derived.IntWalk
import Derived.Test.YtbpgfenippiepaaGreatDoorMinkHul
namespace Go.Proofs.YtbpgfenippiepaaGreatDoor
namespace Hl
instance decBtw (a b x:Pt):Decidable (btw a b x):=by unfold btw;infer_instance
def Good (f t y:Pt):Prop:=0 < cr f t y∨(cr f t y=0∧btw f t y)
def nx (f tg y:Pt):Pt:=if tg=f∨cr f tg y < 0∨(cr f tg y=0∧btw f y tg) then y else tg
def NX (f:Pt) (l:List Pt):Pt:=l.foldl (nx f) f
def Best (f tg:Pt) (L:Pt→Prop):Prop:=(tg=f∧∀ y,L y→y=f)∨(tg ≠ f∧L tg∧∀ y,L y→Good f tg y)
def X (f:Pt) (l:List Pt):Nat→Pt
 | 0 => f
 | i+1 => NX (X f l i) l
section
variable {f:Pt} {l:List Pt}
end
end Hl
end Go.Proofs.YtbpgfenippiepaaGreatDoor
namespace Go.Proofs.YtbpgfenippiepaaGreatDoor
open Go.RowKit
namespace Hl
def LeastB (l:List Pt) (k:Nat) (m:Pt):Prop:=m ∈ l∧∀ j,j < k→at' l j ≠ m→ls m (at' l j)
theorem LeastB.yes {l:List Pt} {k:Nat} {m:Pt} (h:LeastB l k m) (hk:k < l.length) (hl:ls (at' l k) m):LeastB l (k+1) (at' l k):=⟨at_mem hk,fun j hj hne => by
 by_cases e:j=k
 ·rw [e] at hne;exact absurd rfl hne
 ·by_cases em:at' l j=m
  ·rw [em];exact hl
  ·exact ls_trans hl (h.2 j (by omega) em)⟩
theorem LeastB.no {l:List Pt} {k:Nat} {m:Pt} (h:LeastB l k m) (_hk:k < l.length) (hl:¬ ls (at' l k) m):LeastB l (k+1) m:=⟨h.1,fun j hj hne => by
 by_cases e:j=k
 ·rw [e] at hne ⊢
  rcases ls_total (at' l k) m with a | a | a
  ·exact absurd a hl
  ·exact absurd a hne
  ·exact a
 ·exact h.2 j (by omega) hne⟩
end Hl
end Go.Proofs.YtbpgfenippiepaaGreatDoor
namespace Go.Proofs.YtbpgfenippiepaaGreatDoor
open Go.RowKit
namespace Hl
def IsFX (f:Pt) (l:List Pt) (k:Nat) (m:Pt):Prop:=m=(l.take k).foldl (nx f) f
theorem IsFX.step {f m:Pt} {l:List Pt} {k:Nat} (h:IsFX f l k m) (hk:k < l.length):IsFX f l (k+1) (nx f m (at' l k)):=by
 unfold IsFX at h ⊢
 have e:at' l k=l[k]:=by unfold at';simp [hk]
 rw [List.take_succ_eq_append_getElem hk,List.foldl_append,← h,e]
 rfl
theorem IsFX.yes {f m:Pt} {l:List Pt} {k:Nat} (h:IsFX f l k m) (hk:k < l.length) (c:m=f∨cr f m (at' l k) < 0∨(cr f m (at' l k)=0∧btw f (at' l k) m)):IsFX f l (k+1) (at' l k):=by
 have:=h.step hk
 unfold nx at this
 rwa [if_pos c] at this
theorem IsFX.no {f m:Pt} {l:List Pt} {k:Nat} (h:IsFX f l k m) (hk:k < l.length) (c:¬ (m=f∨cr f m (at' l k) < 0∨(cr f m (at' l k)=0∧btw f (at' l k) m))):IsFX f l (k+1) m:=by
 have:=h.step hk
 unfold nx at this
 rwa [if_neg c] at this
theorem IsFX.all {f m:Pt} {l:List Pt} {k:Nat} (h:IsFX f l k m) (hk:l.length≤k):m=NX f l:=by
 unfold IsFX at h
 rw [List.take_of_length_le hk] at h
 exact h
end Hl
end Go.Proofs.YtbpgfenippiepaaGreatDoor
namespace Go.Proofs.YtbpgfenippiepaaGreatDoor
open Go.RowKit
namespace Hl
theorem own_one {B:Nat} (w:World) (x:Pt) (hB:B≤w.heap.size):Own B (w.alloc (.cells #[.int .i64 x.1,.int .i64 x.2] 24)) (.slice (some ⟨w.heap.size,0,none⟩) 1 1) [x] :=
 ⟨rfl,Or.inr ⟨w.heap.size,1,#[.int .i64 x.1,.int .i64 x.2],rfl,hB,heap_alloc_new w _,Nat.le_refl _,by unfold maxLen;omega,rfl,rfl⟩⟩
def Fore (v:Value) (n:Nat):Prop:=∀ g,v.ownBlock=some g→g < n
theorem Fore.ne {v:Value} {n:Nat} (h:Fore v n):some n ≠ v.ownBlock:=fun e => by have:=h n e.symm;omega
theorem Own.ne {B:Nat} {w:World} {v:Value} {p:List Pt} (h:Own B w v p) {g:Nat} (hg:g < B):some g ≠ v.ownBlock:=fun e => by have:=(World.ownsRow.lt h _ e.symm).1;omega
theorem Own.set {B:Nat} {w:World} {v:Value} {p:List Pt} (h:Own B w v p) {a:Addr} (hne:some a.block ≠ v.ownBlock) (x:Value):Own B (w.setCell a x) v p :=
 World.ownsRow.kept h (row:=some a.block) ⟨rfl,rfl,rfl,by simp [World.setCell],fun k _ hk => Below.heap_setCell w a x k (fun e => hk (by rw [e]))⟩ (Or.inr (fun e => hne e.symm))
def lenS:Value→Nat
 | .slice _ n _ => n
 | _ => 0
theorem Own.len {B:Nat} {w:World} {v:Value} {p:List Pt} (h:Own B w v p):lenS v=p.length:=by
 obtain ⟨a,c,e⟩:=h.sl.shape
 rw [e];rfl
def IsPre (f:Pt) (l:List Pt) (k:Nat) (po:List Pt):Prop:=po.length=k∧1≤k∧(∀ i,i < k→at' po i=X f l i)∧∀ i,1≤i→i < k→X f l i ≠ f
theorem IsPre.one (f:Pt) (l:List Pt):IsPre f l 1 [f]:=⟨rfl,Nat.le_refl _,fun i hi => by
 obtain rfl:i=0:=by omega
 rfl,fun i h1 h2 => by omega⟩
end Hl
end Go.Proofs.YtbpgfenippiepaaGreatDoor
namespace Go.Proofs.YtbpgfenippiepaaGreatDoor
open Go.RowKit
namespace Hl
def mnI (x y:Int):Int:=if y < x then y else x
def mxI (x y:Int):Int:=if x < y then y else x
def gL (p:List Pt) (u v:Int) (j:Nat):Int:=u * (at' p j).1+v * (at' p j).2
def bl (g:Nat→Int):Nat→Int
 | 0 => g 0
 | k+1 => mnI (bl g k) (g (k+1))
def bh (g:Nat→Int):Nat→Int
 | 0 => g 0
 | k+1 => mxI (bh g k) (g (k+1))
theorem bl_min (g:Nat→Int):∀ k,(∃ j,j≤k∧g j=bl g k)∧∀ j,j≤k→bl g k≤g j
 | 0 => ⟨⟨0,Nat.le_refl _,rfl⟩,fun j hj => by
   obtain rfl:j=0:=by omega
   exact Int.le_refl _⟩
 | k+1 => by
   obtain ⟨⟨j,hj,e⟩,h⟩:=bl_min g k
   have d:bl g (k+1)=mnI (bl g k) (g (k+1)):=rfl
   rw [d]
   unfold mnI
   split
   ·refine ⟨⟨k+1,Nat.le_refl _,rfl⟩,fun i hi => ?_⟩
    by_cases ei:i=k+1
    ·rw [ei];exact Int.le_refl _
    ·have:=h i (by omega);omega
   ·refine ⟨⟨j,by omega,e⟩,fun i hi => ?_⟩
    by_cases ei:i=k+1
    ·rw [ei];omega
    ·exact h i (by omega)
theorem bh_max (g:Nat→Int):∀ k,(∃ j,j≤k∧g j=bh g k)∧∀ j,j≤k→g j≤bh g k
 | 0 => ⟨⟨0,Nat.le_refl _,rfl⟩,fun j hj => by
   obtain rfl:j=0:=by omega
   exact Int.le_refl _⟩
 | k+1 => by
   obtain ⟨⟨j,hj,e⟩,h⟩:=bh_max g k
   have d:bh g (k+1)=mxI (bh g k) (g (k+1)):=rfl
   rw [d]
   unfold mxI
   split
   ·refine ⟨⟨k+1,Nat.le_refl _,rfl⟩,fun i hi => ?_⟩
    by_cases ei:i=k+1
    ·rw [ei];exact Int.le_refl _
    ·have:=h i (by omega);omega
   ·refine ⟨⟨j,by omega,e⟩,fun i hi => ?_⟩
    by_cases ei:i=k+1
    ·rw [ei];omega
    ·exact h i (by omega)
theorem bounds_min {p:List Pt} {u v:Int} (h:1≤p.length):IsMin p u v (bl (gL p u v) (p.length - 1))∧IsMin p (-u) (-v) (-(bh (gL p u v) (p.length - 1))):=by
 obtain ⟨⟨j,hj,e⟩,h1⟩:=bl_min (gL p u v) (p.length - 1)
 obtain ⟨⟨i,hi,e'⟩,h2⟩:=bh_max (gL p u v) (p.length - 1)
 refine ⟨⟨⟨at' p j,at_mem (by omega),e⟩,fun x hx => ?_⟩,⟨⟨at' p i,at_mem (by omega),?_⟩,fun x hx => ?_⟩⟩
 ·obtain ⟨n,hn,en⟩:=mem_at hx
  rw [← en];exact h1 n (by omega)
 ·rw [← e'];unfold gL;grind
 ·obtain ⟨n,hn,en⟩:=mem_at hx
  have:=h2 n (by omega)
  rw [← en]
  have e2:-u * (at' p n).1+-v * (at' p n).2 = -(gL p u v n):=by unfold gL;grind
  omega
end Hl
end Go.Proofs.YtbpgfenippiepaaGreatDoor
namespace Go.Proofs.YtbpgfenippiepaaGreatDoor
open Go.RowKit
namespace Hl
def OctSays (p:List Pt) (w:World) (e:Ending) (w':World):Prop:=∃ q v,IsOct p q∧e=.returned v∧Sl w' v q∧Grew w w'
theorem oct_plcs {p:List Pt} {a b c d s t i j:Int} (hp:Plcs p) (h1:IsMin p 1 0 a) (h2:IsMin p (-1) 0 (-b)) (h3:IsMin p 0 1 c) (h4:IsMin p 0 (-1) (-d)) (h5:IsMin p 1 1 s) (h6:IsMin p (-1) (-1) (-t)) (h7:IsMin p 1 (-1) i) (h8:IsMin p (-1) 1 (-j)):Plcs (octL a b c d s t i j):=by
 obtain ⟨B,_⟩:=bd_of h1 h2 h3 h4 h5 h6 h7 h8
 refine plcs_of (fun x hx => ?_)
 have hk:=oct_keeps B x hx
 obtain ⟨y1,g1,e1⟩:=h1.1
 obtain ⟨y2,g2,e2⟩:=h2.1
 obtain ⟨y3,g3,e3⟩:=h3.1
 obtain ⟨y4,g4,e4⟩:=h4.1
 obtain ⟨n1,l1,r1⟩:=mem_at g1
 obtain ⟨n2,l2,r2⟩:=mem_at g2
 obtain ⟨n3,l3,r3⟩:=mem_at g3
 obtain ⟨n4,l4,r4⟩:=mem_at g4
 have p1:=hp n1 l1
 have p2:=hp n2 l2
 have p3:=hp n3 l3
 have p4:=hp n4 l4
 rw [r1] at p1
 rw [r2] at p2
 rw [r3] at p3
 rw [r4] at p4
 unfold Keeps at hk
 unfold Plc at p1 p2 p3 p4 ⊢
 omega
end Hl
end Go.Proofs.YtbpgfenippiepaaGreatDoor
namespace Go.Proofs.YtbpgfenippiepaaGreatDoor
open Hl
namespace Mk
def Wd (n m:Int):Prop:=0≤m∧2 * n * n≤m * m∧∀ j:Int,0≤j→2 * n * n≤j * j→m≤j
theorem wd_unique {n m m':Int} (h:Wd n m) (h':Wd n m'):m=m':=by
 have a:=h.2.2 m' h'.1 h'.2.1
 have b:=h'.2.2 m h.1 h.2.1
 omega
def In (n m:Int) (x:Pt):Prop:=Keeps (-n) n (-n) n (-m) m (-m) m x
def diskL (n m:Int):List Pt:=octL (-n) n (-n) n (-m) m (-m) m
end Mk
end Go.Proofs.YtbpgfenippiepaaGreatDoor
namespace Go.Proofs.YtbpgfenippiepaaGreatDoor
open Go.RowKit Hl
namespace Mk
set_option maxRecDepth 100000
def MirSays (p:List Pt) (w:World) (e:Ending) (w':World):Prop:=∃ v m,IsHull (mirror p) m∧e=.returned (.tuple #[v,.int .i64 0])∧Sl w' v m∧Grew w w'
end Mk
end Go.Proofs.YtbpgfenippiepaaGreatDoor
namespace Go.Proofs.YtbpgfenippiepaaGreatDoor
open Go.RowKit Hl
namespace Mk
set_option maxRecDepth 100000
def part (p q:List Pt) (i j:Nat):List Pt:=sums (p.take i) q ++ (q.take j).map (plus (at' p i))
end Mk
end Go.Proofs.YtbpgfenippiepaaGreatDoor
namespace Go.Proofs.YtbpgfenippiepaaGreatDoor
open Go.RowKit Hl
namespace Mk
set_option maxRecDepth 100000
def SumSays (p q:List Pt) (w:World) (e:Ending) (w':World):Prop:=∃ s,IsHull (sums p q) s∧((¬ Plcs s∧Empty 3 w e w')∨(Plcs s∧∃ v t,((s.length≤64∧t=s)∨(64 < s.length∧IsOct s t))∧e=.returned (.tuple #[v,.int .i64 0])∧Sl w' v t∧Grew w w'))
def ShiftSays (p:List Pt) (z:Pt) (w:World) (e:Ending) (w':World):Prop:=(¬ Plcs (shift p z)∧Empty 3 w e w')∨(Plcs (shift p z)∧∃ v,e=.returned (.tuple #[v,.int .i64 0])∧Sl w' v (shift p z)∧Grew w w')
def DiskSays (n:Int) (w:World) (e:Ending) (w':World):Prop:=∃ v m d,Wd n m∧IsHull (diskL n m) d∧e=.returned (.tuple #[v,.int .i64 0])∧Sl w' v d∧Grew w w'
structure Fns (fs fh fm fd:Nat):Prop where
 sum_bad:∀ (p q:List Pt) (v u:Value) (w:World),Sl w v p→Sl w u q→p.length≤9223372036854775807→q.length≤9223372036854775807→¬ (Vl p∧Vl q)→Calls Tryz.prog fs #[v,u] w (Empty 1 w)
 sum_ok:∀ (p q:List Pt) (v u:Value) (w:World),Sl w v p→Sl w u q→Vl p→Vl q→Calls Tryz.prog fs #[v,u] w (SumSays p q w)
 shift_bad:∀ (p:List Pt) (z:Pt) (v:Value) (w:World),Sl w v p→p.length≤9223372036854775807→¬ (Vl p∧Plc z)→Calls Tryz.prog fh #[v,.agg #[.int .i64 z.1,.int .i64 z.2]] w (Empty 1 w)
 shift_ok:∀ (p:List Pt) (z:Pt) (v:Value) (w:World),Sl w v p→Vl p→Plc z→Calls Tryz.prog fh #[v,.agg #[.int .i64 z.1,.int .i64 z.2]] w (ShiftSays p z w)
 mir_bad:∀ (p:List Pt) (v:Value) (w:World),Sl w v p→p.length≤9223372036854775807→¬ Vl p→Calls Tryz.prog fm #[v] w (Empty 1 w)
 mir_ok:∀ (p:List Pt) (v:Value) (w:World),Sl w v p→Vl p→Calls Tryz.prog fm #[v] w (MirSays p w)
 disk_bad:∀ (n:Int) (w:World),¬ (0≤n∧n≤100000)→Calls Tryz.prog fd #[.int .i64 n] w (Empty 1 w)
 disk_ok:∀ (n:Int) (w:World),0≤n→n≤100000→Calls Tryz.prog fd #[.int .i64 n] w (DiskSays n w)
end Mk
end Go.Proofs.YtbpgfenippiepaaGreatDoor
namespace Go.Proofs.YtbpgfenippiepaaGreatDoor
open Go.RowKit Hl
namespace Mk
def SumIs (p q:List Pt) (k:Int) (r:List Pt):Prop:=(¬ (Vl p∧Vl q)∧k=1∧r=[])∨((Vl p∧Vl q)∧∃ s,IsHull (sums p q) s∧((¬ Plcs s∧k=3∧r=[])∨(Plcs s∧k=0∧((s.length≤64∧r=s)∨(64 < s.length∧IsOct s r)))))
def ShfIs (p:List Pt) (z:Pt) (k:Int) (r:List Pt):Prop:=(¬ (Vl p∧Plc z)∧k=1∧r=[])∨((Vl p∧Plc z)∧((¬ Plcs (shift p z)∧k=3∧r=[])∨(Plcs (shift p z)∧k=0∧r=shift p z)))
def MirIs (p:List Pt) (k:Int) (r:List Pt):Prop:=(¬ Vl p∧k=1∧r=[])∨(Vl p∧k=0∧IsHull (mirror p) r)
def DskIs (n:Int) (k:Int) (r:List Pt):Prop:=(¬ (0≤n∧n≤100000)∧k=1∧r=[])∨((0≤n∧n≤100000)∧k=0∧∃ m,Wd n m∧IsHull (diskL n m) r)
def Ans (P:Int→List Pt→Prop) (w:World) (e:Ending) (w':World):Prop:=∃ v k r,P k r∧e=.returned (.tuple #[v,.int .i64 k])∧Sl w' v r∧Grew w w'
theorem oct_same {p q q':List Pt} (h:IsOct p q) (h':IsOct p q'):q=q':=by
 obtain ⟨a,b,c,d,s,t,i,j,h1,h2,h3,h4,h5,h6,h7,h8,hq⟩:=h
 obtain ⟨a',b',c',d',s',t',i',j',k1,k2,k3,k4,k5,k6,k7,k8,hr⟩:=h'
 obtain rfl:=k1.one h1
 obtain rfl:b'=b:=by have:=k2.one h2;omega
 obtain rfl:=k3.one h3
 obtain rfl:d'=d:=by have:=k4.one h4;omega
 obtain rfl:=k5.one h5
 obtain rfl:t'=t:=by have:=k6.one h6;omega
 obtain rfl:=k7.one h7
 obtain rfl:j'=j:=by have:=k8.one h8;omega
 exact hull_unique hq hr
theorem SumIs.one {p q r r':List Pt} {k k':Int} (h:SumIs p q k r) (h':SumIs p q k' r'):k=k'∧r=r':=by
 rcases h with ⟨a,rfl,rfl⟩ | ⟨a,s,hs,h⟩ <;> rcases h' with ⟨a',rfl,rfl⟩ | ⟨a',s',hs',h'⟩
 ·exact ⟨rfl,rfl⟩
 ·exact absurd a' a
 ·exact absurd a a'
 ·obtain rfl:=hull_unique hs hs'
  rcases h with ⟨b,rfl,rfl⟩ | ⟨b,rfl,h⟩ <;> rcases h' with ⟨b',rfl,rfl⟩ | ⟨b',rfl,h'⟩
  ·exact ⟨rfl,rfl⟩
  ·exact absurd b' b
  ·exact absurd b b'
  ·rcases h with ⟨c,rfl⟩ | ⟨c,h⟩ <;> rcases h' with ⟨c',rfl⟩ | ⟨c',h'⟩
   ·exact ⟨rfl,rfl⟩
   ·exfalso;omega
   ·exfalso;omega
   ·exact ⟨rfl,oct_same h h'⟩
theorem ShfIs.one {p r r':List Pt} {z:Pt} {k k':Int} (h:ShfIs p z k r) (h':ShfIs p z k' r'):k=k'∧r=r':=by
 rcases h with ⟨a,rfl,rfl⟩ | ⟨a,h⟩ <;> rcases h' with ⟨a',rfl,rfl⟩ | ⟨a',h'⟩
 ·exact ⟨rfl,rfl⟩
 ·exact absurd a' a
 ·exact absurd a a'
 ·rcases h with ⟨b,rfl,rfl⟩ | ⟨b,rfl,rfl⟩ <;> rcases h' with ⟨b',rfl,rfl⟩ | ⟨b',rfl,rfl⟩
  ·exact ⟨rfl,rfl⟩
  ·exact absurd b' b
  ·exact absurd b b'
  ·exact ⟨rfl,rfl⟩
theorem MirIs.one {p r r':List Pt} {k k':Int} (h:MirIs p k r) (h':MirIs p k' r'):k=k'∧r=r':=by
 rcases h with ⟨a,rfl,rfl⟩ | ⟨a,rfl,h⟩ <;> rcases h' with ⟨a',rfl,rfl⟩ | ⟨a',rfl,h'⟩
 ·exact ⟨rfl,rfl⟩
 ·exact absurd a' a
 ·exact absurd a a'
 ·exact ⟨rfl,hull_unique h h'⟩
theorem DskIs.one {n:Int} {r r':List Pt} {k k':Int} (h:DskIs n k r) (h':DskIs n k' r'):k=k'∧r=r':=by
 rcases h with ⟨a,rfl,rfl⟩ | ⟨a,rfl,m,hm,h⟩ <;> rcases h' with ⟨a',rfl,rfl⟩ | ⟨a',rfl,m',hm',h'⟩
 ·exact ⟨rfl,rfl⟩
 ·exact absurd a' a
 ·exact absurd a a'
 ·obtain rfl:=wd_unique hm hm'
  exact ⟨rfl,hull_unique h h'⟩
variable {fs fh fm fd:Nat}
theorem Fns.sum (F:Fns fs fh fm fd) (p q:List Pt) (v u:Value) (w:World) (hs:Sl w v p) (hu:Sl w u q) (h1:p.length≤9223372036854775807) (h2:q.length≤9223372036854775807):Calls Tryz.prog fs #[v,u] w (Ans (SumIs p q) w):=by
 by_cases h:Vl p∧Vl q
 ·refine (F.sum_ok p q v u w hs hu h.1 h.2).mono ?_
  rintro e w' ⟨s,hh,⟨b,v',rfl,sl,g⟩ | ⟨b,v',t,ht,rfl,sl,g⟩⟩
  ·exact ⟨v',3,[],Or.inr ⟨h,s,hh,Or.inl ⟨b,rfl,rfl⟩⟩,rfl,sl,g⟩
  ·exact ⟨v',0,t,Or.inr ⟨h,s,hh,Or.inr ⟨b,rfl,ht⟩⟩,rfl,sl,g⟩
 ·refine (F.sum_bad p q v u w hs hu h1 h2 h).mono ?_
  rintro e w' ⟨v',rfl,sl,g⟩
  exact ⟨v',1,[],Or.inl ⟨h,rfl,rfl⟩,rfl,sl,g⟩
theorem hull_le {l q:List Pt} (h:IsHull l q):q.length≤l.length:=by
 have hnd:∀ i j,i < q.length→j < q.length→i ≠ j→at' q i ≠ at' q j:=fun _ _ hi hj hne => pg_distinct h.1 hi hj hne
 exact count_le (at' q) q.length l (fun _ _ hi hj hne => hnd _ _ hi hj hne) (fun _ hi => h.2.1 _ (at_mem hi))
end Mk
end Go.Proofs.YtbpgfenippiepaaGreatDoor
namespace Go.Proofs.YtbpgfenippiepaaGreatDoor
open Go.RowKit Hl
namespace Mk
theorem has_plc {p:List Pt} (hp:Pg p) (hl:Plcs p) {x:Pt} (hx:Hs p x):Plc x:=by
 obtain ⟨i1,l1,e1⟩:=hs_least hp hx 1 0 0
 obtain ⟨i2,l2,e2⟩:=hs_least hp hx (-1) 0 0
 obtain ⟨i3,l3,e3⟩:=hs_least hp hx 0 1 0
 obtain ⟨i4,l4,e4⟩:=hs_least hp hx 0 (-1) 0
 have p1:=hl i1 l1
 have p2:=hl i2 l2
 have p3:=hl i3 l3
 have p4:=hl i4 l4
 unfold af at e1 e2 e3 e4
 unfold Plc at *
 omega
theorem oct_wide {p q:List Pt} (hg:Pg p) (hpl:Plcs p) (h:IsOct p q):Vl q∧∀ x,Hs p x→Hs q x:=by
 obtain ⟨a,b,c,d,s,t,i,j,h1,h2,h3,h4,h5,h6,h7,h8,hq⟩:=h
 obtain ⟨B,K⟩:=bd_of h1 h2 h3 h4 h5 h6 h7 h8
 have O:=oct_keeps B
 have hn:q.length≤8:=hull_le hq
 have hpl:Plcs q:=fun n hn => by
  have hk:=O _ (hq.2.1 _ (at_mem hn))
  obtain ⟨y1,g1,e1⟩:=h1.1
  obtain ⟨y2,g2,e2⟩:=h2.1
  obtain ⟨y3,g3,e3⟩:=h3.1
  obtain ⟨y4,g4,e4⟩:=h4.1
  obtain ⟨n1,l1,r1⟩:=mem_at g1
  obtain ⟨n2,l2,r2⟩:=mem_at g2
  obtain ⟨n3,l3,r3⟩:=mem_at g3
  obtain ⟨n4,l4,r4⟩:=mem_at g4
  have p1:=hpl n1 l1
  have p2:=hpl n2 l2
  have p3:=hpl n3 l3
  have p4:=hpl n4 l4
  rw [r1] at p1
  rw [r2] at p2
  rw [r3] at p3
  rw [r4] at p4
  unfold Keeps at hk
  unfold Plc at p1 p2 p3 p4 ⊢
  omega
 refine ⟨vl_of hq.1 (by omega) hpl,fun x hx => ?_⟩
 have hk:Keeps a b c d s t i j x:=by
  have g:∀ u v m,IsMin p u v m→m≤u * x.1+v * x.2:=by
   intro u v m hm
   obtain ⟨n,hn,hle⟩:=hs_least hg hx u v 0
   have:=hm.2 _ (at_mem hn)
   unfold af at hle
   omega
  have e1:=g _ _ _ h1
  have e2:=g _ _ _ h2
  have e3:=g _ _ _ h3
  have e4:=g _ _ _ h4
  have e5:=g _ _ _ h5
  have e6:=g _ _ _ h6
  have e7:=g _ _ _ h7
  have e8:=g _ _ _ h8
  unfold Keeps
  omega
 exact hs_of_least _ hq.1 hq.2.2 (oct_least hk)
theorem vl_hull {l s:List Pt} (h:IsHull l s) (hl:s.length≤64) (hp:Plcs s):Vl s:=vl_of h.1 hl hp
theorem sum_good {p q r:List Pt} (h:SumIs p q 0 r) (hv:Vl p∧Vl q):∃ s,IsHull (sums p q) s∧Plcs s∧((s.length≤64∧r=s)∨(64 < s.length∧IsOct s r)):=by
 rcases h with ⟨a,_,_⟩ | ⟨_,s,hs,⟨_,e,_⟩ | ⟨b,_,c⟩⟩
 ·exact absurd hv a
 ·exact absurd e (by decide)
 ·exact ⟨s,hs,b,c⟩
theorem sums_law {p q r:List Pt} (hp:Vl p) (hq:Vl q) (h:SumIs p q 0 r):Vl r∧∀ x y,Hs p x→Hs q y→Hs r (plus x y):=by
 obtain ⟨s,hs,hl,⟨a,rfl⟩ | ⟨a,ho⟩⟩:=sum_good h ⟨hp,hq⟩
 ·exact ⟨vl_hull hs a hl,fun x y hx hy => sum_has hp.pg hq.pg hs hx hy⟩
 ·obtain ⟨v,f⟩:=oct_wide hs.1 hl ho
  exact ⟨v,fun x y hx hy => f _ (sum_has hp.pg hq.pg hs hx hy)⟩
theorem SumIs.comm {p q r:List Pt} {k:Int} (h:SumIs p q k r):SumIs q p k r:=by
 rcases h with ⟨a,b,c⟩ | ⟨a,s,hs,d⟩
 ·exact Or.inl ⟨fun t => a ⟨t.2,t.1⟩,b,c⟩
 ·exact Or.inr ⟨⟨a.2,a.1⟩,s,sum_comm hs,d⟩
theorem one_vl {z:Pt} (hz:Plc z):Vl [z]:=⟨⟨by simp,by simp⟩,plcs_of (fun x hx => by rw [List.mem_singleton] at hx;subst hx;exact hz),fun i h1 h2 => by simp at h2;omega,fun h => absurd h (by simp)⟩
end Mk
end Go.Proofs.YtbpgfenippiepaaGreatDoor
namespace Go.Proofs.YtbpgfenippiepaaGreatDoor
open Go.RowKit
namespace Hl
theorem Own.less {B B':Nat} {w:World} {v:Value} {p:List Pt} (h:Own B w v p) (hb:B'≤B):Own B' w v p:=by
 obtain ⟨hl,h | ⟨g,cap,cur,e,h1,h2⟩⟩:=h
 ·exact ⟨hl,Or.inl h⟩
 ·exact ⟨hl,Or.inr ⟨g,cap,cur,e,Nat.le_trans hb h1,h2⟩⟩
structure SlN (w w':World) (v:Value) (p:List Pt):Prop where
 own:Own w.heap.size w' v p
theorem SlN.sl {w w':World} {v:Value} {p:List Pt} (h:SlN w w' v p):Sl w' v p:=h.own.sl
theorem SlN.new {w w':World} {v:Value} {p:List Pt} (h:SlN w w' v p):∀ k,v.ownBlock=some k→w.heap.size≤k:=fun k e => (World.ownsRow.lt h.own k e).1
theorem SlN.grown {w w1 w2:World} {v:Value} {p:List Pt} (h:SlN w w1 v p) (g:Grew w1 w2):SlN w w2 v p:=⟨h.own.grew g⟩
theorem SlN.later {w w1 w2:World} {v:Value} {p:List Pt} (h:SlN w1 w2 v p) (g:Grew w w1):SlN w w2 v p:=⟨h.own.less g.size⟩
def HullNew (l:List Pt) (w:World) (e:Ending) (w':World):Prop:=∃ q,IsHull l q∧((q.length≤64∧∃ v,e=.returned (.tuple #[v,.int .i64 0])∧SlN w w' v q∧Grew w w')∨(64 < q.length∧Empty 2 w e w'))
def EightNew (p:List Pt) (w:World) (e:Ending) (w':World):Prop:=∃ q v,IsOct p q∧e=.returned (.tuple #[v,.int .i64 0])∧SlN w w' v q∧Grew w w'
theorem HullNew.says {l:List Pt} {w:World} {e:Ending} {w':World} (h:HullNew l w e w'):HullSays l w e w':=by
 obtain ⟨q,hq,⟨h1,v,he,hs,g⟩ | h⟩:=h
 ·exact ⟨q,hq,Or.inl ⟨h1,v,he,hs.sl,g⟩⟩
 ·exact ⟨q,hq,Or.inr h⟩
theorem EightNew.says {p:List Pt} {w:World} {e:Ending} {w':World} (h:EightNew p w e w'):EightSays p w e w':=by
 obtain ⟨q,v,hq,he,hs,g⟩:=h
 exact ⟨q,v,hq,he,hs.sl,g⟩
structure CodeN:Prop extends Code where
 hull_new:∀ (l:List Pt) (v:Value) (w:World),Sl w v l→l.length≤4000→l ≠ []→Plcs l→Calls Tryz.prog 103 #[v] w (HullNew l w)
 eight_new:∀ (p:List Pt) (v:Value) (w:World),Sl w v p→Vl p→Calls Tryz.prog 98 #[v] w (EightNew p w)
end Hl
end Go.Proofs.YtbpgfenippiepaaGreatDoor
namespace Go.Proofs.YtbpgfenippiepaaGreatDoor
open Go.RowKit Hl
namespace Mk
def SumNew (p q:List Pt) (w:World) (e:Ending) (w':World):Prop:=∃ s,IsHull (sums p q) s∧((¬ Plcs s∧Empty 3 w e w')∨(Plcs s∧∃ v t,((s.length≤64∧t=s)∨(64 < s.length∧IsOct s t))∧e=.returned (.tuple #[v,.int .i64 0])∧SlN w w' v t∧Grew w w'))
theorem SumNew.says {p q:List Pt} {w:World} {e:Ending} {w':World} (h:SumNew p q w e w'):SumSays p q w e w':=by
 obtain ⟨s,hs,h | ⟨h,v,t,ht,he,hn,g⟩⟩:=h
 ·exact ⟨s,hs,Or.inl h⟩
 ·exact ⟨s,hs,Or.inr ⟨h,v,t,ht,he,hn.sl,g⟩⟩
end Mk
end Go.Proofs.YtbpgfenippiepaaGreatDoor
namespace Go.Proofs.YtbpgfenippiepaaGreatDoor
open Hl
namespace Mk
theorem up_to (g:Nat→Int):∀ n:Nat,∃ N:Int,0≤N∧∀ l,l < n→g l≤N
 | 0 => ⟨0,by omega,fun l h => by omega⟩
 | n+1 => by
   obtain ⟨N,h0,h⟩:=up_to g n
   by_cases c:g n≤N
   ·exact ⟨N,h0,fun l hl => by
     rcases (show l < n∨l=n by omega) with h1 | rfl
     ·exact h l h1
     ·exact c⟩
   ·exact ⟨g n,by omega,fun l hl => by
     rcases (show l < n∨l=n by omega) with h1 | rfl
     ·have:=h l h1
      omega
     ·omega⟩
theorem hs_strict {t:List Pt} (ht:Pg t) {i:Nat} {u v k:Int} (hst:∀ j,j < t.length→j ≠ i→af u v k (at' t i) < af u v k (at' t j)) {y:Pt} (hy:Hs t y) (hle:af u v k y≤af u v k (at' t i)):y=at' t i:=by
 by_cases hne:y=at' t i
 ·exact hne
 ·exfalso
  obtain ⟨x,hx⟩:∃ x,at' t i=x:=⟨_,rfl⟩
  rw [hx] at hst hle hne
  obtain ⟨a,ha⟩:∃ a,x.1 - y.1=a:=⟨_,rfl⟩
  obtain ⟨b,hb⟩:∃ b,x.2 - y.2=b:=⟨_,rfl⟩
  have pos:0 < a * a+b * b:=by
   by_cases ea:a=0
   ·have eb:b ≠ 0:=fun eb => hne (Prod.ext (by omega) (by omega))
    have:=sq_pos eb
    have:=sq_nonneg a
    omega
   ·have:=sq_pos ea
    have:=sq_nonneg b
    omega
  have dif:(a * x.1+b * x.2) - (a * y.1+b * y.2)=a * a+b * b:=by
   rw [← ha,← hb]
   grind
  obtain ⟨N,N0,hN⟩:=up_to (fun l => (a * x.1+b * x.2) - (a * (at' t l).1+b * (at' t l).2)) t.length
  obtain ⟨l,hl,e⟩:=hs_least ht hy (N * u+a) (N * v+b) 0
  have hNl:=hN l hl
  unfold af at hst hle e
  have e1:∀ z:Pt,(N * u+a) * z.1+(N * v+b) * z.2+0=N * (u * z.1+v * z.2)+(a * z.1+b * z.2):=fun z => by grind
  rw [e1,e1] at e
  by_cases hli:l=i
  ·rw [hli,hx] at e
   have:=Int.mul_le_mul_of_nonneg_left (show u * y.1+v * y.2≤u * x.1+v * x.2 by omega) N0
   omega
  ·have h1:=hst l hl hli
   have h2:=Int.mul_le_mul_of_nonneg_left (show u * y.1+v * y.2≤u * x.1+v * x.2 by omega) N0
   have h3:=Int.mul_le_mul_of_nonneg_left (show u * x.1+v * x.2+1≤u * (at' t l).1+v * (at' t l).2 by omega) N0
   rw [Int.mul_add,Int.mul_one] at h3
   omega
theorem octL_split {a b c d s t i j a' b' c' d' s' t' i' j':Int} {y:Pt} (hy:y ∈ octL (a+a') (b+b') (c+c') (d+d') (s+s') (t+t') (i+i') (j+j')):∃ x,x ∈ octL a b c d s t i j∧∃ z,z ∈ octL a' b' c' d' s' t' i' j'∧plus x z=y:=by
 unfold octL at hy
 simp only [List.mem_cons,List.not_mem_nil,or_false] at hy
 rcases hy with rfl | rfl | rfl | rfl | rfl | rfl | rfl | rfl
 ·exact ⟨(b,b - j),by simp [octL],(b',b' - j'),by simp [octL],Prod.ext (by simp only [plus]) (by simp only [plus];omega)⟩
 ·exact ⟨(b,t - b),by simp [octL],(b',t' - b'),by simp [octL],Prod.ext (by simp only [plus]) (by simp only [plus];omega)⟩
 ·exact ⟨(t - d,d),by simp [octL],(t' - d',d'),by simp [octL],Prod.ext (by simp only [plus];omega) (by simp only [plus])⟩
 ·exact ⟨(d+i,d),by simp [octL],(d'+i',d'),by simp [octL],Prod.ext (by simp only [plus];omega) (by simp only [plus])⟩
 ·exact ⟨(a,a - i),by simp [octL],(a',a' - i'),by simp [octL],Prod.ext (by simp only [plus]) (by simp only [plus];omega)⟩
 ·exact ⟨(a,s - a),by simp [octL],(a',s' - a'),by simp [octL],Prod.ext (by simp only [plus]) (by simp only [plus];omega)⟩
 ·exact ⟨(s - c,c),by simp [octL],(s' - c',c'),by simp [octL],Prod.ext (by simp only [plus];omega) (by simp only [plus])⟩
 ·exact ⟨(c+j,c),by simp [octL],(c'+j',c'),by simp [octL],Prod.ext (by simp only [plus];omega) (by simp only [plus])⟩
theorem keeps_plus {a b c d s t i j a' b' c' d' s' t' i' j':Int} {x z:Pt} (h:Keeps a b c d s t i j x) (h':Keeps a' b' c' d' s' t' i' j' z):Keeps (a+a') (b+b') (c+c') (d+d') (s+s') (t+t') (i+i') (j+j') (plus x z):=by
 unfold Keeps plus at *
 simp only
 omega
theorem oct_sum {p q p8 q8 s r:List Pt} (hp:IsOct p p8) (hq:IsOct q q8) (hs:IsHull (sums p q) s) (hr:IsHull (sums p8 q8) r):IsOct s r:=by
 obtain ⟨a,b,c,d,m,n,i,j,h1,h2,h3,h4,h5,h6,h7,h8,hp8⟩:=hp
 obtain ⟨a',b',c',d',m',n',i',j',g1,g2,g3,g4,g5,g6,g7,g8,hq8⟩:=hq
 have neg2:∀ x y:Int,-x+-y = -(x+y):=fun x y => by omega
 refine ⟨a+a',b+b',c+c',d+d',m+m',n+n',i+i',j+j',min_sum hs h1 g1,by rw [← neg2];exact min_sum hs h2 g2,min_sum hs h3 g3,by rw [← neg2];exact min_sum hs h4 g4,min_sum hs h5 g5,by rw [← neg2];exact min_sum hs h6 g6,min_sum hs h7 g7,by rw [← neg2];exact min_sum hs h8 g8,?_⟩
 have O:=oct_keeps (bd_of h1 h2 h3 h4 h5 h6 h7 h8).1
 have O':=oct_keeps (bd_of g1 g2 g3 g4 g5 g6 g7 g8).1
 have all:∀ y,y ∈ octL (a+a') (b+b') (c+c') (d+d') (m+m') (n+n') (i+i') (j+j')→Hs r y:=fun y hy => by
  obtain ⟨x,hx,z,hz,rfl⟩:=octL_split hy
  exact sum_has hp8.1 hq8.1 hr (hp8.2.2 x hx) (hq8.2.2 z hz)
 refine ⟨hr.1,fun x hx => ?_,all⟩
 obtain ⟨l,hl,rfl⟩:=mem_at hx
 obtain ⟨u,v,k,hst⟩:=corner_strict hr.1 hl
 obtain ⟨x1,hx1,x2,hx2,e⟩:=mem_sums.1 (hr.2.1 _ hx)
 have K:=keeps_plus (O x1 (hp8.2.1 _ hx1)) (O' x2 (hq8.2.1 _ hx2))
 rw [e] at K
 obtain ⟨y,hy,hle⟩:=oct_least K u v k
 rw [← hs_strict hr.1 hst (all y hy) hle]
 exact hy
theorem oct_plcs {s r:List Pt} (h:IsOct s r):Plcs s↔Plcs r:=by
 obtain ⟨a,b,c,d,m,n,i,j,h1,h2,h3,h4,h5,h6,h7,h8,hr⟩:=h
 obtain ⟨B,K⟩:=bd_of h1 h2 h3 h4 h5 h6 h7 h8
 obtain ⟨m1,m2,m3,m4,_⟩:=oct_min B hr
 have key:∀ {x y:List Pt},IsMin x 1 0 a→IsMin x (-1) 0 (-b)→IsMin x 0 1 c→IsMin x 0 (-1) (-d)→IsMin y 1 0 a→IsMin y (-1) 0 (-b)→IsMin y 0 1 c→IsMin y 0 (-1) (-d)→Plcs x→Plcs y:=fun {x y} h1 h2 h3 h4 k1 k2 k3 k4 hx l hl => by
  obtain ⟨y1,g1,e1⟩:=h1.1
  obtain ⟨y2,g2,e2⟩:=h2.1
  obtain ⟨y3,g3,e3⟩:=h3.1
  obtain ⟨y4,g4,e4⟩:=h4.1
  obtain ⟨n1,l1,r1⟩:=mem_at g1
  obtain ⟨n2,l2,r2⟩:=mem_at g2
  obtain ⟨n3,l3,r3⟩:=mem_at g3
  obtain ⟨n4,l4,r4⟩:=mem_at g4
  have p1:=hx n1 l1
  have p2:=hx n2 l2
  have p3:=hx n3 l3
  have p4:=hx n4 l4
  rw [r1] at p1
  rw [r2] at p2
  rw [r3] at p3
  rw [r4] at p4
  have q1:=k1.2 _ (at_mem hl)
  have q2:=k2.2 _ (at_mem hl)
  have q3:=k3.2 _ (at_mem hl)
  have q4:=k4.2 _ (at_mem hl)
  unfold Plc at p1 p2 p3 p4 ⊢
  omega
 exact ⟨key h1 h2 h3 h4 m1 m2 m3 m4,key m1 m2 m3 m4 h1 h2 h3 h4⟩
end Mk
end Go.Proofs.YtbpgfenippiepaaGreatDoor
