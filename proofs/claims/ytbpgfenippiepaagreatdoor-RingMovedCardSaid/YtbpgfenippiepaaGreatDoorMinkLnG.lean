/-
  The reference implementation of layer 9: Lies, Ray, Between, Of; the places of a sector, Sector.
  The reference implementation of layer 9: rounded places, the places of a sector, Sector; the landed Sector, where an argument is wrong.
  What package ray owes; the landed package and the reference pay it.
  The landed Sum.
  The landed changed, Shift and Mirror.
  The landed package ring: Near; what package ring owes is paid.
-/
import Derived.Test.YtbpgfenippiepaaGreatDoorRayLnA
import Derived.Test.YtbpgfenippiepaaGreatDoorRayLnD
import Derived.Test.YtbpgfenippiepaaGreatDoorHullWrap
import Derived.Test.YtbpgfenippiepaaGreatDoorHullCk
import Derived.Test.YtbpgfenippiepaaGreatDoorMinkLnF
import Derived.Shelf.Abstract
import Derived.Test.YtbpgfenippiepaaGreatDoorRngB
import Derived.Test.YtbpgfenippiepaaGreatDoorRngD
import Derived.Test.YtbpgfenippiepaaGreatDoorRegN
namespace Go.Proofs.YtbpgfenippiepaaGreatDoor
open Go.RowKit Hl Ex
namespace Ry
set_option maxRecDepth 100000
theorem xc_neg (a b:Pt):xc a b = -(xc b a):=by unfold xc;grind
set_option maxHeartbeats 2000000 in
theorem lies_r (a n:Nat) (v:Pt) (w:World) (ha:a < 64) (hn:n≤31) (hv:Nr v):Calls Tryz.prog 55 #[.int .i64 a,.int .i64 n,.agg #[.int .i64 v.1,.int .i64 v.2]] w fun e w' => e=.returned (.bool (decide (Lies a n v)))∧Grew w w':=by
 have OC:Hid (∀ W,Calls Tryz.prog 91 #[.int .i64 a,.agg #[.int .i64 v.1,.int .i64 v.2]] W fun e w' => e=.returned (.bool (decide (On a v)))∧Grew W w'):=Lib.hid (fun W => on_r a v W (by omega) hv)
 have LI:Hid (Lies a n v↔(On a v∨(0 < n∧0≤xc (dir a) v∧0≤xc v (dir (a+n))))):=Lib.hid (by
  unfold Lies sd
  rw [xc_neg v]
  constructor
  ·rintro (h | ⟨h1,h2,h3⟩)
   ·exact Or.inl h
   ·exact Or.inr ⟨h1,h2,by omega⟩
  ·rintro (h | ⟨h1,h2,h3⟩)
   ·exact Or.inl h
   ·exact Or.inr ⟨h1,h2,by omega⟩)
 have kV:=Lib.hid (Blk.new w #[.int .i64 v.1,.int .i64 v.2] 24)
 have G0:Grew w (w.alloc (.cells #[.int .i64 v.1,.int .i64 v.2] 24)):=(Grew.refl w).alloc _ _
 have a0:(0:Int)≤(a:Int):=by omega
 have a1:(a:Int) < 64:=by omega
 have n0:(0:Int)≤(n:Int):=by omega
 have n1:(n:Int)≤31:=by omega
 by_cases hz:n=0
 ·obtain ⟨r,hr⟩:∃ r,decide (Lies a n v)=r:=⟨_,rfl⟩
  rw [hr]
  have OC:Hid (∀ W,Calls Tryz.prog 91 #[.int .i64 a,.agg #[.int .i64 v.1,.int .i64 v.2]] W fun e w' => e=.returned (.bool r)∧Grew W w'):=Lib.hid (by
   have e:decide (On a v)=r:=by
    rw [← hr]
    congr 1
    apply propext
    rw [LI.out]
    exact ⟨fun h => Or.inl h,fun h => h.resolve_right (fun h => by omega)⟩
   rw [← e]
   exact OC.out)
  subst hz
  clear hr LI hv
  go_enter Tryz.func55,Tryz.ntmps55
  go_wp2_with fail
  refine (OC.out _).mono ?_
  rintro e w1 ⟨rfl,g1⟩
  have G1:=Grew.trans G0 g1
  clear g1
  go_wp2_with fail
  go_ret
  exact ⟨rfl,gw⟩
 have hz1:((n:Int) == 0)=false:=by rw [beq_eq_false_iff_ne];omega
 have hz2:¬ n=0:=hz
 by_cases ho:On a v
 ·rw [decide_eq_true (LI.out.2 (Or.inl ho))]
  rw [decide_eq_true ho] at OC
  clear LI hv ho
  go_enter Tryz.func55,Tryz.ntmps55
  go_wp2_with fail
  refine (OC.out _).mono ?_
  rintro e w1 ⟨rfl,g1⟩
  have G1:=Grew.trans G0 g1
  obtain ⟨⟨c0,c1⟩,_,_⟩:=(kV.out.grown g1).two
  have lV:=(kV.out.grown g1).lt
  clear g1
  go_wp2_with fail
  refine (OC.out _).mono ?_
  rintro e w2 ⟨rfl,g2⟩
  have G2:=Grew.trans G1 g2
  clear g2
  go_wp2_with fail
  go_ret
  exact ⟨rfl,gw⟩
 rw [decide_eq_false ho] at OC
 have AC:Hid (∀ (z:Int),0≤z→z < 128→∀ W,Calls Tryz.prog 45 #[.int .i64 z] W fun e w' => e=.returned (.agg #[.int .i64 (dir z.toNat).1,.int .i64 (dir z.toNat).2])∧Grew W w'):=Lib.hid (fun z z0 z1 W => by
  have h:=at_r z.toNat W (by omega)
  rwa [show ((z.toNat:Nat):Int)=z by omega] at h)
 have CX:Hid (∀ (p q:Pt) W,Nr p→Nr q→Calls Tryz.prog 92 #[.agg #[.int .i64 p.1,.int .i64 p.2],.agg #[.int .i64 q.1,.int .i64 q.2]] W fun e w' => e=.returned (.int .i64 (xc p q))∧Grew W w'):=Lib.hid (fun p q W hp hq => cross_9 p q W hp hq)
 have NV:=Lib.hid hv
 by_cases hs:0≤xc (dir a) v
 ·obtain ⟨r,hr⟩:∃ r,decide (Lies a n v)=r:=⟨_,rfl⟩
  rw [hr]
  have FIN:Hid (decide (0≤xc v (dir (a+n)))=r):=Lib.hid (by
   rw [← hr]
   congr 1
   apply propext
   rw [LI.out]
   exact ⟨fun h => Or.inr ⟨by omega,hs,h⟩,fun h => by
    rcases h with h | h
    ·exact absurd h ho
    ·exact h.2.2⟩)
  have DN:Hid (dir ((a:Int)+(n:Int)).toNat=dir (a+n)):=Lib.hid (by rw [show ((a:Int)+(n:Int)).toNat=a+n by omega])
  have W1:IntKind.i64.wrap ((a:Int)+(n:Int))=(a:Int)+(n:Int):=IntWalk.i64_in _ ⟨by omega,by omega⟩
  clear hr LI hv ho
  go_enter Tryz.func55,Tryz.ntmps55
  go_wp2_with fail
  refine (OC.out _).mono ?_
  rintro e w1 ⟨rfl,g1⟩
  have G1:=Grew.trans G0 g1
  have kV1:=Lib.hid (kV.out.grown g1)
  obtain ⟨⟨c0,c1⟩,_,_⟩:=kV1.out.two
  have lV:=kV1.out.lt
  clear g1 G0
  go_wp2_with fail
  have GG:=Grew.refl w1
  go_region_held3 (fun W' => W'.cell? ⟨w.heap.size,0,none⟩=some (.int .i64 v.1)∧W'.cell? ⟨w.heap.size,1,none⟩=some (.int .i64 v.2)) (first | assumption | (simp [go_sem, *];done))
   (first
    | (go_at_call 45;refine (AC.out _ (by omega) (by omega) _).mono ?_;rintro e w2 ⟨rfl,g⟩;(have GG:=Grew.trans (by (repeat' (first | (with_reducible exact GG) | (with_reducible exact Grew.drew GG)))) g);(have kW:=kV1.out.grown GG);obtain ⟨⟨c0,c1⟩,_,_⟩:=kW.two)
    | (go_at_call 92;refine (CX.out _ _ _ (by first | exact nr_dir _ | exact NV.out) (by first | exact nr_dir _ | exact NV.out)).mono ?_;rintro e w2 ⟨rfl,g⟩;(have GG:=Grew.trans (by (repeat' (first | (with_reducible exact GG) | (with_reducible exact Grew.drew GG)))) g);(have kW:=kV1.out.grown GG);obtain ⟨⟨c0,c1⟩,_,_⟩:=kW.two))
  go_wp2_with fail
  go_ret
  have G:=Grew.trans G1 GG
  exact ⟨by first | (rw [← FIN.out];simp [DN.out];done) | (rw [← FIN.out,← DN.out];simp [hs];done) | (rw [← FIN.out];simp;done),gw⟩
 ·rw [decide_eq_false (fun h => by rcases LI.out.1 h with h | h;exact ho h;exact hs h.2.1)]
  have C1:Hid (∀ W,Calls Tryz.prog 92 #[.agg #[.int .i64 (dir a).1,.int .i64 (dir a).2],.agg #[.int .i64 v.1,.int .i64 v.2]] W fun e w' => e=.returned (.int .i64 (xc (dir a) v))∧Grew W w'):=Lib.hid (fun W => CX.out _ _ W (nr_dir a) NV.out)
  generalize xc (dir a) v=s at hs C1
  have hd:decide (0≤s)=false:=decide_eq_false hs
  clear hs
  clear LI hv ho
  go_enter Tryz.func55,Tryz.ntmps55
  go_wp2_with fail
  refine (OC.out _).mono ?_
  rintro e w1 ⟨rfl,g1⟩
  have G1:=Grew.trans G0 g1
  have kV1:=Lib.hid (kV.out.grown g1)
  obtain ⟨⟨c0,c1⟩,_,_⟩:=kV1.out.two
  have lV:=kV1.out.lt
  clear g1 G0
  go_wp2_with fail
  refine wp_region_held_drew (S:=(fun W' => W'.cell? ⟨w.heap.size,0,none⟩=some (.int .i64 v.1)∧W'.cell? ⟨w.heap.size,1,none⟩=some (.int .i64 v.2))) (by kernel_rfl) (by first | assumption | (simp [go_sem, *];done)) (fun hHeld => ?_)
  refine wpAnyH_take (i:=0) (oi:=⟨some 17,_,_,_,_,_⟩) (v:=?_) rfl (by kernel_rfl) (by kernel_rfl) (by kernel_rfl) (fun _ _ _ h => h) (Or.inl ⟨by rfl,?_⟩) (by assumption) ?_
  rotate_left
  ·intro w hSw;(try dsimp only at hSw);go_simp;(try with_reducible rfl)
  try simp only [Act.put,List.setIfInBounds_toArray,List.set_cons_zero,List.set_cons_succ]
  refine wpAnyH_take (i:=2) (oi:=⟨some 19,_,_,_,_,_⟩) (v:=?_) rfl (by kernel_rfl) (by kernel_rfl) (by kernel_rfl) (fun _ _ _ h => h) (Or.inl ⟨by rfl,?_⟩) (by assumption) ?_
  rotate_left
  ·intro w hSw;(try dsimp only at hSw);go_simp;(try with_reducible rfl)
  try simp only [Act.put,List.setIfInBounds_toArray,List.set_cons_zero,List.set_cons_succ]
  refine wpAnyH_ready (rs:=[1]) (by kernel_rfl) (by simp) ?_
  refine AllReadyH.cons (o:=⟨some 18,_,_,_,_,_⟩) rfl (fun K hK => ?_) AllReadyH.nil
  go_simp
  refine (AC.out _ (by omega) (by omega) _).mono ?_
  rintro e w2 ⟨rfl,g⟩
  have G2:=Grew.trans (Grew.drew (Grew.refl _)) g
  have kW2:=kV1.out.grown G2
  obtain ⟨⟨c0,c1⟩,_,_⟩:=kW2.two
  clear g
  go_wp2_with fail
  refine hK.out _ _ (by (try dsimp only);first | assumption | (simp [go_sem, *];done)) (fun h1 => ?_)
  clear hK K hHeld
  have hHeld:=h1
  clear h1
  try simp only [Act.put,List.setIfInBounds_toArray,List.set_cons_zero,List.set_cons_succ]
  refine wpAnyH_ready (rs:=[3]) (by kernel_rfl) (by simp) ?_
  refine AllReadyH.cons (o:=⟨some 20,_,_,_,_,_⟩) rfl (fun K hK => ?_) AllReadyH.nil
  go_simp
  refine (C1.out _).mono ?_
  rintro e w3 ⟨rfl,g⟩
  have G3:=Grew.trans G2 g
  have kW3:=kV1.out.grown G3
  obtain ⟨⟨c0,c1⟩,_,_⟩:=kW3.two
  clear g
  go_wp2_with fail
  refine hK.out _ _ (by (try dsimp only);first | assumption | (simp [go_sem, *];done)) (fun h1 => ?_)
  clear hK K hHeld
  have hHeld:=h1
  clear h1
  try simp only [Act.put,List.setIfInBounds_toArray,List.set_cons_zero,List.set_cons_succ]
  refine wpAnyH_take (i:=4) (oi:=⟨some 21,_,_,_,_,_⟩) (v:=?_) rfl (by kernel_rfl) (by kernel_rfl) (by kernel_rfl) (fun _ _ _ h => h) (Or.inl ⟨by rfl,?_⟩) (by assumption) ?_
  rotate_left
  ·intro w hSw;(try dsimp only at hSw);go_simp;(try with_reducible rfl)
  try simp only [Act.put,List.setIfInBounds_toArray,List.set_cons_zero,List.set_cons_succ]
  refine wpAnyH_take (i:=5) (oi:=⟨some 22,_,_,_,_,_⟩) (v:=?_) rfl (by kernel_rfl) (by kernel_rfl) (by kernel_rfl) (fun _ _ _ h => h) (Or.inl ⟨by rfl,?_⟩) (by assumption) ?_
  rotate_left
  ·intro w hSw;(try dsimp only at hSw);go_simp;(try with_reducible rfl)
  try simp only [Act.put,List.setIfInBounds_toArray,List.set_cons_zero,List.set_cons_succ]
  refine wpAnyH_take (i:=6) (oi:=⟨some 23,_,_,_,_,_⟩) (v:=undef) rfl (by kernel_rfl) (by kernel_rfl) (by kernel_rfl) (fun _ _ _ h => h) (Or.inr ⟨by rfl,rfl⟩) (by assumption) ?_
  try simp only [Act.put,List.setIfInBounds_toArray,List.set_cons_zero,List.set_cons_succ]
  refine wpAnyH_take (i:=7) (oi:=⟨some 24,_,_,_,_,_⟩) (v:=undef) rfl (by kernel_rfl) (by kernel_rfl) (by kernel_rfl) (fun _ _ _ h => h) (Or.inr ⟨by rfl,rfl⟩) (by assumption) ?_
  try simp only [Act.put,List.setIfInBounds_toArray,List.set_cons_zero,List.set_cons_succ]
  refine wpAnyH_take (i:=8) (oi:=⟨some 25,_,_,_,_,_⟩) (v:=undef) rfl (by kernel_rfl) (by kernel_rfl) (by kernel_rfl) (fun _ _ _ h => h) (Or.inr ⟨by rfl,rfl⟩) (by assumption) ?_
  try simp only [Act.put,List.setIfInBounds_toArray,List.set_cons_zero,List.set_cons_succ]
  refine wpAnyH_take (i:=9) (oi:=⟨some 26,_,_,_,_,_⟩) (v:=undef) rfl (by kernel_rfl) (by kernel_rfl) (by kernel_rfl) (fun _ _ _ h => h) (Or.inr ⟨by rfl,rfl⟩) (by assumption) ?_
  try simp only [Act.put,List.setIfInBounds_toArray,List.set_cons_zero,List.set_cons_succ]
  refine wpAnyH_take (i:=10) (oi:=⟨some 27,_,_,_,_,_⟩) (v:=undef) rfl (by kernel_rfl) (by kernel_rfl) (by kernel_rfl) (fun _ _ _ h => h) (Or.inr ⟨by rfl,rfl⟩) (by assumption) ?_
  try simp only [Act.put,List.setIfInBounds_toArray,List.set_cons_zero,List.set_cons_succ]
  refine wpAnyH_take (i:=11) (oi:=⟨some 28,_,_,_,_,_⟩) (v:=undef) rfl (by kernel_rfl) (by kernel_rfl) (by kernel_rfl) (fun _ _ _ h => h) (Or.inr ⟨by rfl,rfl⟩) (by assumption) ?_
  try simp only [Act.put,List.setIfInBounds_toArray,List.set_cons_zero,List.set_cons_succ]
  refine wpAnyH_take (i:=12) (oi:=⟨some 29,_,_,_,_,_⟩) (v:=undef) rfl (by kernel_rfl) (by kernel_rfl) (by kernel_rfl) (fun _ _ _ h => h) (Or.inr ⟨by rfl,rfl⟩) (by assumption) ?_
  try simp only [Act.put,List.setIfInBounds_toArray,List.set_cons_zero,List.set_cons_succ]
  refine wpAnyH_take (i:=13) (oi:=⟨some 30,_,_,_,_,_⟩) (v:=?_) rfl (by kernel_rfl) (by kernel_rfl) (by kernel_rfl) (fun _ _ _ h => h) (Or.inl ⟨by rfl,?_⟩) (by assumption) ?_
  rotate_left
  ·intro w hSw;(try dsimp only at hSw);go_simp;(try with_reducible rfl)
  try simp only [Act.put,List.setIfInBounds_toArray,List.set_cons_zero,List.set_cons_succ]
  refine wpAnyH_take (i:=14) (oi:=⟨some 6,_,_,_,_,_⟩) (v:=?_) rfl (by kernel_rfl) (by kernel_rfl) (by kernel_rfl) (fun _ _ _ h => h) (Or.inl ⟨by rfl,?_⟩) (by assumption) ?_
  rotate_left
  ·intro w hSw;(try dsimp only at hSw);go_simp;(try with_reducible rfl)
  try simp only [Act.put,List.setIfInBounds_toArray,List.set_cons_zero,List.set_cons_succ]
  refine wpAnyH_done (by kernel_rfl) ?_ _
  go_wp2_with fail
  go_ret
  have G:=Grew.trans G1 G3
  exact ⟨by first | rfl | (simp;done),gw⟩
end Ry
end Go.Proofs.YtbpgfenippiepaaGreatDoor
namespace Go.Proofs.YtbpgfenippiepaaGreatDoor
open Go.RowKit Hl Ex
namespace Ry
set_option maxRecDepth 100000
def Dst (lo hi:Int):Prop:=0≤lo∧lo≤hi∧hi≤100000
instance (lo hi:Int):Decidable (Dst lo hi):=by unfold Dst;infer_instance
theorem dist_yes (lo hi:Int) (w:World) (h:Dst lo hi):Calls Tryz.prog 33 #[.agg #[.int .i64 lo,.int .i64 hi]] w fun e w' => e=.returned (.bool true)∧Grew w w':=by
 obtain ⟨h0,h1,h2⟩:=h
 go_enter Tryz.func33,Tryz.ntmps33
 go_wp2_with fail
 go_ret
 exact ⟨by first | rfl | (simp;omega),gw⟩
theorem dist_no (lo hi:Int) (w:World) (h:¬ Dst lo hi):Calls Tryz.prog 33 #[.agg #[.int .i64 lo,.int .i64 hi]] w fun e w' => e=.returned (.bool false)∧Grew w w':=by
 by_cases h0:0≤lo
 ·by_cases h1:lo≤hi
  ·have h2:¬ hi≤100000:=fun h2 => h ⟨h0,h1,h2⟩
   clear h
   go_enter Tryz.func33,Tryz.ntmps33
   go_wp2_with fail
   go_ret
   exact ⟨by first | rfl | (simp;omega),gw⟩
  ·clear h
   go_enter Tryz.func33,Tryz.ntmps33
   go_wp2_with fail
   go_ret
   exact ⟨by first | rfl | (simp;omega),gw⟩
 ·clear h
  go_enter Tryz.func33,Tryz.ntmps33
  go_wp2_with fail
  go_ret
  exact ⟨by first | rfl | (simp;omega),gw⟩
def SecSays (a n:Nat) (lo hi:Int) (w:World) (e:Ending) (w':World):Prop:=∃ q v,IsHull (secL a n lo hi) q∧q.length≤64∧e=.returned (.tuple #[v,.int .i64 0])∧Sl w' v q∧Grew w w'
theorem sector_bad (a n lo hi:Int) (w:World) (h:¬ ((0≤a∧a < 64)∧(0≤n∧n≤31)∧Dst lo hi)):Calls Tryz.prog 61 #[.int .i64 a,.int .i64 n,.agg #[.int .i64 lo,.int .i64 hi]] w (Empty 1 w):=by
 by_cases ha:0≤a∧a < 64
 ·have A0:=Lib.hid ha
  by_cases hn:0≤n∧n≤31
  ·have N0:=Lib.hid hn
   by_cases h0:0≤lo
   ·by_cases h1:lo≤hi
    ·have h2:¬ hi≤100000:=fun h2 => h ⟨ha,hn,h0,h1,h2⟩
     clear h ha hn
     go_enter Tryz.func61,Tryz.ntmps61
     go_wp2_with fail
     refine (isRay_yes _ A0.out.1 A0.out.2 _).mono ?_
     rintro e w' ⟨rfl,rfl⟩
     go_wp2_with fail
     refine (isWidth_yes _ N0.out.1 N0.out.2 _).mono ?_
     rintro e w' ⟨rfl,rfl⟩
     go_wp2_with fail
     go_ret2
     exact ⟨_,rfl,Or.inl ⟨rfl,none,0,rfl⟩,gw⟩
    ·clear h ha hn
     go_enter Tryz.func61,Tryz.ntmps61
     go_wp2_with fail
     refine (isRay_yes _ A0.out.1 A0.out.2 _).mono ?_
     rintro e w' ⟨rfl,rfl⟩
     go_wp2_with fail
     refine (isWidth_yes _ N0.out.1 N0.out.2 _).mono ?_
     rintro e w' ⟨rfl,rfl⟩
     go_wp2_with fail
     go_ret2
     exact ⟨_,rfl,Or.inl ⟨rfl,none,0,rfl⟩,gw⟩
   ·clear h ha hn
    go_enter Tryz.func61,Tryz.ntmps61
    go_wp2_with fail
    refine (isRay_yes _ A0.out.1 A0.out.2 _).mono ?_
    rintro e w' ⟨rfl,rfl⟩
    go_wp2_with fail
    refine (isWidth_yes _ N0.out.1 N0.out.2 _).mono ?_
    rintro e w' ⟨rfl,rfl⟩
    go_wp2_with fail
    go_ret2
    exact ⟨_,rfl,Or.inl ⟨rfl,none,0,rfl⟩,gw⟩
  ·have N0:Hid (n < 0∨31 < n):=Lib.hid (by omega)
   clear h ha hn
   go_enter Tryz.func61,Tryz.ntmps61
   go_wp2_with fail
   refine (isRay_yes _ A0.out.1 A0.out.2 _).mono ?_
   rintro e w' ⟨rfl,rfl⟩
   go_wp2_with fail
   refine (isWidth_no _ N0.out _).mono ?_
   rintro e w' ⟨rfl,rfl⟩
   go_wp2_with fail
   go_ret2
   exact ⟨_,rfl,Or.inl ⟨rfl,none,0,rfl⟩,gw⟩
 ·have A0:Hid (a < 0∨64≤a):=Lib.hid (by omega)
  clear h ha
  go_enter Tryz.func61,Tryz.ntmps61
  go_wp2_with fail
  refine (isRay_no _ A0.out _).mono ?_
  rintro e w' ⟨rfl,rfl⟩
  go_wp2_with fail
  go_ret2
  exact ⟨_,rfl,Or.inl ⟨rfl,none,0,rfl⟩,gw⟩
end Ry
end Go.Proofs.YtbpgfenippiepaaGreatDoor
namespace Go.Proofs.YtbpgfenippiepaaGreatDoor
open Go.RowKit Hl
namespace Ry
structure Code (T:World→Prop):Prop where
 keep:∀ W w,Grew W w→T W→T w
theorem SecNew.says {a n:Nat} {lo hi:Int} {w:World} {e:Ending} {w':World} (h:SecNew a n lo hi w e w'):SecSays a n lo hi w e w':=by
 obtain ⟨q,v,h1,h2,h3,h4,h5⟩:=h
 exact ⟨q,v,h1,h2,h3,h4.sl,h5⟩
end Ry
end Go.Proofs.YtbpgfenippiepaaGreatDoor
namespace Go.Proofs.YtbpgfenippiepaaGreatDoor
open Go.RowKit Go.Shelf Hl
namespace Mk
def PlacedSays (s:List Pt) (v:Value) (w:World) (e:Ending) (w':World):Prop:=(Vl s∧e=.returned (.tuple #[v,.int .i64 0])∧Grew w w')∨(¬ Vl s∧Empty 3 w e w')
theorem placed_c (s:List Pt) (v:Value) (w:World) (hs:Sl w v s) (hl:s.length≤9223372036854775807):Calls Tryz.prog 62 #[v] w (PlacedSays s v w):=by
 have HS:=Lib.hid hs
 have HL:=Lib.hid hl
 clear hs hl
 by_cases hv:Vl s
 ·have V:=Lib.hid hv
  clear hv
  go_enter Tryz.func62,Tryz.ntmps62
  go_wp2_with fail
  refine ((Hl.landed.valid s v _ HS.out HL.out).mono fun _ _ t => t.to V.out).mono ?_
  rintro e w1 ⟨rfl,G1⟩
  go_wp2_with fail
  go_ret2
  exact Or.inl ⟨V.out,rfl,G1⟩
 ·have V:=Lib.hid hv
  clear hv
  go_enter Tryz.func62,Tryz.ntmps62
  go_wp2_with fail
  refine ((Hl.landed.valid s v _ HS.out HL.out).mono fun _ _ t => t.un V.out).mono ?_
  rintro e w1 ⟨rfl,G1⟩
  go_wp2_with fail
  go_ret2
  exact Or.inr ⟨V.out,_,rfl,Or.inl ⟨rfl,none,0,rfl⟩,G1⟩
theorem sum_any (p q:List Pt) (v u:Value) (w:World) (hs:Sl w v p) (hs2:Sl w u q) (vp:Vl p) (vq:Vl q) :
  Calls Tryz.prog 97 #[v,u] w fun e w' => ∃ g cap,e=.returned (.slice (some ⟨g,0,none⟩) (msum p q).length cap)∧SlN w w' (.slice (some ⟨g,0,none⟩) (msum p q).length cap) (msum p q)∧Grew w w':=by
 have n0:1≤p.length:=vp.1.1
 have n1:1≤q.length:=vq.1.1
 obtain ⟨b,o,c,rfl,hr⟩:=hs.row (fun e => by rw [e] at n0;cases n0)
 obtain ⟨b',o',c',rfl,hr'⟩:=hs2.row (fun e => by rw [e] at n1;cases n1)
 refine (sum_c b o c b' o' c' p q vp vq w hr hr').mono ?_
 rintro e w' ⟨v,rfl,ho,g⟩
 obtain ⟨g0,cap,rfl,ha⟩:=ho.at (fun e => by have:=(msum_hull vp vq).1.1;rw [e] at this;cases this)
 exact ⟨g0,cap,rfl,⟨ho⟩,g⟩
def SmallSays (s:List Pt) (w:World) (e:Ending) (w':World):Prop:=(¬ Plcs s∧Empty 3 w e w')∨(Plcs s∧∃ v,e=.returned (.tuple #[v,.int .i64 0])∧SlN w w' v s∧Grew w w')
theorem sum_small_c (p q:List Pt) (v u:Value) (w:World) (hs:Sl w v p) (hs2:Sl w u q) (vp:Vl p) (vq:Vl q) (h64:(msum p q).length≤64):Calls Tryz.prog 59 #[v,u] w (SmallSays (msum p q) w):=by
 have HS:=Lib.hid hs
 have HS2:=Lib.hid hs2
 have VP:=Lib.hid vp
 have VQ:=Lib.hid vq
 have L1:Hid (p.length≤9223372036854775807):=Lib.hid (by have:=vp.1.2;omega)
 have L2:Hid (q.length≤9223372036854775807):=Lib.hid (by have:=vq.1.2;omega)
 have HM:=Lib.hid (msum_hull vp vq)
 have SA:=Lib.hid (fun V (h1:Sl V v p) (h2:Sl V u q) => sum_any p q v u V h1 h2 vp vq)
 obtain ⟨s,hms⟩:∃ s,msum p q=s:=⟨_,rfl⟩
 rw [hms] at h64 HM SA ⊢
 obtain ⟨m,hm⟩:∃ m,s.length=m:=⟨_,rfl⟩
 have SL:Hid (s.length=m∧s.length≤64):=Lib.hid ⟨hm,h64⟩
 have m64:(m:Int)≤64:=by omega
 rw [hm] at SA
 clear hs hs2 vp vq hms hm h64
 go_enter Tryz.func59,Tryz.ntmps59
 go_wp2_with fail
 refine ((Hl.landed.valid p v _ HS.out L1.out).mono fun _ _ t => t.to VP.out).mono ?_
 rintro e w1 ⟨rfl,G1⟩
 go_wp2_with fail
 refine ((Hl.landed.valid q u _ (HS2.out.grown G1) L2.out).mono fun _ _ t => t.to VQ.out).mono ?_
 rintro e w2 ⟨rfl,g2⟩
 have G2:=Grew.trans G1 g2
 clear G1 g2
 go_wp2_with fail
 refine (SA.out _ (HS.out.grown G2) (HS2.out.grown G2)).mono ?_
 rintro e w3 ⟨g,cap,rfl,sl,g3⟩
 have G3:=Grew.trans G2 g3
 have S3:=Lib.hid (sl.later G2)
 clear G2 g3 sl
 go_wp2_with fail
 refine (placed_c s _ _ S3.out.sl (by have:=SL.out;omega)).mono ?_
 rintro e w4 (⟨hv,rfl,g4⟩ | ⟨hv,v4,rfl,sl4,g4⟩)
 ·have VV:=Lib.hid hv
  have S4:=Lib.hid (S3.out.grown g4)
  clear hv
  go_wp2_with fail
  go_ret2
  exact Or.inr ⟨VV.out.2.1,_,rfl,S4.out,Grew.trans G3 g4⟩
 ·have VV:=Lib.hid hv
  have S4:=Lib.hid sl4
  clear hv sl4
  go_wp2_with fail
  go_ret2
  exact Or.inl ⟨fun h => VV.out (vl_hull HM.out SL.out.2 h),_,rfl,S4.out,Grew.trans G3 g4⟩
theorem sum_new_c (p q:List Pt) (v u:Value) (w:World) (hs:Sl w v p) (hs2:Sl w u q) (vp:Vl p) (vq:Vl q):Calls Tryz.prog 59 #[v,u] w (SumNew p q w):=by
 by_cases h64:(msum p q).length≤64
 ·refine (sum_small_c p q v u w hs hs2 vp vq h64).mono ?_
  rintro e w' (⟨h,k⟩ | ⟨h,v',rfl,s,g⟩)
  ·exact ⟨_,msum_hull vp vq,Or.inl ⟨h,k⟩⟩
  ·exact ⟨_,msum_hull vp vq,Or.inr ⟨h,v',_,Or.inl ⟨h64,rfl⟩,rfl,s,g⟩⟩
 ·have HS:=Lib.hid hs
  have HS2:=Lib.hid hs2
  have VP:=Lib.hid vp
  have VQ:=Lib.hid vq
  have L1:Hid (p.length≤9223372036854775807):=Lib.hid (by have:=vp.1.2;omega)
  have L2:Hid (q.length≤9223372036854775807):=Lib.hid (by have:=vq.1.2;omega)
  have SA:=Lib.hid (fun V (h1:Sl V v p) (h2:Sl V u q) => sum_any p q v u V h1 h2 vp vq)
  have FIN:Hid (∀ p8 q8 e w1 w',IsOct p p8→IsOct q q8→SmallSays (msum p8 q8) w1 e w'→Grew w w1→SumNew p q w e w'):=Lib.hid (fun p8 q8 e w1 w' h8 k8 hsm g1 => by
   have ho:=oct_sum h8 k8 (msum_hull vp vq) (msum_hull (oct_facts vp h8).1 (oct_facts vq k8).1)
   rcases hsm with ⟨h,v',rfl,s,g⟩ | ⟨h,v',rfl,s,g⟩
   ·exact ⟨_,msum_hull vp vq,Or.inl ⟨fun h' => h ((oct_plcs ho).1 h'),v',rfl,s,Grew.trans g1 g⟩⟩
   ·exact ⟨_,msum_hull vp vq,Or.inr ⟨(oct_plcs ho).2 h,v',_,Or.inr ⟨by omega,ho⟩,rfl,s.later g1,Grew.trans g1 g⟩⟩)
  have S8:Hid (∀ p8 q8 V v8 u8,IsOct p p8→IsOct q q8→Sl V v8 p8→Sl V u8 q8→Calls Tryz.prog 59 #[v8,u8] V (SmallSays (msum p8 q8) V)):=Lib.hid (fun p8 q8 V v8 u8 h8 k8 h1 h2 => by
   have f1:=oct_facts vp h8
   have f2:=oct_facts vq k8
   refine sum_small_c p8 q8 v8 u8 V h1 h2 f1.1 f2.1 ?_
   have:=sum_count f1.1.pg f2.1.pg (msum_hull f1.1 f2.1)
   have:=f1.2.1
   have:=f2.2.1
   omega)
  obtain ⟨m,hm⟩:∃ m,(msum p q).length=m:=⟨_,rfl⟩
  have m64:(64:Int) < (m:Int):=by omega
  rw [hm] at SA
  clear hs hs2 vp vq hm h64
  go_enter Tryz.func59,Tryz.ntmps59
  go_wp2_with fail
  refine ((Hl.landed.valid p v _ HS.out L1.out).mono fun _ _ t => t.to VP.out).mono ?_
  rintro e w1 ⟨rfl,G1⟩
  go_wp2_with fail
  refine ((Hl.landed.valid q u _ (HS2.out.grown G1) L2.out).mono fun _ _ t => t.to VQ.out).mono ?_
  rintro e w2 ⟨rfl,g2⟩
  have G2:=Grew.trans G1 g2
  clear G1 g2
  go_wp2_with fail
  refine (SA.out _ (HS.out.grown G2) (HS2.out.grown G2)).mono ?_
  rintro e w3 ⟨g,cap,rfl,_,g3⟩
  have G3:=Grew.trans G2 g3
  clear G2 g3
  go_wp2_with fail
  refine (Hl.landed.eight_ok p v _ (HS.out.grown G3) VP.out).mono ?_
  rintro e w4 ⟨p8,v8,h8,rfl,sl4,g4⟩
  have H8:=Lib.hid h8
  have G4:=Grew.trans G3 g4
  have S4:=Lib.hid sl4
  clear h8 G3 g4 sl4
  go_wp2_with fail
  refine (Hl.landed.eight_ok q u _ (HS2.out.grown G4) VQ.out).mono ?_
  rintro e w5 ⟨q8,u8,k8,rfl,sl5,g5⟩
  have K8:=Lib.hid k8
  have G5:=Grew.trans G4 g5
  have S5:=Lib.hid sl5
  have S4':=Lib.hid (S4.out.grown g5)
  clear k8 G4 g5 sl5 S4
  go_wp2_with fail
  refine (S8.out p8 q8 _ v8 u8 H8.out K8.out S4'.out S5.out).mono ?_
  rintro e w6 hsm
  have HF:=Lib.hid (FIN.out p8 q8 e _ w6 H8.out K8.out hsm G5)
  rcases hsm with ⟨h,v',rfl,s,g⟩ | ⟨h,v',rfl,s,g⟩
  all_goals
   clear h s g
   go_wp2_with fail
   go_ret2
   exact HF.out
end Mk
end Go.Proofs.YtbpgfenippiepaaGreatDoor
namespace Go.Proofs.YtbpgfenippiepaaGreatDoor
open Go.RowKit Go.Shelf Hl
attribute [local go_sem] Oper.semAt_some
namespace Mk
theorem map_end {p out:List Pt} {h:Pt→Pt} (hl:out.length=p.length) (he:∀ j,j < p.length→at' out j=h (at' p j)):out=p.map h:=by
 refine List.ext_getElem (by simp [hl]) fun i h1 h2 => ?_
 have hi:i < p.length:=by simpa using h2
 have:=he i hi
 unfold at' at this
 simp [h1,hi] at this
 simpa using this
theorem at_set {p:List Pt} {i j:Nat} {x:Pt} (hi:i < p.length):at' (p.set i x) j=if i=j then x else at' p j:=by
 by_cases e:i=j
 ·subst e
  unfold at'
  simp [List.getD,hi]
 ·unfold at'
  simp [List.getD,e]
set_option maxRecDepth 100000 in
set_option maxHeartbeats 4000000 in
theorem changed_c (gf:Nat) (lb:Array Value) (eg:∀ args X,(callFunc gf args).run Tryz.prog X=.ok (.enter gf args) X) (h:Pt→Pt) (p:List Pt) (b o c:Nat) (w:World) (hr:Row w b o p) (h1:1≤p.length) (h64:p.length≤64)
  (hc:∀ x X,x ∈ p→Grew w X→Calls Tryz.prog gf (#[.agg #[.int .i64 x.1,.int .i64 x.2]] ++ lb) X fun e Y => e=.returned (.agg #[.int .i64 (h x).1,.int .i64 (h x).2])∧Grew X Y) :
  Calls Tryz.prog 63 #[.slice (some ⟨b,o,none⟩) p.length c,.func (.func gf) #[] lb] w fun e w' => ∃ v,e=.returned v∧Sl w' v (p.map h)∧Grew w w':=by
 have HR:=Lib.hid hr
 have CH:=Lib.hid hc
 have CL:=Lib.hid (clone_c p b o c w hr (by omega))
 have hb:=hr.1
 obtain ⟨n,hn⟩:∃ n,p.length=n:=⟨_,rfl⟩
 have HN:Hid (p.length=n∧1≤n∧n≤64):=Lib.hid ⟨hn,by omega,by omega⟩
 rw [hn] at CL ⊢
 clear hr hc hn h1 h64
 go_enter Tryz.func63,Tryz.ntmps63
 go_wp2_with fail
 refine CL.out.mono ?_
 rintro e w1 ⟨v,rfl,ow,G1⟩
 obtain ⟨g,cap,rfl,oa⟩:=ow.at (fun e => by have:=HN.out;rw [e] at this;simp at this;omega)
 have O1:=Lib.hid oa
 rw [HN.out.1]
 clear CL ow oa
 go_wp2_with fail
 go_loopw [12] (fun i wr => ∃ (k:Nat) (out:List Pt),k≤n∧i=.int .i64 k∧Hid (OwnAt w.heap.size wr g cap out∧out.length=n∧(∀ j,j < k→at' out j=h (at' p j))∧(∀ j,k≤j→j < n→at' out j=at' p j)∧Grew w wr)) (fun i _ => n - (intOf i).toNat)
 case atStart => exact ⟨0,p,Nat.zero_le _,rfl,Lib.hid ⟨O1.out,HN.out.1,fun j hj => absurd hj (Nat.not_lt_zero _),fun j _ _ => rfl,G1⟩⟩
 case round =>
  obtain ⟨k,out,hk,rfl,HO⟩:=hrel
  by_cases hlt:k < n
  ·have klt:k < p.length:=by rw [HN.out.1];exact hlt
   have kout:Hid (k < out.length):=Lib.hid (by rw [HO.out.2.1];exact hlt)
   obtain ⟨x,hx⟩:∃ x,at' p k=x:=⟨_,rfl⟩
   have HX:=Lib.hid hx
   have hxm:x ∈ p:=by rw [← hx];exact at_mem klt
   obtain ⟨q0,q1⟩:=(HR.out.grown HO.out.2.2.2.2).2 k klt
   rw [hx] at q0 q1
   have i0:(0:Int)≤(k:Int):=by omega
   have i1:(k:Int) < (n:Int):=by omega
   have bw:b < wr.heap.size:=by have:=HO.out.2.2.2.2.size;omega
   have bw1:b < wr.heap.size+1:=by omega
   have hl1:(k:Int)+1≤64:=by have:=HN.out;omega
   have CX:=Lib.hid (CH.out x (wr.alloc (.cells #[.int .i64 x.1,.int .i64 x.2] 24)) hxm (HO.out.2.2.2.2.alloc _ _))
   obtain ⟨y,hy⟩:∃ y,h x=y:=⟨_,rfl⟩
   have HY:=Lib.hid hy
   rw [hy] at CX
   clear hx hy klt hxm
   go_wp2_with (go_at_fn gf;refine CX.out.mono ?_;rintro e w2 ⟨rfl,g2⟩;have GX:Hid (Grew wr w2):=Lib.hid (Grew.trans ((Grew.refl wr).alloc _ _) g2);have HO2:=Lib.hid (HO.out.1.grew GX.out);obtain ⟨e0,e1⟩:=HO2.out.cells kout.out;have f0:=HO2.out.frozen (k * 2);have f1:=HO2.out.frozen (k * 2+1);clear g2)
   go_roundw
   case rel =>
    refine ⟨k+1,out.set k y,by omega,by go_num,Lib.hid ⟨HO2.out.set kout.out y,by rw [List.length_set];exact HO.out.2.1,fun j hj => ?_,fun j h1 h2 => ?_,((HO.out.2.2.2.2.trans GX.out).setCell HO2.out.1 _).setCell HO2.out.1 _⟩⟩
    ·rw [at_set kout.out]
     by_cases ej:k=j
     ·subst ej
      rw [if_pos rfl,HX.out,HY.out]
     ·rw [if_neg ej]
      exact HO.out.2.2.1 j (by omega)
    ·rw [at_set kout.out,if_neg (by omega)]
     exact HO.out.2.2.2.1 j (by omega) h2
   case measure => simp [intOf];omega
  ·obtain rfl:k=n:=by omega
   go_wp2_with fail
   go_ret
   have em:=map_end (h:=h) (HO.out.2.1.trans HN.out.1.symm) (fun j hj => HO.out.2.2.1 j (by rw [← HN.out.1];exact hj))
   refine ⟨_,rfl,?_,HO.out.2.2.2.2⟩
   rw [← em,← HO.out.2.1]
   exact Sl.of HO.out.1.row
theorem shift1_c (x z:Pt) (B:Nat) (w:World) (hx:Wp x) (hz:Wp z) (hB:B < w.heap.size) (h0:w.cell? ⟨B,0,none⟩=some (.int .i64 z.1)∧w.cell? ⟨B,1,none⟩=some (.int .i64 z.2)) :
  Calls Tryz.prog 64 #[.agg #[.int .i64 x.1,.int .i64 x.2],.pointer (some ⟨B,0,none⟩)] w fun e w' => e=.returned (.agg #[.int .i64 (plus x z).1,.int .i64 (plus x z).2])∧Grew w w':=by
 have PL:=Lib.hid (fun X => plus_m x z X hx hz)
 obtain ⟨c0,c1⟩:=h0
 obtain ⟨s,hs⟩:∃ s,plus x z=s:=⟨_,rfl⟩
 rw [hs] at PL ⊢
 have b1:B < w.heap.size+1:=by omega
 have b2:B < w.heap.size+1+1:=by omega
 clear hx hz hs
 go_enter Tryz.func64,Tryz.ntmps64
 go_wp2_with (refine (PL.out _).mono ?_;rintro e w' ⟨rfl,rfl⟩)
 refine bodyPost_ret (v:=.agg #[.int .i64 s.1,.int .i64 s.2]) (by simp [results,Tryz.results64,go_sem]) rfl ⟨rfl,?_⟩
 repeat' (first | (with_reducible exact Grew.refl _) | (with_reducible refine Grew.alloc ?_ _ _) | (with_reducible refine Grew.setCell ?_ ?_ _) | go_size)
theorem plc_wp {x:Pt} (h:Plc x):Wp x:=by
 unfold Wp
 unfold Plc at h
 omega
theorem one_iff {z:Pt}:Vl [z]↔Plc z:=⟨fun h => h.2.1 0 (by simp),one_vl⟩
theorem shift_bad_c (p:List Pt) (z:Pt) (v:Value) (w:World) (hs:Sl w v p) (h1:p.length≤9223372036854775807) (h:¬ (Vl p∧Plc z)):Calls Tryz.prog 31 #[v,.agg #[.int .i64 z.1,.int .i64 z.2]] w (Empty 1 w):=by
 have HS:=Lib.hid hs
 have L1:=Lib.hid h1
 have g0:Grew w (w.alloc (.cells #[.int .i64 z.1,.int .i64 z.2] 24)):=(Grew.refl w).alloc _ _
 by_cases hv:Vl p
 ·have V:=Lib.hid hv
  have V2:Hid (¬ Vl [z]):=Lib.hid (fun g => h ⟨hv,one_iff.1 g⟩)
  clear hs h1 h hv
  go_enter Tryz.func31,Tryz.ntmps31
  go_wp2_with fail
  refine ((Hl.landed.valid p v _ (HS.out.grown g0) L1.out).mono fun _ _ t => t.to V.out).mono ?_
  rintro e w1 ⟨rfl,G1⟩
  obtain ⟨c1,f1,z1⟩:=laid G1
  try simp at z1
  have k0:w1.cell? ⟨w.heap.size,0,none⟩=some (.int .i64 z.1):=by simp [go_sem, *]
  have k1:w1.cell? ⟨w.heap.size,1,none⟩=some (.int .i64 z.2):=by simp [go_sem, *]
  clear c1 f1
  go_wp2_with fail
  refine ((Hl.landed.valid [z] _ _ (Sl.of (row_new [z] #[.int .i64 z.1,.int .i64 z.2] rfl w1 24)) (by simp)).mono fun _ _ t => t.un V2.out).mono ?_
  rintro e w2 ⟨rfl,g2⟩
  go_wp2_with fail
  go_ret2
  exact ⟨_,rfl,Or.inl ⟨rfl,none,0,rfl⟩,Grew.trans (Grew.trans g0 G1) (Grew.trans ((Grew.refl w1).alloc _ _) g2)⟩
 ·have V:=Lib.hid hv
  clear hs h1 h hv
  go_enter Tryz.func31,Tryz.ntmps31
  go_wp2_with fail
  refine ((Hl.landed.valid p v _ (HS.out.grown g0) L1.out).mono fun _ _ t => t.un V.out).mono ?_
  rintro e w1 ⟨rfl,G1⟩
  go_wp2_with fail
  go_ret2
  exact ⟨_,rfl,Or.inl ⟨rfl,none,0,rfl⟩,Grew.trans g0 G1⟩
theorem shift_vl {p:List Pt} (vp:Vl p) (z:Pt):Vl (shift p z)↔Plcs (shift p z):=⟨fun h => h.2.1,fun h => vl_of (shift_pg vp.pg z) (by rw [shift_len];exact vp.1.2) h⟩
theorem shift_ok_c (p:List Pt) (z:Pt) (v:Value) (w:World) (hs:Sl w v p) (vp:Vl p) (hz:Plc z):Calls Tryz.prog 31 #[v,.agg #[.int .i64 z.1,.int .i64 z.2]] w (ShiftSays p z w):=by
 have n0:1≤p.length:=vp.1.1
 obtain ⟨b,o,c,rfl,hr⟩:=hs.row (fun e => by rw [e] at n0;cases n0)
 have HS:=Lib.hid hs
 have VP:=Lib.hid vp
 have VZ:Hid (Vl [z]):=Lib.hid (one_iff.2 hz)
 have L1:Hid (p.length≤9223372036854775807):=Lib.hid (by have:=vp.1.2;omega)
 have g0:Grew w (w.alloc (.cells #[.int .i64 z.1,.int .i64 z.2] 24)):=(Grew.refl w).alloc _ _
 have eg:∀ args X,(callFunc 64 args).run Tryz.prog X=.ok (.enter 64 args) X:=enters_of Tryz.func64 (by kernel_rfl) rfl
 have CH:=Lib.hid (fun X (g:Grew w X) (hB:w.heap.size < X.heap.size) (hc:X.cell? ⟨w.heap.size,0,none⟩=some (.int .i64 z.1)∧X.cell? ⟨w.heap.size,1,none⟩=some (.int .i64 z.2)) =>
  changed_c 64 #[.pointer (some ⟨w.heap.size,0,none⟩)] eg (fun x => plus x z) p b o c X (hr.grown g) vp.1.1 vp.1.2 (fun x Y hx gY => shift1_c x z w.heap.size Y (plc_wp (plc_mem vp.2.1 hx)) (plc_wp hz) (Nat.lt_of_lt_of_le hB gY.size) ⟨(gY.cell hB).trans hc.1,(gY.cell hB).trans hc.2⟩))
 have SV:Hid (Vl (shift p z)↔Plcs (shift p z)):=Lib.hid (shift_vl vp z)
 have SLn:Hid ((shift p z).length≤9223372036854775807):=Lib.hid (by rw [shift_len];exact L1.out)
 clear hs vp hr n0 eg hz
 go_enter Tryz.func31,Tryz.ntmps31
 go_wp2_with fail
 refine ((Hl.landed.valid p _ _ (HS.out.grown g0) L1.out).mono fun _ _ t => t.to VP.out).mono ?_
 rintro e w1 ⟨rfl,G1⟩
 obtain ⟨c1,f1,z1⟩:=laid G1
 try simp at z1
 have k0:w1.cell? ⟨w.heap.size,0,none⟩=some (.int .i64 z.1):=by simp [go_sem, *]
 have k1:w1.cell? ⟨w.heap.size,1,none⟩=some (.int .i64 z.2):=by simp [go_sem, *]
 have GW:=Grew.trans g0 G1
 clear c1 f1 G1
 go_wp2_with fail
 refine ((Hl.landed.valid [z] _ _ (Sl.of (row_new [z] #[.int .i64 z.1,.int .i64 z.2] rfl w1 24)) (by simp)).mono fun _ _ t => t.to VZ.out).mono ?_
 rintro e w2 ⟨rfl,g2⟩
 have g12:Grew w1 w2:=Grew.trans ((Grew.refl w1).alloc _ _) g2
 have G2:=Grew.trans GW g12
 have y0:w2.cell? ⟨w.heap.size,0,none⟩=some (.int .i64 z.1):=(g12.cell (by omega)).trans k0
 have y1:w2.cell? ⟨w.heap.size,1,none⟩=some (.int .i64 z.2):=(g12.cell (by omega)).trans k1
 have hB2:w.heap.size < w2.heap.size:=by have:=g12.size;omega
 clear g2 g12 k0 k1 GW z1 g0
 go_wp2_with fail
 refine (CH.out _ G2 hB2 ⟨y0,y1⟩).mono ?_
 rintro e w3 ⟨v3,rfl,sl3,g3⟩
 have S3:Hid (Sl w3 v3 (shift p z)):=Lib.hid sl3
 have G3:=Grew.trans G2 g3
 clear sl3 g3 G2 y0 y1
 go_wp2_with fail
 refine (placed_c (shift p z) v3 _ S3.out SLn.out).mono ?_
 rintro e w4 (⟨hv,rfl,g4⟩ | ⟨hv,v4,rfl,sl4,g4⟩)
 ·have VV:=Lib.hid (SV.out.1 hv)
  have S4:=Lib.hid (S3.out.grown g4)
  clear hv
  go_wp2_with fail
  go_ret2
  exact Or.inr ⟨VV.out,_,rfl,S4.out,Grew.trans G3 g4⟩
 ·have VV:=Lib.hid (fun h => hv (SV.out.2 h))
  have S4:=Lib.hid sl4
  clear hv sl4
  go_wp2_with fail
  go_ret2
  exact Or.inl ⟨VV.out,_,rfl,S4.out,Grew.trans G3 g4⟩
end Mk
end Go.Proofs.YtbpgfenippiepaaGreatDoor
namespace Go.Proofs.YtbpgfenippiepaaGreatDoor
open Go.RowKit Go.Shelf Hl
attribute [local go_sem] Oper.semAt_some
namespace Rn
open Rg (Rgn VlR AllV AnsR Rl TidP MetP TidyIs MetC)
set_option maxRecDepth 100000 in
set_option maxHeartbeats 4000000 in
theorem near_c {T:World→Prop} (N:Nd T) (L:Rgn) (x:Pt) (lo hi:Int) (v:Value) (w:World) (hT:T w) (hr:Rl w v L):Calls Tryz.prog 14 #[v,.agg #[.int .i64 x.1,.int .i64 x.2],.agg #[.int .i64 lo,.int .i64 hi]] w (AnsR (NearP L x lo hi) w):=by
 have g0:Hid (Grew w ((w.alloc (.cells #[.int .i64 x.1,.int .i64 x.2] 24)).alloc (.cells #[.int .i64 lo,.int .i64 hi] 26))):=Lib.hid (((Grew.refl w).alloc _ _).alloc _ _)
 have R0:=Lib.hid (hr.grown g0.out)
 have RR:=Lib.hid hr
 have RC:=Lib.hid (fun W (g:Grew w W) => ring_c N x lo hi W (N.keep _ _ g hT))
 have X0:=Lib.hid ((Blk.new w #[.int .i64 x.1,.int .i64 x.2] 24).alloc (.cells #[.int .i64 lo,.int .i64 hi] 26))
 have D0:=Lib.hid (Blk.new (w.alloc (.cells #[.int .i64 x.1,.int .i64 x.2] 24)) #[.int .i64 lo,.int .i64 hi] 26)
 rw [World.size_alloc] at D0
 by_cases hL:VlR L
 ·have VC:=Lib.hid (fun W u (h:Rl W u L) => (N.valid L u W h).mono fun _ _ t => t.to hL)
  have HL:=Lib.hid hL
  have MC:=Lib.hid (fun M W u z (h1:Rl W u L) (h2:Rl W z M) => N.meet L M u z W h1 h2)
  obtain ⟨va,vc,rfl⟩:=hr.shape
  clear hr hT N hL
  go_enter Tryz.func14,Tryz.ntmps14
  go_wp2_with fail
  refine (VC.out _ _ R0.out).mono ?_
  rintro e w1 ⟨rfl,g1⟩
  have X1:=Lib.hid (X0.out.grown g1)
  have D1:=Lib.hid (D0.out.grown g1)
  have G1:=Lib.hid (g0.out.trans g1)
  obtain ⟨⟨x0,x1⟩,_,_⟩:=X1.out.two
  obtain ⟨⟨d0,d1⟩,_,_⟩:=D1.out.two
  have lX:=X1.out.lt
  have lD:=D1.out.lt
  clear g1
  go_wp2_with fail
  refine (RC.out _ G1.out).mono ?_
  rintro e w2 ⟨u,k,r,hp,rfl,hr,g2⟩
  have G2:=Lib.hid (G1.out.trans g2)
  have HP:=Lib.hid hp
  have S2:=Lib.hid hr
  have R2:=Lib.hid (RR.out.grown G2.out)
  obtain ⟨ua,uc,rfl⟩:=hr.shape
  clear g2 hp hr x0 x1 d0 d1 lX lD
  by_cases hk:k=0
  ·subst hk
   go_wp2_with fail
   refine (MC.out r _ _ _ R2.out S2.out).mono ?_
   rintro e w3 ⟨z,j,m,hm,rfl,hs,g3⟩
   have HM:=Lib.hid hm
   have S3:=Lib.hid hs
   have G3:=Lib.hid (G2.out.trans g3)
   obtain ⟨za,zc,rfl⟩:=hs.shape
   clear hm hs g3
   go_wp2_with fail
   go_ret2
   refine ⟨_,j,m,?_,rfl,S3.out,G3.out⟩
   rcases HM.out with ⟨n,_⟩ | ⟨_,rfl,c,hc,ht⟩
   ·exact absurd ⟨HL.out,ringp_vl HP.out⟩ n
   ·exact Or.inr ⟨HL.out,Or.inr ⟨rfl,r,c,HP.out,hc,ht⟩⟩
  ·have HK:=Lib.hid hk
   have n1':(k == 0)=false:=beq_eq_false_iff_ne.2 hk
   have n2':(k != 0)=true:=by simp [hk]
   clear hk
   go_wp2_with fail
   go_ret2
   refine ⟨_,k,[],Or.inr ⟨HL.out,Or.inl ⟨HK.out,rfl,?_⟩⟩,rfl,Rl.nil _ _ _,G2.out⟩
   have:=HP.out
   rwa [ringp_nil this HK.out] at this
 ·have VC:=Lib.hid (fun W u (h:Rl W u L) => (N.valid L u W h).mono fun _ _ t => t.un hL)
  have HL:=Lib.hid hL
  obtain ⟨va,vc,rfl⟩:=hr.shape
  clear hr hT N hL
  go_enter Tryz.func14,Tryz.ntmps14
  go_wp2_with fail
  refine (VC.out _ _ R0.out).mono ?_
  rintro e w1 ⟨rfl,g1⟩
  have G1:=Lib.hid (g0.out.trans g1)
  clear g1
  go_wp2_with fail
  go_ret2
  exact ⟨_,1,[],Or.inl ⟨HL.out,rfl,rfl⟩,rfl,Rl.nil _ _ _,G1.out⟩
theorem code_of {T:World→Prop} (N:Nd T):Code T:=⟨N.keep,⟨fun x lo hi w hT => ring_c N x lo hi w hT,fun L x lo hi v w hT hr => near_c N L x lo hi v w hT hr,fun L x a n v w hT hr => wedge_c N L x a n v w hT hr⟩⟩
theorem shift_c (p:List Pt) (z:Pt) (v:Value) (w:World) (hs:Sl w v p) (h1:p.length≤9223372036854775807):Calls Tryz.prog 31 #[v,.agg #[.int .i64 z.1,.int .i64 z.2]] w (Mk.Ans (Mk.ShfIs p z) w):=by
 by_cases h:Vl p∧Plc z
 ·refine (Mk.shift_ok_c p z v w hs h.1 h.2).mono ?_
  rintro e w' (⟨n,v',rfl,s,g⟩ | ⟨y,v',rfl,s,g⟩)
  ·exact ⟨v',3,[],Or.inr ⟨h,Or.inl ⟨n,rfl,rfl⟩⟩,rfl,s,g⟩
  ·exact ⟨v',0,_,Or.inr ⟨h,Or.inr ⟨y,rfl,rfl⟩⟩,rfl,s,g⟩
 ·refine (Mk.shift_bad_c p z v w hs h1 h).mono ?_
  rintro e w' ⟨v',rfl,s,g⟩
  exact ⟨v',1,[],Or.inl ⟨h,rfl,rfl⟩,rfl,s,g⟩
theorem need:Nd Ry.Tq where
 keep:=fun _ _ g h => h.grew g
 valid:=Rg.rvalid_c Hl.landedN.toCode
 tidy:=Rg.rtidy_c Hl.landedN
 cut:=Rg.rcut_c Hl.landedN Ct.landedN
 meet:=Rg.rmeet_c Hl.landedN Ct.landedN
 ray:=fun k w hT hk => Ry.ray_ok k w hT hk
 ray_bad:=fun k w hk => Ry.ray_bad k w hk
 sec:=fun a n lo hi w hT ha hn hd => (Ry.sector_ok Hl.hullc_new a n lo hi w hT ha hn hd.1 hd.2.1 hd.2.2).mono fun _ _ h => h.says
 sec_bad:=fun a n lo hi w h => Ry.sector_bad a n lo hi w h
 shift:=shift_c
theorem landed:Code Ry.Tq:=code_of need
#print axioms landed
end Rn
end Go.Proofs.YtbpgfenippiepaaGreatDoor
