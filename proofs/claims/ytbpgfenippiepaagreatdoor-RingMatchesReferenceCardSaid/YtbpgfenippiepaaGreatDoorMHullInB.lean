/-
  Inside over slices of points: two corners and a place off their line; three corners and more; all together.
  What package hull owes, a contract each, and what follows of it at the examples.
  The examples of chapter 3: what they are as points.
  The examples at the head of the statements about layer 3.
  A slice of points of the call's own, to which points are appended.
-/
import Derived.IntWalk
import Derived.Test.YtbpgfenippiepaaGreatDoorMHullIn
import Derived.Laws.AppendOwn
namespace Go.Proofs.YtbpgfenippiepaaGreatDoor
open Go.RowKit
namespace Hl
set_option maxRecDepth 100000 in
set_option maxHeartbeats 4000000 in
theorem inside_two_off (p:List Pt) (x:Pt) (b o c:Nat) (w:World) (hr:Row w b o p) (hp:Plcs p) (hx:Plc x) (h1:p.length=2) (hz:¬ cr (at' p 0) (at' p 1) x=0):Calls Tryz.prog 54 #[.slice (some ⟨b,o,none⟩) p.length c,.agg #[.int .i64 x.1,.int .i64 x.2]] w (Tells (Hs p x) w):=by
 have T:Hid (¬ Hs p x):=Lib.hid (fun h => hz ((hs2 (x:=x) h1).1 h).1)
 obtain ⟨q0,q1⟩:=hr.2 0 (by omega)
 rw [Nat.zero_mul,Nat.add_zero] at q0 q1
 obtain ⟨q2,q3⟩:=hr.2 1 (by omega)
 have hb:=hr.1
 have hb1:b < w.heap.size+1:=by omega
 have hb2:b < w.heap.size+1+1:=by omega
 have hb3:b < w.heap.size+1+1+1:=by omega
 have hb4:b < w.heap.size+1+1+1+1:=by omega
 obtain ⟨z,ez⟩:∃ z,cr (at' p 0) (at' p 1) x=z:=⟨_,rfl⟩
 have CX:Hid (∀ w,Calls Tryz.prog 89 #[.agg #[.int .i64 (at' p 0).1,.int .i64 (at' p 0).2],.agg #[.int .i64 (at' p 1).1,.int .i64 (at' p 1).2],.agg #[.int .i64 x.1,.int .i64 x.2]] w fun e w' => e=.returned (.int .i64 z)∧((w.alloc (.cells #[.int .i64 (at' p 0).1,.int .i64 (at' p 0).2] 24)).alloc (.cells #[.int .i64 (at' p 1).1,.int .i64 (at' p 1).2] 24)).alloc (.cells #[.int .i64 x.1,.int .i64 x.2] 24)=w'):=Lib.hid (fun w => by rw [← ez];exact cross_x (at' p 0) (at' p 1) x w (hp 0 (by omega)) (hp 1 (by omega)) hx)
 rw [ez] at hz
 have hz':(z == 0)=false:=by rw [beq_eq_false_iff_ne];exact hz
 rw [h1]
 clear h1 hr hp hx ez hz
 go_enter Tryz.func54,Tryz.ntmps54
 go_wp2_with fail
 refine wp_region_held_drew (S:=(fun w' => w'.cell? ⟨b,o,none⟩=some (.int .i64 (at' p 0).1)∧w'.cell? ⟨b,o+1,none⟩=some (.int .i64 (at' p 0).2)∧w'.cell? ⟨b,o+1 * 2,none⟩=some (.int .i64 (at' p 1).1)∧w'.cell? ⟨b,o+1 * 2+1,none⟩=some (.int .i64 (at' p 1).2)∧w'.cell? ⟨w.heap.size,0,none⟩=some (.int .i64 x.1)∧w'.cell? ⟨w.heap.size,1,none⟩=some (.int .i64 x.2))) (by kernel_rfl) (by simp [go_sem, *]) (fun hHeld => ?_)
 refine wpAnyH_take (i:=0) (oi:=⟨some 18,_,_,_,_,_⟩) (v:=?_) rfl (by kernel_rfl) (by kernel_rfl) (by kernel_rfl) (fun _ _ _ h => h) (Or.inl ⟨by rfl,?_⟩) (by assumption) ?_
 rotate_left
 ·intro w hSw;(try dsimp only at hSw);go_simp;(try with_reducible rfl)
 try simp only [Act.put,List.setIfInBounds_toArray,List.set_cons_zero,List.set_cons_succ]
 refine wpAnyH_take (i:=1) (oi:=⟨some 19,_,_,_,_,_⟩) (v:=?_) rfl (by kernel_rfl) (by kernel_rfl) (by kernel_rfl) (fun _ _ _ h => h) (Or.inl ⟨by rfl,?_⟩) (by assumption) ?_
 rotate_left
 ·intro w hSw;(try dsimp only at hSw);go_simp;(try with_reducible rfl)
 try simp only [Act.put,List.setIfInBounds_toArray,List.set_cons_zero,List.set_cons_succ]
 refine wpAnyH_take (i:=2) (oi:=⟨some 20,_,_,_,_,_⟩) (v:=?_) rfl (by kernel_rfl) (by kernel_rfl) (by kernel_rfl) (fun _ _ _ h => h) (Or.inl ⟨by rfl,?_⟩) (by assumption) ?_
 rotate_left
 ·intro w hSw;(try dsimp only at hSw);go_simp;(try with_reducible rfl)
 try simp only [Act.put,List.setIfInBounds_toArray,List.set_cons_zero,List.set_cons_succ]
 refine wpAnyH_take (i:=3) (oi:=⟨some 21,_,_,_,_,_⟩) (v:=?_) rfl (by kernel_rfl) (by kernel_rfl) (by kernel_rfl) (fun _ _ _ h => h) (Or.inl ⟨by rfl,?_⟩) (by assumption) ?_
 rotate_left
 ·intro w hSw;(try dsimp only at hSw);go_simp;(try with_reducible rfl)
 try simp only [Act.put,List.setIfInBounds_toArray,List.set_cons_zero,List.set_cons_succ]
 refine wpAnyH_take (i:=4) (oi:=⟨some 22,_,_,_,_,_⟩) (v:=?_) rfl (by kernel_rfl) (by kernel_rfl) (by kernel_rfl) (fun _ _ _ h => h) (Or.inl ⟨by rfl,?_⟩) (by assumption) ?_
 rotate_left
 ·intro w hSw;(try dsimp only at hSw);go_simp;(try with_reducible rfl)
 try simp only [Act.put,List.setIfInBounds_toArray,List.set_cons_zero,List.set_cons_succ]
 refine wpAnyH_take (i:=5) (oi:=⟨some 23,_,_,_,_,_⟩) (v:=?_) rfl (by kernel_rfl) (by kernel_rfl) (by kernel_rfl) (fun _ _ _ h => h) (Or.inl ⟨by rfl,?_⟩) (by assumption) ?_
 rotate_left
 ·intro w hSw;(try dsimp only at hSw);go_simp;(try with_reducible rfl)
 try simp only [Act.put,List.setIfInBounds_toArray,List.set_cons_zero,List.set_cons_succ]
 refine wpAnyH_take (i:=6) (oi:=⟨some 24,_,_,_,_,_⟩) (v:=?_) rfl (by kernel_rfl) (by kernel_rfl) (by kernel_rfl) (fun _ _ _ h => h) (Or.inl ⟨by rfl,?_⟩) (by assumption) ?_
 rotate_left
 ·intro w hSw;(try dsimp only at hSw);go_simp;(try with_reducible rfl)
 try simp only [Act.put,List.setIfInBounds_toArray,List.set_cons_zero,List.set_cons_succ]
 refine wpAnyH_ready (rs:=[7]) (by kernel_rfl) (by simp) ?_
 refine AllReadyH.cons (o:=⟨some 25,_,_,_,_,_⟩) rfl (fun K hK => ?_) AllReadyH.nil
 go_simp
 (go_at_call 89;refine (CX.out _).mono ?_;rintro e w' ⟨rfl,rfl⟩)
 go_wp2_with fail
 refine hK.out _ _ (by (try dsimp only);simp [go_sem, *]) (fun h1 => ?_)
 clear hK K hHeld
 have hHeld:=h1
 clear h1
 try simp only [Act.put,List.setIfInBounds_toArray,List.set_cons_zero,List.set_cons_succ]
 refine wpAnyH_take (i:=8) (oi:=⟨some 26,_,_,_,_,_⟩) (v:=?_) rfl (by kernel_rfl) (by kernel_rfl) (by kernel_rfl) (fun _ _ _ h => h) (Or.inl ⟨by rfl,?_⟩) (by assumption) ?_
 rotate_left
 ·intro w hSw;(try dsimp only at hSw);go_simp;(try with_reducible rfl)
 try simp only [Act.put,List.setIfInBounds_toArray,List.set_cons_zero,List.set_cons_succ]
 refine wpAnyH_take (i:=9) (oi:=⟨some 27,_,_,_,_,_⟩) (v:=?_) rfl (by kernel_rfl) (by kernel_rfl) (by kernel_rfl) (fun _ _ _ h => h) (Or.inl ⟨by rfl,?_⟩) (by assumption) ?_
 rotate_left
 ·intro w hSw;(try dsimp only at hSw);go_simp;(try with_reducible rfl)
 try simp only [Act.put,List.setIfInBounds_toArray,List.set_cons_zero,List.set_cons_succ]
 refine wpAnyH_take (i:=10) (oi:=⟨some 28,_,_,_,_,_⟩) (v:=undef) rfl (by kernel_rfl) (by kernel_rfl) (by kernel_rfl) (fun _ _ _ h => h) (Or.inr ⟨by rfl,rfl⟩) (by assumption) ?_
 try simp only [Act.put,List.setIfInBounds_toArray,List.set_cons_zero,List.set_cons_succ]
 refine wpAnyH_take (i:=11) (oi:=⟨some 29,_,_,_,_,_⟩) (v:=undef) rfl (by kernel_rfl) (by kernel_rfl) (by kernel_rfl) (fun _ _ _ h => h) (Or.inr ⟨by rfl,rfl⟩) (by assumption) ?_
 try simp only [Act.put,List.setIfInBounds_toArray,List.set_cons_zero,List.set_cons_succ]
 refine wpAnyH_take (i:=12) (oi:=⟨some 30,_,_,_,_,_⟩) (v:=undef) rfl (by kernel_rfl) (by kernel_rfl) (by kernel_rfl) (fun _ _ _ h => h) (Or.inr ⟨by rfl,rfl⟩) (by assumption) ?_
 try simp only [Act.put,List.setIfInBounds_toArray,List.set_cons_zero,List.set_cons_succ]
 refine wpAnyH_take (i:=13) (oi:=⟨some 31,_,_,_,_,_⟩) (v:=undef) rfl (by kernel_rfl) (by kernel_rfl) (by kernel_rfl) (fun _ _ _ h => h) (Or.inr ⟨by rfl,rfl⟩) (by assumption) ?_
 try simp only [Act.put,List.setIfInBounds_toArray,List.set_cons_zero,List.set_cons_succ]
 refine wpAnyH_take (i:=14) (oi:=⟨some 32,_,_,_,_,_⟩) (v:=undef) rfl (by kernel_rfl) (by kernel_rfl) (by kernel_rfl) (fun _ _ _ h => h) (Or.inr ⟨by rfl,rfl⟩) (by assumption) ?_
 try simp only [Act.put,List.setIfInBounds_toArray,List.set_cons_zero,List.set_cons_succ]
 refine wpAnyH_take (i:=15) (oi:=⟨some 33,_,_,_,_,_⟩) (v:=undef) rfl (by kernel_rfl) (by kernel_rfl) (by kernel_rfl) (fun _ _ _ h => h) (Or.inr ⟨by rfl,rfl⟩) (by assumption) ?_
 try simp only [Act.put,List.setIfInBounds_toArray,List.set_cons_zero,List.set_cons_succ]
 refine wpAnyH_take (i:=16) (oi:=⟨some 34,_,_,_,_,_⟩) (v:=undef) rfl (by kernel_rfl) (by kernel_rfl) (by kernel_rfl) (fun _ _ _ h => h) (Or.inr ⟨by rfl,rfl⟩) (by assumption) ?_
 try simp only [Act.put,List.setIfInBounds_toArray,List.set_cons_zero,List.set_cons_succ]
 refine wpAnyH_take (i:=17) (oi:=⟨some 35,_,_,_,_,_⟩) (v:=undef) rfl (by kernel_rfl) (by kernel_rfl) (by kernel_rfl) (fun _ _ _ h => h) (Or.inr ⟨by rfl,rfl⟩) (by assumption) ?_
 try simp only [Act.put,List.setIfInBounds_toArray,List.set_cons_zero,List.set_cons_succ]
 refine wpAnyH_take (i:=18) (oi:=⟨some 36,_,_,_,_,_⟩) (v:=?_) rfl (by kernel_rfl) (by kernel_rfl) (by kernel_rfl) (fun _ _ _ h => h) (Or.inl ⟨by rfl,?_⟩) (by assumption) ?_
 rotate_left
 ·intro w hSw;(try dsimp only at hSw);go_simp;(try with_reducible rfl)
 try simp only [Act.put,List.setIfInBounds_toArray,List.set_cons_zero,List.set_cons_succ]
 refine wpAnyH_take (i:=19) (oi:=⟨some 4,_,_,_,_,_⟩) (v:=?_) rfl (by kernel_rfl) (by kernel_rfl) (by kernel_rfl) (fun _ _ _ h => h) (Or.inl ⟨by rfl,?_⟩) (by assumption) ?_
 rotate_left
 ·intro w hSw;(try dsimp only at hSw);go_simp;(try with_reducible rfl)
 try simp only [Act.put,List.setIfInBounds_toArray,List.set_cons_zero,List.set_cons_succ]
 refine wpAnyH_done (by kernel_rfl) ?_ _
 go_wp2_with fail
 go_ret
 exact Tells.no T.out rfl gw
set_option maxRecDepth 100000 in
set_option maxHeartbeats 4000000 in
theorem inside_many (p:List Pt) (x:Pt) (b o c:Nat) (w:World) (hr:Row w b o p) (hp:Plcs p) (hx:Plc x) (h1:3≤p.length) (h2:p.length≤9223372036854775807):Calls Tryz.prog 54 #[.slice (some ⟨b,o,none⟩) p.length c,.agg #[.int .i64 x.1,.int .i64 x.2]] w (Tells (Hs p x) w):=by
 have HS:=Lib.hid (hs3 (x:=x) h1)
 have PL:=Lib.hid hp
 have HX:=Lib.hid hx
 have HR:Hid (Row (w.alloc (.cells #[.int .i64 x.1,.int .i64 x.2] 24)) b o p):=Lib.hid (hr.grown (Grew.alloc (Grew.refl _) _ _))
 have d1:((p.length:Int) == 1)=false:=by rw [beq_eq_false_iff_ne];omega
 have d2:((p.length:Int) == 2)=false:=by rw [beq_eq_false_iff_ne];omega
 clear hr hp hx
 go_enter Tryz.func54,Tryz.ntmps54
 go_wp2_with fail
 go_loopw [6] (fun i wr => ∃ k:Nat,k≤p.length∧i=.int .i64 k∧Grew (w.alloc (.cells #[.int .i64 x.1,.int .i64 x.2] 24)) wr∧Hid (∀ j,j < k→0≤cr (at' p j) (at' p ((j+1) % p.length)) x)) (fun i _ => p.length - (intOf i).toNat)
 case atStart => exact ⟨0,Nat.zero_le _,rfl,Grew.refl _,Lib.hid (fun j hj => by omega)⟩
 case round =>
  obtain ⟨k,hk,rfl,G,D⟩:=hrel
  clear d1 d2
  by_cases hlt:k < p.length
  ·obtain ⟨m,hm⟩:∃ m,(k+1) % p.length=m:=⟨_,rfl⟩
   have hmm:m < p.length:=by rw [← hm];exact Nat.mod_lt _ (by omega)
   have TM':((k:Int)+1).tmod (p.length:Int)=(m:Int):=by
    rw [← hm,Int.natCast_emod,Int.natCast_add]
    exact Int.tmod_eq_emod_of_nonneg (by omega)
   have WK':IntKind.i64.wrap ((k:Int)+1)=(k:Int)+1:=IntWalk.i64_in _ ⟨by omega,by omega⟩
   have TM2:((k:Int)+1) % (p.length:Int)=(m:Int):=by rw [← TM'];exact (Int.tmod_eq_emod_of_nonneg (by omega)).symm
   have nz:(p.length:Int) ≠ 0:=by omega
   have nz2:((p.length:Int) == 0)=false:=by rw [beq_eq_false_iff_ne];omega
   have nz3:¬ p.length=0:=by omega
   have k0:(0:Int)≤(k:Int)+1:=by omega
   have HM:=Lib.hid hm
   clear hm
   obtain ⟨s0,s1⟩:=(HR.out.grown G).2 k hlt
   obtain ⟨s2,s3⟩:=(HR.out.grown G).2 m hmm
   have hb:=(HR.out.grown G).1
   have x0:wr.cell? ⟨w.heap.size,0,none⟩=some (.int .i64 x.1):=(Grew.cell G (by simp)).trans (by simp [go_sem])
   have x1:wr.cell? ⟨w.heap.size,1,none⟩=some (.int .i64 x.2):=(Grew.cell G (by simp)).trans (by simp [go_sem])
   have y0:w.heap.size < wr.heap.size:=by have:=G.size;simp at this;omega
   have i0:(0:Int)≤(k:Int):=by omega
   have i1:(k:Int) < (p.length:Int):=by omega
   have i2:(m:Int) < (p.length:Int):=by omega
   have hb1:b < wr.heap.size+1:=by omega
   have hb2:b < wr.heap.size+1+1:=by omega
   have y1:w.heap.size < wr.heap.size+1:=by omega
   have y2:w.heap.size < wr.heap.size+1+1:=by omega
   obtain ⟨z,hz⟩:∃ z,cr (at' p k) (at' p m) x=z:=⟨_,rfl⟩
   have CX:Hid (∀ w,Calls Tryz.prog 89 #[.agg #[.int .i64 (at' p k).1,.int .i64 (at' p k).2],.agg #[.int .i64 (at' p m).1,.int .i64 (at' p m).2],.agg #[.int .i64 x.1,.int .i64 x.2]] w fun e w' => e=.returned (.int .i64 z)∧((w.alloc (.cells #[.int .i64 (at' p k).1,.int .i64 (at' p k).2] 24)).alloc (.cells #[.int .i64 (at' p m).1,.int .i64 (at' p m).2] 24)).alloc (.cells #[.int .i64 x.1,.int .i64 x.2] 24)=w'):=Lib.hid (fun w => by rw [← hz];exact cross_x _ _ _ w (PL.out k hlt) (PL.out m hmm) HX.out)
   have HZ:=Lib.hid hz
   clear hz
   by_cases hc:z < 0
   ·go_wp2_with fail
    go_region_held3 (fun w' => w'.cell? ⟨b,o+k * 2,none⟩=some (.int .i64 (at' p k).1)∧w'.cell? ⟨b,o+k * 2+1,none⟩=some (.int .i64 (at' p k).2)∧w'.cell? ⟨b,o+m * 2,none⟩=some (.int .i64 (at' p m).1)∧w'.cell? ⟨b,o+m * 2+1,none⟩=some (.int .i64 (at' p m).2)∧w'.cell? ⟨w.heap.size,0,none⟩=some (.int .i64 x.1)∧w'.cell? ⟨w.heap.size,1,none⟩=some (.int .i64 x.2)) (simp [go_sem,hb,hb1,hb2,s0,s1,s2,s3,x0,x1,y0,y1,y2])
     (first | (go_at_call 89;refine (CX.out _).mono ?_;rintro e w' ⟨rfl,rfl⟩))
    clear TM' WK' TM2
    go_wp2_with fail
    go_ret
    exact Tells.no (fun h => by
     have:=HS.out.1 h k hlt
     rw [HM.out,HZ.out] at this
     omega) rfl (Grew.trans (Grew.alloc (Grew.refl _) _ _) gw)
   ·have hc':0≤z:=by omega
    clear hc
    have E2:Hid (∀ j,j < k+1→0≤cr (at' p j) (at' p ((j+1) % p.length)) x):=Lib.hid (fun j hj => by
     by_cases e:j=k
     ·rw [e,HM.out,HZ.out];exact hc'
     ·exact D.out j (by omega))
    go_wp2_with fail
    go_region_held3 (fun w' => w'.cell? ⟨b,o+k * 2,none⟩=some (.int .i64 (at' p k).1)∧w'.cell? ⟨b,o+k * 2+1,none⟩=some (.int .i64 (at' p k).2)∧w'.cell? ⟨b,o+m * 2,none⟩=some (.int .i64 (at' p m).1)∧w'.cell? ⟨b,o+m * 2+1,none⟩=some (.int .i64 (at' p m).2)∧w'.cell? ⟨w.heap.size,0,none⟩=some (.int .i64 x.1)∧w'.cell? ⟨w.heap.size,1,none⟩=some (.int .i64 x.2)) (simp [go_sem,hb,hb1,hb2,s0,s1,s2,s3,x0,x1,y0,y1,y2])
     (first | (go_at_call 89;refine (CX.out _).mono ?_;rintro e w' ⟨rfl,rfl⟩))
    clear TM' WK' TM2
    go_wp2_with fail
    go_roundw
    case rel => exact ⟨k+1,by omega,by go_num,by exact gw,E2⟩
    case measure => simp [intOf];omega
  ·go_wp2_with fail
   go_ret
   exact Tells.yes (HS.out.2 (fun j hj => D.out j (by omega))) rfl (Grew.trans (Grew.alloc (Grew.refl _) _ _) G)
theorem inside_any (p:List Pt) (x:Pt) (b o c:Nat) (w:World) (hr:Row w b o p) (hp:Plcs p) (hx:Plc x) (h1:1≤p.length) (h2:p.length≤9223372036854775807):Calls Tryz.prog 54 #[.slice (some ⟨b,o,none⟩) p.length c,.agg #[.int .i64 x.1,.int .i64 x.2]] w (Tells (Hs p x) w):=by
 by_cases e1:p.length=1
 ·exact inside_one p x b o c w hr e1
 ·by_cases e2:p.length=2
  ·by_cases hz:cr (at' p 0) (at' p 1) x=0
   ·exact inside_two_on p x b o c w hr hp hx e2 hz
   ·exact inside_two_off p x b o c w hr hp hx e2 hz
  ·exact inside_many p x b o c w hr hp hx (by omega) h2
end Hl
end Go.Proofs.YtbpgfenippiepaaGreatDoor
namespace Go.Proofs.YtbpgfenippiepaaGreatDoor
open Go.RowKit
namespace Hl
def IsMin (p:List Pt) (u v m:Int):Prop:=(∃ x,x ∈ p∧u * x.1+v * x.2=m)∧∀ x,x ∈ p→m≤u * x.1+v * x.2
def octL (a b c d s t i j:Int):List Pt:=[(b,b - j),(b,t - b),(t - d,d),(d+i,d),(a,a - i),(a,s - a),(s - c,c),(c+j,c)]
def IsOct (p q:List Pt):Prop:=∃ a b c d s t i j:Int,IsMin p 1 0 a∧IsMin p (-1) 0 (-b)∧IsMin p 0 1 c∧IsMin p 0 (-1) (-d)∧IsMin p 1 1 s∧IsMin p (-1) (-1) (-t)∧IsMin p 1 (-1) i∧IsMin p (-1) 1 (-j)∧IsHull (octL a b c d s t i j) q
def IsBox (p:List Pt) (lo hi:Pt):Prop:=IsMin p 1 0 lo.1∧IsMin p (-1) 0 (-hi.1)∧IsMin p 0 1 lo.2∧IsMin p 0 (-1) (-hi.2)
def Empty (k:Int) (w:World) (e:Ending) (w':World):Prop:=∃ v,e=.returned (.tuple #[v,.int .i64 k])∧Sl w' v []∧Grew w w'
def HasSays (p:List Pt) (x:Pt) (w:World) (e:Ending) (w':World):Prop:=∃ r:Bool,e=.returned (.tuple #[.bool r,.int .i64 0])∧(r=true↔Hs p x)∧Grew w w'
def HullSays (l:List Pt) (w:World) (e:Ending) (w':World):Prop:=∃ q,IsHull l q∧((q.length≤64∧∃ v,e=.returned (.tuple #[v,.int .i64 0])∧Sl w' v q∧Grew w w')∨(64 < q.length∧Empty 2 w e w'))
def EightSays (p:List Pt) (w:World) (e:Ending) (w':World):Prop:=∃ q v,IsOct p q∧e=.returned (.tuple #[v,.int .i64 0])∧Sl w' v q∧Grew w w'
def BoxSays (p:List Pt) (w:World) (e:Ending) (w':World):Prop:=∃ lo hi:Pt,IsBox p lo hi∧e=.returned (.tuple #[.agg #[.int .i64 lo.1,.int .i64 lo.2],.agg #[.int .i64 hi.1,.int .i64 hi.2],.int .i64 0])∧Grew w w'
structure Code:Prop where
 valid:∀ (p:List Pt) (v:Value) (w:World),Sl w v p→p.length≤9223372036854775807→Calls Tryz.prog 56 #[v] w (Tells (Vl p) w)
 has_ok:∀ (p:List Pt) (x:Pt) (v:Value) (w:World),Sl w v p→Vl p→Plc x→Calls Tryz.prog 87 #[v,.agg #[.int .i64 x.1,.int .i64 x.2]] w (HasSays p x w)
 has_bad:∀ (p:List Pt) (x:Pt) (v:Value) (w:World),Sl w v p→p.length≤9223372036854775807→¬ (Vl p∧Plc x)→Calls Tryz.prog 87 #[v,.agg #[.int .i64 x.1,.int .i64 x.2]] w fun e w' => e=.returned (.tuple #[.bool false,.int .i64 1])∧Grew w w'
 hull_big:∀ (l:List Pt) (v:Value) (w:World),Sl w v l→l.length≤9223372036854775807→4000 < l.length→Calls Tryz.prog 103 #[v] w (Empty 2 w)
 hull_bad:∀ (l:List Pt) (v:Value) (w:World),Sl w v l→l.length≤4000→(l=[]∨¬ Plcs l)→Calls Tryz.prog 103 #[v] w (Empty 1 w)
 hull_ok:∀ (l:List Pt) (v:Value) (w:World),Sl w v l→l.length≤4000→l ≠ []→Plcs l→Calls Tryz.prog 103 #[v] w (HullSays l w)
 box_ok:∀ (p:List Pt) (v:Value) (w:World),Sl w v p→Vl p→Calls Tryz.prog 88 #[v] w (BoxSays p w)
 box_bad:∀ (p:List Pt) (v:Value) (w:World),Sl w v p→p.length≤9223372036854775807→¬ Vl p→Calls Tryz.prog 88 #[v] w fun e w' => e=.returned (.tuple #[.agg #[.int .i64 ((0,0):Pt).1,.int .i64 ((0,0):Pt).2],.agg #[.int .i64 ((0,0):Pt).1,.int .i64 ((0,0):Pt).2],.int .i64 1])∧Grew w w'
 eight_ok:∀ (p:List Pt) (v:Value) (w:World),Sl w v p→Vl p→Calls Tryz.prog 98 #[v] w (EightSays p w)
 eight_bad:∀ (p:List Pt) (v:Value) (w:World),Sl w v p→p.length≤9223372036854775807→¬ Vl p→Calls Tryz.prog 98 #[v] w (Empty 1 w)
def cellsOf (p:List Pt):List Value:=p.flatMap fun x => [.int .i64 x.1,.int .i64 x.2]
theorem cellsOf_at:∀ (p:List Pt) (i:Nat),i < p.length→(cellsOf p)[i * 2]? = some (.int .i64 (at' p i).1)∧(cellsOf p)[i * 2+1]? = some (.int .i64 (at' p i).2)
 | [],i,h => absurd h (by simp)
 | x :: p,0,_ => ⟨rfl,rfl⟩
 | x :: p,i+1,h => by
   have ih:=cellsOf_at p i (by simpa using h)
   have e1:(i+1) * 2=i * 2+1+1:=by omega
   have e2:at' (x :: p) (i+1)=at' p i:=rfl
   rw [e1,e2]
   exact ih
theorem row_new (p:List Pt) (cs:Array Value) (h:(cellsOf p).toArray=cs) (w:World) (t:TypeId):Row (w.alloc (.cells cs t)) w.heap.size 0 p:=by
 refine ⟨by simp,fun i hi => ?_⟩
 obtain ⟨a,b⟩:=cellsOf_at p i hi
 subst h
 have key:∀ (j:Nat) (v:Value),(cellsOf p)[j]? = some v→(w.alloc (.cells (cellsOf p).toArray t)).cell? ⟨w.heap.size,0+j,none⟩=some v:=by
  intro j v hj
  simp [go_sem,hj]
 exact ⟨key _ _ a,by have:=key _ _ b;rwa [← Nat.add_assoc] at this⟩
end Hl
end Go.Proofs.YtbpgfenippiepaaGreatDoor
namespace Go.Proofs.YtbpgfenippiepaaGreatDoor
open Go.RowKit
namespace Hl
def l6:List Pt:=[(0,0),(4,0),(2,1),(4,4),(2,0),(0,4)]
def sq:List Pt:=[(0,0),(4,0),(4,4),(0,4)]
def seg:List Pt:=[(0,0),(5,1)]
def o4:List Pt:=[(0,0),(4,0),(5,1),(1,1)]
instance (a b:Pt):Decidable (ls a b):=by unfold ls;infer_instance
theorem vl_of {p:List Pt} (h:Pg p) (hl:p.length≤64) (hp:Plcs p):Vl p:=⟨⟨h.1,hl⟩,hp,h.2.1,h.2.2⟩
theorem Vl.pg {p:List Pt} (h:Vl p):Pg p:=⟨h.1.1,h.2.2.1,h.2.2.2⟩
theorem plcs_of {p:List Pt} (h:∀ x,x ∈ p→Plc x):Plcs p:=fun _ hi => h _ (at_mem hi)
theorem IsMin.one {p:List Pt} {u v m m':Int} (h:IsMin p u v m) (k:IsMin p u v m'):m=m':=by
 obtain ⟨⟨x,hx,e⟩,h2⟩:=h
 obtain ⟨⟨y,hy,e'⟩,k2⟩:=k
 have:=h2 y hy
 have:=k2 x hx
 omega
end Hl
end Go.Proofs.YtbpgfenippiepaaGreatDoor
namespace Go.Proofs.YtbpgfenippiepaaGreatDoor
open Go.RowKit
namespace Hl
theorem Sl.row {w:World} {v:Value} {p:List Pt} (h:Sl w v p) (hn:p ≠ []):∃ b o c,v=.slice (some ⟨b,o,none⟩) p.length c∧Row w b o p:=by
 rcases h with ⟨h,_⟩ | h
 ·exact absurd h hn
 ·exact h
theorem Sl.of {w:World} {b o c:Nat} {p:List Pt} (h:Row w b o p):Sl w (.slice (some ⟨b,o,none⟩) p.length c) p:=Or.inr ⟨b,o,c,rfl,h⟩
theorem Tells.to {q:Prop} {w:World} {e:Ending} {w':World} (h:Tells q w e w') (hq:q):e=.returned (.bool true)∧Grew w w':=by
 obtain ⟨r,rfl,hr,g⟩:=h
 rw [hr.2 hq]
 exact ⟨rfl,g⟩
theorem Tells.un {q:Prop} {w:World} {e:Ending} {w':World} (h:Tells q w e w') (hq:¬ q):e=.returned (.bool false)∧Grew w w':=by
 obtain ⟨r,rfl,hr,g⟩:=h
 cases r
 ·exact ⟨rfl,g⟩
 ·exact absurd (hr.1 rfl) hq
end Hl
end Go.Proofs.YtbpgfenippiepaaGreatDoor
namespace Go.Proofs.YtbpgfenippiepaaGreatDoor
open Go.RowKit
namespace Hl
theorem info_pt:(Tryz.prog.info? 24).map (fun i => (i.zero,i.size,i.bytes))=some (some (.agg #[.int .i64 0,.int .i64 0]),2,16):=by kernel_rfl
def Own (B:Nat) (w:World) (v:Value) (p:List Pt):Prop:=w.ownsRow B 24 2 v p.length (cellsOf p)
theorem cellsOf_len (p:List Pt):(cellsOf p).length=p.length * 2:=by
 induction p with
 | nil => rfl
 | cons x p ih =>
   have e:cellsOf (x :: p)=[.int .i64 x.1,.int .i64 x.2] ++ cellsOf p:=rfl
   rw [e,List.length_append,ih]
   simp
   omega
theorem cellsOf_append (p q:List Pt):cellsOf (p ++ q)=cellsOf p ++ cellsOf q:=by
 unfold cellsOf
 rw [List.flatMap_append]
theorem Own.nil (B:Nat) (w:World):Own B w (.slice none 0 0) []:=World.ownsRow_nil w B _ 2
theorem Own.alloc {B:Nat} {w:World} {v:Value} {p:List Pt} (h:Own B w v p) (o:Obj):Own B (w.alloc o) v p:=World.ownsRow.alloc h o
theorem Own.drew {B:Nat} {w:World} {v:Value} {p:List Pt} (h:Own B w v p):Own B w.drew v p:=h
theorem Own.grew {B:Nat} {W w:World} {v:Value} {p:List Pt} (h:Own B W v p) (g:Grew W w):Own B w v p :=
 World.ownsRow.kept h (row:=none) ⟨g.os,g.tape,g.output,g.size,fun k hk _ => g.block k hk⟩ (by cases hv:v.ownBlock <;> simp)
theorem Own.sl {B:Nat} {w:World} {v:Value} {p:List Pt} (h:Own B w v p):Sl w v p:=by
 by_cases h0:p=[]
 ·subst h0
  rcases h.2 with ⟨rfl,_⟩ | ⟨g,cap,cur,rfl,_⟩
  ·exact Or.inl ⟨rfl,none,0,rfl⟩
  ·exact Or.inl ⟨rfl,_,_,rfl⟩
 ·have hc:=fun g => World.ownsRow.cells (g:=g) h
  rcases h.2 with ⟨_,h1⟩ | ⟨g,cap,cur,rfl,_,hg,_⟩
  ·exact absurd (List.length_eq_zero_iff.1 h1) h0
  ·refine Or.inr ⟨g,0,cap,rfl,(Array.getElem?_eq_some_iff.1 hg).1,fun i hi => ?_⟩
   obtain ⟨a,b⟩:=cellsOf_at p i hi
   have ad:∀ k,(⟨g,0,none⟩:Addr).add k=⟨g,0+k,none⟩:=fun k => by
    unfold Addr.add
    split
    ·rename_i e;subst e;rfl
    ·rfl
   have k1:=hc g rfl _ _ a
   have k2:=hc g rfl _ _ b
   rw [ad] at k1 k2
   exact ⟨k1,k2⟩
theorem row_cells {w:World} {b o:Nat} {p:List Pt} (h:Row w b o p):∀ j u,(cellsOf p)[j]? = some u→w.cell? ((⟨b,o,none⟩:Addr).add j)=some u:=by
 intro j u hj
 have ad:∀ k,(⟨b,o,none⟩:Addr).add k=⟨b,o+k,none⟩:=fun k => by
  unfold Addr.add
  split
  ·rename_i e;subst e;rfl
  ·rfl
 have hlt:j < p.length * 2:=by
  have h1:=(List.getElem?_eq_some_iff.1 hj).1
  rwa [cellsOf_len] at h1
 obtain ⟨a1,a2⟩:=cellsOf_at p (j / 2) (by omega)
 obtain ⟨c1,c2⟩:=h.2 (j / 2) (by omega)
 rw [ad]
 by_cases e:j % 2=0
 ·have ej:j=j / 2 * 2:=by omega
  rw [ej] at hj ⊢
  rw [a1] at hj
  rw [c1];exact hj
 ·have ej:j=j / 2 * 2+1:=by omega
  have e1:o+j=o+j / 2 * 2+1:=by omega
  rw [e1,c2]
  rw [ej,a2] at hj
  exact hj
theorem cells_one (p:List Pt):∀ u,u ∈ cellsOf p→u.oneCell'=true:=by
 intro u hu
 unfold cellsOf at hu
 rw [List.mem_flatMap] at hu
 obtain ⟨x,_,hx⟩:=hu
 rcases List.mem_cons.1 hx with rfl | hx
 ·rfl
 ·rcases List.mem_cons.1 hx with rfl | hx
  ·rfl
  ·cases hx
theorem wp_append_pts {o:Oper} {a:Act} {K:Act→World→Prop} {Q:Exit→Act→World→Prop} (w:World) (s x:Operand)
  (ho:o.op=.call { callee:=.builtin .append,args:=#[s,x],argTypes:=#[48,48] }) (B:Nat) (v:Value) (p ys:List Pt) (b off c:Nat)
  (hs:a.eval s=v) (hown:Own B w v p) (hx:a.eval x=.slice (some ⟨b,off,none⟩) ys.length c) (hr:Row w b off ys) (hl:p.length+ys.length≤4000000) (hB:B≤w.heap.size)
  (h:∀ v' w',Own B w' v' (p ++ ys)→(∀ W:World,W.heap.size≤B→Grew W w→Grew W w')→(∀ b' o' r,Row w b' o' r→some b' ≠ v.ownBlock→Row w' b' o' r)→K (a.put o.dst v') w'):o.wp Tryz.prog a w K Q:=by
 obtain ⟨i0,hi,hz0,hz1,hz2⟩:=info_parts info_pt
 refine wp_append_own w s x 48 ho B 24 i0 (.agg #[.int .i64 0,.int .i64 0]) 2 16 Tryz.underlying48 hi hz0 hz1 hz2 rfl (by decide) v p.length (cellsOf p) hs hown ⟨b,off,none⟩ ys.length c (cellsOf ys) hx (cellsOf_len ys) (row_cells hr) (cells_one ys) (by unfold maxLen;omega) (by omega) hB ?_
 intro v' w' h1 h2 _
 refine h v' w' ?_ (fun W hW g => Grew.grown g h2 (fun k hk => Nat.le_trans hW (World.ownsRow.lt hown k hk).1)) (fun b' o' r hr' hne => ⟨Nat.lt_of_lt_of_le hr'.1 h2.size,fun i hi => ?_⟩)
 ·unfold Own
  rw [cellsOf_append,List.length_append]
  exact h1
 ·obtain ⟨k1,k2⟩:=hr'.2 i hi
  exact ⟨World.grownBy.cell h2 k1 hne,World.grownBy.cell h2 k2 hne⟩
theorem Own.made {B:Nat} (w:World) (hB:B≤w.heap.size):Own B (w.alloc (.cells #[] 24)) (.slice (some ⟨w.heap.size,0,none⟩) 0 0) []:=World.ownsRow_made w #[] 0 hB (Nat.zero_le _) rfl
end Hl
end Go.Proofs.YtbpgfenippiepaaGreatDoor
