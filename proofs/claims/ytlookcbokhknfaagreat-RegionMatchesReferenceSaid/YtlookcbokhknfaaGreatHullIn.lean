/-
  The reference implementation of layer 3 over slices of points: between, Inside.
  The reference implementation of layer 3 over slices of points: Inside.
  Inside over slices of points: two corners and a place off their line; three corners and more; all together.
  Slices of points as values; Same, Few.
-/
import Derived.Test.YtlookcbokhknfaaGreatHullSl
import Derived.Deep.RegionWith
import Derived.IntWalk
namespace Go.Proofs.YtlookcbokhknfaaGreat
open Go.RowKit
namespace Hl
instance (a b x:Pt):Decidable (btw a b x):=by unfold btw;infer_instance
set_option maxHeartbeats 1000000 in
theorem between_x (a b x:Pt) (w:World):Calls Tryz.prog 127 #[.agg #[.int .i64 a.1,.int .i64 a.2],.agg #[.int .i64 b.1,.int .i64 b.2],.agg #[.int .i64 x.1,.int .i64 x.2]] w fun e w' => e=.returned (.bool (decide (btw a b x)))∧((w.alloc (.cells #[.int .i64 (a.1),.int .i64 (a.2)] 27)).alloc (.cells #[.int .i64 (b.1),.int .i64 (b.2)] 27)).alloc (.cells #[.int .i64 (x.1),.int .i64 (x.2)] 27)=w':=by
 rcases a with ⟨a1,a2⟩
 rcases b with ⟨b1,b2⟩
 rcases x with ⟨x1,x2⟩
 have key:∀ r:Bool,(r=true↔btw (a1,a2) (b1,b2) (x1,x2))→decide (btw (a1,a2) (b1,b2) (x1,x2))=r:=by
  intro r h
  rw [Bool.eq_iff_iff,decide_eq_true_eq]
  exact h.symm
 have K:=Lib.hid key
 clear key
 rcases Int.lt_trichotomy a1 b1 with h1 | h1 | h1 <;> rcases Int.lt_trichotomy a2 b2 with h2 | h2 | h2
 all_goals
  (try subst h1)
  (try subst h2)
  go_enter Tryz.func127,Tryz.ntmps127
  go_wp2_with fail
  all_goals
   go_ret
   exact ⟨congrArg (fun r => Ending.returned (.bool r)) (K.out _ (by unfold btw;simp;omega)).symm,rfl⟩
end Hl
end Go.Proofs.YtlookcbokhknfaaGreat
namespace Go.Proofs.YtlookcbokhknfaaGreat
open Go.RowKit
namespace Hl
theorem hs1 {p:List Pt} {x:Pt} (h:p.length=1):Hs p x↔at' p 0=x:=by unfold Hs;rw [if_pos h]
theorem hs2 {p:List Pt} {x:Pt} (h:p.length=2):Hs p x↔(cr (at' p 0) (at' p 1) x=0∧btw (at' p 0) (at' p 1) x):=by unfold Hs;rw [if_neg (by omega),if_pos h]
theorem hs3 {p:List Pt} {x:Pt} (h:3≤p.length):Hs p x↔Ins p.length (at' p) x:=by unfold Hs;rw [if_neg (by omega),if_neg (by omega)]
set_option maxRecDepth 100000 in
set_option maxHeartbeats 2000000 in
theorem inside_one (p:List Pt) (x:Pt) (b o c:Nat) (w:World) (hr:Row w b o p) (h1:p.length=1):Calls Tryz.prog 79 #[.slice (some ⟨b,o,none⟩) p.length c,.agg #[.int .i64 x.1,.int .i64 x.2]] w (Tells (Hs p x) w):=by
 have HS:=Lib.hid (hs1 (x:=x) h1)
 obtain ⟨q0,q1⟩:=hr.2 0 (by omega)
 rw [Nat.zero_mul,Nat.add_zero] at q0 q1
 have hb:=hr.1
 rw [h1]
 have i1:(0:Int) < (1:Int):=by omega
 clear h1 hr
 rcases x with ⟨x1,x2⟩
 obtain ⟨y,hy⟩:∃ y,at' p 0=y:=⟨_,rfl⟩
 rw [hy] at q0 q1
 have HY:=Lib.hid hy
 clear hy
 rcases y with ⟨y1,y2⟩
 simp only at q0 q1
 by_cases e1:y1=x1
 ·subst e1
  by_cases e2:y2=x2
  ·subst e2
   go_enter Tryz.func79,Tryz.ntmps79
   go_wp2_with fail
   go_quiet (fail)
   go_wp2_with fail
   go_ret
   exact Tells.yes (HS.out.2 HY.out) rfl (Grew.drewN (Grew.alloc (Grew.refl _) _ _) _)
  ·go_enter Tryz.func79,Tryz.ntmps79
   go_wp2_with fail
   go_quiet (fail)
   go_wp2_with fail
   go_ret
   exact Tells.no (fun h => e2 (by have:=HS.out.1 h;rw [HY.out] at this;exact congrArg Prod.snd this)) rfl (Grew.drewN (Grew.alloc (Grew.refl _) _ _) _)
 ·go_enter Tryz.func79,Tryz.ntmps79
  go_wp2_with fail
  go_quiet (fail)
  go_wp2_with fail
  go_ret
  exact Tells.no (fun h => e1 (by have:=HS.out.1 h;rw [HY.out] at this;exact congrArg Prod.fst this)) rfl (Grew.drewN (Grew.alloc (Grew.refl _) _ _) _)
set_option maxRecDepth 100000 in
set_option maxHeartbeats 4000000 in
theorem inside_two_on (p:List Pt) (x:Pt) (b o c:Nat) (w:World) (hr:Row w b o p) (hp:Plcs p) (hx:Plc x) (h1:p.length=2) (hz:cr (at' p 0) (at' p 1) x=0):Calls Tryz.prog 79 #[.slice (some ⟨b,o,none⟩) p.length c,.agg #[.int .i64 x.1,.int .i64 x.2]] w (Tells (Hs p x) w):=by
 have HS:=Lib.hid (hs2 (x:=x) h1)
 obtain ⟨q0,q1⟩:=hr.2 0 (by omega)
 rw [Nat.zero_mul,Nat.add_zero] at q0 q1
 obtain ⟨q2,q3⟩:=hr.2 1 (by omega)
 have hb:=hr.1
 have hb1:b < w.heap.size+1:=by omega
 have hb2:b < w.heap.size+1+1:=by omega
 have hb3:b < w.heap.size+1+1+1:=by omega
 have hb4:b < w.heap.size+1+1+1+1:=by omega
 have hb5:b < w.heap.size+1+1+1+1+1:=by omega
 have hb6:b < w.heap.size+1+1+1+1+1+1:=by omega
 have CX0:=(cross_x (at' p 0) (at' p 1) x · (hp 0 (by omega)) (hp 1 (by omega)) hx)
 have BB0:=between_x (at' p 0) (at' p 1) x
 rw [h1]
 clear h1 hr hp hx
 rw [hz] at CX0
 ·skip
  have CX:=Lib.hid CX0
  clear CX0
  by_cases ht:btw (at' p 0) (at' p 1) x
  ·rw [decide_eq_true ht] at BB0
   have BB:=Lib.hid BB0
   have T:=Lib.hid (HS.out.2 ⟨hz,ht⟩)
   clear BB0 hz ht
   go_enter Tryz.func79,Tryz.ntmps79
   go_wp2_with fail
   go_region_held3 (fun w' => w'.cell? ⟨b,o,none⟩=some (.int .i64 (at' p 0).1)∧w'.cell? ⟨b,o+1,none⟩=some (.int .i64 (at' p 0).2)∧w'.cell? ⟨b,o+1 * 2,none⟩=some (.int .i64 (at' p 1).1)∧w'.cell? ⟨b,o+1 * 2+1,none⟩=some (.int .i64 (at' p 1).2)∧w'.cell? ⟨w.heap.size,0,none⟩=some (.int .i64 x.1)∧w'.cell? ⟨w.heap.size,1,none⟩=some (.int .i64 x.2)) (simp [go_sem, *])
    (first | (go_at_call 121;refine (CX.out _).mono ?_;rintro e w' ⟨rfl,rfl⟩) | (go_at_call 127;refine (BB.out _).mono ?_;rintro e w' ⟨rfl,rfl⟩))
   go_wp2_with fail
   go_ret
   exact Tells.yes T.out rfl (by repeat' (first|(with_reducible first|exact Grew.refl _|assumption|refine Grew.alloc ?_ _ _|refine Grew.drew ?_|refine Grew.drewN ?_ _|refine Grew.setCell ?_ ?_ _)|go_size))
  ·rw [decide_eq_false ht] at BB0
   have BB:=Lib.hid BB0
   have T:=Lib.hid (fun h:Hs p x => ht (HS.out.1 h).2)
   clear BB0 hz ht
   go_enter Tryz.func79,Tryz.ntmps79
   go_wp2_with fail
   go_region_held3 (fun w' => w'.cell? ⟨b,o,none⟩=some (.int .i64 (at' p 0).1)∧w'.cell? ⟨b,o+1,none⟩=some (.int .i64 (at' p 0).2)∧w'.cell? ⟨b,o+1 * 2,none⟩=some (.int .i64 (at' p 1).1)∧w'.cell? ⟨b,o+1 * 2+1,none⟩=some (.int .i64 (at' p 1).2)∧w'.cell? ⟨w.heap.size,0,none⟩=some (.int .i64 x.1)∧w'.cell? ⟨w.heap.size,1,none⟩=some (.int .i64 x.2)) (simp [go_sem, *])
    (first | (go_at_call 121;refine (CX.out _).mono ?_;rintro e w' ⟨rfl,rfl⟩) | (go_at_call 127;refine (BB.out _).mono ?_;rintro e w' ⟨rfl,rfl⟩))
   go_wp2_with fail
   go_ret
   exact Tells.no T.out rfl (by repeat' (first|(with_reducible first|exact Grew.refl _|assumption|refine Grew.alloc ?_ _ _|refine Grew.drew ?_|refine Grew.drewN ?_ _|refine Grew.setCell ?_ ?_ _)|go_size))
end Hl
end Go.Proofs.YtlookcbokhknfaaGreat
namespace Go.Proofs.YtlookcbokhknfaaGreat
open Go.RowKit
namespace Hl
set_option maxRecDepth 100000 in
set_option maxHeartbeats 4000000 in
theorem inside_two_off (p:List Pt) (x:Pt) (b o c:Nat) (w:World) (hr:Row w b o p) (hp:Plcs p) (hx:Plc x) (h1:p.length=2) (hz:¬ cr (at' p 0) (at' p 1) x=0):Calls Tryz.prog 79 #[.slice (some ⟨b,o,none⟩) p.length c,.agg #[.int .i64 x.1,.int .i64 x.2]] w (Tells (Hs p x) w):=by
 have T:Hid (¬ Hs p x):=Lib.hid (fun h => hz ((hs2 (x:=x) h1).1 h).1)
 obtain ⟨q0,q1⟩:=hr.2 0 (by omega)
 rw [Nat.zero_mul,Nat.add_zero] at q0 q1
 obtain ⟨q2,q3⟩:=hr.2 1 (by omega)
 have hb:=hr.1
 have hb1:b < w.heap.size+1:=by omega
 have hb2:b < w.heap.size+1+1:=by omega
 have hb3:b < w.heap.size+1+1+1:=by omega
 have hb4:b < w.heap.size+1+1+1+1:=by omega
 obtain ⟨z,ez⟩:∃ z,cr (at' p 0) (at' p 1) x=z:=⟨_,rfl⟩
 have CX:Hid (∀ w,Calls Tryz.prog 121 #[.agg #[.int .i64 (at' p 0).1,.int .i64 (at' p 0).2],.agg #[.int .i64 (at' p 1).1,.int .i64 (at' p 1).2],.agg #[.int .i64 x.1,.int .i64 x.2]] w fun e w' => e=.returned (.int .i64 z)∧((w.alloc (.cells #[.int .i64 (at' p 0).1,.int .i64 (at' p 0).2] 27)).alloc (.cells #[.int .i64 (at' p 1).1,.int .i64 (at' p 1).2] 27)).alloc (.cells #[.int .i64 x.1,.int .i64 x.2] 27)=w'):=Lib.hid (fun w => by rw [← ez];exact cross_x (at' p 0) (at' p 1) x w (hp 0 (by omega)) (hp 1 (by omega)) hx)
 rw [ez] at hz
 have hz':(z == 0)=false:=by rw [beq_eq_false_iff_ne];exact hz
 rw [h1]
 clear h1 hr hp hx ez hz
 go_enter Tryz.func79,Tryz.ntmps79
 go_wp2_with fail
 refine wp_region_held_drew (S:=(fun w' => w'.cell? ⟨b,o,none⟩=some (.int .i64 (at' p 0).1)∧w'.cell? ⟨b,o+1,none⟩=some (.int .i64 (at' p 0).2)∧w'.cell? ⟨b,o+1 * 2,none⟩=some (.int .i64 (at' p 1).1)∧w'.cell? ⟨b,o+1 * 2+1,none⟩=some (.int .i64 (at' p 1).2)∧w'.cell? ⟨w.heap.size,0,none⟩=some (.int .i64 x.1)∧w'.cell? ⟨w.heap.size,1,none⟩=some (.int .i64 x.2))) (by kernel_rfl) (by simp [go_sem, *]) (fun hHeld => ?_)
 refine wpAnyH_take (i:=0) (oi:=⟨some 18,_,_,_,_,_⟩) (v:=?_) rfl (by kernel_rfl) (by kernel_rfl) (by kernel_rfl) (fun _ _ _ h => h) (Or.inl ⟨by rfl,?_⟩) (by assumption) ?_
 rotate_left
 ·intro w hSw;(try dsimp only at hSw);go_simp;(try with_reducible rfl)
 try simp only [Act.put,List.setIfInBounds_toArray,List.set_cons_zero,List.set_cons_succ]
 refine wpAnyH_take (i:=1) (oi:=⟨some 19,_,_,_,_,_⟩) (v:=?_) rfl (by kernel_rfl) (by kernel_rfl) (by kernel_rfl) (fun _ _ _ h => h) (Or.inl ⟨by rfl,?_⟩) (by assumption) ?_
 rotate_left
 ·intro w hSw;(try dsimp only at hSw);go_simp;(try with_reducible rfl)
 try simp only [Act.put,List.setIfInBounds_toArray,List.set_cons_zero,List.set_cons_succ]
 refine wpAnyH_take (i:=2) (oi:=⟨some 20,_,_,_,_,_⟩) (v:=?_) rfl (by kernel_rfl) (by kernel_rfl) (by kernel_rfl) (fun _ _ _ h => h) (Or.inl ⟨by rfl,?_⟩) (by assumption) ?_
 rotate_left
 ·intro w hSw;(try dsimp only at hSw);go_simp;(try with_reducible rfl)
 try simp only [Act.put,List.setIfInBounds_toArray,List.set_cons_zero,List.set_cons_succ]
 refine wpAnyH_take (i:=3) (oi:=⟨some 21,_,_,_,_,_⟩) (v:=?_) rfl (by kernel_rfl) (by kernel_rfl) (by kernel_rfl) (fun _ _ _ h => h) (Or.inl ⟨by rfl,?_⟩) (by assumption) ?_
 rotate_left
 ·intro w hSw;(try dsimp only at hSw);go_simp;(try with_reducible rfl)
 try simp only [Act.put,List.setIfInBounds_toArray,List.set_cons_zero,List.set_cons_succ]
 refine wpAnyH_take (i:=4) (oi:=⟨some 22,_,_,_,_,_⟩) (v:=?_) rfl (by kernel_rfl) (by kernel_rfl) (by kernel_rfl) (fun _ _ _ h => h) (Or.inl ⟨by rfl,?_⟩) (by assumption) ?_
 rotate_left
 ·intro w hSw;(try dsimp only at hSw);go_simp;(try with_reducible rfl)
 try simp only [Act.put,List.setIfInBounds_toArray,List.set_cons_zero,List.set_cons_succ]
 refine wpAnyH_take (i:=5) (oi:=⟨some 23,_,_,_,_,_⟩) (v:=?_) rfl (by kernel_rfl) (by kernel_rfl) (by kernel_rfl) (fun _ _ _ h => h) (Or.inl ⟨by rfl,?_⟩) (by assumption) ?_
 rotate_left
 ·intro w hSw;(try dsimp only at hSw);go_simp;(try with_reducible rfl)
 try simp only [Act.put,List.setIfInBounds_toArray,List.set_cons_zero,List.set_cons_succ]
 refine wpAnyH_take (i:=6) (oi:=⟨some 24,_,_,_,_,_⟩) (v:=?_) rfl (by kernel_rfl) (by kernel_rfl) (by kernel_rfl) (fun _ _ _ h => h) (Or.inl ⟨by rfl,?_⟩) (by assumption) ?_
 rotate_left
 ·intro w hSw;(try dsimp only at hSw);go_simp;(try with_reducible rfl)
 try simp only [Act.put,List.setIfInBounds_toArray,List.set_cons_zero,List.set_cons_succ]
 refine wpAnyH_ready (rs:=[7]) (by kernel_rfl) (by simp) ?_
 refine AllReadyH.cons (o:=⟨some 25,_,_,_,_,_⟩) rfl (fun K hK => ?_) AllReadyH.nil
 go_simp
 (go_at_call 121;refine (CX.out _).mono ?_;rintro e w' ⟨rfl,rfl⟩)
 go_wp2_with fail
 refine hK.out _ _ (by (try dsimp only);simp [go_sem, *]) (fun h1 => ?_)
 clear hK K hHeld
 have hHeld:=h1
 clear h1
 try simp only [Act.put,List.setIfInBounds_toArray,List.set_cons_zero,List.set_cons_succ]
 refine wpAnyH_take (i:=8) (oi:=⟨some 26,_,_,_,_,_⟩) (v:=?_) rfl (by kernel_rfl) (by kernel_rfl) (by kernel_rfl) (fun _ _ _ h => h) (Or.inl ⟨by rfl,?_⟩) (by assumption) ?_
 rotate_left
 ·intro w hSw;(try dsimp only at hSw);go_simp;(try with_reducible rfl)
 try simp only [Act.put,List.setIfInBounds_toArray,List.set_cons_zero,List.set_cons_succ]
 refine wpAnyH_take (i:=9) (oi:=⟨some 27,_,_,_,_,_⟩) (v:=?_) rfl (by kernel_rfl) (by kernel_rfl) (by kernel_rfl) (fun _ _ _ h => h) (Or.inl ⟨by rfl,?_⟩) (by assumption) ?_
 rotate_left
 ·intro w hSw;(try dsimp only at hSw);go_simp;(try with_reducible rfl)
 try simp only [Act.put,List.setIfInBounds_toArray,List.set_cons_zero,List.set_cons_succ]
 refine wpAnyH_take (i:=10) (oi:=⟨some 28,_,_,_,_,_⟩) (v:=undef) rfl (by kernel_rfl) (by kernel_rfl) (by kernel_rfl) (fun _ _ _ h => h) (Or.inr ⟨by rfl,rfl⟩) (by assumption) ?_
 try simp only [Act.put,List.setIfInBounds_toArray,List.set_cons_zero,List.set_cons_succ]
 refine wpAnyH_take (i:=11) (oi:=⟨some 29,_,_,_,_,_⟩) (v:=undef) rfl (by kernel_rfl) (by kernel_rfl) (by kernel_rfl) (fun _ _ _ h => h) (Or.inr ⟨by rfl,rfl⟩) (by assumption) ?_
 try simp only [Act.put,List.setIfInBounds_toArray,List.set_cons_zero,List.set_cons_succ]
 refine wpAnyH_take (i:=12) (oi:=⟨some 30,_,_,_,_,_⟩) (v:=undef) rfl (by kernel_rfl) (by kernel_rfl) (by kernel_rfl) (fun _ _ _ h => h) (Or.inr ⟨by rfl,rfl⟩) (by assumption) ?_
 try simp only [Act.put,List.setIfInBounds_toArray,List.set_cons_zero,List.set_cons_succ]
 refine wpAnyH_take (i:=13) (oi:=⟨some 31,_,_,_,_,_⟩) (v:=undef) rfl (by kernel_rfl) (by kernel_rfl) (by kernel_rfl) (fun _ _ _ h => h) (Or.inr ⟨by rfl,rfl⟩) (by assumption) ?_
 try simp only [Act.put,List.setIfInBounds_toArray,List.set_cons_zero,List.set_cons_succ]
 refine wpAnyH_take (i:=14) (oi:=⟨some 32,_,_,_,_,_⟩) (v:=undef) rfl (by kernel_rfl) (by kernel_rfl) (by kernel_rfl) (fun _ _ _ h => h) (Or.inr ⟨by rfl,rfl⟩) (by assumption) ?_
 try simp only [Act.put,List.setIfInBounds_toArray,List.set_cons_zero,List.set_cons_succ]
 refine wpAnyH_take (i:=15) (oi:=⟨some 33,_,_,_,_,_⟩) (v:=undef) rfl (by kernel_rfl) (by kernel_rfl) (by kernel_rfl) (fun _ _ _ h => h) (Or.inr ⟨by rfl,rfl⟩) (by assumption) ?_
 try simp only [Act.put,List.setIfInBounds_toArray,List.set_cons_zero,List.set_cons_succ]
 refine wpAnyH_take (i:=16) (oi:=⟨some 34,_,_,_,_,_⟩) (v:=undef) rfl (by kernel_rfl) (by kernel_rfl) (by kernel_rfl) (fun _ _ _ h => h) (Or.inr ⟨by rfl,rfl⟩) (by assumption) ?_
 try simp only [Act.put,List.setIfInBounds_toArray,List.set_cons_zero,List.set_cons_succ]
 refine wpAnyH_take (i:=17) (oi:=⟨some 35,_,_,_,_,_⟩) (v:=undef) rfl (by kernel_rfl) (by kernel_rfl) (by kernel_rfl) (fun _ _ _ h => h) (Or.inr ⟨by rfl,rfl⟩) (by assumption) ?_
 try simp only [Act.put,List.setIfInBounds_toArray,List.set_cons_zero,List.set_cons_succ]
 refine wpAnyH_take (i:=18) (oi:=⟨some 36,_,_,_,_,_⟩) (v:=?_) rfl (by kernel_rfl) (by kernel_rfl) (by kernel_rfl) (fun _ _ _ h => h) (Or.inl ⟨by rfl,?_⟩) (by assumption) ?_
 rotate_left
 ·intro w hSw;(try dsimp only at hSw);go_simp;(try with_reducible rfl)
 try simp only [Act.put,List.setIfInBounds_toArray,List.set_cons_zero,List.set_cons_succ]
 refine wpAnyH_take (i:=19) (oi:=⟨some 4,_,_,_,_,_⟩) (v:=?_) rfl (by kernel_rfl) (by kernel_rfl) (by kernel_rfl) (fun _ _ _ h => h) (Or.inl ⟨by rfl,?_⟩) (by assumption) ?_
 rotate_left
 ·intro w hSw;(try dsimp only at hSw);go_simp;(try with_reducible rfl)
 try simp only [Act.put,List.setIfInBounds_toArray,List.set_cons_zero,List.set_cons_succ]
 refine wpAnyH_done (by kernel_rfl) ?_ _
 go_wp2_with fail
 go_ret
 exact Tells.no T.out rfl (by repeat' (first|(with_reducible first|exact Grew.refl _|assumption|refine Grew.alloc ?_ _ _|refine Grew.drew ?_|refine Grew.drewN ?_ _|refine Grew.setCell ?_ ?_ _)|go_size))
set_option maxRecDepth 100000 in
set_option maxHeartbeats 4000000 in
theorem inside_many (p:List Pt) (x:Pt) (b o c:Nat) (w:World) (hr:Row w b o p) (hp:Plcs p) (hx:Plc x) (h1:3≤p.length) (h2:p.length≤9223372036854775807):Calls Tryz.prog 79 #[.slice (some ⟨b,o,none⟩) p.length c,.agg #[.int .i64 x.1,.int .i64 x.2]] w (Tells (Hs p x) w):=by
 have HS:=Lib.hid (hs3 (x:=x) h1)
 have PL:=Lib.hid hp
 have HX:=Lib.hid hx
 have HR:Hid (Row (w.alloc (.cells #[.int .i64 x.1,.int .i64 x.2] 27)) b o p):=Lib.hid (hr.grown (Grew.alloc (Grew.refl _) _ _))
 have d1:((p.length:Int) == 1)=false:=by rw [beq_eq_false_iff_ne];omega
 have d2:((p.length:Int) == 2)=false:=by rw [beq_eq_false_iff_ne];omega
 clear hr hp hx
 go_enter Tryz.func79,Tryz.ntmps79
 go_wp2_with fail
 go_loopw [6] (fun i wr => ∃ k:Nat,k≤p.length∧i=.int .i64 k∧Grew (w.alloc (.cells #[.int .i64 x.1,.int .i64 x.2] 27)) wr∧Hid (∀ j,j < k→0≤cr (at' p j) (at' p ((j+1) % p.length)) x)) (fun i _ => p.length - (intOf i).toNat)
 case atStart => exact ⟨0,Nat.zero_le _,rfl,Grew.refl _,Lib.hid (fun j hj => by omega)⟩
 case round =>
  obtain ⟨k,hk,rfl,G,D⟩:=hrel
  clear d1 d2
  by_cases hlt:k < p.length
  ·obtain ⟨m,hm⟩:∃ m,(k+1) % p.length=m:=⟨_,rfl⟩
   have hmm:m < p.length:=by rw [← hm];exact Nat.mod_lt _ (by omega)
   have TM':((k:Int)+1).tmod (p.length:Int)=(m:Int):=by
    rw [← hm,Int.natCast_emod,Int.natCast_add]
    exact Int.tmod_eq_emod_of_nonneg (by omega)
   have WK':IntKind.i64.wrap ((k:Int)+1)=(k:Int)+1:=IntWalk.i64_in _ ⟨by omega,by omega⟩
   have TM2:((k:Int)+1) % (p.length:Int)=(m:Int):=by rw [← TM'];exact (Int.tmod_eq_emod_of_nonneg (by omega)).symm
   have nz:(p.length:Int) ≠ 0:=by omega
   have nz2:((p.length:Int) == 0)=false:=by rw [beq_eq_false_iff_ne];omega
   have nz3:¬ p.length=0:=by omega
   have k0:(0:Int)≤(k:Int)+1:=by omega
   have HM:=Lib.hid hm
   clear hm
   obtain ⟨s0,s1⟩:=(HR.out.grown G).2 k hlt
   obtain ⟨s2,s3⟩:=(HR.out.grown G).2 m hmm
   have hb:=(HR.out.grown G).1
   have x0:wr.cell? ⟨w.heap.size,0,none⟩=some (.int .i64 x.1):=(Grew.cell G (by simp)).trans (by simp [go_sem])
   have x1:wr.cell? ⟨w.heap.size,1,none⟩=some (.int .i64 x.2):=(Grew.cell G (by simp)).trans (by simp [go_sem])
   have y0:w.heap.size < wr.heap.size:=by have:=G.size;simp at this;omega
   have i0:(0:Int)≤(k:Int):=by omega
   have i1:(k:Int) < (p.length:Int):=by omega
   have i2:(m:Int) < (p.length:Int):=by omega
   have hb1:b < wr.heap.size+1:=by omega
   have hb2:b < wr.heap.size+1+1:=by omega
   have y1:w.heap.size < wr.heap.size+1:=by omega
   have y2:w.heap.size < wr.heap.size+1+1:=by omega
   obtain ⟨z,hz⟩:∃ z,cr (at' p k) (at' p m) x=z:=⟨_,rfl⟩
   have CX:Hid (∀ w,Calls Tryz.prog 121 #[.agg #[.int .i64 (at' p k).1,.int .i64 (at' p k).2],.agg #[.int .i64 (at' p m).1,.int .i64 (at' p m).2],.agg #[.int .i64 x.1,.int .i64 x.2]] w fun e w' => e=.returned (.int .i64 z)∧((w.alloc (.cells #[.int .i64 (at' p k).1,.int .i64 (at' p k).2] 27)).alloc (.cells #[.int .i64 (at' p m).1,.int .i64 (at' p m).2] 27)).alloc (.cells #[.int .i64 x.1,.int .i64 x.2] 27)=w'):=Lib.hid (fun w => by rw [← hz];exact cross_x _ _ _ w (PL.out k hlt) (PL.out m hmm) HX.out)
   have HZ:=Lib.hid hz
   clear hz
   by_cases hc:z < 0
   ·go_wp2_with fail
    go_region_held3 (fun w' => w'.cell? ⟨b,o+k * 2,none⟩=some (.int .i64 (at' p k).1)∧w'.cell? ⟨b,o+k * 2+1,none⟩=some (.int .i64 (at' p k).2)∧w'.cell? ⟨b,o+m * 2,none⟩=some (.int .i64 (at' p m).1)∧w'.cell? ⟨b,o+m * 2+1,none⟩=some (.int .i64 (at' p m).2)∧w'.cell? ⟨w.heap.size,0,none⟩=some (.int .i64 x.1)∧w'.cell? ⟨w.heap.size,1,none⟩=some (.int .i64 x.2)) (simp [go_sem,hb,hb1,hb2,s0,s1,s2,s3,x0,x1,y0,y1,y2])
     (first | (go_at_call 121;refine (CX.out _).mono ?_;rintro e w' ⟨rfl,rfl⟩))
    clear TM' WK' TM2
    go_wp2_with fail
    go_ret
    exact Tells.no (fun h => by
     have:=HS.out.1 h k hlt
     rw [HM.out,HZ.out] at this
     omega) rfl (Grew.trans (Grew.alloc (Grew.refl _) _ _) (by repeat' (first|(with_reducible first|exact Grew.refl _|assumption|refine Grew.alloc ?_ _ _|refine Grew.drew ?_|refine Grew.drewN ?_ _|refine Grew.setCell ?_ ?_ _)|go_size)))
   ·have hc':0≤z:=by omega
    clear hc
    have E2:Hid (∀ j,j < k+1→0≤cr (at' p j) (at' p ((j+1) % p.length)) x):=Lib.hid (fun j hj => by
     by_cases e:j=k
     ·rw [e,HM.out,HZ.out];exact hc'
     ·exact D.out j (by omega))
    go_wp2_with fail
    go_region_held3 (fun w' => w'.cell? ⟨b,o+k * 2,none⟩=some (.int .i64 (at' p k).1)∧w'.cell? ⟨b,o+k * 2+1,none⟩=some (.int .i64 (at' p k).2)∧w'.cell? ⟨b,o+m * 2,none⟩=some (.int .i64 (at' p m).1)∧w'.cell? ⟨b,o+m * 2+1,none⟩=some (.int .i64 (at' p m).2)∧w'.cell? ⟨w.heap.size,0,none⟩=some (.int .i64 x.1)∧w'.cell? ⟨w.heap.size,1,none⟩=some (.int .i64 x.2)) (simp [go_sem,hb,hb1,hb2,s0,s1,s2,s3,x0,x1,y0,y1,y2])
     (first | (go_at_call 121;refine (CX.out _).mono ?_;rintro e w' ⟨rfl,rfl⟩))
    clear TM' WK' TM2
    go_wp2_with fail
    go_roundw
    case rel => exact ⟨k+1,by omega,by go_num,by (repeat' (first | (with_reducible exact Grew.refl _) | (with_reducible assumption) | (with_reducible refine Grew.alloc ?_ _ _) | (with_reducible refine Grew.drew ?_) | (with_reducible refine Grew.drewN ?_ _) | (with_reducible refine Grew.setCell ?_ ?_ _) | go_size)),E2⟩
    case measure => simp [intOf];omega
  ·go_wp2_with fail
   go_ret
   exact Tells.yes (HS.out.2 (fun j hj => D.out j (by omega))) rfl (Grew.trans (Grew.alloc (Grew.refl _) _ _) G)
theorem inside_any (p:List Pt) (x:Pt) (b o c:Nat) (w:World) (hr:Row w b o p) (hp:Plcs p) (hx:Plc x) (h1:1≤p.length) (h2:p.length≤9223372036854775807):Calls Tryz.prog 79 #[.slice (some ⟨b,o,none⟩) p.length c,.agg #[.int .i64 x.1,.int .i64 x.2]] w (Tells (Hs p x) w):=by
 by_cases e1:p.length=1
 ·exact inside_one p x b o c w hr e1
 ·by_cases e2:p.length=2
  ·by_cases hz:cr (at' p 0) (at' p 1) x=0
   ·exact inside_two_on p x b o c w hr hp hx e2 hz
   ·exact inside_two_off p x b o c w hr hp hx e2 hz
  ·exact inside_many p x b o c w hr hp hx (by omega) h2
end Hl
end Go.Proofs.YtlookcbokhknfaaGreat
namespace Go.Proofs.YtlookcbokhknfaaGreat
open Go.RowKit
namespace Hl
def Sl (w:World) (v:Value) (p:List Pt):Prop:=(p=[]∧∃ a c,v=.slice a 0 c)∨∃ b o c,v=.slice (some ⟨b,o,none⟩) p.length c∧Row w b o p
theorem Sl.grown {w w':World} {v:Value} {p:List Pt} (h:Sl w v p) (g:Grew w w'):Sl w' v p:=by
 rcases h with h | ⟨b,o,c,h,k⟩
 ·exact Or.inl h
 ·exact Or.inr ⟨b,o,c,h,k.grown g⟩
theorem same_rows (p q:List Pt) (b o c b' o' c':Nat) (w:World) (hp:Row w b o p) (hq:Row w b' o' q) (hl:p.length=q.length) (hm:p.length≤9223372036854775807):Calls Tryz.prog 44 #[.slice (some ⟨b,o,none⟩) p.length c,.slice (some ⟨b',o',none⟩) q.length c'] w (Tells (p=q) w):=by
 have HP:=Lib.hid hp
 have HQ:=Lib.hid hq
 have HL:=Lib.hid hl
 rw [← hl]
 clear hp hq hl
 go_enter Tryz.func44,Tryz.ntmps44
 go_wp2_with fail
 go_loopw [5] (fun i wr => ∃ k:Nat,k≤p.length∧i=.int .i64 k∧(∃ n,wr=w.drewN n)∧Hid (∀ j,j < k→at' p j=at' q j)) (fun i _ => p.length - (intOf i).toNat)
 case atStart => exact ⟨0,Nat.zero_le _,rfl,⟨0,rfl⟩,Lib.hid (fun j hj => by omega)⟩
 case round =>
  obtain ⟨k,hk,rfl,⟨n,rfl⟩,D⟩:=hrel
  by_cases hlt:k < p.length
  ·obtain ⟨s0,s1⟩:=HP.out.2 k hlt
   obtain ⟨s2,s3⟩:=HQ.out.2 k (by have:=HL.out;omega)
   have i0:(0:Int)≤(k:Int):=by omega
   have i1:(k:Int) < (p.length:Int):=by omega
   obtain ⟨⟨y1,y2⟩,hy⟩:∃ y,at' p k=y:=⟨_,rfl⟩
   obtain ⟨⟨z1,z2⟩,hz⟩:∃ z,at' q k=z:=⟨_,rfl⟩
   rw [hy] at s0 s1
   rw [hz] at s2 s3
   have HY:=Lib.hid hy
   have HZ:=Lib.hid hz
   clear hy hz
   simp only at s0 s1 s2 s3
   by_cases e1:y1=z1
   ·by_cases e2:y2=z2
    ·subst e1 e2
     have E:Hid (∀ j,j < k+1→at' p j=at' q j):=Lib.hid (fun j hj => by
      by_cases e:j=k
      ·rw [e,HY.out,HZ.out]
      ·exact D.out j (by omega))
     go_wp2_with fail
     go_quiet (fail)
     go_wp2_with fail
     go_roundw
     case rel => exact ⟨k+1,by omega,by go_num,⟨_,rfl⟩,E⟩
     case measure => simp [intOf];omega
    ·have N:Hid (¬ p=q):=Lib.hid (fun h => by
      have:=HY.out
      rw [h,HZ.out] at this
      exact e2 (congrArg Prod.snd this).symm)
     subst e1
     go_wp2_with fail
     go_quiet (fail)
     go_wp2_with fail
     go_ret
     exact Tells.no N.out rfl (by repeat' (first|(with_reducible first|exact Grew.refl _|assumption|refine Grew.alloc ?_ _ _|refine Grew.drew ?_|refine Grew.drewN ?_ _|refine Grew.setCell ?_ ?_ _)|go_size))
   ·have N:Hid (¬ p=q):=Lib.hid (fun h => by
     have:=HY.out
     rw [h,HZ.out] at this
     exact e1 (congrArg Prod.fst this).symm)
    go_wp2_with fail
    go_quiet (fail)
    go_wp2_with fail
    go_ret
    exact Tells.no N.out rfl (by repeat' (first|(with_reducible first|exact Grew.refl _|assumption|refine Grew.alloc ?_ _ _|refine Grew.drew ?_|refine Grew.drewN ?_ _|refine Grew.setCell ?_ ?_ _)|go_size))
  ·go_wp2_with fail
   go_ret
   exact Tells.yes (ext_at HL.out (fun i hi => D.out i (by omega))) rfl (by repeat' (first|(with_reducible first|exact Grew.refl _|assumption|refine Grew.alloc ?_ _ _|refine Grew.drew ?_|refine Grew.drewN ?_ _|refine Grew.setCell ?_ ?_ _)|go_size))
theorem len_nil {p:List Pt} (h:p.length=0):p=[]:=List.length_eq_zero_iff.1 h
theorem same_far (p q:List Pt) (n m:Nat) (v v':Value) (w:World) (hv:(∃ a c,v=.slice a n c)∧∃ a c,v'=.slice a m c) (hn:¬ p=q) (h:n ≠ m):Calls Tryz.prog 44 #[v,v'] w (Tells (p=q) w):=by
 obtain ⟨⟨a,c,rfl⟩,⟨a',c',rfl⟩⟩:=hv
 have H:=Lib.hid hn
 have d1:((n:Int) != (m:Int))=true:=by rw [bne_iff_ne];omega
 have d2:((n:Int) == (m:Int))=false:=by rw [beq_eq_false_iff_ne];omega
 clear hn h
 go_enter Tryz.func44,Tryz.ntmps44
 go_wp2_with fail
 go_ret
 exact Tells.no H.out rfl (Grew.refl _)
theorem same_zero (v v':Value) (w:World) (hv:(∃ a c,v=.slice a 0 c)∧∃ a c,v'=.slice a 0 c):Calls Tryz.prog 44 #[v,v'] w (Tells (([]:List Pt)=[]) w):=by
 obtain ⟨⟨a,c,rfl⟩,⟨a',c',rfl⟩⟩:=hv
 have H:=Lib.hid (rfl:([]:List Pt)=[])
 go_enter Tryz.func44,Tryz.ntmps44
 go_wp2_with fail
 refine wp_loop_rounds 1 ?_
 rw [rounds_succ]
 go_wp2_with fail
 go_ret
 exact Tells.yes H.out rfl (Grew.refl _)
theorem Sl.shape {w:World} {v:Value} {p:List Pt} (h:Sl w v p):∃ a c,v=.slice a p.length c:=by
 rcases h with ⟨rfl,a,c,rfl⟩ | ⟨b,o,c,rfl,_⟩
 ·exact ⟨a,c,rfl⟩
 ·exact ⟨_,_,rfl⟩
theorem same_any (p q:List Pt) (v v':Value) (w:World) (hp:Sl w v p) (hq:Sl w v' q) (hm:p.length≤9223372036854775807):Calls Tryz.prog 44 #[v,v'] w (Tells (p=q) w):=by
 by_cases hl:p.length=q.length
 ·by_cases h0:p.length=0
  ·obtain ⟨a,c,e1⟩:=hp.shape
   obtain ⟨a',c',e2⟩:=hq.shape
   rw [h0] at e1
   rw [← hl,h0] at e2
   have e3:=len_nil h0
   have e4:=len_nil (hl ▸ h0)
   subst e3 e4
   exact same_zero v v' w ⟨⟨a,c,e1⟩,⟨a',c',e2⟩⟩
  ·rcases hp with ⟨e,_⟩ | ⟨b,o,c,e1,hr⟩
   ·rw [e] at h0;exact absurd rfl h0
   ·rcases hq with ⟨e,_⟩ | ⟨b',o',c',e2,hr'⟩
    ·rw [e] at hl;exact absurd hl h0
    ·rw [e1,e2];exact same_rows p q b o c b' o' c' w hr hr' hl hm
 ·exact same_far p q p.length q.length v v' w ⟨hp.shape,hq.shape⟩ (fun h => hl (by rw [h])) hl
end Hl
end Go.Proofs.YtlookcbokhknfaaGreat
