/-
  The landed package ring: half-planes by a closure, a view that cuts itself, what a place is.
  A range over an iterator that says something of the world before each round, with a body that may return.
  The landed package ring: the sectors that are ranged over.
-/
import Derived.Test.YtbpgfenippiepaaGreatDoorRngPlainB
import Derived.Test.YtbpgfenippiepaaGreatDoorHullCa
import Derived.Test.YtbpgfenippiepaaGreatDoorMinkSeq
namespace Go.Proofs.YtbpgfenippiepaaGreatDoor
open Go.RowKit Go.Shelf Hl
attribute [local go_sem] Oper.semAt_some
namespace Rn
open Rg (Rgn VlR AnsR Rl CutP nth IsHd)
open Ct (Hf)
theorem blk3f {W:World} {B:Nat} {x y z:Value} {t:TypeId} (h:Blk W B #[x,y,z] t):(W.cell? ⟨B,0,none⟩=some x∧W.cell? ⟨B,1,none⟩=some y∧W.cell? ⟨B,2,none⟩=some z)∧W.frozen? ⟨B,0,none⟩=false∧W.frozen? ⟨B,1,none⟩=false∧W.frozen? ⟨B,2,none⟩=false:=by simp [World.cell?,World.frozen?,show W.heap[B]? = _ from h]
def Apt (w:World) (cs:Array Value):Prop:=(∀ (j:Nat) (u:Value) (p:List Pt),cs[j]? = some u→0 < p.length→¬ Sl w u p)∧∀ (j:Nat) (a b:Int),cs[j]? = some (.int .i64 a)→cs[j+1]? = some (.int .i64 b)→False
theorem blk_cell {w:World} {B j:Nat} {cs:Array Value} {t:TypeId} {u:Value} (h:Blk w B cs t) (e:w.cell? ⟨B,j,none⟩=some u):cs[j]? = some u:=by
 simpa [World.cell?,show w.heap[B]? = _ from h] using e
theorem sl_set {w:World} {B j:Nat} {cs:Array Value} {t:TypeId} {u z:Value} {p:List Pt} (hB:Blk w B cs t) (ha:Apt w cs) (h:Sl w u p):Sl (w.setCell ⟨B,j,none⟩ z) u p:=by
 obtain ⟨rfl,a,c,rfl⟩ | ⟨b,o,c,rfl,hr⟩:=h
 ·exact Or.inl ⟨rfl,a,c,rfl⟩
 ·by_cases h0:0 < p.length
  ·have ne:b ≠ B:=fun e => by
    subst e
    exact ha.2 _ _ _ (blk_cell hB (hr.2 0 h0).1) (blk_cell hB (hr.2 0 h0).2)
   have g:=gb_set w B j z
   exact Or.inr ⟨b,o,c,rfl,Nat.lt_of_lt_of_le hr.1 g.size,fun i hi => ⟨World.grownBy.cell g (hr.2 i hi).1 (fun e => ne (Option.some.inj e)),World.grownBy.cell g (hr.2 i hi).2 (fun e => ne (Option.some.inj e))⟩⟩
  ·have e:p=[]:=List.length_eq_zero_iff.1 (by omega)
   subst e
   exact Or.inl ⟨rfl,_,_,rfl⟩
theorem rl_set {w:World} {B j:Nat} {cs:Array Value} {t:TypeId} {v z:Value} {L:Rgn} (hB:Blk w B cs t) (ha:Apt w cs) (h:Rl w v L) (hp:∀ p,p ∈ L→0 < p.length):Rl (w.setCell ⟨B,j,none⟩ z) v L:=by
 obtain ⟨h | ⟨b,o,c,rfl,hb,hr⟩,hd⟩:=h
 ·exact ⟨Or.inl h,hd⟩
 ·refine ⟨Or.inr ⟨b,o,c,rfl,Nat.lt_of_lt_of_le hb (gb_set w B j z).size,fun i hi => ?_⟩,hd⟩
  obtain ⟨u,e,s⟩:=hr i hi
  have ne:b ≠ B:=fun h => by
   subst h
   exact ha.1 _ _ _ (blk_cell hB e) (hp _ (Rg.nth_mem hi)) s
  exact ⟨u,World.grownBy.cell (gb_set w B j z) e (fun e => ne (Option.some.inj e)),sl_set hB ha s⟩
theorem rl_not {w:World} {v:Value} {L:Rgn} (h:Rl w v L) (h0:0 < L.length) {p:List Pt} (hp:0 < p.length):¬ Sl w v p:=fun s => by
 obtain ⟨e,_⟩ | ⟨b,o,c,rfl,hr⟩:=s
 ·rw [e] at hp;cases hp
 ·obtain ⟨b',o',e,hb,hR⟩:=h.row h0
  injection e with e
  injection e with e1 e2
  subst e1 e2
  obtain ⟨u,e,s⟩:=hR 0 h0
  have k:=(hr.2 0 hp).1
  rw [Nat.zero_mul,e] at k
  obtain ⟨a,n,rfl⟩:=s.shape
  injection k with k
  cases k
theorem mul_small {a x:Int} (ha:-1000≤a∧a≤1000) (hx:-500000≤x∧x≤500000):-500000000≤a * x∧a * x≤500000000:=by
 have h:(a * x).natAbs≤1000 * 500000:=by
  rw [Int.natAbs_mul]
  exact Nat.mul_le_mul (by omega) (by omega)
 omega
theorem halves1_c (x:Pt) (a b:Int) (X:Nat) (w:World) (hx:Plc x) (ha:-1000≤a∧a≤1000) (hb:-1000≤b∧b≤1000) (hX:Blk w X #[.int .i64 x.1,.int .i64 x.2] 24) :
  Calls Tryz.prog 80 (#[.int .i64 a,.int .i64 b] ++ #[.pointer (some ⟨X,0,none⟩)]) w fun e w' => e=.returned (.agg #[.int .i64 a,.int .i64 b,.int .i64 (a * x.1+b * x.2)])∧Grew w w':=by
 have m1:=mul_small ha hx.1
 have m2:=mul_small hb hx.2
 have W1:RowKit.wrap64 (a * x.1)=a * x.1:=IntWalk.wrap64_in _ ⟨by omega,by omega⟩
 have W2:RowKit.wrap64 (b * x.2)=b * x.2:=IntWalk.wrap64_in _ ⟨by omega,by omega⟩
 have W3:RowKit.wrap64 (a * x.1+b * x.2)=a * x.1+b * x.2:=IntWalk.wrap64_in _ ⟨by omega,by omega⟩
 obtain ⟨⟨x0,x1⟩,_,_⟩:=hX.two
 have lX:=hX.lt
 have lX1:X < w.heap.size+1:=by omega
 have nX:¬ X=w.heap.size:=by omega
 simp only [List.append_toArray,List.cons_append,List.nil_append]
 clear m1 m2
 go_enter Tryz.func80,Tryz.ntmps80
 go_wp2_with fail
 refine bodyPost_ret (v:=.agg #[.int .i64 a,.int .i64 b,.int .i64 (a * x.1+b * x.2)]) (by simp [results,Tryz.results80,go_sem,W1,W2,W3]) rfl ⟨rfl,gw⟩
theorem halves_c (x:Pt) (w:World):Calls Tryz.prog 43 #[.agg #[.int .i64 x.1,.int .i64 x.2]] w fun e w' => e=.returned (.func (.func 80) #[] #[.pointer (some ⟨w.heap.size,0,none⟩)])∧w.alloc (.cells #[.int .i64 x.1,.int .i64 x.2] 24)=w':=by
 go_enter Tryz.func43,Tryz.ntmps43
 go_wp2_with fail
 go_ret
 exact ⟨rfl,rfl⟩
def vwA (v:Value) (k:Int) (X:Nat):Array Value:=#[v,.int .i64 k,.func (.func 80) #[] #[.pointer (some ⟨X,0,none⟩)]]
theorem vw_apt {w:World} {a:Option Addr} {n c:Nat} {k:Int} {X:Nat} (h:∀ p,0 < p.length→¬ Sl w (.slice a n c) p):Apt w (vwA (.slice a n c) k X):=by
 have no:∀ (u:Value) (p:List Pt),(∀ a n c,u ≠ .slice a n c)→¬ Sl w u p:=fun u p hu s => by
  obtain ⟨a,c,e⟩:=s.shape
  exact hu _ _ _ e
 refine ⟨fun j u p e hp => ?_,fun j x y e1 e2 => ?_⟩
 ·unfold vwA at e
  match j with
  | 0 => obtain rfl:Value.slice a n c=u:=by simpa using e
         exact h p hp
  | 1 => obtain rfl:Value.int .i64 k=u:=by simpa using e
         exact no _ p (fun _ _ _ e => by cases e)
  | 2 => obtain rfl:Value.func (.func 80) #[] #[.pointer (some ⟨X,0,none⟩)]=u:=by simpa using e
         exact no _ p (fun _ _ _ e => by cases e)
  | j+3 => simp at e
 ·unfold vwA at e1 e2
  match j with
  | 0 => simp at e1
  | 1 => simp at e2
  | 2 => simp at e2
  | j+3 => simp at e1
theorem cutp_vl {L r:Rgn} {h:Hf} {k:Int} (g:CutP L h k r):VlR r∧r.length≤L.length:=by
 rcases g with ⟨_,_,rfl⟩ | ⟨b,_,c,hc,ht⟩
 ·exact ⟨⟨by simp,fun p hp => (by cases hp)⟩,Nat.zero_le _⟩
 ·exact ⟨Rg.tidy_vl (Rg.cut_vl b.1.2 hc) ht,Nat.le_trans (Rg.tidy_len ht) (Rg.cut_len hc)⟩
def CutS (L:Rgn) (h:Hf) (B X:Nat) (w:World) (e:Ending) (w':World):Prop:=e=.returned (.tuple #[])∧∃ v k r,CutP L h k r∧Blk w' B (vwA v k X) 73∧Rl w' v r∧Hl.Leaves w.heap.size B w w'
set_option maxRecDepth 100000 in
set_option maxHeartbeats 8000000 in
theorem cut_go (N:∀ (L:Rgn) (h:Hf) (v:Value) (w:World),Rl w v L→Calls Tryz.prog 81 #[v,.agg #[.int .i64 h.1,.int .i64 h.2.1,.int .i64 h.2.2]] w (AnsR (CutP L h) w)) (L:Rgn) (x:Pt) (a b:Int) (B X:Nat) (v:Value) (w:World) (hx:Plc x) (ha:-1000≤a∧a≤1000) (hb:-1000≤b∧b≤1000) (hX:Blk w X #[.int .i64 x.1,.int .i64 x.2] 24) (hB:Blk w B (vwA v 0 X) 73) (hr:Rl w v L) :
  Calls Tryz.prog 44 #[.pointer (some ⟨B,0,none⟩),.int .i64 a,.int .i64 b] w (CutS L (a,b,a * x.1+b * x.2) B X w):=by
 have HC:=Lib.hid (fun W (g:Grew w W) => halves1_c x a b X W hx ha hb (hX.grown g))
 simp only [List.append_toArray,List.cons_append,List.nil_append] at HC
 have CC:=Lib.hid (fun W (g:Grew w W) => N L (a,b,a * x.1+b * x.2) v W (hr.grown g))
 have RL:=Lib.hid hr
 have BV:=Lib.hid hB
 obtain ⟨va,vc,rfl⟩:=hr.shape
 obtain ⟨vn,hvn⟩:∃ n,L.length=n:=⟨_,rfl⟩
 rw [hvn] at CC BV RL hB
 have LN:=Lib.hid hvn
 simp only at CC
 unfold vwA at BV hB
 obtain ⟨⟨c0,c1,c2⟩,q0,q1,q2⟩:=blk3f hB
 have lB:=hB.lt
 generalize a * x.1+b * x.2=c at *
 clear hr hB hX hx ha hb hvn N q0 q1 q2
 go_enter Tryz.func44,Tryz.ntmps44
 go_wp2_with fail
 refine Bar.begin_ (S:=(fun w' => w'.cell? ⟨B,0,none⟩=some (.slice va vn vc)∧w'.cell? ⟨B,1,none⟩=some (.int .i64 0)∧w'.cell? ⟨B,2,none⟩=some (.func (.func 80) #[] #[.pointer (some ⟨X,0,none⟩)]))) 21 (by kernel_rfl) (by simp [go_sem, *]) (fun hHeld => ?_)
 refine Bar.Walk.takeY (i:=0) (oi:=⟨some 13,_,_,_,_,_⟩) (v:=?_) rfl (by kernel_rfl) (by kernel_rfl) (by kernel_rfl) rfl (fun _ _ _ h => h) (Or.inl ⟨by rfl,?_⟩) (by assumption) ?_
 rotate_left
 ·intro w;go_simp;(try with_reducible rfl)
 try simp only [Act.put,List.setIfInBounds_toArray,List.set_cons_zero,List.set_cons_succ]
 refine Bar.Walk.takeY (i:=1) (oi:=⟨some 14,_,_,_,_,_⟩) (v:=?_) rfl (by kernel_rfl) (by kernel_rfl) (by kernel_rfl) rfl (fun _ _ _ h => h) (Or.inl ⟨by rfl,?_⟩) (by assumption) ?_
 rotate_left
 ·intro w;go_simp;(try with_reducible rfl)
 try simp only [Act.put,List.setIfInBounds_toArray,List.set_cons_zero,List.set_cons_succ]
 refine Bar.Walk.takeY (i:=2) (oi:=⟨some 15,_,_,_,_,_⟩) (v:=?_) rfl (by kernel_rfl) (by kernel_rfl) (by kernel_rfl) rfl (fun _ _ _ h => h) (Or.inl ⟨by rfl,?_⟩) (by assumption) ?_
 rotate_left
 ·intro w;go_simp;(try with_reducible rfl)
 try simp only [Act.put,List.setIfInBounds_toArray,List.set_cons_zero,List.set_cons_succ]
 refine Bar.Walk.takeY (i:=3) (oi:=⟨some 16,_,_,_,_,_⟩) (v:=?_) rfl (by kernel_rfl) (by kernel_rfl) (by kernel_rfl) rfl (fun _ _ _ h => h) (Or.inl ⟨by rfl,?_⟩) (by assumption) ?_
 rotate_left
 ·intro w;go_simp;(try with_reducible rfl)
 try simp only [Act.put,List.setIfInBounds_toArray,List.set_cons_zero,List.set_cons_succ]
 refine Bar.Walk.takeY (i:=4) (oi:=⟨some 17,_,_,_,_,_⟩) (v:=?_) rfl (by kernel_rfl) (by kernel_rfl) (by kernel_rfl) rfl (fun _ _ _ h => h) (Or.inl ⟨by rfl,?_⟩) (by assumption) ?_
 rotate_left
 ·intro w;go_simp;(try with_reducible rfl)
 try simp only [Act.put,List.setIfInBounds_toArray,List.set_cons_zero,List.set_cons_succ]
 refine Bar.Walk.takeY (i:=5) (oi:=⟨some 18,_,_,_,_,_⟩) (v:=?_) rfl (by kernel_rfl) (by kernel_rfl) (by kernel_rfl) rfl (fun _ _ _ h => h) (Or.inl ⟨by rfl,?_⟩) (by assumption) ?_
 rotate_left
 ·intro w;go_simp;(try with_reducible rfl)
 try simp only [Act.put,List.setIfInBounds_toArray,List.set_cons_zero,List.set_cons_succ]
 refine Bar.Walk.take [21] (i:=6) (oi:=⟨some 19,_,_,_,_,_⟩) (v:=?_) rfl (by kernel_rfl) (by kernel_rfl) (by kernel_rfl) (by kernel_rfl) (fun _ _ _ h => h) (Or.inl ⟨by rfl,?_⟩) (by assumption) ?_
 rotate_left
 ·intro w hSw;(try dsimp only at hSw);go_simp;(try with_reducible rfl)
 try simp only [Act.put,List.setIfInBounds_toArray,List.set_cons_zero,List.set_cons_succ]
 refine Bar.Walk.takeY (i:=7) (oi:=⟨some 20,_,_,_,_,_⟩) (v:=?_) rfl (by kernel_rfl) (by kernel_rfl) (by kernel_rfl) rfl (fun _ _ _ h => h) (Or.inl ⟨by rfl,?_⟩) (by assumption) ?_
 rotate_left
 ·intro w;go_simp;(try with_reducible rfl)
 try simp only [Act.put,List.setIfInBounds_toArray,List.set_cons_zero,List.set_cons_succ]
 refine Bar.Walk.takeY (i:=8) (oi:=⟨some 21,_,_,_,_,_⟩) (v:=?_) rfl (by kernel_rfl) (by kernel_rfl) (by kernel_rfl) rfl (fun _ _ _ h => h) (Or.inl ⟨by rfl,?_⟩) (by assumption) ?_
 rotate_left
 ·intro w;go_simp;(try with_reducible rfl)
 try simp only [Act.put,List.setIfInBounds_toArray,List.set_cons_zero,List.set_cons_succ]
 refine Bar.Walk.takeY (i:=9) (oi:=⟨some 22,_,_,_,_,_⟩) (v:=?_) rfl (by kernel_rfl) (by kernel_rfl) (by kernel_rfl) rfl (fun _ _ _ h => h) (Or.inl ⟨by rfl,?_⟩) (by assumption) ?_
 rotate_left
 ·intro w;go_simp;(try with_reducible rfl)
 try simp only [Act.put,List.setIfInBounds_toArray,List.set_cons_zero,List.set_cons_succ]
 refine Bar.Walk.take [21] (i:=10) (oi:=⟨some 23,_,_,_,_,_⟩) (v:=?_) rfl (by kernel_rfl) (by kernel_rfl) (by kernel_rfl) (by kernel_rfl) (fun _ _ _ h => h) (Or.inl ⟨by rfl,?_⟩) (by assumption) ?_
 rotate_left
 ·intro w hSw;(try dsimp only at hSw);go_simp;(try with_reducible rfl)
 try simp only [Act.put,List.setIfInBounds_toArray,List.set_cons_zero,List.set_cons_succ]
 refine Bar.Walk.takeY (i:=11) (oi:=⟨some 24,_,_,_,_,_⟩) (v:=?_) rfl (by kernel_rfl) (by kernel_rfl) (by kernel_rfl) rfl (fun _ _ _ h => h) (Or.inl ⟨by rfl,?_⟩) (by assumption) ?_
 rotate_left
 ·intro w;go_simp;(try with_reducible rfl)
 try simp only [Act.put,List.setIfInBounds_toArray,List.set_cons_zero,List.set_cons_succ]
 refine Bar.Walk.takeY (i:=12) (oi:=⟨some 25,_,_,_,_,_⟩) (v:=?_) rfl (by kernel_rfl) (by kernel_rfl) (by kernel_rfl) rfl (fun _ _ _ h => h) (Or.inl ⟨by rfl,?_⟩) (by assumption) ?_
 rotate_left
 ·intro w;go_simp;(try with_reducible rfl)
 try simp only [Act.put,List.setIfInBounds_toArray,List.set_cons_zero,List.set_cons_succ]
 refine Bar.Walk.step (i:=13) (o:=⟨some 26,_,_,_,_,_⟩) (by kernel_rfl) rfl (fun K hK => ?_)
 go_simp
 refine (HC.out _ (Grew.drew (Grew.refl _))).mono ?_
 rintro e w1 ⟨rfl,g1⟩
 have G1:=Lib.hid (Grew.trans (Grew.drew (Grew.refl w)) g1)
 have B1:=BV.out.grown G1.out
 obtain ⟨⟨k0,k1,k2⟩,f0,f1,f2⟩:=blk3f B1
 clear g1
 go_wp2_with fail
 refine hK.out _ _ (by (try dsimp only);simp [go_sem, *]) (fun h1 => ?_)
 clear hK K hHeld
 have hHeld:=h1
 clear h1
 try simp only [Act.put,List.setIfInBounds_toArray,List.set_cons_zero,List.set_cons_succ]
 refine Bar.Walk.step (i:=14) (o:=⟨some 27,_,_,_,_,_⟩) (by kernel_rfl) rfl (fun K hK => ?_)
 go_simp
 refine (CC.out _ G1.out).mono ?_
 rintro e w2 ⟨u,k,r,hp,rfl,hr,g2⟩
 have G2:=Lib.hid (Grew.trans G1.out g2)
 have R2:=Lib.hid hr
 have HP:=Lib.hid hp
 have B2:=BV.out.grown G2.out
 obtain ⟨⟨k0,k1,k2⟩,f0,f1,f2⟩:=blk3f B2
 have lB2:=B2.lt
 obtain ⟨ua,uc,rfl⟩:=hr.shape
 clear g2 hr hp
 go_wp2_with fail
 refine hK.out _ _ (by (try dsimp only);simp [go_sem, *]) (fun h1 => ?_)
 clear hK K hHeld
 have hHeld:=h1
 clear h1
 try simp only [Act.put,List.setIfInBounds_toArray,List.set_cons_zero,List.set_cons_succ]
 refine Bar.Walk.takeY (i:=15) (oi:=⟨some 12,_,_,_,_,_⟩) (v:=?_) rfl (by kernel_rfl) (by kernel_rfl) (by kernel_rfl) rfl (fun _ _ _ h => h) (Or.inl ⟨by rfl,?_⟩) (by assumption) ?_
 rotate_left
 ·intro w;go_simp;(try with_reducible rfl)
 try simp only [Act.put,List.setIfInBounds_toArray,List.set_cons_zero,List.set_cons_succ]
 refine Bar.Walk.takeY (i:=16) (oi:=⟨some 28,_,_,_,_,_⟩) (v:=?_) rfl (by kernel_rfl) (by kernel_rfl) (by kernel_rfl) rfl (fun _ _ _ h => h) (Or.inl ⟨by rfl,?_⟩) (by assumption) ?_
 rotate_left
 ·intro w;go_simp;(try with_reducible rfl)
 try simp only [Act.put,List.setIfInBounds_toArray,List.set_cons_zero,List.set_cons_succ]
 refine Bar.Walk.takeY (i:=17) (oi:=⟨some 29,_,_,_,_,_⟩) (v:=?_) rfl (by kernel_rfl) (by kernel_rfl) (by kernel_rfl) rfl (fun _ _ _ h => h) (Or.inl ⟨by rfl,?_⟩) (by assumption) ?_
 rotate_left
 ·intro w;go_simp;(try with_reducible rfl)
 try simp only [Act.put,List.setIfInBounds_toArray,List.set_cons_zero,List.set_cons_succ]
 refine Bar.Walk.takeY (i:=18) (oi:=⟨some 30,_,_,_,_,_⟩) (v:=?_) rfl (by kernel_rfl) (by kernel_rfl) (by kernel_rfl) rfl (fun _ _ _ h => h) (Or.inl ⟨by rfl,?_⟩) (by assumption) ?_
 rotate_left
 ·intro w;go_simp;(try with_reducible rfl)
 try simp only [Act.put,List.setIfInBounds_toArray,List.set_cons_zero,List.set_cons_succ]
 refine Bar.Walk.takeY (i:=19) (oi:=⟨some 31,_,_,_,_,_⟩) (v:=?_) rfl (by kernel_rfl) (by kernel_rfl) (by kernel_rfl) rfl (fun _ _ _ h => h) (Or.inl ⟨by rfl,?_⟩) (by assumption) ?_
 rotate_left
 ·intro w;go_simp;(try with_reducible rfl)
 try simp only [Act.put,List.setIfInBounds_toArray,List.set_cons_zero,List.set_cons_succ]
 refine Bar.Walk.takeY (i:=20) (oi:=⟨some 32,_,_,_,_,_⟩) (v:=?_) rfl (by kernel_rfl) (by kernel_rfl) (by kernel_rfl) rfl (fun _ _ _ h => h) (Or.inl ⟨by rfl,?_⟩) (by assumption) ?_
 rotate_left
 ·intro w;go_simp;(try with_reducible rfl)
 try simp only [Act.put,List.setIfInBounds_toArray,List.set_cons_zero,List.set_cons_succ]
 refine Bar.Walk.pass (o:=⟨none,_,_,_,_,_⟩) (by kernel_rfl) rfl (by kernel_rfl) (fun K hK => ?_)
 go_simp
 refine hK.out _ _ ?_
 clear hK K hHeld
 try simp only [Act.put,List.setIfInBounds_toArray,List.set_cons_zero,List.set_cons_succ]
 refine wpAny_take (i:=22) (oi:=⟨some 33,_,_,_,_,_⟩) (v:=?_) rfl (by kernel_rfl) (by kernel_rfl) (by kernel_rfl) (fun _ _ _ h => h) (Or.inl ⟨by rfl,?_⟩) ?_
 rotate_left
 ·intro w;go_simp;(try with_reducible rfl)
 try simp only [Act.put,List.setIfInBounds_toArray,List.set_cons_zero,List.set_cons_succ]
 refine wpAny_take (i:=23) (oi:=⟨some 34,_,_,_,_,_⟩) (v:=?_) rfl (by kernel_rfl) (by kernel_rfl) (by kernel_rfl) (fun _ _ _ h => h) (Or.inl ⟨by rfl,?_⟩) ?_
 rotate_left
 ·intro w;go_simp;(try with_reducible rfl)
 try simp only [Act.put,List.setIfInBounds_toArray,List.set_cons_zero,List.set_cons_succ]
 refine wpAny_take (i:=24) (oi:=⟨some 35,_,_,_,_,_⟩) (v:=?_) rfl (by kernel_rfl) (by kernel_rfl) (by kernel_rfl) (fun _ _ _ h => h) (Or.inl ⟨by rfl,?_⟩) ?_
 rotate_left
 ·intro w;go_simp;(try with_reducible rfl)
 try simp only [Act.put,List.setIfInBounds_toArray,List.set_cons_zero,List.set_cons_succ]
 refine Bar.any_step (i:=25) (o:=⟨none,_,_,_,_,_⟩) (by kernel_rfl) rfl (fun K hK => ?_)
 go_simp
 refine hK.out _ _ ?_
 clear hK K
 try simp only [Act.put,List.setIfInBounds_toArray,List.set_cons_zero,List.set_cons_succ]
 refine wpAny_done (by kernel_rfl) ?_ _
 go_wp2_with fail
 go_end0
 have PV:∀ p,p ∈ r→0 < p.length:=fun p hp => ((cutp_vl HP.out).1.2 p hp).1.1
 have B3:Blk (w2.setCell ⟨B,0,none⟩ (.slice ua r.length uc)) B (vwA (.slice ua r.length uc) 0 X) 73:=B2.set (o:=0) (.slice ua r.length uc)
 have B4:Blk ((w2.setCell ⟨B,0,none⟩ (.slice ua r.length uc)).setCell ⟨B,1,none⟩ (.int .i64 k)) B (vwA (.slice ua r.length uc) k X) 73:=B3.set (o:=1) (.int .i64 k)
 refine ⟨rfl,_,k,r,HP.out,B4,?_,(((Hl.Leaves.refl _ _ _).grew G2.out (Nat.le_refl _)).grown (gb_set _ B 0 _) G2.out.size (fun j e => by cases e;exact Or.inr rfl)).grown (gb_set _ B 1 _) (Nat.le_trans G2.out.size (gb_set w2 B 0 (.slice ua r.length uc)).size) (fun j e => by cases e;exact Or.inr rfl)⟩
 by_cases h0:r.length=0
 ·obtain rfl:=List.length_eq_zero_iff.1 h0
  exact Rl.nil _ _ _
 ·have L0:0 < L.length:=by have:=(cutp_vl HP.out).2;omega
  have s1:=rl_set (j:=0) (z:=.slice ua r.length uc) B2 (vw_apt (k:=0) (X:=X) (fun p hp => rl_not (RL.out.grown G2.out) L0 hp)) R2.out PV
  exact rl_set (j:=1) (z:=.int .i64 k) B3 (vw_apt (fun p hp => rl_not s1 (by omega) hp)) s1 PV
end Rn
end Go.Proofs.YtbpgfenippiepaaGreatDoor
namespace Go.Proofs.YtbpgfenippiepaaGreatDoor
open Go.RowKit
namespace Rq
open Sq (Book)
variable {F:Fence} {n:Nat} {P:Program} {α:Type}
def Runs (F:Fence) (n:Nat) (P:Program) (g:Nat) (lb:Array Value) (encs:α→Array Value) (Kp:World→World→Prop) (Ok:List α→α→World→Prop) (S:List α→Prop) (w:World):Prop :=
 ∀ (l:Nat) (J Jx:List α→World→Prop) (W:World),Below w.heap.size w W→AbidesFrom W.heap.size J→AbidesFrom W.heap.size Jx →
   (∀ pre x X,J pre X→Ok pre x X→YieldAt F (n - 1) P l (encs x) X fun e Y => (e=.returned (.bool true)∧J (pre ++ [x]) Y∧Kp X Y)∨(e=.returned (.bool false)∧Jx (pre ++ [x]) Y)) →
   J [] W→CallsIn F n P g (#[.func (.yield l) #[] #[]] ++ lb) W fun e Y => (∃ v,e=.returned v)∧((∃ xs,S xs∧J xs Y)∨∃ pre,Jx pre Y)
def Post (B:Nat) (Kp:World→World→Prop) (I Ix:List α→World→Prop) (s:List α) (W:World):Exit→Act→World→Prop
 | .normal,_,Y => KeepsFrom B W Y∧Kp W Y∧I s Y
 | .ret,_,Y => KeepsFrom B W Y∧Ix s Y
 | _,_,_ => False
theorem range_rets {g:Operand} {ps:Array Tmp} {assign body:Code} {Q:Exit→Act→World→Prop} {a:Act} {w:World}
  (hro:F.round=none) (h1:1≤n) {gf:Nat} {lb:Array Value} (hg:a.eval g=.func (.func gf) #[] lb) (hFg:F.fn gf) (eg:∀ args w,(callFunc gf args).run P w=.ok (.enter gf args) w)
  {encs:α→Array Value} {Kp:World→World→Prop} {Ok:List α→α→World→Prop} {S:List α→Prop} {w0:World} (hseq:Runs F (n - 1) P gf lb encs Kp Ok S w0)
  (hKt:∀ {X Y Z:World},Kp X Y→Kp Y Z→Kp X Z) (hKb:∀ (W:World) (l:Nat) (o o':Obj),w.heap.size≤l→W.heap[l]? = some o→o.isCells=false→Kp W (W.putObj l o')) (hb0:Below w0.heap.size w0 w) (hps:∀ x,(encs x).size=ps.size)
  (I Ix:List α→World→Prop) (hI:OwnFrom w.heap.size I) (hIx:OwnFrom w.heap.size Ix) (h0:I [] w)
  (Ax:List α→α→Act→World→Prop) (hAx:∀ pre x a',OwnFrom w.heap.size (fun (_:Unit) W => Ax pre x a' W))
  (hassign:∀ (l:Nat) (pre:List α) (x:α) (W:World) (K:Act→World→Prop),I pre W→Ok pre x W→(∀ a' Y,KeepsFrom w.heap.size W Y→Kp W Y→I pre Y→Ax pre x a' Y→K a' Y) →
   assign.wpIn (F.inRound l) (n - 1 - 1) P (Exit.then K (fun _ _ _ => False)) { tmps:=(ps.zip (encs x)).foldl (fun t (p,v) => t.setIfInBounds p v) a.tmps,defers:=[] } W)
  (hbody:∀ (l:Nat) (pre:List α) (x:α) (a':Act) (W:World),w.heap.size≤l→I pre W→Ax pre x a' W→body.wpIn (F.inRound l) (n - 1 - 1) P (Post w.heap.size Kp I Ix (pre ++ [x]) W) a' W)
  (hdone:∀ (D:Nat) (xs:List α) (W:World),w.heap.size≤D→S xs→I xs W→W.heap[D]? = some (.deferred (some []))→Q .normal { a with defers:={ target:=.collected D,args:=#[] } :: a.defers } W)
  (hstop:∀ (D:Nat) (pre:List α) (W:World),w.heap.size≤D→Ix pre W→W.heap[D]? = some (.deferred (some []))→Code.ret.wpIn F n P Q { a with defers:={ target:=.collected D,args:=#[] } :: a.defers } W) :
  (Code.rangeFunc g ps assign body).wpIn F n P Q a w:=by
 have put:∀ {I:List α→World→Prop} (_:OwnFrom w.heap.size I) {s:List α} {X:World} {r:Loop} (q:Loop),Book w.heap.size r X→I s X→I s (X.putObj (w.heap.size+1) (.loop q)):=fun {I} hI {s X r} q b h =>
  hI s X _ (some (w.heap.size+1)) h (grownBy_putObj' X _ _) (fun k e => by cases e;exact ⟨by omega,_,b.loop,rfl⟩)
 refine wpIn_rangeFunc fun fn hfn => ?_
 rw [hro]
 obtain ⟨q,hq⟩:∃ q:LoopState→Option Code→Loop,q=fun st pe => { state:=st,pending:=pe,fn,tmps:=a.tmps,params:=ps,assign,body,defers:=w.heap.size }:=⟨_,rfl⟩
 obtain ⟨W1,hW1⟩:∃ W1,(w.alloc (.deferred (some []))).alloc (.loop (q .ready none))=W1:=⟨_,rfl⟩
 have gW:w.grownBy W1 none:=by
  rw [← hW1]
  exact ⟨rfl,rfl,rfl,by simp;omega,fun k hk _ => (Below.heap_alloc _ _ k (by simp;omega)).trans (Below.heap_alloc _ _ k hk)⟩
 have b1:Book w.heap.size (q .ready none) W1:=by
  rw [← hW1]
  refine ⟨(Below.heap_alloc _ _ _ (by simp)).trans (World.alloc_heap_new w _),?_⟩
  have:=World.alloc_heap_new (w.alloc (.deferred (some []))) (.loop (q .ready none))
  rwa [World.size_alloc] at this
 have iW:I [] W1:=hI [] w W1 none h0 gW (fun _ e => by cases e)
 have sz:w.heap.size≤W1.heap.size:=gW.size
 have walks:∀ {X:World} {row:Option Nat},(∀ r,row=some r→W1.heap.size≤r∧∃ o:Obj,X.heap[r]? = some o∧o.isWalk=true)→∀ r,row=some r→w.heap.size≤r∧∃ o:Obj,X.heap[r]? = some o∧o.isCells=false:=fun hr r e => by
  obtain ⟨h2,o,ho,h3⟩:=hr r e
  exact ⟨Nat.le_trans sz h2,o,ho,Obj.not_cells_of_walk h3⟩
 have books:∀ {X Y:World} {row:Option Nat} {r:Loop},Book w.heap.size r X→X.grownBy Y row→(∀ r,row=some r→W1.heap.size≤r∧∃ o:Obj,X.heap[r]? = some o∧o.isWalk=true)→Book w.heap.size r Y:=fun hb hg hr => hb.grown hg (fun r e => by
  obtain ⟨_,o,ho,h3⟩:=hr r e
  exact ⟨o,ho,Or.inl h3⟩)
 refine ⟨w.heap.size+1,[{ target:=.collected w.heap.size,args:=#[] }],W1,{ target:=.fn (.func gf) lb,args:=#[.func (.yield (w.heap.size+1)) #[] #[]] },W1,gf,
  #[.func (.yield (w.heap.size+1)) #[] #[]] ++ lb,W1,?_,?_,?_,?_,fun _ => h1,?_⟩
 ·rw [← hW1,hq]
  exact run_enterLoop_outer _ _ _ _ _
 ·simp only [resolve,hg]
  simp [go_sem]
 ·intro f' hf'
  simp [Target.leads] at hf'
  subst hf'
  exact hFg
 ·simp [invoke,go_sem,eg]
 ·refine (hseq (w.heap.size+1) (fun pre W => I pre W∧Book w.heap.size (q .ready none) W) (fun pre W => Ix pre W∧Book w.heap.size (q .done (some .ret)) W) W1 (hb0.trans ((Below.refl w.heap.size w).grown gW (Nat.le_refl _) (fun _ e => by cases e) |>.mono hb0.size)) ?_ ?_ ?_ ⟨iW,b1⟩).mono ?_
  ·exact fun s X Y row hs hg hr => ⟨hI s X Y row hs.1 hg (walks hr),books hs.2 hg hr⟩
  ·exact fun s X Y row hs hg hr => ⟨hIx s X Y row hs.1 hg (walks hr),books hs.2 hg hr⟩
  ·-- one round
   rintro pre x W ⟨hi,hb⟩ hok
   have hy:=run_yield (P:=P) (args:=encs x) hb.loop (by rw [hq];exact hps x)
   rw [hq] at hy
   refine ⟨fn,_,assign,body,hy,roundIn_of_wpIn hfn (hassign _ pre x W _ hi hok fun a' Wa hkf hkp hia hax => ?_)⟩
   have hba:=hb.from hkf (Nat.le_refl _)
   have hb2:=hba.put (q .busy none)
   have hax2:=hAx pre x a' () Wa (Wa.putObj (w.heap.size+1) (.loop (q .busy none))) (some (w.heap.size+1)) hax (grownBy_putObj' Wa _ _) (fun k e => by cases e;exact ⟨by omega,_,hba.loop,rfl⟩)
   refine ⟨Wa.putObj (w.heap.size+1) (.loop (q .busy none)),?_,wpIn_mono (hbody _ pre x a' _ (by omega) (put hI _ hba hia) hax2) ?_⟩
   ·have:=run_beginRound (P:=P) hba.loop (by rw [hq])
    rw [hq] at this ⊢
    exact this
   ·rintro e a3 W3 hp
    cases e with
    | normal =>
      obtain ⟨hk3,hp3,hi3⟩:=hp
      have hb3:=hb2.from hk3 (Nat.le_refl _)
      refine ⟨.bool true,W3.putObj (w.heap.size+1) (.loop (q .ready none)),?_,.inl ⟨rfl,⟨put hI _ hb3 hi3,hb3.put _⟩,hKt hkp (hKt (hKb _ _ _ _ (by omega) hba.loop rfl) (hKt hp3 (hKb _ _ _ _ (by omega) hb3.loop rfl)))⟩⟩
      have:=run_endRound (P:=P) none hb3.loop
      rw [hq] at this ⊢
      exact this
    | ret =>
      obtain ⟨hk3,hi3⟩:=hp
      have hb3:=hb2.from hk3 (Nat.le_refl _)
      refine ⟨.bool false,W3.putObj (w.heap.size+1) (.loop (q .done (some .ret))),?_,.inr ⟨rfl,put hIx _ hb3 hi3,hb3.put _⟩⟩
      have:=run_endRound (P:=P) (some .ret) hb3.loop
      rw [hq] at this ⊢
      exact this
    | _ => exact hp.elim
  ·-- behind the iterator
   rintro e W2 ⟨⟨v,rfl⟩,(⟨xs,hS,hi,hb⟩ | ⟨pre,hi,hb⟩)⟩
   ·refine ⟨none,_,?_,hdone _ xs _ (Nat.le_refl _) hS (put hI (q .exhausted none) hb hi) ((World.putObj_heap_other (by omega)).trans hb.defs)⟩
    have:=run_endLoop (P:=P) hb.loop (by rw [hq];simp)
    rw [hq] at this ⊢
    exact this
   ·refine ⟨some .ret,_,?_,hstop _ pre _ (Nat.le_refl _) (put hIx (q .exhausted (some .ret)) hb hi) ((World.putObj_heap_other (by omega)).trans hb.defs)⟩
    have:=run_endLoop (P:=P) hb.loop (by rw [hq];simp)
    rw [hq] at this ⊢
    exact this
end Rq
end Go.Proofs.YtbpgfenippiepaaGreatDoor
namespace Go.Proofs.YtbpgfenippiepaaGreatDoor
open Go.RowKit Go.Shelf Hl
attribute [local go_sem] Oper.semAt_some
namespace Rn
open Rg (Rgn VlR AnsR Rl nth TidP)
theorem lv_cell {B C b o:Nat} {w w':World} (h:Hl.Leaves B C w w') (hg:b < B) (hc:b ≠ C):w'.cell? ⟨b,o,none⟩=w.cell? ⟨b,o,none⟩:=World.cell?_of_block (a:=⟨b,o,none⟩) (h.block b hg hc)
theorem gb_grew {X Y:World} (g:Grew X Y):X.grownBy Y none:=⟨g.os,g.tape,g.output,g.size,fun k hk _ => g.block k hk⟩
abbrev El:=Value × Int × List Pt
def encS (x:El):Array Value:=#[x.1,.int .i64 x.2.1]
def OkS (lo hi:Int) (pre:List El) (x:El) (W:World):Prop:=pre.length < 32∧Sl W x.1 x.2.2∧((Dst lo hi∧x.2.1=0∧Sec pre.length lo hi x.2.2∧x.2.2.length≤64)∨(¬ Dst lo hi∧x.2.1=1∧x.2.2=[]))
theorem sectors_in (n:Nat) (lo hi:Int) (w:World) :
  CallsIn Fence.wide n Tryz.prog 30 #[.agg #[.int .i64 lo,.int .i64 hi]] w fun e w' => e=.returned (.func (.func 60) #[] #[.pointer (some ⟨w.heap.size,0,none⟩)])∧w'=w.alloc (.cells #[.int .i64 lo,.int .i64 hi] 26):=by
 refine callsIn_of_wp Tryz.func30 rfl trivial ?_ rfl
 simp only [Tryz.ntmps30,List.size_toArray,List.length_cons,List.length_nil,Nat.reduceAdd,Nat.reduceSub,Array.replicate_succ,Array.replicate_zero,List.push_toArray,List.append_toArray,List.nil_append,List.cons_append]
 gi_wp2
 go_ret
 exact ⟨rfl,rfl⟩
theorem sec_any {T:World→Prop} (N:Nd T) (k:Nat) (lo hi:Int) (w:World) (hT:T w) (hk:k < 32):Calls Tryz.prog 61 #[.int .i64 (2 * (k:Int)),.int .i64 2,.agg #[.int .i64 lo,.int .i64 hi]] w fun e w' => ∃ v j q,e=.returned (.tuple #[v,.int .i64 j])∧(Sl w' v q∧((Dst lo hi∧j=0∧Sec k lo hi q∧q.length≤64)∨(¬ Dst lo hi∧j=1∧q=[])))∧Grew w w':=by
 by_cases hd:Dst lo hi
 ·have h:=N.sec (2 * k) 2 lo hi w hT (by omega) (by omega) hd
  rw [show ((2 * k:Nat):Int)=2 * (k:Int) by omega,show ((2:Nat):Int)=2 from rfl] at h
  refine h.mono ?_
  rintro e w' ⟨q,v,hq,h64,rfl,hs,g⟩
  exact ⟨v,0,q,rfl,⟨hs,Or.inl ⟨hd,rfl,hq,h64⟩⟩,g⟩
 ·refine (N.sec_bad (2 * (k:Int)) 2 lo hi w (fun h => hd h.2.2)).mono ?_
  rintro e w' ⟨v,rfl,hs,g⟩
  exact ⟨v,1,[],rfl,⟨hs,Or.inr ⟨hd,rfl,rfl⟩⟩,g⟩
set_option maxHeartbeats 4000000 in
theorem sectors1_in {T:World→Prop} (N:Nd T) (n:Nat) (hn:1≤n) (l D B A:Nat) (lo hi:Int) (w0:World) (h0:T w0) (J Jx:List El→World→Prop)
  (W:World) (hb:Grew w0 W) (hA:w0.heap.size≤A∧w0.heap.size≤B) (hJ:AbidesFrom W.heap.size J)
  (hY:∀ pre x X,J pre X→OkS lo hi pre x X→YieldAt Fence.wide (n - 1) Tryz.prog l (encS x) X fun e Y => (e=.returned (.bool true)∧J (pre ++ [x]) Y∧Hl.Leaves B A X Y)∨(e=.returned (.bool false)∧Jx (pre ++ [x]) Y))
  (hB:B≤W.heap.size) (hD:D < B∧D ≠ A) (cd:W.cell? ⟨D,0,none⟩=some (.int .i64 lo)∧W.cell? ⟨D,1,none⟩=some (.int .i64 hi)) (hj:J [] W) :
  CallsIn Fence.wide n Tryz.prog 60 #[.func (.yield l) #[] #[],.pointer (some ⟨D,0,none⟩)] W fun e Y => (∃ v,e=.returned v)∧((∃ xs:List El,xs.length=32∧J xs Y)∨∃ pre,Jx pre Y):=by
 have HY:=Lib.hid hY
 have HJ:=Lib.hid hJ
 have CD:=Lib.hid cd
 have SC:Hid (∀ (k:Nat) (W':World),k < 32→Hl.Leaves B A W W'→CallsIn Fence.wide (n - 1) Tryz.prog 61 #[.int .i64 (2 * (k:Int)),.int .i64 2,.agg #[.int .i64 lo,.int .i64 hi]] W' fun e w' => ∃ v j q,e=.returned (.tuple #[v,.int .i64 j])∧(Sl w' v q∧((Dst lo hi∧j=0∧Sec k lo hi q∧q.length≤64)∨(¬ Dst lo hi∧j=1∧q=[])))∧Grew W' w') :=
  Lib.hid (fun k W' hk hl => callsIn_wide.2 (sec_any N k lo hi W' (N.keep _ _ (hl.toGrew hb hA.2 hA.1) h0) hk))
 clear hY hJ h0 hb N hA
 refine callsIn_of_wp Tryz.func60 rfl trivial ?_ rfl
 simp only [Tryz.ntmps60,List.size_toArray,List.length_cons,List.length_nil,Nat.reduceAdd,Nat.reduceSub,Array.replicate_succ,Array.replicate_zero,List.push_toArray,List.append_toArray,List.nil_append,List.cons_append]
 gi_wp2_with fail
 gi_loopw [3] (fun i wr => ∃ (k:Nat) (xs:List El),k≤32∧i=.int .i64 (2 * (k:Int))∧Hid (xs.length=k∧J xs wr∧Hl.Leaves B A W wr)) (fun i _ => 64 - (intOf i).toNat)
 case atStart => exact ⟨0,[],Nat.zero_le _,rfl,Lib.hid ⟨rfl,hj,Hl.Leaves.refl _ _ _⟩⟩
 case round =>
  clear cd hj
  obtain ⟨k,xs,hk,rfl,HK⟩:=hrel
  have k0:(0:Int)≤2 * (k:Int):=by omega
  by_cases hlt:k < 32
  ·have klt:2 * (k:Int) < 64:=by omega
   have d0:=((lv_cell HK.out.2.2 hD.1 hD.2).trans CD.out.1)
   have d1:=((lv_cell HK.out.2.2 hD.1 hD.2).trans CD.out.2)
   have lD:D < wr.heap.size:=by have h1:=HK.out.2.2.size;omega
   have S1:=Lib.hid (SC.out k wr hlt HK.out.2.2)
   gi_wp2_with fail
   refine ⟨trivial,S1.out.mono ?_⟩
   rintro e w1 ⟨v,j,q,rfl,hq,g1⟩
   have LN:=Lib.hid HK.out.1
   have OK:Hid (OkS lo hi xs (v,j,q) w1):=Lib.hid ⟨by rw [LN.out];exact hlt,hq.1,by rw [LN.out];exact hq.2⟩
   have hJ1:J xs w1:=HJ.out _ _ _ none HK.out.2.1 (gb_grew g1) (fun r e => by cases e)
   have KW:Hid (Hl.Leaves B A W w1):=Lib.hid (HK.out.2.2.grew g1 (Nat.le_trans hB HK.out.2.2.size))
   obtain ⟨fn,tmps,assign,body,hy,hR⟩:=HY.out xs (v,j,q) _ hJ1 OK.out
   have hR':=hR.mono (R':=fun e Y => ∃ r:Bool,e=.returned (.bool r)∧Hid ((r=true→J (xs ++ [(v,j,q)]) Y∧Hl.Leaves B A W Y)∧(r=false→Jx (xs ++ [(v,j,q)]) Y))) (by
    rintro e Y (⟨rfl,h1,h2⟩ | ⟨rfl,h1⟩)
    ·exact ⟨true,rfl,Lib.hid ⟨fun _ => ⟨h1,KW.out.trans h2⟩,fun h => by cases h⟩⟩
    ·exact ⟨false,rfl,Lib.hid ⟨fun h => (by cases h),fun _ => h1⟩⟩)
   unfold encS at hy
   obtain ⟨va,vc,rfl⟩:=hq.1.shape
   clear hR hJ1 HK KW d0 d1 lD g1 hq S1
   gi_wp2_with fail
   refine hR'.mono ?_
   rintro e W3 ⟨r,rfl,hjr⟩
   cases r
   ·have F:=Lib.hid (hjr.out.2 (by first | rfl | trivial))
    clear hjr
    gi_wp2_with fail
    refine bodyPost_ret (results_none rfl _ _ _) rfl ?_
    exact ⟨⟨_,rfl⟩,.inr ⟨_,F.out⟩⟩
   ·have F:=Lib.hid (hjr.out.1 (by first | rfl | trivial))
    clear hjr
    gi_wp2_with fail
    go_roundw
    case rel => exact ⟨k+1,_,by omega,by go_num,Lib.hid ⟨by rw [List.length_append,LN.out];rfl,F.out.1,F.out.2⟩⟩
    case measure => simp [intOf];omega
  ·obtain rfl:k=32:=by omega
   gi_wp2
   go_end0
   exact ⟨⟨_,rfl⟩,.inl ⟨xs,HK.out.1,HK.out.2.1⟩⟩
theorem sectors_runs {T:World→Prop} (N:Nd T) (n:Nat) (hn:1≤n) (D B A:Nat) (lo hi:Int) (w0 w:World) (h0:T w0) (hb:Grew w0 w) (hA:w0.heap.size≤A∧w0.heap.size≤B) (hB:B≤w.heap.size) (hD:D < B∧D ≠ A) (cd:w.cell? ⟨D,0,none⟩=some (.int .i64 lo)∧w.cell? ⟨D,1,none⟩=some (.int .i64 hi)) :
  Rq.Runs Fence.wide n Tryz.prog 60 #[.pointer (some ⟨D,0,none⟩)] encS (Hl.Leaves B A) (OkS lo hi) (fun xs => xs.length=32) w :=
 fun l J Jx W hW hJ _hJx hY hj => sectors1_in N n hn l D B A lo hi w0 h0 J Jx W (hb.trans hW) hA hJ hY (Nat.le_trans hB hW.size) hD ⟨(Grew.cell hW (by omega)).trans cd.1,(Grew.cell hW (by omega)).trans cd.2⟩ hj
end Rn
end Go.Proofs.YtbpgfenippiepaaGreatDoor
