/-
  The reference implementation of layer 3 over slices of points: between, Inside.
  The reference implementation of layer 3 over slices of points: Inside.
  Slices of points as values; Same, Few.
  Plain: a sector has every vector between its rays whose distance is within the distances.
-/
import Derived.Test.YtbpgfenippiepaaGreatDoorMHullSl
import Derived.Deep.RegionWith
import Derived.IntWalk
import Derived.Test.YtbpgfenippiepaaGreatDoorMRayCnt
namespace Go.Proofs.YtbpgfenippiepaaGreatDoor
open Go.RowKit
namespace Hl
instance (a b x:Pt):Decidable (btw a b x):=by unfold btw;infer_instance
set_option maxHeartbeats 1000000 in
theorem between_x (a b x:Pt) (w:World):Calls Tryz.prog 90 #[.agg #[.int .i64 a.1,.int .i64 a.2],.agg #[.int .i64 b.1,.int .i64 b.2],.agg #[.int .i64 x.1,.int .i64 x.2]] w fun e w' => e=.returned (.bool (decide (btw a b x)))∧((w.alloc (.cells #[.int .i64 (a.1),.int .i64 (a.2)] 24)).alloc (.cells #[.int .i64 (b.1),.int .i64 (b.2)] 24)).alloc (.cells #[.int .i64 (x.1),.int .i64 (x.2)] 24)=w':=by
 rcases a with ⟨a1,a2⟩
 rcases b with ⟨b1,b2⟩
 rcases x with ⟨x1,x2⟩
 have key:∀ r:Bool,(r=true↔btw (a1,a2) (b1,b2) (x1,x2))→decide (btw (a1,a2) (b1,b2) (x1,x2))=r:=by
  intro r h
  rw [Bool.eq_iff_iff,decide_eq_true_eq]
  exact h.symm
 have K:=Lib.hid key
 clear key
 rcases Int.lt_trichotomy a1 b1 with h1 | h1 | h1 <;> rcases Int.lt_trichotomy a2 b2 with h2 | h2 | h2
 all_goals
  (try subst h1)
  (try subst h2)
  go_enter Tryz.func90,Tryz.ntmps90
  go_wp2_with fail
  all_goals
   go_ret
   exact ⟨congrArg (fun r => Ending.returned (.bool r)) (K.out _ (by unfold btw;simp;omega)).symm,rfl⟩
end Hl
end Go.Proofs.YtbpgfenippiepaaGreatDoor
namespace Go.Proofs.YtbpgfenippiepaaGreatDoor
open Go.RowKit
namespace Hl
theorem hs1 {p:List Pt} {x:Pt} (h:p.length=1):Hs p x↔at' p 0=x:=by unfold Hs;rw [if_pos h]
theorem hs2 {p:List Pt} {x:Pt} (h:p.length=2):Hs p x↔(cr (at' p 0) (at' p 1) x=0∧btw (at' p 0) (at' p 1) x):=by unfold Hs;rw [if_neg (by omega),if_pos h]
theorem hs3 {p:List Pt} {x:Pt} (h:3≤p.length):Hs p x↔Ins p.length (at' p) x:=by unfold Hs;rw [if_neg (by omega),if_neg (by omega)]
set_option maxRecDepth 100000 in
set_option maxHeartbeats 2000000 in
theorem inside_one (p:List Pt) (x:Pt) (b o c:Nat) (w:World) (hr:Row w b o p) (h1:p.length=1):Calls Tryz.prog 54 #[.slice (some ⟨b,o,none⟩) p.length c,.agg #[.int .i64 x.1,.int .i64 x.2]] w (Tells (Hs p x) w):=by
 have HS:=Lib.hid (hs1 (x:=x) h1)
 obtain ⟨q0,q1⟩:=hr.2 0 (by omega)
 rw [Nat.zero_mul,Nat.add_zero] at q0 q1
 have hb:=hr.1
 rw [h1]
 have i1:(0:Int) < (1:Int):=by omega
 clear h1 hr
 rcases x with ⟨x1,x2⟩
 obtain ⟨y,hy⟩:∃ y,at' p 0=y:=⟨_,rfl⟩
 rw [hy] at q0 q1
 have HY:=Lib.hid hy
 clear hy
 rcases y with ⟨y1,y2⟩
 simp only at q0 q1
 by_cases e1:y1=x1
 ·subst e1
  by_cases e2:y2=x2
  ·subst e2
   go_enter Tryz.func54,Tryz.ntmps54
   go_wp2_with fail
   go_quiet (fail)
   go_wp2_with fail
   go_ret
   exact Tells.yes (HS.out.2 HY.out) rfl (Grew.drewN (Grew.alloc (Grew.refl _) _ _) _)
  ·go_enter Tryz.func54,Tryz.ntmps54
   go_wp2_with fail
   go_quiet (fail)
   go_wp2_with fail
   go_ret
   exact Tells.no (fun h => e2 (by have:=HS.out.1 h;rw [HY.out] at this;exact congrArg Prod.snd this)) rfl (Grew.drewN (Grew.alloc (Grew.refl _) _ _) _)
 ·go_enter Tryz.func54,Tryz.ntmps54
  go_wp2_with fail
  go_quiet (fail)
  go_wp2_with fail
  go_ret
  exact Tells.no (fun h => e1 (by have:=HS.out.1 h;rw [HY.out] at this;exact congrArg Prod.fst this)) rfl (Grew.drewN (Grew.alloc (Grew.refl _) _ _) _)
set_option maxRecDepth 100000 in
set_option maxHeartbeats 4000000 in
theorem inside_two_on (p:List Pt) (x:Pt) (b o c:Nat) (w:World) (hr:Row w b o p) (hp:Plcs p) (hx:Plc x) (h1:p.length=2) (hz:cr (at' p 0) (at' p 1) x=0):Calls Tryz.prog 54 #[.slice (some ⟨b,o,none⟩) p.length c,.agg #[.int .i64 x.1,.int .i64 x.2]] w (Tells (Hs p x) w):=by
 have HS:=Lib.hid (hs2 (x:=x) h1)
 obtain ⟨q0,q1⟩:=hr.2 0 (by omega)
 rw [Nat.zero_mul,Nat.add_zero] at q0 q1
 obtain ⟨q2,q3⟩:=hr.2 1 (by omega)
 have hb:=hr.1
 have hb1:b < w.heap.size+1:=by omega
 have hb2:b < w.heap.size+1+1:=by omega
 have hb3:b < w.heap.size+1+1+1:=by omega
 have hb4:b < w.heap.size+1+1+1+1:=by omega
 have hb5:b < w.heap.size+1+1+1+1+1:=by omega
 have hb6:b < w.heap.size+1+1+1+1+1+1:=by omega
 have CX0:=(cross_x (at' p 0) (at' p 1) x · (hp 0 (by omega)) (hp 1 (by omega)) hx)
 have BB0:=between_x (at' p 0) (at' p 1) x
 rw [h1]
 clear h1 hr hp hx
 rw [hz] at CX0
 ·skip
  have CX:=Lib.hid CX0
  clear CX0
  by_cases ht:btw (at' p 0) (at' p 1) x
  ·rw [decide_eq_true ht] at BB0
   have BB:=Lib.hid BB0
   have T:=Lib.hid (HS.out.2 ⟨hz,ht⟩)
   clear BB0 hz ht
   go_enter Tryz.func54,Tryz.ntmps54
   go_wp2_with fail
   go_region_held3 (fun w' => w'.cell? ⟨b,o,none⟩=some (.int .i64 (at' p 0).1)∧w'.cell? ⟨b,o+1,none⟩=some (.int .i64 (at' p 0).2)∧w'.cell? ⟨b,o+1 * 2,none⟩=some (.int .i64 (at' p 1).1)∧w'.cell? ⟨b,o+1 * 2+1,none⟩=some (.int .i64 (at' p 1).2)∧w'.cell? ⟨w.heap.size,0,none⟩=some (.int .i64 x.1)∧w'.cell? ⟨w.heap.size,1,none⟩=some (.int .i64 x.2)) (simp [go_sem, *])
    (first | (go_at_call 89;refine (CX.out _).mono ?_;rintro e w' ⟨rfl,rfl⟩) | (go_at_call 90;refine (BB.out _).mono ?_;rintro e w' ⟨rfl,rfl⟩))
   go_wp2_with fail
   go_ret
   exact Tells.yes T.out rfl gw
  ·rw [decide_eq_false ht] at BB0
   have BB:=Lib.hid BB0
   have T:=Lib.hid (fun h:Hs p x => ht (HS.out.1 h).2)
   clear BB0 hz ht
   go_enter Tryz.func54,Tryz.ntmps54
   go_wp2_with fail
   go_region_held3 (fun w' => w'.cell? ⟨b,o,none⟩=some (.int .i64 (at' p 0).1)∧w'.cell? ⟨b,o+1,none⟩=some (.int .i64 (at' p 0).2)∧w'.cell? ⟨b,o+1 * 2,none⟩=some (.int .i64 (at' p 1).1)∧w'.cell? ⟨b,o+1 * 2+1,none⟩=some (.int .i64 (at' p 1).2)∧w'.cell? ⟨w.heap.size,0,none⟩=some (.int .i64 x.1)∧w'.cell? ⟨w.heap.size,1,none⟩=some (.int .i64 x.2)) (simp [go_sem, *])
    (first | (go_at_call 89;refine (CX.out _).mono ?_;rintro e w' ⟨rfl,rfl⟩) | (go_at_call 90;refine (BB.out _).mono ?_;rintro e w' ⟨rfl,rfl⟩))
   go_wp2_with fail
   go_ret
   exact Tells.no T.out rfl gw
end Hl
end Go.Proofs.YtbpgfenippiepaaGreatDoor
namespace Go.Proofs.YtbpgfenippiepaaGreatDoor
open Go.RowKit
namespace Hl
def Sl (w:World) (v:Value) (p:List Pt):Prop:=(p=[]∧∃ a c,v=.slice a 0 c)∨∃ b o c,v=.slice (some ⟨b,o,none⟩) p.length c∧Row w b o p
theorem Sl.grown {w w':World} {v:Value} {p:List Pt} (h:Sl w v p) (g:Grew w w'):Sl w' v p:=by
 rcases h with h | ⟨b,o,c,h,k⟩
 ·exact Or.inl h
 ·exact Or.inr ⟨b,o,c,h,k.grown g⟩
theorem same_rows (p q:List Pt) (b o c b' o' c':Nat) (w:World) (hp:Row w b o p) (hq:Row w b' o' q) (hl:p.length=q.length) (hm:p.length≤9223372036854775807):Calls Tryz.prog 37 #[.slice (some ⟨b,o,none⟩) p.length c,.slice (some ⟨b',o',none⟩) q.length c'] w (Tells (p=q) w):=by
 have HP:=Lib.hid hp
 have HQ:=Lib.hid hq
 have HL:=Lib.hid hl
 rw [← hl]
 clear hp hq hl
 go_enter Tryz.func37,Tryz.ntmps37
 go_wp2_with fail
 go_loopw [5] (fun i wr => ∃ k:Nat,k≤p.length∧i=.int .i64 k∧(∃ n,wr=w.drewN n)∧Hid (∀ j,j < k→at' p j=at' q j)) (fun i _ => p.length - (intOf i).toNat)
 case atStart => exact ⟨0,Nat.zero_le _,rfl,⟨0,rfl⟩,Lib.hid (fun j hj => by omega)⟩
 case round =>
  obtain ⟨k,hk,rfl,⟨n,rfl⟩,D⟩:=hrel
  by_cases hlt:k < p.length
  ·obtain ⟨s0,s1⟩:=HP.out.2 k hlt
   obtain ⟨s2,s3⟩:=HQ.out.2 k (by have:=HL.out;omega)
   have i0:(0:Int)≤(k:Int):=by omega
   have i1:(k:Int) < (p.length:Int):=by omega
   obtain ⟨⟨y1,y2⟩,hy⟩:∃ y,at' p k=y:=⟨_,rfl⟩
   obtain ⟨⟨z1,z2⟩,hz⟩:∃ z,at' q k=z:=⟨_,rfl⟩
   rw [hy] at s0 s1
   rw [hz] at s2 s3
   have HY:=Lib.hid hy
   have HZ:=Lib.hid hz
   clear hy hz
   simp only at s0 s1 s2 s3
   by_cases e1:y1=z1
   ·by_cases e2:y2=z2
    ·subst e1 e2
     have E:Hid (∀ j,j < k+1→at' p j=at' q j):=Lib.hid (fun j hj => by
      by_cases e:j=k
      ·rw [e,HY.out,HZ.out]
      ·exact D.out j (by omega))
     go_wp2_with fail
     go_quiet (fail)
     go_wp2_with fail
     go_roundw
     case rel => exact ⟨k+1,by omega,by go_num,⟨_,rfl⟩,E⟩
     case measure => simp [intOf];omega
    ·have N:Hid (¬ p=q):=Lib.hid (fun h => by
      have:=HY.out
      rw [h,HZ.out] at this
      exact e2 (congrArg Prod.snd this).symm)
     subst e1
     go_wp2_with fail
     go_quiet (fail)
     go_wp2_with fail
     go_ret
     exact Tells.no N.out rfl gw
   ·have N:Hid (¬ p=q):=Lib.hid (fun h => by
     have:=HY.out
     rw [h,HZ.out] at this
     exact e1 (congrArg Prod.fst this).symm)
    go_wp2_with fail
    go_quiet (fail)
    go_wp2_with fail
    go_ret
    exact Tells.no N.out rfl gw
  ·go_wp2_with fail
   go_ret
   exact Tells.yes (ext_at HL.out (fun i hi => D.out i (by omega))) rfl gw
theorem len_nil {p:List Pt} (h:p.length=0):p=[]:=List.length_eq_zero_iff.1 h
theorem same_far (p q:List Pt) (n m:Nat) (v v':Value) (w:World) (hv:(∃ a c,v=.slice a n c)∧∃ a c,v'=.slice a m c) (hn:¬ p=q) (h:n ≠ m):Calls Tryz.prog 37 #[v,v'] w (Tells (p=q) w):=by
 obtain ⟨⟨a,c,rfl⟩,⟨a',c',rfl⟩⟩:=hv
 have H:=Lib.hid hn
 have d1:((n:Int) != (m:Int))=true:=by rw [bne_iff_ne];omega
 have d2:((n:Int) == (m:Int))=false:=by rw [beq_eq_false_iff_ne];omega
 clear hn h
 go_enter Tryz.func37,Tryz.ntmps37
 go_wp2_with fail
 go_ret
 exact Tells.no H.out rfl (Grew.refl _)
theorem same_zero (v v':Value) (w:World) (hv:(∃ a c,v=.slice a 0 c)∧∃ a c,v'=.slice a 0 c):Calls Tryz.prog 37 #[v,v'] w (Tells (([]:List Pt)=[]) w):=by
 obtain ⟨⟨a,c,rfl⟩,⟨a',c',rfl⟩⟩:=hv
 have H:=Lib.hid (rfl:([]:List Pt)=[])
 go_enter Tryz.func37,Tryz.ntmps37
 go_wp2_with fail
 refine wp_loop_rounds 1 ?_
 rw [rounds_succ]
 go_wp2_with fail
 go_ret
 exact Tells.yes H.out rfl (Grew.refl _)
theorem Sl.shape {w:World} {v:Value} {p:List Pt} (h:Sl w v p):∃ a c,v=.slice a p.length c:=by
 rcases h with ⟨rfl,a,c,rfl⟩ | ⟨b,o,c,rfl,_⟩
 ·exact ⟨a,c,rfl⟩
 ·exact ⟨_,_,rfl⟩
theorem same_any (p q:List Pt) (v v':Value) (w:World) (hp:Sl w v p) (hq:Sl w v' q) (hm:p.length≤9223372036854775807):Calls Tryz.prog 37 #[v,v'] w (Tells (p=q) w):=by
 by_cases hl:p.length=q.length
 ·by_cases h0:p.length=0
  ·obtain ⟨a,c,e1⟩:=hp.shape
   obtain ⟨a',c',e2⟩:=hq.shape
   rw [h0] at e1
   rw [← hl,h0] at e2
   have e3:=len_nil h0
   have e4:=len_nil (hl ▸ h0)
   subst e3 e4
   exact same_zero v v' w ⟨⟨a,c,e1⟩,⟨a',c',e2⟩⟩
  ·rcases hp with ⟨e,_⟩ | ⟨b,o,c,e1,hr⟩
   ·rw [e] at h0;exact absurd rfl h0
   ·rcases hq with ⟨e,_⟩ | ⟨b',o',c',e2,hr'⟩
    ·rw [e] at hl;exact absurd hl h0
    ·rw [e1,e2];exact same_rows p q b o c b' o' c' w hr hr' hl hm
 ·exact same_far p q p.length q.length v v' w ⟨hp.shape,hq.shape⟩ (fun h => hl (by rw [h])) hl
end Hl
end Go.Proofs.YtbpgfenippiepaaGreatDoor
namespace Go.Proofs.YtbpgfenippiepaaGreatDoor
namespace Ry
open Hl Ex
theorem hs_of_af {q:List Pt} (hq:Pg q) {x:Pt} (h:∀ u v k:Int,(∀ y,y ∈ q→0≤af u v k y)→0≤af u v k x):Hs q x:=by
 by_cases h1:q.length=1
 ·refine (hs1 h1).2 ?_
  have all:∀ y,y ∈ q→y=at' q 0:=fun y hy => by
   obtain ⟨i,hi,e⟩:=mem_at hy
   obtain rfl:i=0:=by omega
   exact e.symm
  have a1:=h 1 0 (-(at' q 0).1) (fun y hy => by rw [all y hy];unfold af;omega)
  have a2:=h (-1) 0 (at' q 0).1 (fun y hy => by rw [all y hy];unfold af;omega)
  have a3:=h 0 1 (-(at' q 0).2) (fun y hy => by rw [all y hy];unfold af;omega)
  have a4:=h 0 (-1) (at' q 0).2 (fun y hy => by rw [all y hy];unfold af;omega)
  unfold af at a1 a2 a3 a4
  exact Prod.ext (by omega) (by omega)
 ·by_cases h2:q.length=2
  ·refine (hs2 h2).2 ?_
   have all:∀ y,y ∈ q→y=at' q 0∨y=at' q 1:=fun y hy => by
    obtain ⟨i,hi,e⟩:=mem_at hy
    by_cases i0:i=0
    ·subst i0;exact Or.inl e.symm
    ·obtain rfl:i=1:=by omega
     exact Or.inr e.symm
   generalize at' q 0=A at *
   generalize at' q 1=B at *
   have c1:=h _ _ _ (fun y hy => by rw [← cr_af A B];rcases all y hy with e | e <;> rw [e];· rw [cr_self];exact Int.le_refl _
                                    ·rw [cr_self'];exact Int.le_refl _)
   rw [← cr_af] at c1
   have c2:=h _ _ _ (fun y hy => by rw [← cr_af B A];rcases all y hy with e | e <;> rw [e];· rw [cr_self'];exact Int.le_refl _
                                    ·rw [cr_self];exact Int.le_refl _)
   rw [← cr_af,cr_swap2] at c2
   have m1:min A.1 B.1≤A.1∧min A.1 B.1≤B.1:=by omega
   have m2:A.1≤max A.1 B.1∧B.1≤max A.1 B.1:=by omega
   have m3:min A.2 B.2≤A.2∧min A.2 B.2≤B.2:=by omega
   have m4:A.2≤max A.2 B.2∧B.2≤max A.2 B.2:=by omega
   have b1:=h 1 0 (-(min A.1 B.1)) (fun y hy => by unfold af;rcases all y hy with e | e <;> rw [e] <;> omega)
   have b2:=h (-1) 0 (max A.1 B.1) (fun y hy => by unfold af;rcases all y hy with e | e <;> rw [e] <;> omega)
   have b3:=h 0 1 (-(min A.2 B.2)) (fun y hy => by unfold af;rcases all y hy with e | e <;> rw [e] <;> omega)
   have b4:=h 0 (-1) (max A.2 B.2) (fun y hy => by unfold af;rcases all y hy with e | e <;> rw [e] <;> omega)
   unfold af at b1 b2 b3 b4
   refine ⟨by omega,?_⟩
   unfold btw
   omega
  ·have h3:3≤q.length:=by have:=hq.1;omega
   refine (hs3 h3).2 fun i hi => ?_
   rw [cr_af]
   refine h _ _ _ fun y hy => ?_
   obtain ⟨k,hk,rfl⟩:=mem_at hy
   rw [← cr_af]
   by_cases e1:k=i
   ·rw [e1,cr_self];exact Int.le_refl _
   ·by_cases e2:k=(i+1) % q.length
    ·rw [e2,cr_self'];exact Int.le_refl _
    ·exact Int.le_of_lt (hq.2.2 (by omega) i k hi hk e1 e2)
theorem box_af {A B C:Int} {r:Pt} {n d:Int} (hd:0 < d) (h:∀ x,x ∈ bx r n d→0≤af A B C x):0≤n * (A * r.1+B * r.2)+d * C:=by
 have key:∀ c a:Int,∃ x,(x=fl a d∨x=ce a d)∧c * (d * x)≤c * a:=fun c a => by
  obtain ⟨f1,_⟩:=fl_spec a hd
  obtain ⟨f2,_⟩:=ce_spec a hd
  by_cases hc:0≤c
  ·exact ⟨_,Or.inl rfl,Int.mul_le_mul_of_nonneg_left f1 hc⟩
  ·exact ⟨_,Or.inr rfl,Int.mul_le_mul_of_nonpos_left (by omega) f2⟩
 obtain ⟨x,hx,k1⟩:=key A (r.1 * n)
 obtain ⟨y,hy,k2⟩:=key B (r.2 * n)
 have hf:=h (x,y) (mem_bx.2 ⟨hx,hy⟩)
 have hf:=Int.mul_nonneg (Int.le_of_lt hd) hf
 have e:d * af A B C (x,y)=A * (d * x)+B * (d * y)+d * C:=by unfold af;grind
 have e2:n * (A * r.1+B * r.2)=A * (r.1 * n)+B * (r.2 * n):=by grind
 rw [e] at hf
 rw [e2]
 omega
theorem lag (a b:Pt):xc a b * xc a b+dd a b * dd a b=dd a a * dd b b:=by unfold xc dd;grind
theorem sq0 (a:Int):0≤a * a:=by rw [← Int.natAbs_mul_self];omega
theorem le_of_sq {x y:Int} (hy:0≤y) (h:x * x≤y * y):x≤y:=by
 by_cases e:x≤y
 ·exact e
 ·have h1:y * y < x * x:=sq_lt hy (by omega)
  omega
theorem sd_turned (k:Nat) (v:Pt):sd (k+16) v = -(dd (dir k) v):=by
 unfold sd
 rw [dir_16]
 unfold xc lf dd
 simp only
 grind
theorem gaps_all:((List.range 64).all fun k => decide (996004 * dd ((dir (k+1)).1 - (dir k).1,(dir (k+1)).2 - (dir k).2) ((dir (k+1)).1 - (dir k).1,(dir (k+1)).2 - (dir k).2)≤xc (dir k) (dir (k+1)) * xc (dir k) (dir (k+1))) && decide (996004≤dd (dir k) (dir k)) && decide (dd (dir k) (dir k)≤1002001))=true:=by decide +kernel
theorem gaps {k:Nat} (hk:k < 64):996004 * dd ((dir (k+1)).1 - (dir k).1,(dir (k+1)).2 - (dir k).2) ((dir (k+1)).1 - (dir k).1,(dir (k+1)).2 - (dir k).2)≤xc (dir k) (dir (k+1)) * xc (dir k) (dir (k+1))∧996004≤dd (dir k) (dir k)∧dd (dir k) (dir k)≤1002001:=by
 have h:=List.all_eq_true.1 gaps_all k (List.mem_range.2 hk)
 simpa [and_assoc] using h
theorem dir_dd {k:Nat} (hk:k < 128):996004≤dd (dir k) (dir k)∧dd (dir k) (dir k)≤1002001:=by
 rw [← dir_mod hk]
 exact (gaps (Nat.mod_lt k (by decide))).2
structure Out (v:Pt) (hi:Int) (r s:Pt) (D x y:Int):Prop where
 D0:0 < D
 x0:0≤x
 y0:0≤y
 e1:D * v.1=x * r.1+y * s.1
 e2:D * v.2=x * r.2+y * s.2
 le:998 * (x+y)≤hi * D
structure Inn (v:Pt) (lo:Int) (r s:Pt) (D x y:Int):Prop where
 D0:0 < D
 x0:0≤x
 y0:0≤y
 e1:D * v.1=x * r.1+y * s.1
 e2:D * v.2=x * r.2+y * s.2
 ge:lo * D≤1001 * (x+y)
theorem cauchy (a b:Pt):xc a b * xc a b≤dd a a * dd b b∧dd a b * dd a b≤dd a a * dd b b:=by
 have:=lag a b
 have:=sq0 (xc a b)
 have:=sq0 (dd a b)
 omega
theorem dd_nonneg (a:Pt):0≤dd a a:=by
 have:=sq0 a.1
 have:=sq0 a.2
 unfold dd
 omega
theorem mul3 {a b c d:Int} (h1:a≤b) (h2:c≤d) (ha:0≤c) (hb:0≤b):a * c≤b * d:=Int.le_trans (Int.mul_le_mul_of_nonneg_right h1 ha) (Int.mul_le_mul_of_nonneg_left h2 hb)
theorem Fd.out {v:Pt} {k:Nat} (f:Fd v k) {hi:Int} (h0:0≤hi) (h:dd v v≤hi * hi):Out v hi (dir k) (dir (k+1)) (xc (dir k) (dir (k+1))) (-(sd (k+1) v)) (sd k v):=by
 have hk:=f.lt
 have D:0 < xc (dir k) (dir (k+1)):=(xc_sign (i:=k) (k:=k+1) (by omega) (by omega)).2.1 (by omega) (by omega)
 refine ⟨D,by have:=f.le;omega,f.ge,?_,?_,?_⟩
 ·unfold sd xc;grind
 ·unfold sd xc;grind
 ·obtain ⟨g,_,_⟩:=gaps hk
  have e:-(sd (k+1) v)+sd k v=xc v ((dir (k+1)).1 - (dir k).1,(dir (k+1)).2 - (dir k).2):=by unfold sd xc;grind
  rw [e]
  generalize ((dir (k+1)).1 - (dir k).1,(dir (k+1)).2 - (dir k).2)=w at *
  generalize xc (dir k) (dir (k+1))=d at *
  refine le_of_sq (Int.mul_nonneg h0 (Int.le_of_lt D)) ?_
  have c:=(cauchy v w).1
  have m:=mul3 h g (Int.mul_nonneg (by decide) (dd_nonneg w)) (sq0 hi)
  have e1:(998 * xc v w) * (998 * xc v w)=996004 * (xc v w * xc v w):=by grind
  have e2:dd v v * (996004 * dd w w)=996004 * (dd v v * dd w w):=by grind
  have e3:hi * d * (hi * d)=hi * hi * (d * d):=by grind
  rw [e1,e3]
  rw [e2] at m
  omega
theorem on_par {v r:Pt} (h:xc r v=0):dd r r * v.1=dd r v * r.1∧dd r r * v.2=dd r v * r.2:=by
 have e1:dd r r * v.1=dd r v * r.1 - xc r v * r.2:=by unfold dd xc;grind
 have e2:dd r r * v.2=dd r v * r.2+xc r v * r.1:=by unfold dd xc;grind
 rw [h,Int.zero_mul] at e1 e2
 exact ⟨by omega,by omega⟩
theorem on_out {v r:Pt} {hi:Int} (h:xc r v=0) (hp:0 < dd r v) (hr:996004≤dd r r) (h0:0≤hi) (hv:dd v v≤hi * hi):Out v hi r r (dd r r) (dd r v) 0:=by
 obtain ⟨p1,p2⟩:=on_par h
 refine ⟨by omega,by omega,Int.le_refl _,by rw [p1,Int.zero_mul,Int.add_zero],by rw [p2,Int.zero_mul,Int.add_zero],?_⟩
 rw [Int.add_zero]
 refine le_of_sq (Int.mul_nonneg h0 (dd_nonneg r)) ?_
 have c:=(cauchy r v).2
 have m1:=mul3 (Int.le_refl (dd r r)) hv (dd_nonneg v) (dd_nonneg r)
 have m2:=mul3 hr m1 (Int.mul_nonneg (dd_nonneg r) (dd_nonneg v)) (dd_nonneg r)
 have e1:(998 * dd r v) * (998 * dd r v)=996004 * (dd r v * dd r v):=by grind
 have e3:hi * dd r r * (hi * dd r r)=dd r r * (dd r r * (hi * hi)):=by grind
 rw [e1,e3]
 omega
theorem on_inn {v r:Pt} {lo:Int} (h:xc r v=0) (hp:0 < dd r v) (hr:996004≤dd r r∧dd r r≤1002001) (hv:lo * lo≤dd v v):Inn v lo r r (dd r r) (dd r v) 0:=by
 obtain ⟨p1,p2⟩:=on_par h
 refine ⟨by omega,by omega,Int.le_refl _,by rw [p1,Int.zero_mul,Int.add_zero],by rw [p2,Int.zero_mul,Int.add_zero],?_⟩
 rw [Int.add_zero]
 refine le_of_sq (by omega) ?_
 have c:=lag r v
 rw [h,Int.zero_mul,Int.zero_add] at c
 have m1:=mul3 (Int.le_refl (dd r r)) hv (sq0 lo) (dd_nonneg r)
 have m2:=mul3 hr.2 (Int.le_refl (dd r v * dd r v)) (sq0 _) (by decide)
 have m3:=Int.mul_le_mul_of_nonneg_left m1 (dd_nonneg r)
 have e1:(1001 * dd r v) * (1001 * dd r v)=1002001 * (dd r v * dd r v):=by grind
 have e3:lo * dd r r * (lo * dd r r)=dd r r * (dd r r * (lo * lo)):=by grind
 rw [e1,e3]
 rw [← c] at m3
 omega
theorem two_inn {v r s:Pt} {lo:Int} (hD:0 < xc r s) (hx:0≤xc v s) (hy:0≤xc r v) (hr:dd r r≤1002001) (hs:dd s s≤1002001) (hv:lo * lo≤dd v v):Inn v lo r s (xc r s) (xc v s) (xc r v):=by
 refine ⟨hD,hx,hy,by unfold xc;grind,by unfold xc;grind,?_⟩
 refine le_of_sq (by omega) ?_
 have hrs:dd r s≤1002001:=by
  have:=dd_nonneg (r.1 - s.1,r.2 - s.2)
  have e:dd (r.1 - s.1,r.2 - s.2) (r.1 - s.1,r.2 - s.2)=dd r r+dd s s - 2 * dd r s:=by unfold dd;grind
  omega
 have e:xc r s * xc r s * dd v v=xc v s * xc v s * dd r r+2 * (xc v s * xc r v * dd r s)+xc r v * xc r v * dd s s:=by unfold xc dd;grind
 generalize xc r s=D at *
 generalize xc v s=x at *
 generalize xc r v=y at *
 have m1:=Int.mul_le_mul_of_nonneg_left hr (sq0 x)
 have m2:=Int.mul_le_mul_of_nonneg_left hs (sq0 y)
 have m3:=Int.mul_le_mul_of_nonneg_left hrs (Int.mul_nonneg hx hy)
 have m4:=Int.mul_le_mul_of_nonneg_left hv (sq0 D)
 have e1:lo * D * (lo * D)=D * D * (lo * lo):=by grind
 have e2:1001 * (x+y) * (1001 * (x+y))=x * x * 1002001+2 * (x * y * 1002001)+y * y * 1002001:=by grind
 rw [e1,e2]
 omega
theorem af_of {A B C hi lo:Int} {v r s r' s':Pt} {D x y D' x' y':Int} (hh:0 < hi) (h0:0≤lo) (o:Out v hi r s D x y) (i:Inn v lo r' s' D' x' y')
  (f1:0≤hi * (A * r.1+B * r.2)+998 * C) (f2:0≤hi * (A * s.1+B * s.2)+998 * C) (g1:0≤lo * (A * r'.1+B * r'.2)+1001 * C) (g2:0≤lo * (A * s'.1+B * s'.2)+1001 * C):0≤af A B C v:=by
 by_cases hC:0≤C
 ·have p:=Int.mul_pos hh o.D0
  refine nonneg_of p ?_
  have m1:=Int.mul_nonneg o.x0 f1
  have m2:=Int.mul_nonneg o.y0 f2
  have m3:=Int.mul_le_mul_of_nonneg_right o.le hC
  have e:hi * D * af A B C v=hi * (A * (D * v.1)+B * (D * v.2))+hi * D * C:=by unfold af;grind
  rw [e,o.e1,o.e2]
  have e2:hi * (A * (x * r.1+y * s.1)+B * (x * r.2+y * s.2))=x * (hi * (A * r.1+B * r.2)+998 * C)+y * (hi * (A * s.1+B * s.2)+998 * C) - 998 * (x+y) * C:=by grind
  rw [e2]
  omega
 ·have hl:0 < lo:=by
   by_cases e:lo=0
   ·rw [e,Int.zero_mul] at g1;omega
   ·omega
  have p:=Int.mul_pos hl i.D0
  refine nonneg_of p ?_
  have m1:=Int.mul_nonneg i.x0 g1
  have m2:=Int.mul_nonneg i.y0 g2
  have m3:=Int.mul_le_mul_of_nonpos_right i.ge (show C≤0 by omega)
  have e:lo * D' * af A B C v=lo * (A * (D' * v.1)+B * (D' * v.2))+lo * D' * C:=by unfold af;grind
  rw [e,i.e1,i.e2]
  have e2:lo * (A * (x' * r'.1+y' * s'.1)+B * (x' * r'.2+y' * s'.2))=x' * (lo * (A * r'.1+B * r'.2)+1001 * C)+y' * (lo * (A * s'.1+B * s'.2)+1001 * C) - 1001 * (x'+y') * C:=by grind
  rw [e2]
  omega
theorem Fd.cone {v:Pt} {k:Nat} (f:Fd v k) {a n:Nat} (ha:a < 64) (hn:n≤31) (n0:0 < n) (h:Lies a n v):0≤sd a v∧sd (a+n) v≤0:=by
 have h':=(f.lies_iff ha hn).1 h
 obtain ⟨a1,a2,a3,a4⟩:=f.sign (i:=a) (by omega)
 obtain ⟨b1,b2,b3,b4⟩:=f.sign (i:=a+n) (by omega)
 have g:=f.ge
 have e0:(k+128 - a) % 64=(k+64 - a) % 64:=by omega
 have e:(k+128 - (a+n)) % 64=((k+64 - a) % 64+64 - n) % 64:=by omega
 rw [e] at b1 b2 b3 b4
 rw [e0] at a1 a2 a3 a4
 have hm:=Nat.mod_lt (k+64 - a) (show 0 < 64 by decide)
 clear e e0 h
 generalize (k+64 - a) % 64=d at *
 generalize sd a v=x at *
 generalize sd (a+n) v=y at *
 generalize sd k v=z at *
 refine ⟨?_,?_⟩
 ·by_cases d0:d=0
  ·have:=a1 d0;omega
  ·have:=a3 (by omega) (by omega);omega
 ·by_cases dn:d=n
  ·have:=b1 (by omega);omega
  ·have:=b4 (by omega);omega
theorem sec_has {a n:Nat} {lo hi:Int} {q:List Pt} (ha:a < 64) (hn:n≤31) (h0:0≤lo) (h1:lo≤hi) (h:IsHull (secL a n lo hi) q) {v:Pt} (hv:v ≠ (0,0)) (hl:Lies a n v) (r1:lo * lo≤dd v v) (r2:dd v v≤hi * hi):Hs q v:=by
 obtain ⟨k,f⟩:=found hv
 have hk:=f.lt
 have hh:0 < hi:=by
  by_cases e:hi=0
  ·exfalso
   rw [e] at r2
   unfold dd at r2
   have s1:=sq0 v.1
   have s2:=sq0 v.2
   have t1:v.1 * v.1=0:=by omega
   have t2:v.2 * v.2=0:=by omega
   exact hv (Prod.ext (by rcases Int.mul_eq_zero.1 t1 with e | e <;> exact e) (by rcases Int.mul_eq_zero.1 t2 with e | e <;> exact e))
  ·omega
 refine hs_of_af h.1 fun A B C hf => ?_
 have all:∀ x,x ∈ secL a n lo hi→0≤af A B C x:=fun x hx => by
  obtain ⟨j,hj,e⟩:=hs_least h.1 (h.2.2 x hx) A B C
  have:=hf _ (at_mem hj)
  omega
 have far:∀ i,i≤n→0≤hi * (A * (dir (a+i)).1+B * (dir (a+i)).2)+998 * C:=fun i hi' => box_af (by decide) fun x hx => all x (mem_sec.2 (Or.inr (Or.inr ⟨i,hi',hx⟩)))
 have na:0≤lo * (A * (dir a).1+B * (dir a).2)+1001 * C:=box_af (by decide) fun x hx => all x (mem_sec.2 (Or.inl hx))
 have nb:0≤lo * (A * (dir (a+n)).1+B * (dir (a+n)).2)+1001 * C:=box_af (by decide) fun x hx => all x (mem_sec.2 (Or.inr (Or.inl hx)))
 have hoff:=(f.lies_iff ha hn).1 hl
 obtain ⟨d,hd⟩:∃ d,(k+64 - a) % 64=d:=⟨_,rfl⟩
 rw [hd] at hoff
 have ek:dir (a+d)=dir k:=by rw [← dir_mod (k:=a+d) (by omega),show (a+d) % 64=k by omega]
 have ek1:d < n→dir (a+(d+1))=dir (k+1):=fun _ => by rw [← dir_mod (k:=a+(d+1)) (by omega),← dir_mod (k:=k+1) (by omega),show (a+(d+1)) % 64=(k+1) % 64 by omega]
 have onk:sd k v=0→xc (dir k) v=0∧0 < dd (dir k) v:=fun z => by
  have:=((f.on_iff (i:=k) (by omega)).2 ⟨by omega,z⟩).2
  rw [sd_turned] at this
  exact ⟨z,by omega⟩
 have inn:∃ D x y,Inn v lo (dir a) (dir (a+n)) D x y:=by
  by_cases n0:n=0
  ·subst n0
   have d0:d=0∧sd k v=0:=by omega
   rw [Nat.add_zero]
   have eka:dir a=dir k:=by have:=ek;rw [d0.1,Nat.add_zero] at this;exact this
   rw [eka]
   obtain ⟨z1,z2⟩:=onk d0.2
   exact ⟨_,_,_,on_inn z1 z2 (dir_dd (by omega)) r1⟩
  ·obtain ⟨c1,c2⟩:=f.cone ha hn (by omega) hl
   have D:0 < xc (dir a) (dir (a+n)):=(xc_sign (i:=a) (k:=a+n) (by omega) (by omega)).2.1 (by omega) (by omega)
   have e:xc v (dir (a+n)) = -(sd (a+n) v):=by unfold sd xc;grind
   exact ⟨_,_,_,two_inn D (by rw [e];omega) c1 (dir_dd (by omega)).2 (dir_dd (by omega)).2 r1⟩
 obtain ⟨D',x',y',inn⟩:=inn
 by_cases dn:d < n
 ·have f1:=far d (by omega)
  have f2:=far (d+1) (by omega)
  rw [ek] at f1
  rw [ek1 dn] at f2
  exact af_of hh h0 (f.out (by omega) r2) inn f1 f2 na nb
 ·obtain ⟨dn,z⟩:d=n∧sd k v=0:=by omega
  obtain ⟨z1,z2⟩:=onk z
  have f1:=far d (by omega)
  rw [ek] at f1
  exact af_of hh h0 (on_out z1 z2 (dir_dd (by omega)).1 (by omega) r2) inn f1 f1 na nb
end Ry
end Go.Proofs.YtbpgfenippiepaaGreatDoor
