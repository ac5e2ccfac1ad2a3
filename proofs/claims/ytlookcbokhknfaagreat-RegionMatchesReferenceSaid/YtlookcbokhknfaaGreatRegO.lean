/-
  The landed package region: isRectangle, outside, Out.
  The landed package region: Has, Within.
-/
import Derived.Test.YtlookcbokhknfaaGreatRegM
namespace Go.Proofs.YtlookcbokhknfaaGreat
open Go.RowKit Go.Shelf Hl
namespace Rg
open Ct (Hf WF LeftS BothS Poly)
set_option maxRecDepth 100000 in
set_option maxHeartbeats 4000000 in
theorem rrect_c (K:Hl.Code) (lo hi:Pt) (w:World):Calls Tryz.prog 68 #[.agg #[.int .i64 lo.1,.int .i64 lo.2],.agg #[.int .i64 hi.1,.int .i64 hi.2]] w (Tells (Rect lo hi) w):=by
 have PC:∀ x,Plc x→Hid (∀ W,Calls Tryz.prog 45 #[.agg #[.int .i64 x.1,.int .i64 x.2]] W fun e w' => e=.returned (.bool true)∧Grew W w'):=fun x h => Lib.hid (fun W => (rplace_c K x W).mono fun _ _ t => t.to h)
 have PN:∀ x,¬ Plc x→Hid (∀ W,Calls Tryz.prog 45 #[.agg #[.int .i64 x.1,.int .i64 x.2]] W fun e w' => e=.returned (.bool false)∧Grew W w'):=fun x h => Lib.hid (fun W => (rplace_c K x W).mono fun _ _ t => t.un h)
 have B0:=Lib.hid ((Blk.new w #[.int .i64 lo.1,.int .i64 lo.2] 27).grown ((Grew.refl _).alloc #[.int .i64 hi.1,.int .i64 hi.2] 27))
 have B1:=Lib.hid (Blk.new (w.alloc (.cells #[.int .i64 lo.1,.int .i64 lo.2] 27)) #[.int .i64 hi.1,.int .i64 hi.2] 27)
 rw [World.size_alloc] at B1
 clear K
 by_cases hlo:Plc lo
 ·have P0:=PC lo hlo
  by_cases hhi:Plc hi
  ·have P1:=PC hi hhi
   by_cases hx:lo.1≤hi.1
   ·by_cases hy:lo.2≤hi.2
    ·have F:=Lib.hid (show Rect lo hi from ⟨⟨hlo,hhi⟩,hx,hy⟩)
     clear PC PN hlo hhi
     go_enter Tryz.func68,Tryz.ntmps68
     go_wp2_with fail
     refine (P0.out _).mono ?_
     rintro e w1 ⟨rfl,g1⟩
     obtain ⟨x0,x1⟩:=blk_two (B0.out.grown g1)
     obtain ⟨y0,y1⟩:=blk_two (B1.out.grown g1)
     go_wp2_with fail
     refine (P1.out _).mono ?_
     rintro e w2 ⟨rfl,g2⟩
     obtain ⟨z0,z1⟩:=blk_two (B0.out.grown (g1.trans g2))
     obtain ⟨u0,u1⟩:=blk_two (B1.out.grown (g1.trans g2))
     clear x0 x1 y0 y1
     go_wp2_with fail
     go_ret
     exact Tells.yes F.out (by first | rfl | simp [hx,hy]) (Grew.trans (((Grew.refl w).alloc _ _).alloc _ _) (g1.trans g2))
    ·have F:=Lib.hid (show ¬ Rect lo hi from fun h => hy h.2.2)
     clear PC PN hlo hhi
     go_enter Tryz.func68,Tryz.ntmps68
     go_wp2_with fail
     refine (P0.out _).mono ?_
     rintro e w1 ⟨rfl,g1⟩
     obtain ⟨x0,x1⟩:=blk_two (B0.out.grown g1)
     obtain ⟨y0,y1⟩:=blk_two (B1.out.grown g1)
     go_wp2_with fail
     refine (P1.out _).mono ?_
     rintro e w2 ⟨rfl,g2⟩
     obtain ⟨z0,z1⟩:=blk_two (B0.out.grown (g1.trans g2))
     obtain ⟨u0,u1⟩:=blk_two (B1.out.grown (g1.trans g2))
     clear x0 x1 y0 y1
     go_wp2_with fail
     go_ret
     exact Tells.no F.out (by first | rfl | simp [hy]) (Grew.trans (((Grew.refl w).alloc _ _).alloc _ _) (g1.trans g2))
   ·have F:=Lib.hid (show ¬ Rect lo hi from fun h => hx h.2.1)
    clear PC PN hlo hhi
    go_enter Tryz.func68,Tryz.ntmps68
    go_wp2_with fail
    refine (P0.out _).mono ?_
    rintro e w1 ⟨rfl,g1⟩
    obtain ⟨x0,x1⟩:=blk_two (B0.out.grown g1)
    obtain ⟨y0,y1⟩:=blk_two (B1.out.grown g1)
    go_wp2_with fail
    refine (P1.out _).mono ?_
    rintro e w2 ⟨rfl,g2⟩
    obtain ⟨z0,z1⟩:=blk_two (B0.out.grown (g1.trans g2))
    obtain ⟨u0,u1⟩:=blk_two (B1.out.grown (g1.trans g2))
    clear x0 x1 y0 y1
    go_wp2_with fail
    go_ret
    exact Tells.no F.out (by first | rfl | simp [hx]) (Grew.trans (((Grew.refl w).alloc _ _).alloc _ _) (g1.trans g2))
  ·have P1:=PN hi hhi
   have F:=Lib.hid (show ¬ Rect lo hi from fun h => hhi h.1.2)
   clear PC PN hlo hhi
   go_enter Tryz.func68,Tryz.ntmps68
   go_wp2_with fail
   refine (P0.out _).mono ?_
   rintro e w1 ⟨rfl,g1⟩
   obtain ⟨x0,x1⟩:=blk_two (B0.out.grown g1)
   obtain ⟨y0,y1⟩:=blk_two (B1.out.grown g1)
   go_wp2_with fail
   refine (P1.out _).mono ?_
   rintro e w2 ⟨rfl,g2⟩
   obtain ⟨z0,z1⟩:=blk_two (B0.out.grown (g1.trans g2))
   obtain ⟨u0,u1⟩:=blk_two (B1.out.grown (g1.trans g2))
   clear x0 x1 y0 y1
   go_wp2_with fail
   go_ret
   exact Tells.no F.out rfl (Grew.trans (((Grew.refl w).alloc _ _).alloc _ _) (g1.trans g2))
 ·have P0:=PN lo hlo
  have F:=Lib.hid (show ¬ Rect lo hi from fun h => hlo h.1.1)
  clear PC PN hlo
  go_enter Tryz.func68,Tryz.ntmps68
  go_wp2_with fail
  refine (P0.out _).mono ?_
  rintro e w1 ⟨rfl,g1⟩
  go_wp2_with fail
  go_ret
  exact Tells.no F.out rfl (Grew.trans (((Grew.refl w).alloc _ _).alloc _ _) g1)
def outH (lo hi:Pt):Nat→List Hf
 | 0 => [(1,0,lo.1 - 1)]
 | 1 => [(-1,0,-hi.1 - 1)]
 | 2 => [(-1,0,-lo.1),(1,0,hi.1),(0,1,lo.2 - 1)]
 | _ => [(-1,0,-lo.1),(1,0,hi.1),(0,-1,-hi.2 - 1)]
def LstO (w:World) (v:Value) (lo hi:Pt):Prop:=∃ (b c:Nat) (U:Nat→Value),v=.slice (some ⟨b,0,none⟩) 4 c∧b < w.heap.size∧(∀ k,IsHd (U k))∧∀ k,k < 4→w.cell? ⟨b,0+k,none⟩=some (U k)∧HSl w (U k) (outH lo hi k)
theorem blk_four {W:World} {B:Nat} {x y z u:Value} {t:TypeId} (h:Blk W B #[x,y,z,u] t):W.cell? ⟨B,0,none⟩=some x∧W.cell? ⟨B,1,none⟩=some y∧W.cell? ⟨B,2,none⟩=some z∧W.cell? ⟨B,3,none⟩=some u:=by simp [World.cell?,show W.heap[B]? = _ from h]
def H3 (w:World) (B:Nat) (h:Hf):Prop:=(w.cell? ⟨B,0,none⟩=some (.int .i64 h.1)∧w.cell? ⟨B,1,none⟩=some (.int .i64 h.2.1)∧w.cell? ⟨B,2,none⟩=some (.int .i64 h.2.2))∧B < w.heap.size
def outU (n:Nat):Nat→Value
 | 0 => .slice (some ⟨n,0,none⟩) 1 1
 | 1 => .slice (some ⟨n+1,0,none⟩) 1 1
 | 2 => .slice (some ⟨n+1+1,0,none⟩) 3 3
 | _ => .slice (some ⟨n+1+1+1,0,none⟩) 3 3
theorem outU_hd (n:Nat):∀ k,IsHd (outU n k)
 | 0 | 1 | 2 | _+3 => ⟨_,_,_,rfl⟩
theorem lstO_of (wc:World) (a b c d:Int):LstO (((((wc.alloc (.cells #[.int .i64 1,.int .i64 0,.int .i64 (a - 1)] 25)).alloc (.cells #[.int .i64 (-1),.int .i64 0,.int .i64 (-c - 1)] 25)).alloc (.cells #[.int .i64 (-1),.int .i64 0,.int .i64 (-a),.int .i64 1,.int .i64 0,.int .i64 c,.int .i64 0,.int .i64 1,.int .i64 (b - 1)] 25)).alloc (.cells #[.int .i64 (-1),.int .i64 0,.int .i64 (-a),.int .i64 1,.int .i64 0,.int .i64 c,.int .i64 0,.int .i64 (-1),.int .i64 (-d - 1)] 25)).alloc (.cells #[.slice (some ⟨wc.heap.size,0,none⟩) 1 1,.slice (some ⟨wc.heap.size+1,0,none⟩) 1 1,.slice (some ⟨wc.heap.size+1+1,0,none⟩) 3 3,.slice (some ⟨wc.heap.size+1+1+1,0,none⟩) 3 3] 71)) (.slice (some ⟨wc.heap.size+1+1+1+1,0,none⟩) 4 4) (a,b) (c,d):=by
 refine ⟨_,4,outU wc.heap.size,rfl,by simp,outU_hd _,fun k hk => ?_⟩
 have three:∀ j,j < 3→j=0∨j=1∨j=2:=fun j hj => by omega
 rcases (show k=0∨k=1∨k=2∨k=3 by omega) with rfl | rfl | rfl | rfl
 ·refine ⟨by simp [outU,go_sem],_,0,1,rfl,(by simp;try omega),fun j hj => ?_⟩
  obtain rfl:j=0:=by simp [outH] at hj;omega
  simp [hth,outH,go_sem]
 ·refine ⟨by simp [outU,go_sem],_,0,1,rfl,(by simp;try omega),fun j hj => ?_⟩
  obtain rfl:j=0:=by simp [outH] at hj;omega
  simp [hth,outH,go_sem]
 ·refine ⟨by simp [outU,go_sem],_,0,3,rfl,(by simp;try omega),fun j hj => ?_⟩
  rcases three j hj with rfl | rfl | rfl <;> simp [hth,outH,go_sem]
 ·refine ⟨by simp [outU,go_sem],_,0,3,rfl,(by simp;try omega),fun j hj => ?_⟩
  rcases three j hj with rfl | rfl | rfl <;> simp [hth,outH,go_sem]
set_option maxRecDepth 100000 in
set_option maxHeartbeats 4000000 in
theorem outside_c (lo hi:Pt) (w:World) (h1:Plc lo) (h2:Plc hi):Calls Tryz.prog 70 #[.agg #[.int .i64 lo.1,.int .i64 lo.2,.int .i64 hi.1,.int .i64 hi.2]] w fun e w' => ∃ v,e=.returned v∧LstO w' v lo hi∧Grew w w':=by
 rcases lo with ⟨a,b⟩
 rcases hi with ⟨c,d⟩
 unfold Plc at h1 h2
 simp only at h1 h2 ⊢
 have e1:IntKind.i64.wrap (-a) = -a:=IntWalk.i64_in _ ⟨by omega,by omega⟩
 have e2:IntKind.i64.wrap (-c) = -c:=IntWalk.i64_in _ ⟨by omega,by omega⟩
 have e3:IntKind.i64.wrap (-d) = -d:=IntWalk.i64_in _ ⟨by omega,by omega⟩
 have e4:IntKind.i64.wrap (a - 1)=a - 1:=IntWalk.i64_in _ ⟨by omega,by omega⟩
 have e5:IntKind.i64.wrap (-c - 1) = -c - 1:=IntWalk.i64_in _ ⟨by omega,by omega⟩
 have e6:IntKind.i64.wrap (b - 1)=b - 1:=IntWalk.i64_in _ ⟨by omega,by omega⟩
 have e7:IntKind.i64.wrap (-d - 1) = -d - 1:=IntWalk.i64_in _ ⟨by omega,by omega⟩
 have hmx:Tryz.prog.follows .mixedOrders=true:=by kernel_rfl
 clear h1 h2
 go_enter Tryz.func70,Tryz.ntmps70
 go_upto_region 1 with fail
 go_cut [3,4] from 5 to 13 (fun s3 s4 wx => ∃ B C,s3=.pointer (some ⟨B,0,none⟩)∧s4=.pointer (some ⟨C,0,none⟩)∧H3 wx B (-1,0,-a)∧H3 wx C (1,0,c)∧Grew (w.alloc (.cells #[.int .i64 a,.int .i64 b,.int .i64 c,.int .i64 d] 81)) wx)
 case first =>
  go_region_o
  all_goals (go_wp2_with fail;go_meet)
  all_goals exact ⟨_,_,rfl,rfl,by unfold H3;simp [go_sem, *],by unfold H3;simp [go_sem, *],(by repeat' (first|(with_reducible first|exact Grew.refl _|assumption|refine Grew.alloc ?_ _ _|refine Grew.drew ?_|refine Grew.drewN ?_ _|refine Grew.setCell ?_ ?_ _)|go_size))⟩
 case rest =>
  obtain ⟨B,C,rfl,rfl,⟨⟨x0,x1,x2⟩,hB⟩,⟨⟨y0,y1,y2⟩,hC⟩,hG⟩:=hcut
  have G0:=Grew.trans ((Grew.refl w).alloc _ _) hG
  obtain ⟨b0,b1,b2,b3⟩:=blk_four ((Blk.new w #[.int .i64 a,.int .i64 b,.int .i64 c,.int .i64 d] 81).grown hG)
  have hw:=hG.size
  rw [World.size_alloc] at hw
  clear hG
  have l0:w.heap.size < wc.heap.size:=(Nat.lt_of_succ_le hw)
  have l1:w.heap.size < wc.heap.size+1:=Nat.lt_add_one_of_lt l0
  have l2:w.heap.size < wc.heap.size+1+1:=Nat.lt_add_one_of_lt l1
  have l3:w.heap.size < wc.heap.size+1+1+1:=Nat.lt_add_one_of_lt l2
  have l4:w.heap.size < wc.heap.size+1+1+1+1:=Nat.lt_add_one_of_lt l3
  have m0:B < wc.heap.size:=hB
  have m1:B < wc.heap.size+1:=Nat.lt_add_one_of_lt m0
  have m2:B < wc.heap.size+1+1:=Nat.lt_add_one_of_lt m1
  have m3:B < wc.heap.size+1+1+1:=Nat.lt_add_one_of_lt m2
  have m4:B < wc.heap.size+1+1+1+1:=Nat.lt_add_one_of_lt m3
  have n0:C < wc.heap.size:=hC
  have n1:C < wc.heap.size+1:=Nat.lt_add_one_of_lt n0
  have n2:C < wc.heap.size+1+1:=Nat.lt_add_one_of_lt n1
  have n3:C < wc.heap.size+1+1+1:=Nat.lt_add_one_of_lt n2
  have n4:C < wc.heap.size+1+1+1+1:=Nat.lt_add_one_of_lt n3
  clear hw hB hC
  go_wp2_with fail
  refine bodyPost_ret (v:=.slice (some ⟨wc.heap.size+1+1+1+1,0,none⟩) 4 4) (by simp [results,Tryz.results70,go_sem]) rfl ⟨_,rfl,lstO_of wc a b c d,(by repeat' (first|(with_reducible first|exact Grew.refl _|assumption|refine Grew.alloc ?_ _ _|refine Grew.drew ?_|refine Grew.drewN ?_ _|refine Grew.setCell ?_ ?_ _)|go_size))⟩
end Rg
end Go.Proofs.YtlookcbokhknfaaGreat
namespace Go.Proofs.YtlookcbokhknfaaGreat
open Go.RowKit Go.Shelf Hl
namespace Rg
theorem has1_c (K:Hl.Code) (p:List Pt) (x:Pt) (u:Value) (r:Bool) (hr:r=true↔Hs p x) (B:Nat) (W:World) (hs:Sl W u p) (hp:Vl p) (hx:Plc x) (hB:Blk W B #[.int .i64 x.1,.int .i64 x.2] 27):Calls Tryz.prog 47 (#[u] ++ #[.pointer (some ⟨B,0,none⟩)]) W fun e w' => e=.returned (.bool r)∧Grew W w':=by
 have HC:Hid (Calls Tryz.prog 48 #[u,.agg #[.int .i64 x.1,.int .i64 x.2]] W fun e w' => e=.returned (.bool r)∧Grew W w'):=Lib.hid ((rhas_c K p x u W hs hp hx).mono fun _ _ t => by
  obtain ⟨r',rfl,h,g⟩:=t
  have:r'=r:=by
   cases r' <;> cases r <;> simp_all
  exact ⟨by rw [this],g⟩)
 obtain ⟨x0,x1⟩:=blk_two hB
 obtain ⟨a,c,rfl⟩:=hs.shape
 have hb:=hB.lt
 clear hs hp hx K hr hB
 simp only [List.append_toArray,List.cons_append,List.nil_append]
 go_enter Tryz.func47,Tryz.ntmps47
 go_wp2_with fail
 refine HC.out.mono ?_
 rintro e w1 ⟨rfl,g1⟩
 go_wp2_with fail
 go_ret
 exact ⟨rfl,g1⟩
theorem within1_c (C:Ct.Code) (q p:List Pt) (u v:Value) (r:Bool) (hr:r=true↔¬ Lies q p) (B:Nat) (W:World) (hs:Sl W u q) (hs2:Sl W v p) (hq:Vl q) (hp:Vl p) (hB:Blk W B #[v] 23):Calls Tryz.prog 73 (#[u] ++ #[.pointer (some ⟨B,0,none⟩)]) W fun e w' => e=.returned (.bool r)∧Grew W w':=by
 have HC:Hid (Calls Tryz.prog 74 #[u,v] W fun e w' => e=.returned (.tuple #[.bool (!r),.int .i64 0])∧Grew W w'):=Lib.hid ((C.within_ok q p u v W hs hs2 hq hp).mono fun _ _ t => by
  obtain ⟨r',rfl,h,g⟩:=t
  have:r' = !r:=by
   have h':r'=true↔Lies q p:=h
   cases r
   ·exact h'.2 (Classical.byContradiction fun n => by have:=hr.2 n;cases this)
   ·have k:¬ r'=true:=fun k => hr.1 rfl (h'.1 k)
    cases r'
    ·rfl
    ·exact absurd rfl k
  exact ⟨by rw [this],g⟩)
 have x0:=hB.one.1
 obtain ⟨a,c,rfl⟩:=hs.shape
 obtain ⟨a2,c2,rfl⟩:=hs2.shape
 have hb:=hB.lt
 clear hs hs2 hp hq C hr hB
 simp only [List.append_toArray,List.cons_append,List.nil_append]
 cases r
 all_goals
  go_enter Tryz.func73,Tryz.ntmps73
  go_wp2_with fail
  refine HC.out.mono ?_
  rintro e w1 ⟨rfl,g1⟩
  go_wp2_with fail
  go_ret
  exact ⟨rfl,g1⟩
set_option maxRecDepth 100000 in
set_option maxHeartbeats 4000000 in
theorem rhasall_c (K:Hl.Code) (L:Rgn) (x:Pt) (v:Value) (w:World) (hs:Rl w v L):Calls Tryz.prog 12 #[v,.agg #[.int .i64 x.1,.int .i64 x.2]] w (AnsB (HasP L x) w):=by
 have VC:=Lib.hid (fun W (g:Grew w W) => rvalid_c K L v W (hs.grown g))
 have UC:=Lib.hid (fun W (g:Grew w W) => rplace_c K x W)
 have B0:=Lib.hid (Blk.new w #[.int .i64 x.1,.int .i64 x.2] 27)
 have G0:Grew w (w.alloc (.cells #[.int .i64 x.1,.int .i64 x.2] 27)):=(Grew.refl w).alloc _ _
 by_cases hV:VlR L
 ·have VC:Hid (∀ W,Grew w W→Calls Tryz.prog 14 #[v] W fun e w' => e=.returned (.bool true)∧Grew W w'):=Lib.hid (fun W g => (VC.out W g).mono fun _ _ t => t.to hV)
  by_cases hM:Plc x
  ·have UC:Hid (∀ W,Grew w W→Calls Tryz.prog 45 #[.agg #[.int .i64 x.1,.int .i64 x.2]] W fun e w' => e=.returned (.bool true)∧Grew W w'):=Lib.hid (fun W g => (UC.out W g).mono fun _ _ t => t.to hM)
   have MC:Hid (∀ W,Grew w W→Blk W w.heap.size #[.int .i64 x.1,.int .i64 x.2] 27→Calls Tryz.prog 46 #[v,.func (.func 47) #[] #[.pointer (some ⟨w.heap.size,0,none⟩)]] W (Tells (InR L x) W)):=Lib.hid (fun W g hB => by
    obtain ⟨d,hd⟩:∃ d:Nat→Bool,∀ i,d i=true↔Hs (nth L i) x:=⟨fun i => @decide _ (Classical.propDecidable (Hs (nth L i) x)),fun i => @decide_eq_true_iff _ (Classical.propDecidable _)⟩
    refine (contains_r 47 #[.pointer (some ⟨w.heap.size,0,none⟩)] (enters_of Tryz.func47 (by kernel_rfl) rfl) d L v W (hs.grown g) (by have:=hV.1;omega) (fun i u W' hi g' hu => has1_c K (nth L i) x u (d i) (hd i) w.heap.size W' hu (hV.2 _ (nth_mem hi)) hM (hB.grown g'))).mono ?_
    rintro e w' ⟨r,rfl,hr,g⟩
    refine ⟨r,rfl,hr.trans ?_,g⟩
    constructor
    ·rintro ⟨i,hi,h⟩
     exact ⟨_,nth_mem hi,(hd i).1 h⟩
    ·rintro ⟨p,hp,h⟩
     obtain ⟨i,hi,rfl⟩:=mem_nth hp
     exact ⟨i,hi,(hd i).2 h⟩)
   have HM:=Lib.hid (And.intro hV hM)
   obtain ⟨a,c,rfl⟩:=hs.shape
   clear hs hV hM K
   go_enter Tryz.func12,Tryz.ntmps12
   go_wp2_with fail
   refine (VC.out _ G0).mono ?_
   rintro e w1 ⟨rfl,g1⟩
   have B1:=Lib.hid (B0.out.grown g1)
   have G1:=Grew.trans G0 g1
   obtain ⟨x0,x1⟩:=blk_two B1.out
   clear g1
   go_wp2_with fail
   refine (UC.out _ G1).mono ?_
   rintro e w2 ⟨rfl,g2⟩
   have B2:=Lib.hid (B1.out.grown g2)
   have G2:=Grew.trans G1 g2
   clear g2
   go_wp2_with fail
   refine (MC.out _ G2 B2.out).mono ?_
   rintro e w3 ⟨r,rfl,hr,g3⟩
   have HR:=Lib.hid hr
   have G3:=Grew.trans G2 g3
   clear hr
   go_wp2_with fail
   go_ret2
   exact ⟨_,_,Or.inr ⟨HM.out,HR.out,rfl⟩,rfl,G3⟩
  ·have HM:=Lib.hid hM
   have UC:Hid (∀ W,Grew w W→Calls Tryz.prog 45 #[.agg #[.int .i64 x.1,.int .i64 x.2]] W fun e w' => e=.returned (.bool false)∧Grew W w'):=Lib.hid (fun W g => (UC.out W g).mono fun _ _ t => t.un hM)
   obtain ⟨a,c,rfl⟩:=hs.shape
   clear hs hV hM K
   go_enter Tryz.func12,Tryz.ntmps12
   go_wp2_with fail
   refine (VC.out _ G0).mono ?_
   rintro e w1 ⟨rfl,g1⟩
   have B1:=Lib.hid (B0.out.grown g1)
   have G1:=Grew.trans G0 g1
   obtain ⟨x0,x1⟩:=blk_two B1.out
   clear g1
   go_wp2_with fail
   refine (UC.out _ G1).mono ?_
   rintro e w2 ⟨rfl,g2⟩
   go_wp2_with fail
   go_ret2
   exact ⟨_,_,Or.inl ⟨fun h => HM.out h.2,rfl,rfl⟩,rfl,Grew.trans G1 g2⟩
 ·have HV:=Lib.hid hV
  have VC:Hid (∀ W,Grew w W→Calls Tryz.prog 14 #[v] W fun e w' => e=.returned (.bool false)∧Grew W w'):=Lib.hid (fun W g => (VC.out W g).mono fun _ _ t => t.un hV)
  obtain ⟨a,c,rfl⟩:=hs.shape
  clear hs hV K
  go_enter Tryz.func12,Tryz.ntmps12
  go_wp2_with fail
  refine (VC.out _ G0).mono ?_
  rintro e w1 ⟨rfl,g1⟩
  go_wp2_with fail
  go_ret2
  exact ⟨_,_,Or.inl ⟨fun h => HV.out h.1,rfl,rfl⟩,rfl,Grew.trans G0 g1⟩
set_option maxRecDepth 100000 in
set_option maxHeartbeats 4000000 in
theorem rwithin_c (K:Hl.Code) (C:Ct.Code) (L:Rgn) (p:List Pt) (v u:Value) (w:World) (hs:Rl w v L) (hs2:Sl w u p) (hl:p.length≤9223372036854775807):Calls Tryz.prog 29 #[v,u] w (AnsB (WitP L p) w):=by
 have VC:=Lib.hid (fun W (g:Grew w W) => rvalid_c K L v W (hs.grown g))
 have UC:=Lib.hid (fun W (g:Grew w W) => K.valid p u W (hs2.grown g) hl)
 have B0:=Lib.hid (Blk.new w #[u] 23)
 have G0:Grew w (w.alloc (.cells #[u] 23)):=(Grew.refl w).alloc _ _
 by_cases hV:VlR L
 ·have VC:Hid (∀ W,Grew w W→Calls Tryz.prog 14 #[v] W fun e w' => e=.returned (.bool true)∧Grew W w'):=Lib.hid (fun W g => (VC.out W g).mono fun _ _ t => t.to hV)
  by_cases hM:Vl p
  ·have UC:Hid (∀ W,Grew w W→Calls Tryz.prog 63 #[u] W fun e w' => e=.returned (.bool true)∧Grew W w'):=Lib.hid (fun W g => (UC.out W g).mono fun _ _ t => t.to hM)
   have MC:Hid (∀ W,Grew w W→Blk W w.heap.size #[u] 23→Calls Tryz.prog 46 #[v,.func (.func 73) #[] #[.pointer (some ⟨w.heap.size,0,none⟩)]] W (Tells (∃ i,i < L.length∧¬ Lies (nth L i) p) W)):=Lib.hid (fun W g hB => by
    obtain ⟨d,hd⟩:∃ d:Nat→Bool,∀ i,d i=true↔¬ Lies (nth L i) p:=⟨fun i => @decide _ (Classical.propDecidable (¬ Lies (nth L i) p)),fun i => @decide_eq_true_iff _ (Classical.propDecidable _)⟩
    refine (contains_r 73 #[.pointer (some ⟨w.heap.size,0,none⟩)] (enters_of Tryz.func73 (by kernel_rfl) rfl) d L v W (hs.grown g) (by have:=hV.1;omega) (fun i u' W' hi g' hu => within1_c C (nth L i) p u' u (d i) (hd i) w.heap.size W' hu (hs2.grown (g.trans g')) (hV.2 _ (nth_mem hi)) hM (hB.grown g'))).mono ?_
    rintro e w' ⟨r,rfl,hr,g⟩
    refine ⟨r,rfl,hr.trans ?_,g⟩
    exact ⟨fun ⟨i,hi,h⟩ => ⟨i,hi,(hd i).1 h⟩,fun ⟨i,hi,h⟩ => ⟨i,hi,(hd i).2 h⟩⟩)
   have HM:=Lib.hid (And.intro hV hM)
   obtain ⟨a,c,rfl⟩:=hs.shape
   obtain ⟨a2,c2,rfl⟩:=hs2.shape
   clear hs hV hM hs2 hl C K
   go_enter Tryz.func29,Tryz.ntmps29
   go_wp2_with fail
   refine (VC.out _ G0).mono ?_
   rintro e w1 ⟨rfl,g1⟩
   have B1:=Lib.hid (B0.out.grown g1)
   have G1:=Grew.trans G0 g1
   have x0:=B1.out.one.1
   clear g1
   go_wp2_with fail
   refine (UC.out _ G1).mono ?_
   rintro e w2 ⟨rfl,g2⟩
   have B2:=Lib.hid (B1.out.grown g2)
   have G2:=Grew.trans G1 g2
   clear g2
   go_wp2_with fail
   refine (MC.out _ G2 B2.out).mono ?_
   rintro e w3 ⟨r,rfl,hr,g3⟩
   have HR:=Lib.hid hr
   have G3:=Grew.trans G2 g3
   clear hr
   cases r
   ·have F:Hid (∀ q,q ∈ L→Lies q p):=Lib.hid (fun q hq => by
     obtain ⟨i,hi,rfl⟩:=mem_nth hq
     apply Classical.byContradiction
     intro h
     have:=HR.out.2 ⟨i,hi,h⟩
     cases this)
    clear HR
    go_wp2_with fail
    go_ret2
    exact ⟨_,_,Or.inr ⟨HM.out,⟨fun _ => F.out,fun _ => rfl⟩,rfl⟩,rfl,G3⟩
   ·have F:Hid (¬ ∀ q,q ∈ L→Lies q p):=Lib.hid (fun h => by
     obtain ⟨i,hi,h'⟩:=HR.out.1 rfl
     exact h' (h _ (nth_mem hi)))
    clear HR
    go_wp2_with fail
    go_ret2
    exact ⟨_,_,Or.inr ⟨HM.out,⟨fun e => (by cases e),fun h => absurd h F.out⟩,rfl⟩,rfl,G3⟩
  ·have HM:=Lib.hid hM
   have UC:Hid (∀ W,Grew w W→Calls Tryz.prog 63 #[u] W fun e w' => e=.returned (.bool false)∧Grew W w'):=Lib.hid (fun W g => (UC.out W g).mono fun _ _ t => t.un hM)
   obtain ⟨a,c,rfl⟩:=hs.shape
   obtain ⟨a2,c2,rfl⟩:=hs2.shape
   clear hs hV hM hs2 hl C K
   go_enter Tryz.func29,Tryz.ntmps29
   go_wp2_with fail
   refine (VC.out _ G0).mono ?_
   rintro e w1 ⟨rfl,g1⟩
   have B1:=Lib.hid (B0.out.grown g1)
   have G1:=Grew.trans G0 g1
   have x0:=B1.out.one.1
   clear g1
   go_wp2_with fail
   refine (UC.out _ G1).mono ?_
   rintro e w2 ⟨rfl,g2⟩
   go_wp2_with fail
   go_ret2
   exact ⟨_,_,Or.inl ⟨fun h => HM.out h.2,rfl,rfl⟩,rfl,Grew.trans G1 g2⟩
 ·have HV:=Lib.hid hV
  have VC:Hid (∀ W,Grew w W→Calls Tryz.prog 14 #[v] W fun e w' => e=.returned (.bool false)∧Grew W w'):=Lib.hid (fun W g => (VC.out W g).mono fun _ _ t => t.un hV)
  obtain ⟨a,c,rfl⟩:=hs.shape
  obtain ⟨a2,c2,rfl⟩:=hs2.shape
  clear hs hV hs2 hl C K
  go_enter Tryz.func29,Tryz.ntmps29
  go_wp2_with fail
  refine (VC.out _ G0).mono ?_
  rintro e w1 ⟨rfl,g1⟩
  go_wp2_with fail
  go_ret2
  exact ⟨_,_,Or.inl ⟨fun h => HV.out h.1,rfl,rfl⟩,rfl,Grew.trans G0 g1⟩
end Rg
end Go.Proofs.YtlookcbokhknfaaGreat
