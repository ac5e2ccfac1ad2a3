/-
  In of the reference of layer 7.
  Valid of the reference of layer 7.
  Few of the reference of layer 7; usable.
  Rectangle of the reference of layer 7.
  What the laws of stage 7 call.
-/
import Derived.Test.YtlookcbokhknfaaGreatRegCon
import Derived.Test.YtlookcbokhknfaaGreatHullIn
import Derived.Test.YtlookcbokhknfaaGreatHullCon
import Derived.Test.YtlookcbokhknfaaGreatHullSl
import Derived.Test.YtlookcbokhknfaaGreatRegHead
import Derived.Test.YtlookcbokhknfaaGreatCutRa
namespace Go.Proofs.YtlookcbokhknfaaGreat
open Go.RowKit Go.Shelf Hl
namespace Rg
set_option maxRecDepth 100000 in
set_option maxHeartbeats 4000000 in
theorem in_c (L:Rgn) (x:Pt) (v:Value) (w:World) (hs:Rl w v L) (hL:AllV L) (hx:Plc x):Calls Tryz.prog 34 #[v,.agg #[.int .i64 x.1,.int .i64 x.2]] w (Tells (InR L x) w):=by
 have LL:=Lib.hid hs.2.1
 obtain ⟨a,c,U,rfl,hU,hSl,hRr⟩:=rl_fun hs
 have SC:Hid (∀ i W,i < L.length→Grew w W→Calls Tryz.prog 79 #[U i,.agg #[.int .i64 x.1,.int .i64 x.2]] W (Tells (Hs (nth L i) x) W)):=Lib.hid (fun i W hi g => by
  have hv:=hL _ (nth_mem hi)
  obtain ⟨b,o,c',e,hr⟩:=((hSl i hi).grown g).row (fun e => by
   have:=hv.1.1
   rw [e] at this
   exact absurd this (by simp))
  rw [e]
  exact inside_any (nth L i) x b o c' W hr hv.2.1 hx hv.1.1 (by have:=hv.1.2;omega))
 have RR:Hid (∀ i W,i < L.length→Grew w W→∃ b o,a=some ⟨b,o,none⟩∧b < W.heap.size∧W.cell? ⟨b,o+i,none⟩=some (U i)):=Lib.hid (fun i W hi g => by
  obtain ⟨b,o,e,hb,z⟩:=hRr i hi
  exact ⟨b,o,e,Nat.lt_of_lt_of_le hb.1 g.size,(Grew.cell g hb.1).trans z⟩)
 have NY:Hid (∀ i,i < L.length→Hs (nth L i) x→InR L x):=Lib.hid (fun i hi h => ⟨_,nth_mem hi,h⟩)
 have NN:Hid ((∀ i,i < L.length→¬ Hs (nth L i) x)→¬ InR L x):=Lib.hid (fun h ⟨p,hp,k⟩ => by
  obtain ⟨i,hi,rfl⟩:=mem_nth hp
  exact h i hi k)
 have B0:=Lib.hid (Blk.new w #[.int .i64 x.1,.int .i64 x.2] 27)
 have G0:Grew w (w.alloc (.cells #[.int .i64 x.1,.int .i64 x.2] 27)):=(Grew.refl w).alloc _ _
 clear hs hU hSl hRr hL hx
 go_enter Tryz.func34,Tryz.ntmps34
 go_wp2_with fail
 go_loopw [5,6] (fun i _ wr => ∃ k:Nat,k≤L.length∧i=.int .i64 k∧Grew (w.alloc (.cells #[.int .i64 x.1,.int .i64 x.2] 27)) wr∧Hid (∀ j,j < k→¬ Hs (nth L j) x)) (fun i _ _ => L.length - (intOf i).toNat)
 case atStart => exact ⟨0,Nat.zero_le _,rfl,Grew.refl _,Lib.hid (fun j hj => by omega)⟩
 case round =>
  obtain ⟨k,hk,rfl,G',D⟩:=hrel
  have G:=Grew.trans G0 G'
  have hz:=LL.out
  by_cases hlt:k < L.length
  ·obtain ⟨b,o,rfl,hb,z0⟩:=RR.out k _ hlt G
   have BW:=Lib.hid (B0.out.grown G')
   obtain ⟨x0,x1⟩:=blk_two BW.out
   have i0:(0:Int)≤(k:Int):=by omega
   have i1:(k:Int) < (L.length:Int):=by omega
   have CC:=Lib.hid (fun W g => SC.out k W hlt (Grew.trans G g))
   go_wp2_with fail
   go_region_held3 (fun w' => w'.cell? ⟨b,o+k,none⟩=some (U k)∧w'.cell? ⟨w.heap.size,0,none⟩=some (.int .i64 x.1)∧w'.cell? ⟨w.heap.size,1,none⟩=some (.int .i64 x.2)) (simp [go_sem, *])
    (first | (go_at_call 79;refine (CC.out _ (by repeat' (first|(with_reducible first|exact Grew.refl _|assumption|refine Grew.alloc ?_ _ _|refine Grew.drew ?_|refine Grew.drewN ?_ _|refine Grew.setCell ?_ ?_ _)|go_size))).mono ?_;rintro e w1 ⟨r,rfl,hr,g1⟩;have GX:Grew wr w1:=Grew.trans (by repeat' (first|(with_reducible first|exact Grew.refl _|assumption|refine Grew.alloc ?_ _ _|refine Grew.drew ?_|refine Grew.drewN ?_ _|refine Grew.setCell ?_ ?_ _)|go_size)) g1;have y0:=(Grew.cell (o:=o+k) GX hb).trans z0;obtain ⟨y1,y2⟩:=blk_two (BW.out.grown GX)))
   have G1:Grew w w1:=Grew.trans G GX
   have G1':=Grew.trans G' GX
   cases r
   ·have F:Hid (¬ Hs (nth L k) x):=Lib.hid (fun e => by
     have:=hr.2 e
     cases this)
    clear hr g1
    go_wp2_with fail
    go_roundw
    case rel => exact ⟨k+1,by omega,by go_num,G1',Lib.hid (fun j hj => by
     by_cases e:j=k
     ·rw [e];exact F.out
     ·exact D.out j (by omega))⟩
    case measure => simp [intOf];omega
   ·have F:=Lib.hid (NY.out k hlt (hr.1 rfl))
    clear hr g1
    go_wp2_with fail
    go_ret
    exact Tells.yes F.out rfl G1
  ·obtain rfl:k=L.length:=by omega
   have F:=Lib.hid (NN.out D.out)
   go_wp2_with fail
   go_ret
   exact Tells.no F.out rfl G
end Rg
end Go.Proofs.YtlookcbokhknfaaGreat
namespace Go.Proofs.YtlookcbokhknfaaGreat
open Go.RowKit Go.Shelf Hl
namespace Rg
set_option maxRecDepth 100000 in
set_option maxHeartbeats 4000000 in
theorem polygons_r (L:Rgn) (v:Value) (w:World) (hs:Rl w v L):Calls Tryz.prog 50 #[v] w (Tells (AllV L) w):=by
 have hB:=hs.2
 have LL:=Lib.hid hB.1
 obtain ⟨a,c,U,rfl,hU,hSl,hRr⟩:=rl_fun hs
 have SC:Hid (∀ i W,i < L.length→Grew w W→Calls Tryz.prog 66 #[U i] W (Tells (Vl (nth L i)) W)):=Lib.hid (fun i W hi g => rvalid_any (nth L i) (U i) W ((hSl i hi).grown g) (hB.2 _ (nth_mem hi)))
 have RR:Hid (∀ i W,i < L.length→Grew w W→∃ b o,a=some ⟨b,o,none⟩∧b < W.heap.size∧W.cell? ⟨b,o+i,none⟩=some (U i)):=Lib.hid (fun i W hi g => by
  obtain ⟨b,o,e,hb,z⟩:=hRr i hi
  exact ⟨b,o,e,Nat.lt_of_lt_of_le hb.1 g.size,(Grew.cell g hb.1).trans z⟩)
 have NN:Hid ((∀ i,i < L.length→Vl (nth L i))→AllV L):=Lib.hid (fun h p hp => by
  obtain ⟨i,hi,rfl⟩:=mem_nth hp
  exact h i hi)
 have NY:Hid (∀ i,i < L.length→¬ Vl (nth L i)→¬ AllV L):=Lib.hid (fun i hi h k => h (k _ (nth_mem hi)))
 clear hs hU hSl hRr hB
 go_enter Tryz.func50,Tryz.ntmps50
 go_wp2_with fail
 go_loopw [3,4] (fun i _ wr => ∃ k:Nat,k≤L.length∧i=.int .i64 k∧Grew w wr∧Hid (∀ j,j < k→Vl (nth L j))) (fun i _ _ => L.length - (intOf i).toNat)
 case atStart => exact ⟨0,Nat.zero_le _,rfl,Grew.refl _,Lib.hid (fun j hj => by omega)⟩
 case round =>
  obtain ⟨k,hk,rfl,G,D⟩:=hrel
  have hz:=LL.out
  by_cases hlt:k < L.length
  ·obtain ⟨b,o,rfl,hb,z0⟩:=RR.out k _ hlt G
   have i0:(0:Int)≤(k:Int):=by omega
   have i1:(k:Int) < (L.length:Int):=by omega
   have CC:=Lib.hid (SC.out k _ hlt G)
   go_wp2_with fail
   refine CC.out.mono ?_
   rintro e w1 ⟨r,rfl,hr,g1⟩
   have G1:Grew w w1:=Grew.trans G g1
   cases r
   ·have F:=Lib.hid (NY.out k hlt (fun e => by
     have:=hr.2 e
     cases this))
    clear hr g1
    go_wp2_with fail
    go_ret
    exact Tells.no F.out rfl G1
   ·have F:=Lib.hid (hr.1 rfl)
    clear hr g1
    go_wp2_with fail
    go_roundw
    case rel => exact ⟨k+1,by omega,by go_num,G1,Lib.hid (fun j hj => by
     by_cases e:j=k
     ·rw [e];exact F.out
     ·exact D.out j (by omega))⟩
    case measure => simp [intOf];omega
  ·obtain rfl:k=L.length:=by omega
   have F:=Lib.hid (NN.out D.out)
   go_wp2_with fail
   go_ret
   exact Tells.yes F.out rfl G
theorem rref_valid (L:Rgn) (v:Value) (w:World) (hs:Rl w v L):Calls Tryz.prog 15 #[v] w (Tells (VlR L) w):=by
 have PC:=Lib.hid (polygons_r L v w hs)
 obtain ⟨a,c,rfl⟩:=hs.shape
 clear hs
 by_cases h:L.length≤32
 ·have hz:(L.length:Int)≤32:=by omega
  have HL:=Lib.hid h
  go_enter Tryz.func15,Tryz.ntmps15
  go_wp2_with fail
  refine PC.out.mono ?_
  rintro e w1 ⟨r,rfl,hr,g1⟩
  have F:Hid (r=true↔VlR L):=Lib.hid ⟨fun e => ⟨HL.out,hr.1 e⟩,fun k => hr.2 k.2⟩
  clear hr
  go_wp2_with fail
  go_ret
  exact ⟨r,rfl,F.out,g1⟩
 ·have hz:¬ (L.length:Int)≤32:=by omega
  have F:Hid (¬ VlR L):=Lib.hid (fun k => h k.1)
  go_enter Tryz.func15,Tryz.ntmps15
  go_wp2_with fail
  go_ret
  exact Tells.no F.out rfl (Grew.refl _)
end Rg
end Go.Proofs.YtlookcbokhknfaaGreat
namespace Go.Proofs.YtlookcbokhknfaaGreat
open Go.RowKit Go.Shelf Hl
namespace Rg
def FewSays (L:Rgn) (w:World) (e:Ending) (w':World):Prop:=∃ r,e=.returned (.bool r)∧(r=true→L.length≤40)∧Grew w w'
set_option maxRecDepth 100000 in
set_option maxHeartbeats 4000000 in
theorem few_r (L:Rgn) (v:Value) (w:World) (hs:Rl w v L):Calls Tryz.prog 11 #[v] w (FewSays L w):=by
 have LL:=Lib.hid hs.2.1
 obtain ⟨a,c,U,rfl,hU,hSl,hRr⟩:=rl_fun hs
 have RR:Hid (∀ i W,i < L.length→Grew w W→∃ b o n a' c',a=some ⟨b,o,none⟩∧b < W.heap.size∧W.cell? ⟨b,o+i,none⟩=some (.slice a' n c')):=Lib.hid (fun i W hi g => by
  obtain ⟨b,o,e,hb,z⟩:=hRr i hi
  obtain ⟨a',n,c',e'⟩:=hU i
  exact ⟨b,o,n,a',c',e,Nat.lt_of_lt_of_le hb.1 g.size,(Grew.cell g hb.1).trans (by rw [z,e'])⟩)
 clear hs hU hSl hRr
 go_enter Tryz.func11,Tryz.ntmps11
 go_wp2_with fail
 go_loopw [3,4] (fun s i wr => ∃ (k:Nat) (z:Int),k≤L.length∧k≤41∧i=.int .i64 k∧s=.int .i64 z∧Grew w wr) (fun _ i _ => L.length - (intOf i).toNat)
 case atStart => exact ⟨0,0,Nat.zero_le _,by omega,rfl,rfl,Grew.refl _⟩
 case round =>
  obtain ⟨k,z,hk,hk2,rfl,rfl,G⟩:=hrel
  have hz:=LL.out
  by_cases hlt:k < L.length
  ·have i1:(k:Int) < (L.length:Int):=by omega
   by_cases h41:k < 41
   ·obtain ⟨b,o,n,a',c',rfl,hb,z0⟩:=RR.out k _ hlt G
    have i0:(0:Int)≤(k:Int):=by omega
    have i2:(k:Int) < 41:=by omega
    go_wp2_with fail
    go_roundw
    case rel => exact ⟨k+1,_,by omega,by omega,by go_num,rfl,G⟩
    case measure => simp [intOf];omega
   ·have i2:¬ (k:Int) < 41:=by omega
    have j1:¬ (L.length:Int)≤40:=by omega
    go_wp2_with fail
    go_ret
    exact ⟨_,rfl,fun h => by (first | cases h | omega),G⟩
  ·obtain rfl:k=L.length:=by omega
   by_cases h40:L.length≤40
   ·have j1:(L.length:Int)≤40:=by omega
    by_cases h300:z≤300
    ·go_wp2_with fail
     go_ret
     exact ⟨_,rfl,fun _ => h40,G⟩
    ·go_wp2_with fail
     go_ret
     exact ⟨_,rfl,fun _ => h40,G⟩
   ·have j1:¬ (L.length:Int)≤40:=by omega
    go_wp2_with fail
    go_ret
    exact ⟨_,rfl,fun h => by (first | cases h | omega),G⟩
end Rg
end Go.Proofs.YtlookcbokhknfaaGreat
namespace Go.Proofs.YtlookcbokhknfaaGreat
open Go.RowKit Go.Shelf Hl
namespace Rg
set_option maxRecDepth 100000 in
set_option maxHeartbeats 4000000 in
theorem rectangle_r (lo hi:Pt) (w:World):Calls Tryz.prog 41 #[.agg #[.int .i64 lo.1,.int .i64 lo.2],.agg #[.int .i64 hi.1,.int .i64 hi.2]] w (Tells (Rect lo hi) w):=by
 have PC:∀ x,Plc x→Hid (∀ W,Calls Tryz.prog 33 #[.agg #[.int .i64 x.1,.int .i64 x.2]] W fun e w' => e=.returned (.bool true)∧Grew W w'):=fun x h => Lib.hid (fun W => place_yes x.1 x.2 W h)
 have PN:∀ x,¬ Plc x→Hid (∀ W,Calls Tryz.prog 33 #[.agg #[.int .i64 x.1,.int .i64 x.2]] W fun e w' => e=.returned (.bool false)∧Grew W w'):=fun x h => Lib.hid (fun W => place_no x.1 x.2 W h)
 have B0:=Lib.hid ((Blk.new w #[.int .i64 lo.1,.int .i64 lo.2] 27).grown ((Grew.refl _).alloc #[.int .i64 hi.1,.int .i64 hi.2] 27))
 have B1:=Lib.hid (Blk.new (w.alloc (.cells #[.int .i64 lo.1,.int .i64 lo.2] 27)) #[.int .i64 hi.1,.int .i64 hi.2] 27)
 rw [World.size_alloc] at B1
 by_cases hlo:Plc lo
 ·have P0:=PC lo hlo
  by_cases hhi:Plc hi
  ·have P1:=PC hi hhi
   by_cases hx:lo.1≤hi.1
   ·by_cases hy:lo.2≤hi.2
    ·have F:=Lib.hid (show Rect lo hi from ⟨⟨hlo,hhi⟩,hx,hy⟩)
     clear PC PN hlo hhi
     go_enter Tryz.func41,Tryz.ntmps41
     go_wp2_with fail
     refine (P0.out _).mono ?_
     rintro e w1 ⟨rfl,g1⟩
     obtain ⟨x0,x1⟩:=blk_two (B0.out.grown g1)
     obtain ⟨y0,y1⟩:=blk_two (B1.out.grown g1)
     go_wp2_with fail
     refine (P1.out _).mono ?_
     rintro e w2 ⟨rfl,g2⟩
     obtain ⟨z0,z1⟩:=blk_two (B0.out.grown (g1.trans g2))
     obtain ⟨u0,u1⟩:=blk_two (B1.out.grown (g1.trans g2))
     clear x0 x1 y0 y1
     go_wp2_with fail
     go_ret
     exact Tells.yes F.out (by first | rfl | simp [hx,hy]) (Grew.trans (((Grew.refl w).alloc _ _).alloc _ _) (g1.trans g2))
    ·have F:=Lib.hid (show ¬ Rect lo hi from fun h => hy h.2.2)
     clear PC PN hlo hhi
     go_enter Tryz.func41,Tryz.ntmps41
     go_wp2_with fail
     refine (P0.out _).mono ?_
     rintro e w1 ⟨rfl,g1⟩
     obtain ⟨x0,x1⟩:=blk_two (B0.out.grown g1)
     obtain ⟨y0,y1⟩:=blk_two (B1.out.grown g1)
     go_wp2_with fail
     refine (P1.out _).mono ?_
     rintro e w2 ⟨rfl,g2⟩
     obtain ⟨z0,z1⟩:=blk_two (B0.out.grown (g1.trans g2))
     obtain ⟨u0,u1⟩:=blk_two (B1.out.grown (g1.trans g2))
     clear x0 x1 y0 y1
     go_wp2_with fail
     go_ret
     exact Tells.no F.out (by first | rfl | simp [hy]) (Grew.trans (((Grew.refl w).alloc _ _).alloc _ _) (g1.trans g2))
   ·have F:=Lib.hid (show ¬ Rect lo hi from fun h => hx h.2.1)
    clear PC PN hlo hhi
    go_enter Tryz.func41,Tryz.ntmps41
    go_wp2_with fail
    refine (P0.out _).mono ?_
    rintro e w1 ⟨rfl,g1⟩
    obtain ⟨x0,x1⟩:=blk_two (B0.out.grown g1)
    obtain ⟨y0,y1⟩:=blk_two (B1.out.grown g1)
    go_wp2_with fail
    refine (P1.out _).mono ?_
    rintro e w2 ⟨rfl,g2⟩
    obtain ⟨z0,z1⟩:=blk_two (B0.out.grown (g1.trans g2))
    obtain ⟨u0,u1⟩:=blk_two (B1.out.grown (g1.trans g2))
    clear x0 x1 y0 y1
    go_wp2_with fail
    go_ret
    exact Tells.no F.out (by first | rfl | simp [hx]) (Grew.trans (((Grew.refl w).alloc _ _).alloc _ _) (g1.trans g2))
  ·have P1:=PN hi hhi
   have F:=Lib.hid (show ¬ Rect lo hi from fun h => hhi h.1.2)
   clear PC PN hlo hhi
   go_enter Tryz.func41,Tryz.ntmps41
   go_wp2_with fail
   refine (P0.out _).mono ?_
   rintro e w1 ⟨rfl,g1⟩
   obtain ⟨x0,x1⟩:=blk_two (B0.out.grown g1)
   obtain ⟨y0,y1⟩:=blk_two (B1.out.grown g1)
   go_wp2_with fail
   refine (P1.out _).mono ?_
   rintro e w2 ⟨rfl,g2⟩
   obtain ⟨z0,z1⟩:=blk_two (B0.out.grown (g1.trans g2))
   obtain ⟨u0,u1⟩:=blk_two (B1.out.grown (g1.trans g2))
   clear x0 x1 y0 y1
   go_wp2_with fail
   go_ret
   exact Tells.no F.out rfl (Grew.trans (((Grew.refl w).alloc _ _).alloc _ _) (g1.trans g2))
 ·have P0:=PN lo hlo
  have F:=Lib.hid (show ¬ Rect lo hi from fun h => hlo h.1.1)
  by_cases hhi:Plc hi
  ·have P1:=PC hi hhi
   clear PC PN hlo hhi
   go_enter Tryz.func41,Tryz.ntmps41
   go_wp2_with fail
   refine (P0.out _).mono ?_
   rintro e w1 ⟨rfl,g1⟩
   obtain ⟨x0,x1⟩:=blk_two (B0.out.grown g1)
   obtain ⟨y0,y1⟩:=blk_two (B1.out.grown g1)
   go_wp2_with fail
   refine (P1.out _).mono ?_
   rintro e w2 ⟨rfl,g2⟩
   obtain ⟨z0,z1⟩:=blk_two (B0.out.grown (g1.trans g2))
   obtain ⟨u0,u1⟩:=blk_two (B1.out.grown (g1.trans g2))
   clear x0 x1 y0 y1
   go_wp2_with fail
   go_ret
   exact Tells.no F.out rfl (Grew.trans (((Grew.refl w).alloc _ _).alloc _ _) (g1.trans g2))
  ·have P1:=PN hi hhi
   clear PC PN hlo hhi
   go_enter Tryz.func41,Tryz.ntmps41
   go_wp2_with fail
   refine (P0.out _).mono ?_
   rintro e w1 ⟨rfl,g1⟩
   obtain ⟨x0,x1⟩:=blk_two (B0.out.grown g1)
   obtain ⟨y0,y1⟩:=blk_two (B1.out.grown g1)
   go_wp2_with fail
   refine (P1.out _).mono ?_
   rintro e w2 ⟨rfl,g2⟩
   obtain ⟨z0,z1⟩:=blk_two (B0.out.grown (g1.trans g2))
   obtain ⟨u0,u1⟩:=blk_two (B1.out.grown (g1.trans g2))
   clear x0 x1 y0 y1
   go_wp2_with fail
   go_ret
   exact Tells.no F.out rfl (Grew.trans (((Grew.refl w).alloc _ _).alloc _ _) (g1.trans g2))
end Rg
end Go.Proofs.YtlookcbokhknfaaGreat
namespace Go.Proofs.YtlookcbokhknfaaGreat
open Go.RowKit Go.Shelf Hl
namespace Rg
open Ct (Hf WF ov)
theorem blk_three {W:World} {B:Nat} {x y z:Value} {t:TypeId} (h:Blk W B #[x,y,z] t):W.cell? ⟨B,0,none⟩=some x∧W.cell? ⟨B,1,none⟩=some y∧W.cell? ⟨B,2,none⟩=some z:=by simp [World.cell?,show W.heap[B]? = _ from h]
theorem place_t (x:Pt) (w:World):Calls Tryz.prog 33 #[.agg #[.int .i64 x.1,.int .i64 x.2]] w (Tells (Plc x) w) :=
 (place_x x w).mono fun _ _ h => ⟨_,h.1,decide_eq_true_iff,h.2⟩
theorem half_t (h:Hf) (w:World):Calls Tryz.prog 37 #[.agg #[.int .i64 h.1,.int .i64 h.2.1,.int .i64 h.2.2]] w (Tells (WF h) w) :=
 (Ct.half_c h w).mono fun _ _ h => ⟨_,h.1,decide_eq_true_iff,h.2⟩
def HasO (L:Rgn) (x:Pt) (w:World) (e:Ending) (w':World):Prop:=∃ r,e=.returned (.tuple #[.bool r,.int .i64 0])∧(r=true↔InR L x)∧Grew w w'
theorem has_ok (K:Code) (L:Rgn) (x:Pt) (v:Value) (w:World) (hs:Rl w v L) (hL:VlR L) (hx:Plc x):Calls Tryz.prog 12 #[v,.agg #[.int .i64 x.1,.int .i64 x.2]] w (HasO L x w) :=
 (K.has L x v w hs).mono fun _ _ h => by
  obtain ⟨r,k,h,e,g⟩:=h
  rcases h with ⟨n,_⟩ | ⟨_,h,rfl⟩
  ·exact absurd ⟨hL,hx⟩ n
  ·exact ⟨r,e,h,g⟩
theorem rl_nat {w:World} {v:Value} {L:Rgn} (h:Rl w v L):∃ a n c,v=.slice a n c∧n=L.length:=by
 obtain ⟨a,c,e⟩:=h.shape
 exact ⟨a,_,c,e,rfl⟩
end Rg
end Go.Proofs.YtlookcbokhknfaaGreat
