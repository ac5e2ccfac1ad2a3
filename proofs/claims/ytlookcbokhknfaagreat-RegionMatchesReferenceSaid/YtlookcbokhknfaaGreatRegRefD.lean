/-
  The reference of layer 7: Has, Tidy, Join, Cut, Lies, Within.
  The reference of layer 7: Meet.
  The reference of layer 7: Sum.
-/
import Derived.Test.YtlookcbokhknfaaGreatRegRefA
import Derived.Test.YtlookcbokhknfaaGreatMinkPlus
import Derived.Test.YtlookcbokhknfaaGreatMinkHul
namespace Go.Proofs.YtlookcbokhknfaaGreat
open Go.RowKit Go.Shelf Hl
namespace Rg
open Ct (Hf WF ov)
theorem not_of {q:Prop} (h:false=true↔q):¬ q:=fun k => absurd (h.2 k) (by decide)
set_option maxRecDepth 100000 in
set_option maxHeartbeats 4000000 in
theorem has_f (L:Rgn) (x:Pt) (v:Value) (w:World) (hs:Rl w v L):Calls Tryz.prog 13 #[v,.agg #[.int .i64 x.1,.int .i64 x.2]] w (AnsB (HasP L x) w):=by
 have R:=Lib.hid hs
 clear hs
 have BK00:=Lib.hid ((Blk.new (w) #[.int .i64 x.1,.int .i64 x.2] 27))
 have GW0:Grew w (w.alloc (.cells #[.int .i64 x.1,.int .i64 x.2] 27)):=(by repeat' (first|(with_reducible first|exact Grew.refl _|assumption|refine Grew.alloc ?_ _ _|refine Grew.drew ?_|refine Grew.drewN ?_ _|refine Grew.setCell ?_ ?_ _)|go_size))
 have G0:Grew (w.alloc (.cells #[.int .i64 x.1,.int .i64 x.2] 27)) (w.alloc (.cells #[.int .i64 x.1,.int .i64 x.2] 27)):=Grew.refl _
 have R0:=Lib.hid (R.out.grown (w':=(w.alloc (.cells #[.int .i64 x.1,.int .i64 x.2] 27))) (by repeat' (first|(with_reducible first|exact Grew.refl _|assumption|refine Grew.alloc ?_ _ _|refine Grew.drew ?_|refine Grew.drewN ?_ _|refine Grew.setCell ?_ ?_ _)|go_size)))
 go_enter Tryz.func13,Tryz.ntmps13
 go_wp2_with fail
 refine (rref_valid L _ _ R0.out).mono ?_
 rintro e w1 ⟨r1,rfl,h1,g1⟩
 have D1:Grew (w.alloc (.cells #[.int .i64 x.1,.int .i64 x.2] 27)) w1:=Grew.trans (by repeat' (first|(with_reducible first|exact Grew.refl _|assumption|refine Grew.alloc ?_ _ _|refine Grew.drew ?_|refine Grew.drewN ?_ _|refine Grew.setCell ?_ ?_ _)|go_size)) g1
 have G1:Grew (w.alloc (.cells #[.int .i64 x.1,.int .i64 x.2] 27)) w1:=Grew.trans G0 D1
 have R1:=Lib.hid (R0.out.grown D1)
 have BK01:=Lib.hid (BK00.out.grown D1)
 clear R0 BK00
 clear g1 D1 G0
 obtain ⟨x00,x01⟩:=blk_two BK01.out
 have H1:=Lib.hid h1
 clear h1
 go_wp2_with fail
 refine (place_t x _).mono ?_
 rintro e w2 ⟨r2,rfl,h2,g2⟩
 have D2:Grew w1 w2:=Grew.trans (by repeat' (first|(with_reducible first|exact Grew.refl _|assumption|refine Grew.alloc ?_ _ _|refine Grew.drew ?_|refine Grew.drewN ?_ _|refine Grew.setCell ?_ ?_ _)|go_size)) g2
 have G2:Grew (w.alloc (.cells #[.int .i64 x.1,.int .i64 x.2] 27)) w2:=Grew.trans G1 D2
 have R2:=Lib.hid (R1.out.grown D2)
 have BK02:=Lib.hid (BK01.out.grown D2)
 clear R1 BK01
 clear g2 D2 G1
 clear x00 x01
 obtain ⟨x00,x01⟩:=blk_two BK02.out
 have H2:=Lib.hid h2
 clear h2
 cases r1
 ·have F:=Lib.hid (not_of H1.out)
  clear H1 H2
  go_wp2_with fail
  go_ret2
  exact ⟨false,1,Or.inl ⟨(fun h => F.out h.1),rfl,rfl⟩,rfl,GW0.trans G2⟩
 cases r2
 ·have F:=Lib.hid (not_of H2.out)
  clear H1 H2
  go_wp2_with fail
  go_ret2
  exact ⟨false,1,Or.inl ⟨(fun h => F.out h.2),rfl,rfl⟩,rfl,GW0.trans G2⟩
 have A1:=Lib.hid (H1.out.1 rfl)
 have A2:=Lib.hid (H2.out.1 rfl)
 clear H1 H2
 go_wp2_with fail
 refine (in_c L x _ _ R2.out A1.out.2 A2.out).mono ?_
 rintro e w3 ⟨r3,rfl,h3,g3⟩
 have D3:Grew w2 w3:=Grew.trans (by repeat' (first|(with_reducible first|exact Grew.refl _|assumption|refine Grew.alloc ?_ _ _|refine Grew.drew ?_|refine Grew.drewN ?_ _|refine Grew.setCell ?_ ?_ _)|go_size)) g3
 have G3:Grew (w.alloc (.cells #[.int .i64 x.1,.int .i64 x.2] 27)) w3:=Grew.trans G2 D3
 have R3:=Lib.hid (R2.out.grown D3)
 have BK03:=Lib.hid (BK02.out.grown D3)
 clear R2 BK02
 clear g3 D3 G2
 clear x00 x01
 obtain ⟨x00,x01⟩:=blk_two BK03.out
 have H3:=Lib.hid h3
 clear h3
 go_wp2_with fail
 go_ret2
 exact ⟨r3,0,Or.inr ⟨⟨A1.out,A2.out⟩,H3.out,rfl⟩,rfl,GW0.trans G3⟩
set_option maxRecDepth 100000 in
set_option maxHeartbeats 4000000 in
theorem tidy_f (L:Rgn) (v:Value) (w:World) (hs:Rl w v L):Calls Tryz.prog 17 #[v] w (AnsR (TidP L) w):=by
 have R:=Lib.hid hs
 obtain ⟨a,n,c,rfl,en⟩:=rl_nat hs
 have EN:=Lib.hid en
 clear hs en
 by_cases h4:(4000:Int) < (n:Int)
 ·have F:Hid (¬ (L.length≤4000∧AllV L)):=Lib.hid (fun h => by have:=EN.out;have:=h.1;omega)
  go_enter Tryz.func17,Tryz.ntmps17
  go_wp2_with fail
  go_ret2
  exact ⟨_,1,[],Or.inl ⟨F.out,rfl,rfl⟩,rfl,Rl.nil _ none 0,Grew.refl _⟩
 ·have HN:Hid (L.length≤4000):=Lib.hid (by have:=EN.out;omega)
  go_enter Tryz.func17,Tryz.ntmps17
  go_wp2_with fail
  refine (polygons_r L _ _ R.out).mono ?_
  rintro e w1 ⟨r1,rfl,h1,g1⟩
  have H1:=Lib.hid h1
  clear h1
  cases r1
  ·have F:Hid (¬ (L.length≤4000∧AllV L)):=Lib.hid (fun h => absurd (H1.out.2 h.2) (by decide))
   clear H1
   go_wp2_with fail
   go_ret2
   exact ⟨_,1,[],Or.inl ⟨F.out,rfl,rfl⟩,rfl,Rl.nil _ none 0,g1⟩
  ·have VV:Hid (AllV L):=Lib.hid (H1.out.1 rfl)
   have R1:=Lib.hid (R.out.grown g1)
   clear H1
   go_wp2_with fail
   refine (tidied_r L _ _ R1.out VV.out HN.out).mono ?_
   rintro e w2 ⟨u2,r,ht,rfl,hr,g2⟩
   have T2:=Lib.hid ht
   have R2:=Lib.hid hr
   clear ht hr
   go_wp2_with fail
   go_ret2
   exact ⟨_,0,r,Or.inr ⟨⟨HN.out,VV.out⟩,rfl,L,rfl,T2.out⟩,rfl,R2.out,Grew.trans g1 g2⟩
set_option maxRecDepth 100000 in
set_option maxHeartbeats 4000000 in
theorem join_f (L M:Rgn) (v u:Value) (w:World) (hs:Rl w v L) (hu:Rl w u M):Calls Tryz.prog 20 #[v,u] w (AnsR (JoiP L M) w):=by
 have R:=Lib.hid hs
 have S:=Lib.hid hu
 clear hs hu
 have G0:Grew w w:=Grew.refl _
 have R0:=R
 have S0:=S
 go_enter Tryz.func20,Tryz.ntmps20
 go_wp2_with fail
 refine (rref_valid L _ _ R0.out).mono ?_
 rintro e w1 ⟨r1,rfl,h1,g1⟩
 have D1:Grew w w1:=Grew.trans (by repeat' (first|(with_reducible first|exact Grew.refl _|assumption|refine Grew.alloc ?_ _ _|refine Grew.drew ?_|refine Grew.drewN ?_ _|refine Grew.setCell ?_ ?_ _)|go_size)) g1
 have G1:Grew w w1:=Grew.trans G0 D1
 have R1:=Lib.hid (R0.out.grown D1)
 have S1:=Lib.hid (S0.out.grown D1)
 clear R0 S0
 clear g1 D1 G0
 have H1:=Lib.hid h1
 clear h1
 go_wp2_with fail
 refine (rref_valid M _ _ S1.out).mono ?_
 rintro e w2 ⟨r2,rfl,h2,g2⟩
 have D2:Grew w1 w2:=Grew.trans (by repeat' (first|(with_reducible first|exact Grew.refl _|assumption|refine Grew.alloc ?_ _ _|refine Grew.drew ?_|refine Grew.drewN ?_ _|refine Grew.setCell ?_ ?_ _)|go_size)) g2
 have G2:Grew w w2:=Grew.trans G1 D2
 have R2:=Lib.hid (R1.out.grown D2)
 have S2:=Lib.hid (S1.out.grown D2)
 clear R1 S1
 clear g2 D2 G1
 have H2:=Lib.hid h2
 clear h2
 cases r1
 ·have F:=Lib.hid (not_of H1.out)
  clear H1 H2
  go_wp2_with fail
  go_ret2
  exact ⟨_,1,[],Or.inl ⟨(fun h => F.out h.1),rfl,rfl⟩,rfl,Rl.nil _ none 0,G2⟩
 cases r2
 ·have F:=Lib.hid (not_of H2.out)
  clear H1 H2
  go_wp2_with fail
  go_ret2
  exact ⟨_,1,[],Or.inl ⟨(fun h => F.out h.2),rfl,rfl⟩,rfl,Rl.nil _ none 0,G2⟩
 have A1:=Lib.hid (H1.out.1 rfl)
 have A2:=Lib.hid (H2.out.1 rfl)
 clear H1 H2
 go_wp2_with fail
 refine (both_r L M _ _ _ R2.out S2.out A1.out.2 A2.out.2 A1.out.1 A2.out.1).mono ?_
 rintro e w3 ⟨u3,r3,ht,rfl,hr,g3⟩
 have TT:=Lib.hid ht
 have RR:=Lib.hid hr
 clear ht hr
 go_wp2_with fail
 go_ret2
 exact ⟨_,0,r3,Or.inr ⟨⟨A1.out,A2.out⟩,rfl,TT.out⟩,rfl,RR.out,(Grew.trans G2 g3)⟩
set_option maxRecDepth 100000 in
set_option maxHeartbeats 4000000 in
theorem cut_f (L:Rgn) (h:Hf) (v:Value) (w:World) (hs:Rl w v L):Calls Tryz.prog 22 #[v,.agg #[.int .i64 h.1,.int .i64 h.2.1,.int .i64 h.2.2]] w (AnsR (CutP L h) w):=by
 have R:=Lib.hid hs
 clear hs
 have BK00:=Lib.hid ((Blk.new (w) #[.int .i64 h.1,.int .i64 h.2.1,.int .i64 h.2.2] 25))
 have GW0:Grew w (w.alloc (.cells #[.int .i64 h.1,.int .i64 h.2.1,.int .i64 h.2.2] 25)):=(by repeat' (first|(with_reducible first|exact Grew.refl _|assumption|refine Grew.alloc ?_ _ _|refine Grew.drew ?_|refine Grew.drewN ?_ _|refine Grew.setCell ?_ ?_ _)|go_size))
 have G0:Grew (w.alloc (.cells #[.int .i64 h.1,.int .i64 h.2.1,.int .i64 h.2.2] 25)) (w.alloc (.cells #[.int .i64 h.1,.int .i64 h.2.1,.int .i64 h.2.2] 25)):=Grew.refl _
 have R0:=Lib.hid (R.out.grown (w':=(w.alloc (.cells #[.int .i64 h.1,.int .i64 h.2.1,.int .i64 h.2.2] 25))) (by repeat' (first|(with_reducible first|exact Grew.refl _|assumption|refine Grew.alloc ?_ _ _|refine Grew.drew ?_|refine Grew.drewN ?_ _|refine Grew.setCell ?_ ?_ _)|go_size)))
 go_enter Tryz.func22,Tryz.ntmps22
 go_wp2_with fail
 refine (rref_valid L _ _ R0.out).mono ?_
 rintro e w1 ⟨r1,rfl,h1,g1⟩
 have D1:Grew (w.alloc (.cells #[.int .i64 h.1,.int .i64 h.2.1,.int .i64 h.2.2] 25)) w1:=Grew.trans (by repeat' (first|(with_reducible first|exact Grew.refl _|assumption|refine Grew.alloc ?_ _ _|refine Grew.drew ?_|refine Grew.drewN ?_ _|refine Grew.setCell ?_ ?_ _)|go_size)) g1
 have G1:Grew (w.alloc (.cells #[.int .i64 h.1,.int .i64 h.2.1,.int .i64 h.2.2] 25)) w1:=Grew.trans G0 D1
 have R1:=Lib.hid (R0.out.grown D1)
 have BK01:=Lib.hid (BK00.out.grown D1)
 clear R0 BK00
 clear g1 D1 G0
 obtain ⟨x00,x01,x02⟩:=blk_three BK01.out
 have H1:=Lib.hid h1
 clear h1
 go_wp2_with fail
 refine (half_t h _).mono ?_
 rintro e w2 ⟨r2,rfl,h2,g2⟩
 have D2:Grew w1 w2:=Grew.trans (by repeat' (first|(with_reducible first|exact Grew.refl _|assumption|refine Grew.alloc ?_ _ _|refine Grew.drew ?_|refine Grew.drewN ?_ _|refine Grew.setCell ?_ ?_ _)|go_size)) g2
 have G2:Grew (w.alloc (.cells #[.int .i64 h.1,.int .i64 h.2.1,.int .i64 h.2.2] 25)) w2:=Grew.trans G1 D2
 have R2:=Lib.hid (R1.out.grown D2)
 have BK02:=Lib.hid (BK01.out.grown D2)
 clear R1 BK01
 clear g2 D2 G1
 clear x00 x01 x02
 obtain ⟨x00,x01,x02⟩:=blk_three BK02.out
 have H2:=Lib.hid h2
 clear h2
 cases r1
 ·have F:=Lib.hid (not_of H1.out)
  clear H1 H2
  go_wp2_with fail
  go_ret2
  exact ⟨_,1,[],Or.inl ⟨(fun hh => F.out hh.1),rfl,rfl⟩,rfl,Rl.nil _ none 0,GW0.trans G2⟩
 cases r2
 ·have F:=Lib.hid (not_of H2.out)
  clear H1 H2
  go_wp2_with fail
  go_ret2
  exact ⟨_,1,[],Or.inl ⟨(fun hh => F.out hh.2),rfl,rfl⟩,rfl,Rl.nil _ none 0,GW0.trans G2⟩
 have A1:=Lib.hid (H1.out.1 rfl)
 have A2:=Lib.hid (H2.out.1 rfl)
 clear H1 H2
 go_wp2_with fail
 refine (cutby_r L h _ _ R2.out A1.out.2 A2.out (by have:=A1.out.1;omega)).mono ?_
 rintro e w3 ⟨u3,r3,ht,rfl,hr,g3⟩
 have TT:=Lib.hid ht
 have RR:=Lib.hid hr
 clear ht hr
 go_wp2_with fail
 go_ret2
 exact ⟨_,0,r3,Or.inr ⟨⟨A1.out,A2.out⟩,rfl,TT.out⟩,rfl,RR.out,(GW0.trans (Grew.trans G2 g3))⟩
set_option maxRecDepth 100000 in
set_option maxHeartbeats 4000000 in
theorem lies7_r (L:Rgn) (p:List Pt) (v u:Value) (w:World) (hs:Rl w v L) (hu:Sl w u p) (hL:AllV L) (hp:Vl p):Calls Tryz.prog 75 #[v,u] w (Tells (∀ q,q ∈ L→Lies q p) w):=by
 have LL:=Lib.hid hs.2.1
 obtain ⟨a,c,U,rfl,hU,hSl,hRr⟩:=rl_fun hs
 have SC:Hid (∀ i W,i < L.length→Grew w W→Calls Tryz.prog 35 #[U i,u] W (Tells (Lies (nth L i) p) W)):=Lib.hid (fun i W hi g => lies_rl _ _ _ _ W ((hSl i hi).grown g) (hu.grown g) (hL _ (nth_mem hi)) hp)
 have RR:Hid (∀ i W,i < L.length→Grew w W→∃ b o,a=some ⟨b,o,none⟩∧b < W.heap.size∧W.cell? ⟨b,o+i,none⟩=some (U i)):=Lib.hid (fun i W hi g => by
  obtain ⟨b,o,e,hb,z⟩:=hRr i hi
  exact ⟨b,o,e,Nat.lt_of_lt_of_le hb.1 g.size,(Grew.cell g hb.1).trans z⟩)
 have NN:Hid ((∀ i,i < L.length→Lies (nth L i) p)→∀ q,q ∈ L→Lies q p):=Lib.hid (fun h q hq => by
  obtain ⟨i,hi,rfl⟩:=mem_nth hq
  exact h i hi)
 have NY:Hid (∀ i,i < L.length→¬ Lies (nth L i) p→¬ ∀ q,q ∈ L→Lies q p):=Lib.hid (fun i hi h k => h (k _ (nth_mem hi)))
 clear hs hu hU hSl hRr hL hp
 go_enter Tryz.func75,Tryz.ntmps75
 go_wp2_with fail
 go_loopw [5,6] (fun i _ wr => ∃ k:Nat,k≤L.length∧i=.int .i64 k∧Grew w wr∧Hid (∀ j,j < k→Lies (nth L j) p)) (fun i _ _ => L.length - (intOf i).toNat)
 case atStart => exact ⟨0,Nat.zero_le _,rfl,Grew.refl _,Lib.hid (fun j hj => by omega)⟩
 case round =>
  obtain ⟨k,hk,rfl,G,D⟩:=hrel
  have hz:=LL.out
  by_cases hlt:k < L.length
  ·obtain ⟨b,o,rfl,hb,z0⟩:=RR.out k _ hlt G
   have i0:(0:Int)≤(k:Int):=by omega
   have i1:(k:Int) < (L.length:Int):=by omega
   have CC:=Lib.hid (SC.out k _ hlt G)
   go_wp2_with fail
   refine CC.out.mono ?_
   rintro e w1 ⟨r,rfl,hr,g1⟩
   have G1:Grew w w1:=Grew.trans G g1
   cases r
   ·have F:=Lib.hid (NY.out k hlt (fun e => by
     have:=hr.2 e
     cases this))
    clear hr g1
    go_wp2_with fail
    go_ret
    exact Tells.no F.out rfl G1
   ·have F:=Lib.hid (hr.1 rfl)
    clear hr g1
    go_wp2_with fail
    go_roundw
    case rel => exact ⟨k+1,by omega,by go_num,G1,Lib.hid (fun j hj => by
     by_cases e:j=k
     ·rw [e];exact F.out
     ·exact D.out j (by omega))⟩
    case measure => simp [intOf];omega
  ·obtain rfl:k=L.length:=by omega
   have F:=Lib.hid (NN.out D.out)
   go_wp2_with fail
   go_ret
   exact Tells.yes F.out rfl G
set_option maxRecDepth 100000 in
set_option maxHeartbeats 4000000 in
theorem within_f (L:Rgn) (p:List Pt) (v u:Value) (w:World) (hs:Rl w v L) (hu:Sl w u p) (hp:p.length≤9223372036854775807):Calls Tryz.prog 30 #[v,u] w (AnsB (WitP L p) w):=by
 have R:=Lib.hid hs
 have S:=Lib.hid hu
 have LP:=Lib.hid hp
 clear hs hu hp
 have G0:Grew w w:=Grew.refl _
 have R0:=R
 have S0:=S
 go_enter Tryz.func30,Tryz.ntmps30
 go_wp2_with fail
 refine (rref_valid L _ _ R0.out).mono ?_
 rintro e w1 ⟨r1,rfl,h1,g1⟩
 have D1:Grew w w1:=Grew.trans (by repeat' (first|(with_reducible first|exact Grew.refl _|assumption|refine Grew.alloc ?_ _ _|refine Grew.drew ?_|refine Grew.drewN ?_ _|refine Grew.setCell ?_ ?_ _)|go_size)) g1
 have G1:Grew w w1:=Grew.trans G0 D1
 have R1:=Lib.hid (R0.out.grown D1)
 have S1:=Lib.hid (S0.out.grown D1)
 clear R0 S0
 clear g1 D1 G0
 have H1:=Lib.hid h1
 clear h1
 go_wp2_with fail
 refine (rvalid_any p _ _ S1.out LP.out).mono ?_
 rintro e w2 ⟨r2,rfl,h2,g2⟩
 have D2:Grew w1 w2:=Grew.trans (by repeat' (first|(with_reducible first|exact Grew.refl _|assumption|refine Grew.alloc ?_ _ _|refine Grew.drew ?_|refine Grew.drewN ?_ _|refine Grew.setCell ?_ ?_ _)|go_size)) g2
 have G2:Grew w w2:=Grew.trans G1 D2
 have R2:=Lib.hid (R1.out.grown D2)
 have S2:=Lib.hid (S1.out.grown D2)
 clear R1 S1
 clear g2 D2 G1
 have H2:=Lib.hid h2
 clear h2
 cases r1
 ·have F:=Lib.hid (not_of H1.out)
  clear H1 H2
  go_wp2_with fail
  go_ret2
  exact ⟨false,1,Or.inl ⟨(fun h => F.out h.1),rfl,rfl⟩,rfl,G2⟩
 cases r2
 ·have F:=Lib.hid (not_of H2.out)
  clear H1 H2
  go_wp2_with fail
  go_ret2
  exact ⟨false,1,Or.inl ⟨(fun h => F.out h.2),rfl,rfl⟩,rfl,G2⟩
 have A1:=Lib.hid (H1.out.1 rfl)
 have A2:=Lib.hid (H2.out.1 rfl)
 clear H1 H2
 go_wp2_with fail
 refine (lies7_r L p _ _ _ R2.out S2.out A1.out.2 A2.out).mono ?_
 rintro e w3 ⟨r3,rfl,h3,g3⟩
 have D3:Grew w2 w3:=Grew.trans (by repeat' (first|(with_reducible first|exact Grew.refl _|assumption|refine Grew.alloc ?_ _ _|refine Grew.drew ?_|refine Grew.drewN ?_ _|refine Grew.setCell ?_ ?_ _)|go_size)) g3
 have G3:Grew w w3:=Grew.trans G2 D3
 have R3:=Lib.hid (R2.out.grown D3)
 have S3:=Lib.hid (S2.out.grown D3)
 clear R2 S2
 clear g3 D3 G2
 have H3:=Lib.hid h3
 clear h3
 go_wp2_with fail
 go_ret2
 exact ⟨r3,0,Or.inr ⟨⟨A1.out,A2.out⟩,H3.out,rfl⟩,rfl,G3⟩
end Rg
end Go.Proofs.YtlookcbokhknfaaGreat
namespace Go.Proofs.YtlookcbokhknfaaGreat
open Go.RowKit Go.Shelf Hl
namespace Rg
open Ct (Hf WF ov)
open Ct (BothS Poly)
theorem met_sl (p q:List Pt) (v u:Value) (w:World) (hs:Sl w v p) (hu:Sl w u q) (hp:Vl p) (hq:Vl q):Calls Tryz.prog 112 #[v,u] w (Ct.PolS (BothS p q) w):=by
 obtain ⟨b,o,c,rfl,hr⟩:=hs.row (fun e => by
  have:=hp.1.1
  rw [e] at this
  exact absurd this (by simp))
 obtain ⟨b',o',c',rfl,hr'⟩:=hu.row (fun e => by
  have:=hq.1.1
  rw [e] at this
  exact absurd this (by simp))
 exact Ct.met_r p q b o c b' o' c' w hr hr' hp hq
def RowC (a b:Rgn) (i n:Nat) (c:Rgn):Prop:=Col (fun k => PolR (BothS (nth a i) (nth b k))) n c
def MetN (a b:Rgn) (n:Nat) (c:Rgn):Prop:=Col (fun i => RowC a b i b.length) n c
theorem rowc_le {a b c:Rgn} {i n:Nat} (g:RowC a b i n c):c.length≤n:=by
 have:=Col.len (c:=1) (fun _ _ => PolR.len) g
 omega
theorem metn_le {a b c:Rgn} {n:Nat} (g:MetN a b n c):c.length≤b.length * n:=Col.len (fun _ _ h => rowc_le h) g
set_option maxRecDepth 100000 in
set_option maxHeartbeats 4000000 in
theorem metby_r (L M:Rgn) (v u:Value) (w:World) (hs:Rl w v L) (hu:Rl w u M) (hL:VlR L) (hM:VlR M):Calls Tryz.prog 62 #[v,u] w (TidOf (MetC L M) w):=by
 have VL:=Lib.hid hL
 have VM:=Lib.hid hM
 obtain ⟨a,c,U,rfl,hU,hSl,hRr⟩:=rl_fun hs
 obtain ⟨a2,c2,X,rfl,hX,hSl2,hRr2⟩:=rl_fun hu
 have CC:Hid (∀ i k W,i < L.length→k < M.length→Grew w W→Calls Tryz.prog 112 #[U i,X k] W (Ct.PolS (BothS (nth L i) (nth M k)) W)):=Lib.hid (fun i k W hi hk g => met_sl _ _ _ _ W ((hSl i hi).grown g) ((hSl2 k hk).grown g) (hL.2 _ (nth_mem hi)) (hM.2 _ (nth_mem hk)))
 have RR:Hid (∀ i W,i < L.length→Grew w W→∃ b o,a=some ⟨b,o,none⟩∧b < W.heap.size∧W.cell? ⟨b,o+i,none⟩=some (U i)):=Lib.hid (fun i W hi g => by
  obtain ⟨b,o,e,hb,z⟩:=hRr i hi
  exact ⟨b,o,e,Nat.lt_of_lt_of_le hb.1 g.size,(Grew.cell g hb.1).trans z⟩)
 have RX:Hid (∀ i W,i < M.length→Grew w W→∃ b o,a2=some ⟨b,o,none⟩∧b < W.heap.size∧W.cell? ⟨b,o+i,none⟩=some (X i)):=Lib.hid (fun i W hi g => by
  obtain ⟨b,o,e,hb,z⟩:=hRr2 i hi
  exact ⟨b,o,e,Nat.lt_of_lt_of_le hb.1 g.size,(Grew.cell g hb.1).trans z⟩)
 have HZ:Hid (L.length≤32):=Lib.hid hL.1
 have HY:Hid (M.length≤32):=Lib.hid hM.1
 clear hs hU hSl hRr hu hX hSl2 hRr2 hL hM
 go_enter Tryz.func62,Tryz.ntmps62
 go_wp2_with fail
 go_loopw [5,6,7,8,9] (fun u i _ _ _ wr => ∃ (n:Nat) (c:Rgn),n≤L.length∧i=.int .i64 n∧Grew w wr∧Hid (Own w.heap.size wr u c)∧Hid (MetN L M n c)) (fun _ i _ _ _ _ => L.length - (intOf i).toNat)
 case atStart => exact ⟨0,[],Nat.zero_le _,rfl,Grew.refl _,Lib.hid (Own.nil _ _),Lib.hid rfl⟩
 case round =>
  obtain ⟨n,c,hn,rfl,G,OW,HC⟩:=hrel
  have hz:=HZ.out
  by_cases hlt:n < L.length
  ·have i0:(0:Int)≤(n:Int):=by omega
   have i1:(n:Int) < (L.length:Int):=by omega
   go_wp2_with fail
   go_loopw [5,7,8,9] (fun u k _ _ wz => ∃ (m:Nat) (d:Rgn),m≤M.length∧k=.int .i64 m∧Grew w wz∧Hid (Own w.heap.size wz u (c ++ d))∧Hid (RowC L M n m d)) (fun _ k _ _ _ => M.length - (intOf k).toNat)
   case atStart => exact ⟨0,[],Nat.zero_le _,rfl,G,Lib.hid (by rw [List.append_nil];exact OW.out),Lib.hid rfl⟩
   case round =>
    clear OW G
    obtain ⟨m,d,hm,rfl,G,OW,HD⟩:=hrel
    have hy:=HY.out
    by_cases hlm:m < M.length
    ·have j0:(0:Int)≤(m:Int):=by omega
     have j1:(m:Int) < (M.length:Int):=by omega
     obtain ⟨b,o,rfl,hb,z0⟩:=RR.out n wr hlt G
     obtain ⟨b',o',rfl,hb',z1⟩:=RX.out m wr hlm G
     have C1:Hid (∀ W,Grew wr W→Calls Tryz.prog 112 #[U n,X m] W (Ct.PolS (BothS (nth L n) (nth M m)) W)):=Lib.hid (fun W g => CC.out n m W hlt hlm (Grew.trans G g))
     obtain ⟨W0,hW0⟩:∃ W0,W0=wr:=⟨wr,rfl⟩
     subst hW0
     go_wp2_with fail
     go_region_held3 (fun w' => w'.cell? ⟨b,o+n,none⟩=some (U n)∧w'.cell? ⟨b',o'+m,none⟩=some (X m)) (simp [go_sem, *])
      (first | (go_at_call 112;refine (C1.out _ (by repeat' (first|(with_reducible first|exact Grew.refl _|assumption|refine Grew.alloc ?_ _ _|refine Grew.drew ?_|refine Grew.drewN ?_ _|refine Grew.setCell ?_ ?_ _)|go_size))).mono ?_;rintro e w1 ⟨vq,sm,q,rfl,hq,sq,g1⟩;have GX:Grew W0 w1:=Grew.trans (by repeat' (first|(with_reducible first|exact Grew.refl _|assumption|refine Grew.alloc ?_ _ _|refine Grew.drew ?_|refine Grew.drewN ?_ _|refine Grew.setCell ?_ ?_ _)|go_size)) g1;have y0:=(Grew.cell (o:=o+n) GX hb).trans z0;have y1:=(Grew.cell (o:=o'+m) GX hb').trans z1))
     all_goals have HQ:=Lib.hid hq
     all_goals have SQ:=Lib.hid sq
     all_goals have G1:=Grew.trans G GX
     all_goals have O1:=Lib.hid (OW.out.grew GX)
     all_goals have GH:=Lib.hid G1
     all_goals clear hq sq g1 OW
     all_goals rcases HQ.out with ⟨rfl,hq⟩ | ⟨rfl,hq,rfl⟩
     all_goals clear HQ
     all_goals have HQ:=Lib.hid hq
     all_goals clear hq
     ·have VQ:Hid (Vl q):=Lib.hid (HQ.out.vl (fun y hy => Ct.both_plc (VL.out.2 _ (nth_mem hlt)).2.1 (VM.out.2 _ (nth_mem hlm)).2.1 hy))
      have CN:Hid (RowC L M n (m+1) (d ++ [q])):=Lib.hid ⟨d,[q],HD.out,Or.inl ⟨q,HQ.out,rfl⟩,rfl⟩
      have CL:Hid ((c ++ d).length+1≤4000000):=Lib.hid (by
       have a:=metn_le HC.out
       have b:=rowc_le HD.out
       have e:=Nat.mul_le_mul HY.out (show n≤32 from by omega)
       rw [List.length_append]
       omega)
      obtain ⟨qa,qn,qc,rfl,eqn⟩:∃ a n c,vq=.slice a n c∧n=q.length:=by
       obtain ⟨a,c,e⟩:=SQ.out.shape
       exact ⟨a,_,c,e,rfl⟩
      clear eqn GX
      go_wp2_with (at_builtin;go_must (refine wpl_app _ rfl _ _ rfl w.heap.size _ _ (c ++ d) [q] rfl (O1.out.grew ((Grew.refl _).alloc _ _)) rfl (one_rl SQ.out (by have:=VQ.out.1.2;omega) 1) (fun p hp => by rw [List.mem_singleton.1 hp];exact vl_pos VQ.out) (by simpa using CL.out) (by have:=GH.out.size;simp;omega) ?_;intro v' w' af;have GG':=Lib.hid (af.grew w (Nat.le_refl _) (GH.out.alloc _ _));have OWN':=Lib.hid af.own;clear af))
      exact ⟨⟨m+1,d ++ [q],by omega,by go_num,GG'.out,Lib.hid (by rw [← List.append_assoc];exact OWN'.out),CN⟩,by simp [intOf];omega⟩
     ·have CN:Hid (RowC L M n (m+1) (d ++ [])):=Lib.hid ⟨d,[],HD.out,Or.inr ⟨HQ.out,rfl⟩,rfl⟩
      rw [List.append_nil] at CN
      go_wp2_with fail
      exact ⟨⟨m+1,d,by omega,by go_num,G1,O1,CN⟩,by simp [intOf];omega⟩
    ·obtain rfl:m=M.length:=by omega
     have CN:Hid (MetN L M (n+1) (c ++ d)):=Lib.hid ⟨c,d,HC.out,HD.out,rfl⟩
     have GH:=Lib.hid G
     go_wp2_with fail
     exact ⟨⟨n+1,c ++ d,by omega,by go_num,GH.out,OW,CN⟩,by simp [intOf];omega⟩
  ·obtain rfl:n=L.length:=by omega
   have MC:Hid (MetC L M c):=Lib.hid HC.out
   have AV:Hid (AllV c):=Lib.hid (met_vl VL.out.2 VM.out.2 HC.out)
   have LE:Hid (c.length≤4000):=Lib.hid (by
    have a:=metn_le HC.out
    have e:=Nat.mul_le_mul HY.out HZ.out
    omega)
   have RC:=Lib.hid (OW.out.rl (AV.out.bd (by have:=LE.out;omega)))
   have GH:=Lib.hid G
   clear OW G HC
   go_wp2_with fail
   refine (tidied_r c _ _ RC.out AV.out LE.out).mono ?_
   rintro e w2 ⟨u2,r,ht,rfl,hr,g2⟩
   have T2:=Lib.hid ht
   have R2:=Lib.hid hr
   clear ht hr
   go_wp2_with fail
   go_ret
   exact ⟨u2,r,⟨c,MC.out,T2.out⟩,rfl,R2.out,Grew.trans GH.out g2⟩
set_option maxRecDepth 100000 in
set_option maxHeartbeats 4000000 in
theorem meet_f (L M:Rgn) (v u:Value) (w:World) (hs:Rl w v L) (hu:Rl w u M):Calls Tryz.prog 24 #[v,u] w (AnsR (MetP L M) w):=by
 have R:=Lib.hid hs
 have S:=Lib.hid hu
 clear hs hu
 have G0:Grew w w:=Grew.refl _
 have R0:=R
 have S0:=S
 go_enter Tryz.func24,Tryz.ntmps24
 go_wp2_with fail
 refine (rref_valid L _ _ R0.out).mono ?_
 rintro e w1 ⟨r1,rfl,h1,g1⟩
 have D1:Grew w w1:=Grew.trans (by repeat' (first|(with_reducible first|exact Grew.refl _|assumption|refine Grew.alloc ?_ _ _|refine Grew.drew ?_|refine Grew.drewN ?_ _|refine Grew.setCell ?_ ?_ _)|go_size)) g1
 have G1:Grew w w1:=Grew.trans G0 D1
 have R1:=Lib.hid (R0.out.grown D1)
 have S1:=Lib.hid (S0.out.grown D1)
 clear R0 S0
 clear g1 D1 G0
 have H1:=Lib.hid h1
 clear h1
 go_wp2_with fail
 refine (rref_valid M _ _ S1.out).mono ?_
 rintro e w2 ⟨r2,rfl,h2,g2⟩
 have D2:Grew w1 w2:=Grew.trans (by repeat' (first|(with_reducible first|exact Grew.refl _|assumption|refine Grew.alloc ?_ _ _|refine Grew.drew ?_|refine Grew.drewN ?_ _|refine Grew.setCell ?_ ?_ _)|go_size)) g2
 have G2:Grew w w2:=Grew.trans G1 D2
 have R2:=Lib.hid (R1.out.grown D2)
 have S2:=Lib.hid (S1.out.grown D2)
 clear R1 S1
 clear g2 D2 G1
 have H2:=Lib.hid h2
 clear h2
 cases r1
 ·have F:=Lib.hid (not_of H1.out)
  clear H1 H2
  go_wp2_with fail
  go_ret2
  exact ⟨_,1,[],Or.inl ⟨(fun h => F.out h.1),rfl,rfl⟩,rfl,Rl.nil _ none 0,G2⟩
 cases r2
 ·have F:=Lib.hid (not_of H2.out)
  clear H1 H2
  go_wp2_with fail
  go_ret2
  exact ⟨_,1,[],Or.inl ⟨(fun h => F.out h.2),rfl,rfl⟩,rfl,Rl.nil _ none 0,G2⟩
 have A1:=Lib.hid (H1.out.1 rfl)
 have A2:=Lib.hid (H2.out.1 rfl)
 clear H1 H2
 go_wp2_with fail
 refine (metby_r L M _ _ _ R2.out S2.out A1.out A2.out).mono ?_
 rintro e w3 ⟨u3,r3,ht,rfl,hr,g3⟩
 have TT:=Lib.hid ht
 have RR:=Lib.hid hr
 clear ht hr
 go_wp2_with fail
 go_ret2
 exact ⟨_,0,r3,Or.inr ⟨⟨A1.out,A2.out⟩,rfl,TT.out⟩,rfl,RR.out,(Grew.trans G2 g3)⟩
end Rg
end Go.Proofs.YtlookcbokhknfaaGreat
namespace Go.Proofs.YtlookcbokhknfaaGreat
open Go.RowKit Go.Shelf Hl
namespace Rg
open Ct (Hf WF ov)
def SumA (p q:List Pt) (w:World) (e:Ending) (w':World):Prop:=∃ v k r,Mk.SumIs p q k r∧e=.returned (.tuple #[v,.int .i64 k])∧Sl w' v r∧Grew w w'
theorem sum_any (p q:List Pt) (v u:Value) (w:World) (hs:Sl w v p) (hu:Sl w u q) (hp:Vl p) (hq:Vl q):Calls Tryz.prog 67 #[v,u] w (SumA p q w) :=
 (Mk.r_sum_ok p q v u w hs hu hp hq).mono fun _ _ h => by
  obtain ⟨s,hh,⟨hn,v,e,sl,g⟩ | ⟨hpl,v,t,ht,e,sl,g⟩⟩:=h
  ·exact ⟨v,3,[],Or.inr ⟨⟨hp,hq⟩,s,hh,Or.inl ⟨hn,rfl,rfl⟩⟩,e,sl,g⟩
  ·exact ⟨v,0,t,Or.inr ⟨⟨hp,hq⟩,s,hh,Or.inr ⟨hpl,rfl,ht⟩⟩,e,sl,g⟩
theorem sumc_le {L:Rgn} {p:List Pt} {n:Nat} {c:Rgn} (g:SumC L p n c):c.length≤n:=by
 have:=Col.len (c:=1) (fun _ _ h => by obtain ⟨s,_,rfl⟩:=h;simp) g
 omega
set_option maxRecDepth 100000 in
set_option maxHeartbeats 4000000 in
theorem sum_f (L:Rgn) (p:List Pt) (v u:Value) (w:World) (hs:Rl w v L) (hu:Sl w u p) (hp:p.length≤9223372036854775807):Calls Tryz.prog 26 #[v,u] w (AnsR (SumP L p) w):=by
 have R:=Lib.hid hs
 have S:=Lib.hid hu
 have LP:=Lib.hid hp
 obtain ⟨a,c,U,rfl,hU,hSl,hRr⟩:=rl_fun hs
 obtain ⟨pa,pn,pc,rfl⟩:∃ a n c,u=.slice a n c:=by
  obtain ⟨a,c,e⟩:=hu.shape
  exact ⟨a,_,c,e⟩
 have US:Hid (∀ i W,i < L.length→Grew w W→Sl W (U i) (nth L i)):=Lib.hid (fun i W hi g => (hSl i hi).grown g)
 have RR:Hid (∀ i W,i < L.length→Grew w W→∃ b o,a=some ⟨b,o,none⟩∧b < W.heap.size∧W.cell? ⟨b,o+i,none⟩=some (U i)):=Lib.hid (fun i W hi g => by
  obtain ⟨b,o,e,hb,z⟩:=hRr i hi
  exact ⟨b,o,e,Nat.lt_of_lt_of_le hb.1 g.size,(Grew.cell g hb.1).trans z⟩)
 clear hs hu hp hU hSl hRr
 have G0:Grew w w:=Grew.refl _
 have R0:=R
 have S0:=S
 go_enter Tryz.func26,Tryz.ntmps26
 go_wp2_with fail
 refine (rref_valid L _ _ R0.out).mono ?_
 rintro e w1 ⟨r1,rfl,h1,g1⟩
 have D1:Grew w w1:=Grew.trans (by repeat' (first|(with_reducible first|exact Grew.refl _|assumption|refine Grew.alloc ?_ _ _|refine Grew.drew ?_|refine Grew.drewN ?_ _|refine Grew.setCell ?_ ?_ _)|go_size)) g1
 have G1:Grew w w1:=Grew.trans G0 D1
 have R1:=Lib.hid (R0.out.grown D1)
 have S1:=Lib.hid (S0.out.grown D1)
 clear R0 S0
 clear g1 D1 G0
 have H1:=Lib.hid h1
 clear h1
 go_wp2_with fail
 refine (rvalid_any p _ _ S1.out LP.out).mono ?_
 rintro e w2 ⟨r2,rfl,h2,g2⟩
 have D2:Grew w1 w2:=Grew.trans (by repeat' (first|(with_reducible first|exact Grew.refl _|assumption|refine Grew.alloc ?_ _ _|refine Grew.drew ?_|refine Grew.drewN ?_ _|refine Grew.setCell ?_ ?_ _)|go_size)) g2
 have G2:Grew w w2:=Grew.trans G1 D2
 have R2:=Lib.hid (R1.out.grown D2)
 have S2:=Lib.hid (S1.out.grown D2)
 clear R1 S1
 clear g2 D2 G1
 have H2:=Lib.hid h2
 clear h2
 cases r1
 ·have F:=Lib.hid (not_of H1.out)
  clear H1 H2
  go_wp2_with fail
  go_ret2
  exact ⟨_,1,[],Or.inr (Or.inl ⟨(fun h => F.out h.1),rfl,rfl⟩),rfl,Rl.nil _ none 0,G2⟩
 cases r2
 ·have F:=Lib.hid (not_of H2.out)
  clear H1 H2
  go_wp2_with fail
  go_ret2
  exact ⟨_,1,[],Or.inr (Or.inl ⟨(fun h => F.out h.2),rfl,rfl⟩),rfl,Rl.nil _ none 0,G2⟩
 have A1:=Lib.hid (H1.out.1 rfl)
 have A2:=Lib.hid (H2.out.1 rfl)
 clear H1 H2
 have CC:Hid (∀ i W,i < L.length→Grew w2 W→Calls Tryz.prog 67 #[U i,.slice pa pn pc] W (SumA (nth L i) p W)):=Lib.hid (fun i W hi g => sum_any _ _ _ _ W (US.out i W hi (Grew.trans G2 g)) (S2.out.grown g) (A1.out.2 _ (nth_mem hi)) A2.out)
 have RZ:Hid (∀ i W,i < L.length→Grew w2 W→∃ b o,a=some ⟨b,o,none⟩∧b < W.heap.size∧W.cell? ⟨b,o+i,none⟩=some (U i)):=Lib.hid (fun i W hi g => RR.out i W hi (Grew.trans G2 g))
 have HZ:Hid (L.length≤32):=Lib.hid A1.out.1
 have SB:Hid ((VlR L∧Vl p)):=Lib.hid ⟨A1.out,A2.out⟩
 clear RR US A1 A2 R2
 go_wp2_with fail
 go_loopw [8,9,10,11] (fun u i _ _ wr => ∃ (n:Nat) (c:Rgn),n≤L.length∧i=.int .i64 n∧Grew w2 wr∧Hid (Own w2.heap.size wr u c)∧Hid (SumC L p n c)) (fun _ i _ _ _ => L.length - (intOf i).toNat)
 case atStart => exact ⟨0,[],Nat.zero_le _,rfl,Grew.refl _,Lib.hid (Own.nil _ _),Lib.hid rfl⟩
 case round =>
  obtain ⟨n,c,hn,rfl,G,OW,HC⟩:=hrel
  have hz:=HZ.out
  by_cases hlt:n < L.length
  ·have i0:(0:Int)≤(n:Int):=by omega
   have i1:(n:Int) < (L.length:Int):=by omega
   obtain ⟨b,o,rfl,hb,z0⟩:=RZ.out n wr hlt G
   have C1:=Lib.hid (CC.out n wr hlt G)
   go_wp2_with fail
   refine C1.out.mono ?_
   rintro e w9 ⟨vs,ks,s,hs,rfl,ss,g9⟩
   have HS:=Lib.hid hs
   have SS:=Lib.hid ss
   have O9:=Lib.hid (OW.out.grew g9)
   have G9:=Grew.trans G g9
   have GH:=Lib.hid G9
   have KK:ks=0∨(ks=3∧s=[]):=by
    rcases hs with ⟨hn,_⟩ | ⟨_,t,_,⟨_,rfl,rfl⟩ | ⟨_,rfl,_⟩⟩
    ·exact absurd ⟨SB.out.1.2 _ (nth_mem hlt),SB.out.2⟩ hn
    ·exact Or.inr ⟨rfl,rfl⟩
    ·exact Or.inl rfl
   clear hs ss g9 OW C1 G
   rcases KK with rfl | ⟨rfl,rfl⟩
   ·have VQ:Hid (Vl s):=Lib.hid (Mk.sums_law (SB.out.1.2 _ (nth_mem hlt)) SB.out.2 HS.out).1
    have CN:Hid (SumC L p (n+1) (c ++ [s])):=Lib.hid ⟨c,[s],HC.out,⟨s,HS.out,rfl⟩,rfl⟩
    have CL:Hid (c.length+1≤4000000):=Lib.hid (by have:=sumc_le HC.out;omega)
    obtain ⟨qa,qn,qc,rfl,eqn⟩:∃ a n c,vs=.slice a n c∧n=s.length:=by
     obtain ⟨a,c,e⟩:=SS.out.shape
     exact ⟨a,_,c,e,rfl⟩
    clear eqn
    go_wp2_with (at_builtin;go_must (refine wpl_app _ rfl _ _ rfl w2.heap.size _ _ c [s] rfl (O9.out.grew ((Grew.refl _).alloc _ _)) rfl (one_rl SS.out (by have:=VQ.out.1.2;omega) 1) (fun p hp => by rw [List.mem_singleton.1 hp];exact vl_pos VQ.out) (by simpa using CL.out) (by have:=GH.out.size;simp;omega) ?_;intro v' w' af;have GG':=Lib.hid (af.grew w2 (Nat.le_refl _) (GH.out.alloc _ _));have OWN':=Lib.hid af.own;clear af))
    exact ⟨⟨n+1,_,by omega,by go_num,GG'.out,OWN',CN⟩,by simp [intOf];omega⟩
   go_wp2_with fail
   go_ret2
   exact ⟨_,3,[],Or.inl ⟨rfl,rfl,SB.out,n,hlt,HS.out⟩,rfl,Rl.nil _ none 0,Grew.trans G2 GH.out⟩
  obtain rfl:n=L.length:=by omega
  have AV:Hid (AllV c):=Lib.hid (sum_vl (Nat.le_refl _) SB.out.1.2 SB.out.2 HC.out)
  have LE:Hid (c.length≤4000):=Lib.hid (by have:=sumc_le HC.out;omega)
  have RC:=Lib.hid (OW.out.rl (AV.out.bd (by have:=LE.out;omega)))
  have GH:=Lib.hid G
  clear OW G
  go_wp2_with fail
  refine (tidied_r c _ _ RC.out AV.out LE.out).mono ?_
  rintro e w8 ⟨u2,r,ht,rfl,hr,g2⟩
  have T2:=Lib.hid ht
  have R2:=Lib.hid hr
  clear ht hr
  go_wp2_with fail
  go_ret2
  exact ⟨_,0,r,Or.inr (Or.inr ⟨SB.out,rfl,c,HC.out,T2.out⟩),rfl,R2.out,Grew.trans G2 (Grew.trans GH.out g2)⟩
end Rg
end Go.Proofs.YtlookcbokhknfaaGreat
