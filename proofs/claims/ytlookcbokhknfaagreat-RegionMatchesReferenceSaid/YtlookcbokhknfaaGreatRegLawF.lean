/-
  The law RegionMatchesReference, under what package region owes.
-/
import Derived.Test.YtlookcbokhknfaaGreatRegRefD
import Derived.Test.YtlookcbokhknfaaGreatRegRefG
import Derived.Test.YtlookcbokhknfaaGreatRegRefI
namespace Go.Proofs.YtlookcbokhknfaaGreat
open Go.RowKit Go.Shelf Hl
namespace Rg
open Ct (Hf WF ov)
abbrev Ref:Prop:=Fns 15 13 17 20 22 24 26 28 30 32
theorem reference:Ref where
 valid:=rref_valid
 has:=has_f
 tidy:=tidy_f
 join:=join_f
 cut:=cut_f
 meet:=meet_f
 sum:=sum_f
 out:=out_f
 within:=within_f
 box:=box_f
set_option maxRecDepth 100000 in
set_option maxHeartbeats 4000000 in
theorem match_true (K:Code) (L M:Rgn) (p:List Pt) (h:Hf) (x y:Pt) (v u z:Value) (w:World) (hs:Rl w v L) (hu:Rl w u M) (hz:Sl w z p) (hp:p.length≤9223372036854775807):Calls Tryz.prog 3 #[v,u,z,.agg #[.int .i64 h.1,.int .i64 h.2.1,.int .i64 h.2.2],.agg #[.int .i64 x.1,.int .i64 x.2],.agg #[.int .i64 y.1,.int .i64 y.2]] w fun e w' => e=.returned (.bool true)∧Grew w w':=by
 have F:Ref:=reference
 obtain ⟨va,nl,vc,rfl,en⟩:=rl_nat hs
 have EL:=Lib.hid en
 obtain ⟨ua,ml,uc,rfl,em⟩:=rl_nat hu
 have EM:=Lib.hid em
 obtain ⟨za,pn,zc,rfl,ep⟩:∃ a n c,z=.slice a n c∧n=p.length:=by
  obtain ⟨a,c,e⟩:=hz.shape
  exact ⟨a,_,c,e,rfl⟩
 have R:=Lib.hid hs
 have S:=Lib.hid hu
 have Q:=Lib.hid hz
 have LP:=Lib.hid hp
 clear hs hu hz hp en em ep
 have BK00:=Lib.hid ((Blk.new (w) #[.int .i64 h.1,.int .i64 h.2.1,.int .i64 h.2.2] 25).grown (((Grew.refl _).alloc #[.int .i64 x.1,.int .i64 x.2] 27).alloc #[.int .i64 y.1,.int .i64 y.2] 27))
 have BK10:=Lib.hid ((Blk.new ((w.alloc (.cells #[.int .i64 h.1,.int .i64 h.2.1,.int .i64 h.2.2] 25))) #[.int .i64 x.1,.int .i64 x.2] 27).grown ((Grew.refl _).alloc #[.int .i64 y.1,.int .i64 y.2] 27))
 simp only [World.size_alloc] at BK10
 have BK20:=Lib.hid ((Blk.new (((w.alloc (.cells #[.int .i64 h.1,.int .i64 h.2.1,.int .i64 h.2.2] 25)).alloc (.cells #[.int .i64 x.1,.int .i64 x.2] 27))) #[.int .i64 y.1,.int .i64 y.2] 27))
 simp only [World.size_alloc] at BK20
 have GW0:Grew w (((w.alloc (.cells #[.int .i64 h.1,.int .i64 h.2.1,.int .i64 h.2.2] 25)).alloc (.cells #[.int .i64 x.1,.int .i64 x.2] 27)).alloc (.cells #[.int .i64 y.1,.int .i64 y.2] 27)):=(by repeat' (first|(with_reducible first|exact Grew.refl _|assumption|refine Grew.alloc ?_ _ _|refine Grew.drew ?_|refine Grew.drewN ?_ _|refine Grew.setCell ?_ ?_ _)|go_size))
 have G0:Grew (((w.alloc (.cells #[.int .i64 h.1,.int .i64 h.2.1,.int .i64 h.2.2] 25)).alloc (.cells #[.int .i64 x.1,.int .i64 x.2] 27)).alloc (.cells #[.int .i64 y.1,.int .i64 y.2] 27)) (((w.alloc (.cells #[.int .i64 h.1,.int .i64 h.2.1,.int .i64 h.2.2] 25)).alloc (.cells #[.int .i64 x.1,.int .i64 x.2] 27)).alloc (.cells #[.int .i64 y.1,.int .i64 y.2] 27)):=Grew.refl _
 have R0:=Lib.hid (R.out.grown (w':=(((w.alloc (.cells #[.int .i64 h.1,.int .i64 h.2.1,.int .i64 h.2.2] 25)).alloc (.cells #[.int .i64 x.1,.int .i64 x.2] 27)).alloc (.cells #[.int .i64 y.1,.int .i64 y.2] 27))) (by repeat' (first|(with_reducible first|exact Grew.refl _|assumption|refine Grew.alloc ?_ _ _|refine Grew.drew ?_|refine Grew.drewN ?_ _|refine Grew.setCell ?_ ?_ _)|go_size)))
 have S0:=Lib.hid (S.out.grown (w':=(((w.alloc (.cells #[.int .i64 h.1,.int .i64 h.2.1,.int .i64 h.2.2] 25)).alloc (.cells #[.int .i64 x.1,.int .i64 x.2] 27)).alloc (.cells #[.int .i64 y.1,.int .i64 y.2] 27))) (by repeat' (first|(with_reducible first|exact Grew.refl _|assumption|refine Grew.alloc ?_ _ _|refine Grew.drew ?_|refine Grew.drewN ?_ _|refine Grew.setCell ?_ ?_ _)|go_size)))
 have Q0:=Lib.hid (Q.out.grown (w':=(((w.alloc (.cells #[.int .i64 h.1,.int .i64 h.2.1,.int .i64 h.2.2] 25)).alloc (.cells #[.int .i64 x.1,.int .i64 x.2] 27)).alloc (.cells #[.int .i64 y.1,.int .i64 y.2] 27))) (by repeat' (first|(with_reducible first|exact Grew.refl _|assumption|refine Grew.alloc ?_ _ _|refine Grew.drew ?_|refine Grew.drewN ?_ _|refine Grew.setCell ?_ ?_ _)|go_size)))
 go_enter Tryz.func3,Tryz.ntmps3
 go_wp2_with fail
 refine (head_true K _).mono ?_
 rintro e w1 ⟨rfl,g1⟩
 have D1:Grew (((w.alloc (.cells #[.int .i64 h.1,.int .i64 h.2.1,.int .i64 h.2.2] 25)).alloc (.cells #[.int .i64 x.1,.int .i64 x.2] 27)).alloc (.cells #[.int .i64 y.1,.int .i64 y.2] 27)) w1:=Grew.trans (by repeat' (first|(with_reducible first|exact Grew.refl _|assumption|refine Grew.alloc ?_ _ _|refine Grew.drew ?_|refine Grew.drewN ?_ _|refine Grew.setCell ?_ ?_ _)|go_size)) g1
 have G1:Grew (((w.alloc (.cells #[.int .i64 h.1,.int .i64 h.2.1,.int .i64 h.2.2] 25)).alloc (.cells #[.int .i64 x.1,.int .i64 x.2] 27)).alloc (.cells #[.int .i64 y.1,.int .i64 y.2] 27)) w1:=Grew.trans G0 D1
 have R1:=Lib.hid (R0.out.grown D1)
 have S1:=Lib.hid (S0.out.grown D1)
 have Q1:=Lib.hid (Q0.out.grown D1)
 have BK01:=Lib.hid (BK00.out.grown D1)
 have BK11:=Lib.hid (BK10.out.grown D1)
 have BK21:=Lib.hid (BK20.out.grown D1)
 clear R0 S0 Q0 BK00 BK10 BK20
 clear g1 D1 G0
 obtain ⟨x00,x01,x02⟩:=blk_three BK01.out
 obtain ⟨x10,x11⟩:=blk_two BK11.out
 obtain ⟨x20,x21⟩:=blk_two BK21.out
 go_wp2_with fail
 refine (few_r L _ _ R1.out).mono ?_
 rintro e w2 ⟨r2,rfl,h2,g2⟩
 have D2:Grew w1 w2:=Grew.trans (by repeat' (first|(with_reducible first|exact Grew.refl _|assumption|refine Grew.alloc ?_ _ _|refine Grew.drew ?_|refine Grew.drewN ?_ _|refine Grew.setCell ?_ ?_ _)|go_size)) g2
 have G2:Grew (((w.alloc (.cells #[.int .i64 h.1,.int .i64 h.2.1,.int .i64 h.2.2] 25)).alloc (.cells #[.int .i64 x.1,.int .i64 x.2] 27)).alloc (.cells #[.int .i64 y.1,.int .i64 y.2] 27)) w2:=Grew.trans G1 D2
 have R2:=Lib.hid (R1.out.grown D2)
 have S2:=Lib.hid (S1.out.grown D2)
 have Q2:=Lib.hid (Q1.out.grown D2)
 have BK02:=Lib.hid (BK01.out.grown D2)
 have BK12:=Lib.hid (BK11.out.grown D2)
 have BK22:=Lib.hid (BK21.out.grown D2)
 clear R1 S1 Q1 BK01 BK11 BK21
 clear g2 D2 G1
 clear x00 x01 x02 x10 x11 x20 x21
 obtain ⟨x00,x01,x02⟩:=blk_three BK02.out
 obtain ⟨x10,x11⟩:=blk_two BK12.out
 obtain ⟨x20,x21⟩:=blk_two BK22.out
 cases r2
 ·clear h2
  go_wp2_with fail
  go_ret
  exact ⟨rfl,GW0.trans G2⟩
 have N1:=Lib.hid (h2 rfl)
 clear h2
 go_wp2_with fail
 refine (few_r M _ _ S2.out).mono ?_
 rintro e w3 ⟨r3,rfl,h3,g3⟩
 have D3:Grew w2 w3:=Grew.trans (by repeat' (first|(with_reducible first|exact Grew.refl _|assumption|refine Grew.alloc ?_ _ _|refine Grew.drew ?_|refine Grew.drewN ?_ _|refine Grew.setCell ?_ ?_ _)|go_size)) g3
 have G3:Grew (((w.alloc (.cells #[.int .i64 h.1,.int .i64 h.2.1,.int .i64 h.2.2] 25)).alloc (.cells #[.int .i64 x.1,.int .i64 x.2] 27)).alloc (.cells #[.int .i64 y.1,.int .i64 y.2] 27)) w3:=Grew.trans G2 D3
 have R3:=Lib.hid (R2.out.grown D3)
 have S3:=Lib.hid (S2.out.grown D3)
 have Q3:=Lib.hid (Q2.out.grown D3)
 have BK03:=Lib.hid (BK02.out.grown D3)
 have BK13:=Lib.hid (BK12.out.grown D3)
 have BK23:=Lib.hid (BK22.out.grown D3)
 clear R2 S2 Q2 BK02 BK12 BK22
 clear g3 D3 G2
 clear x00 x01 x02 x10 x11 x20 x21
 obtain ⟨x00,x01,x02⟩:=blk_three BK03.out
 obtain ⟨x10,x11⟩:=blk_two BK13.out
 obtain ⟨x20,x21⟩:=blk_two BK23.out
 cases r3
 ·clear h3
  go_wp2_with fail
  go_ret
  exact ⟨rfl,GW0.trans G3⟩
 have N2:=Lib.hid (h3 rfl)
 clear h3
 by_cases h80:(80:Int) < (pn:Int)
 ·go_wp2_with fail
  go_ret
  exact ⟨rfl,GW0.trans G3⟩
 have hm:(nl:Int) * (ml:Int)≤1600∧0≤(nl:Int) * (ml:Int):=by
  have a:nl * ml≤40 * 40:=Nat.mul_le_mul (by rw [EL.out];exact N1.out) (by rw [EM.out];exact N2.out)
  have e:((nl:Int) * (ml:Int))=((nl * ml:Nat):Int):=by simp
  rw [e]
  exact ⟨by omega,by omega⟩
 have hw:IntKind.i64.wrap ((nl:Int) * (ml:Int))=(nl:Int) * (ml:Int):=IntWalk.i64_in _ ⟨by omega,by omega⟩
 clear hm
 by_cases h100:(100:Int) < (nl:Int) * (ml:Int)
 ·go_wp2_with fail
  go_ret
  exact ⟨rfl,GW0.trans G3⟩
 go_wp2_with fail
 refine (K.has L x _ _ R3.out).mono ?_
 rintro e w4 ⟨r4,k4,i4,rfl,g4⟩
 have D4:Grew w3 w4:=Grew.trans (by repeat' (first|(with_reducible first|exact Grew.refl _|assumption|refine Grew.alloc ?_ _ _|refine Grew.drew ?_|refine Grew.drewN ?_ _|refine Grew.setCell ?_ ?_ _)|go_size)) g4
 have G4:Grew (((w.alloc (.cells #[.int .i64 h.1,.int .i64 h.2.1,.int .i64 h.2.2] 25)).alloc (.cells #[.int .i64 x.1,.int .i64 x.2] 27)).alloc (.cells #[.int .i64 y.1,.int .i64 y.2] 27)) w4:=Grew.trans G3 D4
 have R4:=Lib.hid (R3.out.grown D4)
 have S4:=Lib.hid (S3.out.grown D4)
 have Q4:=Lib.hid (Q3.out.grown D4)
 have BK04:=Lib.hid (BK03.out.grown D4)
 have BK14:=Lib.hid (BK13.out.grown D4)
 have BK24:=Lib.hid (BK23.out.grown D4)
 clear R3 S3 Q3 BK03 BK13 BK23
 clear g4 D4 G3
 clear x00 x01 x02 x10 x11 x20 x21
 obtain ⟨x00,x01,x02⟩:=blk_three BK04.out
 obtain ⟨x10,x11⟩:=blk_two BK14.out
 obtain ⟨x20,x21⟩:=blk_two BK24.out
 have I4:=Lib.hid i4
 clear i4
 go_wp2_with fail
 refine (F.has L x _ _ R4.out).mono ?_
 rintro e w5 ⟨r5,k5,i5,rfl,g5⟩
 have D5:Grew w4 w5:=Grew.trans (by repeat' (first|(with_reducible first|exact Grew.refl _|assumption|refine Grew.alloc ?_ _ _|refine Grew.drew ?_|refine Grew.drewN ?_ _|refine Grew.setCell ?_ ?_ _)|go_size)) g5
 have G5:Grew (((w.alloc (.cells #[.int .i64 h.1,.int .i64 h.2.1,.int .i64 h.2.2] 25)).alloc (.cells #[.int .i64 x.1,.int .i64 x.2] 27)).alloc (.cells #[.int .i64 y.1,.int .i64 y.2] 27)) w5:=Grew.trans G4 D5
 have R5:=Lib.hid (R4.out.grown D5)
 have S5:=Lib.hid (S4.out.grown D5)
 have Q5:=Lib.hid (Q4.out.grown D5)
 have BK05:=Lib.hid (BK04.out.grown D5)
 have BK15:=Lib.hid (BK14.out.grown D5)
 have BK25:=Lib.hid (BK24.out.grown D5)
 clear R4 S4 Q4 BK04 BK14 BK24
 clear g5 D5 G4
 clear x00 x01 x02 x10 x11 x20 x21
 obtain ⟨x00,x01,x02⟩:=blk_three BK05.out
 obtain ⟨x10,x11⟩:=blk_two BK15.out
 obtain ⟨x20,x21⟩:=blk_two BK25.out
 obtain ⟨rfl,rfl⟩:=HasP.one I4.out i5
 clear i5 I4
 go_wp2_with fail
 refine (K.valid L _ _ R5.out).mono ?_
 rintro e w6 ⟨b6,rfl,h6,g6⟩
 have D6:Grew w5 w6:=Grew.trans (by repeat' (first|(with_reducible first|exact Grew.refl _|assumption|refine Grew.alloc ?_ _ _|refine Grew.drew ?_|refine Grew.drewN ?_ _|refine Grew.setCell ?_ ?_ _)|go_size)) g6
 have G6:Grew (((w.alloc (.cells #[.int .i64 h.1,.int .i64 h.2.1,.int .i64 h.2.2] 25)).alloc (.cells #[.int .i64 x.1,.int .i64 x.2] 27)).alloc (.cells #[.int .i64 y.1,.int .i64 y.2] 27)) w6:=Grew.trans G5 D6
 have R6:=Lib.hid (R5.out.grown D6)
 have S6:=Lib.hid (S5.out.grown D6)
 have Q6:=Lib.hid (Q5.out.grown D6)
 have BK06:=Lib.hid (BK05.out.grown D6)
 have BK16:=Lib.hid (BK15.out.grown D6)
 have BK26:=Lib.hid (BK25.out.grown D6)
 clear R5 S5 Q5 BK05 BK15 BK25
 clear g6 D6 G5
 clear x00 x01 x02 x10 x11 x20 x21
 obtain ⟨x00,x01,x02⟩:=blk_three BK06.out
 obtain ⟨x10,x11⟩:=blk_two BK16.out
 obtain ⟨x20,x21⟩:=blk_two BK26.out
 have H6:=Lib.hid h6
 clear h6
 go_wp2_with fail
 refine (F.valid L _ _ R6.out).mono ?_
 rintro e w7 ⟨b7,rfl,h7,g7⟩
 have D7:Grew w6 w7:=Grew.trans (by repeat' (first|(with_reducible first|exact Grew.refl _|assumption|refine Grew.alloc ?_ _ _|refine Grew.drew ?_|refine Grew.drewN ?_ _|refine Grew.setCell ?_ ?_ _)|go_size)) g7
 have G7:Grew (((w.alloc (.cells #[.int .i64 h.1,.int .i64 h.2.1,.int .i64 h.2.2] 25)).alloc (.cells #[.int .i64 x.1,.int .i64 x.2] 27)).alloc (.cells #[.int .i64 y.1,.int .i64 y.2] 27)) w7:=Grew.trans G6 D7
 have R7:=Lib.hid (R6.out.grown D7)
 have S7:=Lib.hid (S6.out.grown D7)
 have Q7:=Lib.hid (Q6.out.grown D7)
 have BK07:=Lib.hid (BK06.out.grown D7)
 have BK17:=Lib.hid (BK16.out.grown D7)
 have BK27:=Lib.hid (BK26.out.grown D7)
 clear R6 S6 Q6 BK06 BK16 BK26
 clear g7 D7 G6
 clear x00 x01 x02 x10 x11 x20 x21
 obtain ⟨x00,x01,x02⟩:=blk_three BK07.out
 obtain ⟨x10,x11⟩:=blk_two BK17.out
 obtain ⟨x20,x21⟩:=blk_two BK27.out
 obtain rfl:b6=b7:=Bool.eq_iff_iff.2 (H6.out.trans h7.symm)
 clear h7 H6
 go_wp2_with fail
 refine (K.tidy L _ _ R7.out).mono ?_
 rintro e w8 ⟨v8,k8,r8,i8,rfl,s8,g8⟩
 have D8:Grew w7 w8:=Grew.trans (by repeat' (first|(with_reducible first|exact Grew.refl _|assumption|refine Grew.alloc ?_ _ _|refine Grew.drew ?_|refine Grew.drewN ?_ _|refine Grew.setCell ?_ ?_ _)|go_size)) g8
 have G8:Grew (((w.alloc (.cells #[.int .i64 h.1,.int .i64 h.2.1,.int .i64 h.2.2] 25)).alloc (.cells #[.int .i64 x.1,.int .i64 x.2] 27)).alloc (.cells #[.int .i64 y.1,.int .i64 y.2] 27)) w8:=Grew.trans G7 D8
 have R8:=Lib.hid (R7.out.grown D8)
 have S8:=Lib.hid (S7.out.grown D8)
 have Q8:=Lib.hid (Q7.out.grown D8)
 have BK08:=Lib.hid (BK07.out.grown D8)
 have BK18:=Lib.hid (BK17.out.grown D8)
 have BK28:=Lib.hid (BK27.out.grown D8)
 clear R7 S7 Q7 BK07 BK17 BK27
 clear g8 D8 G7
 clear x00 x01 x02 x10 x11 x20 x21
 obtain ⟨x00,x01,x02⟩:=blk_three BK08.out
 obtain ⟨x10,x11⟩:=blk_two BK18.out
 obtain ⟨x20,x21⟩:=blk_two BK28.out
 have A8:=Lib.hid s8
 clear s8
 have I8:=Lib.hid i8
 clear i8
 go_wp2_with fail
 refine (F.tidy L _ _ R8.out).mono ?_
 rintro e w9 ⟨v9,k9,r9,i9,rfl,s9,g9⟩
 have D9:Grew w8 w9:=Grew.trans (by repeat' (first|(with_reducible first|exact Grew.refl _|assumption|refine Grew.alloc ?_ _ _|refine Grew.drew ?_|refine Grew.drewN ?_ _|refine Grew.setCell ?_ ?_ _)|go_size)) g9
 have G9:Grew (((w.alloc (.cells #[.int .i64 h.1,.int .i64 h.2.1,.int .i64 h.2.2] 25)).alloc (.cells #[.int .i64 x.1,.int .i64 x.2] 27)).alloc (.cells #[.int .i64 y.1,.int .i64 y.2] 27)) w9:=Grew.trans G8 D9
 have R9:=Lib.hid (R8.out.grown D9)
 have S9:=Lib.hid (S8.out.grown D9)
 have Q9:=Lib.hid (Q8.out.grown D9)
 have BK09:=Lib.hid (BK08.out.grown D9)
 have BK19:=Lib.hid (BK18.out.grown D9)
 have BK29:=Lib.hid (BK28.out.grown D9)
 have A9:=Lib.hid (A8.out.grown D9)
 clear R8 S8 Q8 BK08 BK18 BK28 A8
 clear g9 D9 G8
 clear x00 x01 x02 x10 x11 x20 x21
 obtain ⟨x00,x01,x02⟩:=blk_three BK09.out
 obtain ⟨x10,x11⟩:=blk_two BK19.out
 obtain ⟨x20,x21⟩:=blk_two BK29.out
 have B9:=Lib.hid s9
 clear s9
 obtain ⟨rfl,rfl⟩:=TidP.one I8.out i9
 clear i9 I8
 go_wp2_with fail
 refine ((rsame_c r8 r8 _ _ _ A9.out B9.out).mono fun _ _ t => t.to rfl).mono ?_
 rintro e w10 ⟨rfl,g10⟩
 have D10:Grew w9 w10:=Grew.trans (by repeat' (first|(with_reducible first|exact Grew.refl _|assumption|refine Grew.alloc ?_ _ _|refine Grew.drew ?_|refine Grew.drewN ?_ _|refine Grew.setCell ?_ ?_ _)|go_size)) g10
 have G10:Grew (((w.alloc (.cells #[.int .i64 h.1,.int .i64 h.2.1,.int .i64 h.2.2] 25)).alloc (.cells #[.int .i64 x.1,.int .i64 x.2] 27)).alloc (.cells #[.int .i64 y.1,.int .i64 y.2] 27)) w10:=Grew.trans G9 D10
 have R10:=Lib.hid (R9.out.grown D10)
 have S10:=Lib.hid (S9.out.grown D10)
 have Q10:=Lib.hid (Q9.out.grown D10)
 have BK010:=Lib.hid (BK09.out.grown D10)
 have BK110:=Lib.hid (BK19.out.grown D10)
 have BK210:=Lib.hid (BK29.out.grown D10)
 have A10:=Lib.hid (A9.out.grown D10)
 have B10:=Lib.hid (B9.out.grown D10)
 clear R9 S9 Q9 BK09 BK19 BK29 A9 B9
 clear g10 D10 G9
 clear x00 x01 x02 x10 x11 x20 x21
 obtain ⟨x00,x01,x02⟩:=blk_three BK010.out
 obtain ⟨x10,x11⟩:=blk_two BK110.out
 obtain ⟨x20,x21⟩:=blk_two BK210.out
 clear A10
 clear B10
 go_wp2_with fail
 refine (K.join L M _ _ _ R10.out S10.out).mono ?_
 rintro e w11 ⟨v11,k11,r11,i11,rfl,s11,g11⟩
 have D11:Grew w10 w11:=Grew.trans (by repeat' (first|(with_reducible first|exact Grew.refl _|assumption|refine Grew.alloc ?_ _ _|refine Grew.drew ?_|refine Grew.drewN ?_ _|refine Grew.setCell ?_ ?_ _)|go_size)) g11
 have G11:Grew (((w.alloc (.cells #[.int .i64 h.1,.int .i64 h.2.1,.int .i64 h.2.2] 25)).alloc (.cells #[.int .i64 x.1,.int .i64 x.2] 27)).alloc (.cells #[.int .i64 y.1,.int .i64 y.2] 27)) w11:=Grew.trans G10 D11
 have R11:=Lib.hid (R10.out.grown D11)
 have S11:=Lib.hid (S10.out.grown D11)
 have Q11:=Lib.hid (Q10.out.grown D11)
 have BK011:=Lib.hid (BK010.out.grown D11)
 have BK111:=Lib.hid (BK110.out.grown D11)
 have BK211:=Lib.hid (BK210.out.grown D11)
 clear R10 S10 Q10 BK010 BK110 BK210
 clear g11 D11 G10
 clear x00 x01 x02 x10 x11 x20 x21
 obtain ⟨x00,x01,x02⟩:=blk_three BK011.out
 obtain ⟨x10,x11⟩:=blk_two BK111.out
 obtain ⟨x20,x21⟩:=blk_two BK211.out
 have A11:=Lib.hid s11
 clear s11
 have I11:=Lib.hid i11
 clear i11
 go_wp2_with fail
 refine (F.join L M _ _ _ R11.out S11.out).mono ?_
 rintro e w12 ⟨v12,k12,r12,i12,rfl,s12,g12⟩
 have D12:Grew w11 w12:=Grew.trans (by repeat' (first|(with_reducible first|exact Grew.refl _|assumption|refine Grew.alloc ?_ _ _|refine Grew.drew ?_|refine Grew.drewN ?_ _|refine Grew.setCell ?_ ?_ _)|go_size)) g12
 have G12:Grew (((w.alloc (.cells #[.int .i64 h.1,.int .i64 h.2.1,.int .i64 h.2.2] 25)).alloc (.cells #[.int .i64 x.1,.int .i64 x.2] 27)).alloc (.cells #[.int .i64 y.1,.int .i64 y.2] 27)) w12:=Grew.trans G11 D12
 have R12:=Lib.hid (R11.out.grown D12)
 have S12:=Lib.hid (S11.out.grown D12)
 have Q12:=Lib.hid (Q11.out.grown D12)
 have BK012:=Lib.hid (BK011.out.grown D12)
 have BK112:=Lib.hid (BK111.out.grown D12)
 have BK212:=Lib.hid (BK211.out.grown D12)
 have A12:=Lib.hid (A11.out.grown D12)
 clear R11 S11 Q11 BK011 BK111 BK211 A11
 clear g12 D12 G11
 clear x00 x01 x02 x10 x11 x20 x21
 obtain ⟨x00,x01,x02⟩:=blk_three BK012.out
 obtain ⟨x10,x11⟩:=blk_two BK112.out
 obtain ⟨x20,x21⟩:=blk_two BK212.out
 have B12:=Lib.hid s12
 clear s12
 obtain ⟨rfl,rfl⟩:=JoiP.one I11.out i12
 clear i12 I11
 go_wp2_with fail
 refine ((rsame_c r11 r11 _ _ _ A12.out B12.out).mono fun _ _ t => t.to rfl).mono ?_
 rintro e w13 ⟨rfl,g13⟩
 have D13:Grew w12 w13:=Grew.trans (by repeat' (first|(with_reducible first|exact Grew.refl _|assumption|refine Grew.alloc ?_ _ _|refine Grew.drew ?_|refine Grew.drewN ?_ _|refine Grew.setCell ?_ ?_ _)|go_size)) g13
 have G13:Grew (((w.alloc (.cells #[.int .i64 h.1,.int .i64 h.2.1,.int .i64 h.2.2] 25)).alloc (.cells #[.int .i64 x.1,.int .i64 x.2] 27)).alloc (.cells #[.int .i64 y.1,.int .i64 y.2] 27)) w13:=Grew.trans G12 D13
 have R13:=Lib.hid (R12.out.grown D13)
 have S13:=Lib.hid (S12.out.grown D13)
 have Q13:=Lib.hid (Q12.out.grown D13)
 have BK013:=Lib.hid (BK012.out.grown D13)
 have BK113:=Lib.hid (BK112.out.grown D13)
 have BK213:=Lib.hid (BK212.out.grown D13)
 have A13:=Lib.hid (A12.out.grown D13)
 have B13:=Lib.hid (B12.out.grown D13)
 clear R12 S12 Q12 BK012 BK112 BK212 A12 B12
 clear g13 D13 G12
 clear x00 x01 x02 x10 x11 x20 x21
 obtain ⟨x00,x01,x02⟩:=blk_three BK013.out
 obtain ⟨x10,x11⟩:=blk_two BK113.out
 obtain ⟨x20,x21⟩:=blk_two BK213.out
 clear A13
 clear B13
 go_wp2_with fail
 refine (K.cut L h _ _ R13.out).mono ?_
 rintro e w14 ⟨v14,k14,r14,i14,rfl,s14,g14⟩
 have D14:Grew w13 w14:=Grew.trans (by repeat' (first|(with_reducible first|exact Grew.refl _|assumption|refine Grew.alloc ?_ _ _|refine Grew.drew ?_|refine Grew.drewN ?_ _|refine Grew.setCell ?_ ?_ _)|go_size)) g14
 have G14:Grew (((w.alloc (.cells #[.int .i64 h.1,.int .i64 h.2.1,.int .i64 h.2.2] 25)).alloc (.cells #[.int .i64 x.1,.int .i64 x.2] 27)).alloc (.cells #[.int .i64 y.1,.int .i64 y.2] 27)) w14:=Grew.trans G13 D14
 have R14:=Lib.hid (R13.out.grown D14)
 have S14:=Lib.hid (S13.out.grown D14)
 have Q14:=Lib.hid (Q13.out.grown D14)
 have BK014:=Lib.hid (BK013.out.grown D14)
 have BK114:=Lib.hid (BK113.out.grown D14)
 have BK214:=Lib.hid (BK213.out.grown D14)
 clear R13 S13 Q13 BK013 BK113 BK213
 clear g14 D14 G13
 clear x00 x01 x02 x10 x11 x20 x21
 obtain ⟨x00,x01,x02⟩:=blk_three BK014.out
 obtain ⟨x10,x11⟩:=blk_two BK114.out
 obtain ⟨x20,x21⟩:=blk_two BK214.out
 have A14:=Lib.hid s14
 clear s14
 have I14:=Lib.hid i14
 clear i14
 go_wp2_with fail
 refine (F.cut L h _ _ R14.out).mono ?_
 rintro e w15 ⟨v15,k15,r15,i15,rfl,s15,g15⟩
 have D15:Grew w14 w15:=Grew.trans (by repeat' (first|(with_reducible first|exact Grew.refl _|assumption|refine Grew.alloc ?_ _ _|refine Grew.drew ?_|refine Grew.drewN ?_ _|refine Grew.setCell ?_ ?_ _)|go_size)) g15
 have G15:Grew (((w.alloc (.cells #[.int .i64 h.1,.int .i64 h.2.1,.int .i64 h.2.2] 25)).alloc (.cells #[.int .i64 x.1,.int .i64 x.2] 27)).alloc (.cells #[.int .i64 y.1,.int .i64 y.2] 27)) w15:=Grew.trans G14 D15
 have R15:=Lib.hid (R14.out.grown D15)
 have S15:=Lib.hid (S14.out.grown D15)
 have Q15:=Lib.hid (Q14.out.grown D15)
 have BK015:=Lib.hid (BK014.out.grown D15)
 have BK115:=Lib.hid (BK114.out.grown D15)
 have BK215:=Lib.hid (BK214.out.grown D15)
 have A15:=Lib.hid (A14.out.grown D15)
 clear R14 S14 Q14 BK014 BK114 BK214 A14
 clear g15 D15 G14
 clear x00 x01 x02 x10 x11 x20 x21
 obtain ⟨x00,x01,x02⟩:=blk_three BK015.out
 obtain ⟨x10,x11⟩:=blk_two BK115.out
 obtain ⟨x20,x21⟩:=blk_two BK215.out
 have B15:=Lib.hid s15
 clear s15
 obtain ⟨rfl,rfl⟩:=CutP.one I14.out i15
 clear i15 I14
 go_wp2_with fail
 refine ((rsame_c r14 r14 _ _ _ A15.out B15.out).mono fun _ _ t => t.to rfl).mono ?_
 rintro e w16 ⟨rfl,g16⟩
 have D16:Grew w15 w16:=Grew.trans (by repeat' (first|(with_reducible first|exact Grew.refl _|assumption|refine Grew.alloc ?_ _ _|refine Grew.drew ?_|refine Grew.drewN ?_ _|refine Grew.setCell ?_ ?_ _)|go_size)) g16
 have G16:Grew (((w.alloc (.cells #[.int .i64 h.1,.int .i64 h.2.1,.int .i64 h.2.2] 25)).alloc (.cells #[.int .i64 x.1,.int .i64 x.2] 27)).alloc (.cells #[.int .i64 y.1,.int .i64 y.2] 27)) w16:=Grew.trans G15 D16
 have R16:=Lib.hid (R15.out.grown D16)
 have S16:=Lib.hid (S15.out.grown D16)
 have Q16:=Lib.hid (Q15.out.grown D16)
 have BK016:=Lib.hid (BK015.out.grown D16)
 have BK116:=Lib.hid (BK115.out.grown D16)
 have BK216:=Lib.hid (BK215.out.grown D16)
 have A16:=Lib.hid (A15.out.grown D16)
 have B16:=Lib.hid (B15.out.grown D16)
 clear R15 S15 Q15 BK015 BK115 BK215 A15 B15
 clear g16 D16 G15
 clear x00 x01 x02 x10 x11 x20 x21
 obtain ⟨x00,x01,x02⟩:=blk_three BK016.out
 obtain ⟨x10,x11⟩:=blk_two BK116.out
 obtain ⟨x20,x21⟩:=blk_two BK216.out
 clear A16
 clear B16
 go_wp2_with fail
 refine (K.meet L M _ _ _ R16.out S16.out).mono ?_
 rintro e w17 ⟨v17,k17,r17,i17,rfl,s17,g17⟩
 have D17:Grew w16 w17:=Grew.trans (by repeat' (first|(with_reducible first|exact Grew.refl _|assumption|refine Grew.alloc ?_ _ _|refine Grew.drew ?_|refine Grew.drewN ?_ _|refine Grew.setCell ?_ ?_ _)|go_size)) g17
 have G17:Grew (((w.alloc (.cells #[.int .i64 h.1,.int .i64 h.2.1,.int .i64 h.2.2] 25)).alloc (.cells #[.int .i64 x.1,.int .i64 x.2] 27)).alloc (.cells #[.int .i64 y.1,.int .i64 y.2] 27)) w17:=Grew.trans G16 D17
 have R17:=Lib.hid (R16.out.grown D17)
 have S17:=Lib.hid (S16.out.grown D17)
 have Q17:=Lib.hid (Q16.out.grown D17)
 have BK017:=Lib.hid (BK016.out.grown D17)
 have BK117:=Lib.hid (BK116.out.grown D17)
 have BK217:=Lib.hid (BK216.out.grown D17)
 clear R16 S16 Q16 BK016 BK116 BK216
 clear g17 D17 G16
 clear x00 x01 x02 x10 x11 x20 x21
 obtain ⟨x00,x01,x02⟩:=blk_three BK017.out
 obtain ⟨x10,x11⟩:=blk_two BK117.out
 obtain ⟨x20,x21⟩:=blk_two BK217.out
 have A17:=Lib.hid s17
 clear s17
 have I17:=Lib.hid i17
 clear i17
 go_wp2_with fail
 refine (F.meet L M _ _ _ R17.out S17.out).mono ?_
 rintro e w18 ⟨v18,k18,r18,i18,rfl,s18,g18⟩
 have D18:Grew w17 w18:=Grew.trans (by repeat' (first|(with_reducible first|exact Grew.refl _|assumption|refine Grew.alloc ?_ _ _|refine Grew.drew ?_|refine Grew.drewN ?_ _|refine Grew.setCell ?_ ?_ _)|go_size)) g18
 have G18:Grew (((w.alloc (.cells #[.int .i64 h.1,.int .i64 h.2.1,.int .i64 h.2.2] 25)).alloc (.cells #[.int .i64 x.1,.int .i64 x.2] 27)).alloc (.cells #[.int .i64 y.1,.int .i64 y.2] 27)) w18:=Grew.trans G17 D18
 have R18:=Lib.hid (R17.out.grown D18)
 have S18:=Lib.hid (S17.out.grown D18)
 have Q18:=Lib.hid (Q17.out.grown D18)
 have BK018:=Lib.hid (BK017.out.grown D18)
 have BK118:=Lib.hid (BK117.out.grown D18)
 have BK218:=Lib.hid (BK217.out.grown D18)
 have A18:=Lib.hid (A17.out.grown D18)
 clear R17 S17 Q17 BK017 BK117 BK217 A17
 clear g18 D18 G17
 clear x00 x01 x02 x10 x11 x20 x21
 obtain ⟨x00,x01,x02⟩:=blk_three BK018.out
 obtain ⟨x10,x11⟩:=blk_two BK118.out
 obtain ⟨x20,x21⟩:=blk_two BK218.out
 have B18:=Lib.hid s18
 clear s18
 obtain ⟨rfl,rfl⟩:=MetP.one I17.out i18
 clear i18 I17
 go_wp2_with fail
 refine ((rsame_c r17 r17 _ _ _ A18.out B18.out).mono fun _ _ t => t.to rfl).mono ?_
 rintro e w19 ⟨rfl,g19⟩
 have D19:Grew w18 w19:=Grew.trans (by repeat' (first|(with_reducible first|exact Grew.refl _|assumption|refine Grew.alloc ?_ _ _|refine Grew.drew ?_|refine Grew.drewN ?_ _|refine Grew.setCell ?_ ?_ _)|go_size)) g19
 have G19:Grew (((w.alloc (.cells #[.int .i64 h.1,.int .i64 h.2.1,.int .i64 h.2.2] 25)).alloc (.cells #[.int .i64 x.1,.int .i64 x.2] 27)).alloc (.cells #[.int .i64 y.1,.int .i64 y.2] 27)) w19:=Grew.trans G18 D19
 have R19:=Lib.hid (R18.out.grown D19)
 have S19:=Lib.hid (S18.out.grown D19)
 have Q19:=Lib.hid (Q18.out.grown D19)
 have BK019:=Lib.hid (BK018.out.grown D19)
 have BK119:=Lib.hid (BK118.out.grown D19)
 have BK219:=Lib.hid (BK218.out.grown D19)
 have A19:=Lib.hid (A18.out.grown D19)
 have B19:=Lib.hid (B18.out.grown D19)
 clear R18 S18 Q18 BK018 BK118 BK218 A18 B18
 clear g19 D19 G18
 clear x00 x01 x02 x10 x11 x20 x21
 obtain ⟨x00,x01,x02⟩:=blk_three BK019.out
 obtain ⟨x10,x11⟩:=blk_two BK119.out
 obtain ⟨x20,x21⟩:=blk_two BK219.out
 clear A19
 clear B19
 go_wp2_with fail
 refine (K.sum L p _ _ _ R19.out Q19.out LP.out).mono ?_
 rintro e w20 ⟨v20,k20,r20,i20,rfl,s20,g20⟩
 have D20:Grew w19 w20:=Grew.trans (by repeat' (first|(with_reducible first|exact Grew.refl _|assumption|refine Grew.alloc ?_ _ _|refine Grew.drew ?_|refine Grew.drewN ?_ _|refine Grew.setCell ?_ ?_ _)|go_size)) g20
 have G20:Grew (((w.alloc (.cells #[.int .i64 h.1,.int .i64 h.2.1,.int .i64 h.2.2] 25)).alloc (.cells #[.int .i64 x.1,.int .i64 x.2] 27)).alloc (.cells #[.int .i64 y.1,.int .i64 y.2] 27)) w20:=Grew.trans G19 D20
 have R20:=Lib.hid (R19.out.grown D20)
 have S20:=Lib.hid (S19.out.grown D20)
 have Q20:=Lib.hid (Q19.out.grown D20)
 have BK020:=Lib.hid (BK019.out.grown D20)
 have BK120:=Lib.hid (BK119.out.grown D20)
 have BK220:=Lib.hid (BK219.out.grown D20)
 clear R19 S19 Q19 BK019 BK119 BK219
 clear g20 D20 G19
 clear x00 x01 x02 x10 x11 x20 x21
 obtain ⟨x00,x01,x02⟩:=blk_three BK020.out
 obtain ⟨x10,x11⟩:=blk_two BK120.out
 obtain ⟨x20,x21⟩:=blk_two BK220.out
 have A20:=Lib.hid s20
 clear s20
 have I20:=Lib.hid i20
 clear i20
 go_wp2_with fail
 refine (F.sum L p _ _ _ R20.out Q20.out LP.out).mono ?_
 rintro e w21 ⟨v21,k21,r21,i21,rfl,s21,g21⟩
 have D21:Grew w20 w21:=Grew.trans (by repeat' (first|(with_reducible first|exact Grew.refl _|assumption|refine Grew.alloc ?_ _ _|refine Grew.drew ?_|refine Grew.drewN ?_ _|refine Grew.setCell ?_ ?_ _)|go_size)) g21
 have G21:Grew (((w.alloc (.cells #[.int .i64 h.1,.int .i64 h.2.1,.int .i64 h.2.2] 25)).alloc (.cells #[.int .i64 x.1,.int .i64 x.2] 27)).alloc (.cells #[.int .i64 y.1,.int .i64 y.2] 27)) w21:=Grew.trans G20 D21
 have R21:=Lib.hid (R20.out.grown D21)
 have S21:=Lib.hid (S20.out.grown D21)
 have Q21:=Lib.hid (Q20.out.grown D21)
 have BK021:=Lib.hid (BK020.out.grown D21)
 have BK121:=Lib.hid (BK120.out.grown D21)
 have BK221:=Lib.hid (BK220.out.grown D21)
 have A21:=Lib.hid (A20.out.grown D21)
 clear R20 S20 Q20 BK020 BK120 BK220 A20
 clear g21 D21 G20
 clear x00 x01 x02 x10 x11 x20 x21
 obtain ⟨x00,x01,x02⟩:=blk_three BK021.out
 obtain ⟨x10,x11⟩:=blk_two BK121.out
 obtain ⟨x20,x21⟩:=blk_two BK221.out
 have B21:=Lib.hid s21
 clear s21
 obtain ⟨rfl,rfl⟩:=SumP.one I20.out i21
 clear i21 I20
 go_wp2_with fail
 refine ((rsame_c r20 r20 _ _ _ A21.out B21.out).mono fun _ _ t => t.to rfl).mono ?_
 rintro e w22 ⟨rfl,g22⟩
 have D22:Grew w21 w22:=Grew.trans (by repeat' (first|(with_reducible first|exact Grew.refl _|assumption|refine Grew.alloc ?_ _ _|refine Grew.drew ?_|refine Grew.drewN ?_ _|refine Grew.setCell ?_ ?_ _)|go_size)) g22
 have G22:Grew (((w.alloc (.cells #[.int .i64 h.1,.int .i64 h.2.1,.int .i64 h.2.2] 25)).alloc (.cells #[.int .i64 x.1,.int .i64 x.2] 27)).alloc (.cells #[.int .i64 y.1,.int .i64 y.2] 27)) w22:=Grew.trans G21 D22
 have R22:=Lib.hid (R21.out.grown D22)
 have S22:=Lib.hid (S21.out.grown D22)
 have Q22:=Lib.hid (Q21.out.grown D22)
 have BK022:=Lib.hid (BK021.out.grown D22)
 have BK122:=Lib.hid (BK121.out.grown D22)
 have BK222:=Lib.hid (BK221.out.grown D22)
 have A22:=Lib.hid (A21.out.grown D22)
 have B22:=Lib.hid (B21.out.grown D22)
 clear R21 S21 Q21 BK021 BK121 BK221 A21 B21
 clear g22 D22 G21
 clear x00 x01 x02 x10 x11 x20 x21
 obtain ⟨x00,x01,x02⟩:=blk_three BK022.out
 obtain ⟨x10,x11⟩:=blk_two BK122.out
 obtain ⟨x20,x21⟩:=blk_two BK222.out
 clear A22
 clear B22
 go_wp2_with fail
 refine (K.out L x y _ _ R22.out).mono ?_
 rintro e w23 ⟨v23,k23,r23,i23,rfl,s23,g23⟩
 have D23:Grew w22 w23:=Grew.trans (by repeat' (first|(with_reducible first|exact Grew.refl _|assumption|refine Grew.alloc ?_ _ _|refine Grew.drew ?_|refine Grew.drewN ?_ _|refine Grew.setCell ?_ ?_ _)|go_size)) g23
 have G23:Grew (((w.alloc (.cells #[.int .i64 h.1,.int .i64 h.2.1,.int .i64 h.2.2] 25)).alloc (.cells #[.int .i64 x.1,.int .i64 x.2] 27)).alloc (.cells #[.int .i64 y.1,.int .i64 y.2] 27)) w23:=Grew.trans G22 D23
 have R23:=Lib.hid (R22.out.grown D23)
 have S23:=Lib.hid (S22.out.grown D23)
 have Q23:=Lib.hid (Q22.out.grown D23)
 have BK023:=Lib.hid (BK022.out.grown D23)
 have BK123:=Lib.hid (BK122.out.grown D23)
 have BK223:=Lib.hid (BK222.out.grown D23)
 clear R22 S22 Q22 BK022 BK122 BK222
 clear g23 D23 G22
 clear x00 x01 x02 x10 x11 x20 x21
 obtain ⟨x00,x01,x02⟩:=blk_three BK023.out
 obtain ⟨x10,x11⟩:=blk_two BK123.out
 obtain ⟨x20,x21⟩:=blk_two BK223.out
 have A23:=Lib.hid s23
 clear s23
 have I23:=Lib.hid i23
 clear i23
 go_wp2_with fail
 refine (F.out L x y _ _ R23.out).mono ?_
 rintro e w24 ⟨v24,k24,r24,i24,rfl,s24,g24⟩
 have D24:Grew w23 w24:=Grew.trans (by repeat' (first|(with_reducible first|exact Grew.refl _|assumption|refine Grew.alloc ?_ _ _|refine Grew.drew ?_|refine Grew.drewN ?_ _|refine Grew.setCell ?_ ?_ _)|go_size)) g24
 have G24:Grew (((w.alloc (.cells #[.int .i64 h.1,.int .i64 h.2.1,.int .i64 h.2.2] 25)).alloc (.cells #[.int .i64 x.1,.int .i64 x.2] 27)).alloc (.cells #[.int .i64 y.1,.int .i64 y.2] 27)) w24:=Grew.trans G23 D24
 have R24:=Lib.hid (R23.out.grown D24)
 have S24:=Lib.hid (S23.out.grown D24)
 have Q24:=Lib.hid (Q23.out.grown D24)
 have BK024:=Lib.hid (BK023.out.grown D24)
 have BK124:=Lib.hid (BK123.out.grown D24)
 have BK224:=Lib.hid (BK223.out.grown D24)
 have A24:=Lib.hid (A23.out.grown D24)
 clear R23 S23 Q23 BK023 BK123 BK223 A23
 clear g24 D24 G23
 clear x00 x01 x02 x10 x11 x20 x21
 obtain ⟨x00,x01,x02⟩:=blk_three BK024.out
 obtain ⟨x10,x11⟩:=blk_two BK124.out
 obtain ⟨x20,x21⟩:=blk_two BK224.out
 have B24:=Lib.hid s24
 clear s24
 obtain ⟨rfl,rfl⟩:=OutP.one I23.out i24
 clear i24 I23
 go_wp2_with fail
 refine ((rsame_c r23 r23 _ _ _ A24.out B24.out).mono fun _ _ t => t.to rfl).mono ?_
 rintro e w25 ⟨rfl,g25⟩
 have D25:Grew w24 w25:=Grew.trans (by repeat' (first|(with_reducible first|exact Grew.refl _|assumption|refine Grew.alloc ?_ _ _|refine Grew.drew ?_|refine Grew.drewN ?_ _|refine Grew.setCell ?_ ?_ _)|go_size)) g25
 have G25:Grew (((w.alloc (.cells #[.int .i64 h.1,.int .i64 h.2.1,.int .i64 h.2.2] 25)).alloc (.cells #[.int .i64 x.1,.int .i64 x.2] 27)).alloc (.cells #[.int .i64 y.1,.int .i64 y.2] 27)) w25:=Grew.trans G24 D25
 have R25:=Lib.hid (R24.out.grown D25)
 have S25:=Lib.hid (S24.out.grown D25)
 have Q25:=Lib.hid (Q24.out.grown D25)
 have BK025:=Lib.hid (BK024.out.grown D25)
 have BK125:=Lib.hid (BK124.out.grown D25)
 have BK225:=Lib.hid (BK224.out.grown D25)
 have A25:=Lib.hid (A24.out.grown D25)
 have B25:=Lib.hid (B24.out.grown D25)
 clear R24 S24 Q24 BK024 BK124 BK224 A24 B24
 clear g25 D25 G24
 clear x00 x01 x02 x10 x11 x20 x21
 obtain ⟨x00,x01,x02⟩:=blk_three BK025.out
 obtain ⟨x10,x11⟩:=blk_two BK125.out
 obtain ⟨x20,x21⟩:=blk_two BK225.out
 clear A25
 clear B25
 go_wp2_with fail
 refine (K.within L p _ _ _ R25.out Q25.out LP.out).mono ?_
 rintro e w26 ⟨r26,k26,i26,rfl,g26⟩
 have D26:Grew w25 w26:=Grew.trans (by repeat' (first|(with_reducible first|exact Grew.refl _|assumption|refine Grew.alloc ?_ _ _|refine Grew.drew ?_|refine Grew.drewN ?_ _|refine Grew.setCell ?_ ?_ _)|go_size)) g26
 have G26:Grew (((w.alloc (.cells #[.int .i64 h.1,.int .i64 h.2.1,.int .i64 h.2.2] 25)).alloc (.cells #[.int .i64 x.1,.int .i64 x.2] 27)).alloc (.cells #[.int .i64 y.1,.int .i64 y.2] 27)) w26:=Grew.trans G25 D26
 have R26:=Lib.hid (R25.out.grown D26)
 have S26:=Lib.hid (S25.out.grown D26)
 have Q26:=Lib.hid (Q25.out.grown D26)
 have BK026:=Lib.hid (BK025.out.grown D26)
 have BK126:=Lib.hid (BK125.out.grown D26)
 have BK226:=Lib.hid (BK225.out.grown D26)
 clear R25 S25 Q25 BK025 BK125 BK225
 clear g26 D26 G25
 clear x00 x01 x02 x10 x11 x20 x21
 obtain ⟨x00,x01,x02⟩:=blk_three BK026.out
 obtain ⟨x10,x11⟩:=blk_two BK126.out
 obtain ⟨x20,x21⟩:=blk_two BK226.out
 have I26:=Lib.hid i26
 clear i26
 go_wp2_with fail
 refine (F.within L p _ _ _ R26.out Q26.out LP.out).mono ?_
 rintro e w27 ⟨r27,k27,i27,rfl,g27⟩
 have D27:Grew w26 w27:=Grew.trans (by repeat' (first|(with_reducible first|exact Grew.refl _|assumption|refine Grew.alloc ?_ _ _|refine Grew.drew ?_|refine Grew.drewN ?_ _|refine Grew.setCell ?_ ?_ _)|go_size)) g27
 have G27:Grew (((w.alloc (.cells #[.int .i64 h.1,.int .i64 h.2.1,.int .i64 h.2.2] 25)).alloc (.cells #[.int .i64 x.1,.int .i64 x.2] 27)).alloc (.cells #[.int .i64 y.1,.int .i64 y.2] 27)) w27:=Grew.trans G26 D27
 have R27:=Lib.hid (R26.out.grown D27)
 have S27:=Lib.hid (S26.out.grown D27)
 have Q27:=Lib.hid (Q26.out.grown D27)
 have BK027:=Lib.hid (BK026.out.grown D27)
 have BK127:=Lib.hid (BK126.out.grown D27)
 have BK227:=Lib.hid (BK226.out.grown D27)
 clear R26 S26 Q26 BK026 BK126 BK226
 clear g27 D27 G26
 clear x00 x01 x02 x10 x11 x20 x21
 obtain ⟨x00,x01,x02⟩:=blk_three BK027.out
 obtain ⟨x10,x11⟩:=blk_two BK127.out
 obtain ⟨x20,x21⟩:=blk_two BK227.out
 obtain ⟨rfl,rfl⟩:=WitP.one I26.out i27
 clear i27 I26
 go_wp2_with fail
 refine (K.box L _ _ R27.out).mono ?_
 rintro e w28 ⟨lo,hi,ok,ka,ia,rfl,g28⟩
 have D28:Grew w27 w28:=Grew.trans (by repeat' (first|(with_reducible first|exact Grew.refl _|assumption|refine Grew.alloc ?_ _ _|refine Grew.drew ?_|refine Grew.drewN ?_ _|refine Grew.setCell ?_ ?_ _)|go_size)) g28
 have G28:Grew (((w.alloc (.cells #[.int .i64 h.1,.int .i64 h.2.1,.int .i64 h.2.2] 25)).alloc (.cells #[.int .i64 x.1,.int .i64 x.2] 27)).alloc (.cells #[.int .i64 y.1,.int .i64 y.2] 27)) w28:=Grew.trans G27 D28
 have R28:=Lib.hid (R27.out.grown D28)
 have S28:=Lib.hid (S27.out.grown D28)
 have Q28:=Lib.hid (Q27.out.grown D28)
 have BK028:=Lib.hid (BK027.out.grown D28)
 have BK128:=Lib.hid (BK127.out.grown D28)
 have BK228:=Lib.hid (BK227.out.grown D28)
 clear R27 S27 Q27 BK027 BK127 BK227
 clear g28 D28 G27
 clear x00 x01 x02 x10 x11 x20 x21
 obtain ⟨x00,x01,x02⟩:=blk_three BK028.out
 obtain ⟨x10,x11⟩:=blk_two BK128.out
 obtain ⟨x20,x21⟩:=blk_two BK228.out
 have IA:=Lib.hid ia
 clear ia
 have L0:=Lib.hid ((Blk.new w28 #[.int .i64 lo.1,.int .i64 lo.2] 27).alloc (.cells #[.int .i64 hi.1,.int .i64 hi.2] 27))
 have L1:=Lib.hid (Blk.new (w28.alloc (.cells #[.int .i64 lo.1,.int .i64 lo.2] 27)) #[.int .i64 hi.1,.int .i64 hi.2] 27)
 simp only [World.size_alloc] at L1
 go_wp2_with fail
 refine (F.box L _ _ (R28.out.grown (by repeat' (first|(with_reducible first|exact Grew.refl _|assumption|refine Grew.alloc ?_ _ _|refine Grew.drew ?_|refine Grew.drewN ?_ _|refine Grew.setCell ?_ ?_ _)|go_size)))).mono ?_
 rintro e w29 ⟨lo',hi',ok',kb,ib,rfl,g29⟩
 have D29:Grew w28 w29:=Grew.trans (by repeat' (first|(with_reducible first|exact Grew.refl _|assumption|refine Grew.alloc ?_ _ _|refine Grew.drew ?_|refine Grew.drewN ?_ _|refine Grew.setCell ?_ ?_ _)|go_size)) g29
 have G29:Grew (((w.alloc (.cells #[.int .i64 h.1,.int .i64 h.2.1,.int .i64 h.2.2] 25)).alloc (.cells #[.int .i64 x.1,.int .i64 x.2] 27)).alloc (.cells #[.int .i64 y.1,.int .i64 y.2] 27)) w29:=Grew.trans G28 D29
 have L0x29:=Lib.hid ((L0.out).grown g29)
 have L1x29:=Lib.hid ((L1.out).grown g29)
 have R29:=Lib.hid (R28.out.grown D29)
 have S29:=Lib.hid (S28.out.grown D29)
 have Q29:=Lib.hid (Q28.out.grown D29)
 have BK029:=Lib.hid (BK028.out.grown D29)
 have BK129:=Lib.hid (BK128.out.grown D29)
 have BK229:=Lib.hid (BK228.out.grown D29)
 clear R28 S28 Q28 BK028 BK128 BK228
 clear g29 D29 G28
 clear x00 x01 x02 x10 x11 x20 x21
 obtain ⟨x00,x01,x02⟩:=blk_three BK029.out
 obtain ⟨x10,x11⟩:=blk_two BK129.out
 obtain ⟨x20,x21⟩:=blk_two BK229.out
 obtain ⟨⟨rfl,rfl⟩,rfl,rfl⟩:=BoxP.one IA.out ib
 clear ib IA L0 L1
 have l0:=L0x29.out.lt
 have l1:=L1x29.out.lt
 have l01:w28.heap.size < w29.heap.size+1:=by omega
 have l02:w28.heap.size < w29.heap.size+1+1:=by omega
 have l11:w28.heap.size+1 < w29.heap.size+1:=by omega
 have l12:w28.heap.size+1 < w29.heap.size+1+1:=by omega
 obtain ⟨p0,p1⟩:=blk_two L0x29.out
 obtain ⟨p2,p3⟩:=blk_two L1x29.out
 go_wp2_with fail
 go_ret
 exact ⟨rfl,GW0.trans (Grew.trans G29 (by repeat' (first|(with_reducible first|exact Grew.refl _|assumption|refine Grew.alloc ?_ _ _|refine Grew.drew ?_|refine Grew.drewN ?_ _|refine Grew.setCell ?_ ?_ _)|go_size)))⟩
end Rg
end Go.Proofs.YtlookcbokhknfaaGreat
