/-
  The law RingWedge, under what package ring owes.
-/
import Derived.Test.YtbpgfenippiepaaGreatDoorRngRefB
namespace Go.Proofs.YtbpgfenippiepaaGreatDoor
open Go.RowKit Go.Shelf Hl
namespace Rn
open Rg (Rgn VlR AllV AnsR Rl InR)
set_option maxRecDepth 100000 in
set_option maxHeartbeats 8000000 in
theorem wedge_true {T:World→Prop} (C:Code T) (HA:HasC) (VA:ValC) (L:Rgn) (x:Pt) (a n:Int) (l:List Pt) (v u:Value) (w:World) (hT:T w) (hs:Rl w v L) (hu:Sl w u l) (hl:l.length≤9223372036854775807):Calls Tryz.prog 7 #[v,.agg #[.int .i64 x.1,.int .i64 x.2],.int .i64 a,.int .i64 n,u] w fun e w' => e=.returned (.bool true)∧Grew w w':=by
 have TK:=Lib.hid (fun W (g:Grew w W) => C.keep w W g hT)
 have HC:=Lib.hid (fun W (g:Grew w W) => head_true C W (C.keep w W g hT))
 have F:=C.fns
 obtain ⟨va,m,vc,rfl,hm⟩:=Rg.rl_nat hs
 obtain ⟨ua,uc,rfl⟩:=hu.shape
 obtain ⟨ln,hln⟩:∃ k,l.length=k:=⟨_,rfl⟩
 rw [hln] at hu hl ⊢
 have R:=Lib.hid hs
 have Q:=Lib.hid hu
 have hln:=Lib.hid hln
 clear hs hu C hT hm
 have BK00:=Lib.hid ((Blk.new (w) #[.int .i64 x.1,.int .i64 x.2] 24))
 have GW0:Hid (Grew w (w.alloc (.cells #[.int .i64 x.1,.int .i64 x.2] 24))):=Lib.hid gw
 have G0:Hid (Grew w (w.alloc (.cells #[.int .i64 x.1,.int .i64 x.2] 24))):=GW0
 have R0:=Lib.hid (R.out.grown GW0.out)
 have Q0:=Lib.hid (Q.out.grown GW0.out)
 clear GW0
 go_enter Tryz.func7,Tryz.ntmps7
 obtain ⟨⟨x00,x01⟩,-,-⟩:=BK00.out.two
 have x0l:=BK00.out.lt
 go_wp2_with fail
 refine (HC.out _ (Grew.trans G0.out gw)).mono ?_
 rintro e w1 ⟨rfl,g1⟩
 have D1:Hid (Grew (w.alloc (.cells #[.int .i64 x.1,.int .i64 x.2] 24)) w1):=Lib.hid (Grew.trans gw g1)
 have G1:=Lib.hid (G0.out.trans D1.out)
 have R1:=Lib.hid (R0.out.grown D1.out)
 have Q1:=Lib.hid (Q0.out.grown D1.out)
 have BK01:=Lib.hid (BK00.out.grown D1.out)
 clear R0 Q0 BK00 g1 D1 G0 x00 x01 x0l
 obtain ⟨⟨x00,x01⟩,-,-⟩:=BK01.out.two
 have x0l:=BK01.out.lt
 clear HC
 by_cases h20:(20:Int) < (ln:Int)
 ·go_wp2_with fail
  go_ret
  exact ⟨by first | rfl | trivial,G1.out⟩
 have L20:Hid (l.length≤20):=Lib.hid (by have:=hln.out;omega)
 go_wp2_with fail
 refine (usable_c L x 0 0 _ _ R1.out).mono ?_
 rintro e w2 ⟨b1,rfl,h1,g2⟩
 have D2:Hid (Grew w1 w2):=Lib.hid (Grew.trans gw g2)
 have G2:=Lib.hid (G1.out.trans D2.out)
 have R2:=Lib.hid (R1.out.grown D2.out)
 have Q2:=Lib.hid (Q1.out.grown D2.out)
 have BK02:=Lib.hid (BK01.out.grown D2.out)
 clear R1 Q1 BK01 g2 D2 G1 x00 x01 x0l
 obtain ⟨⟨x00,x01⟩,-,-⟩:=BK02.out.two
 have x0l:=BK02.out.lt
 have H1:=Lib.hid h1
 clear h1
 cases b1
 ·clear H1
  go_wp2_with fail
  go_ret
  exact ⟨by first | rfl | trivial,G2.out⟩
 have U:=Lib.hid (H1.out (by first | rfl | trivial))
 clear H1
 go_wp2_with fail
 refine (F.wedge L x a n _ _ (TK.out _ (Grew.trans G2.out gw)) R2.out).mono ?_
 rintro e w3 ⟨v3,k3,r,p3,rfl,s3,g3⟩
 have D3:Hid (Grew w2 w3):=Lib.hid (Grew.trans gw g3)
 have G3:=Lib.hid (G2.out.trans D3.out)
 have R3:=Lib.hid (R2.out.grown D3.out)
 have Q3:=Lib.hid (Q2.out.grown D3.out)
 have BK03:=Lib.hid (BK02.out.grown D3.out)
 clear R2 Q2 BK02 g3 D3 G2 x00 x01 x0l
 have A3:=Lib.hid s3
 clear s3
 obtain ⟨⟨x00,x01⟩,-,-⟩:=BK03.out.two
 have x0l:=BK03.out.lt
 obtain ⟨v3a,v3n,v3c,rfl,v3e⟩:=Rg.rl_nat A3.out
 clear v3e
 by_cases hk:k3=0
 ·subst hk
  have WC:=Lib.hid (wedp_ok p3)
  clear p3
  have SC:=Lib.hid (fun W (g:Grew w3 W) => single_c l _ W (Q3.out.grown g) L20.out)
  go_wp2_with fail
  go_region_held3 (fun w' => w'.cell? ⟨w.heap.size,0,none⟩=some (.int .i64 x.1)∧w'.cell? ⟨w.heap.size,1,none⟩=some (.int .i64 x.2)) (simp [go_sem, *])
   (first | (go_at_call 16;refine (F.wedge (sing l) x a n _ _ (TK.out _ (G3.out.trans GA.out)) SU.out).mono ?_;rintro e w4 ⟨vb,kb,rb,pb,rfl,sb,gb⟩;have GB:=Lib.hid (GA.out.trans gb);have SB:=Lib.hid sb;have PB:=Lib.hid pb;obtain ⟨ba,bn,bc,rfl,-⟩:=Rg.rl_nat sb;have BKb:=Lib.hid (BK03.out.grown GB.out);obtain ⟨⟨y00,y01⟩,-,-⟩:=BKb.out.two;have y0l:=BKb.out.lt;clear sb gb pb) | (go_at_call 27;refine (SC.out _ gw).mono ?_;rintro e wa ⟨u,rfl,su,ga⟩;have GA:Hid (Grew w3 wa):=Lib.hid (Grew.trans gw ga);have SU:=Lib.hid su;obtain ⟨sa,sn,sc,rfl,-⟩:=Rg.rl_nat su;have BKa:=Lib.hid (BK03.out.grown GA.out);obtain ⟨⟨z00,z01⟩,-,-⟩:=BKa.out.two;have z0l:=BKa.out.lt;clear su ga))
  have G4:=Lib.hid (G3.out.trans GB.out)
  have R4:=Lib.hid (R3.out.grown GB.out)
  have Q4:=Lib.hid (Q3.out.grown GB.out)
  have BK04:=Lib.hid (BK03.out.grown GB.out)
  have A4:=Lib.hid (A3.out.grown GB.out)
  clear R3 Q3 BK03 A3 G3 GA GB SU SC BKa BKb y00 y01 y0l z00 z01 z0l TK x00 x01 x0l
  have B4:=SB
  clear SB
  obtain ⟨⟨x00,x01⟩,-,-⟩:=BK04.out.two
  have x0l:=BK04.out.lt
  by_cases hkb:kb=0
  ·subst hkb
   have WB:=Lib.hid (wedp_ok PB.out)
   clear PB
   obtain ⟨a,rfl⟩:∃ b:Nat,a=(b:Int):=⟨a.toNat,by have:=WC.out.1.2.1;omega⟩
   obtain ⟨n,rfl⟩:∃ b:Nat,n=(b:Int):=⟨n.toNat,by have:=WC.out.1.2.2;omega⟩
   have AN:Hid (a < 64∧n≤31):=Lib.hid (by have:=WC.out.1.2;omega)
   have SEE:Hid (∀ y,y ∈ l→(InR rb y↔Sees y x a n)∧(InR L y→Sees y x a n→InR r y)∧Plc y):=Lib.hid (fun y hy => by
    have h1:=WB.out.2
    have h2:=WC.out.2
    rw [Int.toNat_natCast,Int.toNat_natCast] at h1 h2
    exact ⟨wed_sees AN.out.1 AN.out.2 L20.out WB.out.1.1.1.2 h1 hy,fun i s => h2.has AN.out.1 AN.out.2 U.out.1.2 i s,sing_plc WB.out.1.1.1.2 hy⟩)
   have VR:=Lib.hid (WC.out.2.vl U.out.1.2)
   have VB:=Lib.hid (WB.out.2.vl WB.out.1.1.1.2)
   clear WB WC
   clear x00 x01 x0l
   go_wp2_with fail
   go_loopw [11,17,18,19,20,21,22,74] (fun up _ _ _ _ _ _ i wr => ∃ k:Nat,k≤ln∧up=.bool true∧i=.int .i64 k∧Hid (Grew w4 wr)) (fun _ _ _ _ _ _ _ i _ => ln - (intOf i).toNat)
   case atStart => exact ⟨0,Nat.zero_le _,rfl,rfl,Lib.hid (Grew.refl _)⟩
   case round =>
    obtain ⟨k,hk,rfl,rfl,G⟩:=hrel
    have GW:=Lib.hid (G4.out.trans G.out)
    by_cases hlt:k < ln
    ·have i0:(0:Int)≤(k:Int):=by omega
     have i1:(k:Int) < (ln:Int):=by omega
     have hl20:ln≤20:=by have:=hln.out;have:=L20.out;omega
     have kl:k < l.length:=by rw [hln.out];exact hlt
     have hq:=Q4.out.grown G.out
     obtain ⟨qb,qo,e,hr⟩:∃ b o,ua=some ⟨b,o,none⟩∧Row wr b o l:=by
      obtain ⟨b,o,c',e,hr⟩:=hq.row (fun e => by rw [e] at kl;cases kl)
      injection e with e1 e2 e3
      exact ⟨b,o,e1,hr⟩
     subst e
     obtain ⟨q0,q1⟩:=hr.2 k kl
     have hb:=hr.1
     have SY:=Lib.hid (SEE.out _ (at_mem kl))
     generalize at' l k=y at q0 q1 SY
     have Rr:=Lib.hid (R4.out.grown G.out)
     have Ar:=Lib.hid (A4.out.grown G.out)
     have Br:=Lib.hid (B4.out.grown G.out)
     have BK0r:=Lib.hid (BK04.out.grown G.out)
     obtain ⟨W0,hW0⟩:∃ W0,W0=wr:=⟨wr,rfl⟩
     subst hW0
     have Y0:=Lib.hid (Blk.new W0 #[.int .i64 y.1,.int .i64 y.2] 24)
     have g0:Hid (Grew W0 (W0.alloc (.cells #[.int .i64 y.1,.int .i64 y.2] 24))):=Lib.hid ((Grew.refl _).alloc _ _)
     clear hq hr kl
     go_wp2_with fail
     refine (has_ok HA r y _ _ (Ar.out.grown g0.out) VR.out SY.out.2.2).mono ?_
     rintro e wa ⟨b1,rfl,h1,ga⟩
     have H1:=Lib.hid h1
     have GA:=Lib.hid (g0.out.trans ga)
     have YA:=Lib.hid (Y0.out.grown ga)
     obtain ⟨⟨y0,y1⟩,-,-⟩:=YA.out.two
     have yl:=YA.out.lt
     clear ga h1 q0 q1 hb
     go_wp2_with fail
     refine (has_ok HA rb y _ _ (Br.out.grown GA.out) VB.out SY.out.2.2).mono ?_
     rintro e wb ⟨b2,rfl,h2,gb⟩
     have H2:=Lib.hid h2
     have GB:=Lib.hid (GA.out.trans gb)
     have YB:=Lib.hid (YA.out.grown gb)
     clear gb h2 y0 y1 yl
     obtain ⟨⟨y0,y1⟩,-,-⟩:=YB.out.two
     have yl:=YB.out.lt
     have XB:=Lib.hid (BK0r.out.grown GB.out)
     obtain ⟨⟨x0,x1⟩,-,-⟩:=XB.out.two
     have xl:=XB.out.lt
     go_wp2_with fail
     refine (sees_r y x a n _ SY.out.2.2 U.out.2.1 AN.out.1 AN.out.2).mono ?_
     rintro e wc ⟨b3,rfl,h3,gc⟩
     have H3:=Lib.hid h3
     have GC:=Lib.hid (GB.out.trans gc)
     have YC:=Lib.hid (YB.out.grown gc)
     clear gc h3 y0 y1 yl x0 x1 xl
     obtain ⟨⟨y0,y1⟩,-,-⟩:=YC.out.two
     have yl:=YC.out.lt
     obtain rfl:b2=b3:=Bool.eq_iff_iff.2 (H2.out.trans (SY.out.1.trans H3.out.symm))
     cases b2
     ·clear H1 H2 H3
      go_wp2_with fail
      go_roundw
      case rel => exact ⟨k+1,by omega,by first | rfl | trivial,by go_num,Lib.hid (G.out.trans GC.out)⟩
      case measure => simp [intOf];omega
     have SE:=Lib.hid (H3.out.1 (by first | rfl | trivial))
     clear H2 H3
     go_wp2_with fail
     refine (Rg.in_c L y _ _ (Rr.out.grown GC.out) U.out.1.2 SY.out.2.2).mono ?_
     rintro e wd ⟨b4,rfl,h4,gd⟩
     have H4:=Lib.hid h4
     have GD:=Lib.hid (GC.out.trans gd)
     clear gd h4 y0 y1 yl
     cases b4
     ·clear H1 H4
      go_wp2_with fail
      go_roundw
      case rel => exact ⟨k+1,by omega,by first | rfl | trivial,by go_num,Lib.hid (G.out.trans GD.out)⟩
      case measure => simp [intOf];omega
     obtain rfl:b1=true:=H1.out.2 (SY.out.2.1 (H4.out.1 (by first | rfl | trivial)) SE.out)
     clear H1 H4
     go_wp2_with fail
     go_roundw
     case rel => exact ⟨k+1,by omega,by first | rfl | trivial,by go_num,Lib.hid (G.out.trans GD.out)⟩
     case measure => simp [intOf];omega
    ·obtain rfl:k=ln:=by omega
     go_wp2_with fail
     go_ret
     exact ⟨rfl,GW.out⟩
  obtain ⟨rfl,hno⟩:=wedp_err PB.out hkb
  have NV:Hid (¬ VlR (sing l)):=Lib.hid (fun h => hno ⟨⟨h,U.out.2.1⟩,WC.out.1.2⟩)
  clear hno PB hkb
  clear B4
  go_wp2_with fail
  refine (single_c l _ _ Q4.out L20.out).mono ?_
  rintro e w5 ⟨vz,rfl,sz,g5⟩
  have D5:Hid (Grew w4 w5):=Lib.hid (Grew.trans gw g5)
  have G5:=Lib.hid (G4.out.trans D5.out)
  have R5:=Lib.hid (R4.out.grown D5.out)
  have Q5:=Lib.hid (Q4.out.grown D5.out)
  have BK05:=Lib.hid (BK04.out.grown D5.out)
  have A5:=Lib.hid (A4.out.grown D5.out)
  clear R4 Q4 BK04 A4 g5 D5 G4 x00 x01 x0l
  have Z5:=Lib.hid sz
  clear sz
  obtain ⟨⟨x00,x01⟩,-,-⟩:=BK05.out.two
  have x0l:=BK05.out.lt
  obtain ⟨vza,vzn,vzc,rfl,vze⟩:=Rg.rl_nat Z5.out
  clear vze
  go_wp2_with fail
  refine ((VA (sing l) _ _ Z5.out).mono fun _ _ t => t.un NV.out).mono ?_
  rintro e w6 ⟨rfl,g6⟩
  have D6:Hid (Grew w5 w6):=Lib.hid (Grew.trans gw g6)
  have G6:=Lib.hid (G5.out.trans D6.out)
  have R6:=Lib.hid (R5.out.grown D6.out)
  have Q6:=Lib.hid (Q5.out.grown D6.out)
  have BK06:=Lib.hid (BK05.out.grown D6.out)
  have A6:=Lib.hid (A5.out.grown D6.out)
  have Z6:=Lib.hid (Z5.out.grown D6.out)
  clear R5 Q5 BK05 A5 Z5 g6 D6 G5 x00 x01 x0l
  obtain ⟨⟨x00,x01⟩,-,-⟩:=BK06.out.two
  have x0l:=BK06.out.lt
  go_wp2_with fail
  go_ret
  exact ⟨by first | rfl | trivial,G6.out⟩
 obtain ⟨rfl,-⟩:=wedp_err p3 hk
 clear p3
 go_wp2_with fail
 go_ret
 exact ⟨by first | rfl | trivial,G3.out⟩
end Rn
end Go.Proofs.YtbpgfenippiepaaGreatDoor
