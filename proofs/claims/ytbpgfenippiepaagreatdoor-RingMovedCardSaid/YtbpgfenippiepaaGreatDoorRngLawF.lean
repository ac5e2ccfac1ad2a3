/-
  The law RingMoved, under what package ring owes.
-/
import Derived.Test.YtbpgfenippiepaaGreatDoorRngRefB
import Derived.Test.YtbpgfenippiepaaGreatDoorRegT
import Derived.Test.YtbpgfenippiepaaGreatDoorHullInB
namespace Go.Proofs.YtbpgfenippiepaaGreatDoor
open Go.RowKit Go.Shelf Hl
namespace Rn
open Rg (Rgn VlR AllV AnsR Rl InR)
theorem run_min (a b:Int):∃ M:Int,(∀ (ts:Array TypeId) (t:TypeId) (W:World),Sem.run Tryz.prog (Builtin.min_ ts t #[.int .i64 a,.int .i64 b]) W=.ok (.int .i64 M) W)∧(M≤a∧M≤b∧(M=a∨M=b)):=by
 by_cases h:b < a
 ·exact ⟨b,fun ts t W => by simp [Builtin.min_,Builtin.min2,h],by omega⟩
 ·exact ⟨a,fun ts t W => by simp [Builtin.min_,Builtin.min2,h],by omega⟩
set_option maxRecDepth 100000 in
set_option maxHeartbeats 8000000 in
theorem moved_true {T:World→Prop} (C:Code T) (HA:HasC) (SC:SumC) (x z:Pt) (lo hi a n more:Int) (l:List Pt) (u:Value) (w:World) (hT:T w) (hu:Sl w u l) (hl:l.length≤9223372036854775807):Calls Tryz.prog 8 #[.agg #[.int .i64 x.1,.int .i64 x.2],.agg #[.int .i64 z.1,.int .i64 z.2],.agg #[.int .i64 lo,.int .i64 hi],.int .i64 a,.int .i64 n,.int .i64 more,u] w fun e w' => e=.returned (.bool true)∧Grew w w':=by
 have TK:=Lib.hid (fun W (g:Grew w W) => C.keep w W g hT)
 have HC:=Lib.hid (fun W (g:Grew w W) => head_true C W (C.keep w W g hT))
 have F:=C.fns
 obtain ⟨ua,uc,rfl⟩:=hu.shape
 obtain ⟨ln,hln⟩:∃ k,l.length=k:=⟨_,rfl⟩
 rw [hln] at hu hl ⊢
 have Q:=Lib.hid hu
 have hln:=Lib.hid hln
 clear hu C hT
 have BK00:=Lib.hid ((Blk.new (w) #[.int .i64 x.1,.int .i64 x.2] 24).grown (((Grew.refl _).alloc #[.int .i64 z.1,.int .i64 z.2] 24).alloc #[.int .i64 lo,.int .i64 hi] 26))
 have BK10:=Lib.hid ((Blk.new ((w.alloc (.cells #[.int .i64 x.1,.int .i64 x.2] 24))) #[.int .i64 z.1,.int .i64 z.2] 24).grown ((Grew.refl _).alloc #[.int .i64 lo,.int .i64 hi] 26))
 simp only [World.size_alloc] at BK10
 have BK20:=Lib.hid ((Blk.new (((w.alloc (.cells #[.int .i64 x.1,.int .i64 x.2] 24)).alloc (.cells #[.int .i64 z.1,.int .i64 z.2] 24))) #[.int .i64 lo,.int .i64 hi] 26))
 simp only [World.size_alloc] at BK20
 have GW0:Hid (Grew w (((w.alloc (.cells #[.int .i64 x.1,.int .i64 x.2] 24)).alloc (.cells #[.int .i64 z.1,.int .i64 z.2] 24)).alloc (.cells #[.int .i64 lo,.int .i64 hi] 26))):=Lib.hid gw
 have G0:Hid (Grew w (((w.alloc (.cells #[.int .i64 x.1,.int .i64 x.2] 24)).alloc (.cells #[.int .i64 z.1,.int .i64 z.2] 24)).alloc (.cells #[.int .i64 lo,.int .i64 hi] 26))):=GW0
 have Q0:=Lib.hid (Q.out.grown GW0.out)
 clear GW0
 go_enter Tryz.func8,Tryz.ntmps8
 obtain ⟨⟨x00,x01⟩,-,-⟩:=BK00.out.two
 have x0l:=BK00.out.lt
 obtain ⟨⟨x10,x11⟩,-,-⟩:=BK10.out.two
 have x1l:=BK10.out.lt
 obtain ⟨⟨x20,x21⟩,-,-⟩:=BK20.out.two
 have x2l:=BK20.out.lt
 go_wp2_with fail
 refine (HC.out _ (Grew.trans G0.out gw)).mono ?_
 rintro e w1 ⟨rfl,g1⟩
 have D1:Hid (Grew (((w.alloc (.cells #[.int .i64 x.1,.int .i64 x.2] 24)).alloc (.cells #[.int .i64 z.1,.int .i64 z.2] 24)).alloc (.cells #[.int .i64 lo,.int .i64 hi] 26)) w1):=Lib.hid (Grew.trans gw g1)
 have G1:=Lib.hid (G0.out.trans D1.out)
 have Q1:=Lib.hid (Q0.out.grown D1.out)
 have BK01:=Lib.hid (BK00.out.grown D1.out)
 have BK11:=Lib.hid (BK10.out.grown D1.out)
 have BK21:=Lib.hid (BK20.out.grown D1.out)
 clear Q0 BK00 BK10 BK20 g1 D1 G0 x00 x01 x0l x10 x11 x1l x20 x21 x2l
 obtain ⟨⟨x00,x01⟩,-,-⟩:=BK01.out.two
 have x0l:=BK01.out.lt
 obtain ⟨⟨x10,x11⟩,-,-⟩:=BK11.out.two
 have x1l:=BK11.out.lt
 obtain ⟨⟨x20,x21⟩,-,-⟩:=BK21.out.two
 have x2l:=BK21.out.lt
 clear HC
 go_wp2_with fail
 refine (F.ring x lo hi _ (TK.out _ (Grew.trans G1.out gw))).mono ?_
 rintro e w2 ⟨v1,k1,r,p1,rfl,s1,g2⟩
 have D2:Hid (Grew w1 w2):=Lib.hid (Grew.trans gw g2)
 have G2:=Lib.hid (G1.out.trans D2.out)
 have Q2:=Lib.hid (Q1.out.grown D2.out)
 have BK02:=Lib.hid (BK01.out.grown D2.out)
 have BK12:=Lib.hid (BK11.out.grown D2.out)
 have BK22:=Lib.hid (BK21.out.grown D2.out)
 clear Q1 BK01 BK11 BK21 g2 D2 G1 x00 x01 x0l x10 x11 x1l x20 x21 x2l
 have A2:=Lib.hid s1
 clear s1
 obtain ⟨⟨x00,x01⟩,-,-⟩:=BK02.out.two
 have x0l:=BK02.out.lt
 obtain ⟨⟨x10,x11⟩,-,-⟩:=BK12.out.two
 have x1l:=BK12.out.lt
 obtain ⟨⟨x20,x21⟩,-,-⟩:=BK22.out.two
 have x2l:=BK22.out.lt
 obtain ⟨v1a,v1n,v1c,rfl,v1e⟩:=Rg.rl_nat A2.out
 clear v1e
 have P1:=Lib.hid p1
 clear p1
 obtain ⟨y1,hy1⟩:∃ y,IntKind.i64.wrap (x.1+z.1)=y:=⟨_,rfl⟩
 obtain ⟨y2,hy2⟩:∃ y,IntKind.i64.wrap (x.2+z.2)=y:=⟨_,rfl⟩
 have Y1:Hid ((x.1+z.1+9223372036854775808) % 18446744073709551616 - 9223372036854775808=y1):=Lib.hid (by rw [← hy1,IntKind.wrap_i64])
 have Y2:Hid ((x.2+z.2+9223372036854775808) % 18446744073709551616 - 9223372036854775808=y2):=Lib.hid (by rw [← hy2,IntKind.wrap_i64])
 go_wp2_with fail
 go_region_held3 (fun w' => w'.cell? ⟨w.heap.size,0,none⟩=some (.int .i64 x.1)∧w'.cell? ⟨w.heap.size,1,none⟩=some (.int .i64 x.2)∧w'.cell? ⟨w.heap.size+1,0,none⟩=some (.int .i64 z.1)∧w'.cell? ⟨w.heap.size+1,1,none⟩=some (.int .i64 z.2)∧w'.cell? ⟨w.heap.size+1+1,0,none⟩=some (.int .i64 lo)∧w'.cell? ⟨w.heap.size+1+1,1,none⟩=some (.int .i64 hi)) (simp [go_sem, *])
  (first | (go_at_call 11;refine (F.ring (y1,y2) lo hi _ (TK.out _ (G2.out.trans GA.out))).mono ?_;rintro e w3 ⟨v2,k2,s,p2,rfl,s2,gb⟩;have GB:=Lib.hid (GA.out.trans gb);have SB:=Lib.hid s2;have P2:=Lib.hid p2;obtain ⟨v2a,v2n,v2c,rfl,-⟩:=Rg.rl_nat s2;clear s2 p2;have BK0q:=Lib.hid (BK02.out.grown GB.out);obtain ⟨⟨q00,q01⟩,-,-⟩:=BK0q.out.two;have q0l:=BK0q.out.lt;have BK1q:=Lib.hid (BK12.out.grown GB.out);obtain ⟨⟨q10,q11⟩,-,-⟩:=BK1q.out.two;have q1l:=BK1q.out.lt;have BK2q:=Lib.hid (BK22.out.grown GB.out);obtain ⟨⟨q20,q21⟩,-,-⟩:=BK2q.out.two;have q2l:=BK2q.out.lt;clear gb) | (go_at_call 18;refine (at_c _ _ _).mono ?_;rintro e wa ⟨rfl,ga⟩;have GA:Hid (Grew w2 wa):=Lib.hid (Grew.trans gw ga);have BK0p:=Lib.hid (BK02.out.grown GA.out);obtain ⟨⟨p00,p01⟩,-,-⟩:=BK0p.out.two;have p0l:=BK0p.out.lt;have BK1p:=Lib.hid (BK12.out.grown GA.out);obtain ⟨⟨p10,p11⟩,-,-⟩:=BK1p.out.two;have p1l:=BK1p.out.lt;have BK2p:=Lib.hid (BK22.out.grown GA.out);obtain ⟨⟨p20,p21⟩,-,-⟩:=BK2p.out.two;have p2l:=BK2p.out.lt;clear ga))
 have G3:=Lib.hid (G2.out.trans GB.out)
 have Q3:=Lib.hid (Q2.out.grown GB.out)
 have BK03:=Lib.hid (BK02.out.grown GB.out)
 have BK13:=Lib.hid (BK12.out.grown GB.out)
 have BK23:=Lib.hid (BK22.out.grown GB.out)
 have A3:=Lib.hid (A2.out.grown GB.out)
 clear Q2 BK02 BK12 BK22 A2 G2 GA GB  BK0p p00 p01 p0l BK0q q00 q01 q0l BK1p p10 p11 p1l BK1q q10 q11 q1l BK2p p20 p21 p2l BK2q q20 q21 q2l x00 x01 x0l x10 x11 x1l x20 x21 x2l
 have B3:=SB
 clear SB
 obtain ⟨⟨x00,x01⟩,-,-⟩:=BK03.out.two
 have x0l:=BK03.out.lt
 obtain ⟨⟨x10,x11⟩,-,-⟩:=BK13.out.two
 have x1l:=BK13.out.lt
 obtain ⟨⟨x20,x21⟩,-,-⟩:=BK23.out.two
 have x2l:=BK23.out.lt
 clear hy1 hy2
 by_cases hk1:k1=0
 rotate_left
 have hk3:(k1 == 0)=false:=beq_eq_false_iff_ne.2 hk1
 clear hk1
 clear P1 P2 Y1 Y2
 clear BK13
 clear BK23
 clear A3
 clear B3
 rename World => w9
 skip
 have Q9:=Q3
 clear Q3
 have BK09:=BK03
 clear BK03
 have G9:=G3
 clear G3
 rotate_left
 subst hk1
 by_cases hk2:k2=0
 rotate_left
 have hk3:(k2 == 0)=false:=beq_eq_false_iff_ne.2 hk2
 clear hk2
 clear P1 P2 Y1 Y2
 clear BK13
 clear BK23
 clear A3
 clear B3
 rename World => w9
 skip
 have Q9:=Q3
 clear Q3
 have BK09:=BK03
 clear BK03
 have G9:=G3
 clear G3
 rotate_left 2
 subst hk2
 go_wp2_with fail
 refine (SC r [z] _ _ _ (A3.out.grown gw) (Sl.of (row_new [z] _ rfl _ _)) (by simp)).mono ?_
 rintro e w4 ⟨v3,k3,t,p3,rfl,s3,g4⟩
 have D4:Hid (Grew w3 w4):=Lib.hid (Grew.trans gw g4)
 have G4:=Lib.hid (G3.out.trans D4.out)
 have Q4:=Lib.hid (Q3.out.grown D4.out)
 have BK04:=Lib.hid (BK03.out.grown D4.out)
 have BK14:=Lib.hid (BK13.out.grown D4.out)
 have BK24:=Lib.hid (BK23.out.grown D4.out)
 have A4:=Lib.hid (A3.out.grown D4.out)
 have B4:=Lib.hid (B3.out.grown D4.out)
 clear Q3 BK03 BK13 BK23 A3 B3 g4 D4 G3 x00 x01 x0l x10 x11 x1l x20 x21 x2l
 have E4:=Lib.hid s3
 clear s3
 obtain ⟨⟨x00,x01⟩,-,-⟩:=BK04.out.two
 have x0l:=BK04.out.lt
 obtain ⟨⟨x10,x11⟩,-,-⟩:=BK14.out.two
 have x1l:=BK14.out.lt
 obtain ⟨⟨x20,x21⟩,-,-⟩:=BK24.out.two
 have x2l:=BK24.out.lt
 obtain ⟨v3a,v3n,v3c,rfl,v3e⟩:=Rg.rl_nat E4.out
 clear v3e
 have P3:=Lib.hid p3
 clear p3
 go_wp2_with fail
 refine (Rg.place_t z _).mono ?_
 rintro e w5 ⟨b,rfl,hb,g5⟩
 have D5:Hid (Grew w4 w5):=Lib.hid (Grew.trans gw g5)
 have G5:=Lib.hid (G4.out.trans D5.out)
 have Q5:=Lib.hid (Q4.out.grown D5.out)
 have BK05:=Lib.hid (BK04.out.grown D5.out)
 have BK15:=Lib.hid (BK14.out.grown D5.out)
 have BK25:=Lib.hid (BK24.out.grown D5.out)
 have A5:=Lib.hid (A4.out.grown D5.out)
 have B5:=Lib.hid (B4.out.grown D5.out)
 have E5:=Lib.hid (E4.out.grown D5.out)
 clear Q4 BK04 BK14 BK24 A4 B4 E4 g5 D5 G4 x00 x01 x0l x10 x11 x1l x20 x21 x2l
 obtain ⟨⟨x00,x01⟩,-,-⟩:=BK05.out.two
 have x0l:=BK05.out.lt
 obtain ⟨⟨x10,x11⟩,-,-⟩:=BK15.out.two
 have x1l:=BK15.out.lt
 obtain ⟨⟨x20,x21⟩,-,-⟩:=BK25.out.two
 have x2l:=BK25.out.lt
 have HB:=Lib.hid hb
 clear hb
 cases b
 clear P3 HB
 clear P1 P2 Y1 Y2
 clear BK15
 clear BK25
 clear A5
 clear B5
 clear E5
 rename World => w9
 skip
 have Q9:=Q5
 clear Q5
 have BK09:=BK05
 clear BK05
 have G9:=G5
 clear G5
 rotate_left
 obtain ⟨rfl,rfl⟩:k3=0∧s=t:=by
  have hz:=HB.out.1 (by first | rfl | trivial)
  obtain ⟨⟨hx,hd⟩,L,cL,tL⟩:=ringp_ok P1.out
  obtain ⟨-,M,cM,tM⟩:=ringp_ok P2.out
  have e:(y1,y2)=Mk.plus x z:=by
   have e1:=Y1.out
   have e2:=Y2.out
   unfold Plc at hx hz
   unfold Mk.plus
   exact Prod.ext_iff.2 ⟨by simp only;omega,by simp only;omega⟩
  rw [e] at cM
  exact ring_moved hd hz cL cM tL tM P3.out
 clear P3 HB
 go_wp2_with fail
 refine ((Rg.rsame_c s s _ _ _ B5.out E5.out).mono fun _ _ t => t.to rfl).mono ?_
 rintro e w6 ⟨rfl,g6⟩
 have D6:Hid (Grew w5 w6):=Lib.hid (Grew.trans gw g6)
 have G6:=Lib.hid (G5.out.trans D6.out)
 have Q6:=Lib.hid (Q5.out.grown D6.out)
 have BK06:=Lib.hid (BK05.out.grown D6.out)
 have BK16:=Lib.hid (BK15.out.grown D6.out)
 have BK26:=Lib.hid (BK25.out.grown D6.out)
 have A6:=Lib.hid (A5.out.grown D6.out)
 have B6:=Lib.hid (B5.out.grown D6.out)
 have E6:=Lib.hid (E5.out.grown D6.out)
 clear Q5 BK05 BK15 BK25 A5 B5 E5 g6 D6 G5 x00 x01 x0l x10 x11 x1l x20 x21 x2l
 obtain ⟨⟨x00,x01⟩,-,-⟩:=BK06.out.two
 have x0l:=BK06.out.lt
 obtain ⟨⟨x10,x11⟩,-,-⟩:=BK16.out.two
 have x1l:=BK16.out.lt
 obtain ⟨⟨x20,x21⟩,-,-⟩:=BK26.out.two
 have x2l:=BK26.out.lt
 clear P1 P2 Y1 Y2
 clear BK16
 clear BK26
 clear A6
 clear B6
 clear E6
 rename World => w9
 skip
 have Q9:=Q6
 clear Q6
 have BK09:=BK06
 clear BK06
 have G9:=G6
 clear G6
 by_cases h20:(20:Int) < (ln:Int)
 go_wp2_with fail
 all_goals first | (go_ret;exact ⟨by first | rfl | trivial,G9.out⟩) | skip
 all_goals
  have L20:Hid (l.length≤20):=Lib.hid (by have:=hln.out;omega)
  have SL:=Lib.hid (fun W (g:Grew w9 W) => single_c l _ W (Q9.out.grown g) L20.out)
  go_region_held3 (fun w' => w'.cell? ⟨w.heap.size,0,none⟩=some (.int .i64 x.1)∧w'.cell? ⟨w.heap.size,1,none⟩=some (.int .i64 x.2)) (simp [go_sem, *])
   (first | (go_at_call 16;refine (F.wedge (sing l) x a n _ _ (TK.out _ (G9.out.trans GA.out)) SU.out).mono ?_;rintro e w10 ⟨vb,kb,rb,pb,rfl,sb,gb⟩;have GB:=Lib.hid (GA.out.trans gb);have SB:=Lib.hid sb;have PB:=Lib.hid pb;obtain ⟨vba,vbn,vbc,rfl,-⟩:=Rg.rl_nat sb;clear sb pb;have BK0q:=Lib.hid (BK09.out.grown GB.out);obtain ⟨⟨q00,q01⟩,-,-⟩:=BK0q.out.two;have q0l:=BK0q.out.lt;clear gb) | (go_at_call 27;refine (SL.out _ gw).mono ?_;rintro e wa ⟨u,rfl,su,ga⟩;have GA:Hid (Grew w9 wa):=Lib.hid (Grew.trans gw ga);have SU:=Lib.hid su;obtain ⟨sa,sn,sc,rfl,-⟩:=Rg.rl_nat su;clear su;have BK0p:=Lib.hid (BK09.out.grown GA.out);obtain ⟨⟨p00,p01⟩,-,-⟩:=BK0p.out.two;have p0l:=BK0p.out.lt;clear ga))
  have G10:=Lib.hid (G9.out.trans GB.out)
  have Q10:=Lib.hid (Q9.out.grown GB.out)
  have BK010:=Lib.hid (BK09.out.grown GB.out)
  clear Q9 BK09 G9 GA GB SU SL BK0p p00 p01 p0l BK0q q00 q01 q0l x00 x01 x0l
  have B10:=SB
  clear SB
  obtain ⟨⟨x00,x01⟩,-,-⟩:=BK010.out.two
  have x0l:=BK010.out.lt
  obtain ⟨M1,em1,m1⟩:=run_max n more
  obtain ⟨M,em2,m2⟩:=run_min 31 M1
  have MM:Hid ((n≤31→n≤M)∧M≤31):=Lib.hid (by omega)
  clear m1 m2
  have SL:=Lib.hid (fun W (g:Grew w10 W) => single_c l _ W (Q10.out.grown g) L20.out)
  go_wp2_with fail
  go_region_held3 (fun w' => w'.cell? ⟨w.heap.size,0,none⟩=some (.int .i64 x.1)∧w'.cell? ⟨w.heap.size,1,none⟩=some (.int .i64 x.2)) (simp [go_sem, *])
   (first | (go_at_call 16;refine (F.wedge (sing l) x a M _ _ (TK.out _ (G10.out.trans GA.out)) SU.out).mono ?_;rintro e w11 ⟨vc,kc,rc,pb,rfl,sb,gb⟩;have GB:=Lib.hid (GA.out.trans gb);have SB:=Lib.hid sb;have PC:=Lib.hid pb;obtain ⟨vca,vcn,vcc,rfl,-⟩:=Rg.rl_nat sb;clear sb pb;have BK0q:=Lib.hid (BK010.out.grown GB.out);obtain ⟨⟨q00,q01⟩,-,-⟩:=BK0q.out.two;have q0l:=BK0q.out.lt;clear gb) | (go_at_call 27;refine (SL.out _ gw).mono ?_;rintro e wa ⟨u,rfl,su,ga⟩;have GA:Hid (Grew w10 wa):=Lib.hid (Grew.trans gw ga);have SU:=Lib.hid su;obtain ⟨sa,sn,sc,rfl,-⟩:=Rg.rl_nat su;clear su;have BK0p:=Lib.hid (BK010.out.grown GA.out);obtain ⟨⟨p00,p01⟩,-,-⟩:=BK0p.out.two;have p0l:=BK0p.out.lt;clear ga))
  all_goals
   have G11:=Lib.hid (G10.out.trans GB.out)
   have Q11:=Lib.hid (Q10.out.grown GB.out)
   have BK011:=Lib.hid (BK010.out.grown GB.out)
   have B11:=Lib.hid (B10.out.grown GB.out)
   clear Q10 BK010 B10 G10 GA GB SU SL BK0p p00 p01 p0l BK0q q00 q01 q0l x00 x01 x0l
   have C11:=SB
   clear SB
   obtain ⟨⟨x00,x01⟩,-,-⟩:=BK011.out.two
   have x0l:=BK011.out.lt
   clear TK
   by_cases hkb:kb=0
   ·subst hkb
    by_cases hkc:kc=0
    ·subst hkc
     have WB:=Lib.hid (wedp_ok PB.out)
     have WC:=Lib.hid (wedp_ok PC.out)
     clear PB PC em1 em2
     obtain ⟨a,rfl⟩:∃ b:Nat,a=(b:Int):=⟨a.toNat,by have:=WB.out.1.2.1;omega⟩
     obtain ⟨n,rfl⟩:∃ b:Nat,n=(b:Int):=⟨n.toNat,by have:=WB.out.1.2.2;omega⟩
     obtain ⟨M,rfl⟩:∃ b:Nat,M=(b:Int):=⟨M.toNat,by have:=WC.out.1.2.2;omega⟩
     have AN:Hid (a < 64∧n≤M∧M≤31):=Lib.hid (by have:=WB.out.1.2;have:=MM.out;omega)
     have SEE:Hid (∀ y,y ∈ l→(InR rb y→InR rc y)∧Plc y):=Lib.hid (fun y hy => by
      have h1:=WB.out.2
      have h2:=WC.out.2
      rw [Int.toNat_natCast,Int.toNat_natCast] at h1 h2
      have hv:=WB.out.1.1.1.2
      obtain ⟨a0,a1,a2⟩:=AN.out
      exact ⟨fun i => (wed_sees a0 a2 L20.out hv h2 hy).2 (sees_more a0 a2 a1 ((wed_sees a0 (Nat.le_trans a1 a2) L20.out hv h1 hy).1 i)),sing_plc hv hy⟩)
     have VB:=Lib.hid (WB.out.2.vl WB.out.1.1.1.2)
     have VC:=Lib.hid (WC.out.2.vl WB.out.1.1.1.2)
     clear WB WC MM
     clear x00 x01 x0l
     go_wp2_with fail
     go_loopw [15,27,28,29,30,31,117] (fun up _ _ _ _ _ i wr => ∃ k:Nat,k≤ln∧up=.bool true∧i=.int .i64 k∧Hid (Grew w11 wr)) (fun _ _ _ _ _ _ i _ => ln - (intOf i).toNat)
     case atStart => exact ⟨0,Nat.zero_le _,rfl,rfl,Lib.hid (Grew.refl _)⟩
     case round =>
      obtain ⟨k,hk,rfl,rfl,G⟩:=hrel
      have GW:=Lib.hid (G11.out.trans G.out)
      by_cases hlt:k < ln
      ·have i0:(0:Int)≤(k:Int):=by omega
       have i1:(k:Int) < (ln:Int):=by omega
       have hl20:ln≤20:=by have:=hln.out;have:=L20.out;omega
       have kl:k < l.length:=by rw [hln.out];exact hlt
       have hq:=Q11.out.grown G.out
       obtain ⟨qb,qo,e,hr⟩:∃ b o,ua=some ⟨b,o,none⟩∧Row wr b o l:=by
        obtain ⟨b,o,c',e,hr⟩:=hq.row (fun e => by rw [e] at kl;cases kl)
        injection e with e1 e2 e3
        exact ⟨b,o,e1,hr⟩
       subst e
       obtain ⟨q0,q1⟩:=hr.2 k kl
       have hb:=hr.1
       have SY:=Lib.hid (SEE.out _ (at_mem kl))
       generalize at' l k=y at q0 q1 SY
       have Br:=Lib.hid (B11.out.grown G.out)
       have Cr:=Lib.hid (C11.out.grown G.out)
       obtain ⟨W0,hW0⟩:∃ W0,W0=wr:=⟨wr,rfl⟩
       subst hW0
       have Y0:=Lib.hid (Blk.new W0 #[.int .i64 y.1,.int .i64 y.2] 24)
       have g0:Hid (Grew W0 (W0.alloc (.cells #[.int .i64 y.1,.int .i64 y.2] 24))):=Lib.hid ((Grew.refl _).alloc _ _)
       clear hq hr kl
       go_wp2_with fail
       refine (has_ok HA rb y _ _ (Br.out.grown g0.out) VB.out SY.out.2).mono ?_
       rintro e wa ⟨b1,rfl,h1,ga⟩
       have H1:=Lib.hid h1
       have GA:=Lib.hid (g0.out.trans ga)
       have YA:=Lib.hid (Y0.out.grown ga)
       obtain ⟨⟨y0,y1⟩,-,-⟩:=YA.out.two
       have yl:=YA.out.lt
       clear ga h1 q0 q1 hb
       go_wp2_with fail
       refine (has_ok HA rc y _ _ (Cr.out.grown GA.out) VC.out SY.out.2).mono ?_
       rintro e wb ⟨b2,rfl,h2,gb⟩
       have H2:=Lib.hid h2
       have GB:=Lib.hid (GA.out.trans gb)
       clear gb h2 y0 y1 yl
       cases b1
       ·clear H1 H2
        go_wp2_with fail
        go_roundw
        case rel => exact ⟨k+1,by omega,by first | rfl | trivial,by go_num,Lib.hid (G.out.trans GB.out)⟩
        case measure => simp [intOf];omega
       obtain rfl:b2=true:=H2.out.2 (SY.out.1 (H1.out.1 (by first | rfl | trivial)))
       clear H1 H2
       go_wp2_with fail
       go_roundw
       case rel => exact ⟨k+1,by omega,by first | rfl | trivial,by go_num,Lib.hid (G.out.trans GB.out)⟩
       case measure => simp [intOf];omega
      ·obtain rfl:k=ln:=by omega
       go_wp2_with fail
       go_ret
       exact ⟨rfl,GW.out⟩
    have hk9:(kc != 0)=true:=by simp [hkc]
    go_wp2_with fail
    go_ret
    exact ⟨by first | rfl | trivial,G11.out⟩
   have hk9:(kb != 0)=true:=by simp [hkb]
   go_wp2_with fail
   go_ret
   exact ⟨by first | rfl | trivial,G11.out⟩
end Rn
end Go.Proofs.YtbpgfenippiepaaGreatDoor
