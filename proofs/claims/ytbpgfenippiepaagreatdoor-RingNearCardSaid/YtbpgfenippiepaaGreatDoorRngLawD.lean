/-
  The law RingNear, under what package ring owes.
-/
import Derived.Test.YtbpgfenippiepaaGreatDoorRngRefB
namespace Go.Proofs.YtbpgfenippiepaaGreatDoor
open Go.RowKit Go.Shelf Hl
namespace Rn
open Rg (Rgn VlR AllV AnsR Rl InR)
set_option maxRecDepth 100000 in
set_option maxHeartbeats 8000000 in
theorem near_true {T:World→Prop} (C:Code T) (HA:HasC) (BC:BoxC) (L:Rgn) (x y:Pt) (lo hi:Int) (v:Value) (w:World) (hT:T w) (hs:Rl w v L):Calls Tryz.prog 6 #[v,.agg #[.int .i64 x.1,.int .i64 x.2],.agg #[.int .i64 lo,.int .i64 hi],.agg #[.int .i64 y.1,.int .i64 y.2]] w fun e w' => e=.returned (.bool true)∧Grew w w':=by
 have TK:=Lib.hid (fun W (g:Grew w W) => C.keep w W g hT)
 have HC:=Lib.hid (fun W (g:Grew w W) => head_true C W (C.keep w W g hT))
 have F:=C.fns
 obtain ⟨va,m,vc,rfl,hm⟩:=Rg.rl_nat hs
 have R:=Lib.hid hs
 clear hs C hT hm
 have BK00:=Lib.hid ((Blk.new (w) #[.int .i64 x.1,.int .i64 x.2] 24).grown (((Grew.refl _).alloc #[.int .i64 lo,.int .i64 hi] 26).alloc #[.int .i64 y.1,.int .i64 y.2] 24))
 have BK10:=Lib.hid ((Blk.new ((w.alloc (.cells #[.int .i64 x.1,.int .i64 x.2] 24))) #[.int .i64 lo,.int .i64 hi] 26).grown ((Grew.refl _).alloc #[.int .i64 y.1,.int .i64 y.2] 24))
 simp only [World.size_alloc] at BK10
 have BK20:=Lib.hid ((Blk.new (((w.alloc (.cells #[.int .i64 x.1,.int .i64 x.2] 24)).alloc (.cells #[.int .i64 lo,.int .i64 hi] 26))) #[.int .i64 y.1,.int .i64 y.2] 24))
 simp only [World.size_alloc] at BK20
 have GW0:Hid (Grew w (((w.alloc (.cells #[.int .i64 x.1,.int .i64 x.2] 24)).alloc (.cells #[.int .i64 lo,.int .i64 hi] 26)).alloc (.cells #[.int .i64 y.1,.int .i64 y.2] 24))):=Lib.hid gw
 have G0:Hid (Grew w (((w.alloc (.cells #[.int .i64 x.1,.int .i64 x.2] 24)).alloc (.cells #[.int .i64 lo,.int .i64 hi] 26)).alloc (.cells #[.int .i64 y.1,.int .i64 y.2] 24))):=GW0
 have R0:=Lib.hid (R.out.grown GW0.out)
 clear GW0
 go_enter Tryz.func6,Tryz.ntmps6
 obtain ⟨⟨x00,x01⟩,-,-⟩:=BK00.out.two
 have x0l:=BK00.out.lt
 obtain ⟨⟨x10,x11⟩,-,-⟩:=BK10.out.two
 have x1l:=BK10.out.lt
 obtain ⟨⟨x20,x21⟩,-,-⟩:=BK20.out.two
 have x2l:=BK20.out.lt
 go_wp2_with fail
 refine (HC.out _ (Grew.trans G0.out gw)).mono ?_
 rintro e w1 ⟨rfl,g1⟩
 have D1:Hid (Grew (((w.alloc (.cells #[.int .i64 x.1,.int .i64 x.2] 24)).alloc (.cells #[.int .i64 lo,.int .i64 hi] 26)).alloc (.cells #[.int .i64 y.1,.int .i64 y.2] 24)) w1):=Lib.hid (Grew.trans gw g1)
 have G1:=Lib.hid (G0.out.trans D1.out)
 have R1:=Lib.hid (R0.out.grown D1.out)
 have BK01:=Lib.hid (BK00.out.grown D1.out)
 have BK11:=Lib.hid (BK10.out.grown D1.out)
 have BK21:=Lib.hid (BK20.out.grown D1.out)
 clear R0 BK00 BK10 BK20 g1 D1 G0 x00 x01 x0l x10 x11 x1l x20 x21 x2l
 obtain ⟨⟨x00,x01⟩,-,-⟩:=BK01.out.two
 have x0l:=BK01.out.lt
 obtain ⟨⟨x10,x11⟩,-,-⟩:=BK11.out.two
 have x1l:=BK11.out.lt
 obtain ⟨⟨x20,x21⟩,-,-⟩:=BK21.out.two
 have x2l:=BK21.out.lt
 clear HC
 go_wp2_with fail
 refine (usable_c L x lo hi _ _ R1.out).mono ?_
 rintro e w2 ⟨b1,rfl,h1,g2⟩
 have D2:Hid (Grew w1 w2):=Lib.hid (Grew.trans gw g2)
 have G2:=Lib.hid (G1.out.trans D2.out)
 have R2:=Lib.hid (R1.out.grown D2.out)
 have BK02:=Lib.hid (BK01.out.grown D2.out)
 have BK12:=Lib.hid (BK11.out.grown D2.out)
 have BK22:=Lib.hid (BK21.out.grown D2.out)
 clear R1 BK01 BK11 BK21 g2 D2 G1 x00 x01 x0l x10 x11 x1l x20 x21 x2l
 obtain ⟨⟨x00,x01⟩,-,-⟩:=BK02.out.two
 have x0l:=BK02.out.lt
 obtain ⟨⟨x10,x11⟩,-,-⟩:=BK12.out.two
 have x1l:=BK12.out.lt
 obtain ⟨⟨x20,x21⟩,-,-⟩:=BK22.out.two
 have x2l:=BK22.out.lt
 have H1:=Lib.hid h1
 clear h1
 cases b1
 ·clear H1
  go_wp2_with fail
  go_ret
  exact ⟨by first | rfl | trivial,G2.out⟩
 have U:=Lib.hid (H1.out (by first | rfl | trivial))
 clear H1
 go_wp2_with fail
 refine (Rg.place_t y _).mono ?_
 rintro e w3 ⟨b2,rfl,h2,g3⟩
 have D3:Hid (Grew w2 w3):=Lib.hid (Grew.trans gw g3)
 have G3:=Lib.hid (G2.out.trans D3.out)
 have R3:=Lib.hid (R2.out.grown D3.out)
 have BK03:=Lib.hid (BK02.out.grown D3.out)
 have BK13:=Lib.hid (BK12.out.grown D3.out)
 have BK23:=Lib.hid (BK22.out.grown D3.out)
 clear R2 BK02 BK12 BK22 g3 D3 G2 x00 x01 x0l x10 x11 x1l x20 x21 x2l
 obtain ⟨⟨x00,x01⟩,-,-⟩:=BK03.out.two
 have x0l:=BK03.out.lt
 obtain ⟨⟨x10,x11⟩,-,-⟩:=BK13.out.two
 have x1l:=BK13.out.lt
 obtain ⟨⟨x20,x21⟩,-,-⟩:=BK23.out.two
 have x2l:=BK23.out.lt
 have H2:=Lib.hid h2
 clear h2
 cases b2
 ·clear H2
  go_wp2_with fail
  go_ret
  exact ⟨by first | rfl | trivial,G3.out⟩
 have PY:Hid (Plc y):=Lib.hid (H2.out.1 (by first | rfl | trivial))
 clear H2
 go_wp2_with fail
 refine (F.near L x lo hi _ _ (TK.out _ (Grew.trans G3.out gw)) R3.out).mono ?_
 rintro e w4 ⟨v4,k4,r4,p4,rfl,s4,g4⟩
 have D4:Hid (Grew w3 w4):=Lib.hid (Grew.trans gw g4)
 have G4:=Lib.hid (G3.out.trans D4.out)
 have R4:=Lib.hid (R3.out.grown D4.out)
 have BK04:=Lib.hid (BK03.out.grown D4.out)
 have BK14:=Lib.hid (BK13.out.grown D4.out)
 have BK24:=Lib.hid (BK23.out.grown D4.out)
 clear R3 BK03 BK13 BK23 g4 D4 G3 x00 x01 x0l x10 x11 x1l x20 x21 x2l
 have A4:=Lib.hid s4
 clear s4
 obtain ⟨⟨x00,x01⟩,-,-⟩:=BK04.out.two
 have x0l:=BK04.out.lt
 obtain ⟨⟨x10,x11⟩,-,-⟩:=BK14.out.two
 have x1l:=BK14.out.lt
 obtain ⟨⟨x20,x21⟩,-,-⟩:=BK24.out.two
 have x2l:=BK24.out.lt
 clear TK
 obtain ⟨v4a,v4n,v4c,rfl,v4e⟩:=Rg.rl_nat A4.out
 clear v4e
 by_cases hk:k4=0
 ·subst hk
  have NP:=Lib.hid p4
  have VR:=Lib.hid (near_vl p4)
  clear p4
  go_wp2_with fail
  refine (has_ok HA r4 y _ _ A4.out VR.out PY.out).mono ?_
  rintro e w5 ⟨is,rfl,hi3,g5⟩
  have D5:Hid (Grew w4 w5):=Lib.hid (Grew.trans gw g5)
  have G5:=Lib.hid (G4.out.trans D5.out)
  have R5:=Lib.hid (R4.out.grown D5.out)
  have BK05:=Lib.hid (BK04.out.grown D5.out)
  have BK15:=Lib.hid (BK14.out.grown D5.out)
  have BK25:=Lib.hid (BK24.out.grown D5.out)
  have A5:=Lib.hid (A4.out.grown D5.out)
  clear R4 BK04 BK14 BK24 A4 g5 D5 G4 x00 x01 x0l x10 x11 x1l x20 x21 x2l
  obtain ⟨⟨x00,x01⟩,-,-⟩:=BK05.out.two
  have x0l:=BK05.out.lt
  obtain ⟨⟨x10,x11⟩,-,-⟩:=BK15.out.two
  have x1l:=BK15.out.lt
  obtain ⟨⟨x20,x21⟩,-,-⟩:=BK25.out.two
  have x2l:=BK25.out.lt
  have HI:=Lib.hid hi3
  clear hi3
  go_wp2_with fail
  refine (BC r4 _ _ A5.out).mono ?_
  rintro e w6 ⟨p,q,so,kb,hb,rfl,g6⟩
  have D6:Hid (Grew w5 w6):=Lib.hid (Grew.trans gw g6)
  have G6:=Lib.hid (G5.out.trans D6.out)
  have R6:=Lib.hid (R5.out.grown D6.out)
  have BK06:=Lib.hid (BK05.out.grown D6.out)
  have BK16:=Lib.hid (BK15.out.grown D6.out)
  have BK26:=Lib.hid (BK25.out.grown D6.out)
  have A6:=Lib.hid (A5.out.grown D6.out)
  clear R5 BK05 BK15 BK25 A5 g6 D6 G5 x00 x01 x0l x10 x11 x1l x20 x21 x2l
  obtain ⟨⟨x00,x01⟩,-,-⟩:=BK06.out.two
  have x0l:=BK06.out.lt
  obtain ⟨⟨x10,x11⟩,-,-⟩:=BK16.out.two
  have x1l:=BK16.out.lt
  obtain ⟨⟨x20,x21⟩,-,-⟩:=BK26.out.two
  have x2l:=BK26.out.lt
  obtain rfl:=(boxp_ok VR.out hb).1
  have HB:=Lib.hid hb
  clear hb
  clear A6
  go_wp2_with fail
  refine (Rg.in_c L y _ _ (R6.out.grown gw) U.out.1.2 PY.out).mono ?_
  rintro e w7 ⟨b4,rfl,h4,g7⟩
  have D7:Hid (Grew w6 w7):=Lib.hid (Grew.trans gw g7)
  have G7:=Lib.hid (G6.out.trans D7.out)
  have BK37:=Lib.hid (((Blk.new w6 #[.int .i64 p.1,.int .i64 p.2] 24).alloc (.cells #[.int .i64 q.1,.int .i64 q.2] 24)).grown g7)
  have BK47:=Lib.hid (((show Blk ((w6.alloc (.cells #[.int .i64 p.1,.int .i64 p.2] 24)).alloc (.cells #[.int .i64 q.1,.int .i64 q.2] 24)) (w6.heap.size+1) #[.int .i64 q.1,.int .i64 q.2] 24 from blk_nS (by simp))).grown g7)
  have R7:=Lib.hid (R6.out.grown D7.out)
  have BK07:=Lib.hid (BK06.out.grown D7.out)
  have BK17:=Lib.hid (BK16.out.grown D7.out)
  have BK27:=Lib.hid (BK26.out.grown D7.out)
  clear R6 BK06 BK16 BK26 g7 D7 G6 x00 x01 x0l x10 x11 x1l x20 x21 x2l
  obtain ⟨⟨x00,x01⟩,-,-⟩:=BK07.out.two
  have x0l:=BK07.out.lt
  obtain ⟨⟨x10,x11⟩,-,-⟩:=BK17.out.two
  have x1l:=BK17.out.lt
  obtain ⟨⟨x20,x21⟩,-,-⟩:=BK27.out.two
  have x2l:=BK27.out.lt
  obtain ⟨⟨x30,x31⟩,-,-⟩:=BK37.out.two
  have x3l:=BK37.out.lt
  obtain ⟨⟨x40,x41⟩,-,-⟩:=BK47.out.two
  have x4l:=BK47.out.lt
  have H4:=Lib.hid h4
  clear h4
  cases b4
  ·clear H4
   go_wp2_with fail
   refine (BC L _ _ R7.out).mono ?_
   rintro e w8 ⟨s,t,ok,kb,hb,rfl,g8⟩
   have D8:Hid (Grew w7 w8):=Lib.hid (Grew.trans gw g8)
   have G8:=Lib.hid (G7.out.trans D8.out)
   have R8:=Lib.hid (R7.out.grown D8.out)
   have BK08:=Lib.hid (BK07.out.grown D8.out)
   have BK18:=Lib.hid (BK17.out.grown D8.out)
   have BK28:=Lib.hid (BK27.out.grown D8.out)
   have BK38:=Lib.hid (BK37.out.grown D8.out)
   have BK48:=Lib.hid (BK47.out.grown D8.out)
   clear R7 BK07 BK17 BK27 BK37 BK47 g8 D8 G7 x00 x01 x0l x10 x11 x1l x20 x21 x2l x30 x31 x3l x40 x41 x4l
   obtain ⟨⟨x00,x01⟩,-,-⟩:=BK08.out.two
   have x0l:=BK08.out.lt
   obtain ⟨⟨x10,x11⟩,-,-⟩:=BK18.out.two
   have x1l:=BK18.out.lt
   obtain ⟨⟨x20,x21⟩,-,-⟩:=BK28.out.two
   have x2l:=BK28.out.lt
   obtain ⟨⟨x30,x31⟩,-,-⟩:=BK38.out.two
   have x3l:=BK38.out.lt
   obtain ⟨⟨x40,x41⟩,-,-⟩:=BK48.out.two
   have x4l:=BK48.out.lt
   obtain rfl:=(boxp_ok U.out.1 hb).1
   cases so
   ·clear hb
    go_wp2_with fail
    go_ret
    exact ⟨by first | rfl | trivial,Grew.trans G8.out gw⟩
   obtain ⟨⟨⟨n0,n1⟩,n2,n3⟩,⟨⟨n4,n5⟩,n6,n7⟩,n8,n9,n10,n11⟩:=near_in U.out.1 VR.out NP.out HB.out hb rfl
   clear hb HB
   have c1:s.1 - 1≤p.1:=by omega
   have c2:s.2 - 1≤p.2:=by omega
   have c3:q.1≤t.1+1:=by omega
   have c4:q.2≤t.2+1:=by omega
   clear n8 n9 n10 n11
   go_wp2_with fail
   go_ret
   exact ⟨by first | rfl | trivial,Grew.trans G8.out gw⟩
  have IL:Hid (InR L y):=Lib.hid (H4.out.1 (by first | rfl | trivial))
  clear H4
  go_wp2_with fail
  refine (within_r x y lo hi _ U.out.2.1 PY.out U.out.2.2).mono ?_
  rintro e w8 ⟨b5,rfl,h5,g8⟩
  have D8:Hid (Grew w7 w8):=Lib.hid (Grew.trans gw g8)
  have G8:=Lib.hid (G7.out.trans D8.out)
  have R8:=Lib.hid (R7.out.grown D8.out)
  have BK08:=Lib.hid (BK07.out.grown D8.out)
  have BK18:=Lib.hid (BK17.out.grown D8.out)
  have BK28:=Lib.hid (BK27.out.grown D8.out)
  have BK38:=Lib.hid (BK37.out.grown D8.out)
  have BK48:=Lib.hid (BK47.out.grown D8.out)
  clear R7 BK07 BK17 BK27 BK37 BK47 g8 D8 G7 x00 x01 x0l x10 x11 x1l x20 x21 x2l x30 x31 x3l x40 x41 x4l
  obtain ⟨⟨x00,x01⟩,-,-⟩:=BK08.out.two
  have x0l:=BK08.out.lt
  obtain ⟨⟨x10,x11⟩,-,-⟩:=BK18.out.two
  have x1l:=BK18.out.lt
  obtain ⟨⟨x20,x21⟩,-,-⟩:=BK28.out.two
  have x2l:=BK28.out.lt
  obtain ⟨⟨x30,x31⟩,-,-⟩:=BK38.out.two
  have x3l:=BK38.out.lt
  obtain ⟨⟨x40,x41⟩,-,-⟩:=BK48.out.two
  have x4l:=BK48.out.lt
  have H5:=Lib.hid h5
  clear h5
  cases b5
  ·clear H5
   go_wp2_with fail
   refine (BC L _ _ R8.out).mono ?_
   rintro e w9 ⟨s,t,ok,kb,hb,rfl,g9⟩
   have D9:Hid (Grew w8 w9):=Lib.hid (Grew.trans gw g9)
   have G9:=Lib.hid (G8.out.trans D9.out)
   have R9:=Lib.hid (R8.out.grown D9.out)
   have BK09:=Lib.hid (BK08.out.grown D9.out)
   have BK19:=Lib.hid (BK18.out.grown D9.out)
   have BK29:=Lib.hid (BK28.out.grown D9.out)
   have BK39:=Lib.hid (BK38.out.grown D9.out)
   have BK49:=Lib.hid (BK48.out.grown D9.out)
   clear R8 BK08 BK18 BK28 BK38 BK48 g9 D9 G8 x00 x01 x0l x10 x11 x1l x20 x21 x2l x30 x31 x3l x40 x41 x4l
   obtain ⟨⟨x00,x01⟩,-,-⟩:=BK09.out.two
   have x0l:=BK09.out.lt
   obtain ⟨⟨x10,x11⟩,-,-⟩:=BK19.out.two
   have x1l:=BK19.out.lt
   obtain ⟨⟨x20,x21⟩,-,-⟩:=BK29.out.two
   have x2l:=BK29.out.lt
   obtain ⟨⟨x30,x31⟩,-,-⟩:=BK39.out.two
   have x3l:=BK39.out.lt
   obtain ⟨⟨x40,x41⟩,-,-⟩:=BK49.out.two
   have x4l:=BK49.out.lt
   obtain rfl:=(boxp_ok U.out.1 hb).1
   cases so
   ·clear hb
    go_wp2_with fail
    go_ret
    exact ⟨by first | rfl | trivial,Grew.trans G9.out gw⟩
   obtain ⟨⟨⟨n0,n1⟩,n2,n3⟩,⟨⟨n4,n5⟩,n6,n7⟩,n8,n9,n10,n11⟩:=near_in U.out.1 VR.out NP.out HB.out hb rfl
   clear hb HB
   have c1:s.1 - 1≤p.1:=by omega
   have c2:s.2 - 1≤p.2:=by omega
   have c3:q.1≤t.1+1:=by omega
   have c4:q.2≤t.2+1:=by omega
   clear n8 n9 n10 n11
   go_wp2_with fail
   go_ret
   exact ⟨by first | rfl | trivial,Grew.trans G9.out gw⟩
  obtain rfl:is=true:=HI.out.2 (near_has U.out.1 U.out.2.2 NP.out IL.out (H5.out.1 (by first | rfl | trivial)))
  clear H5 HI IL
  go_wp2_with fail
  refine (BC L _ _ R8.out).mono ?_
  rintro e w9 ⟨s,t,ok,kb,hb,rfl,g9⟩
  have D9:Hid (Grew w8 w9):=Lib.hid (Grew.trans gw g9)
  have G9:=Lib.hid (G8.out.trans D9.out)
  have R9:=Lib.hid (R8.out.grown D9.out)
  have BK09:=Lib.hid (BK08.out.grown D9.out)
  have BK19:=Lib.hid (BK18.out.grown D9.out)
  have BK29:=Lib.hid (BK28.out.grown D9.out)
  have BK39:=Lib.hid (BK38.out.grown D9.out)
  have BK49:=Lib.hid (BK48.out.grown D9.out)
  clear R8 BK08 BK18 BK28 BK38 BK48 g9 D9 G8 x00 x01 x0l x10 x11 x1l x20 x21 x2l x30 x31 x3l x40 x41 x4l
  obtain ⟨⟨x00,x01⟩,-,-⟩:=BK09.out.two
  have x0l:=BK09.out.lt
  obtain ⟨⟨x10,x11⟩,-,-⟩:=BK19.out.two
  have x1l:=BK19.out.lt
  obtain ⟨⟨x20,x21⟩,-,-⟩:=BK29.out.two
  have x2l:=BK29.out.lt
  obtain ⟨⟨x30,x31⟩,-,-⟩:=BK39.out.two
  have x3l:=BK39.out.lt
  obtain ⟨⟨x40,x41⟩,-,-⟩:=BK49.out.two
  have x4l:=BK49.out.lt
  obtain rfl:=(boxp_ok U.out.1 hb).1
  cases so
  ·clear hb
   go_wp2_with fail
   go_ret
   exact ⟨by first | rfl | trivial,Grew.trans G9.out gw⟩
  obtain ⟨⟨⟨n0,n1⟩,n2,n3⟩,⟨⟨n4,n5⟩,n6,n7⟩,n8,n9,n10,n11⟩:=near_in U.out.1 VR.out NP.out HB.out hb rfl
  clear hb HB
  have c1:s.1 - 1≤p.1:=by omega
  have c2:s.2 - 1≤p.2:=by omega
  have c3:q.1≤t.1+1:=by omega
  have c4:q.2≤t.2+1:=by omega
  clear n8 n9 n10 n11
  go_wp2_with fail
  go_ret
  exact ⟨by first | rfl | trivial,Grew.trans G9.out gw⟩
 obtain rfl:=nearp_err p4 U.out.1 U.out.2.1 U.out.2.2 hk
 clear p4
 go_wp2_with fail
 go_ret
 exact ⟨by first | rfl | trivial,G4.out⟩
end Rn
end Go.Proofs.YtbpgfenippiepaaGreatDoor
