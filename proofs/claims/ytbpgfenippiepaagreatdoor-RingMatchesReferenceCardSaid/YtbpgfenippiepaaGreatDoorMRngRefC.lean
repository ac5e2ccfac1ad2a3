/-
  The reference of layer 10: Wedge.
  The law RingMatchesReference, under what package ring owes.
-/
import Derived.Test.YtbpgfenippiepaaGreatDoorMRngB
import Derived.Test.YtbpgfenippiepaaGreatDoorMRngHead
namespace Go.Proofs.YtbpgfenippiepaaGreatDoor
open Go.RowKit Go.Shelf Hl
namespace Rn
open Rg (Rgn VlR AllV AnsR Rl TidyIs CutC TidOf)
open Ct (Hf WF)
set_option maxRecDepth 100000 in
set_option maxHeartbeats 4000000 in
theorem r_wed_b1 (L:Rgn) (x:Pt) (a n:Int) (v:Value) (w:World) (hr:Rl w v L) (hv:¬ VlR L) (hp:Plc x):Calls Tryz.prog 17 #[v,.agg #[.int .i64 x.1,.int .i64 x.2],.int .i64 a,.int .i64 n] w (AnsR (WedP L x a n) w):=by
 have NO:Hid (¬ WedOk L x a n):=Lib.hid (fun k => hv k.1.1)
 have VL:=Lib.hid hv
 have PX:=Lib.hid hp
 have g0:Hid (Grew w (w.alloc (.cells #[.int .i64 x.1,.int .i64 x.2] 24))):=Lib.hid ((Grew.refl w).alloc _ _)
 have X0:=Lib.hid (Blk.new w #[.int .i64 x.1,.int .i64 x.2] 24)
 have R0:=Lib.hid (hr.grown g0.out)
 have RR:=Lib.hid hr
 obtain ⟨va,vc,rfl⟩:=hr.shape
 obtain ⟨vn,hvn⟩:∃ n,L.length=n:=⟨_,rfl⟩
 rw [hvn] at R0 RR ⊢
 clear hr hvn hv hp
 go_enter Tryz.func17,Tryz.ntmps17
 go_wp2_with fail
 refine ((Rg.rref_valid L _ _ R0.out).mono fun _ _ t => t.un VL.out).mono ?_
 rintro e w1 ⟨rfl,g1⟩
 have X1:=Lib.hid (X0.out.grown g1)
 have G1:=Lib.hid (g0.out.trans g1)
 obtain ⟨⟨x0,x1⟩,_,_⟩:=X1.out.two
 have lX:=X1.out.lt
 clear g1
 go_wp2_with fail
 refine ((Rg.place_t x _).mono fun _ _ t => t.to PX.out).mono ?_
 rintro e w2 ⟨rfl,g2⟩
 have X2:=Lib.hid (X1.out.grown g2)
 have G2:=Lib.hid (G1.out.trans g2)
 clear g2 x0 x1 lX X1 G1
 go_wp2_with fail
 go_ret2
 exact ⟨_,1,[],Or.inl ⟨NO.out,rfl,rfl⟩,rfl,Rl.nil _ _ _,G2.out⟩
set_option maxRecDepth 100000 in
set_option maxHeartbeats 4000000 in
theorem r_wed_b2 (L:Rgn) (x:Pt) (a n:Int) (v:Value) (w:World) (hr:Rl w v L) (hv:¬ VlR L) (hp:¬ Plc x):Calls Tryz.prog 17 #[v,.agg #[.int .i64 x.1,.int .i64 x.2],.int .i64 a,.int .i64 n] w (AnsR (WedP L x a n) w):=by
 have NO:Hid (¬ WedOk L x a n):=Lib.hid (fun k => hv k.1.1)
 have VL:=Lib.hid hv
 have PX:=Lib.hid hp
 have g0:Hid (Grew w (w.alloc (.cells #[.int .i64 x.1,.int .i64 x.2] 24))):=Lib.hid ((Grew.refl w).alloc _ _)
 have X0:=Lib.hid (Blk.new w #[.int .i64 x.1,.int .i64 x.2] 24)
 have R0:=Lib.hid (hr.grown g0.out)
 have RR:=Lib.hid hr
 obtain ⟨va,vc,rfl⟩:=hr.shape
 obtain ⟨vn,hvn⟩:∃ n,L.length=n:=⟨_,rfl⟩
 rw [hvn] at R0 RR ⊢
 clear hr hvn hv hp
 go_enter Tryz.func17,Tryz.ntmps17
 go_wp2_with fail
 refine ((Rg.rref_valid L _ _ R0.out).mono fun _ _ t => t.un VL.out).mono ?_
 rintro e w1 ⟨rfl,g1⟩
 have X1:=Lib.hid (X0.out.grown g1)
 have G1:=Lib.hid (g0.out.trans g1)
 obtain ⟨⟨x0,x1⟩,_,_⟩:=X1.out.two
 have lX:=X1.out.lt
 clear g1
 go_wp2_with fail
 refine ((Rg.place_t x _).mono fun _ _ t => t.un PX.out).mono ?_
 rintro e w2 ⟨rfl,g2⟩
 have X2:=Lib.hid (X1.out.grown g2)
 have G2:=Lib.hid (G1.out.trans g2)
 clear g2 x0 x1 lX X1 G1
 go_wp2_with fail
 go_ret2
 exact ⟨_,1,[],Or.inl ⟨NO.out,rfl,rfl⟩,rfl,Rl.nil _ _ _,G2.out⟩
set_option maxRecDepth 100000 in
set_option maxHeartbeats 4000000 in
theorem r_wed_b3 (L:Rgn) (x:Pt) (a n:Int) (v:Value) (w:World) (hr:Rl w v L) (hv:VlR L) (hp:¬ Plc x):Calls Tryz.prog 17 #[v,.agg #[.int .i64 x.1,.int .i64 x.2],.int .i64 a,.int .i64 n] w (AnsR (WedP L x a n) w):=by
 have NO:Hid (¬ WedOk L x a n):=Lib.hid (fun k => hp k.1.2)
 have VL:=Lib.hid hv
 have PX:=Lib.hid hp
 have g0:Hid (Grew w (w.alloc (.cells #[.int .i64 x.1,.int .i64 x.2] 24))):=Lib.hid ((Grew.refl w).alloc _ _)
 have X0:=Lib.hid (Blk.new w #[.int .i64 x.1,.int .i64 x.2] 24)
 have R0:=Lib.hid (hr.grown g0.out)
 have RR:=Lib.hid hr
 obtain ⟨va,vc,rfl⟩:=hr.shape
 obtain ⟨vn,hvn⟩:∃ n,L.length=n:=⟨_,rfl⟩
 rw [hvn] at R0 RR ⊢
 clear hr hvn hv hp
 go_enter Tryz.func17,Tryz.ntmps17
 go_wp2_with fail
 refine ((Rg.rref_valid L _ _ R0.out).mono fun _ _ t => t.to VL.out).mono ?_
 rintro e w1 ⟨rfl,g1⟩
 have X1:=Lib.hid (X0.out.grown g1)
 have G1:=Lib.hid (g0.out.trans g1)
 obtain ⟨⟨x0,x1⟩,_,_⟩:=X1.out.two
 have lX:=X1.out.lt
 clear g1
 go_wp2_with fail
 refine ((Rg.place_t x _).mono fun _ _ t => t.un PX.out).mono ?_
 rintro e w2 ⟨rfl,g2⟩
 have X2:=Lib.hid (X1.out.grown g2)
 have G2:=Lib.hid (G1.out.trans g2)
 clear g2 x0 x1 lX X1 G1
 go_wp2_with fail
 go_ret2
 exact ⟨_,1,[],Or.inl ⟨NO.out,rfl,rfl⟩,rfl,Rl.nil _ _ _,G2.out⟩
set_option maxRecDepth 100000 in
set_option maxHeartbeats 4000000 in
theorem r_wed_b4 (L:Rgn) (x:Pt) (a n:Int) (v:Value) (w:World) (hr:Rl w v L) (hv:VlR L) (hp:Plc x) (h:a < 0):Calls Tryz.prog 17 #[v,.agg #[.int .i64 x.1,.int .i64 x.2],.int .i64 a,.int .i64 n] w (AnsR (WedP L x a n) w):=by
 have NO:Hid (¬ WedOk L x a n):=Lib.hid (fun k => by have:=k.2.1.1;omega)
 have VL:=Lib.hid hv
 have PX:=Lib.hid hp
 have g0:Hid (Grew w (w.alloc (.cells #[.int .i64 x.1,.int .i64 x.2] 24))):=Lib.hid ((Grew.refl w).alloc _ _)
 have X0:=Lib.hid (Blk.new w #[.int .i64 x.1,.int .i64 x.2] 24)
 have R0:=Lib.hid (hr.grown g0.out)
 have RR:=Lib.hid hr
 obtain ⟨va,vc,rfl⟩:=hr.shape
 obtain ⟨vn,hvn⟩:∃ n,L.length=n:=⟨_,rfl⟩
 rw [hvn] at R0 RR ⊢
 clear hr hvn hv hp
 go_enter Tryz.func17,Tryz.ntmps17
 go_wp2_with fail
 refine ((Rg.rref_valid L _ _ R0.out).mono fun _ _ t => t.to VL.out).mono ?_
 rintro e w1 ⟨rfl,g1⟩
 have X1:=Lib.hid (X0.out.grown g1)
 have G1:=Lib.hid (g0.out.trans g1)
 obtain ⟨⟨x0,x1⟩,_,_⟩:=X1.out.two
 have lX:=X1.out.lt
 clear g1
 go_wp2_with fail
 refine ((Rg.place_t x _).mono fun _ _ t => t.to PX.out).mono ?_
 rintro e w2 ⟨rfl,g2⟩
 have X2:=Lib.hid (X1.out.grown g2)
 have G2:=Lib.hid (G1.out.trans g2)
 clear g2 x0 x1 lX X1 G1
 go_wp2_with fail
 go_ret2
 exact ⟨_,1,[],Or.inl ⟨NO.out,rfl,rfl⟩,rfl,Rl.nil _ _ _,G2.out⟩
set_option maxRecDepth 100000 in
set_option maxHeartbeats 4000000 in
theorem r_wed_b5 (L:Rgn) (x:Pt) (a n:Int) (v:Value) (w:World) (hr:Rl w v L) (hv:VlR L) (hp:Plc x) (h0:0≤a) (h:63 < a):Calls Tryz.prog 17 #[v,.agg #[.int .i64 x.1,.int .i64 x.2],.int .i64 a,.int .i64 n] w (AnsR (WedP L x a n) w):=by
 have NO:Hid (¬ WedOk L x a n):=Lib.hid (fun k => by have:=k.2.1.2;omega)
 have VL:=Lib.hid hv
 have PX:=Lib.hid hp
 have g0:Hid (Grew w (w.alloc (.cells #[.int .i64 x.1,.int .i64 x.2] 24))):=Lib.hid ((Grew.refl w).alloc _ _)
 have X0:=Lib.hid (Blk.new w #[.int .i64 x.1,.int .i64 x.2] 24)
 have R0:=Lib.hid (hr.grown g0.out)
 have RR:=Lib.hid hr
 obtain ⟨va,vc,rfl⟩:=hr.shape
 obtain ⟨vn,hvn⟩:∃ n,L.length=n:=⟨_,rfl⟩
 rw [hvn] at R0 RR ⊢
 clear hr hvn hv hp
 go_enter Tryz.func17,Tryz.ntmps17
 go_wp2_with fail
 refine ((Rg.rref_valid L _ _ R0.out).mono fun _ _ t => t.to VL.out).mono ?_
 rintro e w1 ⟨rfl,g1⟩
 have X1:=Lib.hid (X0.out.grown g1)
 have G1:=Lib.hid (g0.out.trans g1)
 obtain ⟨⟨x0,x1⟩,_,_⟩:=X1.out.two
 have lX:=X1.out.lt
 clear g1
 go_wp2_with fail
 refine ((Rg.place_t x _).mono fun _ _ t => t.to PX.out).mono ?_
 rintro e w2 ⟨rfl,g2⟩
 have X2:=Lib.hid (X1.out.grown g2)
 have G2:=Lib.hid (G1.out.trans g2)
 clear g2 x0 x1 lX X1 G1
 go_wp2_with fail
 go_ret2
 exact ⟨_,1,[],Or.inl ⟨NO.out,rfl,rfl⟩,rfl,Rl.nil _ _ _,G2.out⟩
set_option maxRecDepth 100000 in
set_option maxHeartbeats 4000000 in
theorem r_wed_b6 (L:Rgn) (x:Pt) (a n:Int) (v:Value) (w:World) (hr:Rl w v L) (hv:VlR L) (hp:Plc x) (h0:0≤a) (h1:a≤63) (h:n < 0):Calls Tryz.prog 17 #[v,.agg #[.int .i64 x.1,.int .i64 x.2],.int .i64 a,.int .i64 n] w (AnsR (WedP L x a n) w):=by
 have NO:Hid (¬ WedOk L x a n):=Lib.hid (fun k => by have:=k.2.2.1;omega)
 have VL:=Lib.hid hv
 have PX:=Lib.hid hp
 have g0:Hid (Grew w (w.alloc (.cells #[.int .i64 x.1,.int .i64 x.2] 24))):=Lib.hid ((Grew.refl w).alloc _ _)
 have X0:=Lib.hid (Blk.new w #[.int .i64 x.1,.int .i64 x.2] 24)
 have R0:=Lib.hid (hr.grown g0.out)
 have RR:=Lib.hid hr
 obtain ⟨va,vc,rfl⟩:=hr.shape
 obtain ⟨vn,hvn⟩:∃ n,L.length=n:=⟨_,rfl⟩
 rw [hvn] at R0 RR ⊢
 clear hr hvn hv hp
 go_enter Tryz.func17,Tryz.ntmps17
 go_wp2_with fail
 refine ((Rg.rref_valid L _ _ R0.out).mono fun _ _ t => t.to VL.out).mono ?_
 rintro e w1 ⟨rfl,g1⟩
 have X1:=Lib.hid (X0.out.grown g1)
 have G1:=Lib.hid (g0.out.trans g1)
 obtain ⟨⟨x0,x1⟩,_,_⟩:=X1.out.two
 have lX:=X1.out.lt
 clear g1
 go_wp2_with fail
 refine ((Rg.place_t x _).mono fun _ _ t => t.to PX.out).mono ?_
 rintro e w2 ⟨rfl,g2⟩
 have X2:=Lib.hid (X1.out.grown g2)
 have G2:=Lib.hid (G1.out.trans g2)
 clear g2 x0 x1 lX X1 G1
 go_wp2_with fail
 go_ret2
 exact ⟨_,1,[],Or.inl ⟨NO.out,rfl,rfl⟩,rfl,Rl.nil _ _ _,G2.out⟩
set_option maxRecDepth 100000 in
set_option maxHeartbeats 4000000 in
theorem r_wed_b7 (L:Rgn) (x:Pt) (a n:Int) (v:Value) (w:World) (hr:Rl w v L) (hv:VlR L) (hp:Plc x) (h0:0≤a) (h1:a≤63) (h2:0≤n) (h:31 < n):Calls Tryz.prog 17 #[v,.agg #[.int .i64 x.1,.int .i64 x.2],.int .i64 a,.int .i64 n] w (AnsR (WedP L x a n) w):=by
 have NO:Hid (¬ WedOk L x a n):=Lib.hid (fun k => by have:=k.2.2.2;omega)
 have VL:=Lib.hid hv
 have PX:=Lib.hid hp
 have g0:Hid (Grew w (w.alloc (.cells #[.int .i64 x.1,.int .i64 x.2] 24))):=Lib.hid ((Grew.refl w).alloc _ _)
 have X0:=Lib.hid (Blk.new w #[.int .i64 x.1,.int .i64 x.2] 24)
 have R0:=Lib.hid (hr.grown g0.out)
 have RR:=Lib.hid hr
 obtain ⟨va,vc,rfl⟩:=hr.shape
 obtain ⟨vn,hvn⟩:∃ n,L.length=n:=⟨_,rfl⟩
 rw [hvn] at R0 RR ⊢
 clear hr hvn hv hp
 go_enter Tryz.func17,Tryz.ntmps17
 go_wp2_with fail
 refine ((Rg.rref_valid L _ _ R0.out).mono fun _ _ t => t.to VL.out).mono ?_
 rintro e w1 ⟨rfl,g1⟩
 have X1:=Lib.hid (X0.out.grown g1)
 have G1:=Lib.hid (g0.out.trans g1)
 obtain ⟨⟨x0,x1⟩,_,_⟩:=X1.out.two
 have lX:=X1.out.lt
 clear g1
 go_wp2_with fail
 refine ((Rg.place_t x _).mono fun _ _ t => t.to PX.out).mono ?_
 rintro e w2 ⟨rfl,g2⟩
 have X2:=Lib.hid (X1.out.grown g2)
 have G2:=Lib.hid (G1.out.trans g2)
 clear g2 x0 x1 lX X1 G1
 go_wp2_with fail
 go_ret2
 exact ⟨_,1,[],Or.inl ⟨NO.out,rfl,rfl⟩,rfl,Rl.nil _ _ _,G2.out⟩
theorem tid_cut {L:Rgn} {h:Hf} {w:World} {e:Ending} {w':World} (t:TidOf (CutC L h) w e w'):∃ u r,CutR L h r∧e=.returned u∧Rl w' u r∧Grew w w':=t
set_option maxRecDepth 100000 in
set_option maxHeartbeats 8000000 in
theorem r_wed_ok (L:Rgn) (x:Pt) (a n:Nat) (v:Value) (w:World) (hr:Rl w v L) (hv:VlR L) (hp:Plc x) (ha:a < 64) (hn:n≤31):Calls Tryz.prog 17 #[v,.agg #[.int .i64 x.1,.int .i64 x.2],.int .i64 a,.int .i64 n] w (AnsR (WedP L x a n) w):=by
 have FIN:Hid (∀ r1 r2 r,CutR L (H1 x a) r1→CutR r1 (H2 x (a+n)) r2→((n ≠ 0∧r=r2)∨(n=0∧CutR r2 (H3 x a) r))→WedP L x a n 0 r):=Lib.hid (fun r1 r2 r h1 h2 h3 => Or.inr ⟨⟨⟨hv,hp⟩,⟨by omega,by omega⟩,by omega,by omega⟩,rfl,r1,r2,h1,h2,h3⟩)
 have d1:=Ry.dir_bd a
 have d2:=Ry.dir_bd (a+n)
 have CB:Hid (∀ (M:Rgn) (h:Hf) (u:Value) (W:World),Rl W u M→VlR M→WF h→Calls Tryz.prog 46 #[u,.agg #[.int .i64 h.1,.int .i64 h.2.1,.int .i64 h.2.2]] W fun e w' => ∃ u r,CutR M h r∧e=.returned u∧Rl w' u r∧Grew W w'):=Lib.hid (fun M h u W hr hM hh => (Rg.cutby_r M h u W hr hM.2 hh (by have:=hM.1;omega)).mono fun _ _ t => tid_cut t)
 have WF1:Hid (WF (H1 x a)):=Lib.hid (h1_wf (by omega) hp)
 have WF2:Hid (WF (H2 x (a+n))):=Lib.hid (h2_wf (by omega) hp)
 have WF3:Hid (WF (H3 x a)):=Lib.hid (h3_wf (by omega) hp)
 have A1:=Lib.hid (fun W => Ry.at_r a W (by omega))
 have A2:Hid (∀ W,Calls Tryz.prog 45 #[.int .i64 ((a:Int)+(n:Int))] W fun e w' => e=.returned (.agg #[.int .i64 (Ry.dir (a+n)).1,.int .i64 (Ry.dir (a+n)).2])∧Grew W w'):=Lib.hid (fun W => by
  have h:=Ry.at_r (a+n) W (by omega)
  rwa [Int.natCast_add] at h)
 have E1:H1 x a=(-(Ry.dir a).2,(Ry.dir a).1,(Ry.dir a).1 * x.2 - (Ry.dir a).2 * x.1):=by unfold H1;simp only [Prod.mk.injEq,true_and];grind
 have E2:H2 x (a+n)=((Ry.dir (a+n)).2,-(Ry.dir (a+n)).1,(Ry.dir (a+n)).2 * x.1 - (Ry.dir (a+n)).1 * x.2):=by unfold H2;simp only [Prod.mk.injEq,true_and];grind
 have E3:H3 x a=((Ry.dir a).1,(Ry.dir a).2,(Ry.dir a).1 * x.1+(Ry.dir a).2 * x.2):=rfl
 rw [E1] at WF1 FIN
 rw [E2] at WF2 FIN
 rw [E3] at WF3 FIN
 clear E1 E2 E3
 have a0:(0:Int)≤(a:Int):=by omega
 have a1:(a:Int)≤63:=by omega
 have n0:(0:Int)≤(n:Int):=by omega
 have n1:(n:Int)≤31:=by omega
 generalize Ry.dir a=f at A1 d1 WF1 WF3 FIN
 generalize Ry.dir (a+n)=s at A2 d2 WF2 FIN
 obtain ⟨p1,hp1⟩:∃ p,f.1 * x.2=p:=⟨_,rfl⟩
 obtain ⟨p2,hp2⟩:∃ p,f.2 * x.1=p:=⟨_,rfl⟩
 obtain ⟨p3,hp3⟩:∃ p,s.2 * x.1=p:=⟨_,rfl⟩
 obtain ⟨p4,hp4⟩:∃ p,s.1 * x.2=p:=⟨_,rfl⟩
 obtain ⟨p5,hp5⟩:∃ p,f.1 * x.1=p:=⟨_,rfl⟩
 obtain ⟨p6,hp6⟩:∃ p,f.2 * x.2=p:=⟨_,rfl⟩
 have m1:=mul_small d1.1 hp.2
 have m2:=mul_small d1.2 hp.1
 have m3:=mul_small d2.2 hp.1
 have m4:=mul_small d2.1 hp.2
 have m5:=mul_small d1.1 hp.1
 have m6:=mul_small d1.2 hp.2
 rw [hp1] at m1 WF1 FIN
 rw [hp2] at m2 WF1 FIN
 rw [hp3] at m3 WF2 FIN
 rw [hp4] at m4 WF2 FIN
 rw [hp5] at m5 WF3 FIN
 rw [hp6] at m6 WF3 FIN
 have VL:=Lib.hid hv
 have PX:=Lib.hid hp
 have g0:Hid (Grew w (w.alloc (.cells #[.int .i64 x.1,.int .i64 x.2] 24))):=Lib.hid ((Grew.refl w).alloc _ _)
 have X0:=Lib.hid (Blk.new w #[.int .i64 x.1,.int .i64 x.2] 24)
 have R0:=Lib.hid (hr.grown g0.out)
 have RR:=Lib.hid hr
 obtain ⟨va,vc,rfl⟩:=hr.shape
 obtain ⟨vn,hvn⟩:∃ n,L.length=n:=⟨_,rfl⟩
 rw [hvn] at R0 RR ⊢
 clear hr hvn hv hp ha hn
 go_enter Tryz.func17,Tryz.ntmps17
 go_wp2_with fail
 refine ((Rg.rref_valid L _ _ R0.out).mono fun _ _ t => t.to VL.out).mono ?_
 rintro e w1 ⟨rfl,g1⟩
 have X1:=Lib.hid (X0.out.grown g1)
 have G1:=Lib.hid (g0.out.trans g1)
 obtain ⟨⟨x0,x1⟩,_,_⟩:=X1.out.two
 have lX:=X1.out.lt
 clear g1
 go_wp2_with fail
 refine ((Rg.place_t x _).mono fun _ _ t => t.to PX.out).mono ?_
 rintro e w2 ⟨rfl,g2⟩
 have X2:=Lib.hid (X1.out.grown g2)
 have G2:=Lib.hid (G1.out.trans g2)
 clear g2 x0 x1 lX X1 G1
 go_wp2_with fail
 refine (A1.out _).mono ?_
 rintro e w3 ⟨rfl,g3⟩
 have X3:=Lib.hid ((X2.out.grown g3).alloc (.cells #[.int .i64 f.1,.int .i64 f.2] 24))
 have F3:=Lib.hid (Blk.new w3 #[.int .i64 f.1,.int .i64 f.2] 24)
 have G3:=Lib.hid ((G2.out.trans g3).alloc #[.int .i64 f.1,.int .i64 f.2] 24)
 clear g3 X2 G2
 go_wp2_with fail
 refine (A2.out _).mono ?_
 rintro e w4 ⟨rfl,g4⟩
 have X4:=Lib.hid ((X3.out.grown g4).alloc (.cells #[.int .i64 s.1,.int .i64 s.2] 24))
 have F4:=Lib.hid ((F3.out.grown g4).alloc (.cells #[.int .i64 s.1,.int .i64 s.2] 24))
 have S4:=Lib.hid (Blk.new w4 #[.int .i64 s.1,.int .i64 s.2] 24)
 have G4:=Lib.hid ((G3.out.trans g4).alloc #[.int .i64 s.1,.int .i64 s.2] 24)
 clear g4 X3 F3 G3
 have R4:=Lib.hid (RR.out.grown G4.out)
 obtain ⟨⟨x0,x1⟩,_,_⟩:=X4.out.two
 obtain ⟨⟨f0,f1⟩,_,_⟩:=F4.out.two
 have lX:=X4.out.lt
 have lF:=F4.out.lt
 go_wp2_with fail
 refine (CB.out L (-f.2,f.1,p1 - p2) _ _ R4.out VL.out WF1.out).mono ?_
 rintro e w5 ⟨u1,r1,c1,rfl,hr1,g5⟩
 have X5:=Lib.hid (X4.out.grown g5)
 have F5:=Lib.hid (F4.out.grown g5)
 have S5:=Lib.hid (S4.out.grown g5)
 have G5:=Lib.hid (G4.out.trans g5)
 have C1:=Lib.hid c1
 have V1:Hid (VlR r1):=Lib.hid (c1.vl VL.out.2)
 have R5:=Lib.hid hr1
 obtain ⟨ua,uc,rfl⟩:=hr1.shape
 obtain ⟨un,hun⟩:∃ k,r1.length=k:=⟨_,rfl⟩
 rw [hun] at R5 ⊢
 clear x0 x1 f0 f1 lX lF X4 F4 S4 G4 R4 g5 c1 hr1 hun
 obtain ⟨⟨x0,x1⟩,_,_⟩:=X5.out.two
 obtain ⟨⟨s0,s1⟩,_,_⟩:=S5.out.two
 have lX:=X5.out.lt
 have lS:=S5.out.lt
 go_wp2_with fail
 refine (CB.out r1 (s.2,-s.1,p3 - p4) _ _ R5.out V1.out WF2.out).mono ?_
 rintro e w6 ⟨u2,r2,c2,rfl,hr2,g6⟩
 have X6:=Lib.hid (X5.out.grown g6)
 have F6:=Lib.hid (F5.out.grown g6)
 have G6:=Lib.hid (G5.out.trans g6)
 have C2:=Lib.hid c2
 have V2:Hid (VlR r2):=Lib.hid (c2.vl V1.out.2)
 have R6:=Lib.hid hr2
 obtain ⟨ya,yc,rfl⟩:=hr2.shape
 obtain ⟨yn,hyn⟩:∃ k,r2.length=k:=⟨_,rfl⟩
 rw [hyn] at R6 ⊢
 clear x0 x1 s0 s1 lX lS X5 F5 S5 G5 R5 g6 c2 hr2 hyn
 obtain ⟨⟨x0,x1⟩,_,_⟩:=X6.out.two
 obtain ⟨⟨f0,f1⟩,_,_⟩:=F6.out.two
 have lX:=X6.out.lt
 have lF:=F6.out.lt
 by_cases n00:n=0
 ·subst n00
  go_wp2_with fail
  refine (CB.out r2 (f.1,f.2,p5+p6) _ _ R6.out V2.out WF3.out).mono ?_
  rintro e w7 ⟨u3,r3,c3,rfl,hr3,g7⟩
  have C3:=Lib.hid c3
  have G7:=Lib.hid (G6.out.trans g7)
  have R7:=Lib.hid hr3
  obtain ⟨za,zc,rfl⟩:=hr3.shape
  clear c3 g7 hr3
  go_wp2_with fail
  go_ret2
  exact ⟨_,0,r3,FIN.out r1 r2 r3 C1.out C2.out (Or.inr ⟨by first | rfl | trivial,C3.out⟩),rfl,R7.out,G7.out⟩
 ·have n01:¬ (n:Int)=0:=by omega
  have n02:((n:Int) == 0)=false:=by simpa using n01
  have N0:=Lib.hid n00
  clear n00
  go_wp2_with fail
  go_ret2
  exact ⟨_,0,r2,FIN.out r1 r2 r2 C1.out C2.out (Or.inl ⟨N0.out,rfl⟩),rfl,R6.out,G6.out⟩
theorem r_wedge (L:Rgn) (x:Pt) (a n:Int) (v:Value) (w:World) (hr:Rl w v L):Calls Tryz.prog 17 #[v,.agg #[.int .i64 x.1,.int .i64 x.2],.int .i64 a,.int .i64 n] w (AnsR (WedP L x a n) w):=by
 by_cases hv:VlR L
 ·by_cases hp:Plc x
  ·by_cases h1:a < 0
   ·exact r_wed_b4 L x a n v w hr hv hp h1
   ·by_cases h2:63 < a
    ·exact r_wed_b5 L x a n v w hr hv hp (by omega) h2
    ·by_cases h3:n < 0
     ·exact r_wed_b6 L x a n v w hr hv hp (by omega) (by omega) h3
     ·by_cases h4:31 < n
      ·exact r_wed_b7 L x a n v w hr hv hp (by omega) (by omega) (by omega) h4
      ·obtain ⟨a,rfl⟩:∃ b:Nat,a=(b:Int):=⟨a.toNat,by omega⟩
       obtain ⟨n,rfl⟩:∃ b:Nat,n=(b:Int):=⟨n.toNat,by omega⟩
       exact r_wed_ok L x a n v w hr hv hp (by omega) (by omega)
  ·exact r_wed_b3 L x a n v w hr hv hp
 ·by_cases hp:Plc x
  ·exact r_wed_b1 L x a n v w hr hv hp
  ·exact r_wed_b2 L x a n v w hr hv hp
end Rn
end Go.Proofs.YtbpgfenippiepaaGreatDoor
namespace Go.Proofs.YtbpgfenippiepaaGreatDoor
open Go.RowKit Go.Shelf Hl
namespace Rn
open Rg (Rgn VlR AllV AnsR Rl InR)
set_option maxRecDepth 100000 in
set_option maxHeartbeats 8000000 in
theorem match_true {T:World→Prop} (C:Code T) (L:Rgn) (x:Pt) (lo hi a n:Int) (v:Value) (w:World) (hT:T w) (hs:Rl w v L):Calls Tryz.prog 3 #[v,.agg #[.int .i64 x.1,.int .i64 x.2],.agg #[.int .i64 lo,.int .i64 hi],.int .i64 a,.int .i64 n] w fun e w' => e=.returned (.bool true)∧Grew w w':=by
 have TK:=Lib.hid (fun W (g:Grew w W) => C.keep w W g hT)
 have HC:=Lib.hid (fun W (g:Grew w W) => head_true C W (C.keep w W g hT))
 have F:=C.fns
 obtain ⟨va,m,vc,rfl,hm⟩:=Rg.rl_nat hs
 have R:=Lib.hid hs
 clear hs C hT hm
 have BK00:=Lib.hid ((Blk.new (w) #[.int .i64 x.1,.int .i64 x.2] 24).grown ((Grew.refl _).alloc #[.int .i64 lo,.int .i64 hi] 26))
 have BK10:=Lib.hid ((Blk.new ((w.alloc (.cells #[.int .i64 x.1,.int .i64 x.2] 24))) #[.int .i64 lo,.int .i64 hi] 26))
 simp only [World.size_alloc] at BK10
 have GW0:Hid (Grew w ((w.alloc (.cells #[.int .i64 x.1,.int .i64 x.2] 24)).alloc (.cells #[.int .i64 lo,.int .i64 hi] 26))):=Lib.hid gw
 have G0:Hid (Grew w ((w.alloc (.cells #[.int .i64 x.1,.int .i64 x.2] 24)).alloc (.cells #[.int .i64 lo,.int .i64 hi] 26))):=GW0
 have R0:=Lib.hid (R.out.grown GW0.out)
 clear GW0
 go_enter Tryz.func3,Tryz.ntmps3
 obtain ⟨⟨x00,x01⟩,_,_⟩:=BK00.out.two
 have x0l:=BK00.out.lt
 obtain ⟨⟨x10,x11⟩,_,_⟩:=BK10.out.two
 have x1l:=BK10.out.lt
 go_wp2_with fail
 refine (HC.out _ (Grew.trans G0.out gw)).mono ?_
 rintro e w1 ⟨rfl,g1⟩
 have D1:Hid (Grew ((w.alloc (.cells #[.int .i64 x.1,.int .i64 x.2] 24)).alloc (.cells #[.int .i64 lo,.int .i64 hi] 26)) w1):=Lib.hid (Grew.trans gw g1)
 have G1:=Lib.hid (G0.out.trans D1.out)
 have R1:=Lib.hid (R0.out.grown D1.out)
 have BK01:=Lib.hid (BK00.out.grown D1.out)
 have BK11:=Lib.hid (BK10.out.grown D1.out)
 clear R0 BK00 BK10 g1 D1 G0 x00 x01 x0l x10 x11 x1l
 obtain ⟨⟨x00,x01⟩,_,_⟩:=BK01.out.two
 have x0l:=BK01.out.lt
 obtain ⟨⟨x10,x11⟩,_,_⟩:=BK11.out.two
 have x1l:=BK11.out.lt
 clear HC
 by_cases h4:(4:Int) < (m:Int)
 ·go_wp2_with fail
  go_ret
  exact ⟨by first | rfl | trivial,G1.out⟩
 go_wp2_with fail
 refine (Rg.few_r L _ _ R1.out).mono ?_
 rintro e w2 ⟨b,rfl,_,g2⟩
 have D2:Hid (Grew w1 w2):=Lib.hid (Grew.trans gw g2)
 have G2:=Lib.hid (G1.out.trans D2.out)
 have R2:=Lib.hid (R1.out.grown D2.out)
 have BK02:=Lib.hid (BK01.out.grown D2.out)
 have BK12:=Lib.hid (BK11.out.grown D2.out)
 clear R1 BK01 BK11 g2 D2 G1 x00 x01 x0l x10 x11 x1l
 obtain ⟨⟨x00,x01⟩,_,_⟩:=BK02.out.two
 have x0l:=BK02.out.lt
 obtain ⟨⟨x10,x11⟩,_,_⟩:=BK12.out.two
 have x1l:=BK12.out.lt
 cases b
 ·go_wp2_with fail
  go_ret
  exact ⟨by first | rfl | trivial,G2.out⟩
 go_wp2_with fail
 refine (F.ring x lo hi _ (TK.out _ (Grew.trans G2.out gw))).mono ?_
 rintro e w3 ⟨v3,k3,r3,p3,rfl,s3,g3⟩
 have D3:Hid (Grew w2 w3):=Lib.hid (Grew.trans gw g3)
 have G3:=Lib.hid (G2.out.trans D3.out)
 have R3:=Lib.hid (R2.out.grown D3.out)
 have BK03:=Lib.hid (BK02.out.grown D3.out)
 have BK13:=Lib.hid (BK12.out.grown D3.out)
 clear R2 BK02 BK12 g3 D3 G2 x00 x01 x0l x10 x11 x1l
 have A3:=Lib.hid s3
 clear s3
 obtain ⟨⟨x00,x01⟩,_,_⟩:=BK03.out.two
 have x0l:=BK03.out.lt
 obtain ⟨⟨x10,x11⟩,_,_⟩:=BK13.out.two
 have x1l:=BK13.out.lt
 obtain ⟨v3a,v3n,v3c,rfl,v3e⟩:=Rg.rl_nat A3.out
 clear v3e
 go_wp2_with fail
 refine (r_ring x lo hi _).mono ?_
 rintro e w4 ⟨v4,k4,r4,p4,rfl,s4,g4⟩
 have D4:Hid (Grew w3 w4):=Lib.hid (Grew.trans gw g4)
 have G4:=Lib.hid (G3.out.trans D4.out)
 have R4:=Lib.hid (R3.out.grown D4.out)
 have BK04:=Lib.hid (BK03.out.grown D4.out)
 have BK14:=Lib.hid (BK13.out.grown D4.out)
 have A4:=Lib.hid (A3.out.grown D4.out)
 clear R3 BK03 BK13 A3 g4 D4 G3 x00 x01 x0l x10 x11 x1l
 have B4:=Lib.hid s4
 clear s4
 obtain ⟨⟨x00,x01⟩,_,_⟩:=BK04.out.two
 have x0l:=BK04.out.lt
 obtain ⟨⟨x10,x11⟩,_,_⟩:=BK14.out.two
 have x1l:=BK14.out.lt
 obtain ⟨v4a,v4n,v4c,rfl,v4e⟩:=Rg.rl_nat B4.out
 clear v4e
 obtain ⟨rfl,rfl⟩:=p3.one p4
 clear p3 p4
 go_wp2_with fail
 refine ((Rg.rsame_c _ _ _ _ _ A4.out B4.out).mono fun _ _ t => t.to rfl).mono ?_
 rintro e w5 ⟨rfl,g5⟩
 have D5:Hid (Grew w4 w5):=Lib.hid (Grew.trans gw g5)
 have G5:=Lib.hid (G4.out.trans D5.out)
 have R5:=Lib.hid (R4.out.grown D5.out)
 have BK05:=Lib.hid (BK04.out.grown D5.out)
 have BK15:=Lib.hid (BK14.out.grown D5.out)
 have A5:=Lib.hid (A4.out.grown D5.out)
 have B5:=Lib.hid (B4.out.grown D5.out)
 clear R4 BK04 BK14 A4 B4 g5 D5 G4 x00 x01 x0l x10 x11 x1l
 obtain ⟨⟨x00,x01⟩,_,_⟩:=BK05.out.two
 have x0l:=BK05.out.lt
 obtain ⟨⟨x10,x11⟩,_,_⟩:=BK15.out.two
 have x1l:=BK15.out.lt
 clear A5
 clear B5
 go_wp2_with fail
 refine (F.near L x lo hi _ _ (TK.out _ (Grew.trans G5.out gw)) R5.out).mono ?_
 rintro e w6 ⟨v6,k6,r6,p6,rfl,s6,g6⟩
 have D6:Hid (Grew w5 w6):=Lib.hid (Grew.trans gw g6)
 have G6:=Lib.hid (G5.out.trans D6.out)
 have R6:=Lib.hid (R5.out.grown D6.out)
 have BK06:=Lib.hid (BK05.out.grown D6.out)
 have BK16:=Lib.hid (BK15.out.grown D6.out)
 clear R5 BK05 BK15 g6 D6 G5 x00 x01 x0l x10 x11 x1l
 have A6:=Lib.hid s6
 clear s6
 obtain ⟨⟨x00,x01⟩,_,_⟩:=BK06.out.two
 have x0l:=BK06.out.lt
 obtain ⟨⟨x10,x11⟩,_,_⟩:=BK16.out.two
 have x1l:=BK16.out.lt
 obtain ⟨v6a,v6n,v6c,rfl,v6e⟩:=Rg.rl_nat A6.out
 clear v6e
 go_wp2_with fail
 refine (r_near L x lo hi _ _ R6.out).mono ?_
 rintro e w7 ⟨v7,k7,r7,p7,rfl,s7,g7⟩
 have D7:Hid (Grew w6 w7):=Lib.hid (Grew.trans gw g7)
 have G7:=Lib.hid (G6.out.trans D7.out)
 have R7:=Lib.hid (R6.out.grown D7.out)
 have BK07:=Lib.hid (BK06.out.grown D7.out)
 have BK17:=Lib.hid (BK16.out.grown D7.out)
 have A7:=Lib.hid (A6.out.grown D7.out)
 clear R6 BK06 BK16 A6 g7 D7 G6 x00 x01 x0l x10 x11 x1l
 have B7:=Lib.hid s7
 clear s7
 obtain ⟨⟨x00,x01⟩,_,_⟩:=BK07.out.two
 have x0l:=BK07.out.lt
 obtain ⟨⟨x10,x11⟩,_,_⟩:=BK17.out.two
 have x1l:=BK17.out.lt
 obtain ⟨v7a,v7n,v7c,rfl,v7e⟩:=Rg.rl_nat B7.out
 clear v7e
 obtain ⟨rfl,rfl⟩:=p6.one p7
 clear p6 p7
 go_wp2_with fail
 refine ((Rg.rsame_c _ _ _ _ _ A7.out B7.out).mono fun _ _ t => t.to rfl).mono ?_
 rintro e w8 ⟨rfl,g8⟩
 have D8:Hid (Grew w7 w8):=Lib.hid (Grew.trans gw g8)
 have G8:=Lib.hid (G7.out.trans D8.out)
 have R8:=Lib.hid (R7.out.grown D8.out)
 have BK08:=Lib.hid (BK07.out.grown D8.out)
 have BK18:=Lib.hid (BK17.out.grown D8.out)
 have A8:=Lib.hid (A7.out.grown D8.out)
 have B8:=Lib.hid (B7.out.grown D8.out)
 clear R7 BK07 BK17 A7 B7 g8 D8 G7 x00 x01 x0l x10 x11 x1l
 obtain ⟨⟨x00,x01⟩,_,_⟩:=BK08.out.two
 have x0l:=BK08.out.lt
 obtain ⟨⟨x10,x11⟩,_,_⟩:=BK18.out.two
 have x1l:=BK18.out.lt
 clear A8
 clear B8
 go_wp2_with fail
 refine (F.wedge L x a n _ _ (TK.out _ (Grew.trans G8.out gw)) R8.out).mono ?_
 rintro e w9 ⟨v9,k9,r9,p9,rfl,s9,g9⟩
 have D9:Hid (Grew w8 w9):=Lib.hid (Grew.trans gw g9)
 have G9:=Lib.hid (G8.out.trans D9.out)
 have R9:=Lib.hid (R8.out.grown D9.out)
 have BK09:=Lib.hid (BK08.out.grown D9.out)
 have BK19:=Lib.hid (BK18.out.grown D9.out)
 clear R8 BK08 BK18 g9 D9 G8 x00 x01 x0l x10 x11 x1l
 have A9:=Lib.hid s9
 clear s9
 obtain ⟨⟨x00,x01⟩,_,_⟩:=BK09.out.two
 have x0l:=BK09.out.lt
 obtain ⟨⟨x10,x11⟩,_,_⟩:=BK19.out.two
 have x1l:=BK19.out.lt
 obtain ⟨v9a,v9n,v9c,rfl,v9e⟩:=Rg.rl_nat A9.out
 clear v9e
 go_wp2_with fail
 refine (r_wedge L x a n _ _ R9.out).mono ?_
 rintro e w10 ⟨v10,k10,r10,p10,rfl,s10,g10⟩
 have D10:Hid (Grew w9 w10):=Lib.hid (Grew.trans gw g10)
 have G10:=Lib.hid (G9.out.trans D10.out)
 have R10:=Lib.hid (R9.out.grown D10.out)
 have BK010:=Lib.hid (BK09.out.grown D10.out)
 have BK110:=Lib.hid (BK19.out.grown D10.out)
 have A10:=Lib.hid (A9.out.grown D10.out)
 clear R9 BK09 BK19 A9 g10 D10 G9 x00 x01 x0l x10 x11 x1l
 have B10:=Lib.hid s10
 clear s10
 obtain ⟨⟨x00,x01⟩,_,_⟩:=BK010.out.two
 have x0l:=BK010.out.lt
 obtain ⟨⟨x10,x11⟩,_,_⟩:=BK110.out.two
 have x1l:=BK110.out.lt
 obtain ⟨v10a,v10n,v10c,rfl,v10e⟩:=Rg.rl_nat B10.out
 clear v10e
 obtain ⟨rfl,rfl⟩:=p9.one p10
 clear p9 p10
 go_wp2_with fail
 refine ((Rg.rsame_c _ _ _ _ _ A10.out B10.out).mono fun _ _ t => t.to rfl).mono ?_
 rintro e w11 ⟨rfl,g11⟩
 have D11:Hid (Grew w10 w11):=Lib.hid (Grew.trans gw g11)
 have G11:=Lib.hid (G10.out.trans D11.out)
 have R11:=Lib.hid (R10.out.grown D11.out)
 have BK011:=Lib.hid (BK010.out.grown D11.out)
 have BK111:=Lib.hid (BK110.out.grown D11.out)
 have A11:=Lib.hid (A10.out.grown D11.out)
 have B11:=Lib.hid (B10.out.grown D11.out)
 clear R10 BK010 BK110 A10 B10 g11 D11 G10 x00 x01 x0l x10 x11 x1l
 obtain ⟨⟨x00,x01⟩,_,_⟩:=BK011.out.two
 have x0l:=BK011.out.lt
 obtain ⟨⟨x10,x11⟩,_,_⟩:=BK111.out.two
 have x1l:=BK111.out.lt
 clear A11
 clear B11
 go_wp2_with fail
 go_ret
 exact ⟨by first | rfl | trivial,G11.out⟩
end Rn
end Go.Proofs.YtbpgfenippiepaaGreatDoor
