/-
  The landed package ring: Wedge.
-/
import Derived.Laws.EntriesVeiled
import Derived.Test.YtbpgfenippiepaaGreatDoorRngA
namespace Go.Proofs.YtbpgfenippiepaaGreatDoor
open Go.RowKit Go.Shelf Hl
attribute [local go_sem] Oper.semAt_some
namespace Rn
open Rg (Rgn VlR AnsR Rl CutP nth)
open Ct (Hf WF)
theorem one_vlr {x:Pt}:VlR [[x]]↔Plc x:=by
 constructor
 ·intro h
  exact (h.2 [x] (by simp)).2.1 0 (by simp)
 ·intro h
  exact ⟨by simp,fun p hp => by rw [List.mem_singleton.1 hp];exact Mk.one_vl h⟩
theorem place_c {T:World→Prop} (N:Nd T) (x:Pt) (w:World):Calls Tryz.prog 42 #[.agg #[.int .i64 x.1,.int .i64 x.2]] w (Tells (Plc x) w):=by
 have VC:=Lib.hid N.valid
 have R:Hid (Rl (((w.alloc (.cells #[.int .i64 x.1,.int .i64 x.2] 24)).alloc (.cells #[.int .i64 x.1,.int .i64 x.2] 24)).alloc (.cells #[.slice (some ⟨w.heap.size+1,0,none⟩) 1 1] 48)) (.slice (some ⟨w.heap.size+1+1,0,none⟩) 1 1) [[x]]):=Lib.hid (by
  have s:Sl ((w.alloc (.cells #[.int .i64 x.1,.int .i64 x.2] 24)).alloc (.cells #[.int .i64 x.1,.int .i64 x.2] 24)) (.slice (some ⟨w.heap.size+1,0,none⟩) 1 1) [x]:=by
   have h:=Sl.of (c:=1) (row_new [x] #[.int .i64 x.1,.int .i64 x.2] rfl (w.alloc (.cells #[.int .i64 x.1,.int .i64 x.2] 24)) 24)
   rw [World.size_alloc] at h
   exact h
  have h:=Rg.one_rl (p:=[x]) s (by simp) 1
  rw [World.size_alloc,World.size_alloc] at h
  exact h)
 have G0:Hid (Grew w (((w.alloc (.cells #[.int .i64 x.1,.int .i64 x.2] 24)).alloc (.cells #[.int .i64 x.1,.int .i64 x.2] 24)).alloc (.cells #[.slice (some ⟨w.heap.size+1,0,none⟩) 1 1] 48))):=Lib.hid ((((Grew.refl w).alloc _ _).alloc _ _).alloc _ _)
 clear N
 go_enter Tryz.func42,Tryz.ntmps42
 go_wp2_with fail
 refine (VC.out [[x]] _ _ R.out).mono ?_
 rintro e w1 ⟨r,rfl,hr,g⟩
 have HR:=Lib.hid hr
 have G1:=Lib.hid (G0.out.trans g)
 clear hr g
 go_wp2_with fail
 go_ret
 exact ⟨r,rfl,HR.out.trans one_vlr,G1.out⟩
theorem cut_skip (a b:Int) (B X:Nat) (v:Value) (k:Int) (w:World) (hk:k ≠ 0) (hB:Blk w B (vwA v k X) 73):Calls Tryz.prog 44 #[.pointer (some ⟨B,0,none⟩),.int .i64 a,.int .i64 b] w fun e w' => e=.returned (.tuple #[])∧w=w':=by
 unfold vwA at hB
 obtain ⟨⟨c0,c1,c2⟩,q0,q1,q2⟩:=blk3f hB
 have hk':(k == 0)=false:=beq_eq_false_iff_ne.2 hk
 clear hB q0 q1 q2 hk
 go_enter Tryz.func44,Tryz.ntmps44
 go_wp2_with fail
 go_end0
 exact ⟨rfl,rfl⟩
theorem h1_wf {x:Pt} {a:Nat} (ha:a < 128) (hx:Plc x):WF (H1 x a):=by
 have d:=Ry.dir_bd a
 have z:=dir_zero ha
 have m1:=mul_small d.1 hx.2
 have m2:=mul_small (show -1000≤-(Ry.dir a).2∧-(Ry.dir a).2≤1000 by omega) hx.1
 unfold WF H1
 simp only
 exact ⟨⟨by omega,by omega,by omega,by omega⟩,fun h => z ⟨h.2,by omega⟩⟩
theorem h2_wf {x:Pt} {a:Nat} (ha:a < 128) (hx:Plc x):WF (H2 x a):=by
 have d:=Ry.dir_bd a
 have z:=dir_zero ha
 have m1:=mul_small d.2 hx.1
 have m2:=mul_small (show -1000≤-(Ry.dir a).1∧-(Ry.dir a).1≤1000 by omega) hx.2
 unfold WF H2
 simp only
 exact ⟨⟨by omega,by omega,by omega,by omega⟩,fun h => z ⟨by omega,h.1⟩⟩
theorem h3_wf {x:Pt} {a:Nat} (ha:a < 128) (hx:Plc x):WF (H3 x a):=by
 have d:=Ry.dir_bd a
 have z:=dir_zero ha
 have m1:=mul_small d.1 hx.1
 have m2:=mul_small d.2 hx.2
 unfold WF H3
 simp only
 exact ⟨⟨by omega,by omega,by omega,by omega⟩,fun h => z h⟩
theorem cutp_ok {L r:Rgn} {h:Hf} {k:Int} (hL:VlR L) (hh:WF h) (g:CutP L h k r):k=0∧CutR L h r:=by
 rcases g with ⟨n,_⟩ | ⟨_,rfl,c,hc,ht⟩
 ·exact absurd ⟨hL,hh⟩ n
 ·exact ⟨rfl,c,hc,ht⟩
theorem cutp_bad {L r:Rgn} {h:Hf} {k:Int} (hL:¬ VlR L) (g:CutP L h k r):k=1∧r=[]:=by
 rcases g with ⟨_,e,e'⟩ | ⟨b,_⟩
 ·exact ⟨e,e'⟩
 ·exact absurd b.1 hL
set_option maxRecDepth 100000 in
set_option maxHeartbeats 4000000 in
theorem wedge_bad1 {T:World→Prop} (N:Nd T) (L:Rgn) (x:Pt) (a n:Int) (v:Value) (w:World) (_hr:Rl w v L) (h:¬ (0≤a∧a < 64)):Calls Tryz.prog 16 #[v,.agg #[.int .i64 x.1,.int .i64 x.2],.int .i64 a,.int .i64 n] w (AnsR (WedP L x a n) w):=by
 have NO:Hid (¬ WedOk L x a n):=Lib.hid (fun k => h ⟨k.2.1.1,by have:=k.2.1.2;omega⟩)
 have RB:=Lib.hid (fun W => N.ray_bad a W h)
 clear _hr h N
 go_enter Tryz.func16,Tryz.ntmps16
 go_wp2_with fail
 refine (RB.out _).mono ?_
 rintro e w1 ⟨rfl,g1⟩
 have G1:Hid (Grew w w1):=Lib.hid (Grew.trans ((Grew.refl w).alloc _ _) g1)
 clear g1
 go_wp2_with fail
 go_ret2
 exact ⟨_,1,[],Or.inl ⟨NO.out,rfl,rfl⟩,rfl,Rl.nil _ _ _,(G1.out.alloc _ _)⟩
set_option maxRecDepth 100000 in
set_option maxHeartbeats 4000000 in
theorem wedge_bad2 {T:World→Prop} (N:Nd T) (L:Rgn) (x:Pt) (a:Nat) (n:Int) (v:Value) (w:World) (hT:T w) (_hr:Rl w v L) (ha:a < 64) (h:¬ (0≤n∧n≤31)):Calls Tryz.prog 16 #[v,.agg #[.int .i64 x.1,.int .i64 x.2],.int .i64 a,.int .i64 n] w (AnsR (WedP L x a n) w):=by
 have NO:Hid (¬ WedOk L x a n):=Lib.hid (fun k => h k.2.2)
 have RB:=Lib.hid (fun W (g:Grew w W) => N.ray a W (N.keep _ _ g hT) ha)
 generalize Ry.dir a=f at RB
 clear _hr N hT ha
 by_cases h0:n < 0
 ·clear h
  go_enter Tryz.func16,Tryz.ntmps16
  go_wp2_with fail
  refine (RB.out _ ((Grew.refl w).alloc _ _)).mono ?_
  rintro e w1 ⟨rfl,g1⟩
  have G1:Hid (Grew w w1):=Lib.hid (Grew.trans ((Grew.refl w).alloc _ _) g1)
  clear g1
  go_wp2_with fail
  go_ret2
  exact ⟨_,1,[],Or.inl ⟨NO.out,rfl,rfl⟩,rfl,Rl.nil _ _ _,(G1.out.alloc _ _)⟩
 ·have h1:31 < n:=by omega
  clear h
  go_enter Tryz.func16,Tryz.ntmps16
  go_wp2_with fail
  refine (RB.out _ ((Grew.refl w).alloc _ _)).mono ?_
  rintro e w1 ⟨rfl,g1⟩
  have G1:Hid (Grew w w1):=Lib.hid (Grew.trans ((Grew.refl w).alloc _ _) g1)
  clear g1
  go_wp2_with fail
  go_ret2
  exact ⟨_,1,[],Or.inl ⟨NO.out,rfl,rfl⟩,rfl,Rl.nil _ _ _,(G1.out.alloc _ _)⟩
set_option maxRecDepth 100000 in
set_option maxHeartbeats 4000000 in
theorem wedge_bad3 {T:World→Prop} (N:Nd T) (L:Rgn) (x:Pt) (a:Nat) (n:Nat) (v:Value) (w:World) (hT:T w) (_hr:Rl w v L) (ha:a < 64) (hn:n≤31) (h:¬ Plc x):Calls Tryz.prog 16 #[v,.agg #[.int .i64 x.1,.int .i64 x.2],.int .i64 a,.int .i64 n] w (AnsR (WedP L x a n) w):=by
 have NO:Hid (¬ WedOk L x a n):=Lib.hid (fun k => h k.1.2)
 have RB:=Lib.hid (fun W (g:Grew w W) => N.ray a W (N.keep _ _ g hT) ha)
 have PC:Hid (∀ W,Calls Tryz.prog 42 #[.agg #[.int .i64 x.1,.int .i64 x.2]] W fun e w' => e=.returned (.bool false)∧Grew W w'):=Lib.hid (fun W => (place_c N x W).mono fun _ _ t => t.un h)
 generalize Ry.dir a=f at RB
 have n0:(0:Int)≤(n:Int):=by omega
 have n1:(n:Int)≤31:=by omega
 clear _hr N hT ha h hn
 go_enter Tryz.func16,Tryz.ntmps16
 go_wp2_with fail
 refine (RB.out _ ((Grew.refl w).alloc _ _)).mono ?_
 rintro e w1 ⟨rfl,g1⟩
 have X1:=Lib.hid (((Blk.new w #[.int .i64 x.1,.int .i64 x.2] 24).grown g1).alloc (.cells #[.int .i64 f.1,.int .i64 f.2] 24))
 have F1:=Lib.hid (Blk.new w1 #[.int .i64 f.1,.int .i64 f.2] 24)
 have G1:Hid (Grew w (w1.alloc (.cells #[.int .i64 f.1,.int .i64 f.2] 24))):=Lib.hid ((Grew.trans ((Grew.refl w).alloc _ _) g1).alloc _ _)
 obtain ⟨⟨x0,x1⟩,_,_⟩:=X1.out.two
 have lX:=X1.out.lt
 clear g1
 go_wp2_with fail
 refine (PC.out _).mono ?_
 rintro e w2 ⟨rfl,g2⟩
 have X2:=Lib.hid (X1.out.grown g2)
 have F2:=Lib.hid (F1.out.grown g2)
 have G2:=Lib.hid (G1.out.trans g2)
 clear X1 F1 G1 g2 x0 x1 lX
 go_wp2_with fail
 go_ret2
 exact ⟨_,1,[],Or.inl ⟨NO.out,rfl,rfl⟩,rfl,Rl.nil _ _ _,G2.out⟩
set_option maxRecDepth 100000 in
set_option maxHeartbeats 8000000 in
theorem wedge_ok {T:World→Prop} (N:Nd T) (L:Rgn) (x:Pt) (a:Nat) (n:Nat) (v:Value) (w:World) (hT:T w) (hr:Rl w v L) (ha:a < 64) (hn:n≤31) (h:Plc x):Calls Tryz.prog 16 #[v,.agg #[.int .i64 x.1,.int .i64 x.2],.int .i64 a,.int .i64 n] w (AnsR (WedP L x a n) w):=by
 have OK:Hid (VlR L→WedOk L x a n):=Lib.hid (fun k => ⟨⟨k,h⟩,⟨by omega,by omega⟩,by omega,by omega⟩)
 have NO:Hid (¬ VlR L→¬ WedOk L x a n):=Lib.hid (fun k g => k g.1.1)
 have RB:=Lib.hid (fun W (g:Grew w W) => N.ray a W (N.keep _ _ g hT) ha)
 have RB2:Hid (∀ W,Grew w W→Calls Tryz.prog 41 #[.int .i64 (((a:Int)+(n:Int)) % 64)] W fun e w' => e=.returned (.tuple #[.agg #[.int .i64 (Ry.dir (a+n)).1,.int .i64 (Ry.dir (a+n)).2],.int .i64 0])∧Grew W w'):=Lib.hid (fun W g => by
  have h:=N.ray ((a+n) % 64) W (N.keep _ _ g hT) (Nat.mod_lt _ (by decide))
  rw [Ry.dir_mod (show a+n < 128 by omega)] at h
  rwa [show (((a+n) % 64:Nat):Int)=((a:Int)+(n:Int)) % 64 by omega] at h)
 have PC:Hid (∀ W,Calls Tryz.prog 42 #[.agg #[.int .i64 x.1,.int .i64 x.2]] W fun e w' => e=.returned (.bool true)∧Grew W w'):=Lib.hid (fun W => (place_c N x W).mono fun _ _ t => t.to h)
 have d1:=Ry.dir_bd a
 have d2:=Ry.dir_bd (a+n)
 have WF1:Hid (WF (H1 x a)):=Lib.hid (h1_wf (by omega) h)
 have WF2:Hid (WF (H2 x (a+n))):=Lib.hid (h2_wf (by omega) h)
 have WF3:Hid (WF (H3 x a)):=Lib.hid (h3_wf (by omega) h)
 have CG:=Lib.hid (fun (M:Rgn) (p q:Int) (B X:Nat) (u:Value) (W:World) => cut_go N.cut M x p q B X u W h)
 have FIN:Hid (∀ r1 r2 r,CutR L (H1 x a) r1→CutR r1 (H2 x (a+n)) r2→((n ≠ 0∧r=r2)∨(n=0∧CutR r2 (H3 x a) r))→VlR L→WedP L x a n 0 r):=Lib.hid (fun r1 r2 r h1 h2 h3 hL => Or.inr ⟨⟨⟨hL,h⟩,⟨by omega,by omega⟩,by omega,by omega⟩,rfl,r1,r2,h1,h2,h3⟩)
 unfold H1 at WF1 FIN
 unfold H2 at WF2 FIN
 unfold H3 at WF3 FIN
 have n0:(0:Int)≤(n:Int):=by omega
 have n1:(n:Int)≤31:=by omega
 have a0:(0:Int)≤(a:Int):=by omega
 have a1:(a:Int)≤63:=by omega
 generalize Ry.dir a=f at RB d1 WF1 WF3 FIN
 generalize Ry.dir (a+n)=s at RB2 d2 WF2 FIN
 have SR:=Lib.hid hr
 obtain ⟨va,vc,rfl⟩:=hr.shape
 obtain ⟨vn,hvn⟩:∃ k,L.length=k:=⟨_,rfl⟩
 rw [hvn] at SR ⊢
 clear hr N hT ha h hn hvn
 go_enter Tryz.func16,Tryz.ntmps16
 go_wp2_with fail
 refine (RB.out _ ((Grew.refl w).alloc _ _)).mono ?_
 rintro e w1 ⟨rfl,g1⟩
 have X1:=Lib.hid (((Blk.new w #[.int .i64 x.1,.int .i64 x.2] 24).grown g1).alloc (.cells #[.int .i64 f.1,.int .i64 f.2] 24))
 have F1:=Lib.hid (Blk.new w1 #[.int .i64 f.1,.int .i64 f.2] 24)
 have G1:Hid (Grew w (w1.alloc (.cells #[.int .i64 f.1,.int .i64 f.2] 24))):=Lib.hid ((Grew.trans ((Grew.refl w).alloc _ _) g1).alloc _ _)
 obtain ⟨⟨x0,x1⟩,_,_⟩:=X1.out.two
 have lX:=X1.out.lt
 clear g1
 go_wp2_with fail
 refine (PC.out _).mono ?_
 rintro e w2 ⟨rfl,g2⟩
 have X2:=Lib.hid (X1.out.grown g2)
 have F2:=Lib.hid (F1.out.grown g2)
 have G2:=Lib.hid (G1.out.trans g2)
 clear X1 F1 G1 g2 x0 x1 lX
 go_wp2_with fail
 refine (RB2.out _ G2.out).mono ?_
 rintro e w3 ⟨rfl,g3⟩
 have X3:=Lib.hid (X2.out.grown g3)
 have F3:=Lib.hid ((F2.out.grown g3).alloc (.cells #[.int .i64 s.1,.int .i64 s.2] 24))
 have S3:=Lib.hid (Blk.new w3 #[.int .i64 s.1,.int .i64 s.2] 24)
 have G3:=Lib.hid ((G2.out.trans g3).alloc #[.int .i64 s.1,.int .i64 s.2] 24)
 have X3:=Lib.hid (X3.out.alloc (.cells #[.int .i64 s.1,.int .i64 s.2] 24))
 obtain ⟨⟨x0,x1⟩,_,_⟩:=X3.out.two
 have lX:=X3.out.lt
 clear X2 F2 G2 g3 RB RB2 PC
 go_wp2_with fail
 refine (halves_c x _).mono ?_
 rintro e w4 ⟨rfl,e4⟩
 have X4:Hid (Blk w4 (w3.heap.size+1) #[.int .i64 x.1,.int .i64 x.2] 24):=Lib.hid (by
  have h:=Blk.new (w3.alloc (.cells #[.int .i64 s.1,.int .i64 s.2] 24)) #[.int .i64 x.1,.int .i64 x.2] 24
  rw [e4,World.size_alloc] at h
  exact h)
 have g4:Grew (w3.alloc (.cells #[.int .i64 s.1,.int .i64 s.2] 24)) w4:=by rw [← e4];exact (Grew.refl _).alloc _ _
 have F4:=Lib.hid (F3.out.grown g4)
 have S4:=Lib.hid (S3.out.grown g4)
 have G4:=Lib.hid (G3.out.trans g4)
 rw [World.size_alloc]
 obtain ⟨F,hF⟩:∃ F,w1.heap.size=F:=⟨_,rfl⟩
 obtain ⟨S,hS⟩:∃ S,w3.heap.size=S:=⟨_,rfl⟩
 rw [hF] at F4 ⊢
 rw [hS] at S4 X4 ⊢
 clear F3 S3 G3 X3 x0 x1 lX e4 g4 hF hS
 have B5:=Lib.hid (Blk.new w4 #[.slice va vn vc,.int .i64 0,.func (.func 80) #[] #[.pointer (some ⟨S+1,0,none⟩)]] 73)
 have X5:=Lib.hid (X4.out.alloc (.cells #[.slice va vn vc,.int .i64 0,.func (.func 80) #[] #[.pointer (some ⟨S+1,0,none⟩)]] 73))
 have F5:=Lib.hid (F4.out.alloc (.cells #[.slice va vn vc,.int .i64 0,.func (.func 80) #[] #[.pointer (some ⟨S+1,0,none⟩)]] 73))
 have S5:=Lib.hid (S4.out.alloc (.cells #[.slice va vn vc,.int .i64 0,.func (.func 80) #[] #[.pointer (some ⟨S+1,0,none⟩)]] 73))
 have G5:=Lib.hid (G4.out.alloc #[.slice va vn vc,.int .i64 0,.func (.func 80) #[] #[.pointer (some ⟨S+1,0,none⟩)]] 73)
 have lF4:=F4.out.lt
 have lS4:=S4.out.lt
 have zB:w.heap.size≤w4.heap.size:=G4.out.size
 obtain ⟨⟨f0,f1⟩,_,_⟩:=F4.out.two
 obtain ⟨⟨s0,s1⟩,_,_⟩:=S4.out.two
 clear F4 S4 G4 X4
 go_wp2_with fail
 obtain ⟨W5,hW5⟩:∃ W5,(w4.alloc (.cells #[.slice va vn vc,.int .i64 0,.func (.func 80) #[] #[.pointer (some ⟨S+1,0,none⟩)]] 73))=W5:=⟨_,rfl⟩
 have zW:W5.heap.size=w4.heap.size+1:=by rw [← hW5];simp
 rw [hW5] at B5 X5 F5 S5 G5 ⊢
 have R5:=Lib.hid (SR.out.grown G5.out)
 obtain ⟨B,hB⟩:∃ B,w4.heap.size=B:=⟨_,rfl⟩
 rw [hB] at B5 zW zB lF4 lS4 ⊢
 have lX4:S+1 < W5.heap.size:=X5.out.lt
 have nX:S+1 ≠ B:=fun e => by
  have h1:=X5.out
  have h2:=B5.out
  unfold Blk at h1 h2
  rw [e,h2] at h1
  injection h1 with h1
  injection h1 with h1
  injection h1 with h1
  cases h1
 clear hW5 hB SR f0 f1 s0 s1
 refine (CG.out L (-f.2) f.1 B (S+1) (.slice va vn vc) W5 (by omega) d1.1 X5.out B5.out R5.out).mono ?_
 rintro e w5 ⟨rfl,u1,k1,r1,hp,hb,hr,lv⟩
 have G6:=Lib.hid (lv.toGrew G5.out G5.out.size zB)
 have X6:=Lib.hid (lv.blk X5.out lX4 nX)
 have F6:=Lib.hid (lv.blk F5.out (by omega) (by omega))
 have S6:=Lib.hid (lv.blk S5.out (by omega) (by omega))
 have B6:=Lib.hid hb
 have R6:=Lib.hid hr
 have z6:=lv.size
 obtain ⟨⟨s0,s1⟩,_,_⟩:=S6.out.two
 have lS6:=S6.out.lt
 clear lv hb hr B5 X5 F5 S5 G5 R5
 by_cases hL:VlR L
 ·obtain ⟨rfl,c1⟩:=cutp_ok hL WF1.out hp
  have C1:=Lib.hid c1
  have V1:Hid (VlR r1):=Lib.hid (c1.vl hL.2)
  have HL:=Lib.hid hL
  clear hp c1 hL NO OK
  go_wp2_with fail
  refine (CG.out r1 s.2 (-s.1) B (S+1) u1 w5 d2.2 (by omega) X6.out B6.out R6.out).mono ?_
  rintro e w6 ⟨rfl,u2,k2,r2,hp,hb,hr,lv⟩
  have G7:=Lib.hid (lv.toGrew G6.out G6.out.size zB)
  have X7:=Lib.hid (lv.blk X6.out (by omega) nX)
  have F7:=Lib.hid (lv.blk F6.out (by omega) (by omega))
  have B7:=Lib.hid hb
  have R7:=Lib.hid hr
  have z7:=lv.size
  obtain ⟨rfl,c2⟩:=cutp_ok V1.out WF2.out hp
  have C2:=Lib.hid c2
  have V2:Hid (VlR r2):=Lib.hid (c2.vl V1.out.2)
  obtain ⟨⟨f0,f1⟩,_,_⟩:=F7.out.two
  have lF7:=F7.out.lt
  clear lv hb hr hp c2 G6 X6 F6 S6 B6 R6 s0 s1 lS6
  by_cases n00:n=0
  ·subst n00
   go_wp2_with fail
   refine (CG.out r2 f.1 f.2 B (S+1) u2 w6 d1.1 d1.2 X7.out B7.out R7.out).mono ?_
   rintro e w7 ⟨rfl,u3,k3,r3,hp,hb,hr,lv⟩
   have G8:=Lib.hid (lv.toGrew G7.out G7.out.size zB)
   obtain ⟨rfl,c3⟩:=cutp_ok V2.out WF3.out hp
   have C3:=Lib.hid c3
   have R8:=Lib.hid hr
   obtain ⟨ua,uc,rfl⟩:=hr.shape
   unfold vwA at hb
   obtain ⟨⟨b0,b1,_⟩,_⟩:=blk3f hb
   have lB8:=hb.lt
   clear lv hb hr hp c3 f0 f1
   go_wp2_with fail
   go_quiet (fail)
   go_wp2_with fail
   go_ret2
   exact ⟨_,0,r3,FIN.out r1 r2 r3 C1.out C2.out (Or.inr ⟨by first | rfl | trivial,C3.out⟩) HL.out,rfl,R8.out.grown ((Grew.refl _).drewN _),G8.out.trans ((Grew.refl _).drewN _)⟩
  ·have n01:¬ (n:Int)=0:=by omega
   have n02:((n:Int) == 0)=false:=by simpa using n01
   have N0:=Lib.hid n00
   have R8:=Lib.hid R7.out
   obtain ⟨ua,uc,rfl⟩:=R8.out.shape
   have hb:=B7.out
   unfold vwA at hb
   obtain ⟨⟨b0,b1,_⟩,_⟩:=blk3f hb
   have lB8:=hb.lt
   clear hb f0 f1 n00
   go_wp2_with fail
   go_quiet (fail)
   go_wp2_with fail
   go_ret2
   exact ⟨_,0,r2,FIN.out r1 r2 r2 C1.out C2.out (Or.inl ⟨N0.out,rfl⟩) HL.out,rfl,R8.out.grown ((Grew.refl _).drewN _),G7.out.trans ((Grew.refl _).drewN _)⟩
 ·obtain ⟨rfl,rfl⟩:=cutp_bad hL hp
  have NO:=Lib.hid (NO.out hL)
  have SK:=Lib.hid (fun p q => cut_skip p q B (S+1) u1 1 w5 (by decide) B6.out)
  obtain ⟨ua,uc,rfl⟩:=R6.out.shape
  have hb:=B6.out
  unfold vwA at hb
  obtain ⟨⟨b0,b1,_⟩,_⟩:=blk3f hb
  have lB8:=hb.lt
  obtain ⟨⟨f0,f1⟩,_,_⟩:=F6.out.two
  have lF7:=F6.out.lt
  clear hp hL hb
  by_cases n00:n=0
  ·subst n00
   go_wp2_with fail
   refine (SK.out _ _).mono ?_
   rintro e w6 ⟨rfl,rfl⟩
   go_wp2_with fail
   refine (SK.out _ _).mono ?_
   rintro e w7 ⟨rfl,rfl⟩
   go_wp2_with fail
   go_quiet (fail)
   go_wp2_with fail
   go_ret2
   exact ⟨_,1,[],Or.inl ⟨NO.out,rfl,rfl⟩,rfl,R6.out.grown ((Grew.refl _).drewN _),G6.out.trans ((Grew.refl _).drewN _)⟩
  ·have n01:¬ (n:Int)=0:=by omega
   have n02:((n:Int) == 0)=false:=by simpa using n01
   clear n00
   go_wp2_with fail
   refine (SK.out _ _).mono ?_
   rintro e w6 ⟨rfl,rfl⟩
   go_wp2_with fail
   go_quiet (fail)
   go_wp2_with fail
   go_ret2
   exact ⟨_,1,[],Or.inl ⟨NO.out,rfl,rfl⟩,rfl,R6.out.grown ((Grew.refl _).drewN _),G6.out.trans ((Grew.refl _).drewN _)⟩
theorem wedge_c {T:World→Prop} (N:Nd T) (L:Rgn) (x:Pt) (a n:Int) (v:Value) (w:World) (hT:T w) (hr:Rl w v L):Calls Tryz.prog 16 #[v,.agg #[.int .i64 x.1,.int .i64 x.2],.int .i64 a,.int .i64 n] w (AnsR (WedP L x a n) w):=by
 by_cases ha:0≤a∧a < 64
 ·obtain ⟨a,rfl⟩:∃ b:Nat,a=(b:Int):=⟨a.toNat,by omega⟩
  by_cases hn:0≤n∧n≤31
  ·obtain ⟨n,rfl⟩:∃ b:Nat,n=(b:Int):=⟨n.toNat,by omega⟩
   by_cases hx:Plc x
   ·exact wedge_ok N L x a n v w hT hr (by omega) (by omega) hx
   ·exact wedge_bad3 N L x a n v w hT hr (by omega) (by omega) hx
  ·exact wedge_bad2 N L x a n v w hT hr (by omega) hn
 ·exact wedge_bad1 N L x a n v w hr ha
end Rn
end Go.Proofs.YtbpgfenippiepaaGreatDoor
