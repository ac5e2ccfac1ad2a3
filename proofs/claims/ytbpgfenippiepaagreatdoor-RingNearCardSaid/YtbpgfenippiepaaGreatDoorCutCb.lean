/-
  The landed parts, through, frame and its lists; lists of ranges over functions.
  The landed maxFunc, minFunc, eight corners, or, least.
-/
import Derived.Laws.OwnMore
import Derived.Test.YtbpgfenippiepaaGreatDoorHullCa
import Derived.Test.YtbpgfenippiepaaGreatDoorHullLay
import Derived.Test.YtbpgfenippiepaaGreatDoorHullCr
import Derived.Test.YtbpgfenippiepaaGreatDoorHullCd
import Derived.Test.YtbpgfenippiepaaGreatDoorHullBar
import Derived.Test.YtbpgfenippiepaaGreatDoorHullChain
namespace Go.Proofs.YtbpgfenippiepaaGreatDoor
open Go.RowKit
namespace Ct
open Hl
def cmpI (x y:Int):Int:=if x < y then -1 else if y < x then 1 else 0
theorem compare_c (x y:Int) (w:World):Calls Tryz.prog 190 #[.int .i64 x,.int .i64 y] w fun e w' => e=.returned (.int .i64 (cmpI x y))∧w=w':=by
 unfold cmpI
 have NC:∀ n:Int,Hid (∀ w,Calls Tryz.prog 208 #[.int .i64 n] w fun e w' => e=.returned (.bool false)∧w=w'):=fun n => Lib.hid (fun w => by
  go_enter Tryz.func208,Tryz.ntmps208
  go_wp2_with fail
  go_ret
  exact ⟨by simp,rfl⟩)
 have NX:=NC x
 have NY:=NC y
 clear NC
 by_cases h:x < y
 ·rw [if_pos h]
  go_enter Tryz.func190,Tryz.ntmps190
  go_wp2_with fail
  refine (NX.out _).mono ?_
  rintro e w1 ⟨rfl,rfl⟩
  go_wp2_with fail
  refine (NY.out _).mono ?_
  rintro e w1 ⟨rfl,rfl⟩
  go_wp2_with fail
  go_ret
  exact ⟨rfl,rfl⟩
 ·rw [if_neg h]
  by_cases h2:y < x
  ·rw [if_pos h2]
   go_enter Tryz.func190,Tryz.ntmps190
   go_wp2_with fail
   refine (NX.out _).mono ?_
   rintro e w1 ⟨rfl,rfl⟩
   go_wp2_with fail
   refine (NY.out _).mono ?_
   rintro e w1 ⟨rfl,rfl⟩
   go_wp2_with fail
   go_ret
   exact ⟨rfl,rfl⟩
  ·rw [if_neg h2]
   go_enter Tryz.func190,Tryz.ntmps190
   go_wp2_with fail
   refine (NX.out _).mono ?_
   rintro e w1 ⟨rfl,rfl⟩
   go_wp2_with fail
   refine (NY.out _).mono ?_
   rintro e w1 ⟨rfl,rfl⟩
   go_wp2_with fail
   go_ret
   exact ⟨rfl,rfl⟩
theorem cmp_parts (s t:Int):(-1≤cmpI s 0 * cmpI t 0∧cmpI s 0 * cmpI t 0≤1)∧decide (cmpI s 0 * cmpI t 0 < 0)=decide (Df s t):=by
 have key:∀ s:Int,(s < 0∧cmpI s 0 = -1)∨(s=0∧cmpI s 0=0)∨(0 < s∧cmpI s 0=1):=by
  intro s
  unfold cmpI
  by_cases h:s < 0
  ·exact Or.inl ⟨h,if_pos h⟩
  ·rw [if_neg h]
   by_cases h2:0 < s
   ·exact Or.inr (Or.inr ⟨h2,if_pos h2⟩)
   ·exact Or.inr (Or.inl ⟨by omega,if_neg h2⟩)
 rcases key s with ⟨h1,e1⟩ | ⟨h1,e1⟩ | ⟨h1,e1⟩ <;> rcases key t with ⟨h2,e2⟩ | ⟨h2,e2⟩ | ⟨h2,e2⟩ <;> (rw [e1,e2];refine ⟨by decide,?_⟩;rw [Bool.eq_iff_iff,decide_eq_true_eq,decide_eq_true_eq];unfold Df;omega)
set_option maxRecDepth 100000 in
set_option maxHeartbeats 4000000 in
theorem parts_c (h:Hf) (a b:Pt) (w:World) (hh:EB h) (ha:Plc a) (hb:Plc b):Calls Tryz.prog 157 #[.agg #[.int .i64 h.1,.int .i64 h.2.1,.int .i64 h.2.2],.agg #[.int .i64 a.1,.int .i64 a.2],.agg #[.int .i64 b.1,.int .i64 b.2]] w fun e w' => e=.returned (.bool (decide (Df (ov h a) (ov h b))))∧Grew w w':=by
 obtain ⟨⟨m0,m1⟩,md⟩:=cmp_parts (ov h a) (ov h b)
 rw [← md]
 have BX:Hid (∀ x W,Plc x→Calls Tryz.prog 164 #[.agg #[.int .i64 h.1,.int .i64 h.2.1,.int .i64 h.2.2],.agg #[.int .i64 x.1,.int .i64 x.2]] W fun e w' => e=.returned (.int .i64 (ov h x))∧(W.alloc (.cells #[.int .i64 h.1,.int .i64 h.2.1,.int .i64 h.2.2] 172)).alloc (.cells #[.int .i64 x.1,.int .i64 x.2] 24)=w'):=Lib.hid (fun x W hx => beyond_c h x W hh hx)
 have CX:=Lib.hid compare_c
 have HA:=Lib.hid ha
 have HB:=Lib.hid hb
 have W64:IntKind.i64.wrap (cmpI (ov h a) 0 * cmpI (ov h b) 0)=cmpI (ov h a) 0 * cmpI (ov h b) 0:=IntWalk.i64_in _ ⟨by omega,by omega⟩
 clear md hh ha hb
 go_enter Tryz.func157,Tryz.ntmps157
 go_wp2_with fail
 go_region_held3 (fun w' => ((w'.cell? ⟨w.heap.size,0,none⟩=some (.int .i64 h.1)∧w'.cell? ⟨w.heap.size,1,none⟩=some (.int .i64 h.2.1)∧w'.cell? ⟨w.heap.size,2,none⟩=some (.int .i64 h.2.2))∧(w'.cell? ⟨w.heap.size+1,0,none⟩=some (.int .i64 a.1)∧w'.cell? ⟨w.heap.size+1,1,none⟩=some (.int .i64 a.2))∧(w'.cell? ⟨w.heap.size+1+1,0,none⟩=some (.int .i64 b.1)∧w'.cell? ⟨w.heap.size+1+1,1,none⟩=some (.int .i64 b.2)))) (simp [go_sem, *])
  (first | (go_at_call 164;refine (BX.out _ _ (by first | exact HA.out | exact HB.out)).mono ?_;rintro e w' ⟨rfl,rfl⟩) | (go_at_call 190;refine (CX.out _ _ _).mono ?_;rintro e w' ⟨rfl,rfl⟩))
 go_wp2_with fail
 go_ret
 exact ⟨by simp,Hl.gw⟩
def thr (a b:Pt):Hf:=(b.2 - a.2,a.1 - b.1,(b.2 - a.2) * a.1+(a.1 - b.1) * a.2)
theorem ov_thr (a b x:Pt):ov (thr a b) x = -cr a b x:=by unfold ov thr cr;grind
theorem thr_bd {a b:Pt} (ha:Plc a) (hb:Plc b):EB (thr a b)∧(-500000000000≤(b.2 - a.2) * a.1∧(b.2 - a.2) * a.1≤500000000000)∧-500000000000≤(a.1 - b.1) * a.2∧(a.1 - b.1) * a.2≤500000000000:=by
 obtain ⟨⟨a0,a1⟩,a2,a3⟩:=ha
 obtain ⟨⟨b0,b1⟩,b2,b3⟩:=hb
 have m1:=mul_bd (x:=b.2 - a.2) (y:=a.1) (a:=1000000) (b:=500000) (by omega) (by omega)
 have m2:=mul_bd (x:=a.1 - b.1) (y:=a.2) (a:=1000000) (b:=500000) (by omega) (by omega)
 unfold EB thr
 simp only
 omega
theorem through_c (a b:Pt) (w:World) (ha:Plc a) (hb:Plc b):Calls Tryz.prog 155 #[.agg #[.int .i64 a.1,.int .i64 a.2],.agg #[.int .i64 b.1,.int .i64 b.2]] w fun e w' => e=.returned (.agg #[.int .i64 (thr a b).1,.int .i64 (thr a b).2.1,.int .i64 (thr a b).2.2])∧Grew w w':=by
 obtain ⟨-,⟨m0,m1⟩,m2,m3⟩:=thr_bd ha hb
 obtain ⟨⟨a0,a1⟩,a2,a3⟩:=ha
 obtain ⟨⟨b0,b1⟩,b2,b3⟩:=hb
 unfold thr
 rcases a with ⟨p,q⟩
 rcases b with ⟨u,v⟩
 simp only at *
 go_enter Tryz.func155,Tryz.ntmps155
 go_wp2_with fail
 refine bodyPost_ret (v:=.agg #[.int .i64 (v - q),.int .i64 (p - u),.int .i64 ((v - q) * p+(p - u) * q)]) (by simp [results,Tryz.results155,go_sem, *]) rfl ⟨rfl,Hl.gw⟩
theorem own_four {B:Nat} (w:World) (p q r s:Pt) (hB:B≤w.heap.size):Hl.Own B (w.alloc (.cells #[.int .i64 p.1,.int .i64 p.2,.int .i64 q.1,.int .i64 q.2,.int .i64 r.1,.int .i64 r.2,.int .i64 s.1,.int .i64 s.2] 24)) (.slice (some ⟨w.heap.size,0,none⟩) 4 4) [p,q,r,s] :=
 ⟨rfl,Or.inr ⟨w.heap.size,4,#[.int .i64 p.1,.int .i64 p.2,.int .i64 q.1,.int .i64 q.2,.int .i64 r.1,.int .i64 r.2,.int .i64 s.1,.int .i64 s.2],rfl,hB,heap_alloc_new w _,Nat.le_refl _,by unfold maxLen;omega,rfl,rfl⟩⟩
def FrSays (a b:Pt) (s t:Int) (w:World) (e:Ending) (w':World):Prop:=∃ v l,e=.returned v∧Hl.Own w.heap.size w' v l∧(∀ y,y ∈ l↔Fr a b s t y)∧(l.length≤if decide (Df s t)=true then 4 else 0)∧Grew w w'
set_option maxRecDepth 100000 in
set_option maxHeartbeats 4000000 in
theorem frame_c (h:Hf) (a b:Pt) (w:World) (hh:EB h) (ha:Plc a) (hb:Plc b):Calls Tryz.prog 158 #[.agg #[.int .i64 h.1,.int .i64 h.2.1,.int .i64 h.2.2],.agg #[.int .i64 a.1,.int .i64 a.2],.agg #[.int .i64 b.1,.int .i64 b.2]] w (FrSays a b (ov h a) (ov h b) w):=by
 have PC:=Lib.hid (fun W => parts_c h a b W hh ha hb)
 have bdA:=(ov_bd hh ha).2.2
 have bdB:=(ov_bd hh hb).2.2
 have BA:Hid (∀ W,Calls Tryz.prog 164 #[.agg #[.int .i64 h.1,.int .i64 h.2.1,.int .i64 h.2.2],.agg #[.int .i64 a.1,.int .i64 a.2]] W fun e w' => e=.returned (.int .i64 (ov h a))∧Grew W w'):=Lib.hid (fun W => (beyond_c h a W hh ha).mono (by
  rintro e w' ⟨rfl,rfl⟩
  exact ⟨rfl,((Grew.refl _).alloc _ _).alloc _ _⟩))
 have BB:Hid (∀ W,Calls Tryz.prog 164 #[.agg #[.int .i64 h.1,.int .i64 h.2.1,.int .i64 h.2.2],.agg #[.int .i64 b.1,.int .i64 b.2]] W fun e w' => e=.returned (.int .i64 (ov h b))∧Grew W w'):=Lib.hid (fun W => (beyond_c h b W hh hb).mono (by
  rintro e w' ⟨rfl,rfl⟩
  exact ⟨rfl,((Grew.refl _).alloc _ _).alloc _ _⟩))
 generalize ov h a=s at *
 generalize ov h b=t at *
 clear hh
 by_cases hd:Df s t
 ·rw [decide_eq_true hd] at PC
  obtain ⟨m,n,hw⟩:=df_wt hd
  have HW:=Lib.hid hw
  obtain ⟨⟨a0,a1⟩,a2,a3⟩:=ha
  obtain ⟨⟨b0,b1⟩,b2,b3⟩:=hb
  have m1:=mul_bd (x:=b.1 - a.1) (y:=s) (a:=1000000) (b:=2000000000000) (by omega) (by omega)
  have m2:=mul_bd (x:=b.2 - a.2) (y:=s) (a:=1000000) (b:=2000000000000) (by omega) (by omega)
  obtain ⟨e1,e2⟩:=fl_fr (a:=a.1) (b:=b.1) hw
  obtain ⟨e3,e4⟩:=fl_fr (a:=a.2) (b:=b.2) hw
  have nz:s - t ≠ 0:=by unfold Df at hd;omega
  have k1:=wr_bounds (lo:=-500000) (hi:=500000) hw.1 hw.2.1 (a:=a.1) (b:=b.1) ⟨a0,a1⟩ ⟨b0,b1⟩ ((near_iff (W:=m+n) (by have:=hw.1;have:=hw.2.1;omega) (m * a.1+n * b.1) _).2 (Or.inl rfl))
  have k2:=wr_bounds (lo:=-500000) (hi:=500000) hw.1 hw.2.1 (a:=a.1) (b:=b.1) ⟨a0,a1⟩ ⟨b0,b1⟩ ((near_iff (W:=m+n) (by have:=hw.1;have:=hw.2.1;omega) (m * a.1+n * b.1) _).2 (Or.inr rfl))
  have k3:=wr_bounds (lo:=-500000) (hi:=500000) hw.1 hw.2.1 (a:=a.2) (b:=b.2) ⟨a2,a3⟩ ⟨b2,b3⟩ ((near_iff (W:=m+n) (by have:=hw.1;have:=hw.2.1;omega) (m * a.2+n * b.2) _).2 (Or.inl rfl))
  have k4:=wr_bounds (lo:=-500000) (hi:=500000) hw.1 hw.2.1 (a:=a.2) (b:=b.2) ⟨a2,a3⟩ ⟨b2,b3⟩ ((near_iff (W:=m+n) (by have:=hw.1;have:=hw.2.1;omega) (m * a.2+n * b.2) _).2 (Or.inr rfl))
  rw [← e1] at k1
  rw [← e2] at k2
  rw [← e3] at k3
  rw [← e4] at k4
  have mem:Hid (∀ y,y ∈ [((a.1+Ex.fl ((b.1 - a.1) * s) (s - t),a.2+Ex.fl ((b.2 - a.2) * s) (s - t)):Pt),(a.1+Ex.fl ((b.1 - a.1) * s) (s - t),a.2+Ex.ce ((b.2 - a.2) * s) (s - t)),(a.1+Ex.ce ((b.1 - a.1) * s) (s - t),a.2+Ex.fl ((b.2 - a.2) * s) (s - t)),(a.1+Ex.ce ((b.1 - a.1) * s) (s - t),a.2+Ex.ce ((b.2 - a.2) * s) (s - t))]↔Fr a b s t y):=Lib.hid (fun y => by
   rw [e1,e2,e3,e4]
   have uniq:Fr a b s t y↔Wr m n a b y:=by
    constructor
    ·rintro ⟨m',n',hw',g⟩
     obtain ⟨rfl,rfl⟩:m'=m∧n'=n:=by unfold Wt at hw hw';omega
     exact g
    ·exact fun g => ⟨m,n,hw,g⟩
   rw [uniq,← mem_frL hw.1 hw.2.1]
   unfold frL
   simp only [List.mem_cons,List.not_mem_nil,or_false]
   constructor
   ·rintro (g | g | g | g) <;> simp [g]
   ·rintro (g | g | g | g) <;> simp [g])
  have AX:Hid (∀ W,Calls Tryz.prog 191 #[.int .i64 ((b.1 - a.1) * s),.int .i64 (s - t)] W fun e w' => e=.returned (.tuple #[.int .i64 (Ex.fl ((b.1 - a.1) * s) (s - t)),.int .i64 (Ex.ce ((b.1 - a.1) * s) (s - t))])∧W=w'):=Lib.hid (fun W => around_c _ _ W nz (by omega))
  have AY:Hid (∀ W,Calls Tryz.prog 191 #[.int .i64 ((b.2 - a.2) * s),.int .i64 (s - t)] W fun e w' => e=.returned (.tuple #[.int .i64 (Ex.fl ((b.2 - a.2) * s) (s - t)),.int .i64 (Ex.ce ((b.2 - a.2) * s) (s - t))])∧W=w'):=Lib.hid (fun W => around_c _ _ W nz (by omega))
  clear e1 e2 e3 e4 hw nz
  have HD:=Lib.hid hd
  clear hd HW
  generalize Ex.fl ((b.1 - a.1) * s) (s - t)=x0 at *
  generalize Ex.ce ((b.1 - a.1) * s) (s - t)=x1 at *
  generalize Ex.fl ((b.2 - a.2) * s) (s - t)=y0 at *
  generalize Ex.ce ((b.2 - a.2) * s) (s - t)=y1 at *
  go_enter Tryz.func158,Tryz.ntmps158
  go_wp2_with fail
  refine (PC.out _).mono ?_
  rintro e w1 ⟨rfl,g1⟩
  obtain ⟨c1,f1,z1⟩:=laid g1
  try simp at z1
  have G1:Grew w w1:=Grew.trans Hl.gw g1
  clear g1
  have l1:w.heap.size < w1.heap.size:=by omega
  have l2:w.heap.size+1 < w1.heap.size:=by omega
  have l3:w.heap.size+1+1 < w1.heap.size:=by omega
  have q0:w1.cell? ⟨w.heap.size,0,none⟩=some (.int .i64 h.1):=by simp [go_sem, *]
  have q1:w1.cell? ⟨w.heap.size,1,none⟩=some (.int .i64 h.2.1):=by simp [go_sem, *]
  have q2:w1.cell? ⟨w.heap.size,2,none⟩=some (.int .i64 h.2.2):=by simp [go_sem, *]
  have q3:w1.cell? ⟨w.heap.size+1,0,none⟩=some (.int .i64 a.1):=by simp [go_sem, *]
  have q4:w1.cell? ⟨w.heap.size+1,1,none⟩=some (.int .i64 a.2):=by simp [go_sem, *]
  have q5:w1.cell? ⟨w.heap.size+1+1,0,none⟩=some (.int .i64 b.1):=by simp [go_sem, *]
  have q6:w1.cell? ⟨w.heap.size+1+1,1,none⟩=some (.int .i64 b.2):=by simp [go_sem, *]
  clear c1 f1 z1
  go_wp2_with fail
  refine (BA.out _).mono ?_
  rintro e w2 ⟨rfl,g2⟩
  obtain ⟨c2,f2,z2⟩:=laid g2
  try simp at z2
  have G2:Grew w w2:=Grew.trans G1 g2
  clear g2
  have l4:w.heap.size < w2.heap.size:=by omega
  have l5:w.heap.size+1 < w2.heap.size:=by omega
  have l6:w.heap.size+1+1 < w2.heap.size:=by omega
  have r0:w2.cell? ⟨w.heap.size,0,none⟩=some (.int .i64 h.1):=by simp [go_sem, *]
  have r1:w2.cell? ⟨w.heap.size,1,none⟩=some (.int .i64 h.2.1):=by simp [go_sem, *]
  have r2:w2.cell? ⟨w.heap.size,2,none⟩=some (.int .i64 h.2.2):=by simp [go_sem, *]
  have r3:w2.cell? ⟨w.heap.size+1,0,none⟩=some (.int .i64 a.1):=by simp [go_sem, *]
  have r4:w2.cell? ⟨w.heap.size+1,1,none⟩=some (.int .i64 a.2):=by simp [go_sem, *]
  have r5:w2.cell? ⟨w.heap.size+1+1,0,none⟩=some (.int .i64 b.1):=by simp [go_sem, *]
  have r6:w2.cell? ⟨w.heap.size+1+1,1,none⟩=some (.int .i64 b.2):=by simp [go_sem, *]
  clear c2 f2 z2 q0 q1 q2 q3 q4 q5 q6 G1
  go_wp2_with fail
  refine (BB.out _).mono ?_
  rintro e w3 ⟨rfl,g3⟩
  obtain ⟨c3,f3,z3⟩:=laid g3
  try simp at z3
  have G3:Grew w w3:=Grew.trans G2 g3
  clear g3
  have l7:w.heap.size < w3.heap.size:=by omega
  have l8:w.heap.size+1 < w3.heap.size:=by omega
  have l9:w.heap.size+1+1 < w3.heap.size:=by omega
  have q3:w3.cell? ⟨w.heap.size+1,0,none⟩=some (.int .i64 a.1):=by simp [go_sem, *]
  have q4:w3.cell? ⟨w.heap.size+1,1,none⟩=some (.int .i64 a.2):=by simp [go_sem, *]
  have q5:w3.cell? ⟨w.heap.size+1+1,0,none⟩=some (.int .i64 b.1):=by simp [go_sem, *]
  have q6:w3.cell? ⟨w.heap.size+1+1,1,none⟩=some (.int .i64 b.2):=by simp [go_sem, *]
  clear c3 f3 z3 r0 r1 r2 r3 r4 r5 r6 G2
  go_wp2_with fail
  refine (AX.out _).mono ?_
  rintro e w' ⟨rfl,rfl⟩
  go_wp2_with fail
  refine (AY.out _).mono ?_
  rintro e w' ⟨rfl,rfl⟩
  go_wp2_with fail
  go_ret
  exact ⟨_,_,rfl,own_four w3 (a.1+x0,a.2+y0) (a.1+x0,a.2+y1) (a.1+x1,a.2+y0) (a.1+x1,a.2+y1) (by omega),mem.out,by rw [if_pos (decide_eq_true HD.out)];exact Nat.le_refl _,G3.alloc _ _⟩
 ·rw [decide_eq_false hd] at PC
  have mem:Hid (∀ y:Pt,y ∈ ([]:List Pt)↔Fr a b s t y):=Lib.hid (fun y => ⟨fun g => (by cases g),fun g => absurd g.df hd⟩)
  have nd:=decide_eq_false hd
  clear hd ha hb
  go_enter Tryz.func158,Tryz.ntmps158
  go_wp2_with fail
  refine (PC.out _).mono ?_
  rintro e w1 ⟨rfl,g1⟩
  have G1:Grew w w1:=Grew.trans Hl.gw g1
  clear g1
  go_wp2_with fail
  go_ret
  exact ⟨_,[],rfl,Own.nil _ _,mem.out,Nat.zero_le _,G1⟩
end Ct
end Go.Proofs.YtbpgfenippiepaaGreatDoor
namespace Go.Proofs.YtbpgfenippiepaaGreatDoor
open Go.RowKit Go.Shelf Hl
attribute [local go_sem] Oper.semAt_some
namespace Ct
set_option maxHeartbeats 1000000 in
theorem csides_in (n:Nat) (a:Option Addr) (len cap:Nat) (w:World) :
  CallsIn Fence.wide n Tryz.prog 189 #[.slice a len cap] w fun e w' => e=.returned (.func (.func 207) #[] #[.pointer (some ⟨w.heap.size,0,none⟩)])∧w'=w.alloc (.cells #[.slice a len cap] 48):=by
 refine callsIn_of_wp Tryz.func189 rfl trivial ?_ rfl
 simp only [Tryz.ntmps189,List.size_toArray,List.length_cons,List.length_nil,Nat.reduceAdd,Nat.reduceSub,Array.replicate_succ,Array.replicate_zero,List.push_toArray,List.append_toArray,List.nil_append,List.cons_append]
 gi_wp2
 go_ret
 exact ⟨rfl,rfl⟩
set_option maxRecDepth 100000 in
set_option maxHeartbeats 4000000 in
theorem csides1_in (n:Nat) (hn:1≤n) (l B b o c:Nat) (p:List Pt) (h1:1≤p.length) (h2:p.length≤4000000) (J Jx:List Nat→World→Prop)
  (W:World) (hJ:AbidesFrom W.heap.size J) (_hJx:AbidesFrom W.heap.size Jx)
  (hY:∀ pre i W1,J pre W1→pre.length < p.length→YieldAt Fence.wide (n - 1) Tryz.prog l (ends p i) W1 fun e W' =>
   (e=.returned (.bool true)∧J (pre ++ [i]) W'∧Kept b B W1 W')∨(e=.returned (.bool false)∧Jx (pre ++ [i]) W'))
  (hB:B < W.heap.size) (hBs:W.cell? ⟨B,0,none⟩=some (.slice (some ⟨b,o,none⟩) p.length c)) (hr:Row W b o p) (h0:J [] W) :
  CallsIn Fence.wide n Tryz.prog 207 #[.func (.yield l) #[] #[],.pointer (some ⟨B,0,none⟩)] W fun e W' => (∃ v,e=.returned v) ∧
   ((∃ ys,ys=List.range p.length∧J ys W')∨(∃ pre,(∃ k,k≤p.length∧pre=List.range k)∧Jx pre W')):=by
 have HY:=Lib.hid hY
 have HJ:=Lib.hid hJ
 have HR:=Lib.hid hr
 have HB:=Lib.hid hBs
 clear hY hJ hr _hJx
 have hmx:Tryz.prog.follows .mixedOrders=true:=by kernel_rfl
 refine callsIn_of_wp Tryz.func207 rfl trivial ?_ rfl
 simp only [Tryz.ntmps207,List.size_toArray,List.length_cons,List.length_nil,Nat.reduceAdd,Nat.reduceSub,Array.replicate_succ,Array.replicate_zero,List.push_toArray,List.append_toArray,List.nil_append,List.cons_append]
 gi_wp2
 gi_loopw [7,3] (fun i _ wr => ∃ k:Nat,k≤p.length∧i=.int .i64 k∧J (List.range k) wr∧Kept b B W wr)
  (fun i _ _ => p.length - (intOf i).toNat)
 case atStart => exact ⟨0,Nat.zero_le _,rfl,h0,Kept.refl _ _ _⟩
 case round =>
  obtain ⟨k,hk,rfl,hJs,hK⟩:=hrel
  by_cases hlt:k < p.length
  ·obtain ⟨m,hm⟩:∃ m,(k+1) % p.length=m:=⟨_,rfl⟩
   have hmm:m < p.length:=by rw [← hm];exact Nat.mod_lt _ (by omega)
   have TM':((k:Int)+1).tmod (p.length:Int)=(m:Int):=by
    rw [← hm,Int.natCast_emod,Int.natCast_add]
    exact Int.tmod_eq_emod_of_nonneg (by omega)
   have WK':IntKind.i64.wrap ((k:Int)+1)=(k:Int)+1:=IntWalk.i64_in _ ⟨by omega,by omega⟩
   have TM2:((k:Int)+1) % (p.length:Int)=(m:Int):=by rw [← TM'];exact (Int.tmod_eq_emod_of_nonneg (by omega)).symm
   have nz:(p.length:Int) ≠ 0:=by omega
   have nz2:((p.length:Int) == 0)=false:=by rw [beq_eq_false_iff_ne];omega
   have nz3:¬ p.length=0:=by omega
   have k0:(0:Int)≤(k:Int)+1:=by omega
   obtain ⟨s0,s1⟩:=(HR.out.kept hK).2 k hlt
   obtain ⟨s2,s3⟩:=(HR.out.kept hK).2 m hmm
   have hb:=(HR.out.kept hK).1
   have cB:=(hK.cell (o:=0) (Or.inr rfl)).trans HB.out
   have lB:B < wr.heap.size:=by have:=hK.1;omega
   have i0:(0:Int)≤(k:Int):=by omega
   have i1:(k:Int) < (p.length:Int):=by omega
   have i2:(m:Int) < (p.length:Int):=by omega
   have hb1:b < wr.heap.size+1:=by omega
   have lB1:B < wr.heap.size+1:=by omega
   have KW:Hid (Kept b B W (wr.alloc (.cells #[.int .i64 (at' p k).1,.int .i64 (at' p k).2] 24)).drew):=Lib.hid ((hK.grown (World.grownBy_alloc wr _ none) hb lB (by simp)).grown (grownBy_drew _) (by simp;omega) (by simp;omega) (by simp))
   have hJ1:J (List.range k) (wr.alloc (.cells #[.int .i64 (at' p k).1,.int .i64 (at' p k).2] 24)).drew:=abides_drew HJ.out (abides_alloc HJ.out hJs _)
   obtain ⟨fn,tmps,assign,body,hy,hR⟩:=HY.out _ k _ hJ1 (by simpa using hlt)
   have hR':=hR.mono (R':=fun e W' => ∃ r:Bool,e=.returned (.bool r)∧Hid ((r=true→J (List.range (k+1)) W'∧Kept b B W W')∧(r=false→Jx (List.range (k+1)) W'))) (by
    rintro e W' (⟨rfl,h1,h2⟩ | ⟨rfl,h1⟩)
    ·exact ⟨true,rfl,Lib.hid ⟨fun _ => ⟨by rw [List.range_succ];exact h1,KW.out.trans h2⟩,fun h => by cases h⟩⟩
    ·exact ⟨false,rfl,Lib.hid ⟨fun h => (by cases h),fun _ => (by rw [List.range_succ];exact h1)⟩⟩)
   clear hR hJ1 hJs hK KW
   unfold ends at hy
   rw [hm] at hy
   clear hm
   gi_wp2
   gi_region_with_o (refine hR'.mono ?_;rintro e W3 ⟨r,rfl,hjr⟩)
   all_goals gi_wp2
   all_goals first
    | (refine bodyPost_ret (results_none rfl _ _ _) rfl ?_
       have hr0:(!r)=true:=by assumption
       exact ⟨⟨_,rfl⟩,.inr ⟨_,⟨k+1,by omega,rfl⟩,hjr.out.2 (by simpa using hr0)⟩⟩)
    | (have hr0:(!r)=false:=by assumption
       go_roundw
       case rel => exact ⟨k+1,by omega,by simp,(hjr.out.1 (by simpa using hr0)).1,(hjr.out.1 (by simpa using hr0)).2⟩
       case measure => simp [intOf];omega)
  ·obtain rfl:k=p.length:=by omega
   gi_wp2
   go_end0
   exact ⟨⟨_,rfl⟩,.inl ⟨_,rfl,hJs⟩⟩
theorem csides_stops (n:Nat) (hn:1≤n) (B b o c:Nat) (p:List Pt) (h1:1≤p.length) (h2:p.length≤4000000) (w:World) (hB:B < w.heap.size)
  (hc:w.cell? ⟨B,0,none⟩=some (.slice (some ⟨b,o,none⟩) p.length c)) (hr:Row w b o p) :
  SeqStopsK Fence.wide n Tryz.prog 207 #[.pointer (some ⟨B,0,none⟩)] (ends p) (Kept b B) (fun ys => ys=List.range p.length) (fun pre => ∃ k,k≤p.length∧pre=List.range k) p.length w :=
 fun l J Jx W hW hJ hJx hY h0 => csides1_in n hn l B b o c p h1 h2 J Jx W hJ hJx hY (Nat.lt_of_lt_of_le hB hW.size) ((hW.cell (p:=⟨B,0,none⟩) hB).trans hc) (hr.grown hW) h0
theorem own_mono {B B':Nat} {w:World} {v:Value} {p:List Pt} (h:Hl.Own B w v p) (hb:B'≤B):Hl.Own B' w v p:=by
 obtain ⟨h1,h2 | ⟨g,cap,cur,e,hB,r⟩⟩:=h
 ·exact ⟨h1,Or.inl h2⟩
 ·exact ⟨h1,Or.inr ⟨g,cap,cur,e,Nat.le_trans hb hB,r⟩⟩
theorem own_cells {B:Nat} {w:World} {v:Value} {p:List Pt} (h:Hl.Own B w v p) (j:Nat) (o:Obj) (e:v.ownBlock=some j) (ho:w.heap[j]? = some o):o.isCells=true:=by
 obtain ⟨_,⟨rfl,_⟩ | ⟨g,cap,cur,rfl,_,hg,_⟩⟩:=h
 ·cases e
 ·cases e
  rw [hg] at ho
  cases ho
  rfl
theorem keeps_grew {A B:World} (g:Grew A B):KeepsOthers A B:=⟨g.size,fun k _o hk _ => (g.block k (Array.getElem?_eq_some_iff.1 hk).1).trans hk⟩
theorem wp_append_oo {o:Oper} {a:Act} {K:Act→World→Prop} {Q:Exit→Act→World→Prop} (w:World) (s x:Operand) (T:TypeId) (hT:Tryz.prog.underlying T=some (.slice 24))
  (ho:o.op=.call { callee:=.builtin .append,args:=#[s,x],argTypes:=#[T,T] }) (B B':Nat) (v u:Value) (p q:List Pt)
  (hs:a.eval s=v) (hown:Hl.Own B w v p) (hx:a.eval x=u) (hu:Hl.Own B' w u q) (hl:p.length+q.length≤4000000) (hB:B≤w.heap.size)
  (h:∀ v' w',Hl.Own B w' v' (p ++ q)→w.grownBy w' v.ownBlock→K (a.put o.dst v') w'):o.wp Tryz.prog a w K Q:=by
 obtain ⟨i0,hi,hz0,hz1,hz2⟩:=info_parts info_pt
 have hu':=hu
 obtain ⟨hlen,⟨rfl,hq0⟩ | ⟨g,cap,cur,rfl,_,hg,_⟩⟩:=hu
 ·obtain rfl:q=[]:=List.length_eq_zero_iff.1 hq0
  have hrun:=run_append_owned_none (P:=Tryz.prog) (w:=w) B T o.type 24 i0 2 hT hi v p.length (cellsOf p) hown
  unfold Oper.wp
  simp [execOp,ho,resolve,invoke,builtin,hs,hx,hrun,Result.andThen]
  exact h _ _ (by rw [List.append_nil];exact hown) (grownBy_refl w _)
 ·have hr:Row w g 0 q:=by
   rcases hu'.sl with ⟨rfl,a,c,e⟩ | ⟨b,o,c,e,hr⟩
   ·exact ⟨(Array.getElem?_eq_some_iff.1 hg).1,fun i hi => absurd hi (by simp)⟩
   ·cases e;exact hr
  refine wp_append_own w s x T ho B 24 i0 (.agg #[.int .i64 0,.int .i64 0]) 2 16 hT hi hz0 hz1 hz2 rfl (by decide) v p.length (cellsOf p) hs hown ⟨g,0,none⟩ q.length cap (cellsOf q) hx (cellsOf_len q) (row_cells hr) (cells_one q) (by unfold maxLen;omega) (by omega) hB ?_
  intro v' w' h1 h2 _
  refine h v' w' ?_ h2
  unfold Hl.Own
  rw [cellsOf_append,List.length_append]
  exact h1
def Gath (T:Nat→List Pt→Prop) (pre:List Nat) (l:List Pt):Prop:=∃ M:List (Nat × List Pt),M.map (fun m => m.1)=pre∧(∀ m,m ∈ M→T m.1 m.2)∧l=M.flatMap (fun m => m.2)
theorem Gath.nil (T:Nat→List Pt→Prop):Gath T [] []:=⟨[],rfl,fun i h => (by cases h),rfl⟩
theorem Gath.snoc {T:Nat→List Pt→Prop} {pre:List Nat} {k:Nat} {l m:List Pt} (h:Gath T pre l) (hm:T k m):Gath T (pre ++ [k]) (l ++ m):=by
 obtain ⟨M,h1,h2,rfl⟩:=h
 refine ⟨M ++ [(k,m)],by rw [List.map_append,h1];rfl,fun x hx => ?_,by rw [List.flatMap_append];simp⟩
 rcases List.mem_append.1 hx with g | g
 ·exact h2 x g
 ·obtain rfl:x=(k,m):=by simpa using g
  exact hm
theorem Gath.mem {T:Nat→List Pt→Prop} {F:Nat→Pt→Prop} (hT:∀ i l,T i l→∀ y,y ∈ l↔F i y) {pre:List Nat} {l:List Pt} (h:Gath T pre l) (y:Pt):y ∈ l↔∃ i,i ∈ pre∧F i y:=by
 obtain ⟨M,rfl,h2,rfl⟩:=h
 rw [List.mem_flatMap]
 constructor
 ·rintro ⟨m,hm,hy⟩
  exact ⟨m.1,List.mem_map.2 ⟨m,hm,rfl⟩,(hT _ _ (h2 m hm) y).1 hy⟩
 ·rintro ⟨i,hi,hy⟩
  obtain ⟨m,hm,rfl⟩:=List.mem_map.1 hi
  exact ⟨m,hm,(hT _ _ (h2 m hm) y).2 hy⟩
theorem Gath.len {T:Nat→List Pt→Prop} {P:Nat→Bool} {c:Nat} (hT:∀ i l,T i l→l.length≤c+if P i=true then 4 else 0) {pre:List Nat} {l:List Pt} (h:Gath T pre l):l.length≤c * pre.length+4 * (pre.filter P).length:=by
 obtain ⟨M,rfl,h2,rfl⟩:=h
 induction M with
 | nil => exact Nat.zero_le _
 | cons m M ih =>
   have ih:=ih (fun j hj => h2 j (List.mem_cons_of_mem _ hj))
   have hm:=hT _ _ (h2 m (by simp))
   rw [List.flatMap_cons,List.length_append,List.map_cons,List.length_cons]
   by_cases z:P m.1=true
   ·rw [List.filter_cons_of_pos z,List.length_cons]
    rw [if_pos z] at hm
    grind
   ·rw [List.filter_cons_of_neg z]
    rw [if_neg z] at hm
    grind
def KeepSays (T:Nat→List Pt→Prop) (n:Nat) (w:World) (e:Ending) (w':World):Prop:=∃ v l,e=.returned v∧Gath T (List.range n) l∧Hl.Own w.heap.size w' v l∧Grew w w'
def SideSays (T:List Pt→Prop) (w:World) (e:Ending) (w':World):Prop:=∃ v l,e=.returned v∧T l∧Hl.Own w.heap.size w' v l∧Grew w w'
end Ct
end Go.Proofs.YtbpgfenippiepaaGreatDoor
namespace Go.Proofs.YtbpgfenippiepaaGreatDoor
open Go.RowKit Go.Shelf Hl
namespace Ct
def Best (R:Pt→Pt→Prop) (l:List Pt) (k:Nat) (m:Pt):Prop:=m ∈ l∧∀ j,j < k→R m (at' l j)
theorem Best.yes {R:Pt→Pt→Prop} (hrf:∀ x,R x x) (htr:∀ x y z,R x y→R y z→R x z) {l:List Pt} {k:Nat} {m:Pt} (hk:k < l.length) (h:Best R l k m) (c:R (at' l k) m):Best R l (k+1) (at' l k) :=
 ⟨at_mem hk,fun j hj => by
  by_cases e:j=k
  ·rw [e];exact hrf _
  ·exact htr _ _ _ c (h.2 j (by omega))⟩
theorem Best.no {R:Pt→Pt→Prop} {l:List Pt} {k:Nat} {m:Pt} (_hk:k < l.length) (h:Best R l k m) (c:R m (at' l k)):Best R l (k+1) m :=
 ⟨h.1,fun j hj => by
  by_cases e:j=k
  ·rw [e];exact c
  ·exact h.2 j (by omega)⟩
theorem Best.all {R:Pt→Pt→Prop} {l:List Pt} {m:Pt} (h:Best R l l.length m):m ∈ l∧∀ y,y ∈ l→R m y:=⟨h.1,fun y hy => by
 obtain ⟨j,hj,e⟩:=mem_at hy
 rw [← e];exact h.2 j hj⟩
def BestSays (R:Pt→Pt→Prop) (l:List Pt) (w:World) (e:Ending) (w':World):Prop:=∃ m:Pt,(m ∈ l∧∀ y,y ∈ l→R m y)∧e=.returned (.agg #[.int .i64 m.1,.int .i64 m.2])∧Grew w w'
set_option maxRecDepth 100000 in
set_option maxHeartbeats 8000000 in
theorem maxf_c (g:Nat) (cb:Array Value) (cv:Pt→Pt→Int) (R:Pt→Pt→Prop) (hrf:∀ x,R x x) (htr:∀ x y z,R x y→R y z→R x z) (hy:∀ x m,(0 < cv x m)→R x m) (hn:∀ x m,¬ (0 < cv x m)→R m x) (l:List Pt) (b o c:Nat) (w:World) (hr:Row w b o l) (h1:1≤l.length) (h2:l.length≤4000000)
  (hC:∀ x y W,x ∈ l→y ∈ l→Grew w W→Calls Tryz.prog g (#[.agg #[.int .i64 x.1,.int .i64 x.2],.agg #[.int .i64 y.1,.int .i64 y.2]] ++ cb) W fun e w' => e=.returned (.int .i64 (cv x y))∧Grew W w') (eg:∀ args w,(callFunc g args).run Tryz.prog w=.ok (.enter g args) w) :
  Calls Tryz.prog 187 #[.slice (some ⟨b,o,none⟩) l.length c,.func (.func g) #[] cb] w (BestSays R l w):=by
 have HR:=Lib.hid hr
 have HC:=Lib.hid hC
 have HB:Hid (∀ k m,(k < l.length∧Best R l k m)→((0 < cv (at' l k) m)→Best R l (k+1) (at' l k))∧(¬ (0 < cv (at' l k) m)→Best R l (k+1) m)):=Lib.hid (fun k m h => ⟨fun c => Best.yes hrf htr h.1 h.2 (hy _ _ c),fun c => Best.no h.1 h.2 (hn _ _ c)⟩)
 obtain ⟨s0,s1⟩:=hr.2 0 (by omega)
 rw [Nat.zero_mul,Nat.add_zero] at s0 s1
 have hb:=hr.1
 have p0:(0:Int) < (l.length:Int):=by omega
 have p1:¬ (l.length:Int) < 1:=by omega
 have p2:¬ l.length=0:=by omega
 have p3:0 < l.length:=by omega
 have B1:Hid (Best R l 1 (at' l 0)):=Lib.hid ⟨at_mem (by omega),fun j hj => by
  obtain rfl:j=0:=by omega
  exact hrf _⟩
 have n1:b < w.heap.size+1:=by omega
 have T4:=Lib.hid (Two.new w 0 0 24)
 have T5:=Lib.hid (Two.new (w.alloc (.cells #[.int .i64 0,.int .i64 0] 24)) (at' l 0).1 (at' l 0).2 24)
 clear hr hC hrf htr hy hn
 go_enter Tryz.func187,Tryz.ntmps187
 go_wp2_with fail
 go_loopw [6] (fun i wr => ∃ (k:Nat) (m:Pt),(1≤k∧k≤l.length)∧i=.int .i64 k∧Two wr (w.heap.size+1) m.1 m.2∧Two wr w.heap.size 0 0∧Hid (Best R l k m)∧Grew w wr) (fun i _ => l.length - (intOf i).toNat)
 case atStart =>
  refine ⟨1,at' l 0,⟨Nat.le_refl _,h1⟩,rfl,?_,?_,B1,Hl.gw⟩
  ·have:=T5.out
   rw [World.size_alloc] at this
   unfold Two at this ⊢
   simp [go_sem]
  ·unfold Two
   simp [go_sem]
 case round =>
  clear T4 T5 B1 s0 s1
  obtain ⟨k,m,⟨hk1,hk⟩,rfl,hT,hZ,BK,G⟩:=hrel
  by_cases hlt:k < l.length
  ·have HB2:=Lib.hid (HB.out k m ⟨hlt,BK.out⟩)
   have ML:Hid (m ∈ l):=Lib.hid BK.out.1
   have XL:Hid (at' l k ∈ l):=Lib.hid (at_mem hlt)
   clear BK
   obtain ⟨q0,q1⟩:=(HR.out.grown G).2 k hlt
   have HT:=Lib.hid hT
   have HZ:=Lib.hid hZ
   obtain ⟨⟨t0,t1,t2⟩,t3,t4⟩:=hT
   have i0:(0:Int)≤(k:Int):=by omega
   have i1:(k:Int) < (l.length:Int):=by omega
   obtain ⟨cc,hcc⟩:∃ cc,cv (at' l k) m=cc:=⟨_,rfl⟩
   have CC:Hid (∀ W,Grew w W→Calls Tryz.prog g (#[.agg #[.int .i64 (at' l k).1,.int .i64 (at' l k).2],.agg #[.int .i64 m.1,.int .i64 m.2]] ++ cb) W fun e w' => e=.returned (.int .i64 cc)∧Grew W w'):=Lib.hid (fun W g => by rw [← hcc];exact HC.out _ _ W XL.out ML.out g)
   rw [hcc] at HB2
   clear hcc ML XL
   by_cases hc:(0 < cc)
   all_goals
    go_wp2_with fail
    refine Bar.begin_ (S:=(fun w' => (w'.cell? ⟨b,o+k * 2,none⟩=some (.int .i64 (at' l k).1)∧w'.cell? ⟨b,o+k * 2+1,none⟩=some (.int .i64 (at' l k).2))∧w'.cell? ⟨w.heap.size+1,0,none⟩=some (.int .i64 m.1)∧w'.cell? ⟨w.heap.size+1,1,none⟩=some (.int .i64 m.2))) 6 (by kernel_rfl) (by simp [go_sem, *]) (fun hHeld => ?_)
    refine Bar.Walk.take [6] (i:=0) (oi:=⟨some 20,_,_,_,_,_⟩) (v:=?_) rfl (by kernel_rfl) (by kernel_rfl) (by kernel_rfl) (by kernel_rfl) (fun _ _ _ h => h) (Or.inl ⟨by rfl,?_⟩) (by assumption) ?_
    rotate_left
    ·intro w hSw;(try dsimp only at hSw);go_simp;(try with_reducible rfl)
    try simp only [Act.put,List.setIfInBounds_toArray,List.set_cons_zero,List.set_cons_succ]
    refine Bar.Walk.take [6,4,3] (i:=1) (oi:=⟨some 21,_,_,_,_,_⟩) (v:=?_) rfl (by kernel_rfl) (by kernel_rfl) (by kernel_rfl) (by kernel_rfl) (fun _ _ _ h => h) (Or.inl ⟨by rfl,?_⟩) (by assumption) ?_
    rotate_left
    ·intro w hSw;(try dsimp only at hSw);go_simp;(try with_reducible rfl)
    try simp only [Act.put,List.setIfInBounds_toArray,List.set_cons_zero,List.set_cons_succ]
    refine Bar.Walk.take [6,4,3] (i:=2) (oi:=⟨some 22,_,_,_,_,_⟩) (v:=?_) rfl (by kernel_rfl) (by kernel_rfl) (by kernel_rfl) (by kernel_rfl) (fun _ _ _ h => h) (Or.inl ⟨by rfl,?_⟩) (by assumption) ?_
    rotate_left
    ·intro w hSw;(try dsimp only at hSw);go_simp;(try with_reducible rfl)
    try simp only [Act.put,List.setIfInBounds_toArray,List.set_cons_zero,List.set_cons_succ]
    refine Bar.Walk.take [6,4] (i:=3) (oi:=⟨some 23,_,_,_,_,_⟩) (v:=?_) rfl (by kernel_rfl) (by kernel_rfl) (by kernel_rfl) (by kernel_rfl) (fun _ _ _ h => h) (Or.inl ⟨by rfl,?_⟩) (by assumption) ?_
    rotate_left
    ·intro w hSw;(try dsimp only at hSw);go_simp;(try with_reducible rfl)
    try simp only [Act.put,List.setIfInBounds_toArray,List.set_cons_zero,List.set_cons_succ]
    refine Bar.Walk.take [6] (i:=4) (oi:=⟨some 24,_,_,_,_,_⟩) (v:=?_) rfl (by kernel_rfl) (by kernel_rfl) (by kernel_rfl) (by kernel_rfl) (fun _ _ _ h => h) (Or.inl ⟨by rfl,?_⟩) (by assumption) ?_
    rotate_left
    ·intro w hSw;(try dsimp only at hSw);go_simp;(try with_reducible rfl)
    try simp only [Act.put,List.setIfInBounds_toArray,List.set_cons_zero,List.set_cons_succ]
    refine Bar.Walk.take [6] (i:=5) (oi:=⟨some 25,_,_,_,_,_⟩) (v:=?_) rfl (by kernel_rfl) (by kernel_rfl) (by kernel_rfl) (by kernel_rfl) (fun _ _ _ h => h) (Or.inl ⟨by rfl,?_⟩) (by assumption) ?_
    rotate_left
    ·intro w hSw;(try dsimp only at hSw);go_simp;(try with_reducible rfl)
    try simp only [Act.put,List.setIfInBounds_toArray,List.set_cons_zero,List.set_cons_succ]
    refine Bar.Walk.pass (o:=⟨some 26,_,_,_,_,_⟩) (by kernel_rfl) rfl (by kernel_rfl) (fun K hK => ?_)
    go_simp
    refine (CC.out _ (Grew.drew G)).mono ?_
    rintro e w1 ⟨rfl,gw⟩
    have G1:Grew w w1:=Grew.trans (Grew.drew G) gw
    have HT1:=HT.out.grown (Grew.trans (Grew.drew (Grew.refl _)) gw)
    have HZ1:=Lib.hid (HZ.out.grown (Grew.trans (Grew.drew (Grew.refl _)) gw))
    obtain ⟨r0,r1⟩:=(HR.out.grown G1).2 k hlt
    have HTH:=Lib.hid HT1
    obtain ⟨⟨u0,u1,u2⟩,u3,u4⟩:=HT1
    have Z1:wr.heap.size≤w1.heap.size:=gw.size
    clear gw q0 q1 t0 t1 t2 t3 t4
    go_wp2_with fail
    refine hK.out _ _ ?_
    clear hK K hHeld
    try simp only [Act.put,List.setIfInBounds_toArray,List.set_cons_zero,List.set_cons_succ]
    refine wpAny_take (i:=7) (oi:=⟨some 27,_,_,_,_,_⟩) (v:=?_) rfl (by kernel_rfl) (by kernel_rfl) (by kernel_rfl) (fun _ _ _ h => h) (Or.inl ⟨by rfl,?_⟩) ?_
    rotate_left
    ·intro w;go_simp;(try with_reducible rfl)
    try simp only [Act.put,List.setIfInBounds_toArray,List.set_cons_zero,List.set_cons_succ]
    refine wpAny_done (by kernel_rfl) ?_ _
    go_wp2_with fail
    go_roundw
    case rel => first | exact ⟨k+1,at' l k,⟨by omega,by omega⟩,by go_num,by unfold Two;simp [go_sem, *],by obtain ⟨⟨_,_,_⟩,_,_⟩:=HZ1.out;unfold Two;simp [go_sem, *],Lib.hid (HB2.out.1 hc),Hl.gw⟩ | exact ⟨k+1,m,⟨by omega,by omega⟩,by go_num,HTH.out,HZ1.out,Lib.hid (HB2.out.2 hc),Hl.gw⟩
    case measure => simp [intOf];omega
  ·obtain rfl:k=l.length:=by omega
   have HT:=hT
   obtain ⟨⟨t0,t1,t2⟩,t3,t4⟩:=hT
   obtain ⟨⟨z0,z1,z2⟩,z3,z4⟩:=hZ
   have BK':=Lib.hid BK.out
   go_wp2_with fail
   refine bodyPost_ret (v:=.agg #[.int .i64 m.1,.int .i64 m.2]) (by simp [results,Tryz.results187,go_sem, *]) rfl ⟨m,BK'.out.all,rfl,Hl.gw⟩
end Ct
end Go.Proofs.YtbpgfenippiepaaGreatDoor
namespace Go.Proofs.YtbpgfenippiepaaGreatDoor
open Go.RowKit Go.Shelf Hl
namespace Ct
theorem blk_three {W:World} {B:Nat} {x y z:Value} {t:TypeId} (h:Blk W B #[x,y,z] t):W.cell? ⟨B,0,none⟩=some x∧W.cell? ⟨B,1,none⟩=some y∧W.cell? ⟨B,2,none⟩=some z:=by simp [World.cell?,show W.heap[B]? = _ from h]
set_option maxRecDepth 100000 in
set_option maxHeartbeats 4000000 in
theorem eight1_c (h:Hf) (Be:Nat) (a b:Pt) (w:World) (hB:Blk w Be #[.int .i64 h.1,.int .i64 h.2.1,.int .i64 h.2.2] 172) (hh:EB h) (ha:Plc a) (hb:Plc b):Calls Tryz.prog 188 (#[.agg #[.int .i64 a.1,.int .i64 a.2],.agg #[.int .i64 b.1,.int .i64 b.2]] ++ #[.pointer (some ⟨Be,0,none⟩)]) w fun e w' => e=.returned (.int .i64 (ov h a - ov h b))∧Grew w w':=by
 have BX:Hid (∀ x W,Plc x→Calls Tryz.prog 164 #[.agg #[.int .i64 h.1,.int .i64 h.2.1,.int .i64 h.2.2],.agg #[.int .i64 x.1,.int .i64 x.2]] W fun e w' => e=.returned (.int .i64 (ov h x))∧(W.alloc (.cells #[.int .i64 h.1,.int .i64 h.2.1,.int .i64 h.2.2] 172)).alloc (.cells #[.int .i64 x.1,.int .i64 x.2] 24)=w'):=Lib.hid (fun x W hx => beyond_c h x W hh hx)
 have bA:=(ov_bd hh ha).2.2
 have bB:=(ov_bd hh hb).2.2
 have W64:IntKind.i64.wrap (ov h a - ov h b)=ov h a - ov h b:=IntWalk.i64_in _ ⟨by omega,by omega⟩
 have HA:=Lib.hid ha
 have HB:=Lib.hid hb
 obtain ⟨e0,e1,e2⟩:=blk_three hB
 have lB:=hB.lt
 have l1:Be < w.heap.size+1:=by omega
 have l2:Be < w.heap.size+1+1:=by omega
 have l3:Be < w.heap.size+1+1+1:=by omega
 have l4:Be < w.heap.size+1+1+1+1:=by omega
 have l5:Be < w.heap.size+1+1+1+1+1:=by omega
 clear ha hb hh hB bA bB
 simp only [List.append_toArray,List.cons_append,List.nil_append]
 go_enter Tryz.func188,Tryz.ntmps188
 go_wp2_with fail
 go_region_held3 (fun w' => (w'.cell? ⟨Be,0,none⟩=some (.int .i64 h.1)∧w'.cell? ⟨Be,1,none⟩=some (.int .i64 h.2.1)∧w'.cell? ⟨Be,2,none⟩=some (.int .i64 h.2.2))∧(w'.cell? ⟨w.heap.size,0,none⟩=some (.int .i64 a.1)∧w'.cell? ⟨w.heap.size,1,none⟩=some (.int .i64 a.2))∧w'.cell? ⟨w.heap.size+1,0,none⟩=some (.int .i64 b.1)∧w'.cell? ⟨w.heap.size+1,1,none⟩=some (.int .i64 b.2)) (simp [go_sem, *])
  (first | (go_at_call 164;refine (BX.out _ _ (by first | exact HA.out | exact HB.out)).mono ?_;rintro e w' ⟨rfl,rfl⟩))
 go_wp2_with fail
 go_ret
 exact ⟨by simp,Hl.gw⟩
end Ct
end Go.Proofs.YtbpgfenippiepaaGreatDoor
