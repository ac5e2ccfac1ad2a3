/-
  The reference functions of layer 4 that look at one half-plane or one side.
-/
import Derived.Test.YtbpgfenippiepaaGreatDoorMCutCb
import Derived.Test.YtbpgfenippiepaaGreatDoorMHullAro
namespace Go.Proofs.YtbpgfenippiepaaGreatDoor
open Go.RowKit Hl Ex
namespace Ct
set_option maxRecDepth 100000
theorem rblk3 {W:World} {B:Nat} {x y z:Value} {t:TypeId} (h:Blk W B #[x,y,z] t):W.cell? ⟨B,0,none⟩=some x∧W.cell? ⟨B,1,none⟩=some y∧W.cell? ⟨B,2,none⟩=some z:=by simp [World.cell?,show W.heap[B]? = _ from h]
theorem rblk2 {W:World} {B:Nat} {x y:Value} {t:TypeId} (h:Blk W B #[x,y] t):W.cell? ⟨B,0,none⟩=some x∧W.cell? ⟨B,1,none⟩=some y:=by simp [World.cell?,show W.heap[B]? = _ from h]
theorem in01_c (n lo hi:Int) (w:World):Calls Tryz.prog 196 #[.int .i64 n,.int .i64 lo,.int .i64 hi] w fun e w' => e=.returned (.bool (decide (lo≤n∧n≤hi)))∧w=w':=by
 by_cases h1:lo≤n
 ·by_cases h2:n≤hi
  ·rw [decide_eq_true (show lo≤n∧n≤hi from ⟨h1,h2⟩)]
   go_enter Tryz.func196,Tryz.ntmps196
   go_wp2_with fail
   go_ret
   exact ⟨rfl,rfl⟩
  ·rw [decide_eq_false (show ¬ (lo≤n∧n≤hi) from fun h => h2 h.2)]
   go_enter Tryz.func196,Tryz.ntmps196
   go_wp2_with fail
   go_ret
   exact ⟨by first | rfl | (simp;omega),rfl⟩
 ·rw [decide_eq_false (show ¬ (lo≤n∧n≤hi) from fun h => h1 h.1)]
  go_enter Tryz.func196,Tryz.ntmps196
  go_wp2_with fail
  go_ret
  exact ⟨by first | rfl | (simp;omega),rfl⟩
theorem differ_c (s t:Int) (w:World):Calls Tryz.prog 192 #[.int .i64 s,.int .i64 t] w fun e w' => e=.returned (.bool (decide (Df s t)))∧w=w':=by
 by_cases a:s < 0
 ·have b:¬ s > 0:=by omega
  by_cases d:t > 0
  ·rw [decide_eq_true (show Df s t from Or.inl ⟨a,d⟩)]
   go_enter Tryz.func192,Tryz.ntmps192
   go_wp2_with fail
   go_ret
   exact ⟨rfl,rfl⟩
  ·rw [decide_eq_false (show ¬ Df s t by unfold Df;omega)]
   go_enter Tryz.func192,Tryz.ntmps192
   go_wp2_with fail
   go_ret
   exact ⟨by first | rfl | (simp;omega),rfl⟩
 ·by_cases b:s > 0
  ·by_cases d:t < 0
   ·rw [decide_eq_true (show Df s t from Or.inr ⟨b,d⟩)]
    go_enter Tryz.func192,Tryz.ntmps192
    go_wp2_with fail
    go_ret
    exact ⟨rfl,rfl⟩
   ·rw [decide_eq_false (show ¬ Df s t by unfold Df;omega)]
    go_enter Tryz.func192,Tryz.ntmps192
    go_wp2_with fail
    go_ret
    exact ⟨by first | rfl | (simp;omega),rfl⟩
  ·rw [decide_eq_false (show ¬ Df s t by unfold Df;omega)]
   go_enter Tryz.func192,Tryz.ntmps192
   go_wp2_with fail
   go_ret
   exact ⟨by first | rfl | (simp;omega),rfl⟩
theorem half_c (h:Hf) (w:World):Calls Tryz.prog 165 #[.agg #[.int .i64 h.1,.int .i64 h.2.1,.int .i64 h.2.2]] w fun e w' => e=.returned (.bool (decide (WF h)))∧Grew w w':=by
 obtain ⟨ba,ea⟩:∃ b,decide (-1000000≤h.1∧h.1≤1000000)=b:=⟨_,rfl⟩
 obtain ⟨bb,eb⟩:∃ b,decide (-1000000≤h.2.1∧h.2.1≤1000000)=b:=⟨_,rfl⟩
 obtain ⟨bc,ec⟩:∃ b,decide (-1000000000000≤h.2.2∧h.2.2≤1000000000000)=b:=⟨_,rfl⟩
 have A:=Lib.hid (fun W => in01_c h.1 (-1000000) 1000000 W)
 have B:=Lib.hid (fun W => in01_c h.2.1 (-1000000) 1000000 W)
 have D:=Lib.hid (fun W => in01_c h.2.2 (-1000000000000) 1000000000000 W)
 have E:(ba=true∧bb=true∧bc=true∧¬ (h.1=0∧h.2.1=0))↔WF h:=by
  rw [← ea,← eb,← ec,decide_eq_true_eq,decide_eq_true_eq,decide_eq_true_eq]
  unfold WF
  constructor
  ·rintro ⟨a,b,c,d⟩;exact ⟨⟨a,b,c⟩,d⟩
  ·rintro ⟨⟨a,b,c⟩,d⟩;exact ⟨a,b,c,d⟩
 obtain ⟨r,er⟩:∃ b,decide (WF h)=b:=⟨_,rfl⟩
 rw [er]
 rw [ea] at A
 rw [eb] at B
 rw [ec] at D
 have ER:Hid (decide (ba=true∧bb=true∧bc=true∧¬ (h.1=0∧h.2.1=0))=r):=Lib.hid (by rw [← er];exact decide_eq_decide.2 E)
 have HH:=Lib.hid (Blk.new w #[.int .i64 h.1,.int .i64 h.2.1,.int .i64 h.2.2] 78)
 clear E er ea eb ec
 generalize h.1=x at *
 generalize h.2.1=y at *
 generalize h.2.2=z at *
 go_enter Tryz.func165,Tryz.ntmps165
 go_wp2_with fail
 refine (A.out _).mono ?_
 rintro e w' ⟨rfl,rfl⟩
 go_wp2_with fail
 refine (B.out _).mono ?_
 rintro e w' ⟨rfl,rfl⟩
 go_wp2_with fail
 refine (D.out _).mono ?_
 rintro e w' ⟨rfl,rfl⟩
 clear A B D HH
 cases ba
 ·obtain rfl:false=r:=by rw [← ER.out];simp
  clear ER
  go_wp2_with fail
  go_ret
  exact ⟨rfl,gw⟩
 ·cases bb
  ·obtain rfl:false=r:=by rw [← ER.out];simp
   clear ER
   go_wp2_with fail
   go_ret
   exact ⟨rfl,gw⟩
  ·cases bc
   ·obtain rfl:false=r:=by rw [← ER.out];simp
    clear ER
    go_wp2_with fail
    go_ret
    exact ⟨rfl,gw⟩
   ·by_cases x0:x=0
    ·by_cases y0:y=0
     ·obtain rfl:false=r:=by rw [← ER.out];simp [x0,y0]
      clear ER
      subst x0 y0
      go_wp2_with fail
      go_ret
      exact ⟨rfl,gw⟩
     ·obtain rfl:true=r:=by rw [← ER.out];simp [y0]
      clear ER
      subst x0
      go_wp2_with fail
      go_ret
      exact ⟨by first | rfl | simp [y0],gw⟩
    ·obtain rfl:true=r:=by rw [← ER.out];simp [x0]
     clear ER
     go_wp2_with fail
     go_ret
     exact ⟨by first | rfl | simp [x0],gw⟩
theorem over_r (h:Hf) (x:Pt) (w:World) (hh:WF h) (hx:Plc x):Calls Tryz.prog 197 #[.agg #[.int .i64 h.1,.int .i64 h.2.1,.int .i64 h.2.2],.agg #[.int .i64 x.1,.int .i64 x.2]] w fun e w' => e=.returned (.int .i64 (ov h x))∧(w.alloc (.cells #[.int .i64 h.1,.int .i64 h.2.1,.int .i64 h.2.2] 78)).alloc (.cells #[.int .i64 x.1,.int .i64 x.2] 24)=w':=by
 have b:=ov_bd (WF.eb hh) hx
 obtain ⟨⟨b0,b1⟩,⟨b2,b3⟩,b4,b5⟩:=b
 obtain ⟨-,-,b6,b7⟩:=hh.1
 clear hh hx
 rcases h with ⟨A,B,C⟩
 rcases x with ⟨x,y⟩
 unfold ov at *
 simp only at *
 go_enter Tryz.func197,Tryz.ntmps197
 go_wp2_with fail
 go_ret
 exact ⟨rfl,rfl⟩
theorem rest_bd2 {a b:Int} (hb:b ≠ 0) (h:-2000000000000000000≤a∧a≤2000000000000000000):(-2000000000000000000≤a.tdiv b * b∧a.tdiv b * b≤2000000000000000000)∧-2000000000000000000≤a - a.tdiv b * b∧a - a.tdiv b * b≤2000000000000000000:=by
 have e:=rest_is a b
 obtain ⟨-,c1,c2,-,-⟩:=cut_facts a b hb
 have c3:(a.tmod b).natAbs≤a.natAbs:=by rw [Int.natAbs_tmod];exact Nat.mod_le _ _
 omega
theorem down_r (a b:Int) (w:World) (hb:b ≠ 0) (ha:-2000000000000000000≤a∧a≤2000000000000000000):Calls Tryz.prog 209 #[.int .i64 a,.int .i64 b] w fun e w' => e=.returned (.int .i64 (fl a b))∧w=w':=by
 obtain ⟨q0,q1⟩:=tdiv_bd a b hb
 have q2:-2000000000000000000≤a.tdiv b:=by omega
 have q3:a.tdiv b≤2000000000000000000:=by omega
 clear q0 q1
 obtain ⟨⟨r0,r1⟩,r2,r3⟩:=rest_bd2 hb ha
 have e:=rest_is a b
 have hb':(b == 0)=false:=by simp [hb]
 by_cases h:a.tmod b=0
 ·have H:=Lib.hid (fl_whole hb h).1
  have h':(a - a.tdiv b * b != 0)=false:=by rw [e];simp [h]
  clear h e
  go_enter Tryz.func209,Tryz.ntmps209
  go_wp2_with fail
  go_ret
  exact ⟨by rw [H.out];rfl,rfl⟩
 ·have h':(a - a.tdiv b * b != 0)=true:=by rw [e];simp [h]
  by_cases hs:(a.tmod b < 0)↔(b < 0)
  ·have H:=Lib.hid (fl_above hb h hs).1
   have h2:(decide (a - a.tdiv b * b < 0) == decide (b < 0))=true:=by rw [e];simp [hs]
   clear h hs e
   go_enter Tryz.func209,Tryz.ntmps209
   go_wp2_with fail
   go_ret
   exact ⟨by rw [H.out];rfl,rfl⟩
  ·have H:=Lib.hid (fl_below hb h hs).1
   have h2:(decide (a - a.tdiv b * b < 0) == decide (b < 0))=false:=by rw [e];simp;exact hs
   clear h hs e
   go_enter Tryz.func209,Tryz.ntmps209
   go_wp2_with fail
   go_ret
   exact ⟨by rw [H.out];rfl,rfl⟩
theorem up_r (a b:Int) (w:World) (hb:b ≠ 0) (ha:-2000000000000000000≤a∧a≤2000000000000000000):Calls Tryz.prog 210 #[.int .i64 a,.int .i64 b] w fun e w' => e=.returned (.int .i64 (ce a b))∧w=w':=by
 have H:Hid (b ≠ 0):=Lib.hid hb
 obtain ⟨f0,f1⟩:=fl_bd (a:=-a) (m:=2000000000000000000) hb (by omega)
 clear hb
 go_enter Tryz.func210,Tryz.ntmps210
 go_wp2_with fail
 refine (down_r _ _ _ H.out (by omega)).mono ?_
 rintro e w' ⟨rfl,rfl⟩
 go_wp2_with fail
 go_ret
 exact ⟨rfl,rfl⟩
theorem fl_shift (a k:Int) {d:Int} (hd:0 < d):k+fl a d=(a+k * d) / d:=by
 unfold fl
 rw [if_pos hd,Int.add_mul_ediv_right _ _ (by omega)]
 omega
theorem ce_shift (a k:Int) {d:Int} (hd:0 < d):k+ce a d = -(-(a+k * d) / d):=by
 have e:-(a+k * d) = -a+(-k) * d:=by grind
 unfold ce fl
 rw [if_pos hd,e,Int.add_mul_ediv_right _ _ (by omega)]
 omega
theorem frL_way {m n:Int} (hm:0 < m) (hn:0 < n) (a b:Pt):[(a.1+fl ((b.1 - a.1) * n) (m+n),a.2+fl ((b.2 - a.2) * n) (m+n)),(a.1+ce ((b.1 - a.1) * n) (m+n),a.2+fl ((b.2 - a.2) * n) (m+n)),(a.1+fl ((b.1 - a.1) * n) (m+n),a.2+ce ((b.2 - a.2) * n) (m+n)),(a.1+ce ((b.1 - a.1) * n) (m+n),a.2+ce ((b.2 - a.2) * n) (m+n))]=frL m n a b:=by
 have hd:0 < m+n:=by omega
 have e1:(b.1 - a.1) * n+a.1 * (m+n)=m * a.1+n * b.1:=by grind
 have e2:(b.2 - a.2) * n+a.2 * (m+n)=m * a.2+n * b.2:=by grind
 unfold frL
 rw [fl_shift _ _ hd,fl_shift _ _ hd,ce_shift _ _ hd,ce_shift _ _ hd,e1,e2]
def FrameSays (a b:Pt) (s t:Int) (w:World) (e:Ending) (w':World):Prop:=∃ v,e=.returned v∧Hl.Own w.heap.size w' v (crL a b s t)∧Grew w w'
set_option maxHeartbeats 4000000 in
theorem frame_neg (a b:Pt) (s t:Int) (w:World) (ha:Plc a) (hb:Plc b) (hst:s < 0∧0 < t) (hs:-2000000000000≤s∧s≤2000000000000) (ht:-2000000000000≤t∧t≤2000000000000):Calls Tryz.prog 193 #[.agg #[.int .i64 a.1,.int .i64 a.2],.agg #[.int .i64 b.1,.int .i64 b.2],.int .i64 s,.int .i64 t] w (FrameSays a b s t w):=by
 have CR:Hid ([(a.1+fl ((b.1 - a.1) * -s) (-(s - t)),a.2+fl ((b.2 - a.2) * -s) (-(s - t))),(a.1+ce ((b.1 - a.1) * -s) (-(s - t)),a.2+fl ((b.2 - a.2) * -s) (-(s - t))),(a.1+fl ((b.1 - a.1) * -s) (-(s - t)),a.2+ce ((b.2 - a.2) * -s) (-(s - t))),(a.1+ce ((b.1 - a.1) * -s) (-(s - t)),a.2+ce ((b.2 - a.2) * -s) (-(s - t)))]=crL a b s t):=Lib.hid (by
  have e:-(s - t)=t+-s:=by omega
  rw [e,frL_way (by omega) (by omega)]
  unfold crL;rw [if_pos hst])
 have sg:s - t < 0:=by omega
 have dz:Hid (-(s - t) ≠ 0):=Lib.hid (by omega)
 obtain ⟨⟨a0,a1⟩,a2,a3⟩:=ha
 obtain ⟨⟨b0,b1⟩,b2,b3⟩:=hb
 have m1:=mul_bd (x:=b.1 - a.1) (y:=-s) (a:=1000000) (b:=2000000000000) (by omega) (by omega)
 have m2:=mul_bd (x:=b.2 - a.2) (y:=-s) (a:=1000000) (b:=2000000000000) (by omega) (by omega)
 have M1:Hid (-2000000000000000000≤(b.1 - a.1) * -s∧(b.1 - a.1) * -s≤2000000000000000000):=Lib.hid (by omega)
 have M2:Hid (-2000000000000000000≤(b.2 - a.2) * -s∧(b.2 - a.2) * -s≤2000000000000000000):=Lib.hid (by omega)
 obtain ⟨m3,m4⟩:=M1.out
 obtain ⟨m5,m6⟩:=M2.out
 obtain ⟨f1,f2⟩:=fl_bd (a:=(b.1 - a.1) * -s) (m:=2000000000000000000) dz.out M1.out
 obtain ⟨f3,f4⟩:=fl_bd (a:=(b.2 - a.2) * -s) (m:=2000000000000000000) dz.out M2.out
 obtain ⟨f5,f6⟩:=fl_bd (a:=-((b.1 - a.1) * -s)) (m:=2000000000000000000) dz.out (by omega)
 obtain ⟨f7,f8⟩:=fl_bd (a:=-((b.2 - a.2) * -s)) (m:=2000000000000000000) dz.out (by omega)
 have c1:-2000000000000000000≤ce ((b.1 - a.1) * -s) (-(s - t))∧ce ((b.1 - a.1) * -s) (-(s - t))≤2000000000000000001:=by unfold ce;omega
 have c2:-2000000000000000000≤ce ((b.2 - a.2) * -s) (-(s - t))∧ce ((b.2 - a.2) * -s) (-(s - t))≤2000000000000000001:=by unfold ce;omega
 obtain ⟨c3,c4⟩:=c1
 obtain ⟨c5,c6⟩:=c2
 have DX:Hid (∀ x d W,(-2000000000000000000≤x∧x≤2000000000000000000)→d ≠ 0→Calls Tryz.prog 209 #[.int .i64 x,.int .i64 d] W fun e w' => e=.returned (.int .i64 (fl x d))∧W=w'):=Lib.hid (fun x d W h g => down_r x d W g h)
 have UX:Hid (∀ x d W,(-2000000000000000000≤x∧x≤2000000000000000000)→d ≠ 0→Calls Tryz.prog 210 #[.int .i64 x,.int .i64 d] W fun e w' => e=.returned (.int .i64 (ce x d))∧W=w'):=Lib.hid (fun x d W h g => up_r x d W g h)
 clear m1 m2 f5 f6 f7 f8
 have wa:IntKind.i64.wrap (b.1 - a.1)=b.1 - a.1:=IntWalk.i64_in _ ⟨by omega,by omega⟩
 have wb:IntKind.i64.wrap (b.2 - a.2)=b.2 - a.2:=IntWalk.i64_in _ ⟨by omega,by omega⟩
 have wc:IntKind.i64.wrap ((b.1 - a.1) * -s)=(b.1 - a.1) * -s:=IntWalk.i64_in _ ⟨by omega,by omega⟩
 have wd:IntKind.i64.wrap ((b.2 - a.2) * -s)=(b.2 - a.2) * -s:=IntWalk.i64_in _ ⟨by omega,by omega⟩
 have we:IntKind.i64.wrap (a.1+fl ((b.1 - a.1) * -s) (-(s - t)))=a.1+fl ((b.1 - a.1) * -s) (-(s - t)):=IntWalk.i64_in _ ⟨by omega,by omega⟩
 have wf:IntKind.i64.wrap (a.2+fl ((b.2 - a.2) * -s) (-(s - t)))=a.2+fl ((b.2 - a.2) * -s) (-(s - t)):=IntWalk.i64_in _ ⟨by omega,by omega⟩
 have wg:IntKind.i64.wrap (a.1+ce ((b.1 - a.1) * -s) (-(s - t)))=a.1+ce ((b.1 - a.1) * -s) (-(s - t)):=IntWalk.i64_in _ ⟨by omega,by omega⟩
 have wh:IntKind.i64.wrap (a.2+ce ((b.2 - a.2) * -s) (-(s - t)))=a.2+ce ((b.2 - a.2) * -s) (-(s - t)):=IntWalk.i64_in _ ⟨by omega,by omega⟩
 go_enter Tryz.func193,Tryz.ntmps193
 go_wp2_with fail
 go_region_held3 (fun w' => (w'.cell? ⟨w.heap.size,0,none⟩=some (.int .i64 a.1)∧w'.cell? ⟨w.heap.size,1,none⟩=some (.int .i64 a.2))∧(w'.cell? ⟨w.heap.size+1,0,none⟩=some (.int .i64 b.1)∧w'.cell? ⟨w.heap.size+1,1,none⟩=some (.int .i64 b.2))) (first | (simp only [World.cell?_drew];simp [go_sem, *]) | simp [go_sem, *])
  (first | (go_at_call 209;refine (DX.out _ _ _ (by first | exact M1.out | exact M2.out) dz.out).mono ?_;rintro e w' ⟨rfl,rfl⟩) | (go_at_call 210;refine (UX.out _ _ _ (by first | exact M1.out | exact M2.out) dz.out).mono ?_;rintro e w' ⟨rfl,rfl⟩))
 go_wp2_with fail
 go_region_held3 (fun w' => (w'.cell? ⟨w.heap.size,0,none⟩=some (.int .i64 a.1)∧w'.cell? ⟨w.heap.size,1,none⟩=some (.int .i64 a.2))∧(w'.cell? ⟨w.heap.size+1,0,none⟩=some (.int .i64 b.1)∧w'.cell? ⟨w.heap.size+1,1,none⟩=some (.int .i64 b.2))) (first | (simp only [World.cell?_drew];simp [go_sem, *]) | simp [go_sem, *])
  (first | (go_at_call 209;refine (DX.out _ _ _ (by first | exact M1.out | exact M2.out) dz.out).mono ?_;rintro e w' ⟨rfl,rfl⟩) | (go_at_call 210;refine (UX.out _ _ _ (by first | exact M1.out | exact M2.out) dz.out).mono ?_;rintro e w' ⟨rfl,rfl⟩))
 go_wp2_with fail
 go_region_held3 (fun w' => (w'.cell? ⟨w.heap.size,0,none⟩=some (.int .i64 a.1)∧w'.cell? ⟨w.heap.size,1,none⟩=some (.int .i64 a.2))∧(w'.cell? ⟨w.heap.size+1,0,none⟩=some (.int .i64 b.1)∧w'.cell? ⟨w.heap.size+1,1,none⟩=some (.int .i64 b.2))) (first | (simp only [World.cell?_drew];simp [go_sem, *]) | simp [go_sem, *])
  (first | (go_at_call 209;refine (DX.out _ _ _ (by first | exact M1.out | exact M2.out) dz.out).mono ?_;rintro e w' ⟨rfl,rfl⟩) | (go_at_call 210;refine (UX.out _ _ _ (by first | exact M1.out | exact M2.out) dz.out).mono ?_;rintro e w' ⟨rfl,rfl⟩))
 go_wp2_with fail
 go_region_held3 (fun w' => (w'.cell? ⟨w.heap.size,0,none⟩=some (.int .i64 a.1)∧w'.cell? ⟨w.heap.size,1,none⟩=some (.int .i64 a.2))∧(w'.cell? ⟨w.heap.size+1,0,none⟩=some (.int .i64 b.1)∧w'.cell? ⟨w.heap.size+1,1,none⟩=some (.int .i64 b.2))) (first | (simp only [World.cell?_drew];simp [go_sem, *]) | simp [go_sem, *])
  (first | (go_at_call 209;refine (DX.out _ _ _ (by first | exact M1.out | exact M2.out) dz.out).mono ?_;rintro e w' ⟨rfl,rfl⟩) | (go_at_call 210;refine (UX.out _ _ _ (by first | exact M1.out | exact M2.out) dz.out).mono ?_;rintro e w' ⟨rfl,rfl⟩))
 go_wp2_with fail
 go_ret
 refine ⟨.slice (some ⟨w.heap.size+1+1,0,none⟩) 4 4,rfl,?_,gw⟩
 rw [← CR.out]
 have g:=own_four (B:=w.heap.size) ((w.alloc (.cells #[.int .i64 a.1,.int .i64 a.2] 24)).alloc (.cells #[.int .i64 b.1,.int .i64 b.2] 24)) (a.1+fl ((b.1 - a.1) * -s) (-(s - t)),a.2+fl ((b.2 - a.2) * -s) (-(s - t))) (a.1+ce ((b.1 - a.1) * -s) (-(s - t)),a.2+fl ((b.2 - a.2) * -s) (-(s - t))) (a.1+fl ((b.1 - a.1) * -s) (-(s - t)),a.2+ce ((b.2 - a.2) * -s) (-(s - t))) (a.1+ce ((b.1 - a.1) * -s) (-(s - t)),a.2+ce ((b.2 - a.2) * -s) (-(s - t))) (by rw [World.size_alloc,World.size_alloc];omega)
 rw [World.size_alloc,World.size_alloc] at g
 exact g.drew.drew.drew.drew
set_option maxHeartbeats 4000000 in
theorem frame_pos (a b:Pt) (s t:Int) (w:World) (ha:Plc a) (hb:Plc b) (hst:0 < s∧t < 0) (hs:-2000000000000≤s∧s≤2000000000000) (ht:-2000000000000≤t∧t≤2000000000000):Calls Tryz.prog 193 #[.agg #[.int .i64 a.1,.int .i64 a.2],.agg #[.int .i64 b.1,.int .i64 b.2],.int .i64 s,.int .i64 t] w (FrameSays a b s t w):=by
 have CR:Hid ([(a.1+fl ((b.1 - a.1) * s) (s - t),a.2+fl ((b.2 - a.2) * s) (s - t)),(a.1+ce ((b.1 - a.1) * s) (s - t),a.2+fl ((b.2 - a.2) * s) (s - t)),(a.1+fl ((b.1 - a.1) * s) (s - t),a.2+ce ((b.2 - a.2) * s) (s - t)),(a.1+ce ((b.1 - a.1) * s) (s - t),a.2+ce ((b.2 - a.2) * s) (s - t))]=crL a b s t):=Lib.hid (by
  have e:s - t = -t+s:=by omega
  rw [e,frL_way (by omega) (by omega)]
  unfold crL;rw [if_neg (by omega),if_pos hst])
 have sg:¬ (s - t < 0):=by omega
 have dz:Hid (s - t ≠ 0):=Lib.hid (by omega)
 obtain ⟨⟨a0,a1⟩,a2,a3⟩:=ha
 obtain ⟨⟨b0,b1⟩,b2,b3⟩:=hb
 have m1:=mul_bd (x:=b.1 - a.1) (y:=s) (a:=1000000) (b:=2000000000000) (by omega) (by omega)
 have m2:=mul_bd (x:=b.2 - a.2) (y:=s) (a:=1000000) (b:=2000000000000) (by omega) (by omega)
 have M1:Hid (-2000000000000000000≤(b.1 - a.1) * s∧(b.1 - a.1) * s≤2000000000000000000):=Lib.hid (by omega)
 have M2:Hid (-2000000000000000000≤(b.2 - a.2) * s∧(b.2 - a.2) * s≤2000000000000000000):=Lib.hid (by omega)
 obtain ⟨m3,m4⟩:=M1.out
 obtain ⟨m5,m6⟩:=M2.out
 obtain ⟨f1,f2⟩:=fl_bd (a:=(b.1 - a.1) * s) (m:=2000000000000000000) dz.out M1.out
 obtain ⟨f3,f4⟩:=fl_bd (a:=(b.2 - a.2) * s) (m:=2000000000000000000) dz.out M2.out
 obtain ⟨f5,f6⟩:=fl_bd (a:=-((b.1 - a.1) * s)) (m:=2000000000000000000) dz.out (by omega)
 obtain ⟨f7,f8⟩:=fl_bd (a:=-((b.2 - a.2) * s)) (m:=2000000000000000000) dz.out (by omega)
 have c1:-2000000000000000000≤ce ((b.1 - a.1) * s) (s - t)∧ce ((b.1 - a.1) * s) (s - t)≤2000000000000000001:=by unfold ce;omega
 have c2:-2000000000000000000≤ce ((b.2 - a.2) * s) (s - t)∧ce ((b.2 - a.2) * s) (s - t)≤2000000000000000001:=by unfold ce;omega
 obtain ⟨c3,c4⟩:=c1
 obtain ⟨c5,c6⟩:=c2
 have DX:Hid (∀ x d W,(-2000000000000000000≤x∧x≤2000000000000000000)→d ≠ 0→Calls Tryz.prog 209 #[.int .i64 x,.int .i64 d] W fun e w' => e=.returned (.int .i64 (fl x d))∧W=w'):=Lib.hid (fun x d W h g => down_r x d W g h)
 have UX:Hid (∀ x d W,(-2000000000000000000≤x∧x≤2000000000000000000)→d ≠ 0→Calls Tryz.prog 210 #[.int .i64 x,.int .i64 d] W fun e w' => e=.returned (.int .i64 (ce x d))∧W=w'):=Lib.hid (fun x d W h g => up_r x d W g h)
 clear m1 m2 f5 f6 f7 f8
 have wa:IntKind.i64.wrap (b.1 - a.1)=b.1 - a.1:=IntWalk.i64_in _ ⟨by omega,by omega⟩
 have wb:IntKind.i64.wrap (b.2 - a.2)=b.2 - a.2:=IntWalk.i64_in _ ⟨by omega,by omega⟩
 have wc:IntKind.i64.wrap ((b.1 - a.1) * s)=(b.1 - a.1) * s:=IntWalk.i64_in _ ⟨by omega,by omega⟩
 have wd:IntKind.i64.wrap ((b.2 - a.2) * s)=(b.2 - a.2) * s:=IntWalk.i64_in _ ⟨by omega,by omega⟩
 have we:IntKind.i64.wrap (a.1+fl ((b.1 - a.1) * s) (s - t))=a.1+fl ((b.1 - a.1) * s) (s - t):=IntWalk.i64_in _ ⟨by omega,by omega⟩
 have wf:IntKind.i64.wrap (a.2+fl ((b.2 - a.2) * s) (s - t))=a.2+fl ((b.2 - a.2) * s) (s - t):=IntWalk.i64_in _ ⟨by omega,by omega⟩
 have wg:IntKind.i64.wrap (a.1+ce ((b.1 - a.1) * s) (s - t))=a.1+ce ((b.1 - a.1) * s) (s - t):=IntWalk.i64_in _ ⟨by omega,by omega⟩
 have wh:IntKind.i64.wrap (a.2+ce ((b.2 - a.2) * s) (s - t))=a.2+ce ((b.2 - a.2) * s) (s - t):=IntWalk.i64_in _ ⟨by omega,by omega⟩
 go_enter Tryz.func193,Tryz.ntmps193
 go_wp2_with fail
 go_region_held3 (fun w' => (w'.cell? ⟨w.heap.size,0,none⟩=some (.int .i64 a.1)∧w'.cell? ⟨w.heap.size,1,none⟩=some (.int .i64 a.2))∧(w'.cell? ⟨w.heap.size+1,0,none⟩=some (.int .i64 b.1)∧w'.cell? ⟨w.heap.size+1,1,none⟩=some (.int .i64 b.2))) (first | (simp only [World.cell?_drew];simp [go_sem, *]) | simp [go_sem, *])
  (first | (go_at_call 209;refine (DX.out _ _ _ (by first | exact M1.out | exact M2.out) dz.out).mono ?_;rintro e w' ⟨rfl,rfl⟩) | (go_at_call 210;refine (UX.out _ _ _ (by first | exact M1.out | exact M2.out) dz.out).mono ?_;rintro e w' ⟨rfl,rfl⟩))
 go_wp2_with fail
 go_region_held3 (fun w' => (w'.cell? ⟨w.heap.size,0,none⟩=some (.int .i64 a.1)∧w'.cell? ⟨w.heap.size,1,none⟩=some (.int .i64 a.2))∧(w'.cell? ⟨w.heap.size+1,0,none⟩=some (.int .i64 b.1)∧w'.cell? ⟨w.heap.size+1,1,none⟩=some (.int .i64 b.2))) (first | (simp only [World.cell?_drew];simp [go_sem, *]) | simp [go_sem, *])
  (first | (go_at_call 209;refine (DX.out _ _ _ (by first | exact M1.out | exact M2.out) dz.out).mono ?_;rintro e w' ⟨rfl,rfl⟩) | (go_at_call 210;refine (UX.out _ _ _ (by first | exact M1.out | exact M2.out) dz.out).mono ?_;rintro e w' ⟨rfl,rfl⟩))
 go_wp2_with fail
 go_region_held3 (fun w' => (w'.cell? ⟨w.heap.size,0,none⟩=some (.int .i64 a.1)∧w'.cell? ⟨w.heap.size,1,none⟩=some (.int .i64 a.2))∧(w'.cell? ⟨w.heap.size+1,0,none⟩=some (.int .i64 b.1)∧w'.cell? ⟨w.heap.size+1,1,none⟩=some (.int .i64 b.2))) (first | (simp only [World.cell?_drew];simp [go_sem, *]) | simp [go_sem, *])
  (first | (go_at_call 209;refine (DX.out _ _ _ (by first | exact M1.out | exact M2.out) dz.out).mono ?_;rintro e w' ⟨rfl,rfl⟩) | (go_at_call 210;refine (UX.out _ _ _ (by first | exact M1.out | exact M2.out) dz.out).mono ?_;rintro e w' ⟨rfl,rfl⟩))
 go_wp2_with fail
 go_region_held3 (fun w' => (w'.cell? ⟨w.heap.size,0,none⟩=some (.int .i64 a.1)∧w'.cell? ⟨w.heap.size,1,none⟩=some (.int .i64 a.2))∧(w'.cell? ⟨w.heap.size+1,0,none⟩=some (.int .i64 b.1)∧w'.cell? ⟨w.heap.size+1,1,none⟩=some (.int .i64 b.2))) (first | (simp only [World.cell?_drew];simp [go_sem, *]) | simp [go_sem, *])
  (first | (go_at_call 209;refine (DX.out _ _ _ (by first | exact M1.out | exact M2.out) dz.out).mono ?_;rintro e w' ⟨rfl,rfl⟩) | (go_at_call 210;refine (UX.out _ _ _ (by first | exact M1.out | exact M2.out) dz.out).mono ?_;rintro e w' ⟨rfl,rfl⟩))
 go_wp2_with fail
 go_ret
 refine ⟨.slice (some ⟨w.heap.size+1+1,0,none⟩) 4 4,rfl,?_,gw⟩
 rw [← CR.out]
 have g:=own_four (B:=w.heap.size) ((w.alloc (.cells #[.int .i64 a.1,.int .i64 a.2] 24)).alloc (.cells #[.int .i64 b.1,.int .i64 b.2] 24)) (a.1+fl ((b.1 - a.1) * s) (s - t),a.2+fl ((b.2 - a.2) * s) (s - t)) (a.1+ce ((b.1 - a.1) * s) (s - t),a.2+fl ((b.2 - a.2) * s) (s - t)) (a.1+fl ((b.1 - a.1) * s) (s - t),a.2+ce ((b.2 - a.2) * s) (s - t)) (a.1+ce ((b.1 - a.1) * s) (s - t),a.2+ce ((b.2 - a.2) * s) (s - t)) (by rw [World.size_alloc,World.size_alloc];omega)
 rw [World.size_alloc,World.size_alloc] at g
 exact g.drew.drew.drew.drew
theorem frame_r (a b:Pt) (s t:Int) (w:World) (ha:Plc a) (hb:Plc b) (hst:Df s t) (hs:-2000000000000≤s∧s≤2000000000000) (ht:-2000000000000≤t∧t≤2000000000000):Calls Tryz.prog 193 #[.agg #[.int .i64 a.1,.int .i64 a.2],.agg #[.int .i64 b.1,.int .i64 b.2],.int .i64 s,.int .i64 t] w (FrameSays a b s t w):=by
 rcases hst with h | h
 ·exact frame_neg a b s t w ha hb h hs ht
 ·exact frame_pos a b s t w ha hb h hs ht
def FewSays (q:List Pt) (w:World) (e:Ending) (w':World):Prop:=∃ v r,((q.length≤64∧r=q)∨(64 < q.length∧IsOct q r))∧e=.returned v∧Sl w' v r∧Grew w w'
theorem fewer_r (q:List Pt) (v:Value) (w:World) (hs:Sl w v q) (hp:Plcs q) (h1:1≤q.length) (hm:q.length≤9223372036854775807):Calls Tryz.prog 113 #[v] w (FewSays q w):=by
 obtain ⟨b,o,c,rfl,hr⟩:=hs.row (fun e => by rw [e] at h1;cases h1)
 by_cases h:64 < q.length
 ·have i0:(q.length:Int) > 64:=by omega
  have OC:=Lib.hid (octagon_any q b o c w hr hp h1 hm)
  have H:=Lib.hid h
  clear h hs hr
  go_enter Tryz.func113,Tryz.ntmps113
  go_wp2_with fail
  refine OC.out.mono ?_
  rintro e v1 ⟨r,v,ho,rfl,hv,g⟩
  have HO:=Lib.hid ho
  have HV:=Lib.hid hv
  clear ho hv
  go_wp2_with fail
  go_ret
  exact ⟨v,r,Or.inr ⟨H.out,HO.out⟩,rfl,HV.out,g⟩
 ·have i0:¬ (q.length:Int) > 64:=by omega
  have H:=Lib.hid h
  have HS:=Lib.hid hs
  clear h hs hr
  go_enter Tryz.func113,Tryz.ntmps113
  go_wp2_with fail
  go_ret
  exact ⟨_,q,Or.inl ⟨by have:=H.out;omega,rfl⟩,rfl,HS.out,Grew.refl _⟩
end Ct
end Go.Proofs.YtbpgfenippiepaaGreatDoor
