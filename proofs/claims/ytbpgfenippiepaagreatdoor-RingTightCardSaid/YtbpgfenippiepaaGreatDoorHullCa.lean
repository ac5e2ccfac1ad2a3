/-
  The landed package hull: what speaks of single places.
  Whether a polygon has a place, as a test; the landed isUpTo, isWellFormed, beyond, around.
  The landed sides; blocks.
  What leaves all blocks below one but a single one.
-/
import Derived.Test.YtbpgfenippiepaaGreatDoorHullIn
import Derived.Test.YtbpgfenippiepaaGreatDoorHullHl
import Derived.Test.YtbpgfenippiepaaGreatDoorExactPlain
import Derived.RangeFuncNested
import Derived.RangeFuncBound
import Derived.RangeFuncCalls
import Derived.RangeFuncLeaves
import Derived.Shelf.Abstract
import Derived.Shelf.RegionOpen
import Derived.OwnWalkIn
import Derived.TacticsInMore
import Derived.LoopNIn
import Derived.LoopIn
namespace Go.Proofs.YtbpgfenippiepaaGreatDoor
open Go.RowKit
namespace Hl
theorem coord_c (n:Int) (w:World):Calls Tryz.prog 167 #[.int .i64 n] w fun e w' => e=.returned (.bool (decide (-500000≤n∧n≤500000)))∧w=w':=by
 by_cases h1:-500000≤n
 ·by_cases h2:n≤500000
  ·rw [decide_eq_true (show -500000≤n∧n≤500000 from ⟨h1,h2⟩)]
   go_enter Tryz.func167,Tryz.ntmps167
   go_wp2_with fail
   go_ret
   exact ⟨rfl,rfl⟩
  ·rw [decide_eq_false (show ¬ (-500000≤n∧n≤500000) from fun h => h2 h.2)]
   go_enter Tryz.func167,Tryz.ntmps167
   go_wp2_with fail
   go_ret
   exact ⟨rfl,rfl⟩
 ·rw [decide_eq_false (show ¬ (-500000≤n∧n≤500000) from fun h => h1 h.1)]
  go_enter Tryz.func167,Tryz.ntmps167
  go_wp2_with fail
  go_ret
  exact ⟨rfl,rfl⟩
theorem place_c (x:Pt) (w:World):Calls Tryz.prog 128 #[.agg #[.int .i64 x.1,.int .i64 x.2]] w fun e w' => e=.returned (.bool (decide (Plc x)))∧w.alloc (.cells #[.int .i64 x.1,.int .i64 x.2] 24)=w':=by
 rcases x with ⟨x,y⟩
 have ed:decide (Plc (x,y))=(decide (-500000≤x∧x≤500000) && decide (-500000≤y∧y≤500000)):=by
  rw [Bool.eq_iff_iff,decide_eq_true_eq,Bool.and_eq_true,decide_eq_true_eq,decide_eq_true_eq]
  exact Iff.rfl
 rw [ed]
 have cx:=fun w => coord_c x w
 have cy:=fun w => coord_c y w
 generalize decide (-500000≤x∧x≤500000)=p at cx ⊢
 generalize decide (-500000≤y∧y≤500000)=q at cy ⊢
 have CX:=Lib.hid cx
 have CY:=Lib.hid cy
 clear cx cy ed
 cases p
 ·go_enter Tryz.func128,Tryz.ntmps128
  go_wp2_with fail
  refine (CX.out _).mono ?_
  rintro e w1 ⟨rfl,rfl⟩
  go_wp2_with fail
  go_ret
  exact ⟨rfl,rfl⟩
 ·go_enter Tryz.func128,Tryz.ntmps128
  go_wp2_with fail
  refine (CX.out _).mono ?_
  rintro e w1 ⟨rfl,rfl⟩
  go_wp2_with fail
  refine (CY.out _).mono ?_
  rintro e w1 ⟨rfl,rfl⟩
  go_wp2_with fail
  go_ret
  exact ⟨rfl,rfl⟩
theorem places_c (p:List Pt) (b o c:Nat) (w:World) (hr:Row w b o p) (hl:p.length≤9223372036854775807):Calls Tryz.prog 93 #[.slice (some ⟨b,o,none⟩) p.length c] w (Tells (Plcs p) w):=by
 have HR:=Lib.hid hr
 clear hr
 go_enter Tryz.func93,Tryz.ntmps93
 go_wp2_with fail
 go_loopw [7] (fun i wr => ∃ k:Nat,k≤p.length∧i=.int .i64 k∧Grew w wr∧Hid (∀ j,j < k→Plc (at' p j))) (fun i _ => p.length - (intOf i).toNat)
 case atStart => exact ⟨0,Nat.zero_le _,rfl,Grew.refl _,Lib.hid (fun j hj => by omega)⟩
 case round =>
  obtain ⟨k,hk,rfl,G,D⟩:=hrel
  by_cases hlt:k < p.length
  ·obtain ⟨q0,q1⟩:=(HR.out.grown G).2 k hlt
   have PX:Hid (∀ w,Calls Tryz.prog 128 #[.agg #[.int .i64 (at' p k).1,.int .i64 (at' p k).2]] w fun e w' => e=.returned (.bool (decide (Plc (at' p k))))∧Grew w w'):=Lib.hid (fun w => (place_c (at' p k) w).mono (by rintro e w' ⟨rfl,rfl⟩;exact ⟨rfl,(Grew.refl w).alloc _ _⟩))
   by_cases hp:Plc (at' p k)
   ·have HP:=Lib.hid hp
    rw [decide_eq_true hp] at PX
    clear hp
    go_wp2_with fail
    refine (PX.out _).mono ?_
    rintro e w1 ⟨rfl,g1⟩
    have G1:Grew w w1:=Grew.trans (G.alloc _ _) g1
    clear g1
    go_wp2_with fail
    go_roundw
    case rel => exact ⟨k+1,by omega,by go_num,G1,Lib.hid (fun j hj => by
     by_cases e:j=k
     ·rw [e];exact HP.out
     ·exact D.out j (by omega))⟩
    case measure => simp [intOf];omega
   ·have HP:=Lib.hid hp
    rw [decide_eq_false hp] at PX
    clear hp
    go_wp2_with fail
    refine (PX.out _).mono ?_
    rintro e w1 ⟨rfl,g1⟩
    have G1:Grew w w1:=Grew.trans (G.alloc _ _) g1
    clear g1
    go_wp2_with fail
    go_ret
    exact Tells.no (fun h => HP.out (h k hlt)) rfl G1
  ·go_wp2_with fail
   go_ret
   exact Tells.yes (fun i hi => D.out i (by omega)) rfl G
theorem less_c (x y:Pt) (w:World):Calls Tryz.prog 94 #[.agg #[.int .i64 x.1,.int .i64 x.2],.agg #[.int .i64 y.1,.int .i64 y.2]] w fun e w' => e=.returned (.bool (decide (ls x y)))∧(w.alloc (.cells #[.int .i64 (x.1),.int .i64 (x.2)] 24)).alloc (.cells #[.int .i64 (y.1),.int .i64 (y.2)] 24)=w':=by
 rcases x with ⟨a,b⟩
 rcases y with ⟨c,d⟩
 by_cases h:ls (a,b) (c,d)
 ·rw [decide_eq_true h]
  rcases h with h | ⟨h,k⟩
  ·simp only at h
   go_enter Tryz.func94,Tryz.ntmps94
   go_wp2_with fail
   go_ret
   exact ⟨rfl,rfl⟩
  ·simp only at h k
   subst h
   go_enter Tryz.func94,Tryz.ntmps94
   go_wp2_with fail
   go_ret
   exact ⟨rfl,rfl⟩
 ·rw [decide_eq_false h]
  by_cases e:a=c
  ·subst e
   have k:d≤b:=by
    by_cases k:b < d
    ·exact absurd (Or.inr ⟨rfl,k⟩) h
    ·omega
   clear h
   go_enter Tryz.func94,Tryz.ntmps94
   go_wp2_with fail
   go_ret
   exact ⟨by first | rfl | (simp;omega),rfl⟩
  ·have k:c < a:=by
    by_cases k:a < c
    ·exact absurd (Or.inl k) h
    ·omega
   have e':(a == c)=false:=by simp [e]
   clear h e
   go_enter Tryz.func94,Tryz.ntmps94
   go_wp2_with fail
   go_ret
   exact ⟨by first | rfl | (simp;omega),rfl⟩
theorem turn_c (x y z:Pt) (w:World) (ha:Plc x) (hb:Plc y) (hc:Plc z):Calls Tryz.prog 131 #[.agg #[.int .i64 x.1,.int .i64 x.2],.agg #[.int .i64 y.1,.int .i64 y.2],.agg #[.int .i64 z.1,.int .i64 z.2]] w fun e w' => e=.returned (.int .i64 (cr x y z))∧((w.alloc (.cells #[.int .i64 (x.1),.int .i64 (x.2)] 24)).alloc (.cells #[.int .i64 (y.1),.int .i64 (y.2)] 24)).alloc (.cells #[.int .i64 (z.1),.int .i64 (z.2)] 24)=w':=by
 rcases x with ⟨a1,a2⟩
 rcases y with ⟨b1,b2⟩
 rcases z with ⟨c1,c2⟩
 obtain ⟨⟨m0,m1⟩,⟨m2,m3⟩⟩:=cr_bd ha hb hc
 obtain ⟨⟨p0,p1⟩,⟨p2,p3⟩⟩:=ha
 obtain ⟨⟨q0,q1⟩,⟨q2,q3⟩⟩:=hb
 obtain ⟨⟨r0,r1⟩,⟨r2,r3⟩⟩:=hc
 simp only at p0 p1 p2 p3 q0 q1 q2 q3 r0 r1 r2 r3 m0 m1 m2 m3
 go_enter Tryz.func131,Tryz.ntmps131
 go_wp2_with fail
 go_ret
 exact ⟨rfl,rfl⟩
def Measures (g:Nat) (m:Pt→Int):Prop:=∀ (x:Pt) (w:World),Plc x→Calls Tryz.prog g #[.agg #[.int .i64 x.1,.int .i64 x.2]] w fun e w' => e=.returned (.int .i64 (m x))∧w.alloc (.cells #[.int .i64 x.1,.int .i64 x.2] 24)=w'
theorem measX:Measures 168 (fun x => x.1):=fun x w hx => by
 rcases x with ⟨x,y⟩
 clear hx
 go_enter Tryz.func168,Tryz.ntmps168
 go_wp2_with fail
 go_ret
 exact ⟨rfl,rfl⟩
theorem measY:Measures 169 (fun x => x.2):=fun x w hx => by
 rcases x with ⟨x,y⟩
 clear hx
 go_enter Tryz.func169,Tryz.ntmps169
 go_wp2_with fail
 go_ret
 exact ⟨rfl,rfl⟩
theorem measS:Measures 135 (fun x => x.1+x.2):=fun x w hx => by
 rcases x with ⟨x,y⟩
 obtain ⟨⟨h0,h1⟩,⟨h2,h3⟩⟩:=hx
 simp only at h0 h1 h2 h3
 go_enter Tryz.func135,Tryz.ntmps135
 go_wp2_with fail
 go_ret
 exact ⟨rfl,rfl⟩
theorem measD:Measures 136 (fun x => x.1 - x.2):=fun x w hx => by
 rcases x with ⟨x,y⟩
 obtain ⟨⟨h0,h1⟩,⟨h2,h3⟩⟩:=hx
 simp only at h0 h1 h2 h3
 go_enter Tryz.func136,Tryz.ntmps136
 go_wp2_with fail
 go_ret
 exact ⟨rfl,rfl⟩
end Hl
end Go.Proofs.YtbpgfenippiepaaGreatDoor
namespace Go.Proofs.YtbpgfenippiepaaGreatDoor
open Go.RowKit Hl
namespace Ct
instance (n:Nat) (P:Nat→Pt) (x:Pt):Decidable (Ins n P x):=by unfold Ins;infer_instance
instance (a b x:Pt):Decidable (btw a b x):=by unfold btw;infer_instance
instance (p:List Pt) (x:Pt):Decidable (Hs p x):=by unfold Hs;infer_instance
def hsB (p:List Pt) (x:Pt):Bool:=decide (Hs p x)
theorem mem_hsB {p q:List Pt} {y:Pt}:y ∈ p.filter (hsB q)↔y ∈ p∧Hs q y:=by
 rw [List.mem_filter]
 unfold hsB
 rw [decide_eq_true_eq]
theorem mem_list {p:List Pt} {y:Pt}:y ∈ p↔∃ i,i < p.length∧at' p i=y:=⟨fun h => mem_at h,fun ⟨i,hi,e⟩ => by rw [← e];exact at_mem hi⟩
end Ct
end Go.Proofs.YtbpgfenippiepaaGreatDoor
namespace Go.Proofs.YtbpgfenippiepaaGreatDoor
open Go.RowKit
namespace Ct
open Hl
def EB (h:Hf):Prop:=(-1000000≤h.1∧h.1≤1000000)∧(-1000000≤h.2.1∧h.2.1≤1000000)∧-1000000000000≤h.2.2∧h.2.2≤1000000000000
theorem WF.eb {h:Hf} (k:WF h):EB h:=k.1
theorem mul_bd {x y a b:Int} (hx:-a≤x∧x≤a) (hy:-b≤y∧y≤b):-(a * b)≤x * y∧x * y≤a * b:=by
 have p1:=Int.mul_nonneg (show 0≤a - x by omega) (show 0≤b+y by omega)
 have p2:=Int.mul_nonneg (show 0≤a+x by omega) (show 0≤b - y by omega)
 have p3:=Int.mul_nonneg (show 0≤a - x by omega) (show 0≤b - y by omega)
 have p4:=Int.mul_nonneg (show 0≤a+x by omega) (show 0≤b+y by omega)
 have e1:(a - x) * (b+y)+(a+x) * (b - y)=2 * (a * b) - 2 * (x * y):=by grind
 have e2:(a - x) * (b - y)+(a+x) * (b+y)=2 * (a * b)+2 * (x * y):=by grind
 omega
theorem ov_bd {h:Hf} {x:Pt} (hh:EB h) (hx:Plc x):(-500000000000≤h.1 * x.1∧h.1 * x.1≤500000000000)∧(-500000000000≤h.2.1 * x.2∧h.2.1 * x.2≤500000000000)∧-2000000000000≤ov h x∧ov h x≤2000000000000:=by
 have h1:=mul_bd hh.1 hx.1
 have h2:=mul_bd hh.2.1 hx.2
 have h3:=hh.2.2
 unfold ov
 omega
theorem upTo_c (m n:Int) (w:World) (hm:-1000000000000≤m∧m≤1000000000000):Calls Tryz.prog 195 #[.int .i64 m,.int .i64 n] w fun e w' => e=.returned (.bool (decide (-m≤n∧n≤m)))∧w=w':=by
 by_cases h1:-m≤n
 ·by_cases h2:n≤m
  ·rw [decide_eq_true (show -m≤n∧n≤m from ⟨h1,h2⟩)]
   go_enter Tryz.func195,Tryz.ntmps195
   go_wp2_with fail
   go_ret
   exact ⟨rfl,rfl⟩
  ·rw [decide_eq_false (show ¬ (-m≤n∧n≤m) from fun h => h2 h.2)]
   go_enter Tryz.func195,Tryz.ntmps195
   go_wp2_with fail
   go_ret
   exact ⟨rfl,rfl⟩
 ·rw [decide_eq_false (show ¬ (-m≤n∧n≤m) from fun h => h1 h.1)]
  go_enter Tryz.func195,Tryz.ntmps195
  go_wp2_with fail
  go_ret
  exact ⟨rfl,rfl⟩
theorem beyond_c (h:Hf) (x:Pt) (w:World) (hh:EB h) (hx:Plc x):Calls Tryz.prog 164 #[.agg #[.int .i64 h.1,.int .i64 h.2.1,.int .i64 h.2.2],.agg #[.int .i64 x.1,.int .i64 x.2]] w fun e w' => e=.returned (.int .i64 (ov h x))∧(w.alloc (.cells #[.int .i64 h.1,.int .i64 h.2.1,.int .i64 h.2.2] 172)).alloc (.cells #[.int .i64 x.1,.int .i64 x.2] 24)=w':=by
 obtain ⟨⟨b0,b1⟩,⟨b2,b3⟩,b4,b5⟩:=ov_bd hh hx
 obtain ⟨-,-,b6,b7⟩:=hh
 rcases h with ⟨A,B,C⟩
 rcases x with ⟨x,y⟩
 unfold ov at *
 simp only at *
 go_enter Tryz.func164,Tryz.ntmps164
 go_wp2_with fail
 go_ret
 exact ⟨rfl,rfl⟩
theorem well_c (h:Hf) (w:World):Calls Tryz.prog 162 #[.agg #[.int .i64 h.1,.int .i64 h.2.1,.int .i64 h.2.2]] w fun e w' => e=.returned (.bool (decide (WF h)))∧w.alloc (.cells #[.int .i64 h.1,.int .i64 h.2.1,.int .i64 h.2.2] 78)=w':=by
 rcases h with ⟨A,B,C⟩
 have ed:decide (WF (A,B,C))=(((!(decide (A=0) && decide (B=0)) && decide (-1000000≤A∧A≤1000000)) && decide (-1000000≤B∧B≤1000000)) && decide (-1000000000000≤C∧C≤1000000000000)):=by
  rw [Bool.eq_iff_iff]
  simp only [decide_eq_true_eq,Bool.and_eq_true,Bool.not_eq_true',Bool.and_eq_false_iff,decide_eq_false_iff_not]
  unfold WF
  simp only
  omega
 rw [ed]
 have CA:=Lib.hid (fun w => upTo_c 1000000 A w (by omega))
 have CB:=Lib.hid (fun w => upTo_c 1000000 B w (by omega))
 have CC:=Lib.hid (fun w => upTo_c 1000000000000 C w (by omega))
 generalize decide (-1000000≤A∧A≤1000000)=p at CA ⊢
 generalize decide (-1000000≤B∧B≤1000000)=q at CB ⊢
 generalize decide (-1000000000000≤C∧C≤1000000000000)=r at CC ⊢
 clear ed
 have walk:∀ z:Bool,Hid ((!(decide (A=0) && decide (B=0)))=z)→(A=0∧B=0∧z=false∨A=0∧B ≠ 0∧z=true∨A ≠ 0∧z=true)→Calls Tryz.prog 162 #[.agg #[.int .i64 A,.int .i64 B,.int .i64 C]] w fun e w' => e=.returned (.bool (((z && p) && q) && r))∧w.alloc (.cells #[.int .i64 A,.int .i64 B,.int .i64 C] 78)=w':=by
  intro z _ hz
  have fin:∀ n:Bool,n=(((z && p) && q) && r)→Hid ((((z && p) && q) && r)=n):=fun n h => Lib.hid h.symm
  rcases hz with ⟨rfl,rfl,rfl⟩ | ⟨rfl,hb,rfl⟩ | ⟨ha,rfl⟩
  ·have F:=fin false (by simp)
   clear fin
   generalize (((false && p) && q) && r)=n at F ⊢
   obtain rfl:=F.out
   go_enter Tryz.func162,Tryz.ntmps162
   go_wp2_with fail
   go_ret
   exact ⟨rfl,rfl⟩
  all_goals
   first
    | (have hb1:(B != 0)=true:=by simp [hb])
    | (have ha1:(A != 0)=true:=by simp [ha])
   cases p
   ·have F:=fin false (by simp)
    clear fin
    generalize (((true && false) && q) && r)=n at F ⊢
    obtain rfl:=F.out
    go_enter Tryz.func162,Tryz.ntmps162
    go_wp2_with fail
    refine (CA.out _).mono ?_
    rintro e w1 ⟨rfl,rfl⟩
    go_wp2_with fail
    go_ret
    exact ⟨rfl,rfl⟩
   ·cases q
    ·have F:=fin false (by simp)
     clear fin
     generalize (((true && true) && false) && r)=n at F ⊢
     obtain rfl:=F.out
     go_enter Tryz.func162,Tryz.ntmps162
     go_wp2_with fail
     refine (CA.out _).mono ?_
     rintro e w1 ⟨rfl,rfl⟩
     go_wp2_with fail
     refine (CB.out _).mono ?_
     rintro e w1 ⟨rfl,rfl⟩
     go_wp2_with fail
     go_ret
     exact ⟨rfl,rfl⟩
    ·have F:=fin r (by simp)
     clear fin
     generalize (((true && true) && true) && r)=n at F ⊢
     obtain rfl:=F.out
     go_enter Tryz.func162,Tryz.ntmps162
     go_wp2_with fail
     refine (CA.out _).mono ?_
     rintro e w1 ⟨rfl,rfl⟩
     go_wp2_with fail
     refine (CB.out _).mono ?_
     rintro e w1 ⟨rfl,rfl⟩
     go_wp2_with fail
     refine (CC.out _).mono ?_
     rintro e w1 ⟨rfl,rfl⟩
     go_wp2_with fail
     go_ret
     exact ⟨rfl,rfl⟩
 by_cases ha:A=0
 ·by_cases hb:B=0
  ·subst ha;subst hb;exact walk _ (Lib.hid rfl) (Or.inl ⟨rfl,rfl,rfl⟩)
  ·subst ha;exact walk _ (Lib.hid rfl) (Or.inr (Or.inl ⟨rfl,hb,by simp [hb]⟩))
 ·exact walk _ (Lib.hid rfl) (Or.inr (Or.inr ⟨ha,by simp [ha]⟩))
set_option maxHeartbeats 400000 in
theorem around_c (a b:Int) (w:World) (hb:b ≠ 0) (ha:-2000000000000000000≤a∧a≤2000000000000000000) :
  Calls Tryz.prog 191 #[.int .i64 a,.int .i64 b] w fun e w' => e=.returned (.tuple #[.int .i64 (Ex.fl a b),.int .i64 (Ex.ce a b)])∧w=w':=by
 obtain ⟨q0,q1⟩:=Ex.tdiv_bd a b hb
 have q2:-2000000000000000000≤a.tdiv b:=by omega
 have q3:a.tdiv b≤2000000000000000000:=by omega
 clear q0 q1
 have hb':(b == 0)=false:=by simp [hb]
 obtain ⟨_,c1,c2,_,_⟩:=Ex.cut_facts a b hb
 by_cases h:a.tmod b=0
 ·obtain ⟨e1,e2⟩:=Ex.fl_whole hb h
  rw [e1,e2]
  have h':(a.tmod b == 0)=true:=by simp [h]
  clear e1 e2 c1 c2
  go_enter Tryz.func191,Tryz.ntmps191
  go_wp2_with fail
  go_ret2
  exact ⟨rfl,rfl⟩
 ·have h':(a.tmod b == 0)=false:=by simp [h]
  have an:a ≠ 0:=fun e => h (by rw [e];exact Int.zero_tmod b)
  have sg:(a.tmod b < 0)↔a < 0:=by
   constructor
   ·intro g
    by_cases z:a < 0
    ·exact z
    ·have:=c1 (by omega);omega
   ·intro g
    have:=c2 (by omega);omega
  clear c1 c2
  by_cases hs:(a.tmod b < 0)↔(b < 0)
  ·obtain ⟨e1,e2⟩:=Ex.fl_above hb h hs
   rw [e1,e2]
   have h2:(decide (a < 0) == decide (b < 0))=true:=by simp only [beq_iff_eq,decide_eq_decide];rw [← sg];exact hs
   clear e1 e2 h hs sg
   go_enter Tryz.func191,Tryz.ntmps191
   go_wp2_with fail
   go_ret2
   exact ⟨rfl,rfl⟩
  ·obtain ⟨e1,e2⟩:=Ex.fl_below hb h hs
   rw [e1,e2]
   have h2:(decide (a < 0) == decide (b < 0))=false:=by
    rw [Bool.eq_false_iff]
    intro g
    simp only [beq_iff_eq,decide_eq_decide] at g
    exact hs (sg.trans g)
   have h3:a.tdiv b - 1+1=a.tdiv b:=by omega
   clear e1 e2 h hs sg
   go_enter Tryz.func191,Tryz.ntmps191
   go_wp2_with fail
   go_ret2
   exact ⟨by first | rfl | (simp;omega),rfl⟩
theorem fl_fr {s t m n a b:Int} (h:Wt s t m n):a+Ex.fl ((b - a) * s) (s - t)=(m * a+n * b) / (m+n)∧a+Ex.ce ((b - a) * s) (s - t) = -(-(m * a+n * b) / (m+n)):=by
 have hW:m+n ≠ 0:=by have:=h.1;have:=h.2.1;omega
 have hW':0 < m+n:=by have:=h.1;have:=h.2.1;omega
 have key:∀ x:Int,Ex.fl x (m+n)=x / (m+n):=fun x => by unfold Ex.fl;rw [if_pos hW']
 have k1:Ex.fl ((b - a) * s) (s - t)=((b - a) * n) / (m+n)∧Ex.ce ((b - a) * s) (s - t) = -((-((b - a) * n)) / (m+n)):=by
  rcases h.2.2 with ⟨e1,e2⟩ | ⟨e1,e2⟩
  ·rw [e1,e2,show -n - m = -(m+n) by omega,Int.mul_neg,Ex.fl_neg_neg _ _ hW,Ex.ce_neg_neg _ _ hW]
   unfold Ex.ce
   rw [key,key]
   exact ⟨rfl,rfl⟩
  ·rw [e1,e2,show n - -m=m+n by omega]
   unfold Ex.ce
   rw [key,key]
   exact ⟨rfl,rfl⟩
 have e1:m * a+n * b=(b - a) * n+a * (m+n):=by grind
 have e2:-(m * a+n * b) = -((b - a) * n)+-a * (m+n):=by grind
 rw [k1.1,k1.2,e2,Int.add_mul_ediv_right _ _ hW,e1,Int.add_mul_ediv_right _ _ hW]
 omega
end Ct
end Go.Proofs.YtbpgfenippiepaaGreatDoor
namespace Go.Proofs.YtbpgfenippiepaaGreatDoor
open Go.RowKit Go.Shelf
attribute [local go_sem] Oper.semAt_some
namespace Hl
def Kept (b B:Nat) (W W':World):Prop:=W.heap.size≤W'.heap.size∧∀ k,(k=b∨k=B)→W'.heap[k]? = W.heap[k]?
theorem Kept.refl (b B:Nat) (W:World):Kept b B W W:=⟨Nat.le_refl _,fun _ _ => rfl⟩
theorem Kept.trans {b B:Nat} {X Y Z:World} (h:Kept b B X Y) (k:Kept b B Y Z):Kept b B X Z:=⟨Nat.le_trans h.1 k.1,fun i hi => (k.2 i hi).trans (h.2 i hi)⟩
theorem Kept.grown {b B:Nat} {X Y Z:World} {row:Option Nat} (h:Kept b B X Y) (g:Y.grownBy Z row) (hb:b < Y.heap.size) (hB:B < Y.heap.size) (hr:row ≠ some b∧row ≠ some B):Kept b B X Z :=
 ⟨Nat.le_trans h.1 g.size,fun k hk => (g.block k (by rcases hk with rfl | rfl <;> assumption) (by rcases hk with rfl | rfl;exact fun e => hr.1 e.symm;exact fun e => hr.2 e.symm)).trans (h.2 k hk)⟩
theorem Kept.below {b B n:Nat} {W W':World} (h:Below n W W') (hb:b < n) (hB:B < n):Kept b B W W':=⟨h.size,fun k hk => h.block k (by rcases hk with rfl | rfl <;> assumption)⟩
theorem Kept.cell {b B:Nat} {W W':World} (h:Kept b B W W') {k o:Nat} (hk:k=b∨k=B):W'.cell? ⟨k,o,none⟩=W.cell? ⟨k,o,none⟩:=World.cell?_of_block (a:=⟨k,o,none⟩) (h.2 k hk)
theorem Row.kept {b B o:Nat} {p:List Pt} {W W':World} (h:Row W b o p) (k:Kept b B W W'):Row W' b o p :=
 ⟨Nat.lt_of_lt_of_le h.1 k.1,fun i hi => ⟨(k.cell (Or.inl rfl)).trans (h.2 i hi).1,(k.cell (Or.inl rfl)).trans (h.2 i hi).2⟩⟩
theorem grownBy_drew (W:World):W.grownBy W.drew none:=⟨rfl,rfl,rfl,Nat.le_refl _,fun _ _ _ => rfl⟩
theorem abides_alloc {β:Type} {n:Nat} {J:β→World→Prop} (h:AbidesFrom n J) {s:β} {W:World} (hs:J s W) (o:Obj):J s (W.alloc o):=h s W _ none hs (World.grownBy_alloc W o none) (fun r e => by cases e)
theorem abides_drew {β:Type} {n:Nat} {J:β→World→Prop} (h:AbidesFrom n J) {s:β} {W:World} (hs:J s W):J s W.drew:=h s W _ none hs (grownBy_drew W) (fun r e => by cases e)
def ends (p:List Pt) (i:Nat):Array Value:=#[.agg #[.int .i64 (at' p i).1,.int .i64 (at' p i).2],.agg #[.int .i64 (at' p ((i+1) % p.length)).1,.int .i64 (at' p ((i+1) % p.length)).2]]
set_option maxHeartbeats 1000000 in
theorem sides_in (n:Nat) (a:Option Addr) (len cap:Nat) (w:World) :
  CallsIn Fence.wide n Tryz.prog 130 #[.slice a len cap] w fun e w' => e=.returned (.func (.func 170) #[] #[.pointer (some ⟨w.heap.size,0,none⟩)])∧w'=w.alloc (.cells #[.slice a len cap] 48):=by
 refine callsIn_of_wp Tryz.func130 rfl trivial ?_ rfl
 simp only [Tryz.ntmps130,List.size_toArray,List.length_cons,List.length_nil,Nat.reduceAdd,Nat.reduceSub,Array.replicate_succ,Array.replicate_zero,List.push_toArray,List.append_toArray,List.nil_append,List.cons_append]
 gi_wp2
 go_ret
 exact ⟨rfl,rfl⟩
set_option maxRecDepth 100000 in
set_option maxHeartbeats 4000000 in
theorem sides1_in (n:Nat) (hn:1≤n) (l B b o c:Nat) (p:List Pt) (h1:1≤p.length) (h2:p.length≤4000000) (J Jx:List Nat→World→Prop)
  (W:World) (hJ:AbidesFrom W.heap.size J) (_hJx:AbidesFrom W.heap.size Jx)
  (hY:∀ pre i W1,J pre W1→pre.length < p.length→YieldAt Fence.wide (n - 1) Tryz.prog l (ends p i) W1 fun e W' =>
   (e=.returned (.bool true)∧J (pre ++ [i]) W'∧Kept b B W1 W')∨(e=.returned (.bool false)∧Jx (pre ++ [i]) W'))
  (hB:B < W.heap.size) (hBs:W.cell? ⟨B,0,none⟩=some (.slice (some ⟨b,o,none⟩) p.length c)) (hr:Row W b o p) (h0:J [] W) :
  CallsIn Fence.wide n Tryz.prog 170 #[.func (.yield l) #[] #[],.pointer (some ⟨B,0,none⟩)] W fun e W' => (∃ v,e=.returned v) ∧
   ((∃ ys,ys=List.range p.length∧J ys W')∨(∃ pre,(∃ k,k≤p.length∧pre=List.range k)∧Jx pre W')):=by
 have HY:=Lib.hid hY
 have HJ:=Lib.hid hJ
 have HR:=Lib.hid hr
 have HB:=Lib.hid hBs
 clear hY hJ hr _hJx
 have hmx:Tryz.prog.follows .mixedOrders=true:=by kernel_rfl
 refine callsIn_of_wp Tryz.func170 rfl trivial ?_ rfl
 simp only [Tryz.ntmps170,List.size_toArray,List.length_cons,List.length_nil,Nat.reduceAdd,Nat.reduceSub,Array.replicate_succ,Array.replicate_zero,List.push_toArray,List.append_toArray,List.nil_append,List.cons_append]
 gi_wp2
 gi_loopw [7,3] (fun i _ wr => ∃ k:Nat,k≤p.length∧i=.int .i64 k∧J (List.range k) wr∧Kept b B W wr)
  (fun i _ _ => p.length - (intOf i).toNat)
 case atStart => exact ⟨0,Nat.zero_le _,rfl,h0,Kept.refl _ _ _⟩
 case round =>
  obtain ⟨k,hk,rfl,hJs,hK⟩:=hrel
  by_cases hlt:k < p.length
  ·obtain ⟨m,hm⟩:∃ m,(k+1) % p.length=m:=⟨_,rfl⟩
   have hmm:m < p.length:=by rw [← hm];exact Nat.mod_lt _ (by omega)
   have TM':((k:Int)+1).tmod (p.length:Int)=(m:Int):=by
    rw [← hm,Int.natCast_emod,Int.natCast_add]
    exact Int.tmod_eq_emod_of_nonneg (by omega)
   have WK':IntKind.i64.wrap ((k:Int)+1)=(k:Int)+1:=IntWalk.i64_in _ ⟨by omega,by omega⟩
   have TM2:((k:Int)+1) % (p.length:Int)=(m:Int):=by rw [← TM'];exact (Int.tmod_eq_emod_of_nonneg (by omega)).symm
   have nz:(p.length:Int) ≠ 0:=by omega
   have nz2:((p.length:Int) == 0)=false:=by rw [beq_eq_false_iff_ne];omega
   have nz3:¬ p.length=0:=by omega
   have k0:(0:Int)≤(k:Int)+1:=by omega
   obtain ⟨s0,s1⟩:=(HR.out.kept hK).2 k hlt
   obtain ⟨s2,s3⟩:=(HR.out.kept hK).2 m hmm
   have hb:=(HR.out.kept hK).1
   have cB:=(hK.cell (o:=0) (Or.inr rfl)).trans HB.out
   have lB:B < wr.heap.size:=by have:=hK.1;omega
   have i0:(0:Int)≤(k:Int):=by omega
   have i1:(k:Int) < (p.length:Int):=by omega
   have i2:(m:Int) < (p.length:Int):=by omega
   have hb1:b < wr.heap.size+1:=by omega
   have lB1:B < wr.heap.size+1:=by omega
   have KW:Hid (Kept b B W (wr.alloc (.cells #[.int .i64 (at' p k).1,.int .i64 (at' p k).2] 24)).drew):=Lib.hid ((hK.grown (World.grownBy_alloc wr _ none) hb lB (by simp)).grown (grownBy_drew _) (by simp;omega) (by simp;omega) (by simp))
   have hJ1:J (List.range k) (wr.alloc (.cells #[.int .i64 (at' p k).1,.int .i64 (at' p k).2] 24)).drew:=abides_drew HJ.out (abides_alloc HJ.out hJs _)
   obtain ⟨fn,tmps,assign,body,hy,hR⟩:=HY.out _ k _ hJ1 (by simpa using hlt)
   have hR':=hR.mono (R':=fun e W' => ∃ r:Bool,e=.returned (.bool r)∧Hid ((r=true→J (List.range (k+1)) W'∧Kept b B W W')∧(r=false→Jx (List.range (k+1)) W'))) (by
    rintro e W' (⟨rfl,h1,h2⟩ | ⟨rfl,h1⟩)
    ·exact ⟨true,rfl,Lib.hid ⟨fun _ => ⟨by rw [List.range_succ];exact h1,KW.out.trans h2⟩,fun h => by cases h⟩⟩
    ·exact ⟨false,rfl,Lib.hid ⟨fun h => (by cases h),fun _ => (by rw [List.range_succ];exact h1)⟩⟩)
   clear hR hJ1 hJs hK KW
   unfold ends at hy
   rw [hm] at hy
   clear hm
   gi_wp2
   gi_region_with_o (refine hR'.mono ?_;rintro e W3 ⟨r,rfl,hjr⟩)
   all_goals gi_wp2
   all_goals first
    | (refine bodyPost_ret (results_none rfl _ _ _) rfl ?_
       have hr0:(!r)=true:=by assumption
       exact ⟨⟨_,rfl⟩,.inr ⟨_,⟨k+1,by omega,rfl⟩,hjr.out.2 (by simpa using hr0)⟩⟩)
    | (have hr0:(!r)=false:=by assumption
       go_roundw
       case rel => exact ⟨k+1,by omega,by simp,(hjr.out.1 (by simpa using hr0)).1,(hjr.out.1 (by simpa using hr0)).2⟩
       case measure => simp [intOf];omega)
  ·obtain rfl:k=p.length:=by omega
   gi_wp2
   go_end0
   exact ⟨⟨_,rfl⟩,.inl ⟨_,rfl,hJs⟩⟩
end Hl
end Go.Proofs.YtbpgfenippiepaaGreatDoor
namespace Go.Proofs.YtbpgfenippiepaaGreatDoor
open Go.RowKit Go.Shelf
namespace Hl
theorem sides_stops (n:Nat) (hn:1≤n) (B b o c:Nat) (p:List Pt) (h1:1≤p.length) (h2:p.length≤4000000) (w:World) (hB:B < w.heap.size)
  (hc:w.cell? ⟨B,0,none⟩=some (.slice (some ⟨b,o,none⟩) p.length c)) (hr:Row w b o p) :
  SeqStopsK Fence.wide n Tryz.prog 170 #[.pointer (some ⟨B,0,none⟩)] (ends p) (Kept b B) (fun ys => ys=List.range p.length) (fun pre => ∃ k,k≤p.length∧pre=List.range k) p.length w :=
 fun l J Jx W hW hJ hJx hY h0 => sides1_in n hn l B b o c p h1 h2 J Jx W hJ hJx hY (Nat.lt_of_lt_of_le hB hW.size) ((hW.cell (p:=⟨B,0,none⟩) hB).trans hc) (hr.grown hW) h0
theorem kept_b {b B:Nat} {w:World} (hb:b < w.heap.size) (hB:B < w.heap.size) (W:World) (l:Nat) (o o':Obj) (hl:w.heap.size≤l) (_h:W.heap[l]? = some o) (_:o.isCells=false) (_:o.isWalk=false):Kept b B W (W.putObj l o') :=
 ⟨(grownBy_putObj' W l o').size,fun k hk => World.putObj_heap_other (by rcases hk with rfl | rfl <;> omega)⟩
theorem Kept.alloc {b B:Nat} {X Y:World} (h:Kept b B X Y) (hb:b < Y.heap.size) (hB:B < Y.heap.size) (o:Obj):Kept b B X (Y.alloc o):=h.grown (World.grownBy_alloc Y o none) hb hB (by simp)
theorem Kept.setCell {b B:Nat} {X Y:World} (h:Kept b B X Y) {k o:Nat} (h1:b ≠ k) (h2:B ≠ k) (v:Value):Kept b B X (Y.setCell ⟨k,o,none⟩ v) :=
 ⟨by rw [show (Y.setCell ⟨k,o,none⟩ v).heap.size=Y.heap.size by simp [World.setCell]];exact h.1,fun i hi => (Below.heap_setCell Y _ v i (by rcases hi with rfl | rfl <;> assumption)).trans (h.2 i hi)⟩
def Blk (W:World) (B:Nat) (cs:Array Value) (t:TypeId):Prop:=W.heap[B]? = some (.cells cs t (0,0))
theorem Blk.lt {W:World} {B:Nat} {cs:Array Value} {t:TypeId} (h:Blk W B cs t):B < W.heap.size:=(Array.getElem?_eq_some_iff.1 h).1
theorem Blk.kept {W W':World} {B:Nat} {cs:Array Value} {t:TypeId} {row:Option Nat} (h:Blk W B cs t) (g:W.grownBy W' row) (hne:some B ≠ row):Blk W' B cs t:=(g.block B h.lt hne).trans h
theorem Blk.alloc {W:World} {B:Nat} {cs:Array Value} {t:TypeId} (h:Blk W B cs t) (o:Obj):Blk (W.alloc o) B cs t:=h.kept (World.grownBy_alloc W o none) (by simp)
theorem Blk.drew {W:World} {B:Nat} {cs:Array Value} {t:TypeId} (h:Blk W B cs t):Blk W.drew B cs t:=h
theorem Blk.new (W:World) (cs:Array Value) (t:TypeId):Blk (W.alloc (.cells cs t)) W.heap.size cs t:=World.alloc_heap_new W _
theorem Blk.grown {W W':World} {B:Nat} {cs:Array Value} {t:TypeId} (h:Blk W B cs t) (g:Grew W W'):Blk W' B cs t:=(g.block B h.lt).trans h
theorem Blk.one {W:World} {B:Nat} {v:Value} {t:TypeId} (h:Blk W B #[v] t):W.cell? ⟨B,0,none⟩=some v∧W.frozen? ⟨B,0,none⟩=false:=by simp [World.cell?,World.frozen?,show W.heap[B]? = _ from h]
theorem Blk.two {W:World} {B:Nat} {u v:Value} {t:TypeId} (h:Blk W B #[u,v] t):(W.cell? ⟨B,0,none⟩=some u∧W.cell? ⟨B,1,none⟩=some v)∧W.frozen? ⟨B,0,none⟩=false∧W.frozen? ⟨B,1,none⟩=false:=by simp [World.cell?,World.frozen?,show W.heap[B]? = _ from h]
theorem Blk.other {W:World} {B B' o:Nat} {cs:Array Value} {t:TypeId} (h:Blk W B cs t) (hne:B ≠ B') (u:Value):Blk (W.setCell ⟨B',o,none⟩ u) B cs t:=(Below.heap_setCell _ _ _ B hne).trans h
theorem Blk.set {W:World} {B o:Nat} {cs:Array Value} {t:TypeId} (v:Value) (h:Blk W B cs t):Blk (W.setCell ⟨B,o,none⟩ v) B (cs.setIfInBounds o v) t:=by
 obtain ⟨hlt,hk⟩:=Array.getElem?_eq_some_iff.1 h
 show (W.heap.modify B _)[B]? = _
 rw [Array.getElem?_eq_getElem (by rw [Array.size_modify];exact hlt),Array.getElem_modify_self,hk]
 rfl
theorem Blk.put0 {W:World} {B:Nat} {u v:Value} {t:TypeId} (h:Blk W B #[u] t):Blk (W.setCell ⟨B,0,none⟩ v) B #[v] t:=h.set v
theorem Blk.put2 {W:World} {B:Nat} {u v u' v':Value} {t:TypeId} (h:Blk W B #[u,v] t):Blk ((W.setCell ⟨B,0,none⟩ u').setCell ⟨B,1,none⟩ v') B #[u',v'] t:=(h.set (o:=0) u').set (o:=1) v'
theorem blk_own {β:Type} (B:Nat) (t:TypeId) (f:β→Array Value):Go.Own (fun s W => Blk W B (f s) t):=fun s X Y row hs hg hrow =>
 hs.kept hg (fun e' => by obtain ⟨o,ho,hc⟩:=hrow B e'.symm;rw [show X.heap[B]? = _ from hs] at ho;cases ho;cases hc)
end Hl
end Go.Proofs.YtbpgfenippiepaaGreatDoor
namespace Go.Proofs.YtbpgfenippiepaaGreatDoor
open Go.RowKit
namespace Hl
structure Leaves (B C:Nat) (w w':World):Prop where
 os:w'.os=w.os
 tape:w'.tape=w.tape
 output:w'.output=w.output
 size:w.heap.size≤w'.heap.size
 block:∀ k,k < B→k ≠ C→w'.heap[k]? = w.heap[k]?
theorem Leaves.refl (B C:Nat) (w:World):Leaves B C w w:=⟨rfl,rfl,rfl,Nat.le_refl _,fun _ _ _ => rfl⟩
theorem Leaves.trans {B C:Nat} {a b c:World} (h:Leaves B C a b) (k:Leaves B C b c):Leaves B C a c:=⟨k.os.trans h.os,k.tape.trans h.tape,k.output.trans h.output,Nat.le_trans h.size k.size,fun i h1 h2 => (k.block i h1 h2).trans (h.block i h1 h2)⟩
theorem Leaves.grown {B C:Nat} {a b c:World} {row:Option Nat} (h:Leaves B C a b) (g:b.grownBy c row) (hB:B≤b.heap.size) (hr:∀ k,row=some k→B≤k∨k=C):Leaves B C a c :=
 h.trans ⟨g.os,g.tape,g.output,g.size,fun k h1 h2 => g.block k (by omega) (fun e => by rcases hr k e.symm with h | h <;> omega)⟩
theorem Leaves.grew {B C:Nat} {a b c:World} (h:Leaves B C a b) (g:Grew b c) (hB:B≤b.heap.size):Leaves B C a c :=
 h.trans ⟨g.os,g.tape,g.output,g.size,fun k h1 _ => g.block k (by omega)⟩
theorem Leaves.toGrew {B C:Nat} {w W w':World} (h:Leaves B C W w') (g:Grew w W) (hB:w.heap.size≤B) (hC:w.heap.size≤C):Grew w w' :=
 ⟨h.os.trans g.os,h.tape.trans g.tape,h.output.trans g.output,Nat.le_trans g.size h.size,fun k hk => (h.block k (by omega) (by omega)).trans (g.block k hk)⟩
theorem Leaves.blk {B C b:Nat} {w w':World} {cs:Array Value} {t:TypeId} (h:Leaves B C w w') (hb:Blk w b cs t) (hg:b < B) (hc:b ≠ C):Blk w' b cs t:=(h.block b hg hc).trans hb
theorem gb_set (w:World) (g o:Nat) (v:Value):w.grownBy (w.setCell ⟨g,o,none⟩ v) (some g):=⟨rfl,rfl,rfl,by simp [World.setCell],fun k _ hk => Below.heap_setCell _ _ _ k (fun e => hk (by rw [e]))⟩
end Hl
end Go.Proofs.YtbpgfenippiepaaGreatDoor
