/-
  The reference implementation of layer 3: what speaks of single places.
  Plain integers: quotients rounded down and up, and what is known of them. No Go, no program.
  The table of the first quarter's rays, in a world where it is as its text lays it; it stays as memory grows.
  The functions of package exact, one contract each: what each returns, in a world that has at most new blocks.
  Scale of package exact, and what it calls.
  The landed Scale, where its results are in range: what was there stays.
-/
import Derived.WalkKit
import Derived.WalkSpells
import Derived.WalkLawsBesides
import Derived.RowKit3
import Derived.Below
import Derived.Handy
import Derived.Lib.Hide
import Derived.Deep.QuietTactic
import Derived.BigQuiet
import Derived.Deep.RegionHeld3
import Derived.Test.YtbpgfenippiepaaGreatDoorRows
import Derived.Test.YtbpgfenippiepaaGreatDoorHullGeo
import Derived.Lib.LaidU8
import Derived.Lib.SmallJoins
import Derived.MakeChecks
import Derived.Test.YtbpgfenippiepaaGreatDoorRayDir
namespace Go.Proofs.YtbpgfenippiepaaGreatDoor
open Go.RowKit
namespace Hl
def Grew (W w:World):Prop:=Below W.heap.size W w
theorem Grew.refl (W:World):Grew W W:=Below.refl _ _
theorem Grew.size {W w:World} (h:Grew W w):W.heap.size≤w.heap.size:=Below.size h
theorem Grew.trans {a b c:World} (h:Grew a b) (k:Grew b c):Grew a c:=Below.trans h (Below.mono k h.size)
theorem Grew.alloc {W w:World} (h:Grew W w) (c:Array Value) (t:TypeId):Grew W (w.alloc (.cells c t)):=Below.alloc h h.size _
theorem Grew.setCell {W w:World} (h:Grew W w) {a:Addr} (ha:W.heap.size≤a.block) (v:Value):Grew W (w.setCell a v):=Below.setCell h ha v
theorem Grew.drew {W w:World} (h:Grew W w):Grew W w.drew:=Below.drew h
theorem Grew.drewN {W w:World} (h:Grew W w) (n:Nat):Grew W (w.drewN n):=⟨h.os,h.tape,h.output,h.size,h.block⟩
theorem Grew.grown {W w w':World} {row:Option Nat} (h:Grew W w) (hg:w.grownBy w' row) (hr:∀ k,row=some k→W.heap.size≤k):Grew W w':=Below.grown h hg h.size hr
theorem gw {W w:World} (h:Grew W w:=by repeat' (first|(with_reducible first|exact Grew.refl _|assumption|refine Grew.alloc ?_ _ _|refine Grew.drew ?_|refine Grew.drewN ?_ _|refine Grew.setCell ?_ ?_ _)|go_size)):Grew W w:=h
theorem Grew.cell {W w:World} (h:Grew W w) {b o:Nat} (hb:b < W.heap.size):w.cell? ⟨b,o,none⟩=W.cell? ⟨b,o,none⟩:=Below.cell (p:=⟨b,o,none⟩) h hb
theorem laid {W w:World} (h:Grew W w):(∀ b o,b < W.heap.size→w.cell? ⟨b,o,none⟩=W.cell? ⟨b,o,none⟩)∧(∀ b o,b < W.heap.size→w.frozen? ⟨b,o,none⟩=W.frozen? ⟨b,o,none⟩)∧W.heap.size≤w.heap.size :=
 ⟨fun _ _ hb => Grew.cell h hb,fun b o hb => Below.frozen (p:=⟨b,o,none⟩) h hb,h.size⟩
def Plc (x:Pt):Prop:=(-500000≤x.1∧x.1≤500000)∧(-500000≤x.2∧x.2≤500000)
instance (x:Pt):Decidable (Plc x):=by unfold Plc;infer_instance
theorem place_yes (x y:Int) (w:World) (h:Plc (x,y)):Calls Tryz.prog 19 #[.agg #[.int .i64 x,.int .i64 y]] w fun e w' => e=.returned (.bool true)∧Grew w w':=by
 obtain ⟨⟨h0,h1⟩,⟨h2,h3⟩⟩:=h
 simp only at h0 h1 h2 h3
 go_enter Tryz.func19,Tryz.ntmps19
 go_wp2_with fail
 go_ret
 exact ⟨by first | rfl | (simp;omega),by exact gw⟩
theorem place_no (x y:Int) (w:World) (h:¬ Plc (x,y)):Calls Tryz.prog 19 #[.agg #[.int .i64 x,.int .i64 y]] w fun e w' => e=.returned (.bool false)∧Grew w w':=by
 by_cases h0:-500000≤x
 ·by_cases h1:x≤500000
  ·by_cases h2:-500000≤y
   ·have h3:500000 < y:=by
     by_cases h3:y≤500000
     ·exact absurd ⟨⟨h0,h1⟩,⟨h2,h3⟩⟩ h
     ·omega
    clear h
    go_enter Tryz.func19,Tryz.ntmps19
    go_wp2_with fail
    go_ret
    exact ⟨by first | rfl | (simp;omega),by exact gw⟩
   ·have h2:y < -500000:=by omega
    clear h
    go_enter Tryz.func19,Tryz.ntmps19
    go_wp2_with fail
    go_ret
    exact ⟨by first | rfl | (simp;omega),by exact gw⟩
  ·have h1:500000 < x:=by omega
   clear h
   go_enter Tryz.func19,Tryz.ntmps19
   go_wp2_with fail
   go_ret
   exact ⟨by first | rfl | (simp;omega),by exact gw⟩
 ·have h0:x < -500000:=by omega
  clear h
  go_enter Tryz.func19,Tryz.ntmps19
  go_wp2_with fail
  go_ret
  exact ⟨by first | rfl | (simp;omega),by exact gw⟩
theorem cr_bd {a b c:Pt} (ha:Plc a) (hb:Plc b) (hc:Plc c):(-1000000000000≤(b.1 - a.1) * (c.2 - a.2)∧(b.1 - a.1) * (c.2 - a.2)≤1000000000000)∧(-1000000000000≤(b.2 - a.2) * (c.1 - a.1)∧(b.2 - a.2) * (c.1 - a.1)≤1000000000000):=by
 have m:∀ x y:Int,-1000000≤x→x≤1000000→-1000000≤y→y≤1000000→-1000000000000≤x * y∧x * y≤1000000000000:=by
  intro x y h0 h1 h2 h3
  by_cases hx:0≤x
  ·have e1:=Int.mul_le_mul_of_nonneg_left h3 hx
   have e2:=Int.mul_le_mul_of_nonneg_left h2 hx
   omega
  ·have e1:=Int.mul_le_mul_of_nonpos_left (show x≤0 by omega) h3
   have e2:=Int.mul_le_mul_of_nonpos_left (show x≤0 by omega) h2
   omega
 obtain ⟨⟨a0,a1⟩,⟨a2,a3⟩⟩:=ha
 obtain ⟨⟨b0,b1⟩,⟨b2,b3⟩⟩:=hb
 obtain ⟨⟨c0,c1⟩,⟨c2,c3⟩⟩:=hc
 exact ⟨m _ _ (by omega) (by omega) (by omega) (by omega),m _ _ (by omega) (by omega) (by omega) (by omega)⟩
end Hl
end Go.Proofs.YtbpgfenippiepaaGreatDoor
namespace Go.Proofs.YtbpgfenippiepaaGreatDoor
namespace Ex
def fl (a b:Int):Int:=if 0 < b then a / b else (-a) / (-b)
def ce (a b:Int):Int:=-(fl (-a) b)
theorem ediv_is {a b q r:Int} (hb:0 < b) (h:r+b * q=a) (h0:0≤r) (h1:r < b):a / b=q :=
 ((Int.ediv_emod_unique hb).2 ⟨h,h0,h1⟩).1
theorem cut_facts (a b:Int) (_hb:b ≠ 0):b * a.tdiv b+a.tmod b=a∧(0≤a→0≤a.tmod b)∧(a≤0→a.tmod b≤0)∧(0 < b→a.tmod b < b∧-b < a.tmod b)∧(b < 0→a.tmod b < -b∧b < a.tmod b):=by
 refine ⟨Int.mul_tdiv_add_tmod a b,fun h => Int.tmod_nonneg b h,fun h => ?_,fun h => ?_,fun h => ?_⟩
 ·have:=Int.tmod_nonneg b (show (0:Int)≤-a by omega)
  rw [Int.neg_tmod] at this;omega
 ·have h1:=Int.tmod_lt_of_pos a h
  have h2:=Int.tmod_lt_of_pos (-a) h
  rw [Int.neg_tmod] at h2;omega
 ·have h1:=Int.tmod_lt_of_pos a (show (0:Int) < -b by omega)
  have h2:=Int.tmod_lt_of_pos (-a) (show (0:Int) < -b by omega)
  rw [Int.neg_tmod] at h2
  rw [Int.tmod_neg] at h1 h2;omega
theorem fl_whole {a b:Int} (hb:b ≠ 0) (h:a.tmod b=0):fl a b=a.tdiv b∧ce a b=a.tdiv b:=by
 obtain ⟨e,-,-,hp,hn⟩:=cut_facts a b hb
 have e1:b * -(a.tdiv b) = -(b * a.tdiv b):=Int.mul_neg _ _
 have e2:-b * (a.tdiv b) = -(b * a.tdiv b):=Int.neg_mul _ _
 have e3:-b * -(a.tdiv b)=b * a.tdiv b:=Int.neg_mul_neg _ _
 unfold ce fl
 by_cases h0:0 < b
 ·rw [if_pos h0,if_pos h0,ediv_is (q:=a.tdiv b) (r:=0) h0 (by omega) (by omega) (by omega),ediv_is (q:=-(a.tdiv b)) (r:=0) h0 (by omega) (by omega) (by omega)];omega
 ·rw [if_neg h0,if_neg h0,ediv_is (q:=a.tdiv b) (r:=0) (b:=-b) (by omega) (by omega) (by omega) (by omega),ediv_is (q:=-(a.tdiv b)) (r:=0) (b:=-b) (by omega) (by omega) (by omega) (by omega)];omega
theorem fl_above {a b:Int} (hb:b ≠ 0) (h:a.tmod b ≠ 0) (hs:(a.tmod b < 0)↔(b < 0)):fl a b=a.tdiv b∧ce a b=a.tdiv b+1:=by
 obtain ⟨e,-,-,hp,hn⟩:=cut_facts a b hb
 have e1:b * (-(a.tdiv b) - 1) = -(b * a.tdiv b) - b:=by rw [Int.mul_sub,Int.mul_neg,Int.mul_one]
 have e2:-b * (a.tdiv b) = -(b * a.tdiv b):=Int.neg_mul _ _
 have e3:-b * (-(a.tdiv b) - 1)=b * a.tdiv b+b:=by rw [Int.mul_sub,Int.neg_mul_neg,Int.mul_one];omega
 unfold ce fl
 by_cases h0:0 < b
 ·have hp:=hp h0
  rw [if_pos h0,if_pos h0,ediv_is (q:=a.tdiv b) (r:=a.tmod b) h0 (by omega) (by omega) (by omega),ediv_is (q:=-(a.tdiv b) - 1) (r:=b - a.tmod b) h0 (by omega) (by omega) (by omega)];omega
 ·have hn:=hn (by omega)
  rw [if_neg h0,if_neg h0,ediv_is (q:=a.tdiv b) (r:=-(a.tmod b)) (b:=-b) (by omega) (by omega) (by omega) (by omega),ediv_is (q:=-(a.tdiv b) - 1) (r:=-b+a.tmod b) (b:=-b) (by omega) (by omega) (by omega) (by omega)];omega
theorem fl_below {a b:Int} (hb:b ≠ 0) (h:a.tmod b ≠ 0) (hs:¬((a.tmod b < 0)↔(b < 0))):fl a b=a.tdiv b - 1∧ce a b=a.tdiv b:=by
 obtain ⟨e,-,-,hp,hn⟩:=cut_facts a b hb
 have e1:b * (a.tdiv b - 1)=b * a.tdiv b - b:=by rw [Int.mul_sub,Int.mul_one]
 have e2:b * -(a.tdiv b) = -(b * a.tdiv b):=Int.mul_neg _ _
 have e3:-b * (a.tdiv b - 1) = -(b * a.tdiv b)+b:=by rw [Int.mul_sub,Int.neg_mul,Int.mul_one];omega
 have e4:-b * -(a.tdiv b)=b * a.tdiv b:=Int.neg_mul_neg _ _
 unfold ce fl
 by_cases h0:0 < b
 ·have hp:=hp h0
  rw [if_pos h0,if_pos h0,ediv_is (q:=a.tdiv b - 1) (r:=b+a.tmod b) h0 (by omega) (by omega) (by omega),ediv_is (q:=-(a.tdiv b)) (r:=-(a.tmod b)) h0 (by omega) (by omega) (by omega)];omega
 ·have hn:=hn (by omega)
  rw [if_neg h0,if_neg h0,ediv_is (q:=a.tdiv b - 1) (r:=-b - a.tmod b) (b:=-b) (by omega) (by omega) (by omega) (by omega),ediv_is (q:=-(a.tdiv b)) (r:=a.tmod b) (b:=-b) (by omega) (by omega) (by omega) (by omega)];omega
theorem fl_spec (a:Int) {b:Int} (hb:0 < b):b * fl a b≤a∧a < b * fl a b+b:=by
 unfold fl;rw [if_pos hb]
 have h1:=Int.mul_ediv_add_emod a b
 have h2:=Int.emod_nonneg a (show b ≠ 0 by omega)
 have h3:=Int.emod_lt_of_pos a hb
 omega
theorem ce_spec (a:Int) {b:Int} (hb:0 < b):a≤b * ce a b∧b * ce a b < a+b:=by
 have h:=fl_spec (-a) hb
 unfold ce;rw [Int.mul_neg];omega
theorem fl_neg_neg (a b:Int) (hb:b ≠ 0):fl (-a) (-b)=fl a b:=by
 unfold fl
 by_cases h:0 < b
 ·rw [if_neg (by omega),if_pos h,Int.neg_neg,Int.neg_neg]
 ·rw [if_pos (by omega),if_neg h]
theorem ce_neg_neg (a b:Int) (hb:b ≠ 0):ce (-a) (-b)=ce a b:=by
 unfold ce;rw [fl_neg_neg _ _ hb]
theorem tdiv_bd (a b:Int) (_hb:b ≠ 0):-(a.natAbs:Int)≤a.tdiv b∧a.tdiv b≤a.natAbs:=by
 have h:=Int.natAbs_tdiv_le_natAbs a b
 omega
theorem sq_lt {a b:Int} (ha:0≤a) (h:a < b):a * a < b * b:=by
 have h1:a * a≤a * b:=Int.mul_le_mul_of_nonneg_left (by omega) ha
 have h2:a * b < b * b:=Int.mul_lt_mul_of_pos_right h (by omega)
 omega
end Ex
end Go.Proofs.YtbpgfenippiepaaGreatDoor
namespace Go.Proofs.YtbpgfenippiepaaGreatDoor
open Go.RowKit Hl
namespace Ry
def Tq (w:World):Prop:=0 < w.heap.size∧∀ j,j < 16→w.cell? ⟨0,j * 2,none⟩=some (.int .i64 (q0 j).1)∧w.cell? ⟨0,j * 2+1,none⟩=some (.int .i64 (q0 j).2)
theorem Tq.grew {W w:World} (g:Grew W w) (h:Tq W):Tq w :=
 ⟨Nat.lt_of_lt_of_le h.1 g.size,fun j hj => ⟨(g.cell h.1).trans (h.2 j hj).1,(g.cell h.1).trans (h.2 j hj).2⟩⟩
theorem q_data:(Rows.laid_landfall_ray_quarter:DataW Unit)=.agg ((List.range 16).map fun i => .agg ([(q0 i).1,(q0 i).2].map fun z => .lit (.int .i64 z))):=by kernel_rfl
theorem laidTq (W:World) (h:laidMetH Tryz.prog [("landfall/ray.quarter",Rows.laid_landfall_ray_quarter)] W):Tq W:=by
 rw [MakeChecks.laidMetH_plain _ _ _ (by kernel_rfl)] at h
 have h:=Lib.laidMet.reads h (n:="landfall/ray.quarter") (d:=Rows.laid_landfall_ray_quarter) (by simp)
 rw [q_data] at h
 obtain ⟨g,t,cs,fuel,p,hg,hty,hvar,hd⟩:=h
 obtain rfl:=Option.some.inj ((show Tryz.prog.globalNamed "landfall/ray.quarter" = some 0 by kernel_rfl).symm.trans hg)
 obtain rfl:=Option.some.inj ((show (Tryz.prog.globals[0]?).map (·.type)=some 145 by kernel_rfl).symm.trans hty)
 have key:∀ j,j < 16→cs[j * 2]? = some (.int .i64 (q0 j).1)∧cs[j * 2+1]? = some (.int .i64 (q0 j).2):=fun i hi => by
  obtain ⟨fuel',d,q,hdi,he⟩:=Lib.array_elem Tryz.underlying145 hd i hi
  simp only [List.getElem?_map,List.getElem?_range hi,Option.map_some,Option.some.injEq] at hdi
  subst hdi
  have c2:Tryz.prog.cellsOf 24 = 2:=by kernel_rfl
  have c1:Tryz.prog.cellsOf 3 = 1:=by kernel_rfl
  rw [c2] at he
  have hcs:=Lib.ints_of_struct Tryz.underlying24 (fun j f hj => by
   match j,hj with
   | 0,hj => simp at hj;subst hj;exact ⟨Tryz.underlying3,rfl,c1⟩
   | 1,hj => simp at hj;subst hj;exact ⟨Tryz.underlying3,rfl,c1⟩
   | j+2,hj => simp at hj) (by rw [c2];rfl) he
  have e0:=congrArg (·[0]?) hcs
  have e1:=congrArg (·[1]?) hcs
  simp only [List.getElem?_take,List.getElem?_drop] at e0 e1
  constructor
  ·rw [← Array.getElem?_toList]
   simpa using e0
  ·rw [← Array.getElem?_toList]
   simpa using e1
 have hlt:0 < W.heap.size:=by
  unfold World.var? at hvar
  rw [hg] at hvar
  simp only [Option.bind_some] at hvar
  rcases Nat.lt_or_ge 0 W.heap.size with h' | h'
  ·exact h'
  ·rw [Array.getElem?_eq_none h'] at hvar;cases hvar
 refine ⟨hlt,fun j hj => ⟨?_,?_⟩⟩
 ·rw [World.var?_cell hg hvar (j * 2)]
  exact (key j hj).1
 ·rw [World.var?_cell hg hvar (j * 2+1)]
  exact (key j hj).2
end Ry
end Go.Proofs.YtbpgfenippiepaaGreatDoor
namespace Go.Proofs.YtbpgfenippiepaaGreatDoor
open Go.RowKit
namespace Ex
theorem Grown.trans {a b c:World} (h:Grown a b) (k:Grown b c):Grown a c:=by
 refine ⟨?_,fun x => (k.2.1 x).trans (h.2.1 x),Nat.le_trans h.2.2 k.2.2⟩
 exact World.keptBut_trans h.1 (World.keptBut_mono (fun _ f => f.elim) k.1)
theorem isFrom_yes (n lo hi:Int) (h0:lo≤n) (h1:n≤hi) (w:World) :
  Calls Tryz.prog 176 #[.int .i64 n,.int .i64 lo,.int .i64 hi] w fun e w' => e=.returned (.bool true)∧w=w':=by
 go_enter Tryz.func176,Tryz.ntmps176
 go_wp2
 go_ret
 exact ⟨rfl,rfl⟩
theorem isSpanned_yes (n:Int) (h0:-1000000000000≤n) (h1:n≤1000000000000) (w:World) :
  Calls Tryz.prog 175 #[.int .i64 n] w fun e w' => e=.returned (.bool true)∧w=w':=by
 go_enter Tryz.func175,Tryz.ntmps175
 go_wp2_with fail
 refine (isFrom_yes _ _ _ (by omega) (by omega) _).mono ?_
 rintro e w' ⟨rfl,rfl⟩
 go_wp2_with fail
 go_ret
 exact ⟨rfl,rfl⟩
theorem toward_any (way:Int) (w:World) :
  Calls Tryz.prog 178 #[.int .i64 way] w fun e w' => e=.returned (.func (.func 201) #[] #[.pointer (some ⟨w.heap.size,0,none⟩)])∧w.alloc (.cells #[.int .i64 way] 3)=w':=by
 have hmf:∀ (fn:Fn) (first cap:Array Value) (w:World),(Instr.makeFunc fn first cap).run Tryz.prog w=.ok (.func fn first cap) w:=fun _ _ _ _ => rfl
 go_enter Tryz.func178,Tryz.ntmps178
 go_wp2
 go_ret
 exact ⟨rfl,rfl⟩
theorem stepDown (p:Addr) (above:Bool) (w:World) (hc:w.cell? p=some (.int .i64 (-1))) :
  Calls Tryz.prog 201 #[.bool above,.pointer (some p)] w fun e w' => e=.returned (.int .i64 (if above then 0 else -1))∧w=w':=by
 cases above
 ·go_enter Tryz.func201,Tryz.ntmps201
  go_wp2
  go_ret
  exact ⟨rfl,rfl⟩
 ·go_enter Tryz.func201,Tryz.ntmps201
  go_wp2
  go_ret
  exact ⟨rfl,rfl⟩
theorem stepUp (p:Addr) (above:Bool) (w:World) (hc:w.cell? p=some (.int .i64 1)) :
  Calls Tryz.prog 201 #[.bool above,.pointer (some p)] w fun e w' => e=.returned (.int .i64 (if above then 1 else 0))∧w=w':=by
 cases above
 ·go_enter Tryz.func201,Tryz.ntmps201
  go_wp2
  go_ret
  exact ⟨rfl,rfl⟩
 ·go_enter Tryz.func201,Tryz.ntmps201
  go_wp2
  go_ret
  exact ⟨rfl,rfl⟩
set_option maxHeartbeats 400000 in
theorem quotDown (a b:Int) (p:Addr) (w:World) (hc:w.cell? p=some (.int .i64 (-1))) (hb:b ≠ 0) (ha:-1000000000000000000≤a∧a≤1000000000000000000) :
  Calls Tryz.prog 177 #[.int .i64 a,.int .i64 b,.func (.func 201) #[] #[.pointer (some p)]] w fun e w' => e=.returned (.int .i64 (fl a b))∧∃ n,w.drewN n=w':=by
 obtain ⟨q0,q1⟩:=tdiv_bd a b hb
 have q2:-1000000000000000000≤a.tdiv b:=by omega
 have q3:a.tdiv b≤1000000000000000000:=by omega
 clear q0 q1
 by_cases h:a.tmod b=0
 ·have H:=Lib.hid (fl_whole hb h).1
  have h':(a.tmod b == 0)=true:=by simp [h]
  clear h
  go_enter Tryz.func177,Tryz.ntmps177
  go_wp2
  go_quiet (fail)
  go_wp2_with fail
  go_ret
  exact ⟨by rw [H.out];rfl,_,rfl⟩
 ·have h':(a.tmod b == 0)=false:=by simp [h]
  by_cases hs:(a.tmod b < 0)↔(b < 0)
  ·have H:=Lib.hid (fl_above hb h hs).1
   have h2:(decide (a.tmod b < 0) == decide (b < 0))=true:=by simp [hs]
   clear h hs
   go_enter Tryz.func177,Tryz.ntmps177
   go_wp2
   go_quiet (fail)
   go_wp2_with fail
   refine (stepDown p _ _ (by simpa using hc)).mono ?_
   rintro e w' ⟨rfl,rfl⟩
   go_wp2_with fail
   go_ret
   exact ⟨by rw [H.out];rfl,_,rfl⟩
  ·have H:=Lib.hid (fl_below hb h hs).1
   have h2:(decide (a.tmod b < 0) == decide (b < 0))=false:=by simp;exact hs
   clear h hs
   go_enter Tryz.func177,Tryz.ntmps177
   go_wp2
   go_quiet (fail)
   go_wp2_with fail
   refine (stepDown p _ _ (by simpa using hc)).mono ?_
   rintro e w' ⟨rfl,rfl⟩
   go_wp2_with fail
   go_ret
   exact ⟨by rw [H.out];rfl,_,rfl⟩
set_option maxHeartbeats 400000 in
theorem quotUp (a b:Int) (p:Addr) (w:World) (hc:w.cell? p=some (.int .i64 1)) (hb:b ≠ 0) (ha:-1000000000000000000≤a∧a≤1000000000000000000) :
  Calls Tryz.prog 177 #[.int .i64 a,.int .i64 b,.func (.func 201) #[] #[.pointer (some p)]] w fun e w' => e=.returned (.int .i64 (ce a b))∧∃ n,w.drewN n=w':=by
 obtain ⟨q0,q1⟩:=tdiv_bd a b hb
 have q2:-1000000000000000000≤a.tdiv b:=by omega
 have q3:a.tdiv b≤1000000000000000000:=by omega
 clear q0 q1
 by_cases h:a.tmod b=0
 ·have H:=Lib.hid (fl_whole hb h).2
  have h':(a.tmod b == 0)=true:=by simp [h]
  clear h
  go_enter Tryz.func177,Tryz.ntmps177
  go_wp2
  go_quiet (fail)
  go_wp2_with fail
  go_ret
  exact ⟨by rw [H.out];rfl,_,rfl⟩
 ·have h':(a.tmod b == 0)=false:=by simp [h]
  by_cases hs:(a.tmod b < 0)↔(b < 0)
  ·have H:=Lib.hid (fl_above hb h hs).2
   have h2:(decide (a.tmod b < 0) == decide (b < 0))=true:=by simp [hs]
   clear h hs
   go_enter Tryz.func177,Tryz.ntmps177
   go_wp2
   go_quiet (fail)
   go_wp2_with fail
   refine (stepUp p _ _ (by simpa using hc)).mono ?_
   rintro e w' ⟨rfl,rfl⟩
   go_wp2_with fail
   go_ret
   exact ⟨by rw [H.out];rfl,_,rfl⟩
  ·have H:=Lib.hid (fl_below hb h hs).2
   have h2:(decide (a.tmod b < 0) == decide (b < 0))=false:=by simp;exact hs
   clear h hs
   go_enter Tryz.func177,Tryz.ntmps177
   go_wp2
   go_quiet (fail)
   go_wp2_with fail
   refine (stepUp p _ _ (by simpa using hc)).mono ?_
   rintro e w' ⟨rfl,rfl⟩
   go_wp2_with fail
   go_ret
   exact ⟨by rw [H.out];rfl,_,rfl⟩
theorem Grown.drewN {W w:World} (h:Grown W w) (n:Nat):Grown W (w.drewN n):=h
end Ex
end Go.Proofs.YtbpgfenippiepaaGreatDoor
namespace Go.Proofs.YtbpgfenippiepaaGreatDoor
open Go.RowKit
namespace Ex
def lim (n:Int):Int:=if n < -1000000000000 then -1000000000000 else if 1000000000000 < n then 1000000000000 else n
theorem lim_in {n:Int} (h:-1000000000000≤n∧n≤1000000000000):lim n=n:=by unfold lim;rw [if_neg (by omega),if_neg (by omega)]
theorem limit_any (n:Int) (w:World) :
  Calls Tryz.prog 202 #[.int .i64 n] w fun e w' => e=.returned (.int .i64 (lim n))∧w=w':=by
 by_cases h:n < -1000000000000
 ·have H:Hid (lim n = -1000000000000):=Lib.hid (by unfold lim;rw [if_pos h])
  have h2:n≤1000000000000:=by omega
  have h3:n≤-1000000000000:=by omega
  go_enter Tryz.func202,Tryz.ntmps202
  go_wp2
  all_goals (go_ret;exact ⟨by rw [H.out];first | rfl | (simp;omega),rfl⟩)
 ·by_cases h1:1000000000000 < n
  ·have H:Hid (lim n=1000000000000):=Lib.hid (by unfold lim;rw [if_neg h,if_pos h1])
   go_enter Tryz.func202,Tryz.ntmps202
   go_wp2
   all_goals (go_ret;exact ⟨by rw [H.out];first | rfl | (simp;omega),rfl⟩)
  ·have H:Hid (lim n=n):=Lib.hid (lim_in ⟨by omega,by omega⟩)
   have h2:n≤1000000000000:=by omega
   have h3:-1000000000000≤n:=by omega
   go_enter Tryz.func202,Tryz.ntmps202
   go_wp2
   all_goals (go_ret;exact ⟨by rw [H.out];first | rfl | (simp;omega),rfl⟩)
theorem Grown.cell {W w:World} (h:Grown W w) {b o:Nat} (hb:b < W.heap.size):w.cell? ⟨b,o,none⟩=W.cell? ⟨b,o,none⟩ :=
 World.keptBut.cell h.1 hb (fun f => f)
def Sc (n a b:Int):Prop:=(-1000000000000≤n∧n≤1000000000000)∧(0≤a∧a≤1000000)∧(1≤b∧b≤1000000)
def Sp (n:Int):Prop:=-1000000000000≤n∧n≤1000000000000
theorem mul_bd {n a:Int} (hn:-1000000000000≤n∧n≤1000000000000) (ha:0≤a∧a≤1000000):-1000000000000000000≤n * a∧n * a≤1000000000000000000:=by
 have h1:n * a≤1000000000000 * a:=Int.mul_le_mul_of_nonneg_right hn.2 ha.1
 have h2:-1000000000000 * a≤n * a:=Int.mul_le_mul_of_nonneg_right hn.1 ha.1
 omega
end Ex
end Go.Proofs.YtbpgfenippiepaaGreatDoor
namespace Go.Proofs.YtbpgfenippiepaaGreatDoor
open Go.RowKit Hl Ex
namespace Ry
theorem limited_g (lo hi:Int) (w:World) :
  Calls Tryz.prog 179 #[.agg #[.int .i64 lo,.int .i64 hi]] w fun e w' => e=.returned (.agg #[.int .i64 (lim lo),.int .i64 (lim hi)])∧Grew w w':=by
 go_enter Tryz.func179,Tryz.ntmps179
 go_wp2_with fail
 go_region_held3 (fun w' => w'.cell? ⟨w.heap.size,0,none⟩=some (.int .i64 lo)∧w'.cell? ⟨w.heap.size,1,none⟩=some (.int .i64 hi)) (simp [go_sem,World.cell?_alloc_past])
  (first | (go_at_call 202;refine (limit_any _ _).mono ?_;rintro e w' ⟨rfl,rfl⟩))
 go_wp2_with fail
 refine bodyPost_ret (v:=.agg #[.int .i64 (lim lo),.int .i64 (lim hi)]) (by simp [results,Tryz.results179,go_sem]) rfl ⟨rfl,?_⟩
 repeat' (first | exact Grew.refl _ | apply Grew.drew | apply Grew.alloc)
theorem limited_keep_g (lo hi:Int) (b:Nat) (x y:Value) (w:World) (hb:b < w.heap.size) (h0:w.cell? ⟨b,0,none⟩=some x) (h1:w.cell? ⟨b,1,none⟩=some y) :
  Calls Tryz.prog 179 #[.agg #[.int .i64 lo,.int .i64 hi]] w fun e w' => e=.returned (.agg #[.int .i64 (lim lo),.int .i64 (lim hi)])∧Grew w w'∧w'.cell? ⟨b,0,none⟩=some x∧w'.cell? ⟨b,1,none⟩=some y :=
 (limited_g lo hi w).mono fun _ _ ⟨he,hg⟩ => ⟨he,hg,(Grew.cell hg hb).trans h0,(Grew.cell hg hb).trans h1⟩
theorem limited_in_g (lo hi:Int) (h:(-1000000000000≤lo∧lo≤1000000000000)∧(-1000000000000≤hi∧hi≤1000000000000)) (b:Nat) (x y:Value) (w:World) (hb:b < w.heap.size) (h0:w.cell? ⟨b,0,none⟩=some x) (h1:w.cell? ⟨b,1,none⟩=some y) :
  Calls Tryz.prog 179 #[.agg #[.int .i64 lo,.int .i64 hi]] w fun e w' => e=.returned (.agg #[.int .i64 lo,.int .i64 hi])∧Grew w w'∧w'.cell? ⟨b,0,none⟩=some x∧w'.cell? ⟨b,1,none⟩=some y:=by
 have H:=limited_keep_g lo hi b x y w hb h0 h1
 rw [lim_in h.1,lim_in h.2] at H
 exact H
set_option maxRecDepth 100000 in
set_option maxHeartbeats 400000 in
theorem scale_g (n a b:Int) (w:World) (h:Sc n a b) (h1:Sp (fl (n * a) b)) (h2:Sp (ce (n * a) b)) :
  Calls Tryz.prog 138 #[.int .i64 n,.int .i64 a,.int .i64 b] w fun e w' => e=.returned (.tuple #[.int .i64 (fl (n * a) b),.int .i64 (ce (n * a) b),.int .i64 0])∧Grew w w':=by
 obtain ⟨⟨n0,n1⟩,⟨a0,a1⟩,⟨b0,b1⟩⟩:=h
 obtain ⟨m0,m1⟩:=mul_bd ⟨n0,n1⟩ ⟨a0,a1⟩
 have Hb:Hid (b ≠ 0):=Lib.hid (by omega)
 have HH:Hid ((-1000000000000≤fl (n * a) b∧fl (n * a) b≤1000000000000)∧(-1000000000000≤ce (n * a) b∧ce (n * a) b≤1000000000000)):=Lib.hid ⟨h1,h2⟩
 clear h1 h2
 go_enter Tryz.func138,Tryz.ntmps138
 go_wp2_with fail
 refine (isSpanned_yes _ n0 n1 _).mono ?_
 rintro e w' ⟨rfl,rfl⟩
 go_wp2_with fail
 refine (isFrom_yes _ _ _ a0 a1 _).mono ?_
 rintro e w' ⟨rfl,rfl⟩
 go_wp2_with fail
 refine (isFrom_yes _ _ _ b0 b1 _).mono ?_
 rintro e w' ⟨rfl,rfl⟩
 go_wp2_with fail
 refine (toward_any _ _).mono ?_
 rintro e w' ⟨rfl,rfl⟩
 go_wp2_with fail
 refine (quotDown _ _ _ _ (by simp [go_sem]) Hb.out ⟨m0,m1⟩).mono ?_
 rintro e w' ⟨rfl,k1,rfl⟩
 go_wp2_with fail
 refine (toward_any _ _).mono ?_
 rintro e w' ⟨rfl,rfl⟩
 go_wp2_with fail
 refine (quotUp _ _ _ _ (by simp [go_sem]) Hb.out ⟨m0,m1⟩).mono ?_
 rintro e w' ⟨rfl,k2,rfl⟩
 go_wp2_with fail
 go_region_held3 (fun w' => w'.cell? ⟨w.heap.size+1+1,0,none⟩=some (.int .i64 (fl (n * a) b))∧w'.cell? ⟨w.heap.size+1+1,1,none⟩=some (.int .i64 (ce (n * a) b))) (first | (simp [go_sem];done) | exact ⟨by assumption,by assumption⟩)
  (first | (go_at_call 179;refine (limited_in_g _ _ HH.out (w.heap.size+1+1) (.int .i64 (fl (n * a) b)) (.int .i64 (ce (n * a) b)) _ ?_ ?_ ?_).mono ?_;(simp [go_sem]);(simp [go_sem]);(simp [go_sem]);rintro e w' ⟨rfl,hg,c0,c1⟩))
 have hG:Hid (Grew w w'):=Lib.hid (Grew.trans (by repeat' (first | exact Grew.refl _ | apply Grew.drew | apply Grew.drewN | apply Grew.alloc)) hg)
 clear hg
 go_wp2_with fail
 go_quiet (fail)
 go_wp2_with fail
 go_ret3
 exact ⟨rfl,Grew.drewN hG.out _⟩
end Ry
end Go.Proofs.YtbpgfenippiepaaGreatDoor
