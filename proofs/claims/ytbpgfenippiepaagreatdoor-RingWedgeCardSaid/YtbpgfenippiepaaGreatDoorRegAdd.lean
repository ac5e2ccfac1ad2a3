/-
  Lists of polygons, without a program: a polygon more in a tidied list; the eight-sided hull of all, one after the other.
  The landed package region: what is asked of each polygon of a list; Valid, has, Has.
-/
import Derived.Test.YtbpgfenippiepaaGreatDoorHullFrame
import Derived.Test.YtbpgfenippiepaaGreatDoorHullInB
import Derived.Test.YtbpgfenippiepaaGreatDoorRegSl
import Derived.Test.YtbpgfenippiepaaGreatDoorHullCa
namespace Go.Proofs.YtbpgfenippiepaaGreatDoor
open Go.RowKit Hl
namespace Rg
theorem nth_left {L M:Rgn} {i:Nat} (h:i < L.length):nth (L ++ M) i=nth L i:=by
 unfold nth
 simp [List.getD,List.getElem?_append_left h]
theorem nth_last (L:Rgn) (x:List Pt):nth (L ++ [x]) L.length=x:=by
 unfold nth
 simp [List.getD]
def Inn (L:Rgn) (x:List Pt):Prop:=∃ p,p ∈ L∧Lies x p
instance decInn (L:Rgn) (x:List Pt):Decidable (Inn L x):=by unfold Inn;infer_instance
theorem inn_kept {L:Rgn} {x:List Pt} (hL:AllV L) (_hx:Vl x):Inn (kept L) x↔Inn L x:=by
 constructor
 ·rintro ⟨p,hp,h⟩
  exact ⟨p,kept_sub hp,h⟩
 ·rintro ⟨p,hp,h⟩
  obtain ⟨i,hi,rfl⟩:=mem_nth hp
  obtain ⟨k,hk,nk,g⟩:=up_some hL hi
  exact ⟨_,mem_keptN.2 ⟨k,hk,nk,rfl⟩,fun y hy => g y (h y hy)⟩
theorem up_app {L:Rgn} {x:List Pt} {i k:Nat} (hi:i < L.length) (hk:k < L.length):Up (L ++ [x]) i k↔Up L i k:=by
 unfold Up
 rw [nth_left hi,nth_left hk]
theorem keptN_app {L:Rgn} {x:List Pt} (b:Nat→Bool) (h:∀ i,i < L.length→covB (L ++ [x]) i=(covB L i || b i)):keptN (L ++ [x]) L.length=((List.range L.length).filter fun i => !covB L i && !b i).map (nth L):=by
 unfold keptN
 have e:(List.range L.length).filter (fun i => !covB (L ++ [x]) i)=(List.range L.length).filter fun i => !covB L i && !b i:=List.filter_congr fun i hi => by
  rw [h i (List.mem_range.1 hi)]
  cases covB L i <;> cases b i <;> rfl
 rw [e]
 exact List.map_congr_left fun i hi => nth_left (List.mem_range.1 (List.mem_filter.1 hi).1)
theorem app_len (L:Rgn) (x:List Pt):(L ++ [x]).length=L.length+1:=by simp
theorem kept_in {L:Rgn} {x:List Pt} (hL:AllV L) (hx:Vl x) (h:Inn L x):kept (L ++ [x])=kept L:=by
 obtain ⟨p,hp,hxp⟩:=h
 obtain ⟨j,hj,rfl⟩:=mem_nth hp
 have last:covB (L ++ [x]) L.length=true:=covB_iff.2 ⟨j,by rw [app_len];omega,by omega,by rw [nth_last,nth_left hj];exact hxp,Or.inr hj⟩
 have same:∀ i,i < L.length→covB (L ++ [x]) i=(covB L i || false):=fun i hi => by
  rw [Bool.or_false]
  apply Bool.eq_iff_iff.2
  rw [covB_iff,covB_iff]
  constructor
  ·rintro ⟨k,hk,u⟩
   rw [app_len] at hk
   by_cases c:k < L.length
   ·exact ⟨k,c,(up_app hi c).1 u⟩
   ·obtain rfl:k=L.length:=by omega
    obtain ⟨_,u1,u2⟩:=u
    rw [nth_last,nth_left hi] at u1 u2
    have ne:nth L i ≠ x:=u2.elim id fun h => by omega
    have v1:=(hL _ (nth_mem hi)).pg
    have v2:=(hL _ (nth_mem hj)).pg
    have t:=lies_trans hx.pg v2 u1 hxp
    have ne2:nth L i ≠ nth L j:=fun e => ne (lies_anti v1 hx.pg u1 (by rw [e];exact hxp))
    exact ⟨j,hj,fun e => ne2 (by rw [e]),t,Or.inl ne2⟩
  ·rintro ⟨k,hk,u⟩
   exact ⟨k,by rw [app_len];omega,(up_app hi hk).2 u⟩
 unfold kept
 rw [app_len,keptN_yes last,keptN_app (fun _ => false) same]
 unfold keptN
 simp
theorem kept_out {L:Rgn} {x:List Pt} (_hL:AllV L) (hx:Vl x) (h:¬ Inn L x):kept (L ++ [x])=((kept L).filter fun p => !decide (Lies p x)) ++ [x]:=by
 have last:covB (L ++ [x]) L.length=false:=covB_not.2 fun ⟨k,hk,u⟩ => by
  rw [app_len] at hk
  have c:k < L.length:=by have:=u.1;omega
  have u1:=u.2.1
  rw [nth_last,nth_left c] at u1
  exact h ⟨_,nth_mem c,u1⟩
 have same:∀ i,i < L.length→covB (L ++ [x]) i=(covB L i || decide (Lies (nth L i) x)):=fun i hi => by
  apply Bool.eq_iff_iff.2
  rw [Bool.or_eq_true,covB_iff,covB_iff,decide_eq_true_iff]
  constructor
  ·rintro ⟨k,hk,u⟩
   rw [app_len] at hk
   by_cases c:k < L.length
   ·exact Or.inl ⟨k,c,(up_app hi c).1 u⟩
   ·obtain rfl:k=L.length:=by omega
    have u1:=u.2.1
    rw [nth_last,nth_left hi] at u1
    exact Or.inr u1
  ·rintro (⟨k,hk,u⟩ | u)
   ·exact ⟨k,by rw [app_len];omega,(up_app hi hk).2 u⟩
   ·refine ⟨L.length,by rw [app_len];omega,by omega,?_,Or.inl ?_⟩
    ·rw [nth_last,nth_left hi];exact u
    ·rw [nth_last,nth_left hi]
     intro e
     refine h ⟨_,nth_mem hi,?_⟩
     rw [e]
     exact fun y hy => own_corner hx.pg hy
 unfold kept
 rw [app_len,keptN_no last,nth_last,keptN_app (fun i => decide (Lies (nth L i) x)) same]
 congr 1
 unfold keptN
 rw [List.filter_map,List.filter_filter]
 congr 1
 apply List.filter_congr
 intro i _
 simp only [Function.comp_apply]
 exact Bool.and_comm _ _
theorem min_app {A B A' B':List Pt} {u v m1 m2 m:Int} (hA:IsMin A u v m1) (hA':IsMin A' u v m1) (hB:IsMin B u v m2) (hB':IsMin B' u v m2) (h:IsMin (A ++ B) u v m):IsMin (B' ++ A') u v m:=by
 obtain ⟨⟨x,hx,ex⟩,hl⟩:=h
 have l1:m≤m1:=by
  obtain ⟨⟨y,hy,e⟩,_⟩:=hA
  have:=hl y (List.mem_append_left _ hy)
  omega
 have l2:m≤m2:=by
  obtain ⟨⟨y,hy,e⟩,_⟩:=hB
  have:=hl y (List.mem_append_right _ hy)
  omega
 refine ⟨?_,fun y hy => ?_⟩
 ·rcases List.mem_append.1 hx with g | g
  ·have:=hA.2 x g
   obtain ⟨⟨y,hy,e⟩,_⟩:=hA'
   exact ⟨y,List.mem_append_right _ hy,by omega⟩
  ·have:=hB.2 x g
   obtain ⟨⟨y,hy,e⟩,_⟩:=hB'
   exact ⟨y,List.mem_append_left _ hy,by omega⟩
 ·rcases List.mem_append.1 hy with g | g
  ·have:=hB'.2 y g
   omega
  ·have:=hA'.2 y g
   omega
def Dr8 (u v:Int):Prop:=(u=1∧(v = -1∨v=0∨v=1))∨((u = -1∨u=0)∧v=1)∨(u = -1∧(v = -1∨v=0))∨(u=0∧v = -1)
theorem oct_least8 {s r:List Pt} (h:IsOct s r) {u v:Int} (hd:Dr8 u v):∃ m,IsMin s u v m∧IsMin r u v m:=by
 obtain ⟨a,b,c,d,s,t,i,j,h1,h2,h3,h4,h5,h6,h7,h8,hq⟩:=h
 obtain ⟨B,K⟩:=bd_of h1 h2 h3 h4 h5 h6 h7 h8
 obtain ⟨m1,m2,m3,m4,m5,m6,m7,m8⟩:=oct_min B hq
 rcases hd with ⟨rfl,rfl | rfl | rfl⟩ | ⟨rfl | rfl,rfl⟩ | ⟨rfl,rfl | rfl⟩ | ⟨rfl,rfl⟩
 ·exact ⟨_,h7,m7⟩
 ·exact ⟨_,h1,m1⟩
 ·exact ⟨_,h5,m5⟩
 ·exact ⟨_,h8,m8⟩
 ·exact ⟨_,h3,m3⟩
 ·exact ⟨_,h6,m6⟩
 ·exact ⟨_,h2,m2⟩
 ·exact ⟨_,h4,m4⟩
theorem oct_of {h a' T:List Pt} (ha:IsOct h a') (H:∀ u v m,Dr8 u v→IsMin h u v m→IsMin T u v m):IsOct T a':=by
 obtain ⟨a,b,c,d,s,t,i,j,h1,h2,h3,h4,h5,h6,h7,h8,hq⟩:=ha
 exact ⟨a,b,c,d,s,t,i,j,H _ _ _ (by unfold Dr8;omega) h1,H _ _ _ (by unfold Dr8;omega) h2,H _ _ _ (by unfold Dr8;omega) h3,H _ _ _ (by unfold Dr8;omega) h4,H _ _ _ (by unfold Dr8;omega) h5,H _ _ _ (by unfold Dr8;omega) h6,H _ _ _ (by unfold Dr8;omega) h7,H _ _ _ (by unfold Dr8;omega) h8,hq⟩
theorem hull_least {L q:List Pt} (hq:IsHull L q) {u v m:Int} (h:IsMin q u v m):IsMin L u v m:=by
 obtain ⟨⟨x,hx,ex⟩,h2⟩:=h
 refine ⟨⟨x,hq.2.1 x hx,ex⟩,fun y hy => ?_⟩
 obtain ⟨j,hj,e⟩:=hs_least hq.1 (hq.2.2 y hy) u v 0
 have:=h2 _ (at_mem hj)
 unfold af at e
 omega
theorem oct_first {p o h a':List Pt} (hp:IsOct p o) (hh:IsHull o h) (ha:IsOct h a'):IsOct p a' :=
 oct_of ha fun u v m hd hm => by
  obtain ⟨m1,k1,k2⟩:=oct_least8 hp hd
  rw [(hull_least hh hm).one k2]
  exact k1
theorem oct_next {P p o a h a':List Pt} (hp:IsOct p o) (hP:IsOct P a) (hh:IsHull (o ++ a) h) (ha:IsOct h a'):IsOct (P ++ p) a' :=
 oct_of ha fun u v m hd hm => by
  obtain ⟨m1,k1,k2⟩:=oct_least8 hp hd
  obtain ⟨m2,g1,g2⟩:=oct_least8 hP hd
  exact min_app k2 k1 g2 g1 (hull_least hh hm)
def OctTo (L:Rgn) (a:List Pt):Prop:=(L=[]∧a=[])∨(L ≠ []∧IsOct L.flatten a)
theorem OctTo.step {L:Rgn} {p o a h a':List Pt} (g:OctTo L a) (hp:IsOct p o) (hh:IsHull (o ++ a) h) (ha:IsOct h a'):OctTo (L ++ [p]) a':=by
 refine Or.inr ⟨by simp,?_⟩
 rw [List.flatten_append,List.flatten_singleton]
 rcases g with ⟨rfl,rfl⟩ | ⟨_,g⟩
 ·rw [List.append_nil] at hh
  exact oct_first hp hh ha
 ·exact oct_next hp g hh ha
end Rg
end Go.Proofs.YtbpgfenippiepaaGreatDoor
namespace Go.Proofs.YtbpgfenippiepaaGreatDoor
open Go.RowKit Go.Shelf Hl
namespace Rg
def IdxSays (n:Nat) (d:Nat→Bool) (w:World) (e:Ending) (w':World):Prop:=∃ z:Int,e=.returned (.int .i64 z)∧Hid ((z = -1∧∀ j,j < n→d j=false)∨∃ k:Nat,k < n∧z=k∧d k=true∧∀ j,j < k→d j=false)∧Grew w w'
set_option maxRecDepth 100000 in
set_option maxHeartbeats 4000000 in
theorem index_r (f:Nat) (cb:Array Value) (eg:∀ args w,(callFunc f args).run Tryz.prog w=.ok (.enter f args) w) (d:Nat→Bool) (L:Rgn) (b o c:Nat) (w:World) (hr:Rw w b o L) (h2:L.length≤4000000)
  (hC:∀ i u W,i < L.length→Grew w W→Sl W u (nth L i)→Calls Tryz.prog f (#[u] ++ cb) W fun e w' => e=.returned (.bool (d i))∧Grew W w') :
  Calls Tryz.prog 86 #[.slice (some ⟨b,o,none⟩) L.length c,.func (.func f) #[] cb] w (IdxSays L.length d w):=by
 have HR:=Lib.hid hr
 have HC:=Lib.hid hC
 clear hr hC
 go_enter Tryz.func86,Tryz.ntmps86
 go_wp2_with fail
 go_loopw [5,8] (fun _ i wr => ∃ k:Nat,k≤L.length∧i=.int .i64 k∧Grew w wr∧Hid (∀ j,j < k→d j=false)) (fun _ i _ => L.length - (intOf i).toNat)
 case atStart => exact ⟨0,Nat.zero_le _,rfl,Grew.refl _,Lib.hid (fun j hj => by omega)⟩
 case round =>
  obtain ⟨k,hk,rfl,G,D⟩:=hrel
  by_cases hlt:k < L.length
  ·obtain ⟨u,q0,q1⟩:=(HR.out.grown G).2 k hlt
   have i0:(0:Int)≤(k:Int):=by omega
   have i1:(k:Int) < (L.length:Int):=by omega
   obtain ⟨r,hr⟩:∃ r,d k=r:=⟨_,rfl⟩
   have RD:=Lib.hid hr
   have CC:Hid (Calls Tryz.prog f (#[u] ++ cb) wr fun e w' => e=.returned (.bool r)∧Grew wr w'):=Lib.hid (by rw [← hr];exact HC.out k u wr hlt G q1)
   clear hr q1
   cases r
   ·go_wp2_with fail
    refine CC.out.mono ?_
    rintro e w1 ⟨rfl,g1⟩
    have G1:Grew w w1:=Grew.trans G g1
    clear g1
    go_wp2_with fail
    go_roundw
    case rel => exact ⟨k+1,by omega,by go_num,G1,Lib.hid (fun j hj => by
     by_cases e:j=k
     ·rw [e];exact RD.out
     ·exact D.out j (by omega))⟩
    case measure => simp [intOf];omega
   ·go_wp2_with fail
    refine CC.out.mono ?_
    rintro e w1 ⟨rfl,g1⟩
    have G1:Grew w w1:=Grew.trans G g1
    clear g1
    go_wp2_with fail
    go_ret
    exact ⟨k,rfl,Lib.hid (Or.inr ⟨k,hlt,rfl,RD.out,D.out⟩),G1⟩
  ·obtain rfl:k=L.length:=by omega
   have D':=Lib.hid D.out
   go_wp2_with fail
   go_ret
   exact ⟨-1,rfl,Lib.hid (Or.inl ⟨rfl,D'.out⟩),G⟩
theorem index_r0 (f:Nat) (cb:Array Value) (a:Option Addr) (c:Nat) (w:World):Calls Tryz.prog 86 #[.slice a 0 c,.func (.func f) #[] cb] w fun e w' => e=.returned (.int .i64 (-1))∧w=w':=by
 go_enter Tryz.func86,Tryz.ntmps86
 go_wp2_with fail
 go_loopw [5,8] (fun _ i wr => i=.int .i64 0∧w=wr) (fun _ _ _ => 0)
 case atStart => exact ⟨rfl,rfl⟩
 case round =>
  obtain ⟨rfl,rfl⟩:=hrel
  go_wp2_with fail
  go_ret
  exact ⟨rfl,rfl⟩
theorem contains_r (f:Nat) (cb:Array Value) (eg:∀ args w,(callFunc f args).run Tryz.prog w=.ok (.enter f args) w) (d:Nat→Bool) (L:Rgn) (v:Value) (w:World) (hs:Rl w v L) (h2:L.length≤4000000)
  (hC:∀ i u W,i < L.length→Grew w W→Sl W u (nth L i)→Calls Tryz.prog f (#[u] ++ cb) W fun e w' => e=.returned (.bool (d i))∧Grew W w') :
  Calls Tryz.prog 49 #[v,.func (.func f) #[] cb] w (Tells (∃ i,i < L.length∧d i=true) w):=by
 have IC:Calls Tryz.prog 86 #[v,.func (.func f) #[] cb] w (IdxSays L.length d w):=by
  obtain ⟨⟨rfl,a,c,rfl⟩ | ⟨b,o,c,rfl,hr⟩,_⟩:=hs
  ·refine (index_r0 f cb a c w).mono ?_
   rintro e w' ⟨rfl,rfl⟩
   exact ⟨-1,rfl,Lib.hid (Or.inl ⟨rfl,fun j hj => absurd hj (Nat.not_lt_zero j)⟩),Grew.refl _⟩
  ·exact index_r f cb eg d L b o c w hr h2 hC
 have IC:=Lib.hid IC
 obtain ⟨a,c,rfl⟩:=hs.shape
 clear hs hC
 go_enter Tryz.func49,Tryz.ntmps49
 go_wp2_with fail
 refine IC.out.mono ?_
 rintro e w1 ⟨z,rfl,hz,g1⟩
 have HZ:Hid ((∃ i,i < L.length∧d i=true)↔0≤z):=Lib.hid (by
  rcases hz.out with ⟨rfl,h⟩ | ⟨k,hk,rfl,hd,_⟩
  ·exact ⟨fun ⟨i,hi,e⟩ => by (rw [h i hi] at e;cases e),fun h => by omega⟩
  ·exact ⟨fun _ => by omega,fun _ => ⟨k,hk,hd⟩⟩)
 clear hz
 by_cases c0:0≤z
 ·go_wp2_with fail
  go_ret
  exact Tells.yes (HZ.out.2 c0) (by first | rfl | simp [c0]) g1
 ·go_wp2_with fail
  go_ret
  exact Tells.no (fun h => by have:=HZ.out.1 h;omega) (by first | rfl | simp [c0]) g1
theorem poly1_c (K:Hl.Code) (p:List Pt) (r:Bool) (hr:r=true↔¬ Vl p) (v:Value) (w:World) (hs:Sl w v p) (hl:p.length≤9223372036854775807):Calls Tryz.prog 85 (#[v] ++ #[]) w fun e w' => e=.returned (.bool r)∧Grew w w':=by
 have VC:Hid (Calls Tryz.prog 56 #[v] w fun e w' => e=.returned (.bool (!r))∧Grew w w'):=Lib.hid ((K.valid p v w hs hl).mono (by
  rintro e w' ⟨z,rfl,h,g⟩
  refine ⟨?_,g⟩
  have:z = !r:=by
   cases z <;> cases r <;> simp_all
  rw [this]))
 show Calls Tryz.prog 85 #[v] w _
 clear hs hr
 cases r
 all_goals
  go_enter Tryz.func85,Tryz.ntmps85
  go_wp2_with fail
  refine VC.out.mono ?_
  rintro e w1 ⟨rfl,g1⟩
  go_wp2_with fail
  go_ret
  exact ⟨rfl,g1⟩
theorem polys_c (K:Hl.Code) (L:Rgn) (v:Value) (w:World) (hs:Rl w v L) (h2:L.length≤4000000):Calls Tryz.prog 47 #[v] w (Tells (AllV L) w):=by
 obtain ⟨d,hd⟩:∃ d:Nat→Bool,∀ i,d i=true↔¬ Vl (nth L i):=⟨fun i => @decide _ (Classical.propDecidable (¬ Vl (nth L i))),fun i => @decide_eq_true_iff _ (Classical.propDecidable _)⟩
 have CC:=Lib.hid (contains_r 85 #[] (enters_of Tryz.func85 (by kernel_rfl) rfl) d L v w hs h2 (fun i u W hi _ hu => poly1_c K (nth L i) (d i) (hd i) u W hu (hs.2.2 _ (nth_mem hi))))
 have HI:Hid ((∃ i,i < L.length∧d i=true)↔¬ AllV L):=Lib.hid (by
  constructor
  ·rintro ⟨i,hi,h⟩ hv
   exact (hd i).1 h (hv _ (nth_mem hi))
  ·intro h
   apply Classical.byContradiction
   intro hn
   refine h fun p hp => ?_
   obtain ⟨i,hi,rfl⟩:=mem_nth hp
   apply Classical.byContradiction
   intro c
   exact hn ⟨i,hi,(hd i).2 c⟩)
 obtain ⟨a,c,rfl⟩:=hs.shape
 clear hs
 go_enter Tryz.func47,Tryz.ntmps47
 go_wp2_with fail
 refine CC.out.mono ?_
 rintro e w1 ⟨r,rfl,hr,g1⟩
 have HA:r=true↔¬ AllV L:=hr.trans HI.out
 clear hr CC HI
 cases r
 ·have F:=Lib.hid (Classical.byContradiction (p:=AllV L) fun h => by have:=HA.2 h;cases this)
  clear HA
  go_wp2_with fail
  go_ret
  exact Tells.yes F.out rfl g1
 ·have F:=Lib.hid (HA.1 rfl)
  clear HA
  go_wp2_with fail
  go_ret
  exact Tells.no F.out rfl g1
theorem rvalid_c (K:Hl.Code) (L:Rgn) (v:Value) (w:World) (hs:Rl w v L):Calls Tryz.prog 21 #[v] w (Tells (VlR L) w):=by
 have hb:=hs.2.1
 obtain ⟨n,hn⟩:∃ n,L.length=n:=⟨_,rfl⟩
 by_cases h32:n≤32
 ·have CC:=Lib.hid (polys_c K L v w hs (by omega))
  have HN:=Lib.hid hn
  obtain ⟨a,c,rfl⟩:=hs.shape
  rw [hn] at CC ⊢
  have h32':(n:Int)≤32:=by omega
  clear hs hn hb
  go_enter Tryz.func21,Tryz.ntmps21
  go_wp2_with fail
  refine CC.out.mono ?_
  rintro e w1 ⟨r,rfl,hr,g1⟩
  cases r
  ·have F:=Lib.hid (show ¬ AllV L from fun h => by have:=hr.2 h;cases this)
   clear hr CC
   go_wp2_with fail
   go_ret
   exact Tells.no (fun h => F.out h.2) rfl g1
  ·have F:=Lib.hid (hr.1 rfl)
   clear hr CC
   go_wp2_with fail
   go_ret
   exact Tells.yes ⟨by rw [HN.out];exact h32,F.out⟩ rfl g1
 ·have HN:=Lib.hid hn
  obtain ⟨a,c,rfl⟩:=hs.shape
  rw [hn] at hb ⊢
  have h32':¬ (n:Int)≤32:=by omega
  clear hs hn
  go_enter Tryz.func21,Tryz.ntmps21
  go_wp2_with fail
  go_ret
  exact Tells.no (fun h => h32 (by have:=h.1;rw [HN.out] at this;exact this)) rfl gw
theorem row_one' {w:World} {x:Pt} {k:Nat} {T:TypeId} (h:w.heap.size=k):Row (w.alloc (.cells #[.int .i64 x.1,.int .i64 x.2] T)) k 0 [x]:=by
 subst h
 exact row_new [x] _ rfl w T
theorem rplace_c (K:Hl.Code) (x:Pt) (w:World):Calls Tryz.prog 48 #[.agg #[.int .i64 x.1,.int .i64 x.2]] w (Tells (Plc x) w):=by
 have VC:Hid (∀ W b c,Row W b 0 [x]→Calls Tryz.prog 56 #[.slice (some ⟨b,0,none⟩) 1 c] W (Tells (Plc x) W)):=Lib.hid (fun W b c hr => (K.valid [x] _ W (Or.inr ⟨b,0,c,rfl,hr⟩) (by simp)).mono (by
  rintro e w' ⟨r,rfl,h,g⟩
  exact ⟨r,rfl,h.trans (by
   constructor
   ·intro v
    exact v.2.1 0 (by simp)
   ·intro p
    exact vl_of ⟨by simp,fun i h1 h2 => by simp at h2;omega,fun h => absurd h (by simp)⟩ (by simp) (plcs_of (by
     intro y hy
     rw [List.mem_singleton.1 hy]
     exact p))),g⟩))
 have RN:Hid (Row ((w.alloc (.cells #[.int .i64 x.1,.int .i64 x.2] 24)).alloc (.cells #[.int .i64 x.1,.int .i64 x.2] 24)) (w.heap.size+1) 0 [x]):=Lib.hid (row_one' (by simp))
 clear K
 go_enter Tryz.func48,Tryz.ntmps48
 go_wp2_with fail
 refine (VC.out _ _ _ RN.out).mono ?_
 rintro e w1 ⟨r,rfl,hr,g1⟩
 have G1:Grew w w1:=Grew.trans (((Grew.refl w).alloc _ _).alloc _ _) g1
 have HR:=Lib.hid hr
 clear g1 hr
 go_wp2_with fail
 go_ret
 exact ⟨r,rfl,HR.out,G1⟩
theorem rhas_c (K:Hl.Code) (p:List Pt) (x:Pt) (v:Value) (w:World) (hs:Sl w v p) (hp:Vl p) (hx:Plc x):Calls Tryz.prog 51 #[v,.agg #[.int .i64 x.1,.int .i64 x.2]] w (Tells (Hs p x) w):=by
 have HC:Hid (∀ W,Grew w W→Calls Tryz.prog 87 #[v,.agg #[.int .i64 x.1,.int .i64 x.2]] W (HasSays p x W)):=Lib.hid (fun W g => K.has_ok p x v W (hs.grown g) hp hx)
 clear hs K
 go_enter Tryz.func51,Tryz.ntmps51
 go_wp2_with fail
 refine (HC.out _ ((Grew.refl _).alloc _ _)).mono ?_
 rintro e w1 ⟨r,rfl,hr,g1⟩
 have G1:Grew w w1:=Grew.trans ((Grew.refl w).alloc _ _) g1
 clear g1
 cases r
 ·have F:=Lib.hid (show ¬ Hs p x from fun h => by have:=hr.2 h;cases this)
  clear hr
  go_wp2_with fail
  go_ret
  exact Tells.no F.out rfl G1
 ·have F:=Lib.hid (hr.1 rfl)
  clear hr
  go_wp2_with fail
  go_ret
  exact Tells.yes F.out rfl G1
end Rg
end Go.Proofs.YtbpgfenippiepaaGreatDoor
