/-
  The reference of layer 10: squares of distances, what sees a beacon, Wedge.
  What the laws of stage 10 call of package region.
  The law RingHas, under what package ring owes.
  The law RingTight, under what package ring owes.
-/
import Derived.Test.YtbpgfenippiepaaGreatDoorRngD
import Derived.Test.YtbpgfenippiepaaGreatDoorRegT
import Derived.Test.YtbpgfenippiepaaGreatDoorRegV
import Derived.Test.YtbpgfenippiepaaGreatDoorMinkLnG
import Derived.Test.YtbpgfenippiepaaGreatDoorHullWrap
import Derived.Test.YtbpgfenippiepaaGreatDoorRngB
namespace Go.Proofs.YtbpgfenippiepaaGreatDoor
open Go.RowKit Go.Shelf Hl
namespace Rn
open Rg (Rgn VlR AllV AnsR Rl TidyIs CutC)
open Ct (Hf WF)
theorem sq_in {a b:Int} (h:-b≤a∧a≤b):0≤a * a∧a * a≤b * b:=by
 refine ⟨Ry.sq0 a,?_⟩
 rw [← Int.natAbs_mul_self,← Int.natAbs_mul_self (a:=b)]
 have h1:a.natAbs≤b.natAbs:=by omega
 have h2:a.natAbs * a.natAbs≤b.natAbs * b.natAbs:=Nat.mul_le_mul h1 h1
 omega
def sq (a b:Pt):Int:=Ry.dd (dif a b) (dif a b)
theorem sq_comm (a b:Pt):sq a b=sq b a:=by unfold sq Ry.dd dif;simp only;grind
theorem sq_bd {a b:Pt} (ha:Plc a) (hb:Plc b):0≤sq a b∧sq a b≤2000000000000:=by
 unfold Plc at ha hb
 have h1:=sq_in (a:=a.1 - b.1) (b:=1000000) (by omega)
 have h2:=sq_in (a:=a.2 - b.2) (b:=1000000) (by omega)
 unfold sq Ry.dd dif
 simp only
 omega
theorem square_r (a b:Pt) (w:World) (ha:Plc a) (hb:Plc b):Calls Tryz.prog 23 #[.agg #[.int .i64 a.1,.int .i64 a.2],.agg #[.int .i64 b.1,.int .i64 b.2]] w fun e w' => e=.returned (.int .i64 (sq a b))∧Grew w w':=by
 rcases a with ⟨a1,a2⟩
 rcases b with ⟨b1,b2⟩
 unfold Plc at ha hb
 simp only at ha hb
 have h1:=sq_in (a:=a1 - b1) (b:=1000000) (by omega)
 have h2:=sq_in (a:=a2 - b2) (b:=1000000) (by omega)
 have e:sq (a1,a2) (b1,b2)=(a1 - b1) * (a1 - b1)+(a2 - b2) * (a2 - b2):=rfl
 rw [e]
 clear e
 have W1:RowKit.wrap64 (a1 - b1)=a1 - b1:=IntWalk.wrap64_in _ ⟨by omega,by omega⟩
 have W2:RowKit.wrap64 (a2 - b2)=a2 - b2:=IntWalk.wrap64_in _ ⟨by omega,by omega⟩
 have W3:RowKit.wrap64 ((a1 - b1) * (a1 - b1))=(a1 - b1) * (a1 - b1):=IntWalk.wrap64_in _ ⟨by omega,by omega⟩
 have W4:RowKit.wrap64 ((a2 - b2) * (a2 - b2))=(a2 - b2) * (a2 - b2):=IntWalk.wrap64_in _ ⟨by omega,by omega⟩
 have W5:RowKit.wrap64 ((a1 - b1) * (a1 - b1)+(a2 - b2) * (a2 - b2))=(a1 - b1) * (a1 - b1)+(a2 - b2) * (a2 - b2):=IntWalk.wrap64_in _ ⟨by omega,by omega⟩
 clear ha hb
 go_enter Tryz.func23,Tryz.ntmps23
 go_wp2_with fail
 refine bodyPost_ret (v:=.int .i64 ((a1 - b1) * (a1 - b1)+(a2 - b2) * (a2 - b2))) (by simp [results,Tryz.results23,go_sem,W1,W2]) rfl ⟨rfl,gw⟩
def At (a b:Pt) (lo hi:Int):Prop:=lo * lo≤sq a b∧sq a b≤hi * hi
theorem within_r (a b:Pt) (lo hi:Int) (w:World) (ha:Plc a) (hb:Plc b) (hd:Dst lo hi):Calls Tryz.prog 20 #[.agg #[.int .i64 a.1,.int .i64 a.2],.agg #[.int .i64 b.1,.int .i64 b.2],.agg #[.int .i64 lo,.int .i64 hi]] w (Tells (At a b lo hi) w):=by
 have SC:=Lib.hid (fun W => square_r a b W ha hb)
 have SB:=sq_bd ha hb
 obtain ⟨d0,d1,d2⟩:=hd
 have h1:=sq_in (a:=lo) (b:=100000) (by omega)
 have h2:=sq_in (a:=hi) (b:=100000) (by omega)
 unfold At
 generalize sq a b=n at *
 have g0:Hid (Grew w (((w.alloc (.cells #[.int .i64 a.1,.int .i64 a.2] 24)).alloc (.cells #[.int .i64 b.1,.int .i64 b.2] 24)).alloc (.cells #[.int .i64 lo,.int .i64 hi] 26))):=Lib.hid ((((Grew.refl w).alloc _ _).alloc _ _).alloc _ _)
 have D0:=Lib.hid (Blk.new ((w.alloc (.cells #[.int .i64 a.1,.int .i64 a.2] 24)).alloc (.cells #[.int .i64 b.1,.int .i64 b.2] 24)) #[.int .i64 lo,.int .i64 hi] 26)
 rw [World.size_alloc,World.size_alloc] at D0
 have W1:RowKit.wrap64 (lo * lo)=lo * lo:=IntWalk.wrap64_in _ ⟨by omega,by omega⟩
 have W2:RowKit.wrap64 (hi * hi)=hi * hi:=IntWalk.wrap64_in _ ⟨by omega,by omega⟩
 have V1:IntKind.i64.wrap (lo * lo)=lo * lo:=IntWalk.i64_in _ ⟨by omega,by omega⟩
 have V2:IntKind.i64.wrap (hi * hi)=hi * hi:=IntWalk.i64_in _ ⟨by omega,by omega⟩
 clear ha hb
 go_enter Tryz.func20,Tryz.ntmps20
 go_wp2_with fail
 refine (SC.out _).mono ?_
 rintro e w1 ⟨rfl,g1⟩
 have D1:=Lib.hid (D0.out.grown g1)
 have G1:=Lib.hid (g0.out.trans g1)
 obtain ⟨⟨x0,x1⟩,_,_⟩:=D1.out.two
 have lD:=D1.out.lt
 clear g1
 by_cases c1:lo * lo≤n
 ·have C1:=Lib.hid c1
  by_cases c2:n≤hi * hi
  ·have C2:=Lib.hid c2
   go_wp2_with fail
   go_ret
   exact Tells.yes ⟨C1.out,C2.out⟩ rfl G1.out
  ·have C2:=Lib.hid c2
   have c3:decide (n≤hi * hi)=false:=decide_eq_false c2
   go_wp2_with fail
   go_ret
   exact Tells.no (fun h => by have:=C2.out;have:=h.2;omega) rfl G1.out
 ·have C1:=Lib.hid c1
  go_wp2_with fail
  go_ret
  exact Tells.no (fun h => by have:=C1.out;have:=h.1;omega) rfl G1.out
theorem sees_r (y x:Pt) (a n:Nat) (w:World) (hy:Plc y) (hx:Plc x) (ha:a < 64) (hn:n≤31):Calls Tryz.prog 28 #[.agg #[.int .i64 y.1,.int .i64 y.2],.agg #[.int .i64 x.1,.int .i64 x.2],.int .i64 a,.int .i64 n] w (Tells (Sees y x a n) w):=by
 have hv:Ry.Nr (dif x y):=by unfold Ry.Nr dif;unfold Plc at hx hy;simp only;omega
 have LC:=Lib.hid (fun W => Ry.lies_r a n (dif x y) W ha hn hv)
 obtain ⟨r,hr⟩:∃ r:Bool,decide (Ry.Lies a n (dif x y))=r:=⟨_,rfl⟩
 have HR:Hid (r=true↔Ry.Lies a n (dif x y)):=Lib.hid (by rw [← hr];exact decide_eq_true_iff)
 rw [hr] at LC
 unfold Sees
 unfold dif at *
 rcases x with ⟨x1,x2⟩
 rcases y with ⟨y1,y2⟩
 unfold Plc at hx hy
 simp only at hx hy LC HR ⊢
 obtain ⟨p,hp⟩:∃ p,x1 - y1=p:=⟨_,rfl⟩
 obtain ⟨q,hq⟩:∃ q,x2 - y2=q:=⟨_,rfl⟩
 rw [hp,hq] at LC HR ⊢
 have p0:-1000000≤p∧p≤1000000:=by omega
 have q0:-1000000≤q∧q≤1000000:=by omega
 clear hr hv hx hy
 by_cases z1:p=0
 ·subst z1
  by_cases z2:q=0
  ·subst z2
   go_enter Tryz.func28,Tryz.ntmps28
   go_wp2_with fail
   go_ret
   exact Tells.yes (Or.inl (by first | rfl | trivial)) rfl gw
  ·have z3:(q == 0)=false:=beq_eq_false_iff_ne.2 z2
   have NZ:Hid (¬ (0,q)=((0,0):Pt)):=Lib.hid (fun e => z2 (congrArg Prod.snd e))
   go_enter Tryz.func28,Tryz.ntmps28
   go_wp2_with fail
   refine (LC.out _).mono ?_
   rintro e w1 ⟨rfl,g1⟩
   have G1:Hid (Grew w w1):=Lib.hid (Grew.trans gw g1)
   clear g1
   go_wp2_with fail
   go_ret
   exact ⟨r,rfl,HR.out.trans ⟨Or.inr,fun h => h.resolve_left NZ.out⟩,G1.out⟩
 ·have z3:(p == 0)=false:=beq_eq_false_iff_ne.2 z1
  have NZ:Hid (¬ (p,q)=((0,0):Pt)):=Lib.hid (fun e => z1 (congrArg Prod.fst e))
  go_enter Tryz.func28,Tryz.ntmps28
  go_wp2_with fail
  refine (LC.out _).mono ?_
  rintro e w1 ⟨rfl,g1⟩
  have G1:Hid (Grew w w1):=Lib.hid (Grew.trans gw g1)
  clear g1
  go_wp2_with fail
  go_ret
  exact ⟨r,rfl,HR.out.trans ⟨Or.inr,fun h => h.resolve_left NZ.out⟩,G1.out⟩
end Rn
end Go.Proofs.YtbpgfenippiepaaGreatDoor
namespace Go.Proofs.YtbpgfenippiepaaGreatDoor
open Go.RowKit Go.Shelf Hl
namespace Rn
open Rg (Rgn VlR AllV Rl InR HasP BoxP)
def HasO (L:Rgn) (x:Pt) (w:World) (e:Ending) (w':World):Prop:=∃ r,e=.returned (.tuple #[.bool r,.int .i64 0])∧(r=true↔InR L x)∧Grew w w'
theorem has_ok (HA:HasC) (L:Rgn) (x:Pt) (v:Value) (w:World) (hs:Rl w v L) (hL:VlR L) (hx:Plc x):Calls Tryz.prog 22 #[v,.agg #[.int .i64 x.1,.int .i64 x.2]] w (HasO L x w) :=
 (HA L x v w hs).mono fun _ _ h => by
  obtain ⟨r,k,h,e,g⟩:=h
  rcases h with ⟨n,_⟩ | ⟨_,h,rfl⟩
  ·exact absurd ⟨hL,hx⟩ n
  ·exact ⟨r,e,h,g⟩
theorem has_in (HA:HasC) (L:Rgn) (x:Pt) (v:Value) (w:World) (hs:Rl w v L) (hL:VlR L) (hx:InR L x):Calls Tryz.prog 22 #[v,.agg #[.int .i64 x.1,.int .i64 x.2]] w fun e w' => e=.returned (.tuple #[.bool true,.int .i64 0])∧Grew w w' :=
 (has_ok HA L x v w hs hL (Rg.inR_plc hL.2 hx)).mono fun _ _ h => by
  obtain ⟨r,e,h,g⟩:=h
  obtain rfl:=h.2 hx
  exact ⟨e,g⟩
theorem val_yes (VA:ValC) (L:Rgn) (v:Value) (w:World) (hs:Rl w v L) (hL:VlR L):Calls Tryz.prog 21 #[v] w fun e w' => e=.returned (.bool true)∧Grew w w':=(VA L v w hs).mono fun _ _ t => t.to hL
theorem no_wrap {x z y:Int} (hx:-500000≤x∧x≤500000) (hz:-9223372036854775808≤z∧z≤9223372036854775807) (h:RowKit.wrap64 (x+z)=y) (hy:-500000≤y∧y≤500000):z=y - x:=by
 unfold RowKit.wrap64 at h
 omega
theorem ringp_err {x:Pt} {lo hi k:Int} {r:Rgn} (h:RingP x lo hi k r) (hk:k ≠ 0):(k=1∨k=3)∧r=[]:=by
 rcases h with ⟨_,e,e'⟩ | ⟨_,⟨_,e,e'⟩ | ⟨e,_⟩⟩
 ·exact ⟨Or.inl e,e'⟩
 ·exact ⟨Or.inr e,e'⟩
 ·exact absurd e hk
theorem ringp_ok {x:Pt} {lo hi:Int} {r:Rgn} (h:RingP x lo hi 0 r):(Plc x∧Dst lo hi)∧∃ L,RingC x lo hi L∧Rg.TidyIs L r:=by
 rcases h with ⟨_,e,_⟩ | ⟨b,⟨_,e,_⟩ | ⟨_,h⟩⟩
 ·cases e
 ·cases e
 ·exact ⟨b,h⟩
theorem nearp_err {L:Rgn} {x:Pt} {lo hi k:Int} {r:Rgn} (h:NearP L x lo hi k r) (hL:VlR L) (hx:Plc x) (hd:Dst lo hi) (hk:k ≠ 0):k=3:=by
 rcases h with ⟨b,_⟩ | ⟨_,⟨_,_,h⟩ | ⟨e,_⟩⟩
 ·exact absurd hL b
 ·rcases h with ⟨b,_⟩ | ⟨_,⟨_,e,_⟩ | ⟨e,_⟩⟩
  ·exact absurd ⟨hx,hd⟩ b
  ·exact e
  ·exact absurd e hk
 ·exact absurd e hk
theorem nearp_ok {L:Rgn} {x:Pt} {lo hi:Int} {r:Rgn} (h:NearP L x lo hi 0 r) (_hL:VlR L):∃ c m,RingP x lo hi 0 c∧Rg.MetC L c m∧Rg.TidyIs m r:=by
 rcases h with ⟨_,e,_⟩ | ⟨_,⟨n,_⟩ | ⟨_,h⟩⟩
 ·cases e
 ·exact absurd rfl n
 ·exact h
theorem wedp_err {L:Rgn} {x:Pt} {a n k:Int} {r:Rgn} (h:WedP L x a n k r) (hk:k ≠ 0):k=1∧¬ WedOk L x a n:=by
 rcases h with ⟨b,e,_⟩ | ⟨_,e,_⟩
 ·exact ⟨e,b⟩
 ·exact absurd e hk
theorem wedp_ok {L:Rgn} {x:Pt} {a n:Int} {r:Rgn} (h:WedP L x a n 0 r):WedOk L x a n∧WedC L x a.toNat n.toNat r:=by
 rcases h with ⟨_,e,_⟩ | ⟨b,_,h⟩
 ·cases e
 ·exact ⟨b,h⟩
theorem blk_nS {W:World} {k:Nat} {cs:Array Value} {t:TypeId} (h:W.heap.size=k):Blk (W.alloc (.cells cs t)) k cs t:=by
 subst h
 exact Blk.new W cs t
theorem box_bd {L:Rgn} {lo hi:Pt} (hL:VlR L) (h:IsBox L.flatten lo hi):Plc lo∧Plc hi:=by
 have pm:∀ z,z ∈ L.flatten→Plc z:=fun z hz => by
  obtain ⟨n,hn,e⟩:=mem_at hz
  rw [← e]
  exact Rg.flat_plcs hL.2 n hn
 obtain ⟨y1,g1,e1⟩:=h.1.1
 obtain ⟨y2,g2,e2⟩:=h.2.1.1
 obtain ⟨y3,g3,e3⟩:=h.2.2.1.1
 obtain ⟨y4,g4,e4⟩:=h.2.2.2.1
 have p1:=pm _ g1
 have p2:=pm _ g2
 have p3:=pm _ g3
 have p4:=pm _ g4
 unfold Plc at *
 omega
theorem boxp_ok {L:Rgn} {lo hi:Pt} {ok:Bool} {k:Int} (hL:VlR L) (h:BoxP L lo hi ok k):k=0∧(ok=true→L ≠ []∧IsBox L.flatten lo hi):=by
 rcases h with ⟨n,_⟩ | ⟨_,_,_,_,rfl,e⟩ | ⟨_,n,b,_,e⟩
 ·exact absurd hL n
 ·exact ⟨e,fun h => absurd h (by decide)⟩
 ·exact ⟨e,fun _ => ⟨n,b⟩⟩
theorem boxp_is {L:Rgn} {lo hi:Pt} {ok:Bool} {k:Int} (hL:VlR L) (h0:L ≠ []) (h:BoxP L lo hi ok k):IsBox L.flatten lo hi:=by
 rcases h with ⟨n,_⟩ | ⟨_,e,_⟩ | ⟨_,_,b,_⟩
 ·exact absurd hL n
 ·exact absurd e h0
 ·exact b
theorem met_none {A B m r:Rgn} (h:Rg.MetC A B m) (t:Rg.TidyIs m r) (h0:r ≠ []):A ≠ []:=fun e => by
 subst e
 obtain rfl:m=[]:=h
 have:=Rg.tidy_len t
 exact h0 (List.length_eq_zero_iff.1 (by simpa using this))
theorem near_in {L r:Rgn} {x:Pt} {lo hi k j:Int} {p q s t:Pt} {a b:Bool} (hL:VlR L) (hr:VlR r) (h:NearP L x lo hi 0 r) (h1:BoxP r p q a k) (h2:BoxP L s t b j) (ha:a=true):(Plc p∧Plc q)∧(Plc s∧Plc t)∧s.1≤p.1∧s.2≤p.2∧q.1≤t.1∧q.2≤t.2:=by
 obtain ⟨c,m,hc,hm,ht⟩:=nearp_ok h hL
 obtain ⟨n1,b1⟩:=(boxp_ok hr h1).2 ha
 have b2:=boxp_is hL (met_none hm ht n1) h2
 exact ⟨box_bd hr b1,box_bd hL b2,near_box hL.2 (ringp_vl hc).2 hm ht b1 b2⟩
theorem near_has {L r:Rgn} {x y:Pt} {lo hi:Int} (hL:VlR L) (hd:Dst lo hi) (h:NearP L x lo hi 0 r) (hy:InR L y) (ha:At x y lo hi):InR r y:=by
 obtain ⟨c,m,hc,hm,ht⟩:=nearp_ok h hL
 obtain ⟨_,M,rc,rt⟩:=ringp_ok hc
 unfold At at ha
 rw [sq_comm] at ha
 exact Rg.tidy_has (Rg.met_vl hL.2 (ringp_vl hc).2 hm) ht (Rg.met_has hL.2 (ringp_vl hc).2 hm hy (ring_has hd rc rt ha.1 ha.2))
theorem run_max (a b:Int):∃ M:Int,(∀ (ts:Array TypeId) (t:TypeId) (W:World),Sem.run Tryz.prog (Builtin.max_ ts t #[.int .i64 a,.int .i64 b]) W=.ok (.int .i64 M) W)∧(a≤M∧b≤M∧(M=a∨M=b)):=by
 by_cases h:a < b
 ·exact ⟨b,fun ts t W => by simp [Builtin.max_,Builtin.max2,h],by omega⟩
 ·exact ⟨a,fun ts t W => by simp [Builtin.max_,Builtin.max2,h],by omega⟩
end Rn
end Go.Proofs.YtbpgfenippiepaaGreatDoor
namespace Go.Proofs.YtbpgfenippiepaaGreatDoor
open Go.RowKit Go.Shelf Hl
namespace Rn
open Rg (Rgn VlR AllV AnsR Rl InR)
set_option maxRecDepth 100000 in
set_option maxHeartbeats 8000000 in
theorem has_true {T:World→Prop} (C:Code T) (HA:HasC) (VA:ValC) (x z:Pt) (lo hi:Int) (w:World) (hT:T w):Calls Tryz.prog 4 #[.agg #[.int .i64 x.1,.int .i64 x.2],.agg #[.int .i64 lo,.int .i64 hi],.agg #[.int .i64 z.1,.int .i64 z.2]] w fun e w' => e=.returned (.bool true)∧Grew w w':=by
 have TK:=Lib.hid (fun W (g:Grew w W) => C.keep w W g hT)
 have HC:=Lib.hid (fun W (g:Grew w W) => head_true C W (C.keep w W g hT))
 have F:=C.fns
 clear C hT
 have BK00:=Lib.hid ((Blk.new (w) #[.int .i64 x.1,.int .i64 x.2] 24).grown (((Grew.refl _).alloc #[.int .i64 lo,.int .i64 hi] 26).alloc #[.int .i64 z.1,.int .i64 z.2] 24))
 have BK10:=Lib.hid ((Blk.new ((w.alloc (.cells #[.int .i64 x.1,.int .i64 x.2] 24))) #[.int .i64 lo,.int .i64 hi] 26).grown ((Grew.refl _).alloc #[.int .i64 z.1,.int .i64 z.2] 24))
 simp only [World.size_alloc] at BK10
 have BK20:=Lib.hid ((Blk.new (((w.alloc (.cells #[.int .i64 x.1,.int .i64 x.2] 24)).alloc (.cells #[.int .i64 lo,.int .i64 hi] 26))) #[.int .i64 z.1,.int .i64 z.2] 24))
 simp only [World.size_alloc] at BK20
 have GW0:Hid (Grew w (((w.alloc (.cells #[.int .i64 x.1,.int .i64 x.2] 24)).alloc (.cells #[.int .i64 lo,.int .i64 hi] 26)).alloc (.cells #[.int .i64 z.1,.int .i64 z.2] 24))):=Lib.hid gw
 have G0:Hid (Grew w (((w.alloc (.cells #[.int .i64 x.1,.int .i64 x.2] 24)).alloc (.cells #[.int .i64 lo,.int .i64 hi] 26)).alloc (.cells #[.int .i64 z.1,.int .i64 z.2] 24))):=GW0
 clear GW0
 go_enter Tryz.func4,Tryz.ntmps4
 obtain ⟨⟨x00,x01⟩,-,-⟩:=BK00.out.two
 have x0l:=BK00.out.lt
 obtain ⟨⟨x10,x11⟩,-,-⟩:=BK10.out.two
 have x1l:=BK10.out.lt
 obtain ⟨⟨x20,x21⟩,-,-⟩:=BK20.out.two
 have x2l:=BK20.out.lt
 go_wp2_with fail
 refine (HC.out _ (Grew.trans G0.out gw)).mono ?_
 rintro e w1 ⟨rfl,g1⟩
 have D1:Hid (Grew (((w.alloc (.cells #[.int .i64 x.1,.int .i64 x.2] 24)).alloc (.cells #[.int .i64 lo,.int .i64 hi] 26)).alloc (.cells #[.int .i64 z.1,.int .i64 z.2] 24)) w1):=Lib.hid (Grew.trans gw g1)
 have G1:=Lib.hid (G0.out.trans D1.out)
 have BK01:=Lib.hid (BK00.out.grown D1.out)
 have BK11:=Lib.hid (BK10.out.grown D1.out)
 have BK21:=Lib.hid (BK20.out.grown D1.out)
 clear BK00 BK10 BK20 g1 D1 G0 x00 x01 x0l x10 x11 x1l x20 x21 x2l
 obtain ⟨⟨x00,x01⟩,-,-⟩:=BK01.out.two
 have x0l:=BK01.out.lt
 obtain ⟨⟨x10,x11⟩,-,-⟩:=BK11.out.two
 have x1l:=BK11.out.lt
 obtain ⟨⟨x20,x21⟩,-,-⟩:=BK21.out.two
 have x2l:=BK21.out.lt
 clear HC
 go_wp2_with fail
 refine (F.ring x lo hi _ (TK.out _ (Grew.trans G1.out gw))).mono ?_
 rintro e w2 ⟨v2,k2,r2,p2,rfl,s2,g2⟩
 have D2:Hid (Grew w1 w2):=Lib.hid (Grew.trans gw g2)
 have G2:=Lib.hid (G1.out.trans D2.out)
 have BK02:=Lib.hid (BK01.out.grown D2.out)
 have BK12:=Lib.hid (BK11.out.grown D2.out)
 have BK22:=Lib.hid (BK21.out.grown D2.out)
 clear BK01 BK11 BK21 g2 D2 G1 x00 x01 x0l x10 x11 x1l x20 x21 x2l
 have A2:=Lib.hid s2
 clear s2
 obtain ⟨⟨x00,x01⟩,-,-⟩:=BK02.out.two
 have x0l:=BK02.out.lt
 obtain ⟨⟨x10,x11⟩,-,-⟩:=BK12.out.two
 have x1l:=BK12.out.lt
 obtain ⟨⟨x20,x21⟩,-,-⟩:=BK22.out.two
 have x2l:=BK22.out.lt
 clear TK
 by_cases hk:k2=0
 ·subst hk
  obtain ⟨⟨hx,hd⟩,hC⟩:=ringp_ok p2
  have PX:=Lib.hid hx
  have DX:=Lib.hid hd
  have RC:=Lib.hid hC
  have VR:=Lib.hid (ringp_vl p2)
  clear hx hd hC p2
  obtain ⟨v2a,v2n,v2c,rfl,v2e⟩:=Rg.rl_nat A2.out
  clear v2e
  obtain ⟨y1,hy1⟩:∃ y,RowKit.wrap64 (x.1+z.1)=y:=⟨_,rfl⟩
  obtain ⟨y2,hy2⟩:∃ y,RowKit.wrap64 (x.2+z.2)=y:=⟨_,rfl⟩
  have Y1:=Lib.hid hy1
  have Y2:=Lib.hid hy2
  go_wp2_with fail
  refine (at_c _ _ _).mono ?_
  rintro e w3 ⟨rfl,g3⟩
  have D3:Hid (Grew w2 w3):=Lib.hid (Grew.trans gw g3)
  have G3:=Lib.hid (G2.out.trans D3.out)
  have BK03:=Lib.hid (BK02.out.grown D3.out)
  have BK13:=Lib.hid (BK12.out.grown D3.out)
  have BK23:=Lib.hid (BK22.out.grown D3.out)
  have A3:=Lib.hid (A2.out.grown D3.out)
  clear BK02 BK12 BK22 A2 g3 D3 G2 x00 x01 x0l x10 x11 x1l x20 x21 x2l
  obtain ⟨⟨x00,x01⟩,-,-⟩:=BK03.out.two
  have x0l:=BK03.out.lt
  obtain ⟨⟨x10,x11⟩,-,-⟩:=BK13.out.two
  have x1l:=BK13.out.lt
  obtain ⟨⟨x20,x21⟩,-,-⟩:=BK23.out.two
  have x2l:=BK23.out.lt
  clear hy1 hy2
  clear BK23
  go_wp2_with fail
  refine (Rg.place_t (y1,y2) _).mono ?_
  rintro e w4 ⟨b1,rfl,h1,g4⟩
  have D4:Hid (Grew w3 w4):=Lib.hid (Grew.trans gw g4)
  have G4:=Lib.hid (G3.out.trans D4.out)
  have BK34:=Lib.hid ((Blk.new w3 #[.int .i64 y1,.int .i64 y2] 24).grown g4)
  have BK04:=Lib.hid (BK03.out.grown D4.out)
  have BK14:=Lib.hid (BK13.out.grown D4.out)
  have A4:=Lib.hid (A3.out.grown D4.out)
  clear BK03 BK13 A3 g4 D4 G3 x00 x01 x0l x10 x11 x1l x20 x21 x2l
  obtain ⟨⟨x00,x01⟩,-,-⟩:=BK04.out.two
  have x0l:=BK04.out.lt
  obtain ⟨⟨x10,x11⟩,-,-⟩:=BK14.out.two
  have x1l:=BK14.out.lt
  obtain ⟨⟨x30,x31⟩,-,-⟩:=BK34.out.two
  have x3l:=BK34.out.lt
  have H1:=Lib.hid h1
  clear h1
  cases b1
  ·go_wp2_with fail
   refine (val_yes VA _ _ _ A4.out VR.out).mono ?_
   rintro e w5 ⟨rfl,g5⟩
   have D5:Hid (Grew w4 w5):=Lib.hid (Grew.trans gw g5)
   have G5:=Lib.hid (G4.out.trans D5.out)
   have BK05:=Lib.hid (BK04.out.grown D5.out)
   have BK15:=Lib.hid (BK14.out.grown D5.out)
   have A5:=Lib.hid (A4.out.grown D5.out)
   have BK35:=Lib.hid (BK34.out.grown D5.out)
   clear BK04 BK14 A4 BK34 g5 D5 G4 x00 x01 x0l x10 x11 x1l x30 x31 x3l
   obtain ⟨⟨x00,x01⟩,-,-⟩:=BK05.out.two
   have x0l:=BK05.out.lt
   obtain ⟨⟨x10,x11⟩,-,-⟩:=BK15.out.two
   have x1l:=BK15.out.lt
   obtain ⟨⟨x30,x31⟩,-,-⟩:=BK35.out.two
   have x3l:=BK35.out.lt
   go_wp2_with fail
   go_ret
   exact ⟨by first | rfl | trivial,G5.out⟩
  have PY:Hid (Plc (y1,y2)):=Lib.hid (H1.out.1 (by first | rfl | trivial))
  clear H1
  go_wp2_with fail
  refine (within_r x (y1,y2) lo hi _ PX.out PY.out DX.out).mono ?_
  rintro e w5 ⟨b2,rfl,h2,g5⟩
  have D5:Hid (Grew w4 w5):=Lib.hid (Grew.trans gw g5)
  have G5:=Lib.hid (G4.out.trans D5.out)
  have BK05:=Lib.hid (BK04.out.grown D5.out)
  have BK15:=Lib.hid (BK14.out.grown D5.out)
  have A5:=Lib.hid (A4.out.grown D5.out)
  have BK35:=Lib.hid (BK34.out.grown D5.out)
  clear BK04 BK14 A4 BK34 g5 D5 G4 x00 x01 x0l x10 x11 x1l x30 x31 x3l
  obtain ⟨⟨x00,x01⟩,-,-⟩:=BK05.out.two
  have x0l:=BK05.out.lt
  obtain ⟨⟨x10,x11⟩,-,-⟩:=BK15.out.two
  have x1l:=BK15.out.lt
  obtain ⟨⟨x30,x31⟩,-,-⟩:=BK35.out.two
  have x3l:=BK35.out.lt
  have H2:=Lib.hid h2
  clear h2
  cases b2
  ·go_wp2_with fail
   refine (val_yes VA _ _ _ A5.out VR.out).mono ?_
   rintro e w6 ⟨rfl,g6⟩
   have D6:Hid (Grew w5 w6):=Lib.hid (Grew.trans gw g6)
   have G6:=Lib.hid (G5.out.trans D6.out)
   have BK06:=Lib.hid (BK05.out.grown D6.out)
   have BK16:=Lib.hid (BK15.out.grown D6.out)
   have A6:=Lib.hid (A5.out.grown D6.out)
   have BK36:=Lib.hid (BK35.out.grown D6.out)
   clear BK05 BK15 A5 BK35 g6 D6 G5 x00 x01 x0l x10 x11 x1l x30 x31 x3l
   obtain ⟨⟨x00,x01⟩,-,-⟩:=BK06.out.two
   have x0l:=BK06.out.lt
   obtain ⟨⟨x10,x11⟩,-,-⟩:=BK16.out.two
   have x1l:=BK16.out.lt
   obtain ⟨⟨x30,x31⟩,-,-⟩:=BK36.out.two
   have x3l:=BK36.out.lt
   go_wp2_with fail
   go_ret
   exact ⟨by first | rfl | trivial,G6.out⟩
  have IN:Hid (InR r2 (y1,y2)):=Lib.hid (by
   obtain ⟨L,c,t⟩:=RC.out
   have h:=H2.out.1 (by first | rfl | trivial)
   unfold At at h
   rw [sq_comm] at h
   exact ring_has DX.out c t h.1 h.2)
  clear H2
  go_wp2_with fail
  refine (has_in HA r2 (y1,y2) _ _ A5.out VR.out IN.out).mono ?_
  rintro e w6 ⟨rfl,g6⟩
  have D6:Hid (Grew w5 w6):=Lib.hid (Grew.trans gw g6)
  have G6:=Lib.hid (G5.out.trans D6.out)
  have BK06:=Lib.hid (BK05.out.grown D6.out)
  have BK16:=Lib.hid (BK15.out.grown D6.out)
  have A6:=Lib.hid (A5.out.grown D6.out)
  have BK36:=Lib.hid (BK35.out.grown D6.out)
  clear BK05 BK15 A5 BK35 g6 D6 G5 x00 x01 x0l x10 x11 x1l x30 x31 x3l
  obtain ⟨⟨x00,x01⟩,-,-⟩:=BK06.out.two
  have x0l:=BK06.out.lt
  obtain ⟨⟨x10,x11⟩,-,-⟩:=BK16.out.two
  have x1l:=BK16.out.lt
  obtain ⟨⟨x30,x31⟩,-,-⟩:=BK36.out.two
  have x3l:=BK36.out.lt
  go_wp2_with fail
  go_ret
  exact ⟨by first | rfl | trivial,G6.out⟩
 obtain ⟨he,rfl⟩:=ringp_err p2 hk
 have hk2:(k2 == 0)=false:=beq_eq_false_iff_ne.2 hk
 have hk3:(k2 != 0)=true:=by simp [hk]
 obtain ⟨va,vn,vc,rfl,ve⟩:=Rg.rl_nat A2.out
 obtain rfl:vn=0:=ve
 rcases he with rfl | rfl
 ·go_wp2_with fail
  go_ret
  exact ⟨by first | rfl | trivial,G2.out⟩
 ·go_wp2_with fail
  go_ret
  exact ⟨by first | rfl | trivial,G2.out⟩
end Rn
end Go.Proofs.YtbpgfenippiepaaGreatDoor
namespace Go.Proofs.YtbpgfenippiepaaGreatDoor
open Go.RowKit Go.Shelf Hl
namespace Rn
open Rg (Rgn VlR AllV AnsR Rl InR)
set_option maxRecDepth 100000 in
set_option maxHeartbeats 8000000 in
theorem tight_true {T:World→Prop} (C:Code T) (HA:HasC) (x z:Pt) (lo hi:Int) (w:World) (hT:T w) (hz:(-9223372036854775808≤z.1∧z.1≤9223372036854775807)∧-9223372036854775808≤z.2∧z.2≤9223372036854775807):Calls Tryz.prog 5 #[.agg #[.int .i64 x.1,.int .i64 x.2],.agg #[.int .i64 lo,.int .i64 hi],.agg #[.int .i64 z.1,.int .i64 z.2]] w fun e w' => e=.returned (.bool true)∧Grew w w':=by
 have TK:=Lib.hid (fun W (g:Grew w W) => C.keep w W g hT)
 have HC:=Lib.hid (fun W (g:Grew w W) => head_true C W (C.keep w W g hT))
 have F:=C.fns
 clear C hT
 have hz:=Lib.hid hz
 have BK00:=Lib.hid ((Blk.new (w) #[.int .i64 x.1,.int .i64 x.2] 24).grown (((Grew.refl _).alloc #[.int .i64 lo,.int .i64 hi] 26).alloc #[.int .i64 z.1,.int .i64 z.2] 24))
 have BK10:=Lib.hid ((Blk.new ((w.alloc (.cells #[.int .i64 x.1,.int .i64 x.2] 24))) #[.int .i64 lo,.int .i64 hi] 26).grown ((Grew.refl _).alloc #[.int .i64 z.1,.int .i64 z.2] 24))
 simp only [World.size_alloc] at BK10
 have BK20:=Lib.hid ((Blk.new (((w.alloc (.cells #[.int .i64 x.1,.int .i64 x.2] 24)).alloc (.cells #[.int .i64 lo,.int .i64 hi] 26))) #[.int .i64 z.1,.int .i64 z.2] 24))
 simp only [World.size_alloc] at BK20
 have GW0:Hid (Grew w (((w.alloc (.cells #[.int .i64 x.1,.int .i64 x.2] 24)).alloc (.cells #[.int .i64 lo,.int .i64 hi] 26)).alloc (.cells #[.int .i64 z.1,.int .i64 z.2] 24))):=Lib.hid gw
 have G0:Hid (Grew w (((w.alloc (.cells #[.int .i64 x.1,.int .i64 x.2] 24)).alloc (.cells #[.int .i64 lo,.int .i64 hi] 26)).alloc (.cells #[.int .i64 z.1,.int .i64 z.2] 24))):=GW0
 clear GW0
 go_enter Tryz.func5,Tryz.ntmps5
 obtain ⟨⟨x00,x01⟩,-,-⟩:=BK00.out.two
 have x0l:=BK00.out.lt
 obtain ⟨⟨x10,x11⟩,-,-⟩:=BK10.out.two
 have x1l:=BK10.out.lt
 obtain ⟨⟨x20,x21⟩,-,-⟩:=BK20.out.two
 have x2l:=BK20.out.lt
 go_wp2_with fail
 refine (HC.out _ (Grew.trans G0.out gw)).mono ?_
 rintro e w1 ⟨rfl,g1⟩
 have D1:Hid (Grew (((w.alloc (.cells #[.int .i64 x.1,.int .i64 x.2] 24)).alloc (.cells #[.int .i64 lo,.int .i64 hi] 26)).alloc (.cells #[.int .i64 z.1,.int .i64 z.2] 24)) w1):=Lib.hid (Grew.trans gw g1)
 have G1:=Lib.hid (G0.out.trans D1.out)
 have BK01:=Lib.hid (BK00.out.grown D1.out)
 have BK11:=Lib.hid (BK10.out.grown D1.out)
 have BK21:=Lib.hid (BK20.out.grown D1.out)
 clear BK00 BK10 BK20 g1 D1 G0 x00 x01 x0l x10 x11 x1l x20 x21 x2l
 obtain ⟨⟨x00,x01⟩,-,-⟩:=BK01.out.two
 have x0l:=BK01.out.lt
 obtain ⟨⟨x10,x11⟩,-,-⟩:=BK11.out.two
 have x1l:=BK11.out.lt
 obtain ⟨⟨x20,x21⟩,-,-⟩:=BK21.out.two
 have x2l:=BK21.out.lt
 clear HC
 go_wp2_with fail
 refine (F.ring x lo hi _ (TK.out _ (Grew.trans G1.out gw))).mono ?_
 rintro e w2 ⟨v2,k2,r2,p2,rfl,s2,g2⟩
 have D2:Hid (Grew w1 w2):=Lib.hid (Grew.trans gw g2)
 have G2:=Lib.hid (G1.out.trans D2.out)
 have BK02:=Lib.hid (BK01.out.grown D2.out)
 have BK12:=Lib.hid (BK11.out.grown D2.out)
 have BK22:=Lib.hid (BK21.out.grown D2.out)
 clear BK01 BK11 BK21 g2 D2 G1 x00 x01 x0l x10 x11 x1l x20 x21 x2l
 have A2:=Lib.hid s2
 clear s2
 obtain ⟨⟨x00,x01⟩,-,-⟩:=BK02.out.two
 have x0l:=BK02.out.lt
 obtain ⟨⟨x10,x11⟩,-,-⟩:=BK12.out.two
 have x1l:=BK12.out.lt
 obtain ⟨⟨x20,x21⟩,-,-⟩:=BK22.out.two
 have x2l:=BK22.out.lt
 clear TK
 by_cases hk:k2=0
 ·subst hk
  obtain ⟨⟨hx,hd⟩,hC⟩:=ringp_ok p2
  have PX:=Lib.hid hx
  have DX:=Lib.hid hd
  have RC:=Lib.hid hC
  have VR:=Lib.hid (ringp_vl p2)
  clear hx hd hC p2
  obtain ⟨v2a,v2n,v2c,rfl,v2e⟩:=Rg.rl_nat A2.out
  clear v2e
  obtain ⟨y1,hy1⟩:∃ y,RowKit.wrap64 (x.1+z.1)=y:=⟨_,rfl⟩
  obtain ⟨y2,hy2⟩:∃ y,RowKit.wrap64 (x.2+z.2)=y:=⟨_,rfl⟩
  have Y1:=Lib.hid hy1
  have Y2:=Lib.hid hy2
  go_wp2_with fail
  refine (at_c _ _ _).mono ?_
  rintro e w3 ⟨rfl,g3⟩
  have D3:Hid (Grew w2 w3):=Lib.hid (Grew.trans gw g3)
  have G3:=Lib.hid (G2.out.trans D3.out)
  have BK03:=Lib.hid (BK02.out.grown D3.out)
  have BK13:=Lib.hid (BK12.out.grown D3.out)
  have BK23:=Lib.hid (BK22.out.grown D3.out)
  have A3:=Lib.hid (A2.out.grown D3.out)
  clear BK02 BK12 BK22 A2 g3 D3 G2 x00 x01 x0l x10 x11 x1l x20 x21 x2l
  obtain ⟨⟨x00,x01⟩,-,-⟩:=BK03.out.two
  have x0l:=BK03.out.lt
  obtain ⟨⟨x10,x11⟩,-,-⟩:=BK13.out.two
  have x1l:=BK13.out.lt
  obtain ⟨⟨x20,x21⟩,-,-⟩:=BK23.out.two
  have x2l:=BK23.out.lt
  clear hy1 hy2
  go_wp2_with fail
  refine (Rg.place_t (y1,y2) _).mono ?_
  rintro e w4 ⟨b1,rfl,h1,g4⟩
  have D4:Hid (Grew w3 w4):=Lib.hid (Grew.trans gw g4)
  have G4:=Lib.hid (G3.out.trans D4.out)
  have BK34:=Lib.hid ((Blk.new w3 #[.int .i64 y1,.int .i64 y2] 24).grown g4)
  have BK04:=Lib.hid (BK03.out.grown D4.out)
  have BK14:=Lib.hid (BK13.out.grown D4.out)
  have BK24:=Lib.hid (BK23.out.grown D4.out)
  have A4:=Lib.hid (A3.out.grown D4.out)
  clear BK03 BK13 BK23 A3 g4 D4 G3 x00 x01 x0l x10 x11 x1l x20 x21 x2l
  obtain ⟨⟨x00,x01⟩,-,-⟩:=BK04.out.two
  have x0l:=BK04.out.lt
  obtain ⟨⟨x10,x11⟩,-,-⟩:=BK14.out.two
  have x1l:=BK14.out.lt
  obtain ⟨⟨x20,x21⟩,-,-⟩:=BK24.out.two
  have x2l:=BK24.out.lt
  obtain ⟨⟨x30,x31⟩,-,-⟩:=BK34.out.two
  have x3l:=BK34.out.lt
  have H1:=Lib.hid h1
  clear h1
  cases b1
  ·go_wp2_with fail
   go_ret
   exact ⟨by first | rfl | trivial,G4.out⟩
  have PY:Hid (Plc (y1,y2)):=Lib.hid (H1.out.1 (by first | rfl | trivial))
  clear H1
  go_wp2_with fail
  refine (has_ok HA r2 (y1,y2) _ _ A4.out VR.out PY.out).mono ?_
  rintro e w5 ⟨b2,rfl,h2,g5⟩
  have D5:Hid (Grew w4 w5):=Lib.hid (Grew.trans gw g5)
  have G5:=Lib.hid (G4.out.trans D5.out)
  have BK05:=Lib.hid (BK04.out.grown D5.out)
  have BK15:=Lib.hid (BK14.out.grown D5.out)
  have BK25:=Lib.hid (BK24.out.grown D5.out)
  have A5:=Lib.hid (A4.out.grown D5.out)
  have BK35:=Lib.hid (BK34.out.grown D5.out)
  clear BK04 BK14 BK24 A4 BK34 g5 D5 G4 x00 x01 x0l x10 x11 x1l x20 x21 x2l x30 x31 x3l
  obtain ⟨⟨x00,x01⟩,-,-⟩:=BK05.out.two
  have x0l:=BK05.out.lt
  obtain ⟨⟨x10,x11⟩,-,-⟩:=BK15.out.two
  have x1l:=BK15.out.lt
  obtain ⟨⟨x20,x21⟩,-,-⟩:=BK25.out.two
  have x2l:=BK25.out.lt
  obtain ⟨⟨x30,x31⟩,-,-⟩:=BK35.out.two
  have x3l:=BK35.out.lt
  have H2:=Lib.hid h2
  clear h2
  cases b2
  ·go_wp2_with fail
   go_ret
   exact ⟨by first | rfl | trivial,G5.out⟩
  have TI:Hid (((-(hi * 1003 / 1000+2)≤y1 - x.1∧y1 - x.1≤hi * 1003 / 1000+2)∧-(hi * 1003 / 1000+2)≤y2 - x.2∧y2 - x.2≤hi * 1003 / 1000+2)∧(99 * lo - 300≤0∨(99 * lo - 300) * (99 * lo - 300)≤10000 * sq x (y1,y2))):=Lib.hid (by
   obtain ⟨L,c,t⟩:=RC.out
   have h:=ring_tight DX.out c t (H2.out.1 (by first | rfl | trivial))
   rw [sq_comm]
   exact h)
  have Z1:z.1=y1 - x.1:=no_wrap PX.out.1 hz.out.1 Y1.out PY.out.1
  have Z2:z.2=y2 - x.2:=no_wrap PX.out.2 hz.out.2 Y2.out PY.out.2
  obtain ⟨⟨t1,t2⟩,t3⟩:=TI.out
  rw [← Z1] at t1
  rw [← Z2] at t2
  obtain ⟨hd0,hd1,hd2⟩:=DX.out
  obtain ⟨M1,e1,m1⟩:=run_max z.1 (-z.1)
  obtain ⟨M2,e2,m2⟩:=run_max z.2 (-z.2)
  have px:=PX.out
  have py:=PY.out
  unfold Plc at px py
  simp only at py
  have zb1:-1000000≤z.1∧z.1≤1000000:=by omega
  have zb2:-1000000≤z.2∧z.2≤1000000:=by omega
  obtain ⟨q,hq⟩:∃ q,hi * 1003 / 1000=q:=⟨_,rfl⟩
  have hq2:(hi * 1003).tdiv 1000=q:=by rw [Int.tdiv_eq_ediv_of_nonneg (by omega)];exact hq
  rw [hq] at t1 t2
  have q0:0≤q∧q≤200000:=by omega
  have c1:M1≤q+2:=by omega
  have c2:M2≤q+2:=by omega
  have SC:=Lib.hid (fun W => square_r x (y1,y2) W PX.out PY.out)
  have sb:=sq_bd PX.out PY.out
  obtain ⟨s,hs⟩:∃ s,sq x (y1,y2)=s:=⟨_,rfl⟩
  rw [hs] at SC sb t3
  have nn:=sq_in (a:=99 * lo - 300) (b:=10000000) (by omega)
  clear t1 t2 m1 m2 Z1 Z2 px py TI hs RC H2 hq
  by_cases hn:99 * lo - 300≤0
  ·clear t3
   go_wp2_with fail
   go_ret
   exact ⟨by first | rfl | trivial,G5.out⟩
  have c3:(99 * lo - 300) * (99 * lo - 300)≤10000 * s:=t3.resolve_left hn
  clear t3
  go_wp2_with fail
  refine (SC.out _).mono ?_
  rintro e w6 ⟨rfl,g6⟩
  have D6:Hid (Grew w5 w6):=Lib.hid (Grew.trans gw g6)
  have G6:=Lib.hid (G5.out.trans D6.out)
  have BK06:=Lib.hid (BK05.out.grown D6.out)
  have BK16:=Lib.hid (BK15.out.grown D6.out)
  have BK26:=Lib.hid (BK25.out.grown D6.out)
  have A6:=Lib.hid (A5.out.grown D6.out)
  have BK36:=Lib.hid (BK35.out.grown D6.out)
  clear BK05 BK15 BK25 A5 BK35 g6 D6 G5 x00 x01 x0l x10 x11 x1l x20 x21 x2l x30 x31 x3l
  obtain ⟨⟨x00,x01⟩,-,-⟩:=BK06.out.two
  have x0l:=BK06.out.lt
  obtain ⟨⟨x10,x11⟩,-,-⟩:=BK16.out.two
  have x1l:=BK16.out.lt
  obtain ⟨⟨x20,x21⟩,-,-⟩:=BK26.out.two
  have x2l:=BK26.out.lt
  obtain ⟨⟨x30,x31⟩,-,-⟩:=BK36.out.two
  have x3l:=BK36.out.lt
  go_wp2_with fail
  go_ret
  exact ⟨by first | rfl | trivial,G6.out⟩
 have hk2:(k2 == 0)=false:=beq_eq_false_iff_ne.2 hk
 have hk3:(k2 != 0)=true:=by simp [hk]
 obtain ⟨va,vn,vc,rfl,ve⟩:=Rg.rl_nat A2.out
 go_wp2_with fail
 go_ret
 exact ⟨by first | rfl | trivial,G2.out⟩
end Rn
end Go.Proofs.YtbpgfenippiepaaGreatDoor
