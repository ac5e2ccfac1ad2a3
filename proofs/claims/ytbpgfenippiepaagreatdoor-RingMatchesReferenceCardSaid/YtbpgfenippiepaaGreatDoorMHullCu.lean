/-
  The library Grow at a nil chain, Reverse at points, Concat at two chains.
  The landed package ray: what is a ray, a width, a vector; a ray by its number.
  The landed package ray: the sides of a vector, Between, Of.
  The library Grow and Concat at two lists of points.
  The landed package ray: rounded places, and the rays that are ranged over.
-/
import Derived.Test.YtbpgfenippiepaaGreatDoorMHullLay
import Derived.Test.YtbpgfenippiepaaGreatDoorMCutCon
import Derived.Test.YtbpgfenippiepaaGreatDoorMHullCr
import Derived.Test.YtbpgfenippiepaaGreatDoorMExactPlain
import Derived.Test.YtbpgfenippiepaaGreatDoorMHullBar
import Derived.Test.YtbpgfenippiepaaGreatDoorMHullCm
import Derived.Test.YtbpgfenippiepaaGreatDoorMHullIn
import Derived.Test.YtbpgfenippiepaaGreatDoorMRayCnt
namespace Go.Proofs.YtbpgfenippiepaaGreatDoor
open Go.RowKit Go.Shelf Go.Sort
namespace Hl
theorem new_block (w:World) (cs:Array Value) (t:TypeId):(w.drew.alloc (.cells cs t)).heap[w.heap.size]? = some (.cells cs t (0,0)):=by
 show (w.heap.push _)[w.heap.size]? = _
 rw [Array.getElem?_push_size]
theorem grow_c (N:Nat) (w:World) (h1:1≤N) (hN:N≤4000000) :
  Calls Tryz.prog 206 #[.slice none 0 0,.int .i64 N] w fun e w' => ∃ sa sc,e=.returned (.slice sa 0 sc)∧Own w.heap.size w' (.slice sa 0 sc) []∧Grew w w':=by
 obtain ⟨i0,hi,hz0,hz1,hz2⟩:=info_parts info_pt
 have h:=Any8.slices_Grow_grow growP i0 (.agg #[.int .i64 0,.int .i64 0]) hi hz0 (by omega) none 0 0 N [] w (Nat.le_refl _) (by omega) (by rw [hz2];omega) (by omega) (by simp) (fun _ => rfl) (fun a h => by cases h)
 refine h.mono ?_
 rintro e w' ⟨rfl,rfl⟩
 have hG:=grownCap_ge w (0+N) 0 24
 have hM:=grownCap_le_maxLen w (0+N) 0 24 (by unfold maxLen;omega)
 have hz:(growP_ren.t 25) = 24:=rfl
 rw [hz]
 refine ⟨_,_,rfl,own_at.1 ⟨Nat.le_refl _,Nat.zero_le _,hM,_,new_block _ _ _,?_,fun i hi => absurd hi (Nat.not_lt_zero _)⟩,((Grew.refl w).drew).alloc _ _⟩
 rw [Array.size_append,Array.size_append,size_zeroCells,size_zeroCells]
 show 0+(0+N - 0) * 2+(grownCap w (0+N) 0 24 - (0+N)) * 2=_
 omega
theorem rev_c (l:List Pt) (B g cap:Nat) (w:World) (ho:OwnAt B w g cap l) (hl:l.length≤4000000) :
  Calls Tryz.prog 183 #[.slice (some ⟨g,0,none⟩) l.length cap] w fun e w' => e=.returned (.tuple #[])∧OwnAt B w' g cap l.reverse∧w.grownBy w' (some g):=by
 have hH:HoldsK encP 2 w g 0 l.toArray:=by
  unfold HoldsK
  rw [flat_cells]
  exact ho.holds
 have h:=AnyQ.slices_Reverse reverseP 2 (fun w => Tryz.isAgg24 w) (fun w => Tryz.sizeOf24 w) encP (fun _ => rfl) (fun x v hv => by simp [encP] at hv;rcases hv with rfl | rfl <;> rfl) g 0 cap l.toArray w hH (by simp;omega)
 refine h.mono ?_
 rintro e w' ⟨rfl,n,rfl⟩
 refine ⟨rfl,?_,?_⟩
 ·have:=ho.put (n:=n) (os:=#[]) (q:=l.reverse) List.length_reverse
  unfold putRowK
  rw [flat_cells]
  simpa using this
 ·have:=grownBy_put w g n #[] (cellsOf l.reverse).toArray
  unfold putRowK
  rw [flat_cells]
  simpa using this
end Hl
end Go.Proofs.YtbpgfenippiepaaGreatDoor
namespace Go.Proofs.YtbpgfenippiepaaGreatDoor
open Go.RowKit Go.Shelf
namespace Hl
theorem Own.mono {B B':Nat} {w:World} {v:Value} {p:List Pt} (h:Own B w v p) (hb:B'≤B):Own B' w v p:=by
 refine ⟨h.1,?_⟩
 rcases h.2 with h | ⟨g,cap,cur,e,h1,h2⟩
 ·exact Or.inl h
 ·exact Or.inr ⟨g,cap,cur,e,Nat.le_trans hb h1,h2⟩
set_option maxRecDepth 100000 in
set_option maxHeartbeats 4000000 in
theorem concat_c (b g1 g2 c1 c2:Nat) (S T:List Pt) (w:World) (hb:Blk w b #[.slice (some ⟨g1,0,none⟩) S.length c1,.slice (some ⟨g2,0,none⟩) T.length c2] 191) (hS:Row w g1 0 S) (hT:Row w g2 0 T)
  (h1:1≤S.length) (h2:S.length≤1000000) (h3:T.length≤1000000) :
  Calls Tryz.prog 184 #[.slice (some ⟨b,0,none⟩) 2 2] w fun e w' => ∃ v,e=.returned v∧Own w.heap.size w' v (S ++ T)∧Grew w w':=by
 have HS:=Lib.hid hS
 have HT:=Lib.hid hT
 have HB:=Lib.hid hb
 obtain ⟨⟨x0,x1⟩,_,_⟩:=hb.two
 have GC:Hid (∀ W,Grew w W→Calls Tryz.prog 206 #[.slice none 0 0,.int .i64 ((S.length:Int)+(T.length:Int))] W fun e w' => ∃ sa sc,e=.returned (.slice sa 0 sc)∧Hid (Own w.heap.size w' (.slice sa 0 sc) []∧Grew w w')):=Lib.hid (fun W g => by
  have h:=grow_c (S.length+T.length) W (by omega) (by omega)
  rw [Int.natCast_add] at h
  refine h.mono ?_
  rintro e w' ⟨sa,sc,he,ho,hg⟩
  exact ⟨sa,sc,he,Lib.hid ⟨ho.mono g.size,g.trans hg⟩⟩)
 have W1:IntKind.i64.wrap (S.length:Int)=(S.length:Int):=IntWalk.i64_in _ ⟨by omega,by omega⟩
 have W2:IntKind.i64.wrap ((S.length:Int)+(T.length:Int))=(S.length:Int)+(T.length:Int):=IntWalk.i64_in _ ⟨by omega,by omega⟩
 have n1:¬ ((S.length:Int) < 0):=by omega
 have n2:¬ ((S.length:Int)+(T.length:Int) < 0):=by omega
 clear hb hS hT
 go_enter Tryz.func184,Tryz.ntmps184
 go_wp2_with fail
 go_loopw [3,11] (fun s i wr => w=wr∧((i=.int .i64 0∧s=.int .i64 0)∨(i=.int .i64 1∧s=.int .i64 S.length)∨(i=.int .i64 2∧s=.int .i64 ((S.length:Int)+(T.length:Int))))) (fun _ i _ => 2 - (intOf i).toNat)
 case atStart => exact ⟨rfl,Or.inl ⟨rfl,rfl⟩⟩
 case round =>
  obtain ⟨rfl,hk⟩:=hrel
  rcases hk with ⟨rfl,rfl⟩ | ⟨rfl,rfl⟩ | ⟨rfl,rfl⟩
  ·go_wp2_with fail
   exact ⟨⟨trivial,Or.inr (Or.inl ⟨rfl,rfl⟩)⟩,by simp [intOf]⟩
  ·go_wp2_with fail
   exact ⟨⟨trivial,Or.inr (Or.inr ⟨rfl,rfl⟩)⟩,by simp [intOf]⟩
  ·go_wp2_with (first | (go_at_call 206;refine (GC.out _ (Grew.refl _)).mono ?_;rintro e w' ⟨sa,sc,rfl,hn⟩))
   clear x0 x1
   go_loopw [6,27] (fun v i wz => ((i=.int .i64 0∧Own w.heap.size wz v [])∨(i=.int .i64 1∧Own w.heap.size wz v S)∨(i=.int .i64 2∧Own w.heap.size wz v (S ++ T)))∧Grew w wz) (fun _ i _ => 2 - (intOf i).toNat)
   case atStart => exact ⟨Or.inl ⟨rfl,hn.out.1⟩,hn.out.2⟩
   case round =>
    clear hn GC
    obtain ⟨hk,hG⟩:=hrel
    have HG:=Lib.hid hG
    obtain ⟨⟨x0,x1⟩,y0,y1⟩:=(HB.out.grown hG).two
    clear hG
    rcases hk with ⟨rfl,hO⟩ | ⟨rfl,hO⟩ | ⟨rfl,hO⟩
    ·obtain ⟨oa,oc,rfl⟩:=hO.sl.shape
     have HO:=Lib.hid hO
     clear hO
     go_wp2_with (at_builtin;go_must (refine append_T _ rfl _ _ 191 Tryz.underlying191 rfl w.heap.size _ ([]) (S) _ 0 _ rfl HO.out rfl (HS.out.grown HG.out) (by simp;omega) HG.out.size ?_;intro v' w' own' gr';have GG':=Lib.hid (HG.out.grown gr' (fun k hk => HO.out.block k hk));have OWN':=Lib.hid own';obtain ⟨sa',sc',rfl⟩:=own'.sl.shape;clear own' gr'))
     exact ⟨⟨Or.inr (Or.inl ⟨rfl,OWN'.out⟩),GG'.out⟩,by simp [intOf]⟩
    ·obtain ⟨oa,oc,rfl⟩:=hO.sl.shape
     have HO:=Lib.hid hO
     clear hO
     go_wp2_with (at_builtin;go_must (refine append_T _ rfl _ _ 191 Tryz.underlying191 rfl w.heap.size _ (S) (T) _ 0 _ rfl HO.out rfl (HT.out.grown HG.out) (by omega) HG.out.size ?_;intro v' w' own' gr';have GG':=Lib.hid (HG.out.grown gr' (fun k hk => HO.out.block k hk));have OWN':=Lib.hid own';obtain ⟨sa',sc',rfl⟩:=own'.sl.shape;clear own' gr'))
     exact ⟨⟨Or.inr (Or.inr ⟨rfl,by have h:=OWN'.out;rwa [List.length_append] at h⟩),GG'.out⟩,by simp [intOf]⟩
    ·obtain ⟨oa,oc,rfl⟩:=hO.sl.shape
     have HO:=Lib.hid hO
     clear hO
     go_wp2_with fail
     go_ret
     exact ⟨_,rfl,HO.out,HG.out⟩
end Hl
end Go.Proofs.YtbpgfenippiepaaGreatDoor
namespace Go.Proofs.YtbpgfenippiepaaGreatDoor
open Go.RowKit Hl
namespace Ry
set_option maxRecDepth 100000
theorem q0_bdQ:∀ j,j < 17→(-1000≤(q0 j).1∧(q0 j).1≤1000)∧(-1000≤(q0 j).2∧(q0 j).2≤1000):=by decide
theorem tn_bdQ (m:Nat) {x:Pt} (h:(-1000≤x.1∧x.1≤1000)∧(-1000≤x.2∧x.2≤1000)):(-1000≤(tn m x).1∧(tn m x).1≤1000)∧(-1000≤(tn m x).2∧(tn m x).2≤1000):=by
 induction m with
 | zero => exact h
 | succ m ih =>
   show (-1000≤-(tn m x).2∧-(tn m x).2≤1000)∧(-1000≤(tn m x).1∧(tn m x).1≤1000)
   omega
def Vec (v:Pt):Prop:=((-1000000≤v.1∧v.1≤1000000)∧(-1000000≤v.2∧v.2≤1000000))∧v ≠ (0,0)
theorem isRay_yes (k:Int) (h0:0≤k) (h1:k < 64) (w:World):Calls Tryz.prog 78 #[.int .i64 k] w fun e w' => e=.returned (.bool true)∧w=w':=by
 go_enter Tryz.func78,Tryz.ntmps78
 go_wp2_with fail
 go_ret
 exact ⟨by first | rfl | (simp;omega),rfl⟩
theorem isRay_no (k:Int) (h:k < 0∨64≤k) (w:World):Calls Tryz.prog 78 #[.int .i64 k] w fun e w' => e=.returned (.bool false)∧w=w':=by
 by_cases h0:k < 0
 ·clear h
  go_enter Tryz.func78,Tryz.ntmps78
  go_wp2_with fail
  go_ret
  exact ⟨by first | rfl | (simp;omega),rfl⟩
 ·have h1:¬ k < 64:=by omega
  clear h
  go_enter Tryz.func78,Tryz.ntmps78
  go_wp2_with fail
  go_ret
  exact ⟨by first | rfl | (simp;omega),rfl⟩
theorem isWidth_yes (k:Int) (h0:0≤k) (h1:k≤31) (w:World):Calls Tryz.prog 99 #[.int .i64 k] w fun e w' => e=.returned (.bool true)∧w=w':=by
 go_enter Tryz.func99,Tryz.ntmps99
 go_wp2_with fail
 go_ret
 exact ⟨by first | rfl | (simp;omega),rfl⟩
theorem isWidth_no (k:Int) (h:k < 0∨31 < k) (w:World):Calls Tryz.prog 99 #[.int .i64 k] w fun e w' => e=.returned (.bool false)∧w=w':=by
 by_cases h0:k < 0
 ·clear h
  go_enter Tryz.func99,Tryz.ntmps99
  go_wp2_with fail
  go_ret
  exact ⟨by first | rfl | (simp;omega),rfl⟩
 ·have h1:¬ k≤31:=by omega
  clear h
  go_enter Tryz.func99,Tryz.ntmps99
  go_wp2_with fail
  go_ret
  exact ⟨by first | rfl | (simp;omega),rfl⟩
set_option maxHeartbeats 1000000 in
theorem direction_c (k:Nat) (w:World) (hT:Tq w) (hk:k < 128):Calls Tryz.prog 79 #[.int .i64 k] w fun e w' => e=.returned (.agg #[.int .i64 (dir k).1,.int .i64 (dir k).2])∧Grew w w':=by
 obtain ⟨m,hm⟩:∃ m,k / 16=m:=⟨_,rfl⟩
 obtain ⟨j,hj⟩:∃ j,k % 16=j:=⟨_,rfl⟩
 have ed:dir k=tn m (q0 j):=by unfold dir;rw [hm,hj]
 rw [ed]
 have j16:j < 16:=by omega
 have m8:m < 8:=by omega
 obtain ⟨c0,c1⟩:=hT.2 j j16
 have hg:=hT.1
 obtain ⟨z,hz⟩:∃ z,q0 j=z:=⟨_,rfl⟩
 have BD:Hid (∀ t,(-1000≤(tn t z).1∧(tn t z).1≤1000)∧(-1000≤(tn t z).2∧(tn t z).2≤1000)):=Lib.hid (fun t => tn_bdQ t (by rw [← hz];exact q0_bdQ j (by omega)))
 rw [hz] at c0 c1 ⊢
 have T1:(k:Int).tmod 16=(j:Int):=by rw [Int.tmod_eq_emod_of_nonneg (by omega)];omega
 have T2:(k:Int) % 16=(j:Int):=by omega
 have T3:(k:Int).tdiv 16=(m:Int):=by rw [Int.tdiv_eq_ediv_of_nonneg (by omega)];omega
 have T4:(k:Int) / 16=(m:Int):=by omega
 have i0:(0:Int)≤(j:Int):=by omega
 have i1:(j:Int) < 16:=by omega
 have k0:(0:Int)≤(k:Int):=by omega
 have k1:(k:Int) < 128:=by omega
 clear ed hm hj hz hT
 go_enter Tryz.func79,Tryz.ntmps79
 go_wp2_with fail
 have kA:Blk ((w.alloc (.cells #[.int .i64 0,.int .i64 0] 24)).alloc (.cells #[.int .i64 z.1,.int .i64 z.2] 24)) w.heap.size #[.int .i64 0,.int .i64 0] 24:=(Blk.new w _ _).alloc _
 have kB:Blk ((w.alloc (.cells #[.int .i64 0,.int .i64 0] 24)).alloc (.cells #[.int .i64 z.1,.int .i64 z.2] 24)) (w.heap.size+1) #[.int .i64 z.1,.int .i64 z.2] 24:=by
  have h:=Blk.new (w.alloc (.cells #[.int .i64 0,.int .i64 0] 24)) #[.int .i64 z.1,.int .i64 z.2] 24
  rwa [World.size_alloc] at h
 have G0:Grew w ((w.alloc (.cells #[.int .i64 0,.int .i64 0] 24)).alloc (.cells #[.int .i64 z.1,.int .i64 z.2] 24)):=((Grew.refl w).alloc _ _).alloc _ _
 clear c0 c1 hg
 go_loopw [10] (fun i wr => ∃ t:Nat,t≤m∧i=.int .i64 t∧Hid (Blk wr w.heap.size #[.int .i64 0,.int .i64 0] 24∧Blk wr (w.heap.size+1) #[.int .i64 (tn t z).1,.int .i64 (tn t z).2] 24∧Grew w wr)) (fun i _ => m - (intOf i).toNat)
 case atStart => exact ⟨0,Nat.zero_le _,rfl,Lib.hid ⟨kA,kB,G0⟩⟩
 case round =>
  clear kA kB G0
  obtain ⟨t,ht,rfl,HH⟩:=hrel
  obtain ⟨⟨a0,a1⟩,a2,a3⟩:=HH.out.1.two
  obtain ⟨⟨b0,b1⟩,b2,b3⟩:=HH.out.2.1.two
  have lA:=HH.out.1.lt
  have lB:=HH.out.2.1.lt
  have t0:(0:Int)≤(t:Int):=by omega
  by_cases hlt:t < m
  ·have BT:=BD.out t
   have EN:Hid (tn (t+1) z=(-(tn t z).2,(tn t z).1)):=Lib.hid rfl
   obtain ⟨u,hu⟩:∃ u,(tn t z).1=u:=⟨_,rfl⟩
   obtain ⟨v,hv⟩:∃ v,(tn t z).2=v:=⟨_,rfl⟩
   rw [hu] at b0 BT EN HH
   rw [hv] at b1 BT EN HH
   obtain ⟨⟨u0,u1⟩,v0,v1⟩:=BT
   clear hu hv
   have lt:(t:Int) < (m:Int):=by omega
   go_wp2_with fail
   go_roundw
   case rel =>
    refine ⟨t+1,by omega,by go_num,Lib.hid ⟨?_,?_,?_⟩⟩
    ·exact (HH.out.1.other (by omega) _).other (by omega) _
    ·rw [EN.out]
     exact HH.out.2.1.put2
    ·have G:=HH.out.2.2
     exact gw
   case measure => simp [intOf];omega
  ·obtain rfl:t=m:=by omega
   go_wp2_with fail
   have G:=HH.out.2.2
   exact bodyPost_ret (v:=.agg #[.int .i64 (tn t z).1,.int .i64 (tn t z).2]) (by simp [results,Tryz.results79,go_sem, *]) rfl ⟨rfl,gw⟩
theorem ray_ok (k:Nat) (w:World) (hT:Tq w) (hk:k < 64):Calls Tryz.prog 41 #[.int .i64 k] w fun e w' => e=.returned (.tuple #[.agg #[.int .i64 (dir k).1,.int .i64 (dir k).2],.int .i64 0])∧Grew w w':=by
 have G1:Grew w (w.alloc (.cells #[.int .i64 0,.int .i64 0] 24)):=(Grew.refl w).alloc _ _
 have DC:=Lib.hid (direction_c k _ (hT.grew G1) (by omega))
 have k0:(0:Int)≤(k:Int):=by omega
 have k1:(k:Int) < 64:=by omega
 have kA:=Lib.hid (Blk.new w #[.int .i64 0,.int .i64 0] 24)
 clear hT
 go_enter Tryz.func41,Tryz.ntmps41
 go_wp2_with fail
 refine (isRay_yes _ k0 k1 _).mono ?_
 rintro e w' ⟨rfl,rfl⟩
 go_wp2_with fail
 refine (DC.out).mono ?_
 rintro e w' ⟨rfl,g⟩
 have G2:=Lib.hid (G1.trans g)
 obtain ⟨⟨a0,a1⟩,a2,a3⟩:=(kA.out.grown g).two
 have lA:=(kA.out.grown g).lt
 clear g G1
 go_wp2_with fail
 have G:=G2.out
 exact bodyPost_ret (v:=.tuple #[.agg #[.int .i64 (dir k).1,.int .i64 (dir k).2],.int .i64 0]) (by simp [results,Tryz.results41,go_sem, *]) rfl ⟨rfl,gw⟩
theorem ray_bad (k:Int) (w:World) (hk:¬ (0≤k∧k < 64)):Calls Tryz.prog 41 #[.int .i64 k] w fun e w' => e=.returned (.tuple #[.agg #[.int .i64 0,.int .i64 0],.int .i64 1])∧Grew w w':=by
 have H:Hid (k < 0∨64≤k):=Lib.hid (by omega)
 clear hk
 go_enter Tryz.func41,Tryz.ntmps41
 go_wp2_with fail
 refine (isRay_no _ H.out _).mono ?_
 rintro e w' ⟨rfl,rfl⟩
 go_wp2_with fail
 exact bodyPost_ret (v:=.tuple #[.agg #[.int .i64 0,.int .i64 0],.int .i64 1]) (by simp [results,Tryz.results41,go_sem]) rfl ⟨rfl,gw⟩
end Ry
end Go.Proofs.YtbpgfenippiepaaGreatDoor
namespace Go.Proofs.YtbpgfenippiepaaGreatDoor
open Go.RowKit Hl
namespace Ry
set_option maxRecDepth 100000
def Near (v:Pt):Prop:=(-1000000≤v.1∧v.1≤1000000)∧(-1000000≤v.2∧v.2≤1000000)
theorem Vec.near {v:Pt} (h:Vec v):Near v:=h.1
end Ry
end Go.Proofs.YtbpgfenippiepaaGreatDoor
namespace Go.Proofs.YtbpgfenippiepaaGreatDoor
open Go.RowKit Go.Shelf Hl
namespace Ry
def growQ_ren:Go.Shelf.Ren:=⟨fun | 4 => 137 | n => n,fun | 22 => 48 | 25 => 24 | 3 => 3 | 4 => 4 | 9 => 9 | 20 => 20 | 0 => 0 | 2 => 3 | n => n,fun | n => n⟩
theorem growQ:Go.Proofs.Lays8.n4 Tryz.prog growQ_ren:={
 mixed:=by kernel_rfl
 f4:=⟨Tryz.f137.name,by decide,Tryz.func137.trans (congrArg some (by kernel_rfl))⟩
 t0:=Tryz.underlying0
 a0:=Tryz.isAgg0
 z0:=Tryz.sizeOf0
 v0:=Tryz.zeroValue0
 t3:=Tryz.underlying3
 a3:=Tryz.isAgg3
 z3:=Tryz.sizeOf3
 v3:=Tryz.zeroValue3
 t4:=Tryz.underlying4
 a4:=Tryz.isAgg4
 z4:=Tryz.sizeOf4
 v4:=Tryz.zeroValue4
 t9:=Tryz.underlying9
 a9:=Tryz.isAgg9
 z9:=Tryz.sizeOf9
 v9:=Tryz.zeroValue9
 t20:=Tryz.underlying20
 a20:=Tryz.isAgg20
 z20:=Tryz.sizeOf20
 v20:=Tryz.zeroValue20
 t22:=Tryz.underlying48
 a22:=Tryz.isAgg48
 z22:=Tryz.sizeOf48
 v22:=Tryz.zeroValue48 }
theorem grow_any (N:Nat) (w:World) (hN:N≤4000000) :
  Calls Tryz.prog 137 #[.slice none 0 0,.int .i64 N] w fun e w' => ∃ sa sc,e=.returned (.slice sa 0 sc)∧Hl.Own w.heap.size w' (.slice sa 0 sc) []∧Grew w w':=by
 by_cases h0:N=0
 ·subst h0
  clear hN
  go_enter Tryz.func137,Tryz.ntmps137
  go_wp2_with fail
  go_ret
  exact ⟨none,0,rfl,Own.nil _ _,Grew.refl _⟩
 ·obtain ⟨i0,hi,hz0,hz1,hz2⟩:=info_parts info_pt
  have h:=Any8.slices_Grow_grow growQ i0 (.agg #[.int .i64 0,.int .i64 0]) hi hz0 (by omega) none 0 0 N [] w (Nat.le_refl _) (by omega) (by rw [hz2];omega) (by omega) (by simp) (fun _ => rfl) (fun a h => by cases h)
  refine h.mono ?_
  rintro e w' ⟨rfl,rfl⟩
  have hG:=grownCap_ge w (0+N) 0 24
  have hM:=grownCap_le_maxLen w (0+N) 0 24 (by unfold maxLen;omega)
  have hz:(growQ_ren.t 25) = 24:=rfl
  rw [hz]
  refine ⟨_,_,rfl,own_at.1 ⟨Nat.le_refl _,Nat.zero_le _,hM,_,new_block _ _ _,?_,fun i hi => absurd hi (Nat.not_lt_zero _)⟩,((Grew.refl w).drew).alloc _ _⟩
  rw [Array.size_append,Array.size_append,size_zeroCells,size_zeroCells]
  show 0+(0+N - 0) * 2+(grownCap w (0+N) 0 24 - (0+N)) * 2=_
  omega
set_option maxRecDepth 100000 in
set_option maxHeartbeats 4000000 in
theorem concat_pts (b g1 g2 c1 c2:Nat) (S T:List Pt) (w:World) (hb:Blk w b #[.slice (some ⟨g1,0,none⟩) S.length c1,.slice (some ⟨g2,0,none⟩) T.length c2] 48) (hS:Row w g1 0 S) (hT:Row w g2 0 T)
  (h1:1≤S.length) (h2:S.length≤1000000) (h3:T.length≤1000000) :
  Calls Tryz.prog 100 #[.slice (some ⟨b,0,none⟩) 2 2] w fun e w' => ∃ v,e=.returned v∧Hl.Own w.heap.size w' v (S ++ T)∧Grew w w':=by
 have HS:=Lib.hid hS
 have HT:=Lib.hid hT
 have HB:=Lib.hid hb
 obtain ⟨⟨x0,x1⟩,_,_⟩:=hb.two
 have GC:Hid (∀ W,Grew w W→Calls Tryz.prog 137 #[.slice none 0 0,.int .i64 ((S.length:Int)+(T.length:Int))] W fun e w' => ∃ sa sc,e=.returned (.slice sa 0 sc)∧Hid (Hl.Own w.heap.size w' (.slice sa 0 sc) []∧Grew w w')):=Lib.hid (fun W g => by
  have h:=grow_any (S.length+T.length) W (by omega)
  rw [Int.natCast_add] at h
  refine h.mono ?_
  rintro e w' ⟨sa,sc,he,ho,hg⟩
  exact ⟨sa,sc,he,Lib.hid ⟨ho.mono g.size,g.trans hg⟩⟩)
 have W1:IntKind.i64.wrap (S.length:Int)=(S.length:Int):=IntWalk.i64_in _ ⟨by omega,by omega⟩
 have W2:IntKind.i64.wrap ((S.length:Int)+(T.length:Int))=(S.length:Int)+(T.length:Int):=IntWalk.i64_in _ ⟨by omega,by omega⟩
 have n1:¬ ((S.length:Int) < 0):=by omega
 have n2:¬ ((S.length:Int)+(T.length:Int) < 0):=by omega
 clear hb hS hT
 go_enter Tryz.func100,Tryz.ntmps100
 go_wp2_with fail
 go_loopw [3,11] (fun s i wr => w=wr∧((i=.int .i64 0∧s=.int .i64 0)∨(i=.int .i64 1∧s=.int .i64 S.length)∨(i=.int .i64 2∧s=.int .i64 ((S.length:Int)+(T.length:Int))))) (fun _ i _ => 2 - (intOf i).toNat)
 case atStart => exact ⟨rfl,Or.inl ⟨rfl,rfl⟩⟩
 case round =>
  obtain ⟨rfl,hk⟩:=hrel
  rcases hk with ⟨rfl,rfl⟩ | ⟨rfl,rfl⟩ | ⟨rfl,rfl⟩
  ·go_wp2_with fail
   exact ⟨⟨trivial,Or.inr (Or.inl ⟨rfl,rfl⟩)⟩,by simp [intOf]⟩
  ·go_wp2_with fail
   exact ⟨⟨trivial,Or.inr (Or.inr ⟨rfl,rfl⟩)⟩,by simp [intOf]⟩
  ·go_wp2_with (first | (go_at_call 137;refine (GC.out _ (Grew.refl _)).mono ?_;rintro e w' ⟨sa,sc,rfl,hn⟩))
   clear x0 x1
   go_loopw [6,27] (fun v i wz => ((i=.int .i64 0∧Hl.Own w.heap.size wz v [])∨(i=.int .i64 1∧Hl.Own w.heap.size wz v S)∨(i=.int .i64 2∧Hl.Own w.heap.size wz v (S ++ T)))∧Grew w wz) (fun _ i _ => 2 - (intOf i).toNat)
   case atStart => exact ⟨Or.inl ⟨rfl,hn.out.1⟩,hn.out.2⟩
   case round =>
    clear hn GC
    obtain ⟨hk,hG⟩:=hrel
    have HG:=Lib.hid hG
    obtain ⟨⟨x0,x1⟩,y0,y1⟩:=(HB.out.grown hG).two
    clear hG
    rcases hk with ⟨rfl,hO⟩ | ⟨rfl,hO⟩ | ⟨rfl,hO⟩
    ·obtain ⟨oa,oc,rfl⟩:=hO.sl.shape
     have HO:=Lib.hid hO
     clear hO
     go_wp2_with (at_builtin;go_must (refine append_T _ rfl _ _ 48 Tryz.underlying48 rfl w.heap.size _ ([]) (S) _ 0 _ rfl HO.out rfl (HS.out.grown HG.out) (by simp;omega) HG.out.size ?_;intro v' w' own' gr';have GG':=Lib.hid (HG.out.grown gr' (fun k hk => HO.out.block k hk));have OWN':=Lib.hid own';obtain ⟨sa',sc',rfl⟩:=own'.sl.shape;clear own' gr'))
     exact ⟨⟨Or.inr (Or.inl ⟨rfl,OWN'.out⟩),GG'.out⟩,by simp [intOf]⟩
    ·obtain ⟨oa,oc,rfl⟩:=hO.sl.shape
     have HO:=Lib.hid hO
     clear hO
     go_wp2_with (at_builtin;go_must (refine append_T _ rfl _ _ 48 Tryz.underlying48 rfl w.heap.size _ (S) (T) _ 0 _ rfl HO.out rfl (HT.out.grown HG.out) (by omega) HG.out.size ?_;intro v' w' own' gr';have GG':=Lib.hid (HG.out.grown gr' (fun k hk => HO.out.block k hk));have OWN':=Lib.hid own';obtain ⟨sa',sc',rfl⟩:=own'.sl.shape;clear own' gr'))
     exact ⟨⟨Or.inr (Or.inr ⟨rfl,by have h:=OWN'.out;rwa [List.length_append] at h⟩),GG'.out⟩,by simp [intOf]⟩
    ·obtain ⟨oa,oc,rfl⟩:=hO.sl.shape
     have HO:=Lib.hid hO
     clear hO
     go_wp2_with fail
     go_ret
     exact ⟨_,rfl,HO.out,HG.out⟩
end Ry
end Go.Proofs.YtbpgfenippiepaaGreatDoor
namespace Go.Proofs.YtbpgfenippiepaaGreatDoor
open Go.RowKit Go.Shelf Hl Ex
attribute [local go_sem] Oper.semAt_some
namespace Ry
set_option maxRecDepth 100000
theorem ownAt_new (B:Nat) (w:World) (p:List Pt) (cs:Array Value) (h:(cellsOf p).toArray=cs) (hB:B≤w.heap.size) (hl:p.length≤4000):OwnAt B (w.alloc (.cells cs 24)) w.heap.size p.length p:=by
 refine ⟨hB,Nat.le_refl _,by unfold maxLen;omega,cs,World.alloc_heap_new w _,?_,fun i hi => ?_⟩
 ·rw [← h,List.size_toArray,cellsOf_len]
 ·have:=cellsOf_at p i hi
  subst h
  rw [List.getElem?_toArray,List.getElem?_toArray]
  exact this
theorem sc_in {c n d:Int} (hc:-1000≤c∧c≤1000) (h0:0≤n) (h1:n≤100000) (hd:d=998∨d=1001):Sc c n d∧Sp (fl (c * n) d)∧Sp (ce (c * n) d):=by
 have p:=prod_bd hc h0 h1
 have s1:=fl_spec (c * n) (b:=d) (by omega)
 have s2:=ce_spec (c * n) (b:=d) (by omega)
 unfold Sc Sp
 generalize fl (c * n) d=f at *
 generalize ce (c * n) d=g at *
 rcases hd with rfl | rfl <;> omega
def RndSays (r:Pt) (n d:Int) (w:World) (e:Ending) (w':World):Prop:=∃ g,e=.returned (.slice (some ⟨g,0,none⟩) 4 4)∧OwnAt w.heap.size w' g 4 (bx r n d)∧Grew w w'
set_option maxHeartbeats 1000000 in
theorem rounded_c (r:Pt) (n d:Int) (w:World) (hr:(-1000≤r.1∧r.1≤1000)∧(-1000≤r.2∧r.2≤1000)) (h0:0≤n) (h1:n≤100000) (hd:d=998∨d=1001):Calls Tryz.prog 101 #[.agg #[.int .i64 r.1,.int .i64 r.2],.int .i64 n,.int .i64 d] w (RndSays r n d w):=by
 obtain ⟨a1,a2,a3⟩:=sc_in hr.1 h0 h1 hd
 obtain ⟨b1,b2,b3⟩:=sc_in hr.2 h0 h1 hd
 have SX:Hid (∀ W,Calls Tryz.prog 138 #[.int .i64 r.1,.int .i64 n,.int .i64 d] W fun e w' => e=.returned (.tuple #[.int .i64 (fl (r.1 * n) d),.int .i64 (ce (r.1 * n) d),.int .i64 0])∧Grew W w'):=Lib.hid (fun W => scale_g _ _ _ W a1 a2 a3)
 have SY:Hid (∀ W,Calls Tryz.prog 138 #[.int .i64 r.2,.int .i64 n,.int .i64 d] W fun e w' => e=.returned (.tuple #[.int .i64 (fl (r.2 * n) d),.int .i64 (ce (r.2 * n) d),.int .i64 0])∧Grew W w'):=Lib.hid (fun W => scale_g _ _ _ W b1 b2 b3)
 have EB:Hid (bx r n d=[(fl (r.1 * n) d,fl (r.2 * n) d),(ce (r.1 * n) d,fl (r.2 * n) d),(fl (r.1 * n) d,ce (r.2 * n) d),(ce (r.1 * n) d,ce (r.2 * n) d)]):=Lib.hid rfl
 have kA:=Lib.hid (Blk.new w #[.int .i64 r.1,.int .i64 r.2] 24)
 have G0:Grew w (w.alloc (.cells #[.int .i64 r.1,.int .i64 r.2] 24)):=(Grew.refl w).alloc _ _
 generalize fl (r.1 * n) d=x at SX EB
 generalize ce (r.1 * n) d=X at SX EB
 generalize fl (r.2 * n) d=y at SY EB
 generalize ce (r.2 * n) d=Y at SY EB
 clear a1 a2 a3 b1 b2 b3 hr h0 h1 hd
 go_enter Tryz.func101,Tryz.ntmps101
 go_wp2_with fail
 refine (SX.out _).mono ?_
 rintro e w1 ⟨rfl,g1⟩
 have G1:=Grew.trans G0 g1
 obtain ⟨⟨c0,c1⟩,_,_⟩:=(kA.out.grown g1).two
 have lA:=(kA.out.grown g1).lt
 clear g1 G0
 go_wp2_with fail
 refine (SY.out _).mono ?_
 rintro e w2 ⟨rfl,g2⟩
 have G2:=Grew.trans G1 g2
 clear g2 G1 c0 c1 lA
 go_wp2_with fail
 go_ret
 have h:=ownAt_new w.heap.size w2 (bx r n d) _ rfl G2.size (by rw [EB.out];exact of_decide_eq_true rfl)
 rw [EB.out] at h
 refine ⟨_,rfl,?_,?_⟩
 ·rw [EB.out]
  exact h
 ·exact gw
def KeptL (L:List Nat) (W W':World):Prop:=W.heap.size≤W'.heap.size∧∀ k,k ∈ L→W'.heap[k]? = W.heap[k]?
theorem KeptL.refl (L:List Nat) (W:World):KeptL L W W:=⟨Nat.le_refl _,fun _ _ => rfl⟩
theorem KeptL.trans {L:List Nat} {X Y Z:World} (h:KeptL L X Y) (k:KeptL L Y Z):KeptL L X Z:=⟨Nat.le_trans h.1 k.1,fun i hi => (k.2 i hi).trans (h.2 i hi)⟩
theorem KeptL.cell {L:List Nat} {W W':World} (h:KeptL L W W') {k o:Nat} (hk:k ∈ L):W'.cell? ⟨k,o,none⟩=W.cell? ⟨k,o,none⟩:=World.cell?_of_block (a:=⟨k,o,none⟩) (h.2 k hk)
theorem KeptL.grown {L:List Nat} {X Y Z:World} {row:Option Nat} (h:KeptL L X Y) (g:Y.grownBy Z row) (hL:∀ k,k ∈ L→k < Y.heap.size) (hr:∀ k,row=some k→k ∉ L):KeptL L X Z :=
 ⟨Nat.le_trans h.1 g.size,fun k hk => (g.block k (hL k hk) (fun e => hr k e.symm hk)).trans (h.2 k hk)⟩
theorem KeptL.grew {L:List Nat} {X Y Z:World} (h:KeptL L X Y) (g:Grew Y Z) (hL:∀ k,k ∈ L→k < Y.heap.size):KeptL L X Z :=
 ⟨Nat.le_trans h.1 g.size,fun k hk => (g.block k (hL k hk)).trans (h.2 k hk)⟩
theorem grownBy_grew {X Y:World} (g:Grew X Y):X.grownBy Y none:=⟨g.os,g.tape,g.output,g.size,fun k hk _ => g.block k hk⟩
theorem keptL_put (L:List Nat) (W:World) (l:Nat) (o':Obj) (hl:∀ k,k ∈ L→k < l):KeptL L W (W.putObj l o') :=
 ⟨(grownBy_putObj' W l o').size,fun k hk => World.putObj_heap_other (by have:=hl k hk;omega)⟩
theorem Tq.kept {L:List Nat} {W W':World} (h:Tq W) (k:KeptL L W W') (hq:0 ∈ L):Tq W' :=
 ⟨Nat.lt_of_lt_of_le h.1 k.1,fun j hj => ⟨(k.cell hq).trans (h.2 j hj).1,(k.cell hq).trans (h.2 j hj).2⟩⟩
def encD (a k:Nat):Array Value:=#[.agg #[.int .i64 (dir (a+k)).1,.int .i64 (dir (a+k)).2]]
theorem rays_in (n:Nat) (a m:Int) (w:World) :
  CallsIn Fence.wide n Tryz.prog 102 #[.int .i64 a,.int .i64 m] w fun e w' => e=.returned (.func (.func 139) #[] #[.pointer (some ⟨w.heap.size+1,0,none⟩),.pointer (some ⟨w.heap.size,0,none⟩)])∧w'=(w.alloc (.cells #[.int .i64 a] 3)).alloc (.cells #[.int .i64 m] 3):=by
 refine callsIn_of_wp Tryz.func102 rfl trivial ?_ rfl
 simp only [Tryz.ntmps102,List.size_toArray,List.length_cons,List.length_nil,Nat.reduceAdd,Nat.reduceSub,Array.replicate_succ,Array.replicate_zero,List.push_toArray,List.append_toArray,List.nil_append,List.cons_append]
 gi_wp2
 go_ret
 exact ⟨rfl,rfl⟩
set_option maxHeartbeats 4000000 in
theorem rays1_in (n:Nat) (hn:1≤n) (l Bn Ba:Nat) (L:List Nat) (a m:Nat) (ham:a+m < 128) (J Jx:List Nat→World→Prop)
  (W:World) (hJ:AbidesFrom W.heap.size J)
  (hY:∀ pre k W1,J pre W1→pre.length < m+1→YieldAt Fence.wide (n - 1) Tryz.prog l (encD a k) W1 fun e W' =>
   (e=.returned (.bool true)∧J (pre ++ [k]) W'∧KeptL L W1 W')∨(e=.returned (.bool false)∧Jx (pre ++ [k]) W'))
  (hL:∀ k,k ∈ L→k < W.heap.size) (hBn:Bn ∈ L) (hBa:Ba ∈ L) (hq:0 ∈ L) (cn:W.cell? ⟨Bn,0,none⟩=some (.int .i64 m)) (ca:W.cell? ⟨Ba,0,none⟩=some (.int .i64 a)) (hT:Tq W) (h0:J [] W) :
  CallsIn Fence.wide n Tryz.prog 139 #[.func (.yield l) #[] #[],.pointer (some ⟨Bn,0,none⟩),.pointer (some ⟨Ba,0,none⟩)] W fun e W' => (∃ v,e=.returned v) ∧
   ((∃ ys,ys=List.range (m+1)∧J ys W')∨(∃ pre,(∃ k,k≤m+1∧pre=List.range k)∧Jx pre W')):=by
 have HY:=Lib.hid hY
 have HJ:=Lib.hid hJ
 have HL:=Lib.hid hL
 have HT:=Lib.hid hT
 have CN:=Lib.hid cn
 have CA:=Lib.hid ca
 have DC:Hid (∀ k,k≤m→∀ W',Tq W'→CallsIn Fence.wide (n - 1) Tryz.prog 79 #[.int .i64 ((a:Int)+(k:Int))] W' fun e w' => e=.returned (.agg #[.int .i64 (dir (a+k)).1,.int .i64 (dir (a+k)).2])∧Grew W' w'):=Lib.hid (fun k hk W' t => callsIn_wide.2 (by
  have h:=direction_c (a+k) W' t (by omega)
  rwa [Int.natCast_add] at h))
 have lBn:=hL Bn hBn
 have lBa:=hL Ba hBa
 have m0:(0:Int)≤(m:Int):=by omega
 have m1:(m:Int) < 128:=by omega
 have a0:(0:Int)≤(a:Int):=by omega
 have a1:(a:Int) < 128:=by omega
 clear hY hJ hT hL
 refine callsIn_of_wp Tryz.func139 rfl trivial ?_ rfl
 simp only [Tryz.ntmps139,List.size_toArray,List.length_cons,List.length_nil,Nat.reduceAdd,Nat.reduceSub,Array.replicate_succ,Array.replicate_zero,List.push_toArray,List.append_toArray,List.nil_append,List.cons_append]
 gi_wp2_with fail
 clear cn ca lBn lBa
 gi_loopw [7,4] (fun i _ wr => ∃ k:Nat,k≤m+1∧i=.int .i64 k∧Hid (J (List.range k) wr∧KeptL L W wr)) (fun i _ _ => m+1 - (intOf i).toNat)
 case atStart => exact ⟨0,Nat.zero_le _,rfl,Lib.hid ⟨h0,KeptL.refl _ _⟩⟩
 case round =>
  clear h0
  obtain ⟨k,hk,rfl,HK⟩:=hrel
  have k0:(0:Int)≤(k:Int):=by omega
  by_cases hlt:k < m+1
  ·have ca:=(HK.out.2.cell (o:=0) hBa).trans CA.out
   have lBa:Ba < wr.heap.size:=by have h1:=HL.out Ba hBa;have h2:=HK.out.2.1;omega
   have klt:(k:Int) < (m:Int)+1:=by omega
   have D1:=Lib.hid (DC.out k (by omega) wr (HT.out.kept HK.out.2 hq))
   have ENC:Hid (encD a k = #[.agg #[.int .i64 (dir (a+k)).1,.int .i64 (dir (a+k)).2]]):=Lib.hid rfl
   have K1:Hid (k≤m∧1≤n - 1+1):=Lib.hid ⟨by omega,by omega⟩
   generalize dir (a+k)=p at D1 ENC
   gi_wp2_with fail
   refine ⟨trivial,D1.out.mono ?_⟩
   rintro e w1 ⟨rfl,g1⟩
   have hJ1:J (List.range k) w1:=HJ.out _ _ _ none HK.out.1 (grownBy_grew g1) (fun r e => by cases e)
   have KW:Hid (KeptL L W w1):=Lib.hid (HK.out.2.grew g1 (fun j hj => Nat.lt_of_lt_of_le (HL.out j hj) HK.out.2.1))
   obtain ⟨fn,tmps,assign,body,hy,hR⟩:=HY.out _ k _ hJ1 (by have:=K1.out.1;rw [List.length_range];omega)
   have hR':=hR.mono (R':=fun e W' => ∃ r:Bool,e=.returned (.bool r)∧Hid ((r=true→J (List.range (k+1)) W'∧KeptL L W W')∧(r=false→Jx (List.range (k+1)) W'))) (by
    rintro e W' (⟨rfl,h1,h2⟩ | ⟨rfl,h1⟩)
    ·exact ⟨true,rfl,Lib.hid ⟨fun _ => ⟨by rw [List.range_succ];exact h1,KW.out.trans h2⟩,fun h => by cases h⟩⟩
    ·exact ⟨false,rfl,Lib.hid ⟨fun h => (by cases h),fun _ => (by rw [List.range_succ];exact h1)⟩⟩)
   clear hR hJ1 HK KW D1 ca lBa g1
   rw [ENC.out] at hy
   clear ENC
   gi_wp2_with fail
   refine hR'.mono ?_
   rintro e W3 ⟨r,rfl,hjr⟩
   cases r
   ·have F:=Lib.hid (hjr.out.2 (by first | rfl | trivial))
    clear hjr
    gi_wp2_with fail
    refine bodyPost_ret (results_none rfl _ _ _) rfl ?_
    exact ⟨⟨_,rfl⟩,.inr ⟨_,⟨k+1,by omega,rfl⟩,F.out⟩⟩
   ·have F:=Lib.hid (hjr.out.1 (by first | rfl | trivial))
    clear hjr
    gi_wp2_with fail
    go_roundw
    case rel => exact ⟨k+1,by omega,by go_num,F⟩
    case measure => simp [intOf];omega
  ·obtain rfl:k=m+1:=by omega
   gi_wp2
   go_end0
   exact ⟨⟨_,rfl⟩,.inl ⟨_,rfl,HK.out.1⟩⟩
theorem rays_stops (n:Nat) (hn:1≤n) (Bn Ba:Nat) (L:List Nat) (a m:Nat) (ham:a+m < 128) (w:World) (hL:∀ k,k ∈ L→k < w.heap.size) (hBn:Bn ∈ L) (hBa:Ba ∈ L) (hq:0 ∈ L)
  (cn:w.cell? ⟨Bn,0,none⟩=some (.int .i64 m)) (ca:w.cell? ⟨Ba,0,none⟩=some (.int .i64 a)) (hT:Tq w) :
  SeqStopsK Fence.wide n Tryz.prog 139 #[.pointer (some ⟨Bn,0,none⟩),.pointer (some ⟨Ba,0,none⟩)] (encD a) (KeptL L) (fun ys => ys=List.range (m+1)) (fun pre => ∃ k,k≤m+1∧pre=List.range k) (m+1) w :=
 fun l J Jx W hW hJ _hJx hY h0 => rays1_in n hn l Bn Ba L a m ham J Jx W hJ hY (fun k hk => Nat.lt_of_lt_of_le (hL k hk) hW.size) hBn hBa hq ((Grew.cell hW (hL _ hBn)).trans cn) ((Grew.cell hW (hL _ hBa)).trans ca) (hT.grew hW) h0
end Ry
end Go.Proofs.YtbpgfenippiepaaGreatDoor
