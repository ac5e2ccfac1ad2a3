/-
  The landed Hull, Box and Eight; Has and Area at what is no polygon; all contracts of the landed package, in one.
-/
import Derived.Test.YtbpgfenippiepaaGreatDoorMMinkOne
import Derived.Test.YtbpgfenippiepaaGreatDoorMHullCe
import Derived.Test.YtbpgfenippiepaaGreatDoorMHullCf
import Derived.Test.YtbpgfenippiepaaGreatDoorMHullCd
import Derived.Test.YtbpgfenippiepaaGreatDoorMHullOct
namespace Go.Proofs.YtbpgfenippiepaaGreatDoor
open Go.RowKit Go.Shelf
namespace Hl
theorem sl_nil (w:World) (a:Option Addr) (c:Nat):Sl w (.slice a 0 c) []:=Or.inl ⟨rfl,a,c,rfl⟩
set_option maxRecDepth 100000 in
set_option maxHeartbeats 4000000 in
theorem hullc_big (l:List Pt) (v:Value) (w:World) (hs:Sl w v l) (h:l.length≤9223372036854775807) (hb:4000 < l.length):Calls Tryz.prog 103 #[v] w (Empty 2 w):=by
 obtain ⟨a,c,rfl⟩:=hs.shape
 have h1:((l.length:Int) > 4000):=by omega
 clear hs
 go_enter Tryz.func103,Tryz.ntmps103
 go_wp2_with fail
 go_ret2
 exact ⟨_,rfl,sl_nil _ _ _,Grew.refl _⟩
set_option maxRecDepth 100000 in
set_option maxHeartbeats 4000000 in
theorem hullc_bad (l:List Pt) (v:Value) (w:World) (hs:Sl w v l) (h:l.length≤4000) (hb:l=[]∨¬ Plcs l):Calls Tryz.prog 103 #[v] w (Empty 1 w):=by
 rcases hs with ⟨rfl,a,c,rfl⟩ | ⟨b,o,c,rfl,hr⟩
 ·clear h hb
  go_enter Tryz.func103,Tryz.ntmps103
  go_wp2_with fail
  go_ret2
  exact ⟨_,rfl,sl_nil _ _ _,Grew.refl _⟩
 ·by_cases h0:l=[]
  ·subst h0
   clear h hb hr
   go_enter Tryz.func103,Tryz.ntmps103
   go_wp2_with fail
   go_ret2
   exact ⟨_,rfl,sl_nil _ _ _,Grew.refl _⟩
  ·have hn:¬ ((l.length:Int)=0):=fun e => h0 (List.length_eq_zero_iff.1 (by omega))
   have h1:¬ ((l.length:Int) > 4000):=by omega
   have PC:Hid (Calls Tryz.prog 93 #[.slice (some ⟨b,o,none⟩) l.length c] w fun e w' => e=.returned (.bool false)∧Hid (Grew w w')):=Lib.hid ((places_c l b o c w hr (by omega)).mono (by
    rintro e w' ⟨r,rfl,hr,g⟩
    cases r
    ·exact ⟨rfl,Lib.hid g⟩
    ·exact (hb.elim h0 (fun hb => hb (hr.1 rfl))).elim))
   have hn2:((l.length:Int) == 0)=false:=beq_eq_false_iff_ne.2 hn
   generalize l.length=n at *
   clear hb h0 hr
   go_enter Tryz.func103,Tryz.ntmps103
   go_wp2_with (first | (go_at_call 93;refine PC.out.mono ?_;rintro e w' ⟨rfl,hg⟩))
   go_ret2
   exact ⟨_,rfl,sl_nil _ _ _,hg.out⟩
set_option maxRecDepth 100000 in
set_option maxHeartbeats 4000000 in
theorem hullc_new (l:List Pt) (v:Value) (w:World) (hs:Sl w v l) (h:l.length≤4000) (h0:l ≠ []) (hp:Plcs l):Calls Tryz.prog 103 #[v] w (HullNew l w):=by
 rcases hs with ⟨rfl,a,c,rfl⟩ | ⟨b,o,c,rfl,hr⟩
 ·exact absurd rfl h0
 ·have hn:¬ ((l.length:Int)=0):=fun e => h0 (List.length_eq_zero_iff.1 (by omega))
  have h1:¬ ((l.length:Int) > 4000):=by omega
  have PC:Hid (Calls Tryz.prog 93 #[.slice (some ⟨b,o,none⟩) l.length c] w fun e w' => e=.returned (.bool true)∧Hid (Grew w w')):=Lib.hid ((places_c l b o c w hr (by omega)).mono (by
   rintro e w' ⟨r,rfl,hr,g⟩
   rw [hr.2 hp]
   exact ⟨rfl,Lib.hid g⟩))
  have CC:Hid (∀ W,Grew w W→Calls Tryz.prog 140 #[.slice (some ⟨b,o,none⟩) l.length c] W fun e w' => ∃ sa n sc,e=.returned (.slice sa n sc)∧Hid (∃ q,IsHull l q∧q.length=n∧SlN w w' (.slice sa n sc) q∧Grew w w')):=Lib.hid (fun W g => (corners_c l b o c W (hr.grown g) hp (by omega) (by omega)).mono (by
   rintro e w' ⟨v,q,rfl,hq,ho,g'⟩
   obtain ⟨sa,sc,rfl⟩:=ho.sl.shape
   exact ⟨sa,_,sc,rfl,Lib.hid ⟨q,hq,rfl,⟨ho.less g.size⟩,g.trans g'⟩⟩))
  have hn2:((l.length:Int) == 0)=false:=beq_eq_false_iff_ne.2 hn
  obtain ⟨m,hm⟩:∃ m,l.length=m:=⟨_,rfl⟩
  rw [hm] at hn hn2 h1 PC CC ⊢
  clear h0 hr hp hm h
  go_enter Tryz.func103,Tryz.ntmps103
  go_wp2_with (first | (go_at_call 93;refine PC.out.mono ?_;rintro e w' ⟨rfl,hg⟩) | (go_at_call 140;refine (CC.out _ hg.out).mono ?_;rintro e w' ⟨sa,n,sc,rfl,hh⟩))
  all_goals go_ret2
  all_goals (obtain ⟨q,hq,rfl,hsl,g⟩:=hh.out)
  ·exact ⟨q,hq,Or.inr ⟨by omega,_,rfl,sl_nil _ _ _,g⟩⟩
  ·exact ⟨q,hq,Or.inl ⟨by omega,_,rfl,hsl,g⟩⟩
theorem hullc_ok (l:List Pt) (v:Value) (w:World) (hs:Sl w v l) (h:l.length≤4000) (h0:l ≠ []) (hp:Plcs l):Calls Tryz.prog 103 #[v] w (HullSays l w):=(hullc_new l v w hs h h0 hp).mono fun _ _ h => h.says
end Hl
end Go.Proofs.YtbpgfenippiepaaGreatDoor
namespace Go.Proofs.YtbpgfenippiepaaGreatDoor
open Go.RowKit Go.Shelf
namespace Hl
theorem novalid {p:List Pt} {v:Value} {w:World} (hs:Sl w v p) (hl:p.length≤9223372036854775807) (hv:¬ Vl p) (n:Nat) (W:World) (g:Grew w W):CallsIn Fence.wide n Tryz.prog 56 #[v] W fun e w' => e=.returned (.bool false)∧Grew W w' :=
 callsIn_wide.2 ((valid_c p v W (hs.grown g) hl).mono (by
  rintro e w' ⟨r,rfl,h,g⟩
  cases r
  ·exact ⟨rfl,g⟩
  ·exact absurd (h.1 rfl) hv))
theorem isvalid {p:List Pt} {v:Value} {w:World} (hs:Sl w v p) (hl:p.length≤9223372036854775807) (hv:Vl p) (n:Nat) (W:World) (g:Grew w W):CallsIn Fence.wide n Tryz.prog 56 #[v] W fun e w' => e=.returned (.bool true)∧Grew W w' :=
 callsIn_wide.2 ((valid_c p v W (hs.grown g) hl).mono (by
  rintro e w' ⟨r,rfl,h,g⟩
  rw [h.2 hv]
  exact ⟨rfl,g⟩))
set_option maxRecDepth 100000 in
set_option maxHeartbeats 4000000 in
theorem hasc_bad (p:List Pt) (x:Pt) (v:Value) (w:World) (hs:Sl w v p) (hl:p.length≤9223372036854775807) (hb:¬ (Vl p∧Plc x)):Calls Tryz.prog 87 #[v,.agg #[.int .i64 x.1,.int .i64 x.2]] w fun e w' => e=.returned (.tuple #[.bool false,.int .i64 1])∧Grew w w':=by
 obtain ⟨sa,sc,hsh⟩:=hs.shape
 have HS:=Lib.hid hs
 have HSH:=Lib.hid hsh
 have G0:Grew w (((w.alloc (.cells #[.int .i64 x.1,.int .i64 x.2] 24)).alloc (.cells #[.bool false] 4)).alloc (.cells #[.int .i64 0] 29)):=(((Grew.refl w).alloc _ _).alloc _ _).alloc _ _
 have XB:Blk (((w.alloc (.cells #[.int .i64 x.1,.int .i64 x.2] 24)).alloc (.cells #[.bool false] 4)).alloc (.cells #[.int .i64 0] 29)) w.heap.size #[.int .i64 x.1,.int .i64 x.2] 24:=((Blk.new w _ _).alloc _).alloc _
 have RB:Blk (((w.alloc (.cells #[.int .i64 x.1,.int .i64 x.2] 24)).alloc (.cells #[.bool false] 4)).alloc (.cells #[.int .i64 0] 29)) (w.heap.size+1) #[.bool false] 4:=by
  have h:=(Blk.new (w.alloc (.cells #[.int .i64 x.1,.int .i64 x.2] 24)) #[.bool false] 4).alloc (.cells #[.int .i64 0] 29)
  rwa [World.size_alloc] at h
 have RE:Blk (((w.alloc (.cells #[.int .i64 x.1,.int .i64 x.2] 24)).alloc (.cells #[.bool false] 4)).alloc (.cells #[.int .i64 0] 29)) (w.heap.size+1+1) #[.int .i64 0] 29:=by
  have h:=Blk.new ((w.alloc (.cells #[.int .i64 x.1,.int .i64 x.2] 24)).alloc (.cells #[.bool false] 4)) #[.int .i64 0] 29
  rwa [World.size_alloc,World.size_alloc] at h
 have XB:=Lib.hid XB
 have RB:=Lib.hid RB
 have RE:=Lib.hid RE
 have G0:=Lib.hid G0
 by_cases hv:Vl p
 ·have VC:=Lib.hid (isvalid hs hl hv)
  have PC:Hid (∀ n W,CallsIn Fence.wide n Tryz.prog 128 #[.agg #[.int .i64 x.1,.int .i64 x.2]] W fun e w' => e=.returned (.bool false)∧W.alloc (.cells #[.int .i64 x.1,.int .i64 x.2] 24)=w'):=Lib.hid (fun n W => callsIn_wide.2 (by
   have h:=place_c x W
   rwa [decide_eq_false (fun hx => hb ⟨hv,hx⟩)] at h))
  clear hs hb hv hsh
  refine (callsIn_wide (n:=5)).1 ?_
  refine callsIn_of_wp_marks Tryz.func87 rfl trivial ?_ rfl
  simp only [Tryz.ntmps87,List.size_toArray,List.length_cons,List.length_nil,Nat.reduceAdd,Nat.reduceSub,Array.replicate_succ,Array.replicate_zero,List.push_toArray,List.append_toArray,List.nil_append,List.cons_append]
  gi_wp2_with fail
  refine ⟨trivial,(VC.out _ _ G0.out).mono ?_⟩
  rintro e w1 ⟨rfl,g1⟩
  have GW:Grew w w1:=G0.out.trans g1
  have kB:=RB.out.grown g1
  have kE:=RE.out.grown g1
  obtain ⟨⟨x0,x1⟩,x2,x3⟩:=(XB.out.grown g1).two
  obtain ⟨r0,r1⟩:=kB.one
  obtain ⟨e0,e1⟩:=kE.one
  have lB:=kB.lt
  have lE:=kE.lt
  clear g1
  gi_wp2_with fail
  refine ⟨trivial,(PC.out _ _).mono ?_⟩
  rintro e w2 ⟨rfl,rfl⟩
  gi_wp2_with fail
  exact ⟨.tuple #[.bool false,.int .i64 1],by simp [results,Tryz.results87,go_sem, *],rfl,by exact gw⟩
 ·have VC:=Lib.hid (novalid hs hl hv)
  clear hs hb hv hsh
  refine (callsIn_wide (n:=5)).1 ?_
  refine callsIn_of_wp_marks Tryz.func87 rfl trivial ?_ rfl
  simp only [Tryz.ntmps87,List.size_toArray,List.length_cons,List.length_nil,Nat.reduceAdd,Nat.reduceSub,Array.replicate_succ,Array.replicate_zero,List.push_toArray,List.append_toArray,List.nil_append,List.cons_append]
  gi_wp2_with fail
  refine ⟨trivial,(VC.out _ _ G0.out).mono ?_⟩
  rintro e w1 ⟨rfl,g1⟩
  have GW:Grew w w1:=G0.out.trans g1
  have kB:=RB.out.grown g1
  have kE:=RE.out.grown g1
  obtain ⟨⟨x0,x1⟩,x2,x3⟩:=(XB.out.grown g1).two
  obtain ⟨r0,r1⟩:=kB.one
  obtain ⟨e0,e1⟩:=kE.one
  have lB:=kB.lt
  have lE:=kE.lt
  clear g1
  gi_wp2_with fail
  refine ⟨trivial,?_⟩
  gi_wp2_with fail
  exact ⟨.tuple #[.bool false,.int .i64 1],by simp [results,Tryz.results87,go_sem, *],rfl,by exact gw⟩
end Hl
end Go.Proofs.YtbpgfenippiepaaGreatDoor
namespace Go.Proofs.YtbpgfenippiepaaGreatDoor
open Go.RowKit Go.Shelf
namespace Hl
set_option maxRecDepth 100000 in
set_option maxHeartbeats 4000000 in
theorem boxc_bad (p:List Pt) (v:Value) (w:World) (hs:Sl w v p) (hl:p.length≤9223372036854775807) (hv:¬ Vl p):Calls Tryz.prog 88 #[v] w fun e w' => e=.returned (.tuple #[.agg #[.int .i64 ((0,0):Pt).1,.int .i64 ((0,0):Pt).2],.agg #[.int .i64 ((0,0):Pt).1,.int .i64 ((0,0):Pt).2],.int .i64 1])∧Grew w w':=by
 have VC:Hid (∀ W,Grew w W→Calls Tryz.prog 56 #[v] W fun e w' => e=.returned (.bool false)∧Grew W w'):=Lib.hid (fun W g => (callsIn_wide (n:=0)).1 (novalid hs hl hv 0 W g))
 have T1:=((Two.new w 0 0 24).grown ((Grew.refl _).alloc #[.int .i64 0,.int .i64 0] 24))
 have T2:=Two.new (w.alloc (.cells #[.int .i64 0,.int .i64 0] 24)) 0 0 24
 rw [World.size_alloc] at T2
 clear hs hv
 go_enter Tryz.func88,Tryz.ntmps88
 go_wp2_with fail
 refine (VC.out _ gw).mono ?_
 rintro e w1 ⟨rfl,g1⟩
 have G0:Grew w w1:=(((Grew.refl w).alloc _ _).alloc _ _).trans g1
 obtain ⟨⟨x0,x1,x2⟩,x3,x4⟩:=T1.grown g1
 obtain ⟨⟨y0,y1,y2⟩,y3,y4⟩:=T2.grown g1
 clear T1 T2 g1
 go_wp2_with fail
 refine bodyPost_ret (v:=.tuple #[.agg #[.int .i64 ((0,0):Pt).1,.int .i64 ((0,0):Pt).2],.agg #[.int .i64 ((0,0):Pt).1,.int .i64 ((0,0):Pt).2],.int .i64 1]) (by simp [results,Tryz.results88,go_sem, *]) rfl ⟨rfl,by exact gw⟩
set_option maxRecDepth 100000 in
set_option maxHeartbeats 4000000 in
theorem boxc_ok (p:List Pt) (v:Value) (w:World) (hs:Sl w v p) (hv:Vl p):Calls Tryz.prog 88 #[v] w (BoxSays p w):=by
 have h1:1≤p.length:=hv.1.1
 have h64:p.length≤64:=hv.1.2
 rcases hs with ⟨rfl,a,c,rfl⟩ | ⟨b,o,c,rfl,hr⟩
 ·exact absurd h1 (by simp)
 have VC:Hid (∀ W,Grew w W→Calls Tryz.prog 56 #[.slice (some ⟨b,o,none⟩) p.length c] W fun e w' => e=.returned (.bool true)∧Grew W w'):=Lib.hid (fun W g => (callsIn_wide (n:=0)).1 (isvalid (w:=w) (Or.inr ⟨b,o,c,rfl,hr⟩) (by omega) hv 0 W g))
 have BC:Hid (∀ W,Grew w W→Calls Tryz.prog 129 #[.slice (some ⟨b,o,none⟩) p.length c] W (Box2Says p W)):=Lib.hid (fun W g => box_c p b o c W (hr.grown g) hv.2.1 hv.1.1 (by omega))
 have T1:=((Two.new w 0 0 24).grown ((Grew.refl _).alloc #[.int .i64 0,.int .i64 0] 24))
 have T2:=Two.new (w.alloc (.cells #[.int .i64 0,.int .i64 0] 24)) 0 0 24
 rw [World.size_alloc] at T2
 clear hr hv
 go_enter Tryz.func88,Tryz.ntmps88
 go_wp2_with fail
 refine (VC.out _ gw).mono ?_
 rintro e w1 ⟨rfl,g1⟩
 have G0:Grew w w1:=(((Grew.refl w).alloc _ _).alloc _ _).trans g1
 have T1:=T1.grown g1
 have T2:=T2.grown g1
 clear VC g1
 go_wp2_with fail
 refine (BC.out _ G0).mono ?_
 rintro e w2 ⟨lo,hi,hb,rfl,g2⟩
 have G0:Grew w w2:=G0.trans g2
 obtain ⟨⟨x0,x1,x2⟩,x3,x4⟩:=T1.grown g2
 obtain ⟨⟨y0,y1,y2⟩,y3,y4⟩:=T2.grown g2
 have HB:=Lib.hid hb
 clear T1 T2 g2 BC hb
 have n1:¬ w.heap.size=w.heap.size+1:=by omega
 have n2:¬ w.heap.size+1=w.heap.size:=by omega
 go_wp2_with fail
 have GW:Grew w ((((w2.setCell ⟨w.heap.size,0,none⟩ (.int .i64 lo.1)).setCell ⟨w.heap.size,1,none⟩ (.int .i64 lo.2)).setCell ⟨w.heap.size+1,0,none⟩ (.int .i64 hi.1)).setCell ⟨w.heap.size+1,1,none⟩ (.int .i64 hi.2)):=by exact gw
 have FW:((((((w2.setCell ⟨w.heap.size,0,none⟩ (.int .i64 lo.1)).setCell ⟨w.heap.size,1,none⟩ (.int .i64 lo.2)).setCell ⟨w.heap.size+1,0,none⟩ (.int .i64 hi.1)).setCell ⟨w.heap.size+1,1,none⟩ (.int .i64 hi.2)).cell? ⟨w.heap.size,0,none⟩=some (.int .i64 lo.1)∧((((w2.setCell ⟨w.heap.size,0,none⟩ (.int .i64 lo.1)).setCell ⟨w.heap.size,1,none⟩ (.int .i64 lo.2)).setCell ⟨w.heap.size+1,0,none⟩ (.int .i64 hi.1)).setCell ⟨w.heap.size+1,1,none⟩ (.int .i64 hi.2)).frozen? ⟨w.heap.size,0,none⟩=false)∧(((((w2.setCell ⟨w.heap.size,0,none⟩ (.int .i64 lo.1)).setCell ⟨w.heap.size,1,none⟩ (.int .i64 lo.2)).setCell ⟨w.heap.size+1,0,none⟩ (.int .i64 hi.1)).setCell ⟨w.heap.size+1,1,none⟩ (.int .i64 hi.2)).cell? ⟨w.heap.size,1,none⟩=some (.int .i64 lo.2)∧((((w2.setCell ⟨w.heap.size,0,none⟩ (.int .i64 lo.1)).setCell ⟨w.heap.size,1,none⟩ (.int .i64 lo.2)).setCell ⟨w.heap.size+1,0,none⟩ (.int .i64 hi.1)).setCell ⟨w.heap.size+1,1,none⟩ (.int .i64 hi.2)).frozen? ⟨w.heap.size,1,none⟩=false))∧((((((w2.setCell ⟨w.heap.size,0,none⟩ (.int .i64 lo.1)).setCell ⟨w.heap.size,1,none⟩ (.int .i64 lo.2)).setCell ⟨w.heap.size+1,0,none⟩ (.int .i64 hi.1)).setCell ⟨w.heap.size+1,1,none⟩ (.int .i64 hi.2)).cell? ⟨w.heap.size+1,0,none⟩=some (.int .i64 hi.1)∧((((w2.setCell ⟨w.heap.size,0,none⟩ (.int .i64 lo.1)).setCell ⟨w.heap.size,1,none⟩ (.int .i64 lo.2)).setCell ⟨w.heap.size+1,0,none⟩ (.int .i64 hi.1)).setCell ⟨w.heap.size+1,1,none⟩ (.int .i64 hi.2)).frozen? ⟨w.heap.size+1,0,none⟩=false)∧(((((w2.setCell ⟨w.heap.size,0,none⟩ (.int .i64 lo.1)).setCell ⟨w.heap.size,1,none⟩ (.int .i64 lo.2)).setCell ⟨w.heap.size+1,0,none⟩ (.int .i64 hi.1)).setCell ⟨w.heap.size+1,1,none⟩ (.int .i64 hi.2)).cell? ⟨w.heap.size+1,1,none⟩=some (.int .i64 hi.2)∧((((w2.setCell ⟨w.heap.size,0,none⟩ (.int .i64 lo.1)).setCell ⟨w.heap.size,1,none⟩ (.int .i64 lo.2)).setCell ⟨w.heap.size+1,0,none⟩ (.int .i64 hi.1)).setCell ⟨w.heap.size+1,1,none⟩ (.int .i64 hi.2)).frozen? ⟨w.heap.size+1,1,none⟩=false)):=by simp [go_sem, *]
 generalize (((w2.setCell ⟨w.heap.size,0,none⟩ (.int .i64 lo.1)).setCell ⟨w.heap.size,1,none⟩ (.int .i64 lo.2)).setCell ⟨w.heap.size+1,0,none⟩ (.int .i64 hi.1)).setCell ⟨w.heap.size+1,1,none⟩ (.int .i64 hi.2)=W3 at GW FW ⊢
 clear x0 x1 x2 x3 x4 y0 y1 y2 y3 y4 G0
 obtain ⟨⟨⟨x0,f0⟩,x1,f1⟩,⟨y0,g0⟩,y1,g1⟩:=FW
 go_region_held3 (fun w' => ((w'.cell? ⟨w.heap.size,0,none⟩=some (.int .i64 lo.1)∧w'.frozen? ⟨w.heap.size,0,none⟩=false)∧(w'.cell? ⟨w.heap.size,1,none⟩=some (.int .i64 lo.2)∧w'.frozen? ⟨w.heap.size,1,none⟩=false))∧((w'.cell? ⟨w.heap.size+1,0,none⟩=some (.int .i64 hi.1)∧w'.frozen? ⟨w.heap.size+1,0,none⟩=false)∧(w'.cell? ⟨w.heap.size+1,1,none⟩=some (.int .i64 hi.2)∧w'.frozen? ⟨w.heap.size+1,1,none⟩=false))) (simp [go_sem, *]) (fail)
 all_goals go_wp2_with fail
 all_goals refine bodyPost_ret (v:=.tuple #[.agg #[.int .i64 lo.1,.int .i64 lo.2],.agg #[.int .i64 hi.1,.int .i64 hi.2],.int .i64 0]) (by simp [results,Tryz.results88,go_sem, *]) rfl ⟨lo,hi,HB.out,rfl,by exact gw⟩
end Hl
end Go.Proofs.YtbpgfenippiepaaGreatDoor
namespace Go.Proofs.YtbpgfenippiepaaGreatDoor
open Go.RowKit Go.Shelf
namespace Hl
theorem minc_bd {p:List Pt} {u v m:Int} (hp:Plcs p) (hu:u = -1∨u=0∨u=1) (hv:v = -1∨v=0∨v=1) (h:IsMin p u v m):-1000000≤m∧m≤1000000:=by
 obtain ⟨⟨x,hx,e⟩,_⟩:=h
 obtain ⟨i,hi,ei⟩:=mem_at hx
 have:=hp i hi
 rw [ei] at this
 obtain ⟨⟨_,_⟩,_,_⟩:=this
 rcases hu with rfl | rfl | rfl <;> rcases hv with rfl | rfl | rfl <;> omega
theorem octc_plcs {p:List Pt} {a b c d s t i j:Int} (hp:Plcs p) (h1:IsMin p 1 0 a) (h2:IsMin p (-1) 0 (-b)) (h3:IsMin p 0 1 c) (h4:IsMin p 0 (-1) (-d)) (h5:IsMin p 1 1 s) (h6:IsMin p (-1) (-1) (-t)) (h7:IsMin p 1 (-1) i) (h8:IsMin p (-1) 1 (-j)):Plcs (octL a b c d s t i j):=by
 obtain ⟨B,_⟩:=bd_of h1 h2 h3 h4 h5 h6 h7 h8
 refine plcs_of (fun x hx => ?_)
 have hk:=oct_keeps B x hx
 obtain ⟨y1,g1,e1⟩:=h1.1
 obtain ⟨y2,g2,e2⟩:=h2.1
 obtain ⟨y3,g3,e3⟩:=h3.1
 obtain ⟨y4,g4,e4⟩:=h4.1
 obtain ⟨n1,l1,r1⟩:=mem_at g1
 obtain ⟨n2,l2,r2⟩:=mem_at g2
 obtain ⟨n3,l3,r3⟩:=mem_at g3
 obtain ⟨n4,l4,r4⟩:=mem_at g4
 have p1:=hp n1 l1
 have p2:=hp n2 l2
 have p3:=hp n3 l3
 have p4:=hp n4 l4
 rw [r1] at p1
 rw [r2] at p2
 rw [r3] at p3
 rw [r4] at p4
 unfold Keeps at hk
 unfold Plc at p1 p2 p3 p4 ⊢
 omega
def octM (a b c d s t i j:Int):List Pt:=[(s - c,c),(j+c,c),(b,b - j),(b,t - b),(t - d,d),(i+d,d),(a,a - i),(a,s - a)]
theorem octM_mem (a b c d s t i j:Int) (x:Pt):x ∈ octM a b c d s t i j↔x ∈ octL a b c d s t i j:=by
 unfold octM octL
 rw [Int.add_comm j c,Int.add_comm i d]
 simp only [List.mem_cons,List.not_mem_nil,or_false]
 constructor
 ·rintro (h | h | h | h | h | h | h | h) <;> simp [h]
 ·rintro (h | h | h | h | h | h | h | h) <;> simp [h]
theorem hull_members {l l' q:List Pt} (h:IsHull l q) (e:∀ x,x ∈ l↔x ∈ l'):IsHull l' q:=⟨h.1,fun x hx => (e x).1 (h.2.1 x hx),fun x hx => h.2.2 x ((e x).2 hx)⟩
theorem hull_lenle {l q:List Pt} (h:IsHull l q):q.length≤l.length:=count_le (at' q) q.length l (fun _ _ hi hj hne => pg_distinct h.1 hi hj hne) (fun _ hi => h.2.1 _ (at_mem hi))
set_option maxRecDepth 100000 in
set_option maxHeartbeats 4000000 in
theorem eightc_bad (p:List Pt) (v:Value) (w:World) (hs:Sl w v p) (hl:p.length≤9223372036854775807) (hv:¬ Vl p):Calls Tryz.prog 98 #[v] w (Empty 1 w):=by
 have VC:Hid (∀ W,Grew w W→Calls Tryz.prog 56 #[v] W fun e w' => e=.returned (.bool false)∧Grew W w'):=Lib.hid (fun W g => (callsIn_wide (n:=0)).1 (novalid hs hl hv 0 W g))
 clear hs hv
 go_enter Tryz.func98,Tryz.ntmps98
 go_wp2_with fail
 refine (VC.out _ (Grew.refl _)).mono ?_
 rintro e w1 ⟨rfl,g1⟩
 go_wp2_with fail
 go_ret2
 exact ⟨_,rfl,sl_nil _ _ _,g1⟩
set_option maxRecDepth 100000 in
set_option maxHeartbeats 8000000 in
theorem eightc_new (p:List Pt) (v:Value) (w:World) (hs:Sl w v p) (hv:Vl p):Calls Tryz.prog 98 #[v] w (EightNew p w):=by
 have h1:1≤p.length:=hv.1.1
 have h64:p.length≤64:=hv.1.2
 rcases hs with ⟨rfl,a,c,rfl⟩ | ⟨bb,o,cc,rfl,hr⟩
 ·exact absurd h1 (by simp)
 have VC:Hid (∀ W,Grew w W→Calls Tryz.prog 56 #[.slice (some ⟨bb,o,none⟩) p.length cc] W fun e w' => e=.returned (.bool true)∧Grew W w'):=Lib.hid (fun W g => (callsIn_wide (n:=0)).1 (isvalid (w:=w) (Or.inr ⟨bb,o,cc,rfl,hr⟩) (by omega) hv 0 W g))
 have BC:Hid (∀ W,Grew w W→Calls Tryz.prog 129 #[.slice (some ⟨bb,o,none⟩) p.length cc] W (Box2Says p W)):=Lib.hid (fun W g => box_c p bb o cc W (hr.grown g) hv.2.1 hv.1.1 (by omega))
 have SC:Hid (∀ W,Grew w W→Calls Tryz.prog 134 #[.slice (some ⟨bb,o,none⟩) p.length cc,.func (.func 135) #[] #[]] W (SpanSays p (fun x => x.1+x.2) W)):=Lib.hid (fun W g => bounds_c _ _ (enters_of Tryz.func135 (by kernel_rfl) rfl) measS p bb o cc W (hr.grown g) hv.2.1 hv.1.1 (by omega))
 have DC:Hid (∀ W,Grew w W→Calls Tryz.prog 134 #[.slice (some ⟨bb,o,none⟩) p.length cc,.func (.func 136) #[] #[]] W (SpanSays p (fun x => x.1 - x.2) W)):=Lib.hid (fun W g => bounds_c _ _ (enters_of Tryz.func136 (by kernel_rfl) rfl) measD p bb o cc W (hr.grown g) hv.2.1 hv.1.1 (by omega))
 have PL:=Lib.hid hv.2.1
 clear hr hv
 go_enter Tryz.func98,Tryz.ntmps98
 go_wp2_with fail
 refine (VC.out _ (Grew.refl _)).mono ?_
 rintro e w1 ⟨rfl,G1⟩
 clear VC
 go_wp2_with fail
 refine (BC.out _ G1).mono ?_
 rintro e w2 ⟨⟨xa,xc⟩,⟨xb,xd⟩,⟨b1,b2,b3,b4⟩,rfl,g2⟩
 have G2:Grew w w2:=G1.trans g2
 have K1:=Two.new w2 xa xc 24
 have K2:=Two.new (w2.alloc (.cells #[.int .i64 xa,.int .i64 xc] 24)) xb xd 24
 have K1:=K1.grown ((Grew.refl _).alloc #[.int .i64 xb,.int .i64 xd] 24)
 rw [World.size_alloc] at K2
 have b1:=Lib.hid b1
 have b2:=Lib.hid b2
 have b3:=Lib.hid b3
 have b4:=Lib.hid b4
 clear g2 G1 BC
 go_wp2_with fail
 refine (SC.out _ gw).mono ?_
 rintro e w3 ⟨xs,xt,b5,b6,rfl,g3⟩
 have K1:=K1.grown g3
 have K2:=K2.grown g3
 have G3:Grew w w3:=((G2.alloc _ _).alloc _ _).trans g3
 have Z3:=g3.size
 simp only [World.size_alloc] at Z3
 have K3:=Two.new w3 xs xt 26
 have b5:=Lib.hid b5
 have b6:=Lib.hid b6
 clear SC g3
 go_wp2_with fail
 refine (DC.out _ gw).mono ?_
 rintro e w4 ⟨xi,xj,b7,b8,rfl,g4⟩
 have G4:Grew w w4:=(G3.alloc _ _).trans g4
 have Z4:=g4.size
 simp only [World.size_alloc] at Z4
 obtain ⟨⟨y0,y1,y2⟩,y3,y4⟩:=(K1.grown ((Grew.refl _).alloc #[.int .i64 xs,.int .i64 xt] 26)).grown g4
 obtain ⟨⟨z0,z1,z2⟩,z3,z4⟩:=(K2.grown ((Grew.refl _).alloc #[.int .i64 xs,.int .i64 xt] 26)).grown g4
 obtain ⟨⟨s0,s1,s2⟩,s3,s4⟩:=K3.grown g4
 have a1:IsMin p 1 0 xa:=b1.out
 have a2:IsMin p (-1) 0 (-xb):=b2.out
 have a3:IsMin p 0 1 xc:=b3.out
 have a4:IsMin p 0 (-1) (-xd):=b4.out
 have a5:IsMin p 1 1 xs:=min_is b5.out (fun x => by omega)
 have a6:IsMin p (-1) (-1) (-xt):=max_is b6.out (fun x => by omega)
 have a7:IsMin p 1 (-1) xi:=min_is b7 (fun x => by omega)
 have a8:IsMin p (-1) 1 (-xj):=max_is b8 (fun x => by omega)
 have q1:=minc_bd PL.out (by decide) (by decide) a1
 have q2:=minc_bd PL.out (by decide) (by decide) a2
 have q3:=minc_bd PL.out (by decide) (by decide) a3
 have q4:=minc_bd PL.out (by decide) (by decide) a4
 have q5:=minc_bd PL.out (by decide) (by decide) a5
 have q6:=minc_bd PL.out (by decide) (by decide) a6
 have q7:=minc_bd PL.out (by decide) (by decide) a7
 have q8:=minc_bd PL.out (by decide) (by decide) a8
 have W0:IntKind.i64.wrap (xs - xc)=xs - xc:=IntWalk.i64_in _ ⟨by omega,by omega⟩
 have W1:IntKind.i64.wrap (xj+xc)=xj+xc:=IntWalk.i64_in _ ⟨by omega,by omega⟩
 have W2:IntKind.i64.wrap (xb - xj)=xb - xj:=IntWalk.i64_in _ ⟨by omega,by omega⟩
 have W3:IntKind.i64.wrap (xt - xb)=xt - xb:=IntWalk.i64_in _ ⟨by omega,by omega⟩
 have W4:IntKind.i64.wrap (xt - xd)=xt - xd:=IntWalk.i64_in _ ⟨by omega,by omega⟩
 have W5:IntKind.i64.wrap (xi+xd)=xi+xd:=IntWalk.i64_in _ ⟨by omega,by omega⟩
 have W6:IntKind.i64.wrap (xa - xi)=xa - xi:=IntWalk.i64_in _ ⟨by omega,by omega⟩
 have W7:IntKind.i64.wrap (xs - xa)=xs - xa:=IntWalk.i64_in _ ⟨by omega,by omega⟩
 have HC:Hid (∀ W x c',Row W x 0 (octM xa xb xc xd xs xt xi xj)→Grew w W→Calls Tryz.prog 103 #[.slice (some ⟨x,0,none⟩) 8 c'] W fun e w' => ∃ v,e=.returned (.tuple #[v,.int .i64 0])∧Hid (EightNew p w e w')):=Lib.hid (fun W x c' hr g => (hullc_new (octM xa xb xc xd xs xt xi xj) (.slice (some ⟨x,0,none⟩) 8 c') W (Or.inr ⟨x,0,c',rfl,hr⟩) (by simp [octM]) (by simp [octM]) (fun i hi => mem_plc (octc_plcs PL.out a1 a2 a3 a4 a5 a6 a7 a8) ((octM_mem _ _ _ _ _ _ _ _ _).1 (at_mem hi)))).mono (by
  rintro e w' ⟨q,hq,h⟩
  have hlen:=hull_lenle hq
  have ho:IsOct p q:=⟨xa,xb,xc,xd,xs,xt,xi,xj,a1,a2,a3,a4,a5,a6,a7,a8,hull_members hq (octM_mem _ _ _ _ _ _ _ _)⟩
  rcases h with ⟨_,v,rfl,hsl,g'⟩ | ⟨h64,_⟩
  ·exact ⟨v,rfl,Lib.hid ⟨q,v,ho,rfl,hsl.later g,g.trans g'⟩⟩
  ·have:(octM xa xb xc xd xs xt xi xj).length=8:=rfl
   omega))
 clear a1 a2 a3 a4 a5 a6 a7 a8 q1 q2 q3 q4 q5 q6 q7 q8 b1 b2 b3 b4 b5 b6 b7 b8 g4 K1 K2 K3 G2 G3 DC PL
 have y5:w2.heap.size < w4.heap.size+1:=by omega
 have z5:w2.heap.size+1 < w4.heap.size+1:=by omega
 have s5:w3.heap.size < w4.heap.size+1:=by omega
 go_wp2_with fail
 have RW:Row ((w4.alloc (.cells #[.int .i64 xi,.int .i64 xj] 26)).alloc (.cells (cellsOf (octM xa xb xc xd xs xt xi xj)).toArray 24)) (w4.heap.size+1) 0 (octM xa xb xc xd xs xt xi xj):=by
  have h:=row_new (octM xa xb xc xd xs xt xi xj) _ rfl (w4.alloc (.cells #[.int .i64 xi,.int .i64 xj] 26)) 24
  rwa [World.size_alloc] at h
 refine (HC.out _ _ _ RW ((G4.alloc _ _).alloc _ _)).mono ?_
 rintro e w5 ⟨v,rfl,hfin⟩
 go_wp2_with fail
 go_ret2
 exact hfin.out
end Hl
end Go.Proofs.YtbpgfenippiepaaGreatDoor
namespace Go.Proofs.YtbpgfenippiepaaGreatDoor
open Go.RowKit Go.Shelf
namespace Hl
theorem eightc_ok (p:List Pt) (v:Value) (w:World) (hs:Sl w v p) (hv:Vl p):Calls Tryz.prog 98 #[v] w (EightSays p w):=(eightc_new p v w hs hv).mono fun _ _ h => h.says
theorem landed:Code where
 valid:=valid_c
 has_ok p x v w hs hv hx:=by
  rcases hs with ⟨rfl,a,c,rfl⟩ | ⟨b,o,c,rfl,hr⟩
  ·exact absurd hv.1.1 (by simp)
  ·exact has_c p x b o c w hr hv hx
 has_bad:=hasc_bad
 hull_big:=hullc_big
 hull_bad:=hullc_bad
 hull_ok:=hullc_ok
 box_ok:=boxc_ok
 box_bad:=boxc_bad
 eight_ok:=eightc_ok
 eight_bad:=eightc_bad
theorem landedN:CodeN:={ landed with hull_new:=hullc_new,eight_new:=eightc_new }
end Hl
end Go.Proofs.YtbpgfenippiepaaGreatDoor
