/-
  Answers about regions are single.
  What the laws of stage 7 call.
  Valid of the reference of layer 7.
  Few of the reference of layer 7; usable.
  Small functions of the statements about layer 10: at, single, usable.
  The reference functions polygon, Cut, both, Met, Meet, Apart, Lies, Within of layer 4.
  The reference functions both, Met, Meet, Apart, Lies, Within, least of layer 4.
  The reference of layer 7: covered.
-/
import Derived.Test.YtbpgfenippiepaaGreatDoorMRegCon
import Derived.Test.YtbpgfenippiepaaGreatDoorMCutRa
import Derived.Test.YtbpgfenippiepaaGreatDoorMHullCm
import Derived.Test.YtbpgfenippiepaaGreatDoorMRngPlainB
import Derived.Test.YtbpgfenippiepaaGreatDoorMRegH
import Derived.Test.YtbpgfenippiepaaGreatDoorMRayRefC
import Derived.Test.YtbpgfenippiepaaGreatDoorMCutRd
import Derived.Test.YtbpgfenippiepaaGreatDoorMCutCi
import Derived.Deep.QuietTactic
import Derived.BigQuiet
namespace Go.Proofs.YtbpgfenippiepaaGreatDoor
open Go.RowKit Go.Shelf Hl
namespace Rg
theorem HasP.one {L:Rgn} {x:Pt} {r r':Bool} {k k':Int} (h:HasP L x r k) (h':HasP L x r' k'):r=r'∧k=k':=by
 rcases h with ⟨a,rfl,rfl⟩ | ⟨a,b,rfl⟩ <;> rcases h' with ⟨a',rfl,rfl⟩ | ⟨a',b',rfl⟩
 ·exact ⟨rfl,rfl⟩
 ·exact absurd a' a
 ·exact absurd a a'
 ·exact ⟨Bool.eq_iff_iff.2 (b.trans b'.symm),rfl⟩
theorem WitP.one {L:Rgn} {p:List Pt} {r r':Bool} {k k':Int} (h:WitP L p r k) (h':WitP L p r' k'):r=r'∧k=k':=by
 rcases h with ⟨a,rfl,rfl⟩ | ⟨a,b,rfl⟩ <;> rcases h' with ⟨a',rfl,rfl⟩ | ⟨a',b',rfl⟩
 ·exact ⟨rfl,rfl⟩
 ·exact absurd a' a
 ·exact absurd a a'
 ·exact ⟨Bool.eq_iff_iff.2 (b.trans b'.symm),rfl⟩
theorem box_eq {p:List Pt} {lo hi lo' hi':Pt} (h:IsBox p lo hi) (h':IsBox p lo' hi'):lo=lo'∧hi=hi':=by
 have a:=h.1.one h'.1
 have b:=h.2.1.one h'.2.1
 have c:=h.2.2.1.one h'.2.2.1
 have d:=h.2.2.2.one h'.2.2.2
 exact ⟨Prod.ext a c,Prod.ext (by omega) (by omega)⟩
theorem BoxP.one {L:Rgn} {lo hi lo' hi':Pt} {r r':Bool} {k k':Int} (h:BoxP L lo hi r k) (h':BoxP L lo' hi' r' k'):(lo=lo'∧hi=hi')∧r=r'∧k=k':=by
 rcases h with ⟨a,rfl,rfl,rfl,rfl⟩ | ⟨a,b,rfl,rfl,rfl,rfl⟩ | ⟨a,b,c,rfl,rfl⟩ <;> rcases h' with ⟨a',rfl,rfl,rfl,rfl⟩ | ⟨a',b',rfl,rfl,rfl,rfl⟩ | ⟨a',b',c',rfl,rfl⟩
 ·exact ⟨⟨rfl,rfl⟩,rfl,rfl⟩
 ·exact absurd a' a
 ·exact absurd a' a
 ·exact absurd a a'
 ·exact ⟨⟨rfl,rfl⟩,rfl,rfl⟩
 ·exact absurd b b'
 ·exact absurd a a'
 ·exact absurd b' b
 ·exact ⟨box_eq c c',rfl,rfl⟩
end Rg
end Go.Proofs.YtbpgfenippiepaaGreatDoor
namespace Go.Proofs.YtbpgfenippiepaaGreatDoor
open Go.RowKit Go.Shelf Hl
namespace Rg
open Ct (Hf WF ov)
theorem blk_three {W:World} {B:Nat} {x y z:Value} {t:TypeId} (h:Blk W B #[x,y,z] t):W.cell? ⟨B,0,none⟩=some x∧W.cell? ⟨B,1,none⟩=some y∧W.cell? ⟨B,2,none⟩=some z:=by simp [World.cell?,show W.heap[B]? = _ from h]
theorem place_t (x:Pt) (w:World):Calls Tryz.prog 19 #[.agg #[.int .i64 x.1,.int .i64 x.2]] w (Tells (Plc x) w) :=
 (place_x x w).mono fun _ _ h => ⟨_,h.1,decide_eq_true_iff,h.2⟩
theorem rl_nat {w:World} {v:Value} {L:Rgn} (h:Rl w v L):∃ a n c,v=.slice a n c∧n=L.length:=by
 obtain ⟨a,c,e⟩:=h.shape
 exact ⟨a,_,c,e,rfl⟩
end Rg
end Go.Proofs.YtbpgfenippiepaaGreatDoor
namespace Go.Proofs.YtbpgfenippiepaaGreatDoor
open Go.RowKit Go.Shelf Hl
namespace Rg
set_option maxRecDepth 100000 in
set_option maxHeartbeats 4000000 in
theorem polygons_r (L:Rgn) (v:Value) (w:World) (hs:Rl w v L):Calls Tryz.prog 76 #[v] w (Tells (AllV L) w):=by
 have hB:=hs.2
 have LL:=Lib.hid hB.1
 obtain ⟨a,c,U,rfl,hU,hSl,hRr⟩:=rl_fun hs
 have SC:Hid (∀ i W,i < L.length→Grew w W→Calls Tryz.prog 70 #[U i] W (Tells (Vl (nth L i)) W)):=Lib.hid (fun i W hi g => rvalid_any (nth L i) (U i) W ((hSl i hi).grown g) (hB.2 _ (nth_mem hi)))
 have RR:Hid (∀ i W,i < L.length→Grew w W→∃ b o,a=some ⟨b,o,none⟩∧b < W.heap.size∧W.cell? ⟨b,o+i,none⟩=some (U i)):=Lib.hid (fun i W hi g => by
  obtain ⟨b,o,e,hb,z⟩:=hRr i hi
  exact ⟨b,o,e,Nat.lt_of_lt_of_le hb.1 g.size,(Grew.cell g hb.1).trans z⟩)
 have NN:Hid ((∀ i,i < L.length→Vl (nth L i))→AllV L):=Lib.hid (fun h p hp => by
  obtain ⟨i,hi,rfl⟩:=mem_nth hp
  exact h i hi)
 have NY:Hid (∀ i,i < L.length→¬ Vl (nth L i)→¬ AllV L):=Lib.hid (fun i hi h k => h (k _ (nth_mem hi)))
 clear hs hU hSl hRr hB
 go_enter Tryz.func76,Tryz.ntmps76
 go_wp2_with fail
 go_loopw [3,4] (fun i _ wr => ∃ k:Nat,k≤L.length∧i=.int .i64 k∧Grew w wr∧Hid (∀ j,j < k→Vl (nth L j))) (fun i _ _ => L.length - (intOf i).toNat)
 case atStart => exact ⟨0,Nat.zero_le _,rfl,Grew.refl _,Lib.hid (fun j hj => by omega)⟩
 case round =>
  obtain ⟨k,hk,rfl,G,D⟩:=hrel
  have hz:=LL.out
  by_cases hlt:k < L.length
  ·obtain ⟨b,o,rfl,hb,z0⟩:=RR.out k _ hlt G
   have i0:(0:Int)≤(k:Int):=by omega
   have i1:(k:Int) < (L.length:Int):=by omega
   have CC:=Lib.hid (SC.out k _ hlt G)
   go_wp2_with fail
   refine CC.out.mono ?_
   rintro e w1 ⟨r,rfl,hr,g1⟩
   have G1:Grew w w1:=Grew.trans G g1
   cases r
   ·have F:=Lib.hid (NY.out k hlt (fun e => by
     have:=hr.2 e
     cases this))
    clear hr g1
    go_wp2_with fail
    go_ret
    exact Tells.no F.out rfl G1
   ·have F:=Lib.hid (hr.1 rfl)
    clear hr g1
    go_wp2_with fail
    go_roundw
    case rel => exact ⟨k+1,by omega,by go_num,G1,Lib.hid (fun j hj => by
     by_cases e:j=k
     ·rw [e];exact F.out
     ·exact D.out j (by omega))⟩
    case measure => simp [intOf];omega
  ·obtain rfl:k=L.length:=by omega
   have F:=Lib.hid (NN.out D.out)
   go_wp2_with fail
   go_ret
   exact Tells.yes F.out rfl G
theorem rref_valid (L:Rgn) (v:Value) (w:World) (hs:Rl w v L):Calls Tryz.prog 39 #[v] w (Tells (VlR L) w):=by
 have PC:=Lib.hid (polygons_r L v w hs)
 obtain ⟨a,c,rfl⟩:=hs.shape
 clear hs
 by_cases h:L.length≤32
 ·have hz:(L.length:Int)≤32:=by omega
  have HL:=Lib.hid h
  go_enter Tryz.func39,Tryz.ntmps39
  go_wp2_with fail
  refine PC.out.mono ?_
  rintro e w1 ⟨r,rfl,hr,g1⟩
  have F:Hid (r=true↔VlR L):=Lib.hid ⟨fun e => ⟨HL.out,hr.1 e⟩,fun k => hr.2 k.2⟩
  clear hr
  go_wp2_with fail
  go_ret
  exact ⟨r,rfl,F.out,g1⟩
 ·have hz:¬ (L.length:Int)≤32:=by omega
  have F:Hid (¬ VlR L):=Lib.hid (fun k => h k.1)
  go_enter Tryz.func39,Tryz.ntmps39
  go_wp2_with fail
  go_ret
  exact Tells.no F.out rfl (Grew.refl _)
end Rg
end Go.Proofs.YtbpgfenippiepaaGreatDoor
namespace Go.Proofs.YtbpgfenippiepaaGreatDoor
open Go.RowKit Go.Shelf Hl
namespace Rg
def FewSays (L:Rgn) (w:World) (e:Ending) (w':World):Prop:=∃ r,e=.returned (.bool r)∧(r=true→L.length≤40)∧Grew w w'
set_option maxRecDepth 100000 in
set_option maxHeartbeats 4000000 in
theorem few_r (L:Rgn) (v:Value) (w:World) (hs:Rl w v L):Calls Tryz.prog 10 #[v] w (FewSays L w):=by
 have LL:=Lib.hid hs.2.1
 obtain ⟨a,c,U,rfl,hU,hSl,hRr⟩:=rl_fun hs
 have RR:Hid (∀ i W,i < L.length→Grew w W→∃ b o n a' c',a=some ⟨b,o,none⟩∧b < W.heap.size∧W.cell? ⟨b,o+i,none⟩=some (.slice a' n c')):=Lib.hid (fun i W hi g => by
  obtain ⟨b,o,e,hb,z⟩:=hRr i hi
  obtain ⟨a',n,c',e'⟩:=hU i
  exact ⟨b,o,n,a',c',e,Nat.lt_of_lt_of_le hb.1 g.size,(Grew.cell g hb.1).trans (by rw [z,e'])⟩)
 clear hs hU hSl hRr
 go_enter Tryz.func10,Tryz.ntmps10
 go_wp2_with fail
 go_loopw [3,4] (fun s i wr => ∃ (k:Nat) (z:Int),k≤L.length∧k≤41∧i=.int .i64 k∧s=.int .i64 z∧Grew w wr) (fun _ i _ => L.length - (intOf i).toNat)
 case atStart => exact ⟨0,0,Nat.zero_le _,by omega,rfl,rfl,Grew.refl _⟩
 case round =>
  obtain ⟨k,z,hk,hk2,rfl,rfl,G⟩:=hrel
  have hz:=LL.out
  by_cases hlt:k < L.length
  ·have i1:(k:Int) < (L.length:Int):=by omega
   by_cases h41:k < 41
   ·obtain ⟨b,o,n,a',c',rfl,hb,z0⟩:=RR.out k _ hlt G
    have i0:(0:Int)≤(k:Int):=by omega
    have i2:(k:Int) < 41:=by omega
    go_wp2_with fail
    go_roundw
    case rel => exact ⟨k+1,_,by omega,by omega,by go_num,rfl,G⟩
    case measure => simp [intOf];omega
   ·have i2:¬ (k:Int) < 41:=by omega
    have j1:¬ (L.length:Int)≤40:=by omega
    go_wp2_with fail
    go_ret
    exact ⟨_,rfl,fun h => by (first | cases h | omega),G⟩
  ·obtain rfl:k=L.length:=by omega
   by_cases h40:L.length≤40
   ·have j1:(L.length:Int)≤40:=by omega
    by_cases h300:z≤300
    ·go_wp2_with fail
     go_ret
     exact ⟨_,rfl,fun _ => h40,G⟩
    ·go_wp2_with fail
     go_ret
     exact ⟨_,rfl,fun _ => h40,G⟩
   ·have j1:¬ (L.length:Int)≤40:=by omega
    go_wp2_with fail
    go_ret
    exact ⟨_,rfl,fun h => by (first | cases h | omega),G⟩
end Rg
end Go.Proofs.YtbpgfenippiepaaGreatDoor
namespace Go.Proofs.YtbpgfenippiepaaGreatDoor
open Go.RowKit Go.Shelf Hl
namespace Rn
open Rg (Rgn VlR AllV Rl nth)
theorem at_c (x y:Int) (w:World):Calls Tryz.prog 18 #[.int .i64 x,.int .i64 y] w fun e w' => e=.returned (.agg #[.int .i64 x,.int .i64 y])∧Grew w w':=by
 go_enter Tryz.func18,Tryz.ntmps18
 go_wp2_with fail
 refine bodyPost_ret (v:=.agg #[.int .i64 x,.int .i64 y]) (by simp [results,Tryz.results18,go_sem]) rfl ⟨rfl,gw⟩
theorem sing_take {l:List Pt} {k:Nat} (h:k < l.length):sing (l.take (k+1))=sing (l.take k) ++ [[at' l k]]:=by
 have e:at' l k=l[k]:=by unfold at';simp [List.getD,h]
 unfold sing
 rw [List.take_succ_eq_append_getElem h,List.map_append,e]
 rfl
def SingSays (l:List Pt) (w:World) (e:Ending) (w':World):Prop:=∃ u,e=.returned u∧Rl w' u (sing l)∧Grew w w'
set_option maxRecDepth 100000 in
set_option maxHeartbeats 4000000 in
theorem single_c (l:List Pt) (v:Value) (w:World) (hs:Sl w v l) (hl:l.length≤20):Calls Tryz.prog 27 #[v] w (SingSays l w):=by
 have HS:=Lib.hid hs
 obtain ⟨a,c,rfl⟩:=hs.shape
 obtain ⟨n,hn⟩:∃ n,l.length=n:=⟨_,rfl⟩
 have HN:Hid (l.length=n∧n≤20):=Lib.hid ⟨hn,by omega⟩
 rw [hn] at HS ⊢
 clear hs hn hl
 go_enter Tryz.func27,Tryz.ntmps27
 go_wp2_with fail
 go_loopw [3,4] (fun u i wr => ∃ k:Nat,k≤n∧i=.int .i64 k∧Hid (Grew w wr)∧Hid (Rg.Own w.heap.size wr u (sing (l.take k)))) (fun _ i _ => n - (intOf i).toNat)
 case atStart => exact ⟨0,Nat.zero_le _,rfl,Lib.hid (Grew.refl _),Lib.hid (Rg.Own.nil _ _)⟩
 case round =>
  obtain ⟨k,hk,rfl,G,OW⟩:=hrel
  have n20:=HN.out.2
  by_cases hlt:k < n
  ·have i0:(0:Int)≤(k:Int):=by omega
   have i1:(k:Int) < (n:Int):=by omega
   have kl:k < l.length:=by rw [HN.out.1];exact hlt
   have ST:=Lib.hid (sing_take kl)
   have hs:=HS.out
   obtain ⟨b,o,c',e,hr⟩:=hs.row (fun e => by rw [e] at kl;cases kl)
   injection e with e1 e2 e3
   subst e1
   have hr:=hr.grown G.out
   obtain ⟨q0,q1⟩:=hr.2 k kl
   have hb:=hr.1
   have LN:Hid ((sing (l.take k)).length+1≤4000000):=Lib.hid (by rw [sing_len,List.length_take];omega)
   generalize at' l k=z at q0 q1 ST
   have S1:Hid (Sl (wr.alloc (.cells #[.int .i64 z.1,.int .i64 z.2] 24)) (.slice (some ⟨wr.heap.size,0,none⟩) 1 1) [z]):=Lib.hid (Sl.of (c:=1) (row_new [z] #[.int .i64 z.1,.int .i64 z.2] rfl wr 24))
   have R1:Hid (Rl ((wr.alloc (.cells #[.int .i64 z.1,.int .i64 z.2] 24)).alloc (.cells #[.slice (some ⟨wr.heap.size,0,none⟩) 1 1] 48)) (.slice (some ⟨wr.heap.size+1,0,none⟩) 1 1) [[z]]):=Lib.hid (by
    have h:=Rg.one_rl (p:=[z]) S1.out (by simp) 1
    rw [World.size_alloc] at h
    exact h)
   clear hs hr e2 e3 kl
   go_wp2_with (at_builtin;go_must (refine Rg.wpl_app _ rfl _ _ rfl w.heap.size _ _ (sing (l.take k)) [[z]] rfl (OW.out.grew (((Grew.refl _).alloc _ _).alloc _ _)) rfl R1.out (fun p hp => by rw [List.mem_singleton.1 hp];simp) (by simpa using LN.out) (by have:=G.out.size;simp;omega) ?_;intro v' w' af;have GG':=Lib.hid (af.grew w (Nat.le_refl _) ((G.out.alloc _ _).alloc _ _));have OWN':=Lib.hid af.own;clear af))
   exact ⟨⟨k+1,by omega,by go_num,GG',Lib.hid (by rw [ST.out];exact OWN'.out)⟩,by simp [intOf];omega⟩
  ·obtain rfl:k=n:=by omega
   have TK:l.take k=l:=by rw [← HN.out.1,List.take_length]
   rw [TK] at OW
   have BD:Hid (Rg.Bd (sing l)):=Lib.hid ⟨by rw [sing_len,HN.out.1];omega,fun p hp => by
    obtain ⟨z,_,rfl⟩:=List.mem_map.1 hp
    simp⟩
   obtain ⟨ua,un,uc,rfl⟩:=Rg.rown_shape OW.out
   clear TK
   go_wp2_with fail
   go_ret
   exact ⟨_,rfl,OW.out.rl BD.out,G.out⟩
end Rn
end Go.Proofs.YtbpgfenippiepaaGreatDoor
namespace Go.Proofs.YtbpgfenippiepaaGreatDoor
open Go.RowKit Hl Ex
namespace Ct
set_option maxRecDepth 100000
def PolS (S:Pt→Prop) (w:World) (e:Ending) (w':World):Prop:=∃ v sm q,e=.returned (.tuple #[v,.bool sm])∧((sm=true∧Poly S q)∨(sm=false∧(¬ ∃ y,S y)∧q=[]))∧Sl w' v q∧Grew w w'
theorem hull_short {l q:List Pt} (h:IsHull l q):q.length≤l.length:=count_le (at' q) q.length l (fun _ _ hi hj hne => pg_distinct h.1 hi hj hne) (fun _ hi => h.2.1 _ (at_mem hi))
theorem polygon_r (S:Pt→Prop) (l:List Pt) (v:Value) (w:World) (hs:Sl w v l) (hm:∀ y,y ∈ l↔S y) (hS:∀ y,S y→Plc y) (hl:l.length≤4000000):Calls Tryz.prog 122 #[v] w (PolS S w):=by
 by_cases h0:l.length=0
 ·obtain ⟨a,c,rfl⟩:=hs.shape
  have nob:Hid (¬ ∃ y,S y):=Lib.hid (fun ⟨y,hy⟩ => by
   have g:=(hm y).2 hy
   rw [List.length_eq_zero_iff.1 h0] at g
   cases g)
  rw [h0]
  clear hs hm hS hl h0
  go_enter Tryz.func122,Tryz.ntmps122
  go_wp2_with fail
  refine bodyPost_ret (v:=.tuple #[.slice none 0 0,.bool false]) (by simp [results,Tryz.results122,go_sem, *]) rfl ⟨_,false,[],rfl,Or.inr ⟨rfl,nob.out,rfl⟩,sl_none _ _ _,gw⟩
 ·obtain ⟨b,o,c,rfl,hr⟩:=hs.row (fun e => h0 (by rw [e];rfl))
  have z:((l.length:Int) == 0)=false:=by rw [beq_eq_false_iff_ne];omega
  have hp:Plcs l:=fun i hi => hS _ ((hm _).1 (at_mem hi))
  have AR:=Lib.hid (around_any l b o c w hr (by omega) hl hp)
  have HM:=Lib.hid hm
  have HS:=Lib.hid hS
  have HL:=Lib.hid hl
  clear hs hr hm hS hl hp
  go_enter Tryz.func122,Tryz.ntmps122
  go_wp2_with fail
  refine AR.out.mono ?_
  rintro e v1 ⟨u,q,hq,rfl,hu,g1⟩
  have HQ:=Lib.hid hq
  have HU:=Lib.hid hu
  have FE:=Lib.hid (fewer_r q u v1 hu (hull_plc HM.out hq HS.out) hq.1.1 (by have:=hull_short hq;have:=HL.out;omega))
  clear hq hu AR
  go_wp2_with fail
  refine FE.out.mono ?_
  rintro e v2 ⟨u2,r,hk,rfl,hu2,g2⟩
  have HK:=Lib.hid hk
  have HU2:=Lib.hid hu2
  have G2:Grew w v2:=Grew.trans g1 g2
  clear hk hu2 g1 g2 FE HU
  go_wp2_with fail
  refine bodyPost_ret (v:=.tuple #[u2,.bool true]) (by simp [results,Tryz.results122,go_sem, *]) rfl ⟨_,true,r,rfl,Or.inl ⟨rfl,⟨l,q,HM.out,HQ.out,HK.out⟩⟩,HU2.out,G2⟩
theorem PolS.says {S:Pt→Prop} {w w2:World} {v:Value} {sm:Bool} {q:List Pt} (h:(sm=true∧Poly S q)∨(sm=false∧(¬ ∃ y,S y)∧q=[])) (hs:Sl w2 v q) (g:Grew w w2):PolySays S w (.returned (.tuple #[v,.bool sm,.int .i64 0])) w2:=by
 rcases h with ⟨rfl,hp⟩ | ⟨rfl,hn,rfl⟩
 ·exact Or.inl ⟨q,v,hp,rfl,hs,g⟩
 ·exact Or.inr ⟨hn,v,rfl,hs,g⟩
set_option maxHeartbeats 4000000 in
theorem cut_ok_r (p:List Pt) (h:Hf) (v:Value) (w:World) (hs:Sl w v p) (hp:Vl p) (hh:WF h):Calls Tryz.prog 127 #[v,.agg #[.int .i64 h.1,.int .i64 h.2.1,.int .i64 h.2.2]] w (PolySays (LeftS p h) w):=by
 obtain ⟨b,o,c,rfl,hr⟩:=hs.row (fun e => by have:=hp.1.1;rw [e] at this;cases this)
 have A:Hid (∀ W,Grew w W→Calls Tryz.prog 70 #[.slice (some ⟨b,o,none⟩) p.length c] W fun e w' => e=.returned (.bool true)∧Grew W w'):=Lib.hid (fun W g => rvalid_yes p _ W (hs.grown g) (by have:=hp.1.2;omega) hp)
 have B:Hid (∀ W,Calls Tryz.prog 165 #[.agg #[.int .i64 h.1,.int .i64 h.2.1,.int .i64 h.2.2]] W fun e w' => e=.returned (.bool true)∧Grew W w'):=Lib.hid (fun W => by have g:=half_c h W;rwa [decide_eq_true hh] at g)
 have C:Hid (∀ W,Grew w W→Calls Tryz.prog 166 #[.slice (some ⟨b,o,none⟩) p.length c,.agg #[.int .i64 h.1,.int .i64 h.2.1,.int .i64 h.2.2]] W (LefSays p h W)):=Lib.hid (fun W g => left_r p h b o c W (hr.grown g) hp hh)
 have D:Hid (∀ v W,Sl W v (leftL p h)→Calls Tryz.prog 122 #[v] W (PolS (LeftS p h) W)):=Lib.hid (fun v W s => polygon_r (LeftS p h) (leftL p h) v W s (mem_leftL p h) (fun y hy => by
  rcases hy with ⟨i,hi,rfl,_⟩ | ⟨i,hi,m,n,hw,h1,h2⟩
  ·exact hp.2.1 i hi
  ·have ha:=hp.2.1 i hi
   have hb:=hp.2.1 _ (Nat.mod_lt (i+1) (show 0 < p.length by omega))
   exact ⟨wr_bounds hw.1 hw.2.1 ha.1 hb.1 h1,wr_bounds hw.1 hw.2.1 ha.2 hb.2 h2⟩) (by have:=leftL_len hp.pg h;have:=hp.1.2;omega))
 have HH:=Lib.hid (Blk.new w #[.int .i64 h.1,.int .i64 h.2.1,.int .i64 h.2.2] 78)
 clear hs hr hp hh
 generalize p.length=n at *
 go_enter Tryz.func127,Tryz.ntmps127
 go_wp2_with fail
 refine (A.out _ gw).mono ?_
 rintro e v1 ⟨rfl,g1⟩
 have G1:Grew w v1:=Grew.trans ((Grew.refl _).alloc _ _) g1
 have HH:=Lib.hid (HH.out.grown g1)
 obtain ⟨h0,h1,h2⟩:=rblk3 HH.out
 have lh:=HH.out.lt
 clear g1
 go_wp2_with fail
 refine (B.out _).mono ?_
 rintro e v2 ⟨rfl,g2⟩
 have G2:Grew w v2:=Grew.trans G1 g2
 have HH:=Lib.hid (HH.out.grown g2)
 clear g2 G1 h0 h1 h2 lh
 obtain ⟨h0,h1,h2⟩:=rblk3 HH.out
 have lh:=HH.out.lt
 go_wp2_with fail
 refine (C.out _ G2).mono ?_
 rintro e v3 ⟨u,rfl,ho,g3⟩
 have G3:Grew w v3:=Grew.trans G2 g3
 have DU:=Lib.hid (D.out u v3 ho.sl)
 clear g3 G2 ho h0 h1 h2 lh
 go_wp2_with fail
 refine DU.out.mono ?_
 rintro e v4 ⟨u4,sm,q,rfl,hk,hs4,g4⟩
 have HK:=Lib.hid hk
 have HS:=Lib.hid hs4
 have G4:Grew w v4:=Grew.trans G3 g4
 clear hk hs4 g4 G3 DU
 go_wp2_with fail
 refine bodyPost_ret (v:=.tuple #[u4,.bool sm,.int .i64 0]) (by simp [results,Tryz.results127,go_sem, *]) rfl (PolS.says HK.out HS.out G4)
end Ct
end Go.Proofs.YtbpgfenippiepaaGreatDoor
namespace Go.Proofs.YtbpgfenippiepaaGreatDoor
open Go.RowKit Hl Ex
namespace Ct
set_option maxRecDepth 100000
theorem mem_corL {p q:List Pt} {y:Pt}:y ∈ corL p q↔y ∈ p∧Hs q y:=by
 unfold corL corF
 rw [List.mem_flatMap]
 constructor
 ·rintro ⟨i,hi,hy⟩
  by_cases g:hsB q (at' p i)=true
  ·rw [if_pos g] at hy
   obtain rfl:y=at' p i:=by simpa using hy
   exact ⟨at_mem (List.mem_range.1 hi),hsB_iff.1 g⟩
  ·rw [if_neg g] at hy;cases hy
 ·rintro ⟨hy,g⟩
  obtain ⟨i,hi,rfl⟩:=mem_at hy
  exact ⟨i,List.mem_range.2 hi,by rw [if_pos (hsB_iff.2 g)];simp⟩
theorem mem_croL {p q:List Pt} {y:Pt}:y ∈ croL p q↔∃ i k,(i < p.length∧k < q.length)∧XF (at' p i) (at' p ((i+1) % p.length)) (at' q k) (at' q ((k+1) % q.length)) y:=by
 unfold croL croK croJ croF XF
 rw [List.mem_flatMap]
 constructor
 ·rintro ⟨i,hi,hy⟩
  obtain ⟨k,hk,hy⟩:=List.mem_flatMap.1 hy
  split at hy
  ·rename_i g
   exact ⟨i,k,⟨List.mem_range.1 hi,List.mem_range.1 hk⟩,g,(mem_crL _ _ _ _ _).1 hy⟩
  ·cases hy
 ·rintro ⟨i,k,⟨hi,hk⟩,g,hy⟩
  exact ⟨i,List.mem_range.2 hi,List.mem_flatMap.2 ⟨k,List.mem_range.2 hk,by rw [if_pos g];exact (mem_crL _ _ _ _ _).2 hy⟩⟩
theorem corL_len (p q:List Pt):(corL p q).length≤p.length:=corK_len p q p.length
theorem croL_len (p q:List Pt) (hq:q.length≤64):(croL p q).length≤256 * p.length:=croK_len p q p.length hq
def bothR (p q:List Pt):List Pt:=(([]:List Pt) ++ corL p q) ++ corL q p ++ croL p q
theorem mem_bothR {p q:List Pt} {y:Pt}:y ∈ bothR p q↔BothS p q y:=by
 unfold bothR BothS
 rw [List.nil_append,List.mem_append,List.mem_append,mem_corL,mem_corL,mem_croL,mem_list,mem_list]
 constructor
 ·rintro ((⟨⟨i,hi,e⟩,g⟩ | ⟨⟨i,hi,e⟩,g⟩) | g)
  ·exact Or.inl ⟨i,hi,e,g⟩
  ·exact Or.inr (Or.inl ⟨i,hi,e,g⟩)
  ·exact Or.inr (Or.inr g)
 ·rintro (⟨i,hi,e,g⟩ | ⟨i,hi,e,g⟩ | g)
  ·exact Or.inl (Or.inl ⟨⟨i,hi,e⟩,g⟩)
  ·exact Or.inl (Or.inr ⟨⟨i,hi,e⟩,g⟩)
  ·exact Or.inr g
theorem corL_full {p q:List Pt}:(corL p q).length=p.length↔∀ y,y ∈ p→Hs q y:=by
 have g:∀ k,(corK p q k).length=k↔∀ i,i < k→hsB q (at' p i)=true:=by
  intro k
  induction k with
  | zero => exact ⟨fun _ i hi => absurd hi (Nat.not_lt_zero _),fun _ => rfl⟩
  | succ k ih =>
    have le:=corK_len p q k
    cases h:hsB q (at' p k)
    ·rw [corK_no h]
     exact ⟨fun e => by omega,fun e => by rw [e k (by omega)] at h;cases h⟩
    ·rw [corK_yes h,List.length_append]
     have:([at' p k]:List Pt).length=1:=rfl
     constructor
     ·intro e i hi
      by_cases z:i=k
      ·rw [z];exact h
      ·exact ih.1 (by omega) i (by omega)
     ·intro e
      have:=ih.2 (fun i hi => e i (by omega))
      omega
 rw [← corK_all,g]
 constructor
 ·intro h y hy
  obtain ⟨i,hi,rfl⟩:=mem_at hy
  exact hsB_iff.1 (h i hi)
 ·exact fun h i hi => hsB_iff.2 (h _ (at_mem hi))
theorem xf_plc {q:List Pt} (hq:Plcs q) {a b:Pt} {k:Nat} (hk:k < q.length) {y:Pt} (g:XF a b (at' q k) (at' q ((k+1) % q.length)) y):Plc y:=by
 obtain ⟨_,m,n,hw,h1,h2⟩:=g
 have hc:=hq k hk
 have hd:=hq _ (Nat.mod_lt (k+1) (show 0 < q.length by omega))
 exact ⟨wr_bounds hw.1 hw.2.1 hc.1 hd.1 h1,wr_bounds hw.1 hw.2.1 hc.2 hd.2 h2⟩
theorem bothS_plc {p q:List Pt} (hp:Plcs p) (hq:Plcs q) {y:Pt} (h:BothS p q y):Plc y:=by
 rcases h with ⟨i,hi,rfl,_⟩ | ⟨k,hk,rfl,_⟩ | ⟨i,k,⟨_,hk⟩,g⟩
 ·exact hp i hi
 ·exact hq k hk
 ·exact xf_plc hq hk g
def BothSays (p q:List Pt) (w:World) (e:Ending) (w':World):Prop:=∃ v,e=.returned v∧Hl.Own w.heap.size w' v (bothR p q)∧Grew w w'
set_option maxHeartbeats 4000000 in
theorem both_r (p q:List Pt) (b o c b' o' c':Nat) (w:World) (hr:Row w b o p) (hr':Row w b' o' q) (hp:Vl p) (hq:Vl q):Calls Tryz.prog 123 #[.slice (some ⟨b,o,none⟩) p.length c,.slice (some ⟨b',o',none⟩) q.length c'] w (BothSays p q w):=by
 have C1:=Lib.hid (fun W (g:Grew w W) => corners_r p q (.slice (some ⟨b,o,none⟩) p.length c) b' o' c' W (Or.inr ⟨b,o,c,rfl,hr.grown g⟩) (hr'.grown g) hp.2.1 hq (by have:=hp.1.2;omega))
 have C2:=Lib.hid (fun W (g:Grew w W) => corners_r q p (.slice (some ⟨b',o',none⟩) q.length c') b o c W (Or.inr ⟨b',o',c',rfl,hr'.grown g⟩) (hr.grown g) hq.2.1 hp (by have:=hq.1.2;omega))
 have C3:=Lib.hid (fun W (g:Grew w W) => crossings_r p q b o c b' o' c' W (hr.grown g) (hr'.grown g) hp hq)
 have LN:Hid ((corL p q).length≤64∧(corL q p).length≤64∧(croL p q).length≤16384):=Lib.hid (by
  have:=corL_len p q
  have:=corL_len q p
  have:=croL_len p q hq.1.2
  have:=hp.1.2
  have:=hq.1.2
  omega)
 clear hr hr' hp hq
 generalize p.length=n at *
 generalize q.length=m at *
 go_enter Tryz.func123,Tryz.ntmps123
 go_wp2_with fail
 refine (C1.out _ (Grew.refl _)).mono ?_
 rintro e v1 ⟨u1,rfl,ho,g1⟩
 have O1:=Lib.hid ho
 have G1:=Lib.hid g1
 clear ho g1
 go_wp2_with (at_builtin;go_must (refine wpl_app _ rfl _ _ rfl w.heap.size w.heap.size _ _ [] (corL p q) rfl (Own.nil _ _) rfl O1.out (by have:=LN.out;simp;omega) G1.out.size ?_;intro x1 y1 own1 gr1;have H1:=Lib.hid (Grew.grown G1.out gr1 (fun k hk => by cases hk));have P1:=Lib.hid own1;clear own1 gr1))
 refine (C2.out _ H1.out).mono ?_
 rintro e v2 ⟨u2,rfl,ho,g2⟩
 have O2:=Lib.hid ho
 have G2:=Lib.hid (Grew.trans H1.out g2)
 have P1:=Lib.hid (P1.out.grew g2)
 clear ho g2
 go_wp2_with (at_builtin;go_must (refine wpl_app _ rfl _ _ rfl w.heap.size _ _ _ ([] ++ corL p q) (corL q p) rfl P1.out rfl O2.out (by have:=LN.out;rw [List.nil_append];omega) G2.out.size ?_;intro x2 y2 own2 gr2;have H2:=Lib.hid (Grew.grown G2.out gr2 (fun k hk => P1.out.block k hk));have P2:=Lib.hid own2;clear own2 gr2))
 refine (C3.out _ H2.out).mono ?_
 rintro e v3 ⟨u3,rfl,ho,g3⟩
 have O3:=Lib.hid ho
 have G3:=Lib.hid (Grew.trans H2.out g3)
 have P2:=Lib.hid (P2.out.grew g3)
 clear ho g3
 go_wp2_with (at_builtin;go_must (refine wpl_app _ rfl _ _ rfl w.heap.size _ _ _ (([] ++ corL p q) ++ corL q p) (croL p q) rfl P2.out rfl O3.out (by have:=LN.out;rw [List.nil_append,List.length_append];omega) G3.out.size ?_;intro x3 y3 own3 gr3;have H3:=Lib.hid (Grew.grown G3.out gr3 (fun k hk => P2.out.block k hk));have P3:=Lib.hid own3;clear own3 gr3))
 go_ret
 exact ⟨_,rfl,P3.out,H3.out⟩
theorem bothR_len {p q:List Pt} (hp:Vl p) (hq:Vl q):(bothR p q).length≤4000000:=by
 have:=corL_len p q
 have:=corL_len q p
 have:=croL_len p q hq.1.2
 have:=hp.1.2
 have:=hq.1.2
 unfold bothR
 rw [List.nil_append,List.length_append,List.length_append]
 omega
theorem met_r (p q:List Pt) (b o c b' o' c':Nat) (w:World) (hr:Row w b o p) (hr':Row w b' o' q) (hp:Vl p) (hq:Vl q):Calls Tryz.prog 77 #[.slice (some ⟨b,o,none⟩) p.length c,.slice (some ⟨b',o',none⟩) q.length c'] w (PolS (BothS p q) w):=by
 have B:=Lib.hid (both_r p q b o c b' o' c' w hr hr' hp hq)
 have D:Hid (∀ v W,Sl W v (bothR p q)→Calls Tryz.prog 122 #[v] W (PolS (BothS p q) W)):=Lib.hid (fun v W s => polygon_r (BothS p q) (bothR p q) v W s (fun _ => mem_bothR) (fun y hy => bothS_plc hp.2.1 hq.2.1 hy) (bothR_len hp hq))
 clear hr hr' hp hq
 generalize p.length=n at *
 generalize q.length=m at *
 go_enter Tryz.func77,Tryz.ntmps77
 go_wp2_with fail
 refine B.out.mono ?_
 rintro e v1 ⟨u,rfl,ho,g1⟩
 have DU:=Lib.hid (D.out u v1 ho.sl)
 have G1:=Lib.hid g1
 clear ho g1 B D
 go_wp2_with fail
 refine DU.out.mono ?_
 rintro e v2 ⟨u2,sm,r,rfl,hk,hs,g2⟩
 have HK:=Lib.hid hk
 have HS:=Lib.hid hs
 have G2:=Lib.hid (Grew.trans G1.out g2)
 clear hk hs g2 DU
 go_wp2_with fail
 refine bodyPost_ret (v:=.tuple #[u2,.bool sm]) (by simp [results,Tryz.results77,go_sem, *]) rfl ⟨u2,sm,r,rfl,HK.out,HS.out,G2.out⟩
theorem lies_r (p q:List Pt) (b o c b' o' c':Nat) (w:World) (hr:Row w b o p) (hr':Row w b' o' q) (hp:Vl p) (hq:Vl q):Calls Tryz.prog 117 #[.slice (some ⟨b,o,none⟩) p.length c,.slice (some ⟨b',o',none⟩) q.length c'] w (Tells (∀ y,y ∈ p→Hs q y) w):=by
 have D:=Lib.hid (corners_r p q (.slice (some ⟨b,o,none⟩) p.length c) b' o' c' w (Or.inr ⟨b,o,c,rfl,hr⟩) hr' hp.2.1 hq (by have:=hp.1.2;omega))
 have FU:=Lib.hid (corL_full (p:=p) (q:=q))
 clear hr hr' hp hq
 generalize q.length=m at *
 go_enter Tryz.func117,Tryz.ntmps117
 go_wp2_with fail
 refine D.out.mono ?_
 rintro e v4 ⟨u4,rfl,ho,g4⟩
 have G4:Grew w v4:=g4
 obtain ⟨ua,uc,rfl⟩:=ho.sl.shape
 clear ho g4 D
 by_cases z:(corL p q).length=p.length
 ·have NN:=Lib.hid (FU.out.1 z)
  have z2:(((corL p q).length:Int) == (p.length:Int))=true:=by rw [beq_iff_eq];omega
  clear z FU
  generalize (corL p q).length=N at *
  generalize p.length=n at *
  go_wp2_with fail
  go_ret
  exact Tells.yes NN.out (by first | rfl | simp [z2]) G4
 ·have NN:=Lib.hid (fun h => z (FU.out.2 h))
  have z2:(((corL p q).length:Int) == (p.length:Int))=false:=by rw [beq_eq_false_iff_ne];omega
  clear z FU
  generalize (corL p q).length=N at *
  generalize p.length=n at *
  go_wp2_with fail
  go_ret
  exact Tells.no NN.out (by first | rfl | simp [z2]) G4
end Ct
end Go.Proofs.YtbpgfenippiepaaGreatDoor
namespace Go.Proofs.YtbpgfenippiepaaGreatDoor
open Go.RowKit Go.Shelf Hl
namespace Rg
open Ct (Hf WF ov)
theorem lies_rl (p q:List Pt) (v u:Value) (w:World) (hs:Sl w v p) (hu:Sl w u q) (hp:Vl p) (hq:Vl q):Calls Tryz.prog 117 #[v,u] w (Tells (Lies p q) w):=by
 obtain ⟨b,o,c,rfl,hr⟩:=hs.row (fun e => by
  have:=hp.1.1
  rw [e] at this
  exact absurd this (by simp))
 obtain ⟨b',o',c',rfl,hr'⟩:=hu.row (fun e => by
  have:=hq.1.1
  rw [e] at this
  exact absurd this (by simp))
 exact Ct.lies_r p q b o c b' o' c' w hr hr' hp hq
set_option maxRecDepth 100000 in
set_option maxHeartbeats 4000000 in
theorem covered_r (L:Rgn) (i:Nat) (v:Value) (w:World) (hs:Rl w v L) (hL:AllV L) (hi:i < L.length):Calls Tryz.prog 73 #[v,.int .i64 i] w (Tells (Cov L i) w):=by
 have LL:=Lib.hid hs.2.1
 have VV:=Lib.hid hL
 have HI:=Lib.hid hi
 obtain ⟨a,c,U,rfl,hU,hSl,hRr⟩:=rl_fun hs
 have SS:Hid (∀ i W,i < L.length→Grew w W→Sl W (U i) (nth L i)):=Lib.hid (fun i W hi g => (hSl i hi).grown g)
 have RR:Hid (∀ i W,i < L.length→Grew w W→∃ b o,a=some ⟨b,o,none⟩∧b < W.heap.size∧W.cell? ⟨b,o+i,none⟩=some (U i)):=Lib.hid (fun i W hi g => by
  obtain ⟨b,o,e,hb,z⟩:=hRr i hi
  exact ⟨b,o,e,Nat.lt_of_lt_of_le hb.1 g.size,(Grew.cell g hb.1).trans z⟩)
 have NC:Hid ((∀ j,j < L.length→¬ Up L i j)→¬ Cov L i):=Lib.hid (fun h ⟨j,hj,u⟩ => h j hj u)
 clear hs hU hSl hRr hL
 go_enter Tryz.func73,Tryz.ntmps73
 go_wp2_with fail
 go_loopw [5,6,7] (fun j _ _ wr => ∃ k:Nat,k≤L.length∧j=.int .i64 k∧Grew w wr∧Hid (∀ j,j < k→¬ Up L i j)) (fun j _ _ _ => L.length - (intOf j).toNat)
 case atStart => exact ⟨0,Nat.zero_le _,rfl,Grew.refl _,Lib.hid (fun j hj => by omega)⟩
 case round =>
  obtain ⟨k,hk,rfl,G,D⟩:=hrel
  have hz:=LL.out
  have NX:Hid (¬ Up L i k→∀ j,j < k+1→¬ Up L i j):=Lib.hid (fun h j hj => by
   by_cases e:j=k
   ·rw [e];exact h
   ·exact D.out j (by omega))
  by_cases hlt:k < L.length
  ·have i0:(0:Int)≤(k:Int):=by omega
   have i1:(k:Int) < (L.length:Int):=by omega
   have j0:(0:Int)≤(i:Int):=by omega
   have j1:(i:Int) < (L.length:Int):=by omega
   by_cases he:k=i
   ·have he1:(k:Int)=(i:Int):=by omega
    have F:=Lib.hid (NX.out (fun u => u.1 he))
    clear he
    go_wp2_with fail
    exact ⟨⟨k+1,by omega,by go_num,G,F⟩,by simp [intOf];omega⟩
   ·have he1:¬ (k:Int)=(i:Int):=by omega
    obtain ⟨b,o,rfl,hb,z0⟩:=RR.out i wr hi G
    obtain ⟨b',o',e',_,z1⟩:=RR.out k wr hlt G
    injection e' with e'
    injection e' with e1 e2
    subst e1 e2
    have CC:Hid (∀ W,Grew wr W→Calls Tryz.prog 117 #[U i,U k] W (Tells (Lies (nth L i) (nth L k)) W)):=Lib.hid (fun W g => lies_rl _ _ _ _ W (SS.out i W HI.out (Grew.trans G g)) (SS.out k W hlt (Grew.trans G g)) (VV.out _ (nth_mem HI.out)) (VV.out _ (nth_mem hlt)))
    have CS:Hid (∀ W,Grew wr W→Calls Tryz.prog 37 #[U i,U k] W (Tells (nth L i=nth L k) W)):=Lib.hid (fun W g => same_any _ _ _ _ W (SS.out i W HI.out (Grew.trans G g)) (SS.out k W hlt (Grew.trans G g)) (by have:=(VV.out _ (nth_mem HI.out)).1.2;omega))
    obtain ⟨W0,hW0⟩:∃ W0,W0=wr:=⟨wr,rfl⟩
    subst hW0
    go_wp2_with fail
    go_region_held3 (fun w' => w'.cell? ⟨b,o+i,none⟩=some (U i)∧w'.cell? ⟨b,o+k,none⟩=some (U k)) (simp [go_sem, *])
     (first | (go_at_call 117;refine (CC.out _ gw).mono ?_;rintro e w1 ⟨r1,rfl,hr1,g1⟩;have GX:Grew W0 w1:=Grew.trans gw g1;have y0:=(Grew.cell (o:=o+i) GX hb).trans z0;have y1:=(Grew.cell (o:=o+k) GX hb).trans z1))
    all_goals have H1:=Lib.hid hr1
    all_goals have GX1:=GX
    all_goals clear hr1 g1 GX
    all_goals go_wp2_with fail
    all_goals go_region_held3 (fun w' => w'.cell? ⟨b,o+i,none⟩=some (U i)∧w'.cell? ⟨b,o+k,none⟩=some (U k)) (simp [go_sem, *])
     (first | (go_at_call 37;refine (CS.out _ gw).mono ?_;rintro e w2 ⟨r2,rfl,hr2,g2⟩;have GX:Grew W0 w2:=Grew.trans gw g2;have y0:=(Grew.cell (o:=o+i) GX hb).trans z0;have y1:=(Grew.cell (o:=o+k) GX hb).trans z1))
    all_goals have H2:=Lib.hid hr2
    all_goals have G2:=Grew.trans G GX
    all_goals clear hr2 g2 GX GX1
    all_goals cases r1
    ·have F:=Lib.hid (NX.out (fun u => absurd (H1.out.2 u.2.1) (by decide)))
     go_wp2_with fail
     exact ⟨⟨k+1,by omega,by go_num,G2,F⟩,by simp [intOf];omega⟩
    cases r2
    ·have F:Hid (Cov L i):=Lib.hid ⟨k,hlt,he,H1.out.1 rfl,Or.inl (fun e => absurd (H2.out.2 e) (by decide))⟩
     go_wp2_with fail
     go_ret
     exact Tells.yes F.out rfl G2
    by_cases hki:k < i
    ·have hk1:(k:Int) < (i:Int):=by omega
     have F:Hid (Cov L i):=Lib.hid ⟨k,hlt,he,H1.out.1 rfl,Or.inr hki⟩
     go_wp2_with fail
     go_ret
     exact Tells.yes F.out rfl G2
    ·have hk1:¬ (k:Int) < (i:Int):=by omega
     have F:=Lib.hid (NX.out (fun u => (u.2.2.elim (fun n => n (H2.out.1 rfl)) (fun n => hki n))))
     clear hki
     go_wp2_with fail
     exact ⟨⟨k+1,by omega,by go_num,G2,F⟩,by simp [intOf];omega⟩
  ·obtain rfl:k=L.length:=by omega
   have F:=Lib.hid (NC.out D.out)
   go_wp2_with fail
   go_ret
   exact Tells.no F.out rfl G
end Rg
end Go.Proofs.YtbpgfenippiepaaGreatDoor
