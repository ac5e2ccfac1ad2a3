/-
  Small functions of the statements about layer 7: at, box; Same of the reference.
  Answers about regions are single.
  In of the reference of layer 7.
  What the laws of stage 7 call.
  The reference functions Corners and Left of layer 4.
  The reference functions polygon, Cut, both, Met, Meet, Apart, Lies, Within of layer 4.
  The reference functions both, Met, Meet, Apart, Lies, Within, least of layer 4.
  The reference of layer 7: left, CutBy, Both.
-/
import Derived.Test.YtbpgfenippiepaaGreatDoorRegCon
import Derived.Test.YtbpgfenippiepaaGreatDoorHullIn
import Derived.Test.YtbpgfenippiepaaGreatDoorHullInB
import Derived.Test.YtbpgfenippiepaaGreatDoorCutCb
import Derived.Test.YtbpgfenippiepaaGreatDoorHullWrap
import Derived.Test.YtbpgfenippiepaaGreatDoorCutCi
import Derived.Deep.QuietTactic
import Derived.BigQuiet
namespace Go.Proofs.YtbpgfenippiepaaGreatDoor
open Go.RowKit Go.Shelf Hl
namespace Rg
set_option maxRecDepth 100000 in
set_option maxHeartbeats 4000000 in
theorem rsame_c (L M:Rgn) (v u:Value) (w:World) (hs:Rl w v L) (hs2:Rl w u M):Calls Tryz.prog 13 #[v,u] w (Tells (L=M) w):=by
 have hB:=hs.2
 obtain ⟨a,c,U,rfl,hU,hSl,hRr⟩:=rl_fun hs
 obtain ⟨a2,c2,X,rfl,hX,hSl2,hRr2⟩:=rl_fun hs2
 by_cases hl:L.length=M.length
 ·have SC:Hid (∀ i W,i < L.length→Grew w W→Calls Tryz.prog 37 #[U i,X i] W (Tells (nth L i=nth M i) W)):=Lib.hid (fun i W hi g => same_any (nth L i) (nth M i) (U i) (X i) W ((hSl i hi).grown g) ((hSl2 i (by omega)).grown g) (hB.2 _ (nth_mem hi)))
  have RR:Hid (∀ i W,i < L.length→Grew w W→∃ b o b' o',(a=some ⟨b,o,none⟩∧a2=some ⟨b',o',none⟩)∧(b < W.heap.size∧b' < W.heap.size)∧W.cell? ⟨b,o+i,none⟩=some (U i)∧W.cell? ⟨b',o'+i,none⟩=some (X i)):=Lib.hid (fun i W hi g => by
   obtain ⟨b,o,e,hb,z⟩:=hRr i hi
   obtain ⟨b',o',e',hb',z'⟩:=hRr2 i (by omega)
   exact ⟨b,o,b',o',⟨e,e'⟩,⟨Nat.lt_of_lt_of_le hb.1 g.size,Nat.lt_of_lt_of_le hb'.1 g.size⟩,(Grew.cell g hb.1).trans z,(Grew.cell g hb'.1).trans z'⟩)
  have NE:Hid ((∀ i,i < L.length→nth L i=nth M i)→L=M):=Lib.hid (fun h => by
   apply List.ext_getElem hl
   intro i h1 h2
   have:=h i h1
   rwa [nth_get h1,nth_get h2] at this)
  have LL:=Lib.hid hB.1
  rw [← hl]
  clear hs hs2 hU hSl hRr hX hSl2 hRr2 hB hl
  go_enter Tryz.func13,Tryz.ntmps13
  go_wp2_with fail
  go_loopw [5,6] (fun i _ wr => ∃ k:Nat,k≤L.length∧i=.int .i64 k∧Grew w wr∧Hid (∀ j,j < k→nth L j=nth M j)) (fun i _ _ => L.length - (intOf i).toNat)
  case atStart => exact ⟨0,Nat.zero_le _,rfl,Grew.refl _,Lib.hid (fun j hj => by omega)⟩
  case round =>
   obtain ⟨k,hk,rfl,G,D⟩:=hrel
   have hz:=LL.out
   by_cases hlt:k < L.length
   ·obtain ⟨b,o,b',o',⟨rfl,rfl⟩,⟨hb,hb'⟩,z0,z1⟩:=RR.out k _ hlt G
    have i0:(0:Int)≤(k:Int):=by omega
    have i1:(k:Int) < (L.length:Int):=by omega
    have CC:=Lib.hid (fun W g => SC.out k W hlt (Grew.trans G g))
    go_wp2_with fail
    go_region_held3 (fun w' => w'.cell? ⟨b,o+k,none⟩=some (U k)∧w'.cell? ⟨b',o'+k,none⟩=some (X k)) (simp [go_sem, *])
     (first | (go_at_call 37;refine (CC.out _ gw).mono ?_;rintro e w1 ⟨r,rfl,hr,g1⟩;have GX:Grew wr w1:=Grew.trans gw g1;have G1:Grew w w1:=Grew.trans G GX;have y0:=(Grew.cell (o:=o+k) GX hb).trans z0;have y1:=(Grew.cell (o:=o'+k) GX hb').trans z1))
    cases r
    ·have F:Hid (¬ L=M):=Lib.hid (fun e => by
      have:=hr.2 (by rw [e])
      cases this)
     clear hr g1
     go_wp2_with fail
     go_ret
     exact Tells.no F.out rfl G1
    ·have F:=Lib.hid (hr.1 rfl)
     clear hr g1
     go_wp2_with fail
     go_roundw
     case rel => exact ⟨k+1,by omega,by go_num,G1,Lib.hid (fun j hj => by
      by_cases e:j=k
      ·rw [e];exact F.out
      ·exact D.out j (by omega))⟩
     case measure => simp [intOf];omega
   ·obtain rfl:k=L.length:=by omega
    have F:=Lib.hid (NE.out D.out)
    clear hz
    go_wp2_with fail
    go_ret
    exact Tells.yes F.out rfl G
 ·have F:Hid (¬ L=M):=Lib.hid (fun e => hl (by rw [e]))
  have hl':¬ (L.length:Int)=(M.length:Int):=by omega
  clear hs hs2 hU hSl hRr hX hSl2 hRr2 hB hl
  go_enter Tryz.func13,Tryz.ntmps13
  go_wp2_with fail
  go_ret
  exact Tells.no F.out rfl (Grew.refl _)
end Rg
end Go.Proofs.YtbpgfenippiepaaGreatDoor
namespace Go.Proofs.YtbpgfenippiepaaGreatDoor
open Go.RowKit Go.Shelf Hl
namespace Rg
theorem HasP.one {L:Rgn} {x:Pt} {r r':Bool} {k k':Int} (h:HasP L x r k) (h':HasP L x r' k'):r=r'∧k=k':=by
 rcases h with ⟨a,rfl,rfl⟩ | ⟨a,b,rfl⟩ <;> rcases h' with ⟨a',rfl,rfl⟩ | ⟨a',b',rfl⟩
 ·exact ⟨rfl,rfl⟩
 ·exact absurd a' a
 ·exact absurd a a'
 ·exact ⟨Bool.eq_iff_iff.2 (b.trans b'.symm),rfl⟩
theorem WitP.one {L:Rgn} {p:List Pt} {r r':Bool} {k k':Int} (h:WitP L p r k) (h':WitP L p r' k'):r=r'∧k=k':=by
 rcases h with ⟨a,rfl,rfl⟩ | ⟨a,b,rfl⟩ <;> rcases h' with ⟨a',rfl,rfl⟩ | ⟨a',b',rfl⟩
 ·exact ⟨rfl,rfl⟩
 ·exact absurd a' a
 ·exact absurd a a'
 ·exact ⟨Bool.eq_iff_iff.2 (b.trans b'.symm),rfl⟩
theorem box_eq {p:List Pt} {lo hi lo' hi':Pt} (h:IsBox p lo hi) (h':IsBox p lo' hi'):lo=lo'∧hi=hi':=by
 have a:=h.1.one h'.1
 have b:=h.2.1.one h'.2.1
 have c:=h.2.2.1.one h'.2.2.1
 have d:=h.2.2.2.one h'.2.2.2
 exact ⟨Prod.ext a c,Prod.ext (by omega) (by omega)⟩
theorem BoxP.one {L:Rgn} {lo hi lo' hi':Pt} {r r':Bool} {k k':Int} (h:BoxP L lo hi r k) (h':BoxP L lo' hi' r' k'):(lo=lo'∧hi=hi')∧r=r'∧k=k':=by
 rcases h with ⟨a,rfl,rfl,rfl,rfl⟩ | ⟨a,b,rfl,rfl,rfl,rfl⟩ | ⟨a,b,c,rfl,rfl⟩ <;> rcases h' with ⟨a',rfl,rfl,rfl,rfl⟩ | ⟨a',b',rfl,rfl,rfl,rfl⟩ | ⟨a',b',c',rfl,rfl⟩
 ·exact ⟨⟨rfl,rfl⟩,rfl,rfl⟩
 ·exact absurd a' a
 ·exact absurd a' a
 ·exact absurd a a'
 ·exact ⟨⟨rfl,rfl⟩,rfl,rfl⟩
 ·exact absurd b b'
 ·exact absurd a a'
 ·exact absurd b' b
 ·exact ⟨box_eq c c',rfl,rfl⟩
end Rg
end Go.Proofs.YtbpgfenippiepaaGreatDoor
namespace Go.Proofs.YtbpgfenippiepaaGreatDoor
open Go.RowKit Go.Shelf Hl
namespace Rg
set_option maxRecDepth 100000 in
set_option maxHeartbeats 4000000 in
theorem in_c (L:Rgn) (x:Pt) (v:Value) (w:World) (hs:Rl w v L) (hL:AllV L) (hx:Plc x):Calls Tryz.prog 26 #[v,.agg #[.int .i64 x.1,.int .i64 x.2]] w (Tells (InR L x) w):=by
 have LL:=Lib.hid hs.2.1
 obtain ⟨a,c,U,rfl,hU,hSl,hRr⟩:=rl_fun hs
 have SC:Hid (∀ i W,i < L.length→Grew w W→Calls Tryz.prog 54 #[U i,.agg #[.int .i64 x.1,.int .i64 x.2]] W (Tells (Hs (nth L i) x) W)):=Lib.hid (fun i W hi g => by
  have hv:=hL _ (nth_mem hi)
  obtain ⟨b,o,c',e,hr⟩:=((hSl i hi).grown g).row (fun e => by
   have:=hv.1.1
   rw [e] at this
   exact absurd this (by simp))
  rw [e]
  exact inside_any (nth L i) x b o c' W hr hv.2.1 hx hv.1.1 (by have:=hv.1.2;omega))
 have RR:Hid (∀ i W,i < L.length→Grew w W→∃ b o,a=some ⟨b,o,none⟩∧b < W.heap.size∧W.cell? ⟨b,o+i,none⟩=some (U i)):=Lib.hid (fun i W hi g => by
  obtain ⟨b,o,e,hb,z⟩:=hRr i hi
  exact ⟨b,o,e,Nat.lt_of_lt_of_le hb.1 g.size,(Grew.cell g hb.1).trans z⟩)
 have NY:Hid (∀ i,i < L.length→Hs (nth L i) x→InR L x):=Lib.hid (fun i hi h => ⟨_,nth_mem hi,h⟩)
 have NN:Hid ((∀ i,i < L.length→¬ Hs (nth L i) x)→¬ InR L x):=Lib.hid (fun h ⟨p,hp,k⟩ => by
  obtain ⟨i,hi,rfl⟩:=mem_nth hp
  exact h i hi k)
 have B0:=Lib.hid (Blk.new w #[.int .i64 x.1,.int .i64 x.2] 24)
 have G0:Grew w (w.alloc (.cells #[.int .i64 x.1,.int .i64 x.2] 24)):=(Grew.refl w).alloc _ _
 clear hs hU hSl hRr hL hx
 go_enter Tryz.func26,Tryz.ntmps26
 go_wp2_with fail
 go_loopw [5,6] (fun i _ wr => ∃ k:Nat,k≤L.length∧i=.int .i64 k∧Grew (w.alloc (.cells #[.int .i64 x.1,.int .i64 x.2] 24)) wr∧Hid (∀ j,j < k→¬ Hs (nth L j) x)) (fun i _ _ => L.length - (intOf i).toNat)
 case atStart => exact ⟨0,Nat.zero_le _,rfl,Grew.refl _,Lib.hid (fun j hj => by omega)⟩
 case round =>
  obtain ⟨k,hk,rfl,G',D⟩:=hrel
  have G:=Grew.trans G0 G'
  have hz:=LL.out
  by_cases hlt:k < L.length
  ·obtain ⟨b,o,rfl,hb,z0⟩:=RR.out k _ hlt G
   have BW:=Lib.hid (B0.out.grown G')
   obtain ⟨x0,x1⟩:=blk_two BW.out
   have i0:(0:Int)≤(k:Int):=by omega
   have i1:(k:Int) < (L.length:Int):=by omega
   have CC:=Lib.hid (fun W g => SC.out k W hlt (Grew.trans G g))
   go_wp2_with fail
   go_region_held3 (fun w' => w'.cell? ⟨b,o+k,none⟩=some (U k)∧w'.cell? ⟨w.heap.size,0,none⟩=some (.int .i64 x.1)∧w'.cell? ⟨w.heap.size,1,none⟩=some (.int .i64 x.2)) (simp [go_sem, *])
    (first | (go_at_call 54;refine (CC.out _ gw).mono ?_;rintro e w1 ⟨r,rfl,hr,g1⟩;have GX:Grew wr w1:=Grew.trans gw g1;have y0:=(Grew.cell (o:=o+k) GX hb).trans z0;obtain ⟨y1,y2⟩:=blk_two (BW.out.grown GX)))
   have G1:Grew w w1:=Grew.trans G GX
   have G1':=Grew.trans G' GX
   cases r
   ·have F:Hid (¬ Hs (nth L k) x):=Lib.hid (fun e => by
     have:=hr.2 e
     cases this)
    clear hr g1
    go_wp2_with fail
    go_roundw
    case rel => exact ⟨k+1,by omega,by go_num,G1',Lib.hid (fun j hj => by
     by_cases e:j=k
     ·rw [e];exact F.out
     ·exact D.out j (by omega))⟩
    case measure => simp [intOf];omega
   ·have F:=Lib.hid (NY.out k hlt (hr.1 rfl))
    clear hr g1
    go_wp2_with fail
    go_ret
    exact Tells.yes F.out rfl G1
  ·obtain rfl:k=L.length:=by omega
   have F:=Lib.hid (NN.out D.out)
   go_wp2_with fail
   go_ret
   exact Tells.no F.out rfl G
end Rg
end Go.Proofs.YtbpgfenippiepaaGreatDoor
namespace Go.Proofs.YtbpgfenippiepaaGreatDoor
open Go.RowKit Go.Shelf Hl
namespace Rg
open Ct (Hf WF ov)
theorem blk_three {W:World} {B:Nat} {x y z:Value} {t:TypeId} (h:Blk W B #[x,y,z] t):W.cell? ⟨B,0,none⟩=some x∧W.cell? ⟨B,1,none⟩=some y∧W.cell? ⟨B,2,none⟩=some z:=by simp [World.cell?,show W.heap[B]? = _ from h]
theorem place_t (x:Pt) (w:World):Calls Tryz.prog 19 #[.agg #[.int .i64 x.1,.int .i64 x.2]] w (Tells (Plc x) w) :=
 (place_x x w).mono fun _ _ h => ⟨_,h.1,decide_eq_true_iff,h.2⟩
theorem rl_nat {w:World} {v:Value} {L:Rgn} (h:Rl w v L):∃ a n c,v=.slice a n c∧n=L.length:=by
 obtain ⟨a,c,e⟩:=h.shape
 exact ⟨a,_,c,e,rfl⟩
end Rg
end Go.Proofs.YtbpgfenippiepaaGreatDoor
namespace Go.Proofs.YtbpgfenippiepaaGreatDoor
open Go.RowKit Hl Ex
namespace Ct
set_option maxRecDepth 100000
theorem wpl_app {ops:Array Oper} {rest:List Oper} {o:Oper} {a:Act} {Q:Exit→Act→World→Prop} (w:World) (hgd:o.guard=none) (s x:Operand)
  (ho:o.op=.call { callee:=.builtin .append,args:=#[s,x],argTypes:=#[48,48] }) (B B':Nat) (v u:Value) (p q:List Pt)
  (hs:a.eval s=v) (hown:Hl.Own B w v p) (hx:a.eval x=u) (hu:Hl.Own B' w u q) (hl:p.length+q.length≤4000000) (hB:B≤w.heap.size)
  (h:∀ v' w',Hl.Own B w' v' (p ++ q)→w.grownBy w' v.ownBlock→wpList Tryz.prog ops Q rest (a.put o.dst v') w'):wpList Tryz.prog ops Q (o :: rest) a w :=
 wpList_plain hgd fun _ hK => wp_append_oo w s x 48 Tryz.underlying48 ho B B' v u p q hs hown hx hu hl hB fun v' w' h2 h3 => hK _ _ (h v' w' h2 h3)
theorem flat_snoc {α:Type} (F:Nat→List α) (k:Nat):(List.range (k+1)).flatMap F=(List.range k).flatMap F ++ F k:=by rw [List.range_succ,List.flatMap_append,List.flatMap_singleton]
theorem flat_le {α:Type} (F:Nat→List α) (c:Nat) (hF:∀ i,(F i).length≤c):∀ k,((List.range k).flatMap F).length≤c * k
 | 0 => Nat.zero_le _
 | k+1 => by
   have:=flat_le F c hF k
   have:=hF k
   rw [flat_snoc,List.length_append,Nat.mul_succ]
   omega
def corF (p q:List Pt) (i:Nat):List Pt:=if hsB q (at' p i)=true then [at' p i] else []
def corL (p q:List Pt):List Pt:=(List.range p.length).flatMap (corF p q)
def corK (p q:List Pt) (k:Nat):List Pt:=(List.range k).flatMap (corF p q)
theorem corF_len (p q:List Pt) (i:Nat):(corF p q i).length≤1:=by unfold corF;split <;> simp
theorem corK_len (p q:List Pt) (k:Nat):(corK p q k).length≤k:=by have:=flat_le (corF p q) 1 (corF_len p q) k;unfold corK;omega
theorem corK_yes {p q:List Pt} {k:Nat} (h:hsB q (at' p k)=true):corK p q (k+1)=corK p q k ++ [at' p k]:=by unfold corK;rw [flat_snoc];unfold corF;rw [if_pos h]
theorem corK_no {p q:List Pt} {k:Nat} (h:hsB q (at' p k)=false):corK p q (k+1)=corK p q k:=by unfold corK;rw [flat_snoc];unfold corF;rw [if_neg (by rw [h];decide),List.append_nil]
theorem corK_all (p q:List Pt):corK p q p.length=corL p q:=rfl
def CorSays (p q:List Pt) (w:World) (e:Ending) (w':World):Prop:=∃ v,e=.returned v∧Hl.Own w.heap.size w' v (corL p q)∧Grew w w'
theorem hsB_iff {p:List Pt} {x:Pt}:hsB p x=true↔Hs p x:=by unfold hsB;exact decide_eq_true_iff
theorem slr {W:World} {a:Option Addr} {n c:Nat} {l:List Pt} (h:Sl W (.slice a n c) l) (h0:0 < l.length):∃ b o,a=some ⟨b,o,none⟩∧Row W b o l:=by
 obtain ⟨b,o,c',e,r⟩:=h.row (fun e => by rw [e] at h0;cases h0)
 injection e with e1 e2 e3
 exact ⟨b,o,e1,r⟩
set_option maxHeartbeats 4000000 in
theorem corners_r (p q:List Pt) (v:Value) (b' o' c':Nat) (w:World) (hs:Sl w v p) (hr':Row w b' o' q) (hp:Plcs p) (hq:Vl q) (hl:p.length≤20000):Calls Tryz.prog 149 #[v,.slice (some ⟨b',o',none⟩) q.length c'] w (CorSays p q w):=by
 obtain ⟨sa,sc,rfl⟩:=hs.shape
 have HS:=Lib.hid hs
 have IC:Hid (∀ k W,k < p.length→Grew w W→Calls Tryz.prog 54 #[.slice (some ⟨b',o',none⟩) q.length c',.agg #[.int .i64 (at' p k).1,.int .i64 (at' p k).2]] W fun e w' => e=.returned (.bool (hsB q (at' p k)))∧Grew W w'):=Lib.hid (fun k W hk g => (inside_any q (at' p k) b' o' c' W (hr'.grown g) hq.2.1 (hp k hk) hq.1.1 (by have:=hq.1.2;omega)).mono (by
  rintro e w' ⟨r,rfl,h,g⟩
  refine ⟨?_,g⟩
  have:r=hsB q (at' p k):=by rw [Bool.eq_iff_iff,h,hsB_iff]
  rw [this]))
 have LN:=Lib.hid (corK_len p q)
 have HL:=Lib.hid hl
 clear hs hr' hp hq
 go_enter Tryz.func149,Tryz.ntmps149
 go_wp2_with fail
 go_loopw [5,6] (fun u i wr => ∃ k:Nat,k≤p.length∧i=.int .i64 k∧Grew w wr∧Hid (Hl.Own w.heap.size wr u (corK p q k))) (fun _ i _ => p.length - (intOf i).toNat)
 case atStart => exact ⟨0,Nat.zero_le _,rfl,Grew.refl _,Lib.hid (Own.nil _ _)⟩
 case round =>
  obtain ⟨k,hk,rfl,G,OW⟩:=hrel
  have lk:=LN.out k
  by_cases hlt:k < p.length
  ·obtain ⟨sb,so,rfl,row⟩:=slr (HS.out.grown G) (by omega)
   obtain ⟨q0,q1⟩:=row.2 k hlt
   have hb:=row.1
   have i0:(0:Int)≤(k:Int):=by omega
   have i1:(k:Int) < (p.length:Int):=by omega
   have ICk:=Lib.hid (fun W g => IC.out k W hlt g)
   have PK:Hid ((hsB q (at' p k)=true→corK p q (k+1)=corK p q k ++ [at' p k])∧(hsB q (at' p k)=false→corK p q (k+1)=corK p q k)):=Lib.hid ⟨corK_yes,corK_no⟩
   have KN:=Lib.hid lk
   obtain ⟨r,hr⟩:∃ r,hsB q (at' p k)=r:=⟨_,rfl⟩
   rw [hr] at ICk PK
   have ROW:=Lib.hid row
   clear hr row lk
   cases r
   ·have P1:=Lib.hid (PK.out.2 rfl)
    clear PK
    go_wp2_with fail
    refine (ICk.out _ G).mono ?_
    rintro e w3 ⟨rfl,g3⟩
    have G3:Grew w w3:=Grew.trans G g3
    have OW3:=Lib.hid (OW.out.grew g3)
    clear g3 q0 q1 hb
    go_wp2_with fail
    go_roundw
    case rel => exact ⟨k+1,by omega,by go_num,G3,Lib.hid (by rw [P1.out];exact OW3.out)⟩
    case measure => simp [intOf];omega
   ·have P1:=Lib.hid (PK.out.1 rfl)
    clear PK
    go_wp2_with fail
    refine (ICk.out _ G).mono ?_
    rintro e w3 ⟨rfl,g3⟩
    have G3:Grew w w3:=Grew.trans G g3
    have OW3:=Lib.hid (OW.out.grew g3)
    obtain ⟨q0,q1⟩:=(ROW.out.grown g3).2 k hlt
    have hb:=(ROW.out.grown g3).1
    clear g3
    go_wp2_with (at_builtin;go_must (refine wpl_app _ rfl _ _ rfl w.heap.size w3.heap.size _ _ (corK p q k) [at' p k] rfl (OW3.out.alloc _) rfl (own_one w3 (at' p k) (Nat.le_refl _)) (by have:=KN.out;have:=HL.out;simp;omega) (by have:=G3.size;simp;omega) ?_;intro v' w' own' gr';have GG:=Lib.hid (Grew.grown (G3.alloc _ _) gr' (fun k hk => OW3.out.block k hk));have OW4:=Lib.hid own';clear own' gr'))
    go_roundw
    case rel => exact ⟨k+1,by omega,by go_num,GG.out,Lib.hid (by rw [P1.out];exact OW4.out)⟩
    case measure => simp [intOf];omega
  ·obtain rfl:k=p.length:=by omega
   go_wp2_with fail
   go_ret
   exact ⟨_,rfl,OW.out,G⟩
end Ct
end Go.Proofs.YtbpgfenippiepaaGreatDoor
namespace Go.Proofs.YtbpgfenippiepaaGreatDoor
open Go.RowKit Hl Ex
namespace Ct
set_option maxRecDepth 100000
def PolS (S:Pt→Prop) (w:World) (e:Ending) (w':World):Prop:=∃ v sm q,e=.returned (.tuple #[v,.bool sm])∧((sm=true∧Poly S q)∨(sm=false∧(¬ ∃ y,S y)∧q=[]))∧Sl w' v q∧Grew w w'
theorem PolS.says {S:Pt→Prop} {w w2:World} {v:Value} {sm:Bool} {q:List Pt} (h:(sm=true∧Poly S q)∨(sm=false∧(¬ ∃ y,S y)∧q=[])) (hs:Sl w2 v q) (g:Grew w w2):PolySays S w (.returned (.tuple #[v,.bool sm,.int .i64 0])) w2:=by
 rcases h with ⟨rfl,hp⟩ | ⟨rfl,hn,rfl⟩
 ·exact Or.inl ⟨q,v,hp,rfl,hs,g⟩
 ·exact Or.inr ⟨hn,v,rfl,hs,g⟩
end Ct
end Go.Proofs.YtbpgfenippiepaaGreatDoor
namespace Go.Proofs.YtbpgfenippiepaaGreatDoor
open Go.RowKit Hl Ex
namespace Ct
set_option maxRecDepth 100000
theorem corL_full {p q:List Pt}:(corL p q).length=p.length↔∀ y,y ∈ p→Hs q y:=by
 have g:∀ k,(corK p q k).length=k↔∀ i,i < k→hsB q (at' p i)=true:=by
  intro k
  induction k with
  | zero => exact ⟨fun _ i hi => absurd hi (Nat.not_lt_zero _),fun _ => rfl⟩
  | succ k ih =>
    have le:=corK_len p q k
    cases h:hsB q (at' p k)
    ·rw [corK_no h]
     exact ⟨fun e => by omega,fun e => by rw [e k (by omega)] at h;cases h⟩
    ·rw [corK_yes h,List.length_append]
     have:([at' p k]:List Pt).length=1:=rfl
     constructor
     ·intro e i hi
      by_cases z:i=k
      ·rw [z];exact h
      ·exact ih.1 (by omega) i (by omega)
     ·intro e
      have:=ih.2 (fun i hi => e i (by omega))
      omega
 rw [← corK_all,g]
 constructor
 ·intro h y hy
  obtain ⟨i,hi,rfl⟩:=mem_at hy
  exact hsB_iff.1 (h i hi)
 ·exact fun h i hi => hsB_iff.2 (h _ (at_mem hi))
theorem lies_r (p q:List Pt) (b o c b' o' c':Nat) (w:World) (hr:Row w b o p) (hr':Row w b' o' q) (hp:Vl p) (hq:Vl q):Calls Tryz.prog 117 #[.slice (some ⟨b,o,none⟩) p.length c,.slice (some ⟨b',o',none⟩) q.length c'] w (Tells (∀ y,y ∈ p→Hs q y) w):=by
 have D:=Lib.hid (corners_r p q (.slice (some ⟨b,o,none⟩) p.length c) b' o' c' w (Or.inr ⟨b,o,c,rfl,hr⟩) hr' hp.2.1 hq (by have:=hp.1.2;omega))
 have FU:=Lib.hid (corL_full (p:=p) (q:=q))
 clear hr hr' hp hq
 generalize q.length=m at *
 go_enter Tryz.func117,Tryz.ntmps117
 go_wp2_with fail
 refine D.out.mono ?_
 rintro e v4 ⟨u4,rfl,ho,g4⟩
 have G4:Grew w v4:=g4
 obtain ⟨ua,uc,rfl⟩:=ho.sl.shape
 clear ho g4 D
 by_cases z:(corL p q).length=p.length
 ·have NN:=Lib.hid (FU.out.1 z)
  have z2:(((corL p q).length:Int) == (p.length:Int))=true:=by rw [beq_iff_eq];omega
  clear z FU
  generalize (corL p q).length=N at *
  generalize p.length=n at *
  go_wp2_with fail
  go_ret
  exact Tells.yes NN.out (by first | rfl | simp [z2]) G4
 ·have NN:=Lib.hid (fun h => z (FU.out.2 h))
  have z2:(((corL p q).length:Int) == (p.length:Int))=false:=by rw [beq_eq_false_iff_ne];omega
  clear z FU
  generalize (corL p q).length=N at *
  generalize p.length=n at *
  go_wp2_with fail
  go_ret
  exact Tells.no NN.out (by first | rfl | simp [z2]) G4
end Ct
end Go.Proofs.YtbpgfenippiepaaGreatDoor
namespace Go.Proofs.YtbpgfenippiepaaGreatDoor
open Go.RowKit Go.Shelf Hl
namespace Rg
open Ct (Hf WF ov)
open Ct (LeftS Poly)
def OneSays (S:Pt→Prop) (w:World) (e:Ending) (w':World):Prop:=∃ v sm q,e=.returned (.tuple #[v,.bool sm,.int .i64 0])∧((sm=true∧Poly S q)∨(sm=false∧(¬ ∃ y,S y)∧q=[]))∧Sl w' v q∧Grew w w'
theorem OneSays.of {S:Pt→Prop} {w:World} {e:Ending} {w':World} (h:Ct.PolySays S w e w'):OneSays S w e w':=by
 rcases h with ⟨q,v,hq,he,hs,g⟩ | ⟨hn,v,he,hs,g⟩
 ·exact ⟨v,true,q,he,Or.inl ⟨rfl,hq⟩,hs,g⟩
 ·exact ⟨v,false,[],he,Or.inr ⟨rfl,hn,rfl⟩,hs,g⟩
end Rg
end Go.Proofs.YtbpgfenippiepaaGreatDoor
