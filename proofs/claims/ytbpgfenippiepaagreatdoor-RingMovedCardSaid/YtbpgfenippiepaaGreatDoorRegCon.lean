/-
  What package region owes, a relation each.
  The landed package region: Tidy, Has, Within.
  The landed package region: pairs.
  Small facts of slices of polygons and of blocks of two cells.
-/
import Derived.Test.YtbpgfenippiepaaGreatDoorRegSl
import Derived.Test.YtbpgfenippiepaaGreatDoorRegH
import Derived.Test.YtbpgfenippiepaaGreatDoorHullCa
namespace Go.Proofs.YtbpgfenippiepaaGreatDoor
open Go.RowKit Hl
namespace Rg
open Ct (Hf WF)
def AnsR (P:Int→Rgn→Prop) (w:World) (e:Ending) (w':World):Prop:=∃ v k r,P k r∧e=.returned (.tuple #[v,.int .i64 k])∧Rl w' v r∧Grew w w'
def AnsB (P:Bool→Int→Prop) (w:World) (e:Ending) (w':World):Prop:=∃ r k,P r k∧e=.returned (.tuple #[.bool r,.int .i64 k])∧Grew w w'
def Rect (lo hi:Pt):Prop:=(Plc lo∧Plc hi)∧lo.1≤hi.1∧lo.2≤hi.2
def Made (B:Prop) (C:Rgn→Prop) (k:Int) (r:Rgn):Prop:=(¬ B∧k=1∧r=[])∨(B∧k=0∧∃ c,C c∧TidyIs c r)
def TidP (L:Rgn) (k:Int) (r:Rgn):Prop:=Made (L.length≤4000∧AllV L) (fun c => c=L) k r
def JoiP (a b:Rgn) (k:Int) (r:Rgn):Prop:=Made (VlR a∧VlR b) (fun c => c=a ++ b) k r
def CutP (L:Rgn) (h:Hf) (k:Int) (r:Rgn):Prop:=Made (VlR L∧WF h) (CutC L h) k r
def MetP (a b:Rgn) (k:Int) (r:Rgn):Prop:=Made (VlR a∧VlR b) (MetC a b) k r
def OutP (L:Rgn) (lo hi:Pt) (k:Int) (r:Rgn):Prop:=Made (VlR L∧Rect lo hi) (OutC L lo hi) k r
def SumP (L:Rgn) (p:List Pt) (k:Int) (r:Rgn):Prop:=(k=3∧r=[]∧(VlR L∧Vl p)∧∃ i,i < L.length∧Mk.SumIs (nth L i) p 3 [])∨Made (VlR L∧Vl p) (SumC L p L.length) k r
def HasP (L:Rgn) (x:Pt) (r:Bool) (k:Int):Prop:=(¬ (VlR L∧Plc x)∧r=false∧k=1)∨((VlR L∧Plc x)∧(r=true↔InR L x)∧k=0)
def WitP (L:Rgn) (p:List Pt) (r:Bool) (k:Int):Prop:=(¬ (VlR L∧Vl p)∧r=false∧k=1)∨((VlR L∧Vl p)∧(r=true↔∀ q,q ∈ L→Lies q p)∧k=0)
def BoxP (L:Rgn) (lo hi:Pt) (ok:Bool) (k:Int):Prop:=(¬ VlR L∧lo=(0,0)∧hi=(0,0)∧ok=false∧k=1)∨(VlR L∧L=[]∧lo=(0,0)∧hi=(0,0)∧ok=false∧k=0)∨(VlR L∧L ≠ []∧IsBox L.flatten lo hi∧ok=true∧k=0)
def BoxA (L:Rgn) (w:World) (e:Ending) (w':World):Prop:=∃ (lo hi:Pt) (ok:Bool) (k:Int),BoxP L lo hi ok k∧e=.returned (.tuple #[.agg #[.int .i64 lo.1,.int .i64 lo.2],.agg #[.int .i64 hi.1,.int .i64 hi.2],.bool ok,.int .i64 k])∧Grew w w'
theorem Made.one {B:Prop} {C:Rgn→Prop} (hC:∀ c c',C c→C c'→c=c') {k k':Int} {r r':Rgn} (h:Made B C k r) (h':Made B C k' r'):k=k'∧r=r':=by
 rcases h with ⟨hb,rfl,rfl⟩ | ⟨hb,rfl,c,hc,ht⟩ <;> rcases h' with ⟨hb',rfl,rfl⟩ | ⟨hb',rfl,c',hc',ht'⟩
 ·exact ⟨rfl,rfl⟩
 ·exact absurd hb' hb
 ·exact absurd hb hb'
 ·obtain rfl:=hC c c' hc hc'
  exact ⟨rfl,tidy_one ht ht'⟩
theorem TidP.one {L:Rgn} {k k':Int} {r r':Rgn} (h:TidP L k r) (h':TidP L k' r'):k=k'∧r=r':=Made.one (fun _ _ h h' => h.trans h'.symm) h h'
theorem JoiP.one {a b:Rgn} {k k':Int} {r r':Rgn} (h:JoiP a b k r) (h':JoiP a b k' r'):k=k'∧r=r':=Made.one (fun _ _ h h' => h.trans h'.symm) h h'
theorem CutP.one {L:Rgn} {x:Hf} {k k':Int} {r r':Rgn} (h:CutP L x k r) (h':CutP L x k' r'):k=k'∧r=r':=Made.one (fun _ _ h h' => h.one h') h h'
theorem MetP.one {a b:Rgn} {k k':Int} {r r':Rgn} (h:MetP a b k r) (h':MetP a b k' r'):k=k'∧r=r':=Made.one (fun _ _ h h' => h.one h') h h'
theorem OutP.one {L:Rgn} {lo hi:Pt} {k k':Int} {r r':Rgn} (h:OutP L lo hi k r) (h':OutP L lo hi k' r'):k=k'∧r=r':=Made.one (fun _ _ h h' => h.one h') h h'
theorem SumP.one {L:Rgn} {p:List Pt} {k k':Int} {r r':Rgn} (h:SumP L p k r) (h':SumP L p k' r'):k=k'∧r=r':=by
 have no:∀ {c:Rgn},SumC L p L.length c→(∃ i,i < L.length∧Mk.SumIs (nth L i) p 3 [])→False:=fun {c} hc ⟨i,hi,h3⟩ => by
  obtain ⟨_,⟨s,hs,_⟩,_⟩:=Col.has hc hi
  have:=(hs.one h3).1
  omega
 rcases h with ⟨rfl,rfl,hb,he⟩ | h <;> rcases h' with ⟨rfl,rfl,hb',he'⟩ | h'
 ·exact ⟨rfl,rfl⟩
 ·rcases h' with ⟨hn,_⟩ | ⟨_,_,c,hc,_⟩
  ·exact absurd hb hn
  ·exact (no hc he).elim
 ·rcases h with ⟨hn,_⟩ | ⟨_,_,c,hc,_⟩
  ·exact absurd hb' hn
  ·exact (no hc he').elim
 ·exact Made.one (fun _ _ h h' => h.one h') h h'
end Rg
end Go.Proofs.YtbpgfenippiepaaGreatDoor
namespace Go.Proofs.YtbpgfenippiepaaGreatDoor
open Go.RowKit Go.Shelf Go.Sort Hl
namespace Rg
theorem addQ_map {Q:Pcs} {M:Rgn} {p:List Pt} {u:Value} (hM:AllV M) (hp:Vl p) (h:Q.map Prod.fst=kept M):(addQ Q p u).map Prod.fst=kept (M ++ [p]):=by
 unfold addQ
 by_cases hi:Inn (Q.map Prod.fst) p
 ·rw [if_pos hi,h]
  exact (kept_in hM hp ((inn_kept hM hp).1 (by rw [← h];exact hi))).symm
 ·rw [if_neg hi,kept_out hM hp (fun k => hi (by rw [h];exact (inn_kept hM hp).2 k)),List.map_append,← h,List.filter_map]
  rfl
theorem sl_old {w:World} {u:Value} {p:List Pt} (h:Sl w u p) (h0:0 < p.length):∀ b,u.ownBlock=some b→b < w.heap.size:=by
 obtain ⟨rfl,_⟩ | ⟨b,o,c,rfl,hr⟩:=h
 ·cases h0
 ·intro k e
  have e3:some b=some k:=e
  injection e3 with e3
  rw [← e3]
  exact hr.1
theorem nth_take {L:Rgn} {k:Nat} (hk:k < L.length):L.take (k+1)=L.take k ++ [nth L k]:=by
 rw [List.take_add_one]
 unfold nth
 simp [List.getD,hk]
structure Piled (N A:Nat) (w0 w:World) (M:Rgn):Prop where
 is:∃ v Q,Pile N w v Q∧Blk w A #[v] 97∧Q.map Prod.fst=kept M
 lv:Hl.Leaves N A w0 w
 ok:A < N∧N≤w0.heap.size
theorem Piled.new (w0:World):Piled (w0.heap.size+1) w0.heap.size (w0.alloc (.cells #[.slice none 0 0] 97)) (w0.alloc (.cells #[.slice none 0 0] 97)) [] :=
 ⟨⟨_,[],Pile.nil _ _,Blk.new _ _ _,rfl⟩,Hl.Leaves.refl _ _ _,by omega,by simp⟩
theorem Piled.big {N A:Nat} {w0 w:World} {M:Rgn} (h:Piled N A w0 w M):N≤w.heap.size:=Nat.le_trans h.ok.2 h.lv.size
theorem Piled.grew {N A:Nat} {w0 w w':World} {M:Rgn} (h:Piled N A w0 w M) (g:Grew w w'):Piled N A w0 w' M:=by
 have hb:=h.big
 obtain ⟨v,Q,h1,h2,h3⟩:=h.is
 exact ⟨⟨v,Q,h1.grew g,h2.grown g,h3⟩,h.lv.grew g hb,h.ok⟩
def PiledSays (N A:Nat) (w0 w:World) (M:Rgn) (e:Ending) (w':World):Prop:=e=.returned (.tuple #[])∧Piled N A w0 w' M∧KeepsOthers w w'∧Hl.Leaves N A w w'
theorem padd_c (K:Hl.Code) (N A:Nat) (w0 w w2:World) (M:Rgn) (p:List Pt) (u:Value) (h:Piled N A w0 w M) (hg:Grew w w2) (hu:Sl w2 u p) (hp:Vl p) (hM:AllV M) (hl:M.length≤4000) (far:∀ k,u.ownBlock=some k→k < N∨w.heap.size≤k) :
  Calls Tryz.prog 66 #[.pointer (some ⟨A,0,none⟩),u] w2 (PiledSays N A w0 w2 (M ++ [p])):=by
 have hb:=h.big
 have hs:=hg.size
 obtain ⟨v,Q,h1,h2,h3⟩:=h.is
 have hQ:Q.length≤4000:=by
  have:=kept_len M
  rw [← h3,List.length_map] at this
  omega
 refine (radd_c K N A Q v p u w2 (h1.grew hg) (h2.grown hg) h.ok.1 (by omega) hu hp (fun g e e2 => ?_) hQ).mono ?_
 ·have k1:=h1.own.block g e
  have k2:=far g e2
  omega
 ·rintro e w' ⟨rfl,v',k1,k2,k3,k4⟩
  exact ⟨rfl,⟨⟨v',_,k1,k2,addQ_map hM hp h3⟩,(h.lv.grew hg hb).trans k3,h.ok⟩,k4,k3⟩
theorem ptidied_c (K:Hl.CodeN) (N A:Nat) (w0 w:World) (M:Rgn) (h:Piled N A w0 w M) (hM:AllV M) (hl:M.length≤4000) :
  Calls Tryz.prog 67 #[.pointer (some ⟨A,0,none⟩)] w fun e w' => ∃ r out,e=.returned r∧(Own w.heap.size w' r out∧VlR out)∧TidyIs M out∧Grew w w':=by
 obtain ⟨v,Q,h1,h2,h3⟩:=h.is
 have hQ:Q.length≤4000:=by
  have:=kept_len M
  rw [← h3,List.length_map] at this
  omega
 refine (tidied_c K N A Q v w h1 h2 hQ).mono ?_
 rintro e w' ⟨r,out,rfl,ho,ht,g⟩
 rw [h3] at ht
 have hv:VlR out:=tidy_vl hM ht
 exact ⟨r,out,rfl,⟨ho,hv⟩,ht,g⟩
theorem own_rl {B:Nat} {w:World} {v:Value} {L:Rgn} (h:Own B w v L∧VlR L):Rl w v L:=h.1.rl (h.2.2.bd (by have:=h.2.1;omega))
theorem rl_none (w:World) (a:Option Addr) (c:Nat):Rl w (.slice a 0 c) []:=Rl.nil w a c
set_option maxRecDepth 100000 in
set_option maxHeartbeats 4000000 in
theorem rtidy_c (K:Hl.CodeN) (L:Rgn) (v:Value) (w:World) (hs:Rl w v L):Calls Tryz.prog 32 #[v] w (AnsR (TidP L) w):=by
 have hb:=hs.2.1
 by_cases h4:L.length≤4000
 ·have PC:=Lib.hid (polys_c K.toCode L v w hs (by omega))
  have HS:=Lib.hid hs
  have H4:=Lib.hid h4
  obtain ⟨a,c,rfl⟩:=hs.shape
  have n4:¬ (L.length:Int) > 4000:=by omega
  clear hs h4
  go_enter Tryz.func32,Tryz.ntmps32
  go_wp2_with fail
  refine PC.out.mono ?_
  rintro e w1 ⟨r,rfl,hr,g1⟩
  cases r
  ·have F:=Lib.hid (no_of hr)
   clear hr
   go_wp2_with fail
   go_ret2
   exact ⟨_,_,_,Or.inl ⟨fun h => F.out h.2,rfl,rfl⟩,rfl,rl_none _ _ _,g1⟩
  ·have AV:=Lib.hid (hr.1 rfl)
   have G1:=Lib.hid g1
   have P0:=Lib.hid (Piled.new w1)
   have HA:Hid (w.heap.size≤w1.heap.size):=Lib.hid g1.size
   clear hr g1
   go_wp2_with fail
   go_loopw [6,17] (fun _ i wr => ∃ k:Nat,k≤L.length∧i=.int .i64 k∧Hid (Piled (w1.heap.size+1) w1.heap.size (w1.alloc (.cells #[.slice none 0 0] 97)) wr (L.take k))) (fun _ i _ => L.length - (intOf i).toNat)
   case atStart => exact ⟨0,Nat.zero_le _,rfl,Lib.hid (by rw [List.take_zero];exact P0.out)⟩
   case round =>
    obtain ⟨k,hk,rfl,HP⟩:=hrel
    have GW:Hid (Grew w wr):=Lib.hid (HP.out.lv.toGrew (G1.out.alloc _ _) (by have:=HA.out;omega) HA.out)
    by_cases hlt:k < L.length
    ·obtain ⟨b,o,ha,hrw⟩:=(HS.out.grown GW.out).row (by omega)
     subst ha
     obtain ⟨u,q0,q1⟩:=hrw.2 k hlt
     have i0:(0:Int)≤(k:Int):=by omega
     have i1:(k:Int) < (L.length:Int):=by omega
     have U0:Hid (∀ b,u.ownBlock=some b→b < w.heap.size):=Lib.hid (by
      obtain ⟨b',o',ha',hrw'⟩:=HS.out.row (by omega)
      cases ha'
      obtain ⟨u',e1,e2⟩:=hrw'.2 k hlt
      have e3:=(Grew.cell GW.out hrw'.1).trans e1
      rw [q0] at e3
      cases e3
      exact sl_old e2 (AV.out _ (nth_mem hlt)).1.1)
     have AC:Hid (Calls Tryz.prog 66 #[.pointer (some ⟨w1.heap.size,0,none⟩),u] wr (PiledSays (w1.heap.size+1) w1.heap.size (w1.alloc (.cells #[.slice none 0 0] 97)) wr (L.take (k+1)))):=Lib.hid (by
      rw [nth_take hlt]
      refine padd_c K.toCode _ _ _ wr wr _ (nth L k) u HP.out (Grew.refl _) q1 (AV.out _ (nth_mem hlt)) (fun p hp => AV.out p (List.mem_of_mem_take hp)) (by rw [List.length_take];have:=H4.out;omega) (fun b e => Or.inl ?_)
      have:=U0.out b e
      have:=HA.out
      omega)
     obtain ⟨ua,uc,rfl⟩:=q1.shape
     clear q1 hrw
     go_wp2_with fail
     refine AC.out.mono ?_
     rintro e w2 ⟨rfl,hp2,_,_⟩
     have P2:=Lib.hid hp2
     clear hp2
     go_wp2_with fail
     exact ⟨⟨k+1,by omega,by go_num,P2⟩,by simp [intOf];omega⟩
    ·obtain rfl:k=L.length:=by omega
     have TC:=Lib.hid (ptidied_c K _ _ _ wr L (by have h:=HP.out;rwa [List.take_length] at h) AV.out H4.out)
     go_wp2_with fail
     refine TC.out.mono ?_
     rintro e w2 ⟨r,out,rfl,hrl,ht,g2⟩
     have R2:=Lib.hid (own_rl hrl)
     have T2:=Lib.hid ht
     have G2:=Lib.hid (GW.out.trans g2)
     clear hrl ht g2
     go_wp2_with fail
     go_ret2
     exact ⟨_,_,_,Or.inr ⟨⟨H4.out,AV.out⟩,rfl,L,rfl,T2.out⟩,rfl,R2.out,G2.out⟩
 ·obtain ⟨a,c,rfl⟩:=hs.shape
  have H4:=Lib.hid h4
  have n4:(L.length:Int) > 4000:=by omega
  clear hs h4
  go_enter Tryz.func32,Tryz.ntmps32
  go_wp2_with fail
  go_ret2
  exact ⟨_,_,_,Or.inl ⟨fun h => H4.out h.1,rfl,rfl⟩,rfl,rl_none _ _ _,gw⟩
end Rg
end Go.Proofs.YtbpgfenippiepaaGreatDoor
namespace Go.Proofs.YtbpgfenippiepaaGreatDoor
open Go.RowKit Go.Shelf Hl
attribute [local go_sem] Oper.semAt_some
namespace Rg
open Ct (Hf)
def KeptX (N A:Nat) (W W':World):Prop:=W.heap.size≤W'.heap.size∧∀ k,k < N→k ≠ A→W'.heap[k]? = W.heap[k]?
theorem KeptX.refl (N A:Nat) (W:World):KeptX N A W W:=⟨Nat.le_refl _,fun _ _ _ => rfl⟩
theorem KeptX.trans {N A:Nat} {X Y Z:World} (h:KeptX N A X Y) (k:KeptX N A Y Z):KeptX N A X Z:=⟨Nat.le_trans h.1 k.1,fun i h1 h2 => (k.2 i h1 h2).trans (h.2 i h1 h2)⟩
theorem KeptX.cell {N A:Nat} {W W':World} (h:KeptX N A W W') {k o:Nat} (hk:k < N) (hA:k ≠ A):W'.cell? ⟨k,o,none⟩=W.cell? ⟨k,o,none⟩:=World.cell?_of_block (a:=⟨k,o,none⟩) (h.2 k hk hA)
theorem KeptX.by {N A:Nat} {X Y Z:World} {row:Option Nat} (h:KeptX N A X Y) (g:Y.grownBy Z row) (hN:N≤Y.heap.size) (hr:∀ k,row=some k→N≤k∨k=A):KeptX N A X Z :=
 ⟨Nat.le_trans h.1 g.size,fun k h1 h2 => (g.block k (by omega) (fun e => by rcases hr k e.symm with h | h <;> omega)).trans (h.2 k h1 h2)⟩
theorem KeptX.alloc {N A:Nat} {X Y:World} (h:KeptX N A X Y) (hN:N≤Y.heap.size) (o:Obj):KeptX N A X (Y.alloc o):=h.by (World.grownBy_alloc Y o none) hN (by simp)
theorem KeptX.put {N A:Nat} (W:World) (l:Nat) (o':Obj) (hl:N≤l):KeptX N A W (W.putObj l o') :=
 ⟨(grownBy_putObj' W l o').size,fun k hk _ => World.putObj_heap_other (by omega)⟩
theorem div_at {i k n:Nat} (h:k < n):(i * n+k) / n=i∧(i * n+k) % n=k:=by
 constructor
 ·rw [Nat.mul_comm,Nat.mul_add_div (by omega),Nat.div_eq_of_lt h,Nat.add_zero]
 ·rw [Nat.mul_comm,Nat.mul_add_mod,Nat.mod_eq_of_lt h]
def prH (U:Nat→Value) (X:Nat→Hf) (n2 tot m:Nat):Array Value:=#[U ((m % tot) / n2),(.agg #[.int .i64 (X (m % n2)).1,.int .i64 (X (m % n2)).2.1,.int .i64 (X (m % n2)).2.2])]
structure LstH (N A:Nat) (a1 a2:Option Addr) (n1 n2:Nat) (U:Nat→Value) (X:Nat→Hf) (w:World):Prop where
 rr:∀ i,i < n1→∃ b o,a1=some ⟨b,o,none⟩∧(b < N∧b ≠ A)∧w.cell? ⟨b,o+i,none⟩=some (U i)
 rl:∀ k,k < n2→∃ b o,a2=some ⟨b,o,none⟩∧(b < N∧b ≠ A)∧w.cell? ⟨b,o+k * 3,none⟩=some (.int .i64 (X k).1)∧w.cell? ⟨b,o+k * 3+1,none⟩=some (.int .i64 (X k).2.1)∧w.cell? ⟨b,o+k * 3+2,none⟩=some (.int .i64 (X k).2.2)
set_option maxHeartbeats 1000000 in
theorem pairsH_in (n:Nat) (a1 a2:Option Addr) (n1 n2 c1 c2:Nat) (w:World) :
  CallsIn Fence.wide n Tryz.prog 161 #[.slice a1 n1 c1,.slice a2 n2 c2] w fun e w' => e=.returned (.func (.func 194) #[] #[.pointer (some ⟨w.heap.size,0,none⟩),.pointer (some ⟨w.heap.size+1,0,none⟩)])∧w'=(w.alloc (.cells #[.slice a1 n1 c1] 22)).alloc (.cells #[.slice a2 n2 c2] 148):=by
 refine callsIn_of_wp Tryz.func161 rfl trivial ?_ rfl
 simp only [Tryz.ntmps161,List.size_toArray,List.length_cons,List.length_nil,Nat.reduceAdd,Nat.reduceSub,Array.replicate_succ,Array.replicate_zero,List.push_toArray,List.append_toArray,List.nil_append,List.cons_append]
 gi_wp2
 go_ret
 exact ⟨rfl,rfl⟩
set_option maxRecDepth 100000 in
set_option maxHeartbeats 8000000 in
theorem pairsH1_in (n:Nat) (hn:1≤n) (l Br Bl N A:Nat) (a1 a2:Option Addr) (n1 n2 c1 c2:Nat) (U:Nat→Value) (hU:∀ i,IsHd (U i)) (X:Nat→Hf) (h1:n1≤4000) (h2:n2≤4000) (J Jx:List Nat→World→Prop)
  (W:World) (hJ:AbidesFrom W.heap.size J)
  (hY:∀ pre m W1,J pre W1→pre.length < n1 * n2→YieldAt Fence.wide (n - 1) Tryz.prog l (prH U X n2 (n1 * n2) m) W1 fun e W' =>
   (e=.returned (.bool true)∧J (pre ++ [m]) W'∧KeptX N A W1 W')∨(e=.returned (.bool false)∧Jx (pre ++ [m]) W'))
  (hN:N≤W.heap.size) (hBr:Br < N∧Br ≠ A) (hBl:Bl < N∧Bl ≠ A) (cr:W.cell? ⟨Br,0,none⟩=some (.slice a1 n1 c1)) (cl:W.cell? ⟨Bl,0,none⟩=some (.slice a2 n2 c2)) (hL:LstH N A a1 a2 n1 n2 U X W) (h0:J [] W) :
  CallsIn Fence.wide n Tryz.prog 194 #[.func (.yield l) #[] #[],.pointer (some ⟨Br,0,none⟩),.pointer (some ⟨Bl,0,none⟩)] W fun e W' => (∃ v,e=.returned v) ∧
   ((∃ ys,ys=List.range (n1 * n2)∧J ys W')∨(∃ pre,(∃ k,k≤n1 * n2∧pre=List.range k)∧Jx pre W')):=by
 have HY:=Lib.hid hY
 have HJ:=Lib.hid hJ
 have HL:=Lib.hid hL
 have CR:=Lib.hid cr
 have CL:=Lib.hid cl
 have HU:=Lib.hid hU
 clear hY hJ hL
 refine callsIn_of_wp Tryz.func194 rfl trivial ?_ rfl
 simp only [Tryz.ntmps194,List.size_toArray,List.length_cons,List.length_nil,Nat.reduceAdd,Nat.reduceSub,Array.replicate_succ,Array.replicate_zero,List.push_toArray,List.append_toArray,List.nil_append,List.cons_append]
 gi_wp2
 gi_loopw [10] (fun i wr => ∃ k:Nat,k≤n1∧i=.int .i64 k∧Hid (J (List.range (k * n2)) wr∧KeptX N A W wr)) (fun i _ => n1 - (intOf i).toNat)
 case atStart => exact ⟨0,Nat.zero_le _,rfl,Lib.hid ⟨by rw [Nat.zero_mul];exact h0,KeptX.refl _ _ _⟩⟩
 case round =>
  clear cr cl
  obtain ⟨i,hi,rfl,HI⟩:=hrel
  by_cases hlt:i < n1
  ·obtain ⟨b,o,ha,hb,hc⟩:=HL.out.rr i hlt
   subst ha
   have c0:=(HI.out.2.cell (o:=o+i) hb.1 hb.2).trans hc
   have cr:=(HI.out.2.cell (o:=0) hBr.1 hBr.2).trans CR.out
   have cl:=(HI.out.2.cell (o:=0) hBl.1 hBl.2).trans CL.out
   have i0:(0:Int)≤(i:Int):=by omega
   have i1:(i:Int) < (n1:Int):=by omega
   obtain ⟨ua,un,uc,hu⟩:=HU.out i
   rw [hu] at c0
   have UE:=Lib.hid hu
   gi_wp2
   gi_loopw [16] (fun s wz => ∃ k:Nat,k≤n2∧s=.int .i64 k∧Hid (J (List.range (i * n2+k)) wz∧KeptX N A W wz)) (fun s _ => n2 - (intOf s).toNat)
   case atStart => exact ⟨0,Nat.zero_le _,rfl,HI⟩
   case round =>
    clear c0 cr cl hc HI
    obtain ⟨k,hk,rfl,HK⟩:=hrel
    by_cases hlk:k < n2
    ·obtain ⟨b2,o2,ha2,hb2,hc2⟩:=HL.out.rl k hlk
     subst ha2
     have hm:=div_at (i:=i) hlk
     have hle:i * n2+k < n1 * n2:=by
      have:=Nat.mul_le_mul_right n2 (show i+1≤n1 by omega)
      rw [Nat.add_mul,Nat.one_mul] at this
      omega
     have z0:=HK.out.2.1
     have j0:(0:Int)≤(k:Int):=by omega
     have j1:(k:Int) < (n2:Int):=by omega
     obtain ⟨x0,x1,x2⟩:=hc2
     have x0:=(HK.out.2.cell (o:=o2+k * 3) hb2.1 hb2.2).trans x0
     have x1:=(HK.out.2.cell (o:=o2+k * 3+1) hb2.1 hb2.2).trans x1
     have x2:=(HK.out.2.cell (o:=o2+k * 3+2) hb2.1 hb2.2).trans x2
     have KW:Hid (KeptX N A W (wr.alloc (.cells #[.int .i64 (X k).1,.int .i64 (X k).2.1,.int .i64 (X k).2.2] 78))):=Lib.hid (HK.out.2.alloc (by omega) _)
     have hJ1:J (List.range (i * n2+k)) (wr.alloc (.cells #[.int .i64 (X k).1,.int .i64 (X k).2.1,.int .i64 (X k).2.2] 78)):=abides_alloc HJ.out HK.out.1 _
     obtain ⟨fn,tmps,assign,body,hy,hR⟩:=HY.out _ (i * n2+k) _ hJ1 (by simpa using hle)
     have hR':=hR.mono (R':=fun e W' => ∃ r:Bool,e=.returned (.bool r)∧Hid ((r=true→J (List.range (i * n2+(k+1))) W'∧KeptX N A W W')∧(r=false→Jx (List.range (i * n2+(k+1))) W'))) (by
      rintro e W' (⟨rfl,h1,h2⟩ | ⟨rfl,h1⟩)
      ·exact ⟨true,rfl,Lib.hid ⟨fun _ => ⟨by rw [← Nat.add_assoc,List.range_succ];exact h1,KW.out.trans h2⟩,fun h => by cases h⟩⟩
      ·exact ⟨false,rfl,Lib.hid ⟨fun h => (by cases h),fun _ => (by rw [← Nat.add_assoc,List.range_succ];exact h1)⟩⟩)
     clear hR hJ1 HK KW
     unfold prH at hy
     rw [Nat.mod_eq_of_lt hle,hm.1,hm.2,UE.out] at hy
     gi_wp2_with fail
     refine hR'.mono ?_
     rintro e W3 ⟨r,rfl,hjr⟩
     cases r
     ·have F:=Lib.hid (hjr.out.2 (by first | rfl | trivial))
      clear hjr
      gi_wp2_with fail
      refine bodyPost_ret (results_none rfl _ _ _) rfl ?_
      exact ⟨⟨_,rfl⟩,.inr ⟨_,⟨i * n2+(k+1),by omega,rfl⟩,F.out⟩⟩
     ·have F:=Lib.hid (hjr.out.1 (by first | rfl | trivial))
      clear hjr
      gi_wp2_with fail
      go_roundw
      case rel => exact ⟨k+1,by omega,by go_num,F⟩
      case measure => simp [intOf];omega
    ·obtain rfl:k=n2:=by omega
     gi_wp2
     go_roundw
     case rel => exact ⟨i+1,by omega,by go_num,Lib.hid ⟨by rw [Nat.add_mul,Nat.one_mul];exact HK.out.1,HK.out.2⟩⟩
     case measure => simp [intOf];omega
  ·obtain rfl:i=n1:=by omega
   gi_wp2
   go_end0
   exact ⟨⟨_,rfl⟩,.inl ⟨_,rfl,HI.out.1⟩⟩
theorem LstH.below {N A:Nat} {a1 a2:Option Addr} {n1 n2:Nat} {U:Nat→Value} {X:Nat→Hf} {w W:World} (h:LstH N A a1 a2 n1 n2 U X w) (k:Below w.heap.size w W) (hN:N≤w.heap.size):LstH N A a1 a2 n1 n2 U X W :=
 ⟨fun i hi => by
  obtain ⟨b,o,e,hb,hc⟩:=h.rr i hi
  exact ⟨b,o,e,hb,(Grew.cell k (by omega)).trans hc⟩,fun i hi => by
  obtain ⟨b,o,e,hb,hc⟩:=h.rl i hi
  exact ⟨b,o,e,hb,(Grew.cell k (by omega)).trans hc.1,(Grew.cell k (by omega)).trans hc.2.1,(Grew.cell k (by omega)).trans hc.2.2⟩⟩
theorem pairsH_stops (n:Nat) (hn:1≤n) (Br Bl N A:Nat) (a1 a2:Option Addr) (n1 n2 c1 c2:Nat) (U:Nat→Value) (hU:∀ i,IsHd (U i)) (X:Nat→Hf) (h1:n1≤4000) (h2:n2≤4000) (w:World) (hN:N≤w.heap.size) (hBr:Br < N∧Br ≠ A) (hBl:Bl < N∧Bl ≠ A)
  (cr:w.cell? ⟨Br,0,none⟩=some (.slice a1 n1 c1)) (cl:w.cell? ⟨Bl,0,none⟩=some (.slice a2 n2 c2)) (hL:LstH N A a1 a2 n1 n2 U X w) :
  SeqStopsK Fence.wide n Tryz.prog 194 #[.pointer (some ⟨Br,0,none⟩),.pointer (some ⟨Bl,0,none⟩)] (prH U X n2 (n1 * n2)) (KeptX N A) (fun ys => ys=List.range (n1 * n2)) (fun pre => ∃ k,k≤n1 * n2∧pre=List.range k) (n1 * n2) w :=
 fun l J Jx W hW hJ _hJx hY h0 => pairsH1_in n hn l Br Bl N A a1 a2 n1 n2 c1 c2 U hU X h1 h2 J Jx W hJ hY (Nat.le_trans hN hW.size) hBr hBl ((Grew.cell hW (by omega)).trans cr) ((Grew.cell hW (by omega)).trans cl) (hL.below hW hN) h0
def prP (U:Nat→Value) (X:Nat→Value) (n2 tot m:Nat):Array Value:=#[U ((m % tot) / n2),(X (m % n2))]
structure LstP (N A:Nat) (a1 a2:Option Addr) (n1 n2:Nat) (U:Nat→Value) (X:Nat→Value) (w:World):Prop where
 rr:∀ i,i < n1→∃ b o,a1=some ⟨b,o,none⟩∧(b < N∧b ≠ A)∧w.cell? ⟨b,o+i,none⟩=some (U i)
 rl:∀ k,k < n2→∃ b o,a2=some ⟨b,o,none⟩∧(b < N∧b ≠ A)∧w.cell? ⟨b,o+k,none⟩=some (X k)
set_option maxHeartbeats 1000000 in
theorem pairsP_in (n:Nat) (a1 a2:Option Addr) (n1 n2 c1 c2:Nat) (w:World) :
  CallsIn Fence.wide n Tryz.prog 96 #[.slice a1 n1 c1,.slice a2 n2 c2] w fun e w' => e=.returned (.func (.func 132) #[] #[.pointer (some ⟨w.heap.size,0,none⟩),.pointer (some ⟨w.heap.size+1,0,none⟩)])∧w'=(w.alloc (.cells #[.slice a1 n1 c1] 22)).alloc (.cells #[.slice a2 n2 c2] 22):=by
 refine callsIn_of_wp Tryz.func96 rfl trivial ?_ rfl
 simp only [Tryz.ntmps96,List.size_toArray,List.length_cons,List.length_nil,Nat.reduceAdd,Nat.reduceSub,Array.replicate_succ,Array.replicate_zero,List.push_toArray,List.append_toArray,List.nil_append,List.cons_append]
 gi_wp2
 go_ret
 exact ⟨rfl,rfl⟩
set_option maxRecDepth 100000 in
set_option maxHeartbeats 8000000 in
theorem pairsP1_in (n:Nat) (hn:1≤n) (l Br Bl N A:Nat) (a1 a2:Option Addr) (n1 n2 c1 c2:Nat) (U:Nat→Value) (hU:∀ i,IsHd (U i)) (X:Nat→Value) (h1:n1≤4000) (h2:n2≤4000) (J Jx:List Nat→World→Prop)
  (W:World) (hJ:AbidesFrom W.heap.size J)
  (hY:∀ pre m W1,J pre W1→pre.length < n1 * n2→YieldAt Fence.wide (n - 1) Tryz.prog l (prP U X n2 (n1 * n2) m) W1 fun e W' =>
   (e=.returned (.bool true)∧J (pre ++ [m]) W'∧KeptX N A W1 W')∨(e=.returned (.bool false)∧Jx (pre ++ [m]) W'))
  (_hN:N≤W.heap.size) (hBr:Br < N∧Br ≠ A) (hBl:Bl < N∧Bl ≠ A) (cr:W.cell? ⟨Br,0,none⟩=some (.slice a1 n1 c1)) (cl:W.cell? ⟨Bl,0,none⟩=some (.slice a2 n2 c2)) (hL:LstP N A a1 a2 n1 n2 U X W) (h0:J [] W) :
  CallsIn Fence.wide n Tryz.prog 132 #[.func (.yield l) #[] #[],.pointer (some ⟨Br,0,none⟩),.pointer (some ⟨Bl,0,none⟩)] W fun e W' => (∃ v,e=.returned v) ∧
   ((∃ ys,ys=List.range (n1 * n2)∧J ys W')∨(∃ pre,(∃ k,k≤n1 * n2∧pre=List.range k)∧Jx pre W')):=by
 have HY:=Lib.hid hY
 have HJ:=Lib.hid hJ
 have HL:=Lib.hid hL
 have CR:=Lib.hid cr
 have CL:=Lib.hid cl
 have HU:=Lib.hid hU
 clear hY hJ hL
 refine callsIn_of_wp Tryz.func132 rfl trivial ?_ rfl
 simp only [Tryz.ntmps132,List.size_toArray,List.length_cons,List.length_nil,Nat.reduceAdd,Nat.reduceSub,Array.replicate_succ,Array.replicate_zero,List.push_toArray,List.append_toArray,List.nil_append,List.cons_append]
 gi_wp2
 gi_loopw [10] (fun i wr => ∃ k:Nat,k≤n1∧i=.int .i64 k∧Hid (J (List.range (k * n2)) wr∧KeptX N A W wr)) (fun i _ => n1 - (intOf i).toNat)
 case atStart => exact ⟨0,Nat.zero_le _,rfl,Lib.hid ⟨by rw [Nat.zero_mul];exact h0,KeptX.refl _ _ _⟩⟩
 case round =>
  clear cr cl
  obtain ⟨i,hi,rfl,HI⟩:=hrel
  by_cases hlt:i < n1
  ·obtain ⟨b,o,ha,hb,hc⟩:=HL.out.rr i hlt
   subst ha
   have c0:=(HI.out.2.cell (o:=o+i) hb.1 hb.2).trans hc
   have cr:=(HI.out.2.cell (o:=0) hBr.1 hBr.2).trans CR.out
   have cl:=(HI.out.2.cell (o:=0) hBl.1 hBl.2).trans CL.out
   have i0:(0:Int)≤(i:Int):=by omega
   have i1:(i:Int) < (n1:Int):=by omega
   obtain ⟨ua,un,uc,hu⟩:=HU.out i
   rw [hu] at c0
   have UE:=Lib.hid hu
   gi_wp2
   gi_loopw [16] (fun s wz => ∃ k:Nat,k≤n2∧s=.int .i64 k∧Hid (J (List.range (i * n2+k)) wz∧KeptX N A W wz)) (fun s _ => n2 - (intOf s).toNat)
   case atStart => exact ⟨0,Nat.zero_le _,rfl,HI⟩
   case round =>
    clear c0 cr cl hc HI
    obtain ⟨k,hk,rfl,HK⟩:=hrel
    by_cases hlk:k < n2
    ·obtain ⟨b2,o2,ha2,hb2,hc2⟩:=HL.out.rl k hlk
     subst ha2
     have hm:=div_at (i:=i) hlk
     have hle:i * n2+k < n1 * n2:=by
      have:=Nat.mul_le_mul_right n2 (show i+1≤n1 by omega)
      rw [Nat.add_mul,Nat.one_mul] at this
      omega
     have z0:=HK.out.2.1
     have j0:(0:Int)≤(k:Int):=by omega
     have j1:(k:Int) < (n2:Int):=by omega
     have x0:=(HK.out.2.cell (o:=o2+k) hb2.1 hb2.2).trans hc2
     have KW:=Lib.hid HK.out.2
     have hJ1:=HK.out.1
     obtain ⟨fn,tmps,assign,body,hy,hR⟩:=HY.out _ (i * n2+k) _ hJ1 (by simpa using hle)
     have hR':=hR.mono (R':=fun e W' => ∃ r:Bool,e=.returned (.bool r)∧Hid ((r=true→J (List.range (i * n2+(k+1))) W'∧KeptX N A W W')∧(r=false→Jx (List.range (i * n2+(k+1))) W'))) (by
      rintro e W' (⟨rfl,h1,h2⟩ | ⟨rfl,h1⟩)
      ·exact ⟨true,rfl,Lib.hid ⟨fun _ => ⟨by rw [← Nat.add_assoc,List.range_succ];exact h1,KW.out.trans h2⟩,fun h => by cases h⟩⟩
      ·exact ⟨false,rfl,Lib.hid ⟨fun h => (by cases h),fun _ => (by rw [← Nat.add_assoc,List.range_succ];exact h1)⟩⟩)
     clear hR hJ1 HK KW
     unfold prP at hy
     rw [Nat.mod_eq_of_lt hle,hm.1,hm.2,UE.out] at hy
     gi_wp2_with fail
     refine hR'.mono ?_
     rintro e W3 ⟨r,rfl,hjr⟩
     cases r
     ·have F:=Lib.hid (hjr.out.2 (by first | rfl | trivial))
      clear hjr
      gi_wp2_with fail
      refine bodyPost_ret (results_none rfl _ _ _) rfl ?_
      exact ⟨⟨_,rfl⟩,.inr ⟨_,⟨i * n2+(k+1),by omega,rfl⟩,F.out⟩⟩
     ·have F:=Lib.hid (hjr.out.1 (by first | rfl | trivial))
      clear hjr
      gi_wp2_with fail
      go_roundw
      case rel => exact ⟨k+1,by omega,by go_num,F⟩
      case measure => simp [intOf];omega
    ·obtain rfl:k=n2:=by omega
     gi_wp2
     go_roundw
     case rel => exact ⟨i+1,by omega,by go_num,Lib.hid ⟨by rw [Nat.add_mul,Nat.one_mul];exact HK.out.1,HK.out.2⟩⟩
     case measure => simp [intOf];omega
  ·obtain rfl:i=n1:=by omega
   gi_wp2
   go_end0
   exact ⟨⟨_,rfl⟩,.inl ⟨_,rfl,HI.out.1⟩⟩
theorem LstP.below {N A:Nat} {a1 a2:Option Addr} {n1 n2:Nat} {U:Nat→Value} {X:Nat→Value} {w W:World} (h:LstP N A a1 a2 n1 n2 U X w) (k:Below w.heap.size w W) (hN:N≤w.heap.size):LstP N A a1 a2 n1 n2 U X W :=
 ⟨fun i hi => by
  obtain ⟨b,o,e,hb,hc⟩:=h.rr i hi
  exact ⟨b,o,e,hb,(Grew.cell k (by omega)).trans hc⟩,fun i hi => by
  obtain ⟨b,o,e,hb,hc⟩:=h.rl i hi
  exact ⟨b,o,e,hb,(Grew.cell k (by omega)).trans hc⟩⟩
theorem pairsP_stops (n:Nat) (hn:1≤n) (Br Bl N A:Nat) (a1 a2:Option Addr) (n1 n2 c1 c2:Nat) (U:Nat→Value) (hU:∀ i,IsHd (U i)) (X:Nat→Value) (h1:n1≤4000) (h2:n2≤4000) (w:World) (hN:N≤w.heap.size) (hBr:Br < N∧Br ≠ A) (hBl:Bl < N∧Bl ≠ A)
  (cr:w.cell? ⟨Br,0,none⟩=some (.slice a1 n1 c1)) (cl:w.cell? ⟨Bl,0,none⟩=some (.slice a2 n2 c2)) (hL:LstP N A a1 a2 n1 n2 U X w) :
  SeqStopsK Fence.wide n Tryz.prog 132 #[.pointer (some ⟨Br,0,none⟩),.pointer (some ⟨Bl,0,none⟩)] (prP U X n2 (n1 * n2)) (KeptX N A) (fun ys => ys=List.range (n1 * n2)) (fun pre => ∃ k,k≤n1 * n2∧pre=List.range k) (n1 * n2) w :=
 fun l J Jx W hW hJ _hJx hY h0 => pairsP1_in n hn l Br Bl N A a1 a2 n1 n2 c1 c2 U hU X h1 h2 J Jx W hJ hY (Nat.le_trans hN hW.size) hBr hBl ((Grew.cell hW (by omega)).trans cr) ((Grew.cell hW (by omega)).trans cl) (hL.below hW hN) h0
structure LstS (N A:Nat) (a1 a2:Option Addr) (n1 n2:Nat) (U:Nat→Value) (X:Nat→Value) (w:World):Prop where
 rr:∀ i,i < n1→∃ b o,a1=some ⟨b,o,none⟩∧(b < N∧b ≠ A)∧w.cell? ⟨b,o+i,none⟩=some (U i)
 rl:∀ k,k < n2→∃ b o,a2=some ⟨b,o,none⟩∧(b < N∧b ≠ A)∧w.cell? ⟨b,o+k,none⟩=some (X k)
theorem LstS.below {N A:Nat} {a1 a2:Option Addr} {n1 n2:Nat} {U:Nat→Value} {X:Nat→Value} {w W:World} (h:LstS N A a1 a2 n1 n2 U X w) (k:Below w.heap.size w W) (hN:N≤w.heap.size):LstS N A a1 a2 n1 n2 U X W :=
 ⟨fun i hi => by
  obtain ⟨b,o,e,hb,hc⟩:=h.rr i hi
  exact ⟨b,o,e,hb,(Grew.cell k (by omega)).trans hc⟩,fun i hi => by
  obtain ⟨b,o,e,hb,hc⟩:=h.rl i hi
  exact ⟨b,o,e,hb,(Grew.cell k (by omega)).trans hc⟩⟩
end Rg
end Go.Proofs.YtbpgfenippiepaaGreatDoor
namespace Go.Proofs.YtbpgfenippiepaaGreatDoor
open Go.RowKit Go.Shelf Hl
namespace Rg
theorem rl_fun {w:World} {v:Value} {L:Rgn} (h:Rl w v L):∃ (a:Option Addr) (c:Nat) (U:Nat→Value),v=.slice a L.length c∧(∀ i,IsHd (U i))∧(∀ i,i < L.length→Sl w (U i) (nth L i))∧∀ i,i < L.length→∃ b o,a=some ⟨b,o,none⟩∧(b < w.heap.size∧b ≠ w.heap.size)∧w.cell? ⟨b,o+i,none⟩=some (U i):=by
 obtain ⟨⟨rfl,a,c,rfl⟩ | ⟨b,o,c,rfl,hb,hr⟩,_⟩:=h
 ·exact ⟨a,c,fun _ => .slice none 0 0,rfl,fun _ => ⟨_,_,_,rfl⟩,fun i hi => (by cases hi),fun i hi => (by cases hi)⟩
 ·obtain ⟨F,hF⟩:=Go.Deep.choose_lt (α:=Value) (n:=L.length) (p:=fun i u => w.cell? ⟨b,o+i,none⟩=some u∧Sl w u (nth L i)) hr
  refine ⟨_,c,fun i => if i < L.length then F i else .slice none 0 0,rfl,fun i => ?_,fun i hi => ?_,fun i hi => ⟨b,o,rfl,⟨hb,by omega⟩,?_⟩⟩
  ·by_cases hi:i < L.length
   ·simp only [if_pos hi]
    obtain ⟨a,c,e⟩:=(hF i hi).2.shape
    exact ⟨_,_,_,e⟩
   ·simp only [if_neg hi]
    exact ⟨_,_,_,rfl⟩
  ·simp only [if_pos hi]
   exact (hF i hi).2
  ·simp only [if_pos hi]
   exact (hF i hi).1
theorem blk_two {W:World} {B:Nat} {x y:Value} {t:TypeId} (h:Blk W B #[x,y] t):W.cell? ⟨B,0,none⟩=some x∧W.cell? ⟨B,1,none⟩=some y:=by simp [World.cell?,show W.heap[B]? = _ from h]
end Rg
end Go.Proofs.YtbpgfenippiepaaGreatDoor
