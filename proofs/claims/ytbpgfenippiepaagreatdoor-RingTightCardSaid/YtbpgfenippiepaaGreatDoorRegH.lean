/-
  The landed package region: copies of polygons; the eight-sided hull of pieces; tidied.
  The landed package region: tidied.
-/
import Derived.Test.YtbpgfenippiepaaGreatDoorRegG
import Derived.Test.YtbpgfenippiepaaGreatDoorCutCk
import Derived.Test.YtbpgfenippiepaaGreatDoorHullWrap
namespace Go.Proofs.YtbpgfenippiepaaGreatDoor
open Go.RowKit Go.Shelf Go.Sort Hl
namespace Rg
theorem sl_shape {w:World} {v:Value} {p:List Pt} (h:Sl w v p):∃ a n c,v=.slice a n c:=by
 obtain ⟨a,c,e⟩:=h.shape
 exact ⟨_,_,_,e⟩
structure PRd (w:World) (v:Value) (Q:Pcs):Prop where
 rd:(Q=[]∧∃ a c,v=.slice a 0 c)∨∃ g o c,v=.slice (some ⟨g,o,none⟩) Q.length c∧g < w.heap.size∧∀ i j,i < Q.length→j < 9→w.cell? ⟨g,o+i * 9+j,none⟩=(pcL (ith Q i))[j]?
 sl:∀ x,x ∈ Q→Sl w x.2 x.1
 vl:∀ x,x ∈ Q→Vl x.1
theorem PRd.grown {w w':World} {v:Value} {Q:Pcs} (h:PRd w v Q) (g:Grew w w'):PRd w' v Q:=by
 refine ⟨?_,fun x hx => (h.sl x hx).grown g,h.vl⟩
 rcases h.rd with h | ⟨b,o,c,e,hb,hc⟩
 ·exact Or.inl h
 ·exact Or.inr ⟨b,o,c,e,Nat.lt_of_lt_of_le hb g.size,fun i j hi hj => (Grew.cell g hb).trans (hc i j hi hj)⟩
theorem PRd.nine {w:World} {Q:Pcs} {b o c n:Nat} (h:PRd w (.slice (some ⟨b,o,none⟩) n c) Q) {k:Nat} (hk:k < Q.length):b < w.heap.size∧∃ (v0 v1 v2 v3 v4 v5 v6 v7:Int) (v8:Option Addr) (v9 v10:Nat),(ith Q k).2=.slice v8 v9 v10∧w.cell? ⟨b,o+k * 9,none⟩=some (.int .i64 v0)∧w.cell? ⟨b,o+k * 9+1,none⟩=some (.int .i64 v1)∧w.cell? ⟨b,o+k * 9+2,none⟩=some (.int .i64 v2)∧w.cell? ⟨b,o+k * 9+3,none⟩=some (.int .i64 v3)∧w.cell? ⟨b,o+k * 9+4,none⟩=some (.int .i64 v4)∧w.cell? ⟨b,o+k * 9+5,none⟩=some (.int .i64 v5)∧w.cell? ⟨b,o+k * 9+6,none⟩=some (.int .i64 v6)∧w.cell? ⟨b,o+k * 9+7,none⟩=some (.int .i64 v7)∧w.cell? ⟨b,o+k * 9+8,none⟩=some (.slice v8 v9 v10):=by
 rcases h.rd with ⟨rfl,_⟩ | ⟨g,o',c',e,hb,hc⟩
 ·cases hk
 ·cases e
  obtain ⟨a,n,c,e⟩:=sl_shape (h.sl _ (ith_mem hk))
  have k:=fun j hj => hc k j hk hj
  unfold pcL at k
  rw [e] at k ⊢
  exact ⟨hb,_,_,_,_,_,_,_,_,_,_,_,rfl,k 0 (by omega),k 1 (by omega),k 2 (by omega),k 3 (by omega),k 4 (by omega),k 5 (by omega),k 6 (by omega),k 7 (by omega),k 8 (by omega)⟩
theorem PRd.shape {w:World} {v:Value} {Q:Pcs} (h:PRd w v Q):(Q=[]∧∃ a c,v=.slice a 0 c)∨∃ b o c,v=.slice (some ⟨b,o,none⟩) Q.length c:=by
 rcases h.rd with h | ⟨g,o,c,e,_⟩
 ·exact Or.inl h
 ·exact Or.inr ⟨g,o,c,e⟩
theorem Pile.part {B:Nat} {w:World} {g cap:Nat} {Q:Pcs} (h:Pile B w (.slice (some ⟨g,0,none⟩) Q.length cap) Q) (i k c:Nat) (hk:k≤Q.length):PRd w (.slice (some ⟨g,i * 9,none⟩) (k - i) c) ((Q.take k).drop i):=by
 have ha:=ownp_at.2 h.own
 refine ⟨Or.inr ⟨g,i * 9,c,by rw [List.length_drop,List.length_take,Nat.min_eq_left hk],ha.lt,fun m j hm hj => ?_⟩,fun x hx => h.sl x (List.mem_of_mem_take (List.mem_of_mem_drop hx)),fun x hx => h.vl x (List.mem_of_mem_take (List.mem_of_mem_drop hx))⟩
 rw [List.length_drop,List.length_take,Nat.min_eq_left hk] at hm
 have e:ith ((Q.take k).drop i) m=ith Q (i+m):=by
  unfold ith
  simp [List.getD,List.getElem?_drop,show i+m < k by omega]
 rw [e,← ha.cell (show i+m < Q.length by omega) hj]
 congr 2
 omega
theorem fst_take (Q:Pcs) {k:Nat} (hk:k < Q.length):(Q.map Prod.fst).take (k+1)=(Q.map Prod.fst).take k ++ [(ith Q k).1]:=by
 rw [List.take_add_one]
 unfold ith
 simp [List.getD,hk]
theorem fst_len (Q:Pcs) (k:Nat):((Q.map Prod.fst).take k).length≤k:=by rw [List.length_take];omega
theorem clone_sl (l:List Pt) (v:Value) (w:World) (hs:Sl w v l) (h1:1≤l.length) (hl:l.length≤4000000):Calls Tryz.prog 104 #[v] w fun e w' => ∃ v,e=.returned v∧Hl.Own w.heap.size w' v l∧Grew w w':=by
 obtain ⟨b,o,c,rfl,hr⟩:=hs.row (fun e => by rw [e] at h1;cases h1)
 exact clone_c l b o c w hr hl
def CopySays (L:Rgn) (w:World) (e:Ending) (w':World):Prop:=∃ r,e=.returned r∧Own w.heap.size w' r L∧Grew w w'
set_option maxRecDepth 100000 in
set_option maxHeartbeats 4000000 in
theorem copied_c (Q:Pcs) (v:Value) (w:World) (hr:PRd w v Q) (hl:Q.length≤4000):Calls Tryz.prog 110 #[v] w (CopySays (Q.map Prod.fst) w):=by
 have HR:=Lib.hid hr
 rcases hr.shape with ⟨rfl,a,c,rfl⟩ | ⟨b,o,c,rfl⟩
 ·clear hr HR
  go_enter Tryz.func110,Tryz.ntmps110
  go_wp2_with fail
  go_loopw [3,8] (fun r i wr => r=.slice none 0 0∧i=.int .i64 0∧w=wr) (fun _ _ _ => 0)
  case atStart => exact ⟨rfl,rfl,rfl⟩
  case round =>
   obtain ⟨rfl,rfl,rfl⟩:=hrel
   go_wp2_with fail
   go_ret
   exact ⟨_,rfl,Own.nil _ _,Grew.refl _⟩
 ·clear hr
  go_enter Tryz.func110,Tryz.ntmps110
  go_wp2_with fail
  go_loopw [3,8] (fun r i wr => ∃ k:Nat,k≤Q.length∧i=.int .i64 k∧Grew w wr∧Hid (Own w.heap.size wr r ((Q.map Prod.fst).take k))) (fun _ i _ => Q.length - (intOf i).toNat)
  case atStart => exact ⟨0,Nat.zero_le _,rfl,Grew.refl _,Lib.hid (by rw [List.take_zero];exact Own.nil _ _)⟩
  case round =>
   obtain ⟨k,hk,rfl,G,HO⟩:=hrel
   by_cases hlt:k < Q.length
   ·obtain ⟨lb,v0,v1,v2,v3,v4,v5,v6,v7,v8,v9,v10,e8,q0,q1,q2,q3,q4,q5,q6,q7,q8⟩:=(HR.out.grown G).nine hlt
    have i0:(0:Int)≤(k:Int):=by omega
    have i1:(k:Int) < (Q.length:Int):=by omega
    have X9:=Lib.hid (Blk.new wr #[.int .i64 v0,.int .i64 v1,.int .i64 v2,.int .i64 v3,.int .i64 v4,.int .i64 v5,.int .i64 v6,.int .i64 v7,.slice v8 v9 v10] 134)
    have CC:Hid (∀ W,Grew wr W→Calls Tryz.prog 104 #[.slice v8 v9 v10] W fun e w' => ∃ v,e=.returned v∧Hl.Own W.heap.size w' v (ith Q k).1∧Grew W w'):=Lib.hid (fun W g => by
     have hv:=HR.out.vl _ (ith_mem hlt)
     rw [← e8]
     exact clone_sl _ _ W ((HR.out.sl _ (ith_mem hlt)).grown (G.trans g)) hv.1.1 (by have:=hv.1.2;omega))
    have LK:Hid (((Q.map Prod.fst).take k).length+1≤4000000∧(ith Q k).1.length≤9223372036854775807∧0 < (ith Q k).1.length):=Lib.hid ⟨by have:=fst_len Q k;omega,by have:=(HR.out.vl _ (ith_mem hlt)).1.2;omega,(HR.out.vl _ (ith_mem hlt)).1.1⟩
    have ST:=Lib.hid (fst_take Q hlt)
    generalize (ith Q k).1=x at CC LK ST
    clear e8
    obtain ⟨rs,rn,rc,hrs⟩:∃ a n c,u3=.slice a n c:=by
     obtain ⟨a,c,e⟩:=(HO.out.rl ⟨by have:=fst_len Q k;omega,fun p hp => by
      obtain ⟨x,hx,rfl⟩:=List.mem_map.1 (List.mem_of_mem_take hp)
      have:=(HR.out.vl x hx).1.2
      omega⟩).shape
     exact ⟨_,_,_,e⟩
    subst hrs
    go_wp2_with fail
    refine (CC.out _ ((Grew.refl _).alloc _ _)).mono ?_
    rintro e w1 ⟨vc,rfl,hc,g1⟩
    have G1:Grew wr w1:=Grew.trans ((Grew.refl _).alloc _ _) g1
    have S1:=Lib.hid hc.sl
    have O1:=Lib.hid (HO.out.grew G1)
    have GW:=Lib.hid (G.trans G1)
    obtain ⟨ca,cc,rfl⟩:=hc.sl.shape
    clear hc g1
    go_wp2_with (at_builtin;refine wpl_app _ rfl _ _ rfl w.heap.size _ _ _ [x] rfl (O1.out.grew ((Grew.refl _).alloc _ _)) rfl (one_rl S1.out LK.out.2.1 1) (fun p hp => by rw [List.mem_singleton.1 hp];exact LK.out.2.2) (by have:=LK.out.1;simpa using this) (by have:=GW.out.size;simp;omega) ?_;intro v' w' af)
    have AF:=Lib.hid af
    have GX:=Lib.hid (af.grew w (Nat.le_refl _) (GW.out.alloc _ _))
    clear af
    exact ⟨⟨k+1,by omega,by go_num,GX.out,Lib.hid (by rw [ST.out];exact AF.out.own)⟩,by simp [intOf];omega⟩
   ·obtain rfl:k=Q.length:=by omega
    have F:Hid (Own w.heap.size wr u3 (Q.map Prod.fst)):=Lib.hid (by
     have h:=HO.out
     rwa [List.take_of_length_le (by rw [List.length_map];exact Nat.le_refl _)] at h)
    go_wp2_with fail
    go_ret
    exact ⟨_,rfl,F.out,G⟩
def OctSays (L:Rgn) (w:World) (e:Ending) (w':World):Prop:=∃ r q,e=.returned r∧Hl.Own w.heap.size w' r q∧OctTo L q∧Grew w w'
theorem oct_len {p q:List Pt} (h:IsOct p q):q.length≤8:=by
 obtain ⟨a,b,c,d,s,t,i,j,_,_,_,_,_,_,_,_,hq⟩:=h
 exact count_le (at' q) q.length (octL a b c d s t i j) (fun i j hi hj hne => pg_distinct hq.1 hi hj hne) (fun i hi => hq.2.1 _ (at_mem hi))
set_option maxRecDepth 100000 in
set_option maxHeartbeats 4000000 in
theorem eight_r (K:Hl.CodeN) (Q:Pcs) (b o c:Nat) (w:World) (hr:PRd w (.slice (some ⟨b,o,none⟩) Q.length c) Q) (hl:Q.length≤4000):Calls Tryz.prog 111 #[.slice (some ⟨b,o,none⟩) Q.length c] w (OctSays (Q.map Prod.fst) w):=by
 have HR:=Lib.hid hr
 have EC:Hid (∀ p v W,Sl W v p→Vl p→Calls Tryz.prog 98 #[v] W (EightNew p W)):=Lib.hid (fun p v W h1 h2 => K.eight_new p v W h1 h2)
 have HC:Hid (∀ l v W,Sl W v l→l.length≤4000→l ≠ []→Plcs l→Calls Tryz.prog 103 #[v] W (HullNew l W)):=Lib.hid (fun l v W h1 h2 h3 h4 => K.hull_new l v W h1 h2 h3 h4)
 clear hr K
 go_enter Tryz.func111,Tryz.ntmps111
 go_wp2_with fail
 go_loopw [3,10] (fun r i wr => ∃ (k:Nat) (q:List Pt),k≤Q.length∧i=.int .i64 k∧Grew w wr∧Hid (Hl.Own w.heap.size wr r q)∧Hid (OctTo ((Q.map Prod.fst).take k) q∧q.length≤8∧Plcs q)) (fun _ i _ => Q.length - (intOf i).toNat)
 case atStart => exact ⟨0,[],Nat.zero_le _,rfl,Grew.refl _,Lib.hid (Hl.Own.nil _ _),Lib.hid ⟨Or.inl ⟨rfl,rfl⟩,by simp,fun i hi => by cases hi⟩⟩
 case round =>
  obtain ⟨k,q,hk,rfl,G,HO,HT⟩:=hrel
  by_cases hlt:k < Q.length
  ·obtain ⟨lb,v0,v1,v2,v3,v4,v5,v6,v7,v8,v9,v10,e8,q0,q1,q2,q3,q4,q5,q6,q7,q8⟩:=(HR.out.grown G).nine hlt
   have i0:(0:Int)≤(k:Int):=by omega
   have i1:(k:Int) < (Q.length:Int):=by omega
   have VX:=Lib.hid (HR.out.vl _ (ith_mem hlt))
   have SX:Hid (Sl wr (.slice v8 v9 v10) (ith Q k).1):=Lib.hid (by rw [← e8];exact (HR.out.sl _ (ith_mem hlt)).grown G)
   have ST:=Lib.hid (fst_take Q hlt)
   have X9:=Lib.hid (Blk.new wr #[.int .i64 v0,.int .i64 v1,.int .i64 v2,.int .i64 v3,.int .i64 v4,.int .i64 v5,.int .i64 v6,.int .i64 v7,.slice v8 v9 v10] 134)
   generalize (ith Q k).1=x at VX SX ST
   clear e8
   have ush:∃ a n c,u3=.slice a n c:=by
    obtain ⟨a,c,e⟩:=HO.out.sl.shape
    exact ⟨_,_,_,e⟩
   obtain ⟨ua,un,uc,rfl⟩:=ush
   go_wp2_with fail
   refine (EC.out x (.slice v8 v9 v10) _ (SX.out.grown ((Grew.refl _).alloc _ _)) VX.out).mono ?_
   rintro e w1 ⟨p8,vp,ho,rfl,hn,g1⟩
   have G1:Grew w w1:=Grew.trans (G.alloc _ _) g1
   have OC:=Lib.hid ho
   have N1:=Lib.hid (hn.own.less (B':=w.heap.size) (Nat.le_trans (G.alloc _ _).size (Nat.le_refl _)))
   have O1:=Lib.hid (HO.out.grew (((Grew.refl wr).alloc _ _).trans g1))
   have L8:=Lib.hid (oct_len ho)
   have P8:Hid (Plcs p8):=Lib.hid (oct_facts VX.out ho).1.2.1
   obtain ⟨pa,pc,rfl⟩:=hn.sl.shape
   have lw1:=G1.size
   clear ho hn g1
   go_wp2_with (at_builtin;refine Ct.wpl_append_oo _ rfl _ _ 48 Tryz.underlying48 rfl w.heap.size w.heap.size _ _ p8 q rfl N1.out rfl O1.out (by have:=L8.out;have:=HT.out.2.1;omega) (by omega) ?_;intro v2 w2 own2 gr2)
   have O2:=Lib.hid own2
   have G2:Grew w w2:=Grew.grown G1 gr2 (fun k e => N1.out.block k e)
   have PL2:Hid (Plcs (p8 ++ q)):=Lib.hid (plcs_of (fun y hy => by
    rcases List.mem_append.1 hy with hy | hy
    ·obtain ⟨i,hi,e⟩:=mem_at hy
     rw [← e];exact P8.out i hi
    ·obtain ⟨i,hi,e⟩:=mem_at hy
     rw [← e];exact HT.out.2.2 i hi))
   have NE2:Hid (p8 ++ q ≠ []∧(p8 ++ q).length≤16):=Lib.hid ⟨fun e => by
    have h:=congrArg List.length e
    have h1:=(oct_facts VX.out OC.out).1.1.1
    rw [List.length_append,List.length_nil] at h
    omega,by have:=L8.out;have:=HT.out.2.1;rw [List.length_append];omega⟩
   obtain ⟨sa2,sc2,rfl⟩:=own2.sl.shape
   clear own2 gr2
   go_wp2_with fail
   refine (HC.out (p8 ++ q) _ w2 O2.out.sl (by have:=NE2.out.2;omega) NE2.out.1 PL2.out).mono ?_
   rintro e w3 ⟨h3,hh3,⟨h64,v3,rfl,hn3,g3⟩ | ⟨h64,_⟩⟩
   ·have G3:Grew w w3:=Grew.trans G2 g3
    have H3:=Lib.hid hh3
    have S3:=Lib.hid hn3.sl
    have V3:Hid (Vl h3):=Lib.hid (vl_of hh3.1 (by omega) (hull_plcs hh3 PL2.out))
    clear hh3 hn3 g3
    go_wp2_with fail
    refine (EC.out h3 v3 w3 S3.out V3.out).mono ?_
    rintro e w4 ⟨a4,v4,ho4,rfl,hn4,g4⟩
    have G4:Grew w w4:=Grew.trans G3 g4
    have N4:=Lib.hid (hn4.own.less (B':=w.heap.size) G3.size)
    have T4:Hid (OctTo ((Q.map Prod.fst).take (k+1)) a4∧a4.length≤8∧Plcs a4):=Lib.hid ⟨by rw [ST.out];exact HT.out.1.step OC.out H3.out ho4,oct_len ho4,(oct_facts V3.out ho4).1.2.1⟩
    clear ho4 hn4 g4
    go_wp2_with fail
    exact ⟨⟨k+1,a4,by omega,by go_num,G4,N4,T4⟩,by simp [intOf];omega⟩
   ·exfalso
    have h1:=count_le (at' h3) h3.length (p8 ++ q) (fun i j hi hj hne => pg_distinct hh3.1 hi hj hne) (fun i hi => hh3.2.1 _ (at_mem hi))
    have:=NE2.out.2
    omega
  ·obtain rfl:k=Q.length:=by omega
   have F:Hid (OctTo (Q.map Prod.fst) q):=Lib.hid (by
    have h:=HT.out.1
    rwa [List.take_of_length_le (by rw [List.length_map];exact Nat.le_refl _)] at h)
   go_wp2_with fail
   go_ret
   exact ⟨_,q,rfl,HO.out,F.out,G⟩
end Rg
end Go.Proofs.YtbpgfenippiepaaGreatDoor
namespace Go.Proofs.YtbpgfenippiepaaGreatDoor
open Go.RowKit Go.Shelf Go.Sort Hl
namespace Rg
def TidyOf (M out:Rgn):Prop:=(M.length≤32∧out=M)∨(32 < M.length∧∃ q,IsOct (M.drop 31).flatten q∧out=M.take 31 ++ [q])
theorem rown_shape {B:Nat} {w:World} {v:Value} {L:Rgn} (h:Own B w v L):∃ a n c,v=.slice a n c:=by
 obtain ⟨us,_,h1,_⟩:=h.own
 rcases h1.2 with ⟨e,_⟩ | ⟨g,cap,cur,e,_⟩
 ·exact ⟨_,_,_,e⟩
 ·exact ⟨_,_,_,e⟩
theorem Pile.prd {B:Nat} {w:World} {v:Value} {Q:Pcs} (h:Pile B w v Q):PRd w v Q:=by
 rcases h.own.shape with ⟨rfl,rfl⟩ | ⟨g,cap,rfl,_⟩
 ·exact ⟨Or.inl ⟨rfl,_,_,rfl⟩,fun x hx => (by cases hx),fun x hx => (by cases hx)⟩
 ·have k:=h.part 0 Q.length cap (Nat.le_refl _)
  rw [List.take_length,List.drop_zero] at k
  exact k
def TidSays (M:Rgn) (w:World) (e:Ending) (w':World):Prop:=∃ r out,e=.returned r∧Own w.heap.size w' r out∧TidyOf M out∧Grew w w'
set_option maxRecDepth 100000 in
set_option maxHeartbeats 8000000 in
theorem tidied_c (K:Hl.CodeN) (N A:Nat) (Q:Pcs) (v:Value) (w:World) (hP:Pile N w v Q) (hA:Blk w A #[v] 97) (hl:Q.length≤4000) :
  Calls Tryz.prog 67 #[.pointer (some ⟨A,0,none⟩)] w (TidSays (Q.map Prod.fst) w):=by
 obtain ⟨c0,f0⟩:=hA.one
 have lA:=hA.lt
 by_cases h32:Q.length≤32
 ·have CC:=Lib.hid (copied_c Q v w hP.prd hl)
  obtain ⟨va,vc,hv⟩:∃ a c,v=.slice a Q.length c:=by
   rcases hP.own.shape with ⟨e,h⟩ | ⟨g,cap,e,_⟩
   ·exact ⟨none,0,by rw [h];exact e⟩
   ·exact ⟨_,_,e⟩
  have TL:Hid ((Q.map Prod.fst).length≤32):=Lib.hid (by rw [List.length_map];exact h32)
  obtain ⟨n,hn⟩:∃ n,Q.length=n:=⟨_,rfl⟩
  rw [hn] at hv h32
  subst hv
  have h32':(n:Int)≤32:=by omega
  clear hP hA hl hn
  go_enter Tryz.func67,Tryz.ntmps67
  go_wp2_with fail
  refine CC.out.mono ?_
  rintro e w1 ⟨r,rfl,hr,g1⟩
  have HR:=Lib.hid hr
  clear hr
  go_wp2_with fail
  go_ret
  exact ⟨_,_,rfl,HR.out,Or.inl ⟨TL.out,rfl⟩,g1⟩
 ·obtain ⟨g,cap,rfl,hat⟩:∃ g cap,v=.slice (some ⟨g,0,none⟩) Q.length cap∧OwnPAt N w g cap Q:=by
   rcases hP.own.shape with ⟨_,h⟩ | h
   ·rw [h] at h32;simp at h32
   ·exact h
  have k1:=hP.part 0 31 cap (by omega)
  have k2:=hP.part 31 Q.length (cap - 31) (Nat.le_refl _)
  rw [List.take_length] at k2
  rw [List.drop_zero] at k1
  have l1:(Q.take 31).length=31:=by rw [List.length_take];omega
  have l2:(Q.drop 31).length=Q.length - 31:=List.length_drop
  have CC:Hid (∀ W,Grew w W→Calls Tryz.prog 110 #[.slice (some ⟨g,0,none⟩) 31 cap] W (CopySays ((Q.take 31).map Prod.fst) W)):=Lib.hid (fun W gr => copied_c (Q.take 31) _ W (k1.grown gr) (by omega))
  have EC:Hid (∀ W,Grew w W→Calls Tryz.prog 111 #[.slice (some ⟨g,279,none⟩) (Q.length - 31) (cap - 31)] W (OctSays ((Q.drop 31).map Prod.fst) W)):=Lib.hid (fun W gr => by
   have h:=eight_r K (Q.drop 31) g 279 (cap - 31) W (by rw [l2];exact k2.grown gr) (by omega)
   rwa [l2] at h)
  have OL:Hid (∀ q,OctTo ((Q.drop 31).map Prod.fst) q→0 < q.length∧q.length≤8):=Lib.hid (fun q hq => by
   rcases hq with ⟨h,_⟩ | ⟨_,h⟩
   ·have:=congrArg List.length h
    rw [List.length_map,l2] at this
    simp at this
    omega
   ·refine ⟨?_,oct_len h⟩
    obtain ⟨_,_,_,_,_,_,_,_,_,_,_,_,_,_,_,_,hq⟩:=h
    exact hq.1.1)
  have FIN:Hid (∀ q,OctTo ((Q.drop 31).map Prod.fst) q→TidyOf (Q.map Prod.fst) ((Q.take 31).map Prod.fst ++ [q])):=Lib.hid (fun q hq => by
   refine Or.inr ⟨by rw [List.length_map];omega,q,?_,by rw [List.map_take]⟩
   rcases hq with ⟨h,_⟩ | ⟨_,h⟩
   ·have:=congrArg List.length h
    rw [List.length_map,l2] at this
    simp at this
    omega
   ·rw [← List.map_drop]
    exact h)
  have HA:=Lib.hid hA
  have hcap:=hat.2.1
  have hmax:cap≤9223372036854775807:=hat.2.2.1
  obtain ⟨n,hn⟩:∃ n,Q.length=n:=⟨_,rfl⟩
  rw [hn] at h32 hcap EC c0 HA hl
  have h32':¬ (n:Int)≤32:=by omega
  have s1:(31:Int)≤(n:Int):=by omega
  have s2:(31:Int)≤(cap:Int):=by omega
  have s3:(n:Int)≤(cap:Int):=by omega
  have s4:31≤n:=by omega
  have s5:31≤cap:=by omega
  clear hP hA hat k1 k2 l1 l2
  go_enter Tryz.func67,Tryz.ntmps67
  go_wp2_with fail
  refine Bar.begin_ (S:=(fun w' => w'.cell? ⟨A,0,none⟩=some (.slice (some ⟨g,0,none⟩) n cap))) 13 (by kernel_rfl) (by simp [go_sem, *]) (fun hHeld => ?_)
  refine Bar.Walk.takeY (i:=0) (oi:=⟨some 14,_,_,_,_,_⟩) (v:=?_) rfl (by kernel_rfl) (by kernel_rfl) (by kernel_rfl) rfl (fun _ _ _ h => h) (Or.inl ⟨by rfl,?_⟩) (by assumption) ?_
  rotate_left
  ·intro w;go_simp;(try with_reducible rfl)
  try simp only [Act.put,List.setIfInBounds_toArray,List.set_cons_zero,List.set_cons_succ]
  refine Bar.Walk.takeY (i:=1) (oi:=⟨some 15,_,_,_,_,_⟩) (v:=?_) rfl (by kernel_rfl) (by kernel_rfl) (by kernel_rfl) rfl (fun _ _ _ h => h) (Or.inl ⟨by rfl,?_⟩) (by assumption) ?_
  rotate_left
  ·intro w;go_simp;(try with_reducible rfl)
  try simp only [Act.put,List.setIfInBounds_toArray,List.set_cons_zero,List.set_cons_succ]
  refine Bar.Walk.takeY (i:=2) (oi:=⟨some 16,_,_,_,_,_⟩) (v:=?_) rfl (by kernel_rfl) (by kernel_rfl) (by kernel_rfl) rfl (fun _ _ _ h => h) (Or.inl ⟨by rfl,?_⟩) (by assumption) ?_
  rotate_left
  ·intro w;go_simp;(try with_reducible rfl)
  try simp only [Act.put,List.setIfInBounds_toArray,List.set_cons_zero,List.set_cons_succ]
  refine Bar.Walk.take [13,5,4] (i:=3) (oi:=⟨some 17,_,_,_,_,_⟩) (v:=?_) rfl (by kernel_rfl) (by kernel_rfl) (by kernel_rfl) (by kernel_rfl) (fun _ _ _ h => h) (Or.inl ⟨by rfl,?_⟩) (by assumption) ?_
  rotate_left
  ·intro w hSw;(try dsimp only at hSw);go_simp;(try with_reducible rfl)
  try simp only [Act.put,List.setIfInBounds_toArray,List.set_cons_zero,List.set_cons_succ]
  refine Bar.Walk.takeY (i:=4) (oi:=⟨some 18,_,_,_,_,_⟩) (v:=?_) rfl (by kernel_rfl) (by kernel_rfl) (by kernel_rfl) rfl (fun _ _ _ h => h) (Or.inl ⟨by rfl,?_⟩) (by assumption) ?_
  rotate_left
  ·intro w;go_simp;(try with_reducible rfl)
  try simp only [Act.put,List.setIfInBounds_toArray,List.set_cons_zero,List.set_cons_succ]
  refine Bar.Walk.takeY (i:=6) (oi:=⟨some 20,_,_,_,_,_⟩) (v:=?_) rfl (by kernel_rfl) (by kernel_rfl) (by kernel_rfl) rfl (fun _ _ _ h => h) (Or.inl ⟨by rfl,?_⟩) (by assumption) ?_
  rotate_left
  ·intro w;go_simp;(try with_reducible rfl)
  try simp only [Act.put,List.setIfInBounds_toArray,List.set_cons_zero,List.set_cons_succ]
  refine Bar.Walk.takeY (i:=7) (oi:=⟨some 21,_,_,_,_,_⟩) (v:=?_) rfl (by kernel_rfl) (by kernel_rfl) (by kernel_rfl) rfl (fun _ _ _ h => h) (Or.inl ⟨by rfl,?_⟩) (by assumption) ?_
  rotate_left
  ·intro w;go_simp;(try with_reducible rfl)
  try simp only [Act.put,List.setIfInBounds_toArray,List.set_cons_zero,List.set_cons_succ]
  refine Bar.Walk.takeY (i:=8) (oi:=⟨some 22,_,_,_,_,_⟩) (v:=?_) rfl (by kernel_rfl) (by kernel_rfl) (by kernel_rfl) rfl (fun _ _ _ h => h) (Or.inl ⟨by rfl,?_⟩) (by assumption) ?_
  rotate_left
  ·intro w;go_simp;(try with_reducible rfl)
  try simp only [Act.put,List.setIfInBounds_toArray,List.set_cons_zero,List.set_cons_succ]
  refine Bar.Walk.take [13,12,11,10] (i:=9) (oi:=⟨some 23,_,_,_,_,_⟩) (v:=?_) rfl (by kernel_rfl) (by kernel_rfl) (by kernel_rfl) (by kernel_rfl) (fun _ _ _ h => h) (Or.inl ⟨by rfl,?_⟩) (by assumption) ?_
  rotate_left
  ·intro w hSw;(try dsimp only at hSw);go_simp;(try with_reducible rfl)
  try simp only [Act.put,List.setIfInBounds_toArray,List.set_cons_zero,List.set_cons_succ]
  refine Bar.Walk.takeY (i:=10) (oi:=⟨some 24,_,_,_,_,_⟩) (v:=?_) rfl (by kernel_rfl) (by kernel_rfl) (by kernel_rfl) rfl (fun _ _ _ h => h) (Or.inl ⟨by rfl,?_⟩) (by assumption) ?_
  rotate_left
  ·intro w;go_simp;(try with_reducible rfl)
  try simp only [Act.put,List.setIfInBounds_toArray,List.set_cons_zero,List.set_cons_succ]
  refine Bar.Walk.step (i:=5) (o:=⟨some 19,_,_,_,_,_⟩) (by kernel_rfl) rfl (fun K hK => ?_)
  go_simp
  refine (CC.out _ (Grew.drew (Grew.refl _))).mono ?_
  rintro e w1 ⟨r,rfl,hr1,g1⟩
  have R1:=Lib.hid hr1
  have G1:=Lib.hid (Grew.trans (Grew.drew (Grew.refl w)) g1)
  have A1:=HA.out.drew.grown g1
  obtain ⟨k0,k1⟩:=A1.one
  obtain ⟨ra,rn,rc,rfl⟩:=rown_shape hr1
  clear hr1 g1
  go_wp2_with fail
  refine hK.out _ _ (by (try dsimp only);simp [go_sem, *]) (fun h1 => ?_)
  clear hK K hHeld
  have hHeld:=h1
  clear h1
  try simp only [Act.put,List.setIfInBounds_toArray,List.set_cons_zero,List.set_cons_succ]
  refine Bar.Walk.step (i:=11) (o:=⟨some 25,_,_,_,_,_⟩) (by kernel_rfl) rfl (fun K hK => ?_)
  go_simp
  refine (EC.out _ G1.out).mono ?_
  rintro e w2 ⟨r2,q,rfl,hr2,ho,g2⟩
  have R2:=Lib.hid hr2.sl
  have OQ:=Lib.hid ho
  have G2:=Lib.hid (Grew.trans G1.out g2)
  have R12:=Lib.hid (R1.out.grew g2)
  have A2:=(HA.out.grown G1.out).grown g2
  obtain ⟨k2,k3⟩:=A2.one
  obtain ⟨qa,qc,rfl⟩:=hr2.sl.shape
  have lA2:=A2.lt
  clear hr2 ho g2
  go_wp2_with fail
  refine hK.out _ _ (by (try dsimp only);simp [go_sem, *]) (fun h1 => ?_)
  clear hK K hHeld
  have hHeld:=h1
  clear h1
  try simp only [Act.put,List.setIfInBounds_toArray,List.set_cons_zero,List.set_cons_succ]
  refine Bar.Walk.step (i:=12) (o:=⟨some 26,_,_,_,_,_⟩) (by kernel_rfl) rfl (fun K hK => ?_)
  go_simp
  refine hK.out _ _ (by (try dsimp only);simp [go_sem, *]) (fun h1 => ?_)
  clear hK K hHeld
  have hHeld:=h1
  clear h1
  try simp only [Act.put,List.setIfInBounds_toArray,List.set_cons_zero,List.set_cons_succ]
  have QL:Hid (q.length≤9223372036854775807):=Lib.hid (by have:=OL.out q OQ.out;omega)
  have QF:Hid (0 < q.length):=Lib.hid (OL.out q OQ.out).1
  have gal:Grew w2 (w2.alloc (.cells #[.slice qa q.length qc] 48)):=(Grew.refl w2).alloc _ _
  refine Bar.Walk.pass (o:=⟨some 27,_,_,_,_,_⟩) (by kernel_rfl) rfl (by kernel_rfl) (fun K hK => ?_)
  rw [if_pos (by rfl)]
  refine wp_app _ _ _ rfl w.heap.size _ _ _ [q] rfl (R12.out.grew gal) rfl (one_rl R2.out QL.out 1) (fun p hp => by rw [List.mem_singleton.1 hp];exact QF.out) (by rw [List.length_map,List.length_take,List.length_singleton];omega) (by have:=G2.out.size;simp;omega) ?_
  intro v' w' af
  have AF:=Lib.hid af
  refine hK.out _ _ ?_
  clear hK K hHeld af
  try simp only [Act.put,List.setIfInBounds_toArray,List.set_cons_zero,List.set_cons_succ]
  refine Bar.any_step (i:=14) (o:=⟨some 2,_,_,_,_,_⟩) (by kernel_rfl) rfl (fun K hK => ?_)
  go_simp
  refine hK.out _ _ ?_
  clear hK K
  try simp only [Act.put,List.setIfInBounds_toArray,List.set_cons_zero,List.set_cons_succ]
  refine wpAny_done (by kernel_rfl) ?_ _
  go_wp2_with fail
  go_ret
  exact ⟨_,_,rfl,AF.out.own,FIN.out q OQ.out,AF.out.grew w (Nat.le_refl _) (G2.out.trans gal)⟩
end Rg
end Go.Proofs.YtbpgfenippiepaaGreatDoor
