/-
  The reference of layer 7: Tidied.
  The reference of layer 7: left, CutBy, Both.
  The reference of layer 7: Meet.
-/
import Derived.Test.YtbpgfenippiepaaGreatDoorMCutRe
import Derived.Test.YtbpgfenippiepaaGreatDoorMHullAro
import Derived.Test.YtbpgfenippiepaaGreatDoorMHullInB
namespace Go.Proofs.YtbpgfenippiepaaGreatDoor
open Go.RowKit Go.Shelf Hl
namespace Rg
open Ct (Hf WF ov)
theorem wpl_pts {ops:Array Oper} {rest:List Oper} {o:Oper} {a:Act} {Q:Exit→Act→World→Prop} (w:World) (hgd:o.guard=none) (s x:Operand)
  (ho:o.op=.call { callee:=.builtin .append,args:=#[s,x],argTypes:=#[48,48] }) (B:Nat) (v:Value) (p ys:List Pt) (b off c:Nat)
  (hs:a.eval s=v) (hown:Hl.Own B w v p) (hx:a.eval x=.slice (some ⟨b,off,none⟩) ys.length c) (hr:Row w b off ys) (hl:p.length+ys.length≤4000000) (hB:B≤w.heap.size)
  (h:∀ v' w',Hl.Own B w' v' (p ++ ys)→(∀ W:World,W.heap.size≤B→Grew W w→Grew W w')→wpList Tryz.prog ops Q rest (a.put o.dst v') w'):wpList Tryz.prog ops Q (o :: rest) a w :=
 wpList_plain hgd fun _ hK => wp_append_pts w s x ho B v p ys b off c hs hown hx hr hl hB fun v' w' h1 h2 _ => hK _ _ (h v' w' h1 h2)
theorem vl_pos {p:List Pt} (h:Vl p):0 < p.length:=h.1.1
theorem keptV {L:Rgn} (hL:AllV L):AllV (kept L):=fun p hp => hL p (kept_sub hp)
theorem flat_le:∀ (M:Rgn),AllV M→M.flatten.length≤64 * M.length
 | [],_ => Nat.le_refl _
 | p :: M,h => by
   have a:=(h p (by simp)).1.2
   have b:=flat_le M (fun q hq => h q (by simp [hq]))
   rw [List.flatten_cons,List.length_append,List.length_cons]
   omega
def flatK (K:Rgn) (j:Nat):List Pt:=((K.drop 31).take (j - 31)).flatten
theorem flatK_0 (K:Rgn):flatK K 31=[]:=by simp [flatK]
theorem flatK_next {K:Rgn} {j:Nat} (h:31≤j) (hj:j < K.length):flatK K (j+1)=flatK K j ++ nth K j:=by
 unfold flatK
 have e:j+1 - 31=(j - 31)+1:=by omega
 have hl:j - 31 < (K.drop 31).length:=by rw [List.length_drop];omega
 rw [e,List.take_add_one,List.flatten_append,List.getElem?_eq_getElem hl]
 simp only [Option.toList_some,List.flatten_cons,List.flatten_nil,List.append_nil,List.getElem_drop]
 rw [nth_get hj]
 congr 2
 omega
theorem flatK_le {K:Rgn} (hK:AllV K) (j:Nat):(flatK K j).length≤64 * K.length:=by
 have a:=flat_le ((K.drop 31).take (j - 31)) (fun p hp => hK p (List.mem_of_mem_drop (List.mem_of_mem_take hp)))
 have b:((K.drop 31).take (j - 31)).length≤K.length:=by rw [List.length_take,List.length_drop];omega
 unfold flatK
 omega
theorem flatK_all (K:Rgn):flatK K K.length=(K.drop 31).flatten:=by
 unfold flatK
 rw [List.take_of_length_le (by rw [List.length_drop];omega)]
theorem flatK_pos {K:Rgn} (hK:AllV K) (h:31 < K.length):1≤((K.drop 31).flatten).length:=by
 have e:K.drop 31=K[31] :: K.drop 32:=List.drop_eq_getElem_cons h
 rw [e,List.flatten_cons,List.length_append]
 have:=vl_pos (hK K[31] (List.getElem_mem h))
 omega
theorem rw_take {w:World} {b c:Nat} {K:Rgn} (h:Rw w b 0 K) (hb:Bd K) (h31:31≤K.length):Rl w (.slice (some ⟨b,0,none⟩) 31 c) (K.take 31):=by
 have hl:(K.take 31).length=31:=by rw [List.length_take];omega
 refine ⟨Or.inr ⟨b,0,c,by rw [hl],h.1,fun i hi => ?_⟩,by rw [hl];omega,fun p hp => hb.2 p (List.mem_of_mem_take hp)⟩
 rw [hl] at hi
 have e:nth (K.take 31) i=nth K i:=by
  rw [nth_get (by rw [hl];exact hi),nth_get (by omega),List.getElem_take]
 rw [e]
 exact h.2 i (by omega)
def TidySays (L:Rgn) (w:World) (e:Ending) (w':World):Prop:=∃ u r,TidyIs L r∧e=.returned u∧Rl w' u r∧Grew w w'
set_option maxRecDepth 100000 in
set_option maxHeartbeats 4000000 in
theorem tidied_r (L:Rgn) (v:Value) (w:World) (hs:Rl w v L) (hL:AllV L) (hn:L.length≤4000):Calls Tryz.prog 36 #[v] w (TidySays L w):=by
 have VV:=Lib.hid hL
 have HN:=Lib.hid hn
 have CC:Hid (∀ i W,i < L.length→Grew w W→Calls Tryz.prog 73 #[v,.int .i64 i] W (Tells (Cov L i) W)):=Lib.hid (fun i W hi g => covered_r L i v W (hs.grown g) hL hi)
 obtain ⟨a,c,U,rfl,hU,hSl,hRr⟩:=rl_fun hs
 have SS:Hid (∀ i W,i < L.length→Grew w W→Sl W (U i) (nth L i)):=Lib.hid (fun i W hi g => (hSl i hi).grown g)
 have RR:Hid (∀ i W,i < L.length→Grew w W→∃ b o ua un uc,a=some ⟨b,o,none⟩∧b < W.heap.size∧U i=.slice ua un uc∧W.cell? ⟨b,o+i,none⟩=some (.slice ua un uc)):=Lib.hid (fun i W hi g => by
  obtain ⟨b,o,e,hb,z⟩:=hRr i hi
  obtain ⟨ua,un,uc,eu⟩:=hU i
  exact ⟨b,o,ua,un,uc,e,Nat.lt_of_lt_of_le hb.1 g.size,eu,(Grew.cell g hb.1).trans (by rw [z,eu])⟩)
 have HZ:Hid (L.length≤9223372036854775807):=Lib.hid (by omega)
 clear hs hU hSl hRr hL hn
 go_enter Tryz.func36,Tryz.ntmps36
 go_wp2_with fail
 go_loopw [3,4,5] (fun u i _ wr => ∃ k:Nat,k≤L.length∧i=.int .i64 k∧Grew w wr∧Hid (Own w.heap.size wr u (keptN L k))) (fun _ i _ _ => L.length - (intOf i).toNat)
 case atStart => exact ⟨0,Nat.zero_le _,rfl,Grew.refl _,Lib.hid (Own.nil _ _)⟩
 case round =>
  obtain ⟨k,hk,rfl,G,OW⟩:=hrel
  have hz:=HZ.out
  by_cases hlt:k < L.length
  ·have i0:(0:Int)≤(k:Int):=by omega
   have i1:(k:Int) < (L.length:Int):=by omega
   have C1:=Lib.hid (CC.out k wr hlt G)
   go_wp2_with fail
   refine C1.out.mono ?_
   rintro e w1 ⟨r,rfl,hr,g1⟩
   have HR:=Lib.hid hr
   have G1:=Grew.trans G g1
   have O1:=Lib.hid (OW.out.grew g1)
   have GH:=Lib.hid G1
   clear hr g1 OW C1
   cases r
   ·obtain ⟨b,o,ua,un,uc,rfl,hb,eu,z0⟩:=RR.out k w1 hlt G1
    have S1:Hid (Sl w1 (.slice ua un uc) (nth L k)):=Lib.hid (by rw [← eu];exact SS.out k w1 hlt G1)
    have V1:=Lib.hid (VV.out _ (nth_mem hlt))
    have KN:Hid (keptN L (k+1)=keptN L k ++ [nth L k]):=Lib.hid (keptN_no (covB_not.2 (fun h => absurd (HR.out.2 h) (by decide))))
    have KL:Hid ((keptN L k).length+1≤4000000):=Lib.hid (by have:=keptN_len L k;have:=HN.out;omega)
    clear eu G
    go_wp2_with (at_builtin;go_must (refine wpl_app _ rfl _ _ rfl w.heap.size _ _ (keptN L k) [nth L k] rfl (O1.out.grew ((Grew.refl _).alloc _ _)) rfl (one_rl S1.out (by have:=V1.out.1.2;omega) 1) (fun p hp => by rw [List.mem_singleton.1 hp];exact vl_pos V1.out) (by simpa using KL.out) (by have:=GH.out.size;simp;omega) ?_;intro v' w' af;have GG':=Lib.hid (af.grew w (Nat.le_refl _) (GH.out.alloc _ _));have OWN':=Lib.hid af.own;clear af))
    exact ⟨⟨k+1,by omega,by go_num,GG'.out,Lib.hid (by rw [KN.out];exact OWN'.out)⟩,by simp [intOf];omega⟩
   ·have KN:Hid (keptN L (k+1)=keptN L k):=Lib.hid (keptN_yes (covB_iff.2 (HR.out.1 rfl)))
    go_wp2_with fail
    exact ⟨⟨k+1,by omega,by go_num,G1,Lib.hid (by rw [KN.out];exact O1.out)⟩,by simp [intOf];omega⟩
  ·obtain rfl:k=L.length:=by omega
   clear CC SS RR
   have OK:Hid (Own w.heap.size wr u3 (kept L)):=Lib.hid OW.out
   have BK:Hid (Bd (kept L)):=Lib.hid ((keptV VV.out).bd (by have:=kept_len L;have:=HN.out;omega))
   have RK:=Lib.hid (OK.out.rl BK.out)
   obtain ⟨V,hV⟩:∃ V,V=wr:=⟨wr,rfl⟩
   subst hV
   by_cases h32:(kept L).length≤32
   ·obtain ⟨oa,on,oc,rfl,en⟩:=rl_nat RK.out
    have n32:(on:Int)≤32:=by omega
    have F:Hid (TidyIs L (kept L)):=Lib.hid (Or.inl ⟨h32,rfl⟩)
    clear h32 en
    go_wp2_with fail
    go_ret
    exact ⟨_,_,F.out,rfl,RK.out,G⟩
   ·obtain ⟨g,oc,ev,hoc,hrw⟩:=OK.out.rw (by omega)
    obtain ⟨on,en⟩:∃ on,on=(kept L).length:=⟨_,rfl⟩
    rw [← en] at ev hoc
    have RWK:=Lib.hid hrw
    have EN:=Lib.hid en
    have H32:=Lib.hid h32
    have n32:¬ (on:Int)≤32:=by omega
    have nc:(31:Int)≤(oc:Int):=by omega
    have n40:on≤4000:=by have:=kept_len L;have:=HN.out;omega
    subst ev
    obtain ⟨a2,c2,U2,ev2,hU2,hSl2,hRr2⟩:=rl_fun RK.out
    rw [← EN.out] at ev2
    injection ev2 with e1 e2 e3
    subst e1
    have SS2:Hid (∀ i W,i < on→Grew V W→∃ b o c,U2 i=.slice (some ⟨b,o,none⟩) (nth (kept L) i).length c∧Row W b o (nth (kept L) i)):=Lib.hid (fun i W hi g => ((hSl2 i (by omega)).grown g).row (fun e => by
     have:=vl_pos (keptV VV.out _ (nth_mem (show i < (kept L).length by omega)))
     rw [e] at this
     exact absurd this (by simp)))
    have RR2:Hid (∀ i W,i < on→Grew V W→g < W.heap.size∧W.cell? ⟨g,0+i,none⟩=some (U2 i)):=Lib.hid (fun i W hi gw => by
     obtain ⟨b,o,e,hb,z⟩:=hRr2 i (by omega)
     injection e with e
     injection e with e1 e2
     subst e1 e2
     exact ⟨Nat.lt_of_lt_of_le hb.1 gw.size,(Grew.cell gw hb.1).trans z⟩)
    clear hU2 hSl2 hRr2 hrw en h32 OW hk hlt hoc
    go_wp2_with fail
    go_loopw [6,7] (fun u i wz => ∃ j:Nat,31≤j∧j≤on∧i=.int .i64 j∧Grew V wz∧Hid (Hl.Own V.heap.size wz u (flatK (kept L) j))) (fun _ i _ => on - (intOf i).toNat)
    case atStart => exact ⟨31,Nat.le_refl _,by omega,rfl,Grew.refl _,Lib.hid (by rw [flatK_0];exact Hl.Own.nil _ _)⟩
    case round =>
     obtain ⟨j,hj1,hj2,rfl,GZ,OZ⟩:=hrel
     by_cases hjl:j < on
     ·obtain ⟨b,o,c',eu,hrow⟩:=SS2.out j wr hjl GZ
      obtain ⟨hg,z0⟩:=RR2.out j wr hjl GZ
      rw [eu] at z0
      have z1:wr.cell? ⟨g,j,none⟩=some (.slice (some ⟨b,o,none⟩) (nth (kept L) j).length c'):=by rw [Nat.zero_add] at z0;exact z0
      have HROW:=Lib.hid hrow
      have GH:=Lib.hid GZ
      have i0:(0:Int)≤(j:Int):=by omega
      have i1:(j:Int) < (on:Int):=by omega
      have FN:Hid (flatK (kept L) (j+1)=flatK (kept L) j ++ nth (kept L) j):=Lib.hid (flatK_next hj1 (by have:=EN.out;omega))
      have FL:Hid ((flatK (kept L) j).length+(nth (kept L) j).length≤4000000):=Lib.hid (by
       have a:=flatK_le (keptV VV.out) j
       have b:=(keptV VV.out _ (nth_mem (show j < (kept L).length by have:=EN.out;omega))).1.2
       have:=EN.out
       omega)
      clear hrow eu
      go_wp2_with (at_builtin;go_must (refine wpl_pts _ rfl _ _ rfl V.heap.size _ (flatK (kept L) j) (nth (kept L) j) _ _ _ rfl OZ.out rfl HROW.out FL.out GH.out.size ?_;intro v' w' own' gr';have GG':=Lib.hid (gr' V (Nat.le_refl _) GH.out);have OWN':=Lib.hid own';clear own' gr'))
      exact ⟨⟨j+1,by omega,by omega,by go_num,GG'.out,Lib.hid (by rw [FN.out];exact OWN'.out)⟩,by simp [intOf];omega⟩
     ·obtain rfl:j=on:=by omega
      obtain ⟨X,hX⟩:∃ X,X=wr:=⟨wr,rfl⟩
      subst hX
      have GVX:=Lib.hid GZ
      have OX:Hid (Hl.Own V.heap.size X u6 ((kept L).drop 31).flatten):=Lib.hid (by have h:=OZ.out;rw [EN.out,flatK_all] at h;exact h)
      obtain ⟨F,eF⟩:∃ F,F=((kept L).drop 31).flatten:=⟨_,rfl⟩
      have FE:=Lib.hid eF
      have FP:Hid (1≤F.length):=Lib.hid (by rw [eF];exact flatK_pos (keptV VV.out) (by have:=H32.out;omega))
      have FL:Hid (F.length≤9223372036854775807):=Lib.hid (by
       have a:=flatK_le (keptV VV.out) (kept L).length
       rw [flatK_all,← eF] at a
       have:=kept_len L
       have:=HN.out
       omega)
      have PL:Hid (Plcs F):=Lib.hid (by rw [eF];exact flat_plcs fun p hp => keptV VV.out p (List.mem_of_mem_drop hp))
      rw [← eF] at OX
      clear eF
      obtain ⟨rb,ro,rc,er,hrow⟩:=OX.out.sl.row (fun e => by
       have:=FP.out
       rw [e] at this
       exact absurd this (by simp))
      have HROW:=Lib.hid hrow
      have GW:=Lib.hid (Grew.trans G GZ)
      clear hrow OX OZ SS2 RR2 GZ
      subst er
      go_wp2_with (at_builtin;go_must (refine wpl_app _ rfl _ _ rfl X.heap.size _ _ [] ((kept L).take 31) rfl (Own.made X (Nat.le_refl _)) rfl (rw_take (RWK.out.grown (GVX.out.alloc _ _)) BK.out (by have:=H32.out;omega)) (fun p hp => vl_pos (keptV VV.out p (List.mem_of_mem_take hp))) (by rw [List.length_take];simp;omega) (by simp) ?_;intro v' w' af;have GA:=Lib.hid (af.grew X (Nat.le_refl _) ((Grew.refl X).alloc _ _));have OA:=Lib.hid af.own;clear af))
      refine (octagon_any F rb ro rc _ (HROW.out.grown GA.out) PL.out FP.out FL.out).mono ?_
      rintro e wq ⟨q,vq,hq,rfl,sq,gq⟩
      have VQ:=Lib.hid (oct_list PL.out hq).1
      have HQ:=Lib.hid hq
      have SQ:=Lib.hid sq
      have OB:=Lib.hid (OA.out.grew gq)
      have GB:=Lib.hid (Grew.trans GA.out gq)
      obtain ⟨qa,qn,qc,rfl,eqn⟩:∃ a n c,vq=.slice a n c∧n=q.length:=by
       obtain ⟨a,c,e⟩:=sq.shape
       exact ⟨a,_,c,e,rfl⟩
      clear hq sq gq OA GA eqn
      go_wp2_with (at_builtin;go_must (refine wpl_app _ rfl _ _ rfl X.heap.size _ _ ([] ++ (kept L).take 31) [q] rfl (OB.out.grew ((Grew.refl _).alloc _ _)) rfl (one_rl SQ.out (by have:=VQ.out.1.2;omega) 1) (fun p hp => by rw [List.mem_singleton.1 hp];exact vl_pos VQ.out) (by rw [List.nil_append,List.length_take];simp;omega) (by have:=GB.out.size;simp;omega) ?_;intro v2 w2 af2;have GC:=Lib.hid (af2.grew X (Nat.le_refl _) (GB.out.alloc _ _));have OC:=Lib.hid af2.own;clear af2))
      go_ret
      have T:TidyIs L ((kept L).take 31 ++ [q]):=Or.inr ⟨by have:=H32.out;omega,q,by rw [← FE.out];exact HQ.out,rfl⟩
      exact ⟨_,_,T,rfl,OC.out.rl ((tidy_vl VV.out T).2.bd (by have:=(tidy_vl VV.out T).1;omega)),Grew.trans GW.out GC.out⟩
end Rg
end Go.Proofs.YtbpgfenippiepaaGreatDoor
namespace Go.Proofs.YtbpgfenippiepaaGreatDoor
open Go.RowKit Go.Shelf Hl
namespace Rg
open Ct (Hf WF ov)
open Ct (LeftS Poly)
def OneSays (S:Pt→Prop) (w:World) (e:Ending) (w':World):Prop:=∃ v sm q,e=.returned (.tuple #[v,.bool sm,.int .i64 0])∧((sm=true∧Poly S q)∨(sm=false∧(¬ ∃ y,S y)∧q=[]))∧Sl w' v q∧Grew w w'
theorem OneSays.of {S:Pt→Prop} {w:World} {e:Ending} {w':World} (h:Ct.PolySays S w e w'):OneSays S w e w':=by
 rcases h with ⟨q,v,hq,he,hs,g⟩ | ⟨hn,v,he,hs,g⟩
 ·exact ⟨v,true,q,he,Or.inl ⟨rfl,hq⟩,hs,g⟩
 ·exact ⟨v,false,[],he,Or.inr ⟨rfl,hn,rfl⟩,hs,g⟩
def LeftSays (L:Rgn) (h:Hf) (w:World) (e:Ending) (w':World):Prop:=∃ u c B,CutC L h c∧e=.returned u∧Own B w' u c∧(w.heap.size≤B∧B≤w'.heap.size)∧Grew w w'
theorem polr_le {L:Rgn} {h:Hf} {n:Nat} {c:Rgn} (g:Col (fun i => PolR (LeftS (nth L i) h)) n c):c.length≤n:=by
 have:=Col.len (c:=1) (fun _ _ => PolR.len) g
 omega
set_option maxRecDepth 100000 in
set_option maxHeartbeats 4000000 in
theorem left_r (L:Rgn) (h:Hf) (v:Value) (w:World) (hs:Rl w v L) (hL:AllV L) (hh:WF h) (hn:L.length≤4000):Calls Tryz.prog 84 #[v,.agg #[.int .i64 h.1,.int .i64 h.2.1,.int .i64 h.2.2]] w (LeftSays L h w):=by
 have VV:=Lib.hid hL
 have HN:=Lib.hid hn
 obtain ⟨a,c,U,rfl,hU,hSl,hRr⟩:=rl_fun hs
 have CC:Hid (∀ i W,i < L.length→Grew w W→Calls Tryz.prog 127 #[U i,.agg #[.int .i64 h.1,.int .i64 h.2.1,.int .i64 h.2.2]] W (OneSays (LeftS (nth L i) h) W)):=Lib.hid (fun i W hi g => (Ct.cut_ok_r (nth L i) h (U i) W ((hSl i hi).grown g) (hL _ (nth_mem hi)) hh).mono fun _ _ => OneSays.of)
 have RR:Hid (∀ i W,i < L.length→Grew w W→∃ b o,a=some ⟨b,o,none⟩∧b < W.heap.size∧W.cell? ⟨b,o+i,none⟩=some (U i)):=Lib.hid (fun i W hi g => by
  obtain ⟨b,o,e,hb,z⟩:=hRr i hi
  exact ⟨b,o,e,Nat.lt_of_lt_of_le hb.1 g.size,(Grew.cell g hb.1).trans z⟩)
 have HZ:Hid (L.length≤9223372036854775807):=Lib.hid (by omega)
 have B0:=Lib.hid (Blk.new w #[.int .i64 h.1,.int .i64 h.2.1,.int .i64 h.2.2] 78)
 obtain ⟨V,hV⟩:∃ V,V=w.alloc (.cells #[.int .i64 h.1,.int .i64 h.2.1,.int .i64 h.2.2] 78):=⟨_,rfl⟩
 have GV:Grew w V:=by rw [hV];exact (Grew.refl w).alloc _ _
 have SV:Hid (w.heap.size+1≤V.heap.size):=Lib.hid (by rw [hV,World.size_alloc];omega)
 have VE:=Lib.hid hV
 rw [← hV] at B0
 clear hs hU hSl hRr hL hn hh
 go_enter Tryz.func84,Tryz.ntmps84
 go_wp2_with fail
 rw [← VE.out]
 clear hV VE
 go_loopw [5,6,7,8,9] (fun u i _ _ _ wr => ∃ (k:Nat) (c:Rgn),k≤L.length∧i=.int .i64 k∧Grew V wr∧Hid (Own V.heap.size wr u c)∧Hid (Col (fun i => PolR (LeftS (nth L i) h)) k c)) (fun _ i _ _ _ _ => L.length - (intOf i).toNat)
 case atStart => exact ⟨0,[],Nat.zero_le _,rfl,Grew.refl _,Lib.hid (Own.nil _ _),Lib.hid rfl⟩
 case round =>
  obtain ⟨k,c,hk,rfl,G,OW,HC⟩:=hrel
  have hz:=HZ.out
  by_cases hlt:k < L.length
  ·have i0:(0:Int)≤(k:Int):=by omega
   have i1:(k:Int) < (L.length:Int):=by omega
   obtain ⟨b,o,rfl,hb,z0⟩:=RR.out k wr hlt (Grew.trans GV G)
   have BW:=Lib.hid (B0.out.grown G)
   obtain ⟨x0,x1,x2⟩:=blk_three BW.out
   have C1:Hid (∀ W,Grew wr W→Calls Tryz.prog 127 #[U k,.agg #[.int .i64 h.1,.int .i64 h.2.1,.int .i64 h.2.2]] W (OneSays (LeftS (nth L k) h) W)):=Lib.hid (fun W g => CC.out k W hlt (Grew.trans (Grew.trans GV G) g))
   obtain ⟨W0,hW0⟩:∃ W0,W0=wr:=⟨wr,rfl⟩
   subst hW0
   go_wp2_with fail
   go_region_held3 (fun w' => w'.cell? ⟨b,o+k,none⟩=some (U k)∧w'.cell? ⟨w.heap.size,0,none⟩=some (.int .i64 h.1)∧w'.cell? ⟨w.heap.size,1,none⟩=some (.int .i64 h.2.1)∧w'.cell? ⟨w.heap.size,2,none⟩=some (.int .i64 h.2.2)) (simp [go_sem, *])
    (first | (go_at_call 127;refine (C1.out _ Hl.gw).mono ?_;rintro e w1 ⟨vq,sm,q,rfl,hq,sq,g1⟩;have GX:Grew W0 w1:=Grew.trans Hl.gw g1;have y0:=(Grew.cell (o:=o+k) GX hb).trans z0;obtain ⟨y1,y2,y3⟩:=blk_three (BW.out.grown GX)))
   all_goals have HQ:=Lib.hid hq
   all_goals have SQ:=Lib.hid sq
   all_goals have G1:=Grew.trans G GX
   all_goals have O1:=Lib.hid (OW.out.grew GX)
   all_goals have GH:=Lib.hid G1
   all_goals clear hq sq g1 OW
   all_goals rcases HQ.out with ⟨rfl,hq⟩ | ⟨rfl,hq,rfl⟩
   all_goals clear HQ
   all_goals have HQ:=Lib.hid hq
   all_goals clear hq
   ·have VQ:Hid (Vl q):=Lib.hid (HQ.out.vl (fun y hy => Ct.left_plc2 (VV.out _ (nth_mem hlt)).2.1 hy))
    have CN:Hid (Col (fun i => PolR (LeftS (nth L i) h)) (k+1) (c ++ [q])):=Lib.hid ⟨c,[q],HC.out,Or.inl ⟨q,HQ.out,rfl⟩,rfl⟩
    have CL:Hid (c.length+1≤4000000):=Lib.hid (by have:=polr_le HC.out;have:=HN.out;omega)
    obtain ⟨qa,qn,qc,rfl,eqn⟩:∃ a n c,vq=.slice a n c∧n=q.length:=by
     obtain ⟨a,c,e⟩:=SQ.out.shape
     exact ⟨a,_,c,e,rfl⟩
    clear eqn GX
    go_wp2_with (at_builtin;go_must (refine wpl_app _ rfl _ _ rfl V.heap.size _ _ c [q] rfl (O1.out.grew ((Grew.refl _).alloc _ _)) rfl (one_rl SQ.out (by have:=VQ.out.1.2;omega) 1) (fun p hp => by rw [List.mem_singleton.1 hp];exact vl_pos VQ.out) (by simpa using CL.out) (by have:=GH.out.size;simp;omega) ?_;intro v' w' af;have GG':=Lib.hid (af.grew V (Nat.le_refl _) (GH.out.alloc _ _));have OWN':=Lib.hid af.own;clear af))
    exact ⟨⟨k+1,_,by omega,by go_num,GG'.out,OWN',CN⟩,by simp [intOf];omega⟩
   ·have CN:Hid (Col (fun i => PolR (LeftS (nth L i) h)) (k+1) (c ++ [])):=Lib.hid ⟨c,[],HC.out,Or.inr ⟨HQ.out,rfl⟩,rfl⟩
    rw [List.append_nil] at CN
    go_wp2_with fail
    exact ⟨⟨k+1,c,by omega,by go_num,G1,O1,CN⟩,by simp [intOf];omega⟩
  ·obtain rfl:k=L.length:=by omega
   have GH:=Lib.hid G
   go_wp2_with fail
   go_ret
   exact ⟨_,c,V.heap.size,HC.out,rfl,OW.out,⟨by have:=SV.out;omega,GH.out.size⟩,Grew.trans GV GH.out⟩
theorem cut_bd {L c:Rgn} {h:Hf} (hL:AllV L) (hn:L.length≤4000) (g:CutC L h c):Bd c:=(cut_vl hL g).bd (by have:=cut_len g;omega)
def TidOf (C:Rgn→Prop) (w:World) (e:Ending) (w':World):Prop:=∃ u r,(∃ c,C c∧TidyIs c r)∧e=.returned u∧Rl w' u r∧Grew w w'
set_option maxRecDepth 100000 in
set_option maxHeartbeats 4000000 in
theorem cutby_r (L:Rgn) (h:Hf) (v:Value) (w:World) (hs:Rl w v L) (hL:AllV L) (hh:WF h) (hn:L.length≤4000):Calls Tryz.prog 46 #[v,.agg #[.int .i64 h.1,.int .i64 h.2.1,.int .i64 h.2.2]] w (TidOf (CutC L h) w):=by
 have LC:=Lib.hid (left_r L h v _ (hs.grown ((Grew.refl w).alloc #[.int .i64 h.1,.int .i64 h.2.1,.int .i64 h.2.2] 78)) hL hh hn)
 have VV:=Lib.hid hL
 have HN:=Lib.hid hn
 obtain ⟨a,c,rfl⟩:=hs.shape
 clear hs hL hh hn
 go_enter Tryz.func46,Tryz.ntmps46
 go_wp2_with fail
 refine LC.out.mono ?_
 rintro e w1 ⟨u,c,B,hc,rfl,ho,hb,g1⟩
 have CC:=Lib.hid hc
 have RC:=Lib.hid (ho.rl (cut_bd VV.out HN.out hc))
 have G1:Grew w w1:=Grew.trans Hl.gw g1
 clear hc ho hb g1 LC
 go_wp2_with fail
 refine (tidied_r c u _ RC.out (cut_vl VV.out CC.out) (by have:=cut_len CC.out;have:=HN.out;omega)).mono ?_
 rintro e w2 ⟨u2,r,ht,rfl,hr,g2⟩
 have T2:=Lib.hid ht
 have R2:=Lib.hid hr
 clear ht hr
 go_wp2_with fail
 go_ret
 exact ⟨u2,r,⟨c,CC.out,T2.out⟩,rfl,R2.out,Grew.trans G1 g2⟩
end Rg
end Go.Proofs.YtbpgfenippiepaaGreatDoor
namespace Go.Proofs.YtbpgfenippiepaaGreatDoor
open Go.RowKit Go.Shelf Hl
namespace Rg
open Ct (Hf WF ov)
open Ct (BothS Poly)
theorem met_sl (p q:List Pt) (v u:Value) (w:World) (hs:Sl w v p) (hu:Sl w u q) (hp:Vl p) (hq:Vl q):Calls Tryz.prog 77 #[v,u] w (Ct.PolS (BothS p q) w):=by
 obtain ⟨b,o,c,rfl,hr⟩:=hs.row (fun e => by
  have:=hp.1.1
  rw [e] at this
  exact absurd this (by simp))
 obtain ⟨b',o',c',rfl,hr'⟩:=hu.row (fun e => by
  have:=hq.1.1
  rw [e] at this
  exact absurd this (by simp))
 exact Ct.met_r p q b o c b' o' c' w hr hr' hp hq
def RowC (a b:Rgn) (i n:Nat) (c:Rgn):Prop:=Col (fun k => PolR (BothS (nth a i) (nth b k))) n c
def MetN (a b:Rgn) (n:Nat) (c:Rgn):Prop:=Col (fun i => RowC a b i b.length) n c
theorem rowc_le {a b c:Rgn} {i n:Nat} (g:RowC a b i n c):c.length≤n:=by
 have:=Col.len (c:=1) (fun _ _ => PolR.len) g
 omega
theorem metn_le {a b c:Rgn} {n:Nat} (g:MetN a b n c):c.length≤b.length * n:=Col.len (fun _ _ h => rowc_le h) g
set_option maxRecDepth 100000 in
set_option maxHeartbeats 4000000 in
theorem metby_r (L M:Rgn) (v u:Value) (w:World) (hs:Rl w v L) (hu:Rl w u M) (hL:VlR L) (hM:VlR M):Calls Tryz.prog 40 #[v,u] w (TidOf (MetC L M) w):=by
 have VL:=Lib.hid hL
 have VM:=Lib.hid hM
 obtain ⟨a,c,U,rfl,hU,hSl,hRr⟩:=rl_fun hs
 obtain ⟨a2,c2,X,rfl,hX,hSl2,hRr2⟩:=rl_fun hu
 have CC:Hid (∀ i k W,i < L.length→k < M.length→Grew w W→Calls Tryz.prog 77 #[U i,X k] W (Ct.PolS (BothS (nth L i) (nth M k)) W)):=Lib.hid (fun i k W hi hk g => met_sl _ _ _ _ W ((hSl i hi).grown g) ((hSl2 k hk).grown g) (hL.2 _ (nth_mem hi)) (hM.2 _ (nth_mem hk)))
 have RR:Hid (∀ i W,i < L.length→Grew w W→∃ b o,a=some ⟨b,o,none⟩∧b < W.heap.size∧W.cell? ⟨b,o+i,none⟩=some (U i)):=Lib.hid (fun i W hi g => by
  obtain ⟨b,o,e,hb,z⟩:=hRr i hi
  exact ⟨b,o,e,Nat.lt_of_lt_of_le hb.1 g.size,(Grew.cell g hb.1).trans z⟩)
 have RX:Hid (∀ i W,i < M.length→Grew w W→∃ b o,a2=some ⟨b,o,none⟩∧b < W.heap.size∧W.cell? ⟨b,o+i,none⟩=some (X i)):=Lib.hid (fun i W hi g => by
  obtain ⟨b,o,e,hb,z⟩:=hRr2 i hi
  exact ⟨b,o,e,Nat.lt_of_lt_of_le hb.1 g.size,(Grew.cell g hb.1).trans z⟩)
 have HZ:Hid (L.length≤32):=Lib.hid hL.1
 have HY:Hid (M.length≤32):=Lib.hid hM.1
 clear hs hU hSl hRr hu hX hSl2 hRr2 hL hM
 go_enter Tryz.func40,Tryz.ntmps40
 go_wp2_with fail
 go_loopw [5,6,7,8,9] (fun u i _ _ _ wr => ∃ (n:Nat) (c:Rgn),n≤L.length∧i=.int .i64 n∧Grew w wr∧Hid (Own w.heap.size wr u c)∧Hid (MetN L M n c)) (fun _ i _ _ _ _ => L.length - (intOf i).toNat)
 case atStart => exact ⟨0,[],Nat.zero_le _,rfl,Grew.refl _,Lib.hid (Own.nil _ _),Lib.hid rfl⟩
 case round =>
  obtain ⟨n,c,hn,rfl,G,OW,HC⟩:=hrel
  have hz:=HZ.out
  by_cases hlt:n < L.length
  ·have i0:(0:Int)≤(n:Int):=by omega
   have i1:(n:Int) < (L.length:Int):=by omega
   go_wp2_with fail
   go_loopw [5,7,8,9] (fun u k _ _ wz => ∃ (m:Nat) (d:Rgn),m≤M.length∧k=.int .i64 m∧Grew w wz∧Hid (Own w.heap.size wz u (c ++ d))∧Hid (RowC L M n m d)) (fun _ k _ _ _ => M.length - (intOf k).toNat)
   case atStart => exact ⟨0,[],Nat.zero_le _,rfl,G,Lib.hid (by rw [List.append_nil];exact OW.out),Lib.hid rfl⟩
   case round =>
    clear OW G
    obtain ⟨m,d,hm,rfl,G,OW,HD⟩:=hrel
    have hy:=HY.out
    by_cases hlm:m < M.length
    ·have j0:(0:Int)≤(m:Int):=by omega
     have j1:(m:Int) < (M.length:Int):=by omega
     obtain ⟨b,o,rfl,hb,z0⟩:=RR.out n wr hlt G
     obtain ⟨b',o',rfl,hb',z1⟩:=RX.out m wr hlm G
     have C1:Hid (∀ W,Grew wr W→Calls Tryz.prog 77 #[U n,X m] W (Ct.PolS (BothS (nth L n) (nth M m)) W)):=Lib.hid (fun W g => CC.out n m W hlt hlm (Grew.trans G g))
     obtain ⟨W0,hW0⟩:∃ W0,W0=wr:=⟨wr,rfl⟩
     subst hW0
     go_wp2_with fail
     go_region_held3 (fun w' => w'.cell? ⟨b,o+n,none⟩=some (U n)∧w'.cell? ⟨b',o'+m,none⟩=some (X m)) (simp [go_sem, *])
      (first | (go_at_call 77;refine (C1.out _ Hl.gw).mono ?_;rintro e w1 ⟨vq,sm,q,rfl,hq,sq,g1⟩;have GX:Grew W0 w1:=Grew.trans Hl.gw g1;have y0:=(Grew.cell (o:=o+n) GX hb).trans z0;have y1:=(Grew.cell (o:=o'+m) GX hb').trans z1))
     all_goals have HQ:=Lib.hid hq
     all_goals have SQ:=Lib.hid sq
     all_goals have G1:=Grew.trans G GX
     all_goals have O1:=Lib.hid (OW.out.grew GX)
     all_goals have GH:=Lib.hid G1
     all_goals clear hq sq g1 OW
     all_goals rcases HQ.out with ⟨rfl,hq⟩ | ⟨rfl,hq,rfl⟩
     all_goals clear HQ
     all_goals have HQ:=Lib.hid hq
     all_goals clear hq
     ·have VQ:Hid (Vl q):=Lib.hid (HQ.out.vl (fun y hy => Ct.both_plc (VL.out.2 _ (nth_mem hlt)).2.1 (VM.out.2 _ (nth_mem hlm)).2.1 hy))
      have CN:Hid (RowC L M n (m+1) (d ++ [q])):=Lib.hid ⟨d,[q],HD.out,Or.inl ⟨q,HQ.out,rfl⟩,rfl⟩
      have CL:Hid ((c ++ d).length+1≤4000000):=Lib.hid (by
       have a:=metn_le HC.out
       have b:=rowc_le HD.out
       have e:=Nat.mul_le_mul HY.out (show n≤32 from by omega)
       rw [List.length_append]
       omega)
      obtain ⟨qa,qn,qc,rfl,eqn⟩:∃ a n c,vq=.slice a n c∧n=q.length:=by
       obtain ⟨a,c,e⟩:=SQ.out.shape
       exact ⟨a,_,c,e,rfl⟩
      clear eqn GX
      go_wp2_with (at_builtin;go_must (refine wpl_app _ rfl _ _ rfl w.heap.size _ _ (c ++ d) [q] rfl (O1.out.grew ((Grew.refl _).alloc _ _)) rfl (one_rl SQ.out (by have:=VQ.out.1.2;omega) 1) (fun p hp => by rw [List.mem_singleton.1 hp];exact vl_pos VQ.out) (by simpa using CL.out) (by have:=GH.out.size;simp;omega) ?_;intro v' w' af;have GG':=Lib.hid (af.grew w (Nat.le_refl _) (GH.out.alloc _ _));have OWN':=Lib.hid af.own;clear af))
      exact ⟨⟨m+1,d ++ [q],by omega,by go_num,GG'.out,Lib.hid (by rw [← List.append_assoc];exact OWN'.out),CN⟩,by simp [intOf];omega⟩
     ·have CN:Hid (RowC L M n (m+1) (d ++ [])):=Lib.hid ⟨d,[],HD.out,Or.inr ⟨HQ.out,rfl⟩,rfl⟩
      rw [List.append_nil] at CN
      go_wp2_with fail
      exact ⟨⟨m+1,d,by omega,by go_num,G1,O1,CN⟩,by simp [intOf];omega⟩
    ·obtain rfl:m=M.length:=by omega
     have CN:Hid (MetN L M (n+1) (c ++ d)):=Lib.hid ⟨c,d,HC.out,HD.out,rfl⟩
     have GH:=Lib.hid G
     go_wp2_with fail
     exact ⟨⟨n+1,c ++ d,by omega,by go_num,GH.out,OW,CN⟩,by simp [intOf];omega⟩
  ·obtain rfl:n=L.length:=by omega
   have MC:Hid (MetC L M c):=Lib.hid HC.out
   have AV:Hid (AllV c):=Lib.hid (met_vl VL.out.2 VM.out.2 HC.out)
   have LE:Hid (c.length≤4000):=Lib.hid (by
    have a:=metn_le HC.out
    have e:=Nat.mul_le_mul HY.out HZ.out
    omega)
   have RC:=Lib.hid (OW.out.rl (AV.out.bd (by have:=LE.out;omega)))
   have GH:=Lib.hid G
   clear OW G HC
   go_wp2_with fail
   refine (tidied_r c _ _ RC.out AV.out LE.out).mono ?_
   rintro e w2 ⟨u2,r,ht,rfl,hr,g2⟩
   have T2:=Lib.hid ht
   have R2:=Lib.hid hr
   clear ht hr
   go_wp2_with fail
   go_ret
   exact ⟨u2,r,⟨c,MC.out,T2.out⟩,rfl,R2.out,Grew.trans GH.out g2⟩
end Rg
end Go.Proofs.YtbpgfenippiepaaGreatDoor
