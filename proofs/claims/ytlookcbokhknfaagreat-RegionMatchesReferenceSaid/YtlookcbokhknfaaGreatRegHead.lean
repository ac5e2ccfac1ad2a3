/-
  The examples at the head of the statements about layer 7.
-/
import Derived.Test.YtlookcbokhknfaaGreatRegCon
namespace Go.Proofs.YtlookcbokhknfaaGreat
open Go.RowKit Go.Shelf Hl
namespace Rg
theorem HasP.one {L:Rgn} {x:Pt} {r r':Bool} {k k':Int} (h:HasP L x r k) (h':HasP L x r' k'):r=r'∧k=k':=by
 rcases h with ⟨a,rfl,rfl⟩ | ⟨a,b,rfl⟩ <;> rcases h' with ⟨a',rfl,rfl⟩ | ⟨a',b',rfl⟩
 ·exact ⟨rfl,rfl⟩
 ·exact absurd a' a
 ·exact absurd a a'
 ·exact ⟨Bool.eq_iff_iff.2 (b.trans b'.symm),rfl⟩
theorem WitP.one {L:Rgn} {p:List Pt} {r r':Bool} {k k':Int} (h:WitP L p r k) (h':WitP L p r' k'):r=r'∧k=k':=by
 rcases h with ⟨a,rfl,rfl⟩ | ⟨a,b,rfl⟩ <;> rcases h' with ⟨a',rfl,rfl⟩ | ⟨a',b',rfl⟩
 ·exact ⟨rfl,rfl⟩
 ·exact absurd a' a
 ·exact absurd a a'
 ·exact ⟨Bool.eq_iff_iff.2 (b.trans b'.symm),rfl⟩
theorem box_eq {p:List Pt} {lo hi lo' hi':Pt} (h:IsBox p lo hi) (h':IsBox p lo' hi'):lo=lo'∧hi=hi':=by
 have a:=h.1.one h'.1
 have b:=h.2.1.one h'.2.1
 have c:=h.2.2.1.one h'.2.2.1
 have d:=h.2.2.2.one h'.2.2.2
 exact ⟨Prod.ext a c,Prod.ext (by omega) (by omega)⟩
theorem BoxP.one {L:Rgn} {lo hi lo' hi':Pt} {r r':Bool} {k k':Int} (h:BoxP L lo hi r k) (h':BoxP L lo' hi' r' k'):(lo=lo'∧hi=hi')∧r=r'∧k=k':=by
 rcases h with ⟨a,rfl,rfl,rfl,rfl⟩ | ⟨a,b,rfl,rfl,rfl,rfl⟩ | ⟨a,b,c,rfl,rfl⟩ <;> rcases h' with ⟨a',rfl,rfl,rfl,rfl⟩ | ⟨a',b',rfl,rfl,rfl,rfl⟩ | ⟨a',b',c',rfl,rfl⟩
 ·exact ⟨⟨rfl,rfl⟩,rfl,rfl⟩
 ·exact absurd a' a
 ·exact absurd a' a
 ·exact absurd a a'
 ·exact ⟨⟨rfl,rfl⟩,rfl,rfl⟩
 ·exact absurd b b'
 ·exact absurd a a'
 ·exact absurd b' b
 ·exact ⟨box_eq c c',rfl,rfl⟩
theorem rans_of {P:Int→Rgn→Prop} {k0:Int} {r0:Rgn} {w:World} {e:Ending} {w':World} (u:∀ k r,P k r→k=k0∧r=r0) (h:AnsR P w e w'):∃ v,e=.returned (.tuple #[v,.int .i64 k0])∧Rl w' v r0∧Grew w w':=by
 obtain ⟨v,k,r,hk,rfl,s,g⟩:=h
 obtain ⟨rfl,rfl⟩:=u k r hk
 exact ⟨v,rfl,s,g⟩
theorem bans_of {P:Bool→Int→Prop} {r0:Bool} {k0:Int} {w:World} {e:Ending} {w':World} (u:∀ r k,P r k→r=r0∧k=k0) (h:AnsB P w e w'):e=.returned (.tuple #[.bool r0,.int .i64 k0])∧Grew w w':=by
 obtain ⟨r,k,hk,rfl,g⟩:=h
 obtain ⟨rfl,rfl⟩:=u r k hk
 exact ⟨rfl,g⟩
theorem xans_of {L:Rgn} {lo hi:Pt} {r:Bool} {k:Int} {w:World} {e:Ending} {w':World} (x:BoxP L lo hi r k) (h:BoxA L w e w'):e=.returned (.tuple #[.agg #[.int .i64 lo.1,.int .i64 lo.2],.agg #[.int .i64 hi.1,.int .i64 hi.2],.bool r,.int .i64 k])∧Grew w w':=by
 obtain ⟨a,b,c,d,hk,rfl,g⟩:=h
 obtain ⟨⟨rfl,rfl⟩,rfl,rfl⟩:=hk.one x
 exact ⟨rfl,g⟩
theorem h_out (K:Code) (v:Value) (w:World) (hs:Rl w v [big]):Calls Tryz.prog 27 #[v,.agg #[.int .i64 1,.int .i64 1],.agg #[.int .i64 2,.int .i64 2]] w fun e w' => ∃ v,e=.returned (.tuple #[v,.int .i64 0])∧Rl w' v left4∧Grew w w' :=
 (K.out [big] (1,1) (2,2) v w hs).mono fun _ _ h => rans_of (fun _ _ g => g.one ex_out) h
theorem h_outno (K:Code) (v:Value) (w:World) (hs:Rl w v [big]):Calls Tryz.prog 27 #[v,.agg #[.int .i64 2,.int .i64 1],.agg #[.int .i64 1,.int .i64 1]] w fun e w' => ∃ v,e=.returned (.tuple #[v,.int .i64 1])∧Rl w' v []∧Grew w w' :=
 (K.out [big] (2,1) (1,1) v w hs).mono fun _ _ h => rans_of (fun _ _ g => g.one ex_outno) h
theorem h_tidy (K:Code) (v:Value) (w:World) (hs:Rl w v [small,big,big]):Calls Tryz.prog 16 #[v] w fun e w' => ∃ v,e=.returned (.tuple #[v,.int .i64 0])∧Rl w' v [big]∧Grew w w' :=
 (K.tidy [small,big,big] v w hs).mono fun _ _ h => rans_of (fun _ _ g => g.one ex_tidy) h
theorem h_sum (K:Code) (v u:Value) (w:World) (hs:Rl w v [small]) (hu:Sl w u one3):Calls Tryz.prog 25 #[v,u] w fun e w' => ∃ v,e=.returned (.tuple #[v,.int .i64 0])∧Rl w' v [moved]∧Grew w w' :=
 (K.sum [small] one3 v u w hs hu (by decide)).mono fun _ _ h => rans_of (fun _ _ g => g.one ex_sum) h
theorem h_has (K:Code) (v:Value) (w:World) (hs:Rl w v left4):Calls Tryz.prog 12 #[v,.agg #[.int .i64 1,.int .i64 3]] w fun e w' => e=.returned (.tuple #[.bool true,.int .i64 0])∧Grew w w' :=
 (K.has left4 (1,3) v w hs).mono fun _ _ h => bans_of (fun _ _ g => g.one ex_has) h
theorem h_hasno (K:Code) (v:Value) (w:World) (hs:Rl w v left4):Calls Tryz.prog 12 #[v,.agg #[.int .i64 2,.int .i64 1]] w fun e w' => e=.returned (.tuple #[.bool false,.int .i64 0])∧Grew w w' :=
 (K.has left4 (2,1) v w hs).mono fun _ _ h => bans_of (fun _ _ g => g.one ex_hasno) h
theorem h_box (K:Code) (v:Value) (w:World) (hs:Rl w v [big,far]):Calls Tryz.prog 31 #[v] w fun e w' => e=.returned (.tuple #[.agg #[.int .i64 0,.int .i64 (-3)],.agg #[.int .i64 9,.int .i64 4],.bool true,.int .i64 0])∧Grew w w' :=
 (K.box [big,far] v w hs).mono fun _ _ h => xans_of ex_box h
theorem h_boxno (K:Code) (w:World):Calls Tryz.prog 31 #[.slice none 0 0] w fun e w' => e=.returned (.tuple #[.agg #[.int .i64 0,.int .i64 0],.agg #[.int .i64 0,.int .i64 0],.bool false,.int .i64 0])∧Grew w w' :=
 (K.box [] _ w (Rl.nil w none 0)).mono fun _ _ h => xans_of ex_boxno h
theorem three_rl {w:World} {u1 u2 u3:Value} {p q r:List Pt} (h1:Sl w u1 p) (h2:Sl w u2 q) (h3:Sl w u3 r) (k1:p.length≤9223372036854775807) (k2:q.length≤9223372036854775807) (k3:r.length≤9223372036854775807) (c:Nat):Rl (w.alloc (.cells #[u1,u2,u3] 23)) (.slice (some ⟨w.heap.size,0,none⟩) 3 c) [p,q,r] :=
 ⟨Or.inr ⟨w.heap.size,0,c,rfl,by simp,fun i hi => by
  have:i=0∨i=1∨i=2:=by simp at hi;omega
  rcases this with rfl | rfl | rfl
  ·exact ⟨u1,by simp [go_sem],h1.grown ((Grew.refl _).alloc _ _)⟩
  ·exact ⟨u2,by simp [go_sem],h2.grown ((Grew.refl _).alloc _ _)⟩
  ·exact ⟨u3,by simp [go_sem],h3.grown ((Grew.refl _).alloc _ _)⟩⟩,by simp,fun x hx => by
  simp only [List.mem_cons,List.not_mem_nil,or_false] at hx
  rcases hx with rfl | rfl | rfl <;> assumption⟩
theorem left4_shape {w:World} {v:Value} (h:Rl w v left4):∃ b o c,v=.slice (some ⟨b,o,none⟩) 4 c:=by
 obtain ⟨⟨h,_⟩ | ⟨b,o,c,rfl,_⟩,_⟩:=h
 ·cases h
 ·exact ⟨b,o,c,rfl⟩
theorem left4_cells {w:World} {b o c:Nat} (h:Rl w (.slice (some ⟨b,o,none⟩) 4 c) left4):b < w.heap.size∧∃ a1 n1 c1 a2 n2 c2,(w.cell? ⟨b,o+1,none⟩=some (.slice a1 n1 c1)∧w.cell? ⟨b,o+2,none⟩=some (.slice a2 n2 c2))∧Sl w (.slice a1 n1 c1) east∧Sl w (.slice a2 n2 c2) south:=by
 obtain ⟨b',o',e,hb,hr⟩:=h.row (by decide)
 injection e with e
 injection e with e1 e2
 subst e1 e2
 obtain ⟨u1,x1,s1⟩:=hr 1 (by decide)
 obtain ⟨u2,x2,s2⟩:=hr 2 (by decide)
 obtain ⟨a1,c1,rfl⟩:=s1.shape
 obtain ⟨a2,c2,rfl⟩:=s2.shape
 exact ⟨hb,_,_,_,_,_,_,⟨x1,x2⟩,s1,s2⟩
theorem wpl_app2 {ops:Array Oper} {rest:List Oper} {o:Oper} {a:Act} {Q:Exit→Act→World→Prop} (w:World) (hgd:o.guard=none) (s x:Operand)
  (ho:o.op=.call { callee:=.builtin .append,args:=#[s,x],argTypes:=#[22,22] }) (b b2 c:Nat) (p q:List Pt)
  (hs:a.eval s=.slice (some ⟨b,0,none⟩) 1 1) (h1:Rl w (.slice (some ⟨b,0,none⟩) 1 1) [p]) (hx:a.eval x=.slice (some ⟨b2,0,none⟩) 1 c) (h2:Rl w (.slice (some ⟨b2,0,none⟩) 1 c) [q])
  (h:∀ v' w',Rl w' v' [p,q]→Grew w w'→wpList Tryz.prog ops Q rest (a.put o.dst v') w'):wpList Tryz.prog ops Q (o :: rest) a w :=
 wpList_plain hgd fun _ hK => by
  obtain ⟨i0,hi,hz0,hz1,hz2⟩:=info_parts info_sl
  have open1:∀ {b c:Nat} {p:List Pt},Rl w (.slice (some ⟨b,0,none⟩) 1 c) [p]→∃ u,w.cell? ⟨b,0,none⟩=some u∧Sl w u p:=fun h => by
   obtain ⟨b',o',e,hb,hr⟩:=h.row (by simp)
   injection e with e
   injection e with e1 e2
   subst e1 e2
   exact hr 0 (by simp)
  obtain ⟨u1,x1,s1⟩:=open1 h1
  obtain ⟨u2,x2,s2⟩:=open1 h2
  have one:∀ {u:Value} {b:Nat},w.cell? ⟨b,0,none⟩=some u→∀ (j:Nat) (z:Value),[u][j]? = some z→w.cell? ((⟨b,0,none⟩:Addr).add j)=some z:=fun {u b} h j z e => by
   have hj:j=0:=by
    have:=(List.getElem?_eq_some_iff.1 e).1
    simp at this
    omega
   subst hj
   have:u=z:=by simpa using e
   rw [← this]
   exact h
  have hr:=run_append_grow (P:=Tryz.prog) w 22 o.type 23 i0 _ Tryz.underlying22 hi hz0 ⟨b,0,none⟩ 1 1 [u1] (by rw [hz1];rfl) (one x1) ⟨b2,0,none⟩ 1 c [u2] (by rw [hz1];rfl) (one x2) (by omega) (by omega) (by rw [hz2];decide)
  have G:∀ cs:Array Value,Grew w (w.drew.alloc (.cells cs 23)):=fun cs => ((Grew.refl w).drew).alloc _ _
  unfold Oper.wp execOp
  simp only [ho,resolve,invoke,builtin,Sem.run_bind,Sem.run_pure,Result.andThen_ok,List.map_toArray,List.map_cons,List.map_nil,hs,hx,hr]
  refine hK _ _ (h _ _ ⟨Or.inr ⟨w.heap.size,0,_,rfl,by simp,fun i hi => ?_⟩,?_⟩ (G _))
  ·have:i=0∨i=1:=by simp at hi;omega
   rcases this with rfl | rfl
   ·exact ⟨u1,by simp [go_sem,Array.getElem?_append],s1.grown (G _)⟩
   ·exact ⟨u2,by simp [go_sem,Array.getElem?_append],s2.grown (G _)⟩
  ·exact ⟨by simp,fun x hx => by
    simp only [List.mem_cons,List.not_mem_nil,or_false] at hx
    rcases hx with rfl | rfl
    ·exact h1.2.2 _ (by simp)
    ·exact h2.2.2 _ (by simp)⟩
set_option maxRecDepth 100000 in
set_option maxHeartbeats 4000000 in
theorem head_true (K:Code) (w:World):Calls Tryz.prog 10 #[] w fun e w' => e=.returned (.bool true)∧Grew w w':=by
 go_enter Tryz.func10,Tryz.ntmps10
 go_wp2_with fail
 refine (at_c 0 0 _).mono ?_
 rintro e w1 ⟨rfl,g1⟩
 have D1:Grew w w1:=Grew.trans (by repeat' (first|(with_reducible first|exact Grew.refl _|assumption|refine Grew.alloc ?_ _ _|refine Grew.drew ?_|refine Grew.drewN ?_ _|refine Grew.setCell ?_ ?_ _)|go_size)) g1
 have G1:Grew w w1:=D1
 clear g1 D1
 go_wp2_with fail
 refine (at_c 4 4 _).mono ?_
 rintro e w2 ⟨rfl,g2⟩
 have D2:Grew w1 w2:=Grew.trans (by repeat' (first|(with_reducible first|exact Grew.refl _|assumption|refine Grew.alloc ?_ _ _|refine Grew.drew ?_|refine Grew.drewN ?_ _|refine Grew.setCell ?_ ?_ _)|go_size)) g2
 have G2:Grew w w2:=Grew.trans G1 D2
 clear g2 D2 G1
 go_wp2_with fail
 refine (lbox_c (0,0) (4,4) _).mono ?_
 rintro e w3 ⟨vB,rfl,s3,g3⟩
 have D3:Grew w2 w3:=Grew.trans (by repeat' (first|(with_reducible first|exact Grew.refl _|assumption|refine Grew.alloc ?_ _ _|refine Grew.drew ?_|refine Grew.drewN ?_ _|refine Grew.setCell ?_ ?_ _)|go_size)) g3
 have G3:Grew w w3:=Grew.trans G2 D3
 clear g3 D3 G2
 have B3:=Lib.hid s3
 clear s3
 obtain ⟨aB,cB,rfl⟩:∃ a c,vB=.slice a 4 c:=B3.out.shape
 go_wp2_with fail
 refine (at_c 1 1 _).mono ?_
 rintro e w4 ⟨rfl,g4⟩
 have D4:Grew w3 w4:=Grew.trans (by repeat' (first|(with_reducible first|exact Grew.refl _|assumption|refine Grew.alloc ?_ _ _|refine Grew.drew ?_|refine Grew.drewN ?_ _|refine Grew.setCell ?_ ?_ _)|go_size)) g4
 have G4:Grew w w4:=Grew.trans G3 D4
 have B4:=Lib.hid (B3.out.grown D4)
 clear B3
 clear g4 D4 G3
 go_wp2_with fail
 refine (at_c 2 2 _).mono ?_
 rintro e w5 ⟨rfl,g5⟩
 have D5:Grew w4 w5:=Grew.trans (by repeat' (first|(with_reducible first|exact Grew.refl _|assumption|refine Grew.alloc ?_ _ _|refine Grew.drew ?_|refine Grew.drewN ?_ _|refine Grew.setCell ?_ ?_ _)|go_size)) g5
 have G5:Grew w w5:=Grew.trans G4 D5
 have B5:=Lib.hid (B4.out.grown D5)
 clear B4
 clear g5 D5 G4
 go_wp2_with fail
 refine (lbox_c (1,1) (2,2) _).mono ?_
 rintro e w6 ⟨vS,rfl,s6,g6⟩
 have D6:Grew w5 w6:=Grew.trans (by repeat' (first|(with_reducible first|exact Grew.refl _|assumption|refine Grew.alloc ?_ _ _|refine Grew.drew ?_|refine Grew.drewN ?_ _|refine Grew.setCell ?_ ?_ _)|go_size)) g6
 have G6:Grew w w6:=Grew.trans G5 D6
 have B6:=Lib.hid (B5.out.grown D6)
 clear B5
 clear g6 D6 G5
 have S6:=Lib.hid s6
 clear s6
 obtain ⟨aS,cS,rfl⟩:∃ a c,vS=.slice a 4 c:=S6.out.shape
 go_wp2_with fail
 refine (at_c 1 1 _).mono ?_
 rintro e w7 ⟨rfl,g7⟩
 have R7:=Lib.hid ((one_rl (p:=big) B6.out (by decide) 1).grown g7)
 have D7:Grew w6 w7:=Grew.trans (by repeat' (first|(with_reducible first|exact Grew.refl _|assumption|refine Grew.alloc ?_ _ _|refine Grew.drew ?_|refine Grew.drewN ?_ _|refine Grew.setCell ?_ ?_ _)|go_size)) g7
 have G7:Grew w w7:=Grew.trans G6 D7
 have B7:=Lib.hid (B6.out.grown D7)
 have S7:=Lib.hid (S6.out.grown D7)
 clear B6 S6
 clear g7 D7 G6
 go_wp2_with fail
 refine (at_c 2 2 _).mono ?_
 rintro e w8 ⟨rfl,g8⟩
 have D8:Grew w7 w8:=Grew.trans (by repeat' (first|(with_reducible first|exact Grew.refl _|assumption|refine Grew.alloc ?_ _ _|refine Grew.drew ?_|refine Grew.drewN ?_ _|refine Grew.setCell ?_ ?_ _)|go_size)) g8
 have G8:Grew w w8:=Grew.trans G7 D8
 have B8:=Lib.hid (B7.out.grown D8)
 have S8:=Lib.hid (S7.out.grown D8)
 have R8:=Lib.hid (R7.out.grown D8)
 clear B7 S7 R7
 clear g8 D8 G7
 go_wp2_with fail
 refine (h_out K _ _ R8.out).mono ?_
 rintro e w9 ⟨va,rfl,sa,g9⟩
 have D9:Grew w8 w9:=Grew.trans (by repeat' (first|(with_reducible first|exact Grew.refl _|assumption|refine Grew.alloc ?_ _ _|refine Grew.drew ?_|refine Grew.drewN ?_ _|refine Grew.setCell ?_ ?_ _)|go_size)) g9
 have G9:Grew w w9:=Grew.trans G8 D9
 have B9:=Lib.hid (B8.out.grown D9)
 have S9:=Lib.hid (S8.out.grown D9)
 have R9:=Lib.hid (R8.out.grown D9)
 clear B8 S8 R8
 clear g9 D9 G8
 have A9:=Lib.hid sa
 clear sa
 obtain ⟨ab,ao,ac,rfl⟩:=left4_shape A9.out
 go_wp2_with fail
 refine (h_tidy K _ _ (three_rl (p:=small) (q:=big) (r:=big) S9.out B9.out B9.out (by decide) (by decide) (by decide) 3)).mono ?_
 rintro e w10 ⟨vt,rfl,st,g10⟩
 have D10:Grew w9 w10:=Grew.trans (by repeat' (first|(with_reducible first|exact Grew.refl _|assumption|refine Grew.alloc ?_ _ _|refine Grew.drew ?_|refine Grew.drewN ?_ _|refine Grew.setCell ?_ ?_ _)|go_size)) g10
 have G10:Grew w w10:=Grew.trans G9 D10
 have B10:=Lib.hid (B9.out.grown D10)
 have S10:=Lib.hid (S9.out.grown D10)
 have R10:=Lib.hid (R9.out.grown D10)
 have A10:=Lib.hid (A9.out.grown D10)
 clear B9 S9 R9 A9
 clear g10 D10 G9
 have Y10:=Lib.hid st
 clear st
 go_wp2_with fail
 refine (at_c 3 0 _).mono ?_
 rintro e w11 ⟨rfl,g11⟩
 have Z11:=Lib.hid ((one_rl (p:=small) S10.out (by decide) 1).grown g11)
 have D11:Grew w10 w11:=Grew.trans (by repeat' (first|(with_reducible first|exact Grew.refl _|assumption|refine Grew.alloc ?_ _ _|refine Grew.drew ?_|refine Grew.drewN ?_ _|refine Grew.setCell ?_ ?_ _)|go_size)) g11
 have G11:Grew w w11:=Grew.trans G10 D11
 have B11:=Lib.hid (B10.out.grown D11)
 have S11:=Lib.hid (S10.out.grown D11)
 have R11:=Lib.hid (R10.out.grown D11)
 have A11:=Lib.hid (A10.out.grown D11)
 have Y11:=Lib.hid (Y10.out.grown D11)
 clear B10 S10 R10 A10 Y10
 clear g11 D11 G10
 go_wp2_with fail
 refine (h_sum K _ _ _ (Z11.out.grown ((Grew.refl _).alloc _ _)) (Sl.of (row_new one3 _ rfl _ _))).mono ?_
 rintro e w12 ⟨vc,rfl,sc,g12⟩
 have D12:Grew w11 w12:=Grew.trans (by repeat' (first|(with_reducible first|exact Grew.refl _|assumption|refine Grew.alloc ?_ _ _|refine Grew.drew ?_|refine Grew.drewN ?_ _|refine Grew.setCell ?_ ?_ _)|go_size)) g12
 have G12:Grew w w12:=Grew.trans G11 D12
 have B12:=Lib.hid (B11.out.grown D12)
 have S12:=Lib.hid (S11.out.grown D12)
 have R12:=Lib.hid (R11.out.grown D12)
 have A12:=Lib.hid (A11.out.grown D12)
 have Y12:=Lib.hid (Y11.out.grown D12)
 have Z12:=Lib.hid (Z11.out.grown D12)
 clear B11 S11 R11 A11 Y11 Z11
 clear g12 D12 G11
 have C12:=Lib.hid sc
 clear sc
 clear Z12
 clear S12
 go_wp2_with fail
 refine (at_c 1 3 _).mono ?_
 rintro e w13 ⟨rfl,g13⟩
 have D13:Grew w12 w13:=Grew.trans (by repeat' (first|(with_reducible first|exact Grew.refl _|assumption|refine Grew.alloc ?_ _ _|refine Grew.drew ?_|refine Grew.drewN ?_ _|refine Grew.setCell ?_ ?_ _)|go_size)) g13
 have G13:Grew w w13:=Grew.trans G12 D13
 have B13:=Lib.hid (B12.out.grown D13)
 have R13:=Lib.hid (R12.out.grown D13)
 have A13:=Lib.hid (A12.out.grown D13)
 have Y13:=Lib.hid (Y12.out.grown D13)
 have C13:=Lib.hid (C12.out.grown D13)
 clear B12 R12 A12 Y12 C12
 clear g13 D13 G12
 go_wp2_with fail
 refine (h_has K _ _ A13.out).mono ?_
 rintro e w14 ⟨rfl,g14⟩
 have D14:Grew w13 w14:=Grew.trans (by repeat' (first|(with_reducible first|exact Grew.refl _|assumption|refine Grew.alloc ?_ _ _|refine Grew.drew ?_|refine Grew.drewN ?_ _|refine Grew.setCell ?_ ?_ _)|go_size)) g14
 have G14:Grew w w14:=Grew.trans G13 D14
 have B14:=Lib.hid (B13.out.grown D14)
 have R14:=Lib.hid (R13.out.grown D14)
 have A14:=Lib.hid (A13.out.grown D14)
 have Y14:=Lib.hid (Y13.out.grown D14)
 have C14:=Lib.hid (C13.out.grown D14)
 clear B13 R13 A13 Y13 C13
 clear g14 D14 G13
 go_wp2_with fail
 refine (at_c 2 1 _).mono ?_
 rintro e w15 ⟨rfl,g15⟩
 have D15:Grew w14 w15:=Grew.trans (by repeat' (first|(with_reducible first|exact Grew.refl _|assumption|refine Grew.alloc ?_ _ _|refine Grew.drew ?_|refine Grew.drewN ?_ _|refine Grew.setCell ?_ ?_ _)|go_size)) g15
 have G15:Grew w w15:=Grew.trans G14 D15
 have B15:=Lib.hid (B14.out.grown D15)
 have R15:=Lib.hid (R14.out.grown D15)
 have A15:=Lib.hid (A14.out.grown D15)
 have Y15:=Lib.hid (Y14.out.grown D15)
 have C15:=Lib.hid (C14.out.grown D15)
 clear B14 R14 A14 Y14 C14
 clear g15 D15 G14
 go_wp2_with fail
 refine (h_hasno K _ _ A15.out).mono ?_
 rintro e w16 ⟨rfl,g16⟩
 have D16:Grew w15 w16:=Grew.trans (by repeat' (first|(with_reducible first|exact Grew.refl _|assumption|refine Grew.alloc ?_ _ _|refine Grew.drew ?_|refine Grew.drewN ?_ _|refine Grew.setCell ?_ ?_ _)|go_size)) g16
 have G16:Grew w w16:=Grew.trans G15 D16
 have B16:=Lib.hid (B15.out.grown D16)
 have R16:=Lib.hid (R15.out.grown D16)
 have A16:=Lib.hid (A15.out.grown D16)
 have Y16:=Lib.hid (Y15.out.grown D16)
 have C16:=Lib.hid (C15.out.grown D16)
 clear B15 R15 A15 Y15 C15
 clear g16 D16 G15
 go_wp2_with fail
 refine (at_c 9 (-3) _).mono ?_
 rintro e w17 ⟨rfl,g17⟩
 have D17:Grew w16 w17:=Grew.trans (by repeat' (first|(with_reducible first|exact Grew.refl _|assumption|refine Grew.alloc ?_ _ _|refine Grew.drew ?_|refine Grew.drewN ?_ _|refine Grew.setCell ?_ ?_ _)|go_size)) g17
 have G17:Grew w w17:=Grew.trans G16 D17
 have B17:=Lib.hid (B16.out.grown D17)
 have R17:=Lib.hid (R16.out.grown D17)
 have A17:=Lib.hid (A16.out.grown D17)
 have Y17:=Lib.hid (Y16.out.grown D17)
 have C17:=Lib.hid (C16.out.grown D17)
 clear B16 R16 A16 Y16 C16
 clear g17 D17 G16
 have QF:Hid (Rl ((w17.alloc (.cells #[.int .i64 9,.int .i64 (-3)] 27)).alloc (.cells #[.slice (some ⟨w17.heap.size,0,none⟩) 1 1] 23)) (.slice (some ⟨w17.heap.size+1,0,none⟩) 1 1) [far]):=Lib.hid (by
  have h:=one_rl (p:=far) (Sl.of (c:=1) (row_new far #[.int .i64 9,.int .i64 (-3)] rfl w17 27)) (by decide) 1
  rw [World.size_alloc] at h
  exact h)
 go_wp2_with (at_builtin;go_must (refine wpl_app2 _ rfl _ _ rfl _ _ _ big far rfl (R17.out.grown (((Grew.refl _).alloc _ _).alloc _ _)) rfl QF.out ?_;intro va' wa' rla ga'))
 have GA:Grew w17 wa':=Grew.trans (by repeat' (first|(with_reducible first|exact Grew.refl _|assumption|refine Grew.alloc ?_ _ _|refine Grew.drew ?_|refine Grew.drewN ?_ _|refine Grew.setCell ?_ ?_ _)|go_size)) ga'
 have XA:=Lib.hid rla
 clear rla ga'
 go_wp2_with fail
 refine (h_box K _ _ XA.out).mono ?_
 rintro e w18 ⟨rfl,g18⟩
 have D18:Grew w17 w18:=Grew.trans GA g18
 have G18:Grew w w18:=Grew.trans G17 D18
 have B18:=Lib.hid (B17.out.grown D18)
 have R18:=Lib.hid (R17.out.grown D18)
 have A18:=Lib.hid (A17.out.grown D18)
 have Y18:=Lib.hid (Y17.out.grown D18)
 have C18:=Lib.hid (C17.out.grown D18)
 clear B17 R17 A17 Y17 C17
 clear g18 D18 GA XA G17
 go_wp2_with fail
 refine (h_boxno K _).mono ?_
 rintro e w19 ⟨rfl,g19⟩
 have lo0_19:w19.cell? ⟨w18.heap.size,0,none⟩=some (.int .i64 0):=by refine (Grew.cell g19 ?_).trans ?_ <;> first | omega | (simp only [World.size_alloc];omega) | (simp [go_sem, *];done)
 have lo1_19:w19.cell? ⟨w18.heap.size,1,none⟩=some (.int .i64 (-3)):=by refine (Grew.cell g19 ?_).trans ?_ <;> first | omega | (simp only [World.size_alloc];omega) | (simp [go_sem, *];done)
 have hi0_19:w19.cell? ⟨w18.heap.size+1,0,none⟩=some (.int .i64 9):=by refine (Grew.cell g19 ?_).trans ?_ <;> first | omega | (simp only [World.size_alloc];omega) | (simp [go_sem, *];done)
 have hi1_19:w19.cell? ⟨w18.heap.size+1,1,none⟩=some (.int .i64 4):=by refine (Grew.cell g19 ?_).trans ?_ <;> first | omega | (simp only [World.size_alloc];omega) | (simp [go_sem, *];done)
 have z19:w18.heap.size+1+1≤w19.heap.size:=by have h:=g19.size;simp [go_sem] at h;omega
 have D19:Grew w18 w19:=Grew.trans (by repeat' (first|(with_reducible first|exact Grew.refl _|assumption|refine Grew.alloc ?_ _ _|refine Grew.drew ?_|refine Grew.drewN ?_ _|refine Grew.setCell ?_ ?_ _)|go_size)) g19
 have G19:Grew w w19:=Grew.trans G18 D19
 have B19:=Lib.hid (B18.out.grown D19)
 have R19:=Lib.hid (R18.out.grown D19)
 have A19:=Lib.hid (A18.out.grown D19)
 have Y19:=Lib.hid (Y18.out.grown D19)
 have C19:=Lib.hid (C18.out.grown D19)
 clear B18 R18 A18 Y18 C18
 clear g19 D19 G18
 clear B19
 go_wp2_with fail
 refine (at_c 2 1 _).mono ?_
 rintro e w20 ⟨rfl,g20⟩
 have D20:Grew w19 w20:=Grew.trans (by repeat' (first|(with_reducible first|exact Grew.refl _|assumption|refine Grew.alloc ?_ _ _|refine Grew.drew ?_|refine Grew.drewN ?_ _|refine Grew.setCell ?_ ?_ _)|go_size)) g20
 have G20:Grew w w20:=Grew.trans G19 D20
 have lo0_20:w20.cell? ⟨w18.heap.size,0,none⟩=some (.int .i64 0):=(Grew.cell D20 (by omega)).trans lo0_19
 have lo1_20:w20.cell? ⟨w18.heap.size,1,none⟩=some (.int .i64 (-3)):=(Grew.cell D20 (by omega)).trans lo1_19
 have hi0_20:w20.cell? ⟨w18.heap.size+1,0,none⟩=some (.int .i64 9):=(Grew.cell D20 (by omega)).trans hi0_19
 have hi1_20:w20.cell? ⟨w18.heap.size+1,1,none⟩=some (.int .i64 4):=(Grew.cell D20 (by omega)).trans hi1_19
 have z20:w18.heap.size+1+1≤w20.heap.size:=Nat.le_trans z19 D20.size
 clear z19 lo0_19 lo1_19 hi0_19 hi1_19
 have R20:=Lib.hid (R19.out.grown D20)
 have A20:=Lib.hid (A19.out.grown D20)
 have Y20:=Lib.hid (Y19.out.grown D20)
 have C20:=Lib.hid (C19.out.grown D20)
 clear R19 A19 Y19 C19
 clear g20 D20 G19
 go_wp2_with fail
 refine (at_c 1 1 _).mono ?_
 rintro e w21 ⟨rfl,g21⟩
 have D21:Grew w20 w21:=Grew.trans (by repeat' (first|(with_reducible first|exact Grew.refl _|assumption|refine Grew.alloc ?_ _ _|refine Grew.drew ?_|refine Grew.drewN ?_ _|refine Grew.setCell ?_ ?_ _)|go_size)) g21
 have G21:Grew w w21:=Grew.trans G20 D21
 have lo0_21:w21.cell? ⟨w18.heap.size,0,none⟩=some (.int .i64 0):=(Grew.cell D21 (by omega)).trans lo0_20
 have lo1_21:w21.cell? ⟨w18.heap.size,1,none⟩=some (.int .i64 (-3)):=(Grew.cell D21 (by omega)).trans lo1_20
 have hi0_21:w21.cell? ⟨w18.heap.size+1,0,none⟩=some (.int .i64 9):=(Grew.cell D21 (by omega)).trans hi0_20
 have hi1_21:w21.cell? ⟨w18.heap.size+1,1,none⟩=some (.int .i64 4):=(Grew.cell D21 (by omega)).trans hi1_20
 have z21:w18.heap.size+1+1≤w21.heap.size:=Nat.le_trans z20 D21.size
 clear z20 lo0_20 lo1_20 hi0_20 hi1_20
 have R21:=Lib.hid (R20.out.grown D21)
 have A21:=Lib.hid (A20.out.grown D21)
 have Y21:=Lib.hid (Y20.out.grown D21)
 have C21:=Lib.hid (C20.out.grown D21)
 clear R20 A20 Y20 C20
 clear g21 D21 G20
 go_wp2_with fail
 refine (h_outno K _ _ R21.out).mono ?_
 rintro e w22 ⟨vn,rfl,_,g22⟩
 have D22:Grew w21 w22:=Grew.trans (by repeat' (first|(with_reducible first|exact Grew.refl _|assumption|refine Grew.alloc ?_ _ _|refine Grew.drew ?_|refine Grew.drewN ?_ _|refine Grew.setCell ?_ ?_ _)|go_size)) g22
 have G22:Grew w w22:=Grew.trans G21 D22
 have lo0_22:w22.cell? ⟨w18.heap.size,0,none⟩=some (.int .i64 0):=(Grew.cell D22 (by omega)).trans lo0_21
 have lo1_22:w22.cell? ⟨w18.heap.size,1,none⟩=some (.int .i64 (-3)):=(Grew.cell D22 (by omega)).trans lo1_21
 have hi0_22:w22.cell? ⟨w18.heap.size+1,0,none⟩=some (.int .i64 9):=(Grew.cell D22 (by omega)).trans hi0_21
 have hi1_22:w22.cell? ⟨w18.heap.size+1,1,none⟩=some (.int .i64 4):=(Grew.cell D22 (by omega)).trans hi1_21
 have z22:w18.heap.size+1+1≤w22.heap.size:=Nat.le_trans z21 D22.size
 clear z21 lo0_21 lo1_21 hi0_21 hi1_21
 have R22:=Lib.hid (R21.out.grown D22)
 have A22:=Lib.hid (A21.out.grown D22)
 have Y22:=Lib.hid (Y21.out.grown D22)
 have C22:=Lib.hid (C21.out.grown D22)
 clear R21 A21 Y21 C21
 clear g22 D22 G21
 have RS:Hid (∀ (L M:Rgn) (v u:Value) (W:World),Rl W v L→Rl W u M→L=M→Calls Tryz.prog 18 #[v,u] W fun e w' => e=.returned (.bool true)∧Grew W w'):=Lib.hid (fun L M v u W h1 h2 e => (rsame_c L M v u W h1 h2).mono fun _ _ t => t.to e)
 have LB:=Lib.hid (lbox_c)
 have AT:=Lib.hid (at_c)
 go_wp2_with fail
 go_region_held3 (fun w' => w'.cell? ⟨w18.heap.size,0,none⟩=some (.int .i64 0)∧w'.cell? ⟨w18.heap.size,1,none⟩=some (.int .i64 (-3))∧w'.cell? ⟨w18.heap.size+1,0,none⟩=some (.int .i64 9)∧w'.cell? ⟨w18.heap.size+1,1,none⟩=some (.int .i64 4)) (simp [go_sem, *])
  (first | (go_at_call 18;refine (RS.out _ _ _ _ _ (by first | exact Y22.out.grown (by repeat' (first|(with_reducible first|exact Grew.refl _|assumption|refine Grew.alloc ?_ _ _|refine Grew.drew ?_|refine Grew.drewN ?_ _|refine Grew.setCell ?_ ?_ _)|go_size)) | exact C22.out.grown (by repeat' (first|(with_reducible first|exact Grew.refl _|assumption|refine Grew.alloc ?_ _ _|refine Grew.drew ?_|refine Grew.drewN ?_ _|refine Grew.setCell ?_ ?_ _)|go_size))) (by first | exact R22.out.grown (by repeat' (first|(with_reducible first|exact Grew.refl _|assumption|refine Grew.alloc ?_ _ _|refine Grew.drew ?_|refine Grew.drewN ?_ _|refine Grew.setCell ?_ ?_ _)|go_size)) | exact OB.out) (by rfl)).mono ?_;rintro e wn ⟨rfl,gn⟩;have ga:Grew w22 wn:=Grew.trans (by repeat' (first|(with_reducible first|exact Grew.refl _|assumption|refine Grew.alloc ?_ _ _|refine Grew.drew ?_|refine Grew.drewN ?_ _|refine Grew.setCell ?_ ?_ _)|go_size)) gn;have zn:w18.heap.size+1+1≤wn.heap.size:=Nat.le_trans z22 ga.size;have zb0:w18.heap.size < wn.heap.size:=(by omega);have zb1:w18.heap.size+1 < wn.heap.size:=(by omega);have l0:=(Grew.cell ga (by omega)).trans lo0_22;have l1:=(Grew.cell ga (by omega)).trans lo1_22;have l2:=(Grew.cell ga (by omega)).trans hi0_22;have l3:=(Grew.cell ga (by omega)).trans hi1_22) | (go_at_call 43;refine (LB.out (4,1) (5,2) _).mono ?_;rintro e wn ⟨vx,rfl,sx,gn⟩;have ga:Grew w22 wn:=Grew.trans (by repeat' (first|(with_reducible first|exact Grew.refl _|assumption|refine Grew.alloc ?_ _ _|refine Grew.drew ?_|refine Grew.drewN ?_ _|refine Grew.setCell ?_ ?_ _)|go_size)) gn;have zn:w18.heap.size+1+1≤wn.heap.size:=Nat.le_trans z22 ga.size;have zb0:w18.heap.size < wn.heap.size:=(by omega);have zb1:w18.heap.size+1 < wn.heap.size:=(by omega);have l0:=(Grew.cell ga (by omega)).trans lo0_22;have l1:=(Grew.cell ga (by omega)).trans lo1_22;have l2:=(Grew.cell ga (by omega)).trans hi0_22;have l3:=(Grew.cell ga (by omega)).trans hi1_22;obtain ⟨xa,xc,rfl⟩:∃ a c,vx=.slice a 4 c:=sx.shape;have OB:=Lib.hid (one_rl (p:=moved) sx (by decide) 1);clear sx) | (go_at_call 40;refine (AT.out _ _ _).mono ?_;rintro e wn ⟨rfl,gn⟩;have ga:Grew w22 wn:=Grew.trans (by repeat' (first|(with_reducible first|exact Grew.refl _|assumption|refine Grew.alloc ?_ _ _|refine Grew.drew ?_|refine Grew.drewN ?_ _|refine Grew.setCell ?_ ?_ _)|go_size)) gn;have zn:w18.heap.size+1+1≤wn.heap.size:=Nat.le_trans z22 ga.size;have zb0:w18.heap.size < wn.heap.size:=(by omega);have zb1:w18.heap.size+1 < wn.heap.size:=(by omega);have l0:=(Grew.cell ga (by omega)).trans lo0_22;have l1:=(Grew.cell ga (by omega)).trans lo1_22;have l2:=(Grew.cell ga (by omega)).trans hi0_22;have l3:=(Grew.cell ga (by omega)).trans hi1_22))
 clear LB RS
 have GV:Grew w wn:=Grew.trans G22 ga
 have AV:=A22.out.grown ga
 obtain ⟨hb,a1,n1,c1,a2,n2,c2,⟨q1,q2⟩,e1,e2⟩:=left4_cells AV
 have E1:=Lib.hid e1
 have E2:=Lib.hid e2
 clear e1 e2 AV
 have LB:=Lib.hid (lbox_c)
 have RS:Hid (∀ (p q:List Pt) (v u:Value) (W:World),Sl W v p→Sl W u q→p=q→p.length≤9223372036854775807→Calls Tryz.prog 44 #[v,u] W fun e w' => e=.returned (.bool true)∧Grew W w'):=Lib.hid (fun p q v u W h1 h2 e h3 => (same_any p q v u W h1 h2 h3).mono fun _ _ t => t.to e)
 clear lo0_22
 clear lo1_22
 clear hi0_22
 clear hi1_22
 clear z22
 clear R22
 clear Y22
 clear C22
 clear A22
 clear l0 l1 l2 l3 zb0 zb1 zn ga gn
 go_wp2_with fail
 go_region_held3 (fun w' => w'.cell? ⟨ab,ao+1,none⟩=some (.slice a1 n1 c1)∧w'.cell? ⟨ab,ao+2,none⟩=some (.slice a2 n2 c2)) (simp [go_sem, *])
  (first | (go_at_call 44;refine (RS.out _ _ _ _ _ (by first | exact E1.out.grown (by repeat' (first|(with_reducible first|exact Grew.refl _|assumption|refine Grew.alloc ?_ _ _|refine Grew.drew ?_|refine Grew.drewN ?_ _|refine Grew.setCell ?_ ?_ _)|go_size)) | exact E2.out.grown (by repeat' (first|(with_reducible first|exact Grew.refl _|assumption|refine Grew.alloc ?_ _ _|refine Grew.drew ?_|refine Grew.drewN ?_ _|refine Grew.setCell ?_ ?_ _)|go_size))) (by first | exact OB.out | exact Sl.of (row_new south _ rfl _ _)) (by rfl) (by decide)).mono ?_;rintro e wm ⟨rfl,gm⟩;have gb:Grew wn wm:=Grew.trans (by repeat' (first|(with_reducible first|exact Grew.refl _|assumption|refine Grew.alloc ?_ _ _|refine Grew.drew ?_|refine Grew.drewN ?_ _|refine Grew.setCell ?_ ?_ _)|go_size)) gm;have zm:ab < wm.heap.size:=Nat.lt_of_lt_of_le hb gb.size;have l1:=(Grew.cell gb hb).trans q1;have l2:=(Grew.cell gb hb).trans q2) | (go_at_call 43;refine (LB.out (3,0) (4,4) _).mono ?_;rintro e wm ⟨vx,rfl,sx,gm⟩;have gb:Grew wn wm:=Grew.trans (by repeat' (first|(with_reducible first|exact Grew.refl _|assumption|refine Grew.alloc ?_ _ _|refine Grew.drew ?_|refine Grew.drewN ?_ _|refine Grew.setCell ?_ ?_ _)|go_size)) gm;have zm:ab < wm.heap.size:=Nat.lt_of_lt_of_le hb gb.size;have l1:=(Grew.cell gb hb).trans q1;have l2:=(Grew.cell gb hb).trans q2;have OB:=Lib.hid sx;clear sx) | (go_at_call 40;refine (AT.out _ _ _).mono ?_;rintro e wm ⟨rfl,gm⟩;have gb:Grew wn wm:=Grew.trans (by repeat' (first|(with_reducible first|exact Grew.refl _|assumption|refine Grew.alloc ?_ _ _|refine Grew.drew ?_|refine Grew.drewN ?_ _|refine Grew.setCell ?_ ?_ _)|go_size)) gm;have zm:ab < wm.heap.size:=Nat.lt_of_lt_of_le hb gb.size;have l1:=(Grew.cell gb hb).trans q1;have l2:=(Grew.cell gb hb).trans q2))
 have GE:Grew w wm:=Grew.trans GV gb
 clear l1 l2 zm gb gm
 go_wp2_with fail
 go_ret
 exact ⟨rfl,GE⟩
end Rg
end Go.Proofs.YtlookcbokhknfaaGreat
