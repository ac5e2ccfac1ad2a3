/-
  Valid of the reference of layer 7.
  Few of the reference of layer 7; usable.
  Small functions of the statements about layer 10: at, single, usable.
  The examples at the head of the statements about layer 10, under what package ring owes.
-/
import Derived.Test.YtbpgfenippiepaaGreatDoorRegT
import Derived.Test.YtbpgfenippiepaaGreatDoorHullInB
import Derived.Test.YtbpgfenippiepaaGreatDoorRngPlainB
import Derived.Test.YtbpgfenippiepaaGreatDoorRegH
import Derived.Test.YtbpgfenippiepaaGreatDoorMinkLnG
namespace Go.Proofs.YtbpgfenippiepaaGreatDoor
open Go.RowKit Go.Shelf Hl
namespace Rg
set_option maxRecDepth 100000 in
set_option maxHeartbeats 4000000 in
theorem polygons_r (L:Rgn) (v:Value) (w:World) (hs:Rl w v L):Calls Tryz.prog 76 #[v] w (Tells (AllV L) w):=by
 have hB:=hs.2
 have LL:=Lib.hid hB.1
 obtain ⟨a,c,U,rfl,hU,hSl,hRr⟩:=rl_fun hs
 have SC:Hid (∀ i W,i < L.length→Grew w W→Calls Tryz.prog 70 #[U i] W (Tells (Vl (nth L i)) W)):=Lib.hid (fun i W hi g => rvalid_any (nth L i) (U i) W ((hSl i hi).grown g) (hB.2 _ (nth_mem hi)))
 have RR:Hid (∀ i W,i < L.length→Grew w W→∃ b o,a=some ⟨b,o,none⟩∧b < W.heap.size∧W.cell? ⟨b,o+i,none⟩=some (U i)):=Lib.hid (fun i W hi g => by
  obtain ⟨b,o,e,hb,z⟩:=hRr i hi
  exact ⟨b,o,e,Nat.lt_of_lt_of_le hb.1 g.size,(Grew.cell g hb.1).trans z⟩)
 have NN:Hid ((∀ i,i < L.length→Vl (nth L i))→AllV L):=Lib.hid (fun h p hp => by
  obtain ⟨i,hi,rfl⟩:=mem_nth hp
  exact h i hi)
 have NY:Hid (∀ i,i < L.length→¬ Vl (nth L i)→¬ AllV L):=Lib.hid (fun i hi h k => h (k _ (nth_mem hi)))
 clear hs hU hSl hRr hB
 go_enter Tryz.func76,Tryz.ntmps76
 go_wp2_with fail
 go_loopw [3,4] (fun i _ wr => ∃ k:Nat,k≤L.length∧i=.int .i64 k∧Grew w wr∧Hid (∀ j,j < k→Vl (nth L j))) (fun i _ _ => L.length - (intOf i).toNat)
 case atStart => exact ⟨0,Nat.zero_le _,rfl,Grew.refl _,Lib.hid (fun j hj => by omega)⟩
 case round =>
  obtain ⟨k,hk,rfl,G,D⟩:=hrel
  have hz:=LL.out
  by_cases hlt:k < L.length
  ·obtain ⟨b,o,rfl,hb,z0⟩:=RR.out k _ hlt G
   have i0:(0:Int)≤(k:Int):=by omega
   have i1:(k:Int) < (L.length:Int):=by omega
   have CC:=Lib.hid (SC.out k _ hlt G)
   go_wp2_with fail
   refine CC.out.mono ?_
   rintro e w1 ⟨r,rfl,hr,g1⟩
   have G1:Grew w w1:=Grew.trans G g1
   cases r
   ·have F:=Lib.hid (NY.out k hlt (fun e => by
     have:=hr.2 e
     cases this))
    clear hr g1
    go_wp2_with fail
    go_ret
    exact Tells.no F.out rfl G1
   ·have F:=Lib.hid (hr.1 rfl)
    clear hr g1
    go_wp2_with fail
    go_roundw
    case rel => exact ⟨k+1,by omega,by go_num,G1,Lib.hid (fun j hj => by
     by_cases e:j=k
     ·rw [e];exact F.out
     ·exact D.out j (by omega))⟩
    case measure => simp [intOf];omega
  ·obtain rfl:k=L.length:=by omega
   have F:=Lib.hid (NN.out D.out)
   go_wp2_with fail
   go_ret
   exact Tells.yes F.out rfl G
theorem rref_valid (L:Rgn) (v:Value) (w:World) (hs:Rl w v L):Calls Tryz.prog 39 #[v] w (Tells (VlR L) w):=by
 have PC:=Lib.hid (polygons_r L v w hs)
 obtain ⟨a,c,rfl⟩:=hs.shape
 clear hs
 by_cases h:L.length≤32
 ·have hz:(L.length:Int)≤32:=by omega
  have HL:=Lib.hid h
  go_enter Tryz.func39,Tryz.ntmps39
  go_wp2_with fail
  refine PC.out.mono ?_
  rintro e w1 ⟨r,rfl,hr,g1⟩
  have F:Hid (r=true↔VlR L):=Lib.hid ⟨fun e => ⟨HL.out,hr.1 e⟩,fun k => hr.2 k.2⟩
  clear hr
  go_wp2_with fail
  go_ret
  exact ⟨r,rfl,F.out,g1⟩
 ·have hz:¬ (L.length:Int)≤32:=by omega
  have F:Hid (¬ VlR L):=Lib.hid (fun k => h k.1)
  go_enter Tryz.func39,Tryz.ntmps39
  go_wp2_with fail
  go_ret
  exact Tells.no F.out rfl (Grew.refl _)
end Rg
end Go.Proofs.YtbpgfenippiepaaGreatDoor
namespace Go.Proofs.YtbpgfenippiepaaGreatDoor
open Go.RowKit Go.Shelf Hl
namespace Rg
def FewSays (L:Rgn) (w:World) (e:Ending) (w':World):Prop:=∃ r,e=.returned (.bool r)∧(r=true→L.length≤40)∧Grew w w'
set_option maxRecDepth 100000 in
set_option maxHeartbeats 4000000 in
theorem few_r (L:Rgn) (v:Value) (w:World) (hs:Rl w v L):Calls Tryz.prog 10 #[v] w (FewSays L w):=by
 have LL:=Lib.hid hs.2.1
 obtain ⟨a,c,U,rfl,hU,hSl,hRr⟩:=rl_fun hs
 have RR:Hid (∀ i W,i < L.length→Grew w W→∃ b o n a' c',a=some ⟨b,o,none⟩∧b < W.heap.size∧W.cell? ⟨b,o+i,none⟩=some (.slice a' n c')):=Lib.hid (fun i W hi g => by
  obtain ⟨b,o,e,hb,z⟩:=hRr i hi
  obtain ⟨a',n,c',e'⟩:=hU i
  exact ⟨b,o,n,a',c',e,Nat.lt_of_lt_of_le hb.1 g.size,(Grew.cell g hb.1).trans (by rw [z,e'])⟩)
 clear hs hU hSl hRr
 go_enter Tryz.func10,Tryz.ntmps10
 go_wp2_with fail
 go_loopw [3,4] (fun s i wr => ∃ (k:Nat) (z:Int),k≤L.length∧k≤41∧i=.int .i64 k∧s=.int .i64 z∧Grew w wr) (fun _ i _ => L.length - (intOf i).toNat)
 case atStart => exact ⟨0,0,Nat.zero_le _,by omega,rfl,rfl,Grew.refl _⟩
 case round =>
  obtain ⟨k,z,hk,hk2,rfl,rfl,G⟩:=hrel
  have hz:=LL.out
  by_cases hlt:k < L.length
  ·have i1:(k:Int) < (L.length:Int):=by omega
   by_cases h41:k < 41
   ·obtain ⟨b,o,n,a',c',rfl,hb,z0⟩:=RR.out k _ hlt G
    have i0:(0:Int)≤(k:Int):=by omega
    have i2:(k:Int) < 41:=by omega
    go_wp2_with fail
    go_roundw
    case rel => exact ⟨k+1,_,by omega,by omega,by go_num,rfl,G⟩
    case measure => simp [intOf];omega
   ·have i2:¬ (k:Int) < 41:=by omega
    have j1:¬ (L.length:Int)≤40:=by omega
    go_wp2_with fail
    go_ret
    exact ⟨_,rfl,fun h => by (first | cases h | omega),G⟩
  ·obtain rfl:k=L.length:=by omega
   by_cases h40:L.length≤40
   ·have j1:(L.length:Int)≤40:=by omega
    by_cases h300:z≤300
    ·go_wp2_with fail
     go_ret
     exact ⟨_,rfl,fun _ => h40,G⟩
    ·go_wp2_with fail
     go_ret
     exact ⟨_,rfl,fun _ => h40,G⟩
   ·have j1:¬ (L.length:Int)≤40:=by omega
    go_wp2_with fail
    go_ret
    exact ⟨_,rfl,fun h => by (first | cases h | omega),G⟩
end Rg
end Go.Proofs.YtbpgfenippiepaaGreatDoor
namespace Go.Proofs.YtbpgfenippiepaaGreatDoor
open Go.RowKit Go.Shelf Hl
namespace Rn
open Rg (Rgn VlR AllV Rl nth)
theorem at_c (x y:Int) (w:World):Calls Tryz.prog 18 #[.int .i64 x,.int .i64 y] w fun e w' => e=.returned (.agg #[.int .i64 x,.int .i64 y])∧Grew w w':=by
 go_enter Tryz.func18,Tryz.ntmps18
 go_wp2_with fail
 refine bodyPost_ret (v:=.agg #[.int .i64 x,.int .i64 y]) (by simp [results,Tryz.results18,go_sem]) rfl ⟨rfl,gw⟩
theorem sing_take {l:List Pt} {k:Nat} (h:k < l.length):sing (l.take (k+1))=sing (l.take k) ++ [[at' l k]]:=by
 have e:at' l k=l[k]:=by unfold at';simp [List.getD,h]
 unfold sing
 rw [List.take_succ_eq_append_getElem h,List.map_append,e]
 rfl
def SingSays (l:List Pt) (w:World) (e:Ending) (w':World):Prop:=∃ u,e=.returned u∧Rl w' u (sing l)∧Grew w w'
set_option maxRecDepth 100000 in
set_option maxHeartbeats 4000000 in
theorem single_c (l:List Pt) (v:Value) (w:World) (hs:Sl w v l) (hl:l.length≤20):Calls Tryz.prog 27 #[v] w (SingSays l w):=by
 have HS:=Lib.hid hs
 obtain ⟨a,c,rfl⟩:=hs.shape
 obtain ⟨n,hn⟩:∃ n,l.length=n:=⟨_,rfl⟩
 have HN:Hid (l.length=n∧n≤20):=Lib.hid ⟨hn,by omega⟩
 rw [hn] at HS ⊢
 clear hs hn hl
 go_enter Tryz.func27,Tryz.ntmps27
 go_wp2_with fail
 go_loopw [3,4] (fun u i wr => ∃ k:Nat,k≤n∧i=.int .i64 k∧Hid (Grew w wr)∧Hid (Rg.Own w.heap.size wr u (sing (l.take k)))) (fun _ i _ => n - (intOf i).toNat)
 case atStart => exact ⟨0,Nat.zero_le _,rfl,Lib.hid (Grew.refl _),Lib.hid (Rg.Own.nil _ _)⟩
 case round =>
  obtain ⟨k,hk,rfl,G,OW⟩:=hrel
  have n20:=HN.out.2
  by_cases hlt:k < n
  ·have i0:(0:Int)≤(k:Int):=by omega
   have i1:(k:Int) < (n:Int):=by omega
   have kl:k < l.length:=by rw [HN.out.1];exact hlt
   have ST:=Lib.hid (sing_take kl)
   have hs:=HS.out
   obtain ⟨b,o,c',e,hr⟩:=hs.row (fun e => by rw [e] at kl;cases kl)
   injection e with e1 e2 e3
   subst e1
   have hr:=hr.grown G.out
   obtain ⟨q0,q1⟩:=hr.2 k kl
   have hb:=hr.1
   have LN:Hid ((sing (l.take k)).length+1≤4000000):=Lib.hid (by rw [sing_len,List.length_take];omega)
   generalize at' l k=z at q0 q1 ST
   have S1:Hid (Sl (wr.alloc (.cells #[.int .i64 z.1,.int .i64 z.2] 24)) (.slice (some ⟨wr.heap.size,0,none⟩) 1 1) [z]):=Lib.hid (Sl.of (c:=1) (row_new [z] #[.int .i64 z.1,.int .i64 z.2] rfl wr 24))
   have R1:Hid (Rl ((wr.alloc (.cells #[.int .i64 z.1,.int .i64 z.2] 24)).alloc (.cells #[.slice (some ⟨wr.heap.size,0,none⟩) 1 1] 48)) (.slice (some ⟨wr.heap.size+1,0,none⟩) 1 1) [[z]]):=Lib.hid (by
    have h:=Rg.one_rl (p:=[z]) S1.out (by simp) 1
    rw [World.size_alloc] at h
    exact h)
   clear hs hr e2 e3 kl
   go_wp2_with (at_builtin;go_must (refine Rg.wpl_app _ rfl _ _ rfl w.heap.size _ _ (sing (l.take k)) [[z]] rfl (OW.out.grew (((Grew.refl _).alloc _ _).alloc _ _)) rfl R1.out (fun p hp => by rw [List.mem_singleton.1 hp];simp) (by simpa using LN.out) (by have:=G.out.size;simp;omega) ?_;intro v' w' af;have GG':=Lib.hid (af.grew w (Nat.le_refl _) ((G.out.alloc _ _).alloc _ _));have OWN':=Lib.hid af.own;clear af))
   exact ⟨⟨k+1,by omega,by go_num,GG',Lib.hid (by rw [ST.out];exact OWN'.out)⟩,by simp [intOf];omega⟩
  ·obtain rfl:k=n:=by omega
   have TK:l.take k=l:=by rw [← HN.out.1,List.take_length]
   rw [TK] at OW
   have BD:Hid (Rg.Bd (sing l)):=Lib.hid ⟨by rw [sing_len,HN.out.1];omega,fun p hp => by
    obtain ⟨z,_,rfl⟩:=List.mem_map.1 hp
    simp⟩
   obtain ⟨ua,un,uc,rfl⟩:=Rg.rown_shape OW.out
   clear TK
   go_wp2_with fail
   go_ret
   exact ⟨_,rfl,OW.out.rl BD.out,G.out⟩
theorem dist_t (lo hi:Int) (w:World):Calls Tryz.prog 33 #[.agg #[.int .i64 lo,.int .i64 hi]] w (Tells (Dst lo hi) w):=by
 by_cases h:Dst lo hi
 ·exact (Ry.dist_yes lo hi w h).mono fun _ _ t => Tells.yes h t.1 t.2
 ·exact (Ry.dist_no lo hi w h).mono fun _ _ t => Tells.no h t.1 t.2
def UseSays (L:Rgn) (x:Pt) (lo hi:Int) (w:World) (e:Ending) (w':World):Prop:=∃ r,e=.returned (.bool r)∧(r=true→VlR L∧Plc x∧Dst lo hi)∧Grew w w'
set_option maxRecDepth 100000 in
set_option maxHeartbeats 4000000 in
theorem usable_c (L:Rgn) (x:Pt) (lo hi:Int) (v:Value) (w:World) (hr:Rl w v L):Calls Tryz.prog 24 #[v,.agg #[.int .i64 x.1,.int .i64 x.2],.agg #[.int .i64 lo,.int .i64 hi]] w (UseSays L x lo hi w):=by
 have g0:Hid (Grew w ((w.alloc (.cells #[.int .i64 x.1,.int .i64 x.2] 24)).alloc (.cells #[.int .i64 lo,.int .i64 hi] 26))):=Lib.hid (((Grew.refl w).alloc _ _).alloc _ _)
 have X0:=Lib.hid ((Blk.new w #[.int .i64 x.1,.int .i64 x.2] 24).alloc (.cells #[.int .i64 lo,.int .i64 hi] 26))
 have D0:=Lib.hid (Blk.new (w.alloc (.cells #[.int .i64 x.1,.int .i64 x.2] 24)) #[.int .i64 lo,.int .i64 hi] 26)
 rw [World.size_alloc] at D0
 have FC:=Lib.hid (fun W (g:Grew w W) => Rg.few_r L v W (hr.grown g))
 have VC:=Lib.hid (fun W (g:Grew w W) => Rg.rref_valid L v W (hr.grown g))
 obtain ⟨a,c,rfl⟩:=hr.shape
 obtain ⟨n,hn⟩:∃ n,L.length=n:=⟨_,rfl⟩
 rw [hn] at FC VC ⊢
 clear hr hn
 by_cases h4:(n:Int)≤4
 ·go_enter Tryz.func24,Tryz.ntmps24
  go_wp2_with fail
  refine (FC.out _ g0.out).mono ?_
  rintro e w1 ⟨r1,rfl,_,g1⟩
  have X1:=Lib.hid (X0.out.grown g1)
  have D1:=Lib.hid (D0.out.grown g1)
  have G1:=Lib.hid (g0.out.trans g1)
  clear g1
  cases r1
  ·go_wp2_with fail
   go_ret
   exact ⟨_,rfl,fun h => absurd h (by decide),G1.out⟩
  ·go_wp2_with fail
   refine (VC.out _ G1.out).mono ?_
   rintro e w2 ⟨r2,rfl,h2,g2⟩
   have X2:=Lib.hid (X1.out.grown g2)
   have D2:=Lib.hid (D1.out.grown g2)
   have G2:=Lib.hid (G1.out.trans g2)
   clear g2
   cases r2
   ·clear h2
    go_wp2_with fail
    go_ret
    exact ⟨_,rfl,fun h => absurd h (by decide),G2.out⟩
   ·have H2:=Lib.hid (h2.1 rfl)
    obtain ⟨⟨x0,x1⟩,_,_⟩:=X2.out.two
    have lX:=X2.out.lt
    clear h2
    go_wp2_with fail
    refine (Rg.place_t x _).mono ?_
    rintro e w3 ⟨r3,rfl,h3,g3⟩
    have D3:=Lib.hid (D2.out.grown g3)
    have G3:=Lib.hid (G2.out.trans g3)
    clear g3 x0 x1 lX
    cases r3
    ·clear h3
     go_wp2_with fail
     go_ret
     exact ⟨_,rfl,fun h => absurd h (by decide),G3.out⟩
    ·have H3:=Lib.hid (h3.1 rfl)
     obtain ⟨⟨d0,d1⟩,_,_⟩:=D3.out.two
     have lD:=D3.out.lt
     clear h3
     go_wp2_with fail
     refine (dist_t lo hi _).mono ?_
     rintro e w4 ⟨r4,rfl,h4',g4⟩
     have H4:=Lib.hid h4'
     have G4:=Lib.hid (G3.out.trans g4)
     clear g4 h4'
     go_wp2_with fail
     go_ret
     exact ⟨_,rfl,fun h => ⟨H2.out,H3.out,H4.out.1 h⟩,G4.out⟩
 ·go_enter Tryz.func24,Tryz.ntmps24
  go_wp2_with fail
  go_ret
  exact ⟨_,rfl,fun h => absurd h (by decide),g0.out⟩
end Rn
end Go.Proofs.YtbpgfenippiepaaGreatDoor
namespace Go.Proofs.YtbpgfenippiepaaGreatDoor
open Go.RowKit Go.Shelf Hl
namespace Rn
open Rg (Rgn VlR AllV AnsR Rl InR)
set_option maxRecDepth 100000 in
set_option maxHeartbeats 8000000 in
theorem head_true {T:World→Prop} (C:Code T) (w:World) (hT:T w):Calls Tryz.prog 9 #[] w fun e w' => e=.returned (.bool true)∧Grew w w':=by
 have TK:=Lib.hid (fun W (g:Grew w W) => C.keep w W g hT)
 have F:=C.fns
 clear C hT
 have GW0:Hid (Grew w w):=Lib.hid (Grew.refl _)
 have G0:Hid (Grew w w):=GW0
 clear GW0
 go_enter Tryz.func9,Tryz.ntmps9
 go_wp2_with fail
 refine (at_c 30 40 _).mono ?_
 rintro e w1 ⟨rfl,g1⟩
 have D1:Hid (Grew w w1):=Lib.hid (Grew.trans gw g1)
 have G1:=Lib.hid (G0.out.trans D1.out)
 clear g1 D1 G0
 go_wp2_with fail
 refine (F.ring (30,40) 50 50 _ (TK.out _ (Grew.trans G1.out gw))).mono ?_
 rintro e w2 ⟨v1,k2,r2,p2,rfl,s2,g2⟩
 have D2:Hid (Grew w1 w2):=Lib.hid (Grew.trans gw g2)
 have G2:=Lib.hid (G1.out.trans D2.out)
 clear g2 D2 G1
 have A2:=Lib.hid s2
 clear s2
 obtain ⟨rfl,i2⟩:=ex_a p2
 have VA:=Lib.hid (ringp_vl p2)
 have IA:=Lib.hid i2
 clear p2 i2
 obtain ⟨v1a,v1n,v1c,rfl,v1e⟩:=Rg.rl_nat A2.out
 clear v1e
 go_wp2_with fail
 refine (at_c 30 40 _).mono ?_
 rintro e w3 ⟨rfl,g3⟩
 have D3:Hid (Grew w2 w3):=Lib.hid (Grew.trans gw g3)
 have G3:=Lib.hid (G2.out.trans D3.out)
 have A3:=Lib.hid (A2.out.grown D3.out)
 clear A2 g3 D3 G2
 go_wp2_with fail
 refine (F.ring (30,40) 60 70 _ (TK.out _ (Grew.trans G3.out gw))).mono ?_
 rintro e w4 ⟨v2,k4,r4,p4,rfl,s4,g4⟩
 have D4:Hid (Grew w3 w4):=Lib.hid (Grew.trans gw g4)
 have G4:=Lib.hid (G3.out.trans D4.out)
 have A4:=Lib.hid (A3.out.grown D4.out)
 clear A3 g4 D4 G3
 have B4:=Lib.hid s4
 clear s4
 obtain ⟨rfl,i4⟩:=ex_b p4
 have VB:=Lib.hid (ringp_vl p4)
 have IB:=Lib.hid i4
 clear p4 i4
 obtain ⟨v2a,v2n,v2c,rfl,v2e⟩:=Rg.rl_nat B4.out
 clear v2e
 go_wp2_with fail
 refine (at_c 0 0 _).mono ?_
 rintro e w5 ⟨rfl,g5⟩
 have D5:Hid (Grew w4 w5):=Lib.hid (Grew.trans gw g5)
 have G5:=Lib.hid (G4.out.trans D5.out)
 have A5:=Lib.hid (A4.out.grown D5.out)
 have B5:=Lib.hid (B4.out.grown D5.out)
 clear A4 B4 g5 D5 G4
 go_wp2_with fail
 refine (at_c 0 90 _).mono ?_
 rintro e w6 ⟨rfl,g6⟩
 have D6:Hid (Grew w5 w6):=Lib.hid (Grew.trans gw g6)
 have G6:=Lib.hid (G5.out.trans D6.out)
 have A6:=Lib.hid (A5.out.grown D6.out)
 have B6:=Lib.hid (B5.out.grown D6.out)
 clear A5 B5 g6 D6 G5
 go_wp2_with fail
 refine (at_c 200 200 _).mono ?_
 rintro e w7 ⟨rfl,g7⟩
 have D7:Hid (Grew w6 w7):=Lib.hid (Grew.trans gw g7)
 have G7:=Lib.hid (G6.out.trans D7.out)
 have A7:=Lib.hid (A6.out.grown D7.out)
 have B7:=Lib.hid (B6.out.grown D7.out)
 clear A6 B6 g7 D7 G6
 go_wp2_with fail
 refine (single_c [(0,0),(0,90),(200,200)] _ _ (Sl.of (row_new [(0,0),(0,90),(200,200)] _ rfl _ _)) (by decide)).mono ?_
 rintro e w8 ⟨v3,rfl,s8,g8⟩
 have D8:Hid (Grew w7 w8):=Lib.hid (Grew.trans gw g8)
 have G8:=Lib.hid (G7.out.trans D8.out)
 have A8:=Lib.hid (A7.out.grown D8.out)
 have B8:=Lib.hid (B7.out.grown D8.out)
 clear A7 B7 g8 D8 G7
 have S8:=Lib.hid s8
 clear s8
 obtain ⟨v3a,v3n,v3c,rfl,v3e⟩:=Rg.rl_nat S8.out
 clear v3e
 go_wp2_with fail
 refine (at_c 100 100 _).mono ?_
 rintro e w9 ⟨rfl,g9⟩
 have D9:Hid (Grew w8 w9):=Lib.hid (Grew.trans gw g9)
 have G9:=Lib.hid (G8.out.trans D9.out)
 have A9:=Lib.hid (A8.out.grown D9.out)
 have B9:=Lib.hid (B8.out.grown D9.out)
 have S9:=Lib.hid (S8.out.grown D9.out)
 clear A8 B8 S8 g9 D9 G8
 go_wp2_with fail
 refine (F.wedge (sing [(0,0),(0,90),(200,200)]) (100,100) 7 2 _ _ (TK.out _ (Grew.trans G9.out gw)) S9.out).mono ?_
 rintro e w10 ⟨v4,k10,r10,p10,rfl,s10,g10⟩
 have D10:Hid (Grew w9 w10):=Lib.hid (Grew.trans gw g10)
 have G10:=Lib.hid (G9.out.trans D10.out)
 have A10:=Lib.hid (A9.out.grown D10.out)
 have B10:=Lib.hid (B9.out.grown D10.out)
 have S10:=Lib.hid (S9.out.grown D10.out)
 clear A9 B9 S9 g10 D10 G9
 clear S10
 obtain ⟨rfl,rfl⟩:=ex_c p10
 have C10:=Lib.hid s10
 clear p10 s10
 obtain ⟨v4a,v4n,v4c,rfl,v4e⟩:=Rg.rl_nat C10.out
 clear v4e
 go_wp2_with fail
 refine (at_c 0 0 _).mono ?_
 rintro e w11 ⟨rfl,g11⟩
 have D11:Hid (Grew w10 w11):=Lib.hid (Grew.trans gw g11)
 have G11:=Lib.hid (G10.out.trans D11.out)
 have A11:=Lib.hid (A10.out.grown D11.out)
 have B11:=Lib.hid (B10.out.grown D11.out)
 have C11:=Lib.hid (C10.out.grown D11.out)
 clear A10 B10 C10 g11 D11 G10
 go_wp2_with fail
 refine (at_c 1 1 _).mono ?_
 rintro e w12 ⟨rfl,g12⟩
 have D12:Hid (Grew w11 w12):=Lib.hid (Grew.trans gw g12)
 have G12:=Lib.hid (G11.out.trans D12.out)
 have A12:=Lib.hid (A11.out.grown D12.out)
 have B12:=Lib.hid (B11.out.grown D12.out)
 have C12:=Lib.hid (C11.out.grown D12.out)
 clear A11 B11 C11 g12 D12 G11
 go_wp2_with fail
 refine (single_c [(0,0),(1,1)] _ _ (Sl.of (row_new [(0,0),(1,1)] _ rfl _ _)) (by decide)).mono ?_
 rintro e w13 ⟨v5,rfl,s13,g13⟩
 have D13:Hid (Grew w12 w13):=Lib.hid (Grew.trans gw g13)
 have G13:=Lib.hid (G12.out.trans D13.out)
 have A13:=Lib.hid (A12.out.grown D13.out)
 have B13:=Lib.hid (B12.out.grown D13.out)
 have C13:=Lib.hid (C12.out.grown D13.out)
 clear A12 B12 C12 g13 D13 G12
 have S13:=Lib.hid s13
 clear s13
 obtain ⟨v5a,v5n,v5c,rfl,v5e⟩:=Rg.rl_nat S13.out
 clear v5e
 go_wp2_with fail
 refine (at_c 30 40 _).mono ?_
 rintro e w14 ⟨rfl,g14⟩
 have D14:Hid (Grew w13 w14):=Lib.hid (Grew.trans gw g14)
 have G14:=Lib.hid (G13.out.trans D14.out)
 have A14:=Lib.hid (A13.out.grown D14.out)
 have B14:=Lib.hid (B13.out.grown D14.out)
 have C14:=Lib.hid (C13.out.grown D14.out)
 have S14:=Lib.hid (S13.out.grown D14.out)
 clear A13 B13 C13 S13 g14 D14 G13
 go_wp2_with fail
 refine (F.near (sing [(0,0),(1,1)]) (30,40) 50 60 _ _ (TK.out _ (Grew.trans G14.out gw)) S14.out).mono ?_
 rintro e w15 ⟨v6,k15,r15,p15,rfl,s15,g15⟩
 have D15:Hid (Grew w14 w15):=Lib.hid (Grew.trans gw g15)
 have G15:=Lib.hid (G14.out.trans D15.out)
 have A15:=Lib.hid (A14.out.grown D15.out)
 have B15:=Lib.hid (B14.out.grown D15.out)
 have C15:=Lib.hid (C14.out.grown D15.out)
 have S15:=Lib.hid (S14.out.grown D15.out)
 clear A14 B14 C14 S14 g15 D15 G14
 have Z15:=Lib.hid s15
 clear s15
 clear S15
 obtain ⟨rfl,i15⟩:=ex_d p15
 have VD:=Lib.hid (near_vl p15)
 have ID:=Lib.hid i15
 clear p15 i15
 obtain ⟨v6a,v6n,v6c,rfl,v6e⟩:=Rg.rl_nat Z15.out
 clear v6e
 go_wp2_with fail
 refine (at_c 499990 0 _).mono ?_
 rintro e w16 ⟨rfl,g16⟩
 have D16:Hid (Grew w15 w16):=Lib.hid (Grew.trans gw g16)
 have G16:=Lib.hid (G15.out.trans D16.out)
 have A16:=Lib.hid (A15.out.grown D16.out)
 have B16:=Lib.hid (B15.out.grown D16.out)
 have C16:=Lib.hid (C15.out.grown D16.out)
 have Z16:=Lib.hid (Z15.out.grown D16.out)
 clear A15 B15 C15 Z15 g16 D16 G15
 go_wp2_with fail
 refine (F.ring (499990,0) 0 20 _ (TK.out _ (Grew.trans G16.out gw))).mono ?_
 rintro e w17 ⟨v7,k17,r17,p17,rfl,s17,g17⟩
 have D17:Hid (Grew w16 w17):=Lib.hid (Grew.trans gw g17)
 have G17:=Lib.hid (G16.out.trans D17.out)
 have A17:=Lib.hid (A16.out.grown D17.out)
 have B17:=Lib.hid (B16.out.grown D17.out)
 have C17:=Lib.hid (C16.out.grown D17.out)
 have Z17:=Lib.hid (Z16.out.grown D17.out)
 clear A16 B16 C16 Z16 g17 D17 G16
 obtain rfl:=ex_i p17
 obtain ⟨v7a,v7n,v7c,rfl,v7e⟩:=Rg.rl_nat s17
 clear p17 s17 v7e
 go_wp2_with fail
 refine (at_c 0 0 _).mono ?_
 rintro e w18 ⟨rfl,g18⟩
 have D18:Hid (Grew w17 w18):=Lib.hid (Grew.trans gw g18)
 have G18:=Lib.hid (G17.out.trans D18.out)
 have A18:=Lib.hid (A17.out.grown D18.out)
 have B18:=Lib.hid (B17.out.grown D18.out)
 have C18:=Lib.hid (C17.out.grown D18.out)
 have Z18:=Lib.hid (Z17.out.grown D18.out)
 clear A17 B17 C17 Z17 g18 D18 G17
 go_wp2_with fail
 refine (F.ring (0,0) 3 2 _ (TK.out _ (Grew.trans G18.out gw))).mono ?_
 rintro e w19 ⟨v8,k19,r19,p19,rfl,s19,g19⟩
 have D19:Hid (Grew w18 w19):=Lib.hid (Grew.trans gw g19)
 have G19:=Lib.hid (G18.out.trans D19.out)
 have A19:=Lib.hid (A18.out.grown D19.out)
 have B19:=Lib.hid (B18.out.grown D19.out)
 have C19:=Lib.hid (C18.out.grown D19.out)
 have Z19:=Lib.hid (Z18.out.grown D19.out)
 clear A18 B18 C18 Z18 g19 D19 G18
 obtain rfl:=ex_j p19
 obtain ⟨v8a,v8n,v8c,rfl,v8e⟩:=Rg.rl_nat s19
 clear p19 s19 v8e TK
 go_wp2_with fail
 refine (at_c 0 0 _).mono ?_
 rintro e w20 ⟨rfl,g20⟩
 have D20:Hid (Grew w19 w20):=Lib.hid (Grew.trans gw g20)
 have G20:=Lib.hid (G19.out.trans D20.out)
 have A20:=Lib.hid (A19.out.grown D20.out)
 have B20:=Lib.hid (B19.out.grown D20.out)
 have C20:=Lib.hid (C19.out.grown D20.out)
 have Z20:=Lib.hid (Z19.out.grown D20.out)
 clear A19 B19 C19 Z19 g20 D20 G19
 go_wp2_with fail
 refine ((Rg.in_c r2 (0,0) _ _ A20.out VA.out.2 (by decide:Plc (0,0))).mono fun _ _ t => t.to IA.out).mono ?_
 rintro e w21 ⟨rfl,g21⟩
 have D21:Hid (Grew w20 w21):=Lib.hid (Grew.trans gw g21)
 have G21:=Lib.hid (G20.out.trans D21.out)
 have A21:=Lib.hid (A20.out.grown D21.out)
 have B21:=Lib.hid (B20.out.grown D21.out)
 have C21:=Lib.hid (C20.out.grown D21.out)
 have Z21:=Lib.hid (Z20.out.grown D21.out)
 clear A20 B20 C20 Z20 g21 D21 G20
 clear A21
 go_wp2_with fail
 refine (at_c 0 0 _).mono ?_
 rintro e w22 ⟨rfl,g22⟩
 have D22:Hid (Grew w21 w22):=Lib.hid (Grew.trans gw g22)
 have G22:=Lib.hid (G21.out.trans D22.out)
 have B22:=Lib.hid (B21.out.grown D22.out)
 have C22:=Lib.hid (C21.out.grown D22.out)
 have Z22:=Lib.hid (Z21.out.grown D22.out)
 clear B21 C21 Z21 g22 D22 G21
 go_wp2_with fail
 refine ((Rg.in_c r4 (0,0) _ _ B22.out VB.out.2 (by decide:Plc (0,0))).mono fun _ _ t => t.un IB.out).mono ?_
 rintro e w23 ⟨rfl,g23⟩
 have D23:Hid (Grew w22 w23):=Lib.hid (Grew.trans gw g23)
 have G23:=Lib.hid (G22.out.trans D23.out)
 have B23:=Lib.hid (B22.out.grown D23.out)
 have C23:=Lib.hid (C22.out.grown D23.out)
 have Z23:=Lib.hid (Z22.out.grown D23.out)
 clear B22 C22 Z22 g23 D23 G22
 clear B23
 go_wp2_with fail
 refine (at_c 0 0 _).mono ?_
 rintro e w24 ⟨rfl,g24⟩
 have D24:Hid (Grew w23 w24):=Lib.hid (Grew.trans gw g24)
 have G24:=Lib.hid (G23.out.trans D24.out)
 have C24:=Lib.hid (C23.out.grown D24.out)
 have Z24:=Lib.hid (Z23.out.grown D24.out)
 clear C23 Z23 g24 D24 G23
 go_wp2_with fail
 refine (single_c [(0,0)] _ _ (Sl.of (row_new [(0,0)] _ rfl _ _)) (by decide)).mono ?_
 rintro e w25 ⟨v9,rfl,s25,g25⟩
 have D25:Hid (Grew w24 w25):=Lib.hid (Grew.trans gw g25)
 have G25:=Lib.hid (G24.out.trans D25.out)
 have C25:=Lib.hid (C24.out.grown D25.out)
 have Z25:=Lib.hid (Z24.out.grown D25.out)
 clear C24 Z24 g25 D25 G24
 have S25:=Lib.hid s25
 clear s25
 obtain ⟨v9a,v9n,v9c,rfl,v9e⟩:=Rg.rl_nat S25.out
 clear v9e
 go_wp2_with fail
 refine ((Rg.rsame_c _ _ _ _ _ C25.out S25.out).mono fun _ _ t => t.to rfl).mono ?_
 rintro e w26 ⟨rfl,g26⟩
 have D26:Hid (Grew w25 w26):=Lib.hid (Grew.trans gw g26)
 have G26:=Lib.hid (G25.out.trans D26.out)
 have C26:=Lib.hid (C25.out.grown D26.out)
 have Z26:=Lib.hid (Z25.out.grown D26.out)
 have S26:=Lib.hid (S25.out.grown D26.out)
 clear C25 Z25 S25 g26 D26 G25
 clear C26
 clear S26
 go_wp2_with fail
 refine (at_c 0 0 _).mono ?_
 rintro e w27 ⟨rfl,g27⟩
 have D27:Hid (Grew w26 w27):=Lib.hid (Grew.trans gw g27)
 have G27:=Lib.hid (G26.out.trans D27.out)
 have Z27:=Lib.hid (Z26.out.grown D27.out)
 clear Z26 g27 D27 G26
 go_wp2_with fail
 refine ((Rg.in_c r15 (0,0) _ _ Z27.out VD.out.2 (by decide:Plc (0,0))).mono fun _ _ t => t.to ID.out).mono ?_
 rintro e w28 ⟨rfl,g28⟩
 have D28:Hid (Grew w27 w28):=Lib.hid (Grew.trans gw g28)
 have G28:=Lib.hid (G27.out.trans D28.out)
 have Z28:=Lib.hid (Z27.out.grown D28.out)
 clear Z27 g28 D28 G27
 clear Z28
 go_wp2_with fail
 go_ret
 exact ⟨by first | rfl | trivial,G28.out⟩
end Rn
end Go.Proofs.YtbpgfenippiepaaGreatDoor
