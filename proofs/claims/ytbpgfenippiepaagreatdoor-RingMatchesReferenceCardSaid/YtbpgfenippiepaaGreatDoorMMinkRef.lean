/-
  The reference functions of layer 6: places, Moved, Mirror, Plus.
  The reference functions of layer 6: Mirror.
  The reference functions of layer 6: Plus.
  What package mink owes, and what the reference functions of layer 6 do: Sum, Shift, Mirror, Disk.
-/
import Derived.Deep.AppendLies
import Derived.IntWalk
import Derived.Test.YtbpgfenippiepaaGreatDoorMHullAro
import Derived.Test.YtbpgfenippiepaaGreatDoorMHullOct
namespace Go.Proofs.YtbpgfenippiepaaGreatDoor
open Go.RowKit Hl
namespace Mk
set_option maxRecDepth 100000
set_option maxHeartbeats 400000 in
theorem places_6 (p:List Pt) (b o c:Nat) (w:World) (hr:Row w b o p) (hl:p.length≤9223372036854775807):Calls Tryz.prog 72 #[.slice (some ⟨b,o,none⟩) p.length c] w (Tells (Plcs p) w):=by
 have HR:=Lib.hid hr
 clear hr
 go_enter Tryz.func72,Tryz.ntmps72
 go_wp2_with fail
 go_loopw [3] (fun i wr => ∃ k:Nat,k≤p.length∧i=.int .i64 k∧Grew w wr∧Hid (∀ j,j < k→Plc (at' p j))) (fun i _ => p.length - (intOf i).toNat)
 case atStart => exact ⟨0,Nat.zero_le _,rfl,Grew.refl _,Lib.hid (fun j hj => by omega)⟩
 case round =>
  obtain ⟨k,hk,rfl,G,D⟩:=hrel
  by_cases hlt:k < p.length
  ·obtain ⟨q0,q1⟩:=(HR.out.grown G).2 k hlt
   by_cases hp:Plc (at' p k)
   ·have HP:=Lib.hid hp
    have PX:Hid (∀ w,Calls Tryz.prog 19 #[.agg #[.int .i64 (at' p k).1,.int .i64 (at' p k).2]] w fun e w' => e=.returned (.bool true)∧Grew w w'):=Lib.hid (fun w => place_yes _ _ w hp)
    clear hp
    go_wp2_with fail
    refine (PX.out _).mono ?_
    rintro e w1 ⟨rfl,g1⟩
    have G1:Grew w w1:=Grew.trans G g1
    clear g1
    go_wp2_with fail
    go_roundw
    case rel => exact ⟨k+1,by omega,by go_num,G1,Lib.hid (fun j hj => by
     by_cases e:j=k
     ·rw [e];exact HP.out
     ·exact D.out j (by omega))⟩
    case measure => simp [intOf];omega
   ·have HP:=Lib.hid hp
    have PX:Hid (∀ w,Calls Tryz.prog 19 #[.agg #[.int .i64 (at' p k).1,.int .i64 (at' p k).2]] w fun e w' => e=.returned (.bool false)∧Grew w w'):=Lib.hid (fun w => place_no _ _ w hp)
    clear hp
    go_wp2_with fail
    refine (PX.out _).mono ?_
    rintro e w1 ⟨rfl,g1⟩
    have G1:Grew w w1:=Grew.trans G g1
    clear g1
    go_wp2_with fail
    go_ret
    exact Tells.no (fun h => HP.out (h k hlt)) rfl G1
  ·go_wp2_with fail
   go_ret
   exact Tells.yes (fun i hi => D.out i (by omega)) rfl G
theorem step_one {ops:Array Oper} {o:Oper} {a:Act} {K:Act→World→Prop} {Q:Exit→Act→World→Prop} {E:Prop} (w:World) (hgd:o.guard=none) (s x:Operand)
  (ho:o.op=.call { callee:=.builtin .append,args:=#[s,x],argTypes:=#[48,48] }) (B:Nat) (v:Value) (p:List Pt) (y:Pt) (wb c:Nat)
  (hs:a.eval s=v) (hown:Hl.Own B w v p) (hx:a.eval x=.slice (some ⟨wb,0,none⟩) 1 c) (hr:Row w wb 0 [y]) (hl:p.length≤4000000) (hB:B≤w.heap.size)
  (h:∀ v' w',Hl.Own B w' v' (p ++ [y])→w.grownBy w' v.ownBlock→K (a.put o.dst v') w'):if Region.wanted o (yielded ops a.tmps)=true then Oper.wp Tryz.prog o a w K Q else E:=by
 have hw:Region.wanted o (yielded ops a.tmps)=true:=by simp [Region.wanted,hgd]
 rw [if_pos hw]
 obtain ⟨i0,hi,hz0,hz1,hz2⟩:=info_parts info_pt
 refine wp_append_own w s x 48 ho B 24 i0 (.agg #[.int .i64 0,.int .i64 0]) 2 16 Tryz.underlying48 hi hz0 hz1 hz2 rfl (by decide) v p.length (cellsOf p) hs hown ⟨wb,0,none⟩ 1 c (cellsOf [y]) hx rfl (row_cells hr) (cells_one [y]) (by unfold maxLen;omega) (by omega) hB ?_
 intro v' w' h1 h2 _
 refine h v' w' ?_ h2
 unfold Hl.Own
 rw [cellsOf_append,List.length_append]
 exact h1
theorem own_lt {B:Nat} {w:World} {v:Value} {p:List Pt} (h:Hl.Own B w v p):∀ k,v.ownBlock=some k→B≤k:=fun k e => (World.ownsRow.lt h k e).1
theorem shift_next {p:List Pt} {b:Pt} {k:Nat} (h:k < p.length):shift (p.take (k+1)) b=shift (p.take k) b ++ [plus (at' p k) b]:=by
 unfold shift
 rw [List.take_succ_eq_append_getElem h,List.map_append]
 unfold at'
 simp [h]
def ShiftIs (p:List Pt) (b:Pt) (w:World) (e:Ending) (w':World):Prop:=∃ v,e=.returned v∧Hl.Own w.heap.size w' v (shift p b)∧Grew w w'
theorem own_less {B C:Nat} {w:World} {v:Value} {p:List Pt} (h:Hl.Own B w v p) (hc:C≤B):Hl.Own C w v p:=by
 rcases h with ⟨h1,⟨h2,h3⟩ | ⟨g,cap,cur,h2,h3,h4⟩⟩
 ·exact ⟨h1,Or.inl ⟨h2,h3⟩⟩
 ·exact ⟨h1,Or.inr ⟨g,cap,cur,h2,Nat.le_trans hc h3,h4⟩⟩
set_option maxHeartbeats 4000000 in
theorem moved_6 (p:List Pt) (z:Pt) (b o c:Nat) (w:World) (hr:Row w b o p) (hp:Plcs p) (hz:Plc z) (hl:p.length≤64):Calls Tryz.prog 71 #[.slice (some ⟨b,o,none⟩) p.length c,.agg #[.int .i64 z.1,.int .i64 z.2]] w (ShiftIs p z w):=by
 have HR:=Lib.hid hr
 have HP:=Lib.hid hp
 have HL:=Lib.hid hl
 obtain ⟨⟨z0,z1⟩,z2,z3⟩:=hz
 clear hr hp hl
 go_enter Tryz.func71,Tryz.ntmps71
 go_wp2_with fail
 go_loopw [5,6] (fun u i wr => ∃ k:Nat,k≤p.length∧i=.int .i64 k∧Grew w wr∧w.heap.size+1≤wr.heap.size∧Hid (Row wr w.heap.size 0 [z]∧Hl.Own (w.heap.size+1) wr u (shift (p.take k) z))) (fun _ i _ => p.length - (intOf i).toNat)
 case atStart => exact ⟨0,Nat.zero_le _,rfl,(Grew.refl w).alloc _ _,by simp,Lib.hid ⟨row_new [z] _ rfl w _,Own.nil _ _⟩⟩
 case round =>
  obtain ⟨k,hk,rfl,GW,SZ,VO⟩:=hrel
  have V0:=VO.out.1
  have OW:=Lib.hid VO.out.2
  clear VO
  by_cases hlt:k < p.length
  ·obtain ⟨q0,q1⟩:=(HR.out.grown GW).2 k hlt
   obtain ⟨s0,s1⟩:=V0.2 0 (by simp)
   have hb:=(HR.out.grown GW).1
   have hs:=V0.1
   simp only [Nat.zero_mul,Nat.zero_add] at s0 s1
   have es:at' [z] 0=z:=rfl
   rw [es] at s0 s1
   have ad0:b ≠ wr.heap.size:=by omega
   obtain ⟨⟨x0,x1⟩,x2,x3⟩:=HP.out k hlt
   have i0:(0:Int)≤(k:Int):=by omega
   have i1:(k:Int) < (p.length:Int):=by omega
   have SN:=Lib.hid (shift_next (b:=z) hlt)
   have pl:(p.length:Int)≤64:=by have:=HL.out;omega
   have LN:Hid ((shift (p.take k) z).length≤4000000):=Lib.hid (by rw [shift_len,List.length_take];have:=HL.out;omega)
   have hbw:b < w.heap.size+1:=by have:=HR.out.1;omega
   have hgw:w.heap.size < w.heap.size+1:=by omega
   have S0:(wr.cell? ⟨b,o+k * 2,none⟩=some (.int .i64 (at' p k).1)∧wr.cell? ⟨b,o+k * 2+1,none⟩=some (.int .i64 (at' p k).2))∧wr.cell? ⟨w.heap.size,0,none⟩=some (.int .i64 z.1)∧wr.cell? ⟨w.heap.size,1,none⟩=some (.int .i64 z.2):=⟨⟨q0,q1⟩,s0,s1⟩
   have W1:IntKind.i64.wrap ((at' p k).1+z.1)=(at' p k).1+z.1:=IntWalk.i64_in _ ⟨by omega,by omega⟩
   have W2:IntKind.i64.wrap ((at' p k).2+z.2)=(at' p k).2+z.2:=IntWalk.i64_in _ ⟨by omega,by omega⟩
   have GWH:=Lib.hid GW
   clear V0 es GW
   have GW:=GWH
   go_wp2_with fail
   go_region_held3 (fun W => (W.cell? ⟨b,o+k * 2,none⟩=some (.int .i64 (at' p k).1)∧W.cell? ⟨b,o+k * 2+1,none⟩=some (.int .i64 (at' p k).2))∧W.cell? ⟨w.heap.size,0,none⟩=some (.int .i64 z.1)∧W.cell? ⟨w.heap.size,1,none⟩=some (.int .i64 z.2)) (first | assumption | simp [go_sem, *])
    ((refine step_one _ rfl (.tmp 13) (.tmp 31) rfl (w.heap.size+1) _ (shift (p.take k) z) (plus (at' p k) z) _ 1 rfl ?_ rfl ?_ LN.out ?_ ?_
      ·repeat' (first | exact OW.out | refine Hl.Own.alloc ?_ _ | refine Hl.Own.drew ?_)
      ·exact row_new [(plus (at' p k) z)] _ rfl wr _
      ·(have:=SZ;simp;omega)
      intro v' w' own' gr'
      have GG4:Hid (Grew w w'):=Lib.hid (Grew.grown (Grew.drew (Grew.alloc GW.out _ _)) gr' (fun k hk => Nat.le_trans (by omega) (own_lt (OW.out) k hk)))
      have FC:∀ bb oo,bb < (w.heap.size+1)→w'.cell? ⟨bb,oo,none⟩=wr.cell? ⟨bb,oo,none⟩:=fun bb oo hbb => by
       rw [World.grownBy.cell_far gr' ⟨bb,oo,none⟩ (by simp;omega) (fun e => by have:=own_lt (OW.out) bb e.symm;omega),World.cell?_drew,World.cell?_alloc_lt (h:=by simp;omega) ..]
      have S1:(w'.cell? ⟨b,o+k * 2,none⟩=some (.int .i64 (at' p k).1)∧w'.cell? ⟨b,o+k * 2+1,none⟩=some (.int .i64 (at' p k).2))∧w'.cell? ⟨w.heap.size,0,none⟩=some (.int .i64 z.1)∧w'.cell? ⟨w.heap.size,1,none⟩=some (.int .i64 z.2):=by refine ?_ <;> (simp only [FC _ _ hbw,FC _ _ hgw];exact S0)
      have OW4:=Lib.hid own'
      have SZ4:(w.heap.size+1)≤w'.heap.size:=Nat.le_trans (by have:=SZ;simp;omega) gr'.size
      clear own' gr' FC))
   have S2:=Lib.hid S1
   clear S0 S1 s0 s1 q0 q1 W1 W2
   go_wp2_with fail
   go_roundw
   case rel => exact ⟨k+1,by omega,by go_num,GG4.out,SZ4,Lib.hid ⟨⟨by omega,fun i hi => by
    have hi':i < 1:=hi
    obtain rfl:i=0:=by omega
    rw [Nat.zero_mul]
    exact S2.out.2⟩,by rw [SN.out];exact OW4.out⟩⟩
   case measure => simp [intOf];omega
  ·obtain rfl:k=p.length:=by omega
   go_wp2_with fail
   go_ret
   exact ⟨_,rfl,by have:=OW.out;rw [List.take_length] at this;exact own_less this (by omega),GW⟩
end Mk
end Go.Proofs.YtbpgfenippiepaaGreatDoor
namespace Go.Proofs.YtbpgfenippiepaaGreatDoor
open Go.RowKit Hl
namespace Mk
set_option maxRecDepth 100000
def MirSays (p:List Pt) (w:World) (e:Ending) (w':World):Prop:=∃ v m,IsHull (mirror p) m∧e=.returned (.tuple #[v,.int .i64 0])∧Sl w' v m∧Grew w w'
theorem mirror_len (p:List Pt):(mirror p).length=p.length:=List.length_map ..
end Mk
end Go.Proofs.YtbpgfenippiepaaGreatDoor
namespace Go.Proofs.YtbpgfenippiepaaGreatDoor
open Go.RowKit Hl
namespace Mk
set_option maxRecDepth 100000
def part (p q:List Pt) (i j:Nat):List Pt:=sums (p.take i) q ++ (q.take j).map (plus (at' p i))
end Mk
end Go.Proofs.YtbpgfenippiepaaGreatDoor
namespace Go.Proofs.YtbpgfenippiepaaGreatDoor
open Go.RowKit Hl
namespace Mk
set_option maxRecDepth 100000
def SumSays (p q:List Pt) (w:World) (e:Ending) (w':World):Prop:=∃ s,IsHull (sums p q) s∧((¬ Plcs s∧Empty 3 w e w')∨(Plcs s∧∃ v t,((s.length≤64∧t=s)∨(64 < s.length∧IsOct s t))∧e=.returned (.tuple #[v,.int .i64 0])∧Sl w' v t∧Grew w w'))
def ShiftSays (p:List Pt) (z:Pt) (w:World) (e:Ending) (w':World):Prop:=(¬ Plcs (shift p z)∧Empty 3 w e w')∨(Plcs (shift p z)∧∃ v,e=.returned (.tuple #[v,.int .i64 0])∧Sl w' v (shift p z)∧Grew w w')
def DiskSays (n:Int) (w:World) (e:Ending) (w':World):Prop:=∃ v m d,Wd n m∧IsHull (diskL n m) d∧e=.returned (.tuple #[v,.int .i64 0])∧Sl w' v d∧Grew w w'
structure Fns (fs fh fm fd:Nat):Prop where
 sum_bad:∀ (p q:List Pt) (v u:Value) (w:World),Sl w v p→Sl w u q→p.length≤9223372036854775807→q.length≤9223372036854775807→¬ (Vl p∧Vl q)→Calls Tryz.prog fs #[v,u] w (Empty 1 w)
 sum_ok:∀ (p q:List Pt) (v u:Value) (w:World),Sl w v p→Sl w u q→Vl p→Vl q→Calls Tryz.prog fs #[v,u] w (SumSays p q w)
 shift_bad:∀ (p:List Pt) (z:Pt) (v:Value) (w:World),Sl w v p→p.length≤9223372036854775807→¬ (Vl p∧Plc z)→Calls Tryz.prog fh #[v,.agg #[.int .i64 z.1,.int .i64 z.2]] w (Empty 1 w)
 shift_ok:∀ (p:List Pt) (z:Pt) (v:Value) (w:World),Sl w v p→Vl p→Plc z→Calls Tryz.prog fh #[v,.agg #[.int .i64 z.1,.int .i64 z.2]] w (ShiftSays p z w)
 mir_bad:∀ (p:List Pt) (v:Value) (w:World),Sl w v p→p.length≤9223372036854775807→¬ Vl p→Calls Tryz.prog fm #[v] w (Empty 1 w)
 mir_ok:∀ (p:List Pt) (v:Value) (w:World),Sl w v p→Vl p→Calls Tryz.prog fm #[v] w (MirSays p w)
 disk_bad:∀ (n:Int) (w:World),¬ (0≤n∧n≤100000)→Calls Tryz.prog fd #[.int .i64 n] w (Empty 1 w)
 disk_ok:∀ (n:Int) (w:World),0≤n→n≤100000→Calls Tryz.prog fd #[.int .i64 n] w (DiskSays n w)
theorem places_sl (s:List Pt) (v:Value) (w:World) (hs:Sl w v s) (h1:1≤s.length) (h2:s.length≤9223372036854775807):Calls Tryz.prog 72 #[v] w (Tells (Plcs s) w):=by
 obtain ⟨b,o,c,rfl,hr⟩:=hs.row (fun e => by rw [e] at h1;cases h1)
 exact places_6 s b o c w hr h2
theorem r_shift_bad (p:List Pt) (z:Pt) (v:Value) (w:World) (hs:Sl w v p) (h1:p.length≤9223372036854775807) (h:¬ (Vl p∧Plc z)):Calls Tryz.prog 35 #[v,.agg #[.int .i64 z.1,.int .i64 z.2]] w (Empty 1 w):=by
 have HS:=Lib.hid hs
 have L1:=Lib.hid h1
 have g0:Grew w (w.alloc (.cells #[.int .i64 z.1,.int .i64 z.2] 24)):=(Grew.refl w).alloc _ _
 by_cases hv:Vl p
 ·have V:=Lib.hid hv
  have V2:Hid (¬ Plc z):=Lib.hid (fun g => h ⟨hv,g⟩)
  clear hs h1 h hv
  go_enter Tryz.func35,Tryz.ntmps35
  go_wp2_with fail
  refine ((rvalid_any p v _ (HS.out.grown g0) L1.out).mono fun _ _ t => t.to V.out).mono ?_
  rintro e w1 ⟨rfl,G1⟩
  obtain ⟨c1,f1,z1⟩:=laid G1
  try simp at z1
  have k0:w1.cell? ⟨w.heap.size,0,none⟩=some (.int .i64 z.1):=by simp [go_sem, *]
  have k1:w1.cell? ⟨w.heap.size,1,none⟩=some (.int .i64 z.2):=by simp [go_sem, *]
  clear c1 f1
  go_wp2_with fail
  refine (rplace_no z _ V2.out).mono ?_
  rintro e w2 ⟨rfl,g2⟩
  go_wp2_with fail
  go_ret2
  exact ⟨_,rfl,Or.inl ⟨rfl,none,0,rfl⟩,Grew.trans (Grew.trans g0 G1) g2⟩
 ·have V:=Lib.hid hv
  clear hs h1 h hv
  go_enter Tryz.func35,Tryz.ntmps35
  go_wp2_with fail
  refine ((rvalid_any p v _ (HS.out.grown g0) L1.out).mono fun _ _ t => t.un V.out).mono ?_
  rintro e w1 ⟨rfl,G1⟩
  go_wp2_with fail
  go_ret2
  exact ⟨_,rfl,Or.inl ⟨rfl,none,0,rfl⟩,Grew.trans g0 G1⟩
theorem r_shift_ok (p:List Pt) (z:Pt) (v:Value) (w:World) (hs:Sl w v p) (hp:Vl p) (hz:Plc z):Calls Tryz.prog 35 #[v,.agg #[.int .i64 z.1,.int .i64 z.2]] w (ShiftSays p z w):=by
 have n0:1≤p.length:=hp.1.1
 obtain ⟨b,o,c,rfl,hr⟩:=hs.row (fun e => by rw [e] at n0;cases n0)
 have HS:=Lib.hid hs
 have HR:=Lib.hid hr
 have VP:=Lib.hid hp
 have VZ:=Lib.hid hz
 have L1:Hid (p.length≤9223372036854775807):=Lib.hid (by have:=hp.1.2;omega)
 have g0:Grew w (w.alloc (.cells #[.int .i64 z.1,.int .i64 z.2] 24)):=(Grew.refl w).alloc _ _
 clear hs hr hp hz n0
 go_enter Tryz.func35,Tryz.ntmps35
 go_wp2_with fail
 refine ((rvalid_any p _ _ (HS.out.grown g0) L1.out).mono fun _ _ t => t.to VP.out).mono ?_
 rintro e w1 ⟨rfl,G1⟩
 obtain ⟨c1,f1,z1⟩:=laid G1
 try simp at z1
 have k0:w1.cell? ⟨w.heap.size,0,none⟩=some (.int .i64 z.1):=by simp [go_sem, *]
 have k1:w1.cell? ⟨w.heap.size,1,none⟩=some (.int .i64 z.2):=by simp [go_sem, *]
 clear c1 f1
 go_wp2_with fail
 refine (rplace_yes z _ VZ.out).mono ?_
 rintro e w2 ⟨rfl,g2⟩
 obtain ⟨c2,f2,z2⟩:=laid g2
 try simp at z2
 have k0:w2.cell? ⟨w.heap.size,0,none⟩=some (.int .i64 z.1):=by rw [g2.cell (by omega)];exact k0
 have k1:w2.cell? ⟨w.heap.size,1,none⟩=some (.int .i64 z.2):=by rw [g2.cell (by omega)];exact k1
 have G2:=Grew.trans (Grew.trans g0 G1) g2
 clear c2 f2 G1 g2 g0
 go_wp2_with fail
 refine (moved_6 p z b o c _ (HR.out.grown G2) VP.out.2.1 VZ.out VP.out.1.2).mono ?_
 rintro e w3 ⟨v3,rfl,own3,g3⟩
 have SL3:=Lib.hid own3.sl
 have G3:=Grew.trans G2 g3
 have N3:Hid (1≤(shift p z).length∧(shift p z).length≤64):=Lib.hid (by rw [shift_len];exact VP.out.1)
 clear own3 g3 G2 k0 k1
 by_cases hpl:Plcs (shift p z)
 ·have HP:=Lib.hid hpl
  clear hpl
  go_wp2_with fail
  refine ((places_sl (shift p z) v3 _ SL3.out N3.out.1 (by have:=N3.out.2;omega)).mono fun _ _ t => t.to HP.out).mono ?_
  rintro e w4 ⟨rfl,g4⟩
  have SL4:=Lib.hid (SL3.out.grown g4)
  go_wp2_with fail
  go_ret2
  exact Or.inr ⟨HP.out,v3,rfl,SL4.out,Grew.trans G3 g4⟩
 ·have HP:=Lib.hid hpl
  clear hpl
  go_wp2_with fail
  refine ((places_sl (shift p z) v3 _ SL3.out N3.out.1 (by have:=N3.out.2;omega)).mono fun _ _ t => t.un HP.out).mono ?_
  rintro e w4 ⟨rfl,g4⟩
  go_wp2_with fail
  go_ret2
  exact Or.inl ⟨HP.out,_,rfl,Or.inl ⟨rfl,none,0,rfl⟩,Grew.trans G3 g4⟩
end Mk
end Go.Proofs.YtbpgfenippiepaaGreatDoor
