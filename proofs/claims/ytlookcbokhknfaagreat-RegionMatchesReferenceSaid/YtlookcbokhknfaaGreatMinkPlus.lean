/-
  The reference functions of layer 6: Plus.
  What package mink owes, and what the reference functions of layer 6 do: Sum, Shift, Mirror, Disk.
  One answer for each argument: what the four functions of package mink return, and that it is unique.
-/
import Derived.Test.YtlookcbokhknfaaGreatHullAro
namespace Go.Proofs.YtlookcbokhknfaaGreat
open Go.RowKit Hl
namespace Mk
set_option maxRecDepth 100000
def part (p q:List Pt) (i j:Nat):List Pt:=sums (p.take i) q ++ (q.take j).map (plus (at' p i))
theorem part_zero (p q:List Pt) (i:Nat):part p q i 0=sums (p.take i) q:=by unfold part;rw [List.take_zero,List.map_nil,List.append_nil]
theorem part_next {p q:List Pt} {i j:Nat} (hj:j < q.length):part p q i (j+1)=part p q i j ++ [plus (at' p i) (at' q j)]:=by
 unfold part
 rw [List.take_succ_eq_append_getElem hj,List.map_append,← List.append_assoc]
 have e:at' q j=q[j]:=by unfold at';simp [hj]
 rw [e]
 rfl
theorem part_all {p q:List Pt} {i:Nat} (hi:i < p.length):part p q i q.length=sums (p.take (i+1)) q:=by
 unfold part sums
 rw [List.take_succ_eq_append_getElem hi,List.flatMap_append,List.take_length]
 have e:at' p i=p[i]:=by unfold at';simp [hi]
 rw [e]
 simp
theorem sums_len (p q:List Pt):(sums p q).length=p.length * q.length:=by
 induction p with
 | nil => simp [sums]
 | cons x p ih =>
   have e:sums (x :: p) q=q.map (plus x) ++ sums p q:=rfl
   rw [e,List.length_append,ih,List.length_map,List.length_cons,Nat.succ_mul,Nat.add_comm]
theorem part_len {p q:List Pt} {i j:Nat} (hp:p.length≤64) (hq:q.length≤64):(part p q i j).length≤8192:=by
 unfold part
 rw [List.length_append,sums_len,List.length_map,List.length_take,List.length_take]
 have:=Nat.mul_le_mul (show min i p.length≤64 by omega) hq
 omega
theorem sums_pws {p q:List Pt} (hp:Plcs p) (hq:Plcs q):Pws (sums p q):=fun i hi => by
 obtain ⟨x,hx,y,hy,e⟩:=mem_sums.1 (at_mem hi)
 obtain ⟨a,ha,rfl⟩:=mem_at hx
 obtain ⟨c,hc,rfl⟩:=mem_at hy
 rw [← e]
 have h1:=hp a ha
 have h2:=hq c hc
 unfold Plc at h1 h2
 unfold Pw plus
 simp only
 omega
def PlusSays (p q:List Pt) (w:World) (e:Ending) (w':World):Prop:=∃ v s,IsHull (sums p q) s∧e=.returned v∧Sl w' v s∧Grew w w'
set_option maxHeartbeats 8000000 in
theorem plus_6 (p q:List Pt) (v v':Value) (w:World) (hs:Sl w v p) (hs':Sl w v' q) (hp:Vl p) (hq:Vl q):Calls Tryz.prog 122 #[v,v'] w (PlusSays p q w):=by
 obtain ⟨b,o,c,rfl,hr⟩:=hs.row (fun e => by have:=hp.1.1;rw [e] at this;cases this)
 obtain ⟨b2,o2,c2,rfl,hr2⟩:=hs'.row (fun e => by have:=hq.1.1;rw [e] at this;cases this)
 have HR:=Lib.hid hr
 have HR2:=Lib.hid hr2
 have HP:=Lib.hid hp.2.1
 have HQ:=Lib.hid hq.2.1
 have HL:Hid ((1≤p.length∧p.length≤64)∧1≤q.length∧q.length≤64):=Lib.hid ⟨hp.1,hq.1⟩
 have pl:(p.length:Int)≤64:=by have:=hp.1.2;omega
 have ql:(q.length:Int)≤64:=by have:=hq.1.2;omega
 clear hr hr2 hs hs' hp hq
 go_enter Tryz.func122,Tryz.ntmps122
 go_wp2_with fail
 go_loopw [5,6,7] (fun u x _ wr => ∃ (i:Nat) (ou:Value),i≤p.length∧x=.int .i64 i∧ou=u∧Grew w wr∧Hid (Hl.Own w.heap.size wr u (sums (p.take i) q))) (fun _ x _ _ => p.length - (intOf x).toNat)
 case atStart => exact ⟨0,_,Nat.zero_le _,rfl,rfl,Grew.refl _,Lib.hid (Own.nil _ _)⟩
 case round =>
  obtain ⟨i,ou,hi,rfl,rfl,GW0,OW0⟩:=hrel
  by_cases hlt:i < p.length
  ·have i0:(0:Int)≤(i:Int):=by omega
   have i1:(i:Int) < (p.length:Int):=by omega
   obtain ⟨⟨x0,x1⟩,x2,x3⟩:=HP.out i hlt
   have PA:=Lib.hid (part_all (q:=q) hlt)
   have PZ:=Lib.hid (part_zero p q i)
   obtain ⟨V,hV⟩:∃ V,V=wr:=⟨wr,rfl⟩
   rw [← hV] at GW0 OW0
   rw [← hV]
   clear hV
   go_wp2_with fail
   go_loopw [5,7] (fun u x wz => ∃ (j:Nat) (oz:Value),j≤q.length∧x=.int .i64 j∧oz=u∧Grew w wz∧Hid (Hl.Own w.heap.size wz u (part p q i j))) (fun _ x _ => q.length - (intOf x).toNat)
   case atStart => exact ⟨0,_,Nat.zero_le _,rfl,rfl,GW0,Lib.hid (by rw [PZ.out];exact OW0.out)⟩
   case round =>
    obtain ⟨j,oz,hj,rfl,rfl,GW1,OW⟩:=hrel
    have GW:=Lib.hid GW1
    by_cases hlt2:j < q.length
    ·obtain ⟨q0,q1⟩:=(HR.out.grown GW1).2 i hlt
     obtain ⟨q2,q3⟩:=(HR2.out.grown GW1).2 j hlt2
     have hb:=(HR.out.grown GW1).1
     have hb2:=(HR2.out.grown GW1).1
     have SZ:=GW1.size
     have ad0:b ≠ wr.heap.size:=by omega
     have ad1:b2 ≠ wr.heap.size:=by omega
     obtain ⟨⟨z0,z1⟩,z2,z3⟩:=HQ.out j hlt2
     have j0:(0:Int)≤(j:Int):=by omega
     have j1:(j:Int) < (q.length:Int):=by omega
     have SN:=Lib.hid (part_next (p:=p) (i:=i) hlt2)
     have LN:Hid ((part p q i j).length≤4000000):=Lib.hid (by have:=part_len (i:=i) (j:=j) HL.out.1.2 HL.out.2.2;omega)
     have hbw:b < w.heap.size:=HR.out.1
     have hbw2:b2 < w.heap.size:=HR2.out.1
     have S0:(wr.cell? ⟨b,o+i * 2,none⟩=some (.int .i64 (at' p i).1)∧wr.cell? ⟨b,o+i * 2+1,none⟩=some (.int .i64 (at' p i).2))∧(wr.cell? ⟨b2,o2+j * 2,none⟩=some (.int .i64 (at' q j).1)∧wr.cell? ⟨b2,o2+j * 2+1,none⟩=some (.int .i64 (at' q j).2)):=⟨⟨q0,q1⟩,q2,q3⟩
     have W1:IntKind.i64.wrap ((at' p i).1+(at' q j).1)=(at' p i).1+(at' q j).1:=IntWalk.i64_in _ ⟨by omega,by omega⟩
     have W2:IntKind.i64.wrap ((at' p i).2+(at' q j).2)=(at' p i).2+(at' q j).2:=IntWalk.i64_in _ ⟨by omega,by omega⟩
     clear GW1
     go_wp2_with fail
     go_region_held3 (fun W => (W.cell? ⟨b,o+i * 2,none⟩=some (.int .i64 (at' p i).1)∧W.cell? ⟨b,o+i * 2+1,none⟩=some (.int .i64 (at' p i).2))∧(W.cell? ⟨b2,o2+j * 2,none⟩=some (.int .i64 (at' q j).1)∧W.cell? ⟨b2,o2+j * 2+1,none⟩=some (.int .i64 (at' q j).2))) (first | assumption | simp [go_sem, *])
      ((refine step_one _ rfl (.tmp 20) (.tmp 44) rfl w.heap.size _ (part p q i j) (plus (at' p i) (at' q j)) _ 1 rfl ?_ rfl ?_ LN.out ?_ ?_
        ·repeat' (first | exact OW.out | refine Hl.Own.alloc ?_ _ | refine Hl.Own.drew ?_)
        ·exact row_new [(plus (at' p i) (at' q j))] _ rfl wr _
        ·(have:=SZ;simp;omega)
        intro v' w' own' gr'
        have GG4:Hid (Grew w w'):=Lib.hid (Grew.grown (Grew.drew (Grew.alloc GW.out _ _)) gr' (fun k hk => Nat.le_trans (by omega) (own_lt (OW.out) k hk)))
        have FC:∀ bb oo,bb < w.heap.size→w'.cell? ⟨bb,oo,none⟩=wr.cell? ⟨bb,oo,none⟩:=fun bb oo hbb => by
         rw [World.grownBy.cell_far gr' ⟨bb,oo,none⟩ (by simp;omega) (fun e => by have:=own_lt (OW.out) bb e.symm;omega),World.cell?_drew,World.cell?_alloc_lt (h:=by simp;omega) ..]
        have S1:(w'.cell? ⟨b,o+i * 2,none⟩=some (.int .i64 (at' p i).1)∧w'.cell? ⟨b,o+i * 2+1,none⟩=some (.int .i64 (at' p i).2))∧(w'.cell? ⟨b2,o2+j * 2,none⟩=some (.int .i64 (at' q j).1)∧w'.cell? ⟨b2,o2+j * 2+1,none⟩=some (.int .i64 (at' q j).2)):=by refine ?_ <;> (simp only [FC _ _ hbw,FC _ _ hbw2];exact S0)
        have OW4:=Lib.hid own'
        have SZ4:w.heap.size≤w'.heap.size:=Nat.le_trans (by have:=SZ;simp;omega) gr'.size
        clear own' gr' FC))
     clear S0 S1 q0 q1 q2 q3 W1 W2
     go_wp2_with fail
     go_roundw
     case rel => exact ⟨j+1,_,by omega,by go_num,rfl,GG4.out,Lib.hid (by rw [SN.out];exact OW4.out)⟩
     case measure => simp [intOf];omega
    ·have KL:Hid (j=q.length):=Lib.hid (by omega)
     clear GW1
     go_wp2_with fail
     go_roundw
     case rel => exact ⟨i+1,_,by omega,by go_num,rfl,GW.out,Lib.hid (by rw [← PA.out,← KL.out];exact OW.out)⟩
     case measure => simp [intOf];omega
  ·have KL:Hid (i=p.length):=Lib.hid (by omega)
   obtain ⟨b3,o3,c3,rfl,row⟩:=OW0.out.sl.row (fun e => by
    have t1:=congrArg List.length e
    rw [sums_len,List.length_take,List.length_nil] at t1
    have t2:=HL.out
    have t3:=KL.out
    have:=Nat.mul_pos (show 0 < min i p.length by omega) (show 0 < q.length by omega)
    omega)
   have e1:Hid (sums (p.take i) q=sums p q):=Lib.hid (by rw [KL.out,List.take_length])
   have AR:=Lib.hid (around_w (sums (p.take i) q) b3 o3 c3 wr row (by rw [e1.out,sums_len];have:=HL.out;exact Nat.mul_pos (by omega) (by omega)) (by rw [e1.out,sums_len];have:=Nat.mul_le_mul HL.out.1.2 HL.out.2.2;omega) (by rw [e1.out];exact sums_pws HP.out HQ.out))
   have GW:=Lib.hid GW0
   clear row GW0
   go_wp2_with fail
   refine (AR.out).mono ?_
   rintro e w3 ⟨v,s,hq,rfl,hv,g3⟩
   have HS:=Lib.hid hq
   have HV:=Lib.hid hv
   have G3:=Lib.hid (Grew.trans GW.out g3)
   clear hq hv g3
   go_wp2_with fail
   go_ret
   exact ⟨v,s,by have:=HS.out;rwa [e1.out] at this,rfl,HV.out,G3.out⟩
end Mk
end Go.Proofs.YtlookcbokhknfaaGreat
namespace Go.Proofs.YtlookcbokhknfaaGreat
open Go.RowKit Hl
namespace Mk
set_option maxRecDepth 100000
def SumSays (p q:List Pt) (w:World) (e:Ending) (w':World):Prop:=∃ s,IsHull (sums p q) s∧((¬ Plcs s∧Empty 3 w e w')∨(Plcs s∧∃ v t,((s.length≤64∧t=s)∨(64 < s.length∧IsOct s t))∧e=.returned (.tuple #[v,.int .i64 0])∧Sl w' v t∧Grew w w'))
def ShiftSays (p:List Pt) (z:Pt) (w:World) (e:Ending) (w':World):Prop:=(¬ Plcs (shift p z)∧Empty 3 w e w')∨(Plcs (shift p z)∧∃ v,e=.returned (.tuple #[v,.int .i64 0])∧Sl w' v (shift p z)∧Grew w w')
def DiskSays (n:Int) (w:World) (e:Ending) (w':World):Prop:=∃ v m d,Wd n m∧IsHull (diskL n m) d∧e=.returned (.tuple #[v,.int .i64 0])∧Sl w' v d∧Grew w w'
structure Fns (fs fh fm fd:Nat):Prop where
 sum_bad:∀ (p q:List Pt) (v u:Value) (w:World),Sl w v p→Sl w u q→p.length≤9223372036854775807→q.length≤9223372036854775807→¬ (Vl p∧Vl q)→Calls Tryz.prog fs #[v,u] w (Empty 1 w)
 sum_ok:∀ (p q:List Pt) (v u:Value) (w:World),Sl w v p→Sl w u q→Vl p→Vl q→Calls Tryz.prog fs #[v,u] w (SumSays p q w)
 shift_bad:∀ (p:List Pt) (z:Pt) (v:Value) (w:World),Sl w v p→p.length≤9223372036854775807→¬ (Vl p∧Plc z)→Calls Tryz.prog fh #[v,.agg #[.int .i64 z.1,.int .i64 z.2]] w (Empty 1 w)
 shift_ok:∀ (p:List Pt) (z:Pt) (v:Value) (w:World),Sl w v p→Vl p→Plc z→Calls Tryz.prog fh #[v,.agg #[.int .i64 z.1,.int .i64 z.2]] w (ShiftSays p z w)
 mir_bad:∀ (p:List Pt) (v:Value) (w:World),Sl w v p→p.length≤9223372036854775807→¬ Vl p→Calls Tryz.prog fm #[v] w (Empty 1 w)
 mir_ok:∀ (p:List Pt) (v:Value) (w:World),Sl w v p→Vl p→Calls Tryz.prog fm #[v] w (MirSays p w)
 disk_bad:∀ (n:Int) (w:World),¬ (0≤n∧n≤100000)→Calls Tryz.prog fd #[.int .i64 n] w (Empty 1 w)
 disk_ok:∀ (n:Int) (w:World),0≤n→n≤100000→Calls Tryz.prog fd #[.int .i64 n] w (DiskSays n w)
theorem hull_ne {l s:List Pt} (h:IsHull l s):1≤s.length:=h.1.1
theorem sum_few {p q s:List Pt} (hp:Vl p) (hq:Vl q) (hs:IsHull (sums p q) s):s.length≤128:=by
 have:=sum_count hp.pg hq.pg hs
 have:=hp.1.2
 have:=hq.1.2
 omega
theorem places_sl (s:List Pt) (v:Value) (w:World) (hs:Sl w v s) (h1:1≤s.length) (h2:s.length≤9223372036854775807):Calls Tryz.prog 123 #[v] w (Tells (Plcs s) w):=by
 obtain ⟨b,o,c,rfl,hr⟩:=hs.row (fun e => by rw [e] at h1;cases h1)
 exact places_6 s b o c w hr h2
theorem r_sum_ok (p q:List Pt) (v u:Value) (w:World) (hs:Sl w v p) (hs2:Sl w u q) (hp:Vl p) (hq:Vl q):Calls Tryz.prog 67 #[v,u] w (SumSays p q w):=by
 have HS:=Lib.hid hs
 have HS2:=Lib.hid hs2
 have VP:=Lib.hid hp
 have VQ:=Lib.hid hq
 have L1:Hid (p.length≤9223372036854775807):=Lib.hid (by have:=hp.1.2;omega)
 have L2:Hid (q.length≤9223372036854775807):=Lib.hid (by have:=hq.1.2;omega)
 clear hs hs2 hp hq
 go_enter Tryz.func67,Tryz.ntmps67
 go_wp2_with fail
 refine ((rvalid_any p v _ HS.out L1.out).mono fun _ _ t => t.to VP.out).mono ?_
 rintro e w1 ⟨rfl,G1⟩
 go_wp2_with fail
 refine ((rvalid_any q u _ (HS2.out.grown G1) L2.out).mono fun _ _ t => t.to VQ.out).mono ?_
 rintro e w2 ⟨rfl,g2⟩
 have G2:=Grew.trans G1 g2
 clear G1 g2
 go_wp2_with fail
 refine (plus_6 p q v u _ (HS.out.grown G2) (HS2.out.grown G2) VP.out VQ.out).mono ?_
 rintro e w3 ⟨v3,s,hull,rfl,sl3,g3⟩
 have G3:=Grew.trans G2 g3
 have HH:=Lib.hid hull
 have SL3:=Lib.hid sl3
 clear G2 g3 hull sl3
 by_cases hpl:Plcs s
 ·have HP:=Lib.hid hpl
  clear hpl
  go_wp2_with fail
  refine ((places_sl s v3 _ SL3.out (hull_ne HH.out) (by have:=sum_few VP.out VQ.out HH.out;omega)).mono fun _ _ t => t.to HP.out).mono ?_
  rintro e w4 ⟨rfl,g4⟩
  have G4:=Grew.trans G3 g4
  have SL4:=Lib.hid (SL3.out.grown g4)
  clear G3 g4
  go_wp2_with fail
  refine (fewer_r s v3 _ SL4.out HP.out (hull_ne HH.out) (by have:=sum_few VP.out VQ.out HH.out;omega)).mono ?_
  rintro e w5 ⟨v5,t,ht,rfl,sl5,g5⟩
  have HT:=Lib.hid ht
  have SL5:=Lib.hid sl5
  clear ht sl5
  go_wp2_with fail
  go_ret2
  exact ⟨s,HH.out,Or.inr ⟨HP.out,v5,t,HT.out,rfl,SL5.out,Grew.trans G4 g5⟩⟩
 ·have HP:=Lib.hid hpl
  clear hpl
  go_wp2_with fail
  refine ((places_sl s v3 _ SL3.out (hull_ne HH.out) (by have:=sum_few VP.out VQ.out HH.out;omega)).mono fun _ _ t => t.un HP.out).mono ?_
  rintro e w4 ⟨rfl,g4⟩
  go_wp2_with fail
  go_ret2
  exact ⟨s,HH.out,Or.inl ⟨HP.out,_,rfl,Or.inl ⟨rfl,none,0,rfl⟩,Grew.trans G3 g4⟩⟩
end Mk
end Go.Proofs.YtlookcbokhknfaaGreat
namespace Go.Proofs.YtlookcbokhknfaaGreat
open Go.RowKit Hl
namespace Mk
def SumIs (p q:List Pt) (k:Int) (r:List Pt):Prop:=(¬ (Vl p∧Vl q)∧k=1∧r=[])∨((Vl p∧Vl q)∧∃ s,IsHull (sums p q) s∧((¬ Plcs s∧k=3∧r=[])∨(Plcs s∧k=0∧((s.length≤64∧r=s)∨(64 < s.length∧IsOct s r)))))
def ShfIs (p:List Pt) (z:Pt) (k:Int) (r:List Pt):Prop:=(¬ (Vl p∧Plc z)∧k=1∧r=[])∨((Vl p∧Plc z)∧((¬ Plcs (shift p z)∧k=3∧r=[])∨(Plcs (shift p z)∧k=0∧r=shift p z)))
def MirIs (p:List Pt) (k:Int) (r:List Pt):Prop:=(¬ Vl p∧k=1∧r=[])∨(Vl p∧k=0∧IsHull (mirror p) r)
def DskIs (n:Int) (k:Int) (r:List Pt):Prop:=(¬ (0≤n∧n≤100000)∧k=1∧r=[])∨((0≤n∧n≤100000)∧k=0∧∃ m,Wd n m∧IsHull (diskL n m) r)
def Ans (P:Int→List Pt→Prop) (w:World) (e:Ending) (w':World):Prop:=∃ v k r,P k r∧e=.returned (.tuple #[v,.int .i64 k])∧Sl w' v r∧Grew w w'
theorem oct_same {p q q':List Pt} (h:IsOct p q) (h':IsOct p q'):q=q':=by
 obtain ⟨a,b,c,d,s,t,i,j,h1,h2,h3,h4,h5,h6,h7,h8,hq⟩:=h
 obtain ⟨a',b',c',d',s',t',i',j',k1,k2,k3,k4,k5,k6,k7,k8,hr⟩:=h'
 obtain rfl:=k1.one h1
 obtain rfl:b'=b:=by have:=k2.one h2;omega
 obtain rfl:=k3.one h3
 obtain rfl:d'=d:=by have:=k4.one h4;omega
 obtain rfl:=k5.one h5
 obtain rfl:t'=t:=by have:=k6.one h6;omega
 obtain rfl:=k7.one h7
 obtain rfl:j'=j:=by have:=k8.one h8;omega
 exact hull_unique hq hr
theorem SumIs.one {p q r r':List Pt} {k k':Int} (h:SumIs p q k r) (h':SumIs p q k' r'):k=k'∧r=r':=by
 rcases h with ⟨a,rfl,rfl⟩ | ⟨a,s,hs,h⟩ <;> rcases h' with ⟨a',rfl,rfl⟩ | ⟨a',s',hs',h'⟩
 ·exact ⟨rfl,rfl⟩
 ·exact absurd a' a
 ·exact absurd a a'
 ·obtain rfl:=hull_unique hs hs'
  rcases h with ⟨b,rfl,rfl⟩ | ⟨b,rfl,h⟩ <;> rcases h' with ⟨b',rfl,rfl⟩ | ⟨b',rfl,h'⟩
  ·exact ⟨rfl,rfl⟩
  ·exact absurd b' b
  ·exact absurd b b'
  ·rcases h with ⟨c,rfl⟩ | ⟨c,h⟩ <;> rcases h' with ⟨c',rfl⟩ | ⟨c',h'⟩
   ·exact ⟨rfl,rfl⟩
   ·exfalso;omega
   ·exfalso;omega
   ·exact ⟨rfl,oct_same h h'⟩
theorem ShfIs.one {p r r':List Pt} {z:Pt} {k k':Int} (h:ShfIs p z k r) (h':ShfIs p z k' r'):k=k'∧r=r':=by
 rcases h with ⟨a,rfl,rfl⟩ | ⟨a,h⟩ <;> rcases h' with ⟨a',rfl,rfl⟩ | ⟨a',h'⟩
 ·exact ⟨rfl,rfl⟩
 ·exact absurd a' a
 ·exact absurd a a'
 ·rcases h with ⟨b,rfl,rfl⟩ | ⟨b,rfl,rfl⟩ <;> rcases h' with ⟨b',rfl,rfl⟩ | ⟨b',rfl,rfl⟩
  ·exact ⟨rfl,rfl⟩
  ·exact absurd b' b
  ·exact absurd b b'
  ·exact ⟨rfl,rfl⟩
theorem MirIs.one {p r r':List Pt} {k k':Int} (h:MirIs p k r) (h':MirIs p k' r'):k=k'∧r=r':=by
 rcases h with ⟨a,rfl,rfl⟩ | ⟨a,rfl,h⟩ <;> rcases h' with ⟨a',rfl,rfl⟩ | ⟨a',rfl,h'⟩
 ·exact ⟨rfl,rfl⟩
 ·exact absurd a' a
 ·exact absurd a a'
 ·exact ⟨rfl,hull_unique h h'⟩
theorem DskIs.one {n:Int} {r r':List Pt} {k k':Int} (h:DskIs n k r) (h':DskIs n k' r'):k=k'∧r=r':=by
 rcases h with ⟨a,rfl,rfl⟩ | ⟨a,rfl,m,hm,h⟩ <;> rcases h' with ⟨a',rfl,rfl⟩ | ⟨a',rfl,m',hm',h'⟩
 ·exact ⟨rfl,rfl⟩
 ·exact absurd a' a
 ·exact absurd a a'
 ·obtain rfl:=wd_unique hm hm'
  exact ⟨rfl,hull_unique h h'⟩
variable {fs fh fm fd:Nat}
theorem Fns.sum (F:Fns fs fh fm fd) (p q:List Pt) (v u:Value) (w:World) (hs:Sl w v p) (hu:Sl w u q) (h1:p.length≤9223372036854775807) (h2:q.length≤9223372036854775807):Calls Tryz.prog fs #[v,u] w (Ans (SumIs p q) w):=by
 by_cases h:Vl p∧Vl q
 ·refine (F.sum_ok p q v u w hs hu h.1 h.2).mono ?_
  rintro e w' ⟨s,hh,⟨b,v',rfl,sl,g⟩ | ⟨b,v',t,ht,rfl,sl,g⟩⟩
  ·exact ⟨v',3,[],Or.inr ⟨h,s,hh,Or.inl ⟨b,rfl,rfl⟩⟩,rfl,sl,g⟩
  ·exact ⟨v',0,t,Or.inr ⟨h,s,hh,Or.inr ⟨b,rfl,ht⟩⟩,rfl,sl,g⟩
 ·refine (F.sum_bad p q v u w hs hu h1 h2 h).mono ?_
  rintro e w' ⟨v',rfl,sl,g⟩
  exact ⟨v',1,[],Or.inl ⟨h,rfl,rfl⟩,rfl,sl,g⟩
theorem hull_le {l q:List Pt} (h:IsHull l q):q.length≤l.length:=by
 have hnd:∀ i j,i < q.length→j < q.length→i ≠ j→at' q i ≠ at' q j:=fun _ _ hi hj hne => pg_distinct h.1 hi hj hne
 exact count_le (at' q) q.length l (fun _ _ hi hj hne => hnd _ _ hi hj hne) (fun _ hi => h.2.1 _ (at_mem hi))
theorem oct_le {p q:List Pt} (h:IsOct p q):q.length≤8:=by
 obtain ⟨a,b,c,d,s,t,i,j,_,_,_,_,_,_,_,_,hq⟩:=h
 have:=hull_le hq
 simpa [octL] using this
theorem SumIs.few {p q r:List Pt} {k:Int} (h:SumIs p q k r):r.length≤64:=by
 rcases h with ⟨_,_,rfl⟩ | ⟨_,s,hs,⟨_,_,rfl⟩ | ⟨_,_,⟨a,rfl⟩ | ⟨_,h⟩⟩⟩
 ·decide
 ·decide
 ·exact a
 ·have:=oct_le h;omega
theorem ShfIs.few {p r:List Pt} {z:Pt} {k:Int} (h:ShfIs p z k r):r.length≤64:=by
 rcases h with ⟨_,_,rfl⟩ | ⟨a,⟨_,_,rfl⟩ | ⟨_,_,rfl⟩⟩
 ·decide
 ·decide
 ·rw [shift_len];exact a.1.1.2
theorem MirIs.few {p r:List Pt} {k:Int} (h:MirIs p k r):r.length≤64:=by
 rcases h with ⟨_,_,rfl⟩ | ⟨a,_,h⟩
 ·decide
 ·have:=hull_le h;rw [mirror_len] at this;have:=a.1.2;omega
theorem DskIs.few {n:Int} {r:List Pt} {k:Int} (h:DskIs n k r):r.length≤8:=by
 rcases h with ⟨_,_,rfl⟩ | ⟨_,_,m,_,h⟩
 ·decide
 ·have:=hull_le h;simpa [diskL,octL] using this
end Mk
end Go.Proofs.YtlookcbokhknfaaGreat
