/-
  The landed sorted, with what slices.Clone, slices.SortFunc and slices.Compact leave.
  The library Grow at a nil chain, Reverse at points, Concat at two chains.
  Plain geometry: the places in their order, pushed one by one, and back again, make the hull.
  The landed corners.
-/
import Derived.Deep.LoopGhost
import Derived.Lib.SlicesCompact
import Derived.Lib.SliceRun
import Derived.Test.YtlookcbokhknfaaGreatHullLay
import Derived.Test.YtlookcbokhknfaaGreatHullCa
import Derived.Test.YtlookcbokhknfaaGreatHullChain
import Derived.Test.YtlookcbokhknfaaGreatHullCr
import Derived.Test.YtlookcbokhknfaaGreatHullIn
namespace Go.Proofs.YtlookcbokhknfaaGreat
open Go.RowKit Go.Shelf Go.Sort
namespace Hl
abbrev PPt:={ x:Pt // Plc x }
instance:Inhabited PPt:=⟨⟨(0,0),by unfold Plc;simp⟩⟩
def enc2 (x:PPt):List Value:=[.int .i64 x.1.1,.int .i64 x.1.2]
def cf (x y:PPt):Int:=if x.1.1=y.1.1 then x.1.2 - y.1.2 else x.1.1 - y.1.1
theorem lt_ls (x y:PPt):ltOf cf x y=decide (ls x.1 y.1):=by
 unfold ltOf cf
 rw [decide_eq_decide]
 unfold ls
 split <;> omega
theorem swo:SWO (ltOf cf) where
 irrefl x:=by rw [lt_ls,decide_eq_false_iff_not];exact ls_irrefl _
 trans x y z h1 h2:=by
  rw [lt_ls,decide_eq_true_eq] at *
  exact ls_trans h1 h2
 ntrans x y z h1 h2:=by
  rw [lt_ls,decide_eq_false_iff_not] at *
  unfold ls at *
  omega
set_option maxHeartbeats 1000000 in
theorem cmp_c (x y:PPt) (W:World):Calls Tryz.prog 190 #[.agg #[.int .i64 x.1.1,.int .i64 x.1.2],.agg #[.int .i64 y.1.1,.int .i64 y.1.2]] W fun e w' => e=.returned (.int .i64 (cf x y))∧∃ q os',w'=grow (W.drewN q) os':=by
 obtain ⟨⟨a,b⟩,⟨h0,h1⟩,⟨h2,h3⟩⟩:=x
 obtain ⟨⟨c,d⟩,⟨k0,k1⟩,⟨k2,k3⟩⟩:=y
 simp only at h0 h1 h2 h3 k0 k1 k2 k3
 unfold cf
 simp only
 by_cases e:a=c
 ·subst e
  rw [if_pos rfl]
  go_enter Tryz.func190,Tryz.ntmps190
  go_wp2_with fail
  go_ret
  exact ⟨rfl,0,_,by rw [alloc_eq_grow,alloc_eq_grow,grow_grow];rfl⟩
 ·rw [if_neg e]
  have e':(a == c)=false:=by rw [beq_eq_false_iff_ne];exact e
  have e'':(a != c)=true:=by simp [e]
  go_enter Tryz.func190,Tryz.ntmps190
  go_wp2_with fail
  go_ret
  exact ⟨rfl,0,_,by rw [alloc_eq_grow,alloc_eq_grow,grow_grow];rfl⟩
theorem clone_c (l:List Pt) (b o c:Nat) (w:World) (hr:Row w b o l) (hl:l.length≤4000000) :
  Calls Tryz.prog 138 #[.slice (some ⟨b,o,none⟩) l.length c] w fun e w' => ∃ v,e=.returned v∧Own w.heap.size w' v l∧Grew w w':=by
 obtain ⟨i0,hi,hz0,hz1,hz2⟩:=info_parts info_pt
 have h:=AnyE.slices_Clone cloneP i0 (.agg #[.int .i64 0,.int .i64 0]) 2 16 hi hz0 hz1 hz2 rfl (by decide) (fun w => Tryz.sizeOf27 w) b o l.length c (cellsOf l) w (cellsOf_len l) (by unfold maxLen;omega) (by omega) (fun j u hj => by
  have:=row_cells hr j u hj
  rwa [Addr.add_lit] at this) (cells_one l)
 refine h.mono ?_
 rintro e w' ⟨v,rfl,h1,_,h3⟩
 exact ⟨v,rfl,h1,h3⟩
theorem list_pp {l:List Pt} (h:Plcs l):∃ d:List PPt,d.map Subtype.val=l:=by
 induction l with
 | nil => exact ⟨[],rfl⟩
 | cons x l ih =>
   obtain ⟨d,hd⟩:=ih (fun i hi => h (i+1) (by simp;omega))
   exact ⟨⟨x,h 0 (by simp)⟩ :: d,by simp [hd]⟩
theorem flat_pp (d:Array PPt):flatK enc2 2 d=(cellsOf (d.toList.map Subtype.val)).toArray:=by
 rw [← show flatK encP 2 (d.map Subtype.val)=(cellsOf (d.toList.map Subtype.val)).toArray by rw [flat_cells];simp]
 unfold flatK
 rw [Array.size_map]
 apply Array.ext
 ·simp
 ·intro i h1 h2
  have hi:i / 2 < d.size:=by simp at h1;omega
  simp [hi,enc2,encP]
def SortSays (l:List Pt) (B g cap:Nat) (w:World) (e:Ending) (w':World):Prop:=e=.returned (.tuple #[])∧∃ q,q.length=l.length∧(∀ x,x ∈ q↔x ∈ l)∧(∀ i,i+1 < q.length→¬ ls (at' q (i+1)) (at' q i))∧OwnAt B w' g cap q∧w.grownBy w' (some g)
theorem sort_c (l:List Pt) (B g cap:Nat) (w:World) (ho:OwnAt B w g cap l) (hp:Plcs l) (hl:l.length≤4000000) :
  Calls Tryz.prog 189 #[.slice (some ⟨g,0,none⟩) l.length cap,.func (.func 190) #[] #[]] w (SortSays l B g cap w):=by
 obtain ⟨d,rfl⟩:=list_pp hp
 have eg:∀ args w,(callFunc 190 args).run Tryz.prog w=.ok (.enter 190 args) w:=enters_of Tryz.func190 (by kernel_rfl) rfl
 have hH:HoldsK enc2 2 w g 0 d.toArray:=by
  unfold HoldsK
  rw [flat_pp]
  exact ho.holds
 have h:=AnyQ.slices_SortFunc sortP 2 (fun w => Tryz.isAgg27 w) (fun w => Tryz.sizeOf27 w) enc2 (fun _ => rfl) (fun x v hv => by simp [enc2] at hv;rcases hv with rfl | rfl <;> rfl) cf swo 190 #[] g 0 cap d.toArray w eg
  (fun _ _ _ _ x y => cmp_c x y _) hH ho.lt (by simp at hl ⊢;omega)
 rw [List.length_map]
 refine h.mono ?_
 rintro e w' ⟨rfl,d',n,os,hP,hS,rfl⟩
 have hsz:d'.size=d.length:=by rw [hP.1];simp
 have hperm:d'.toList.Perm d:=by
  have h:=hP.2.2
  have e1:d.take d'.size=d:=List.take_of_length_le (by omega)
  rw [List.size_toArray,← hsz] at h
  simpa [e1] using h
 refine ⟨rfl,d'.toList.map Subtype.val,by simp [hsz],?_,?_,?_,?_⟩
 ·intro x
  rw [List.mem_map,List.mem_map]
  exact ⟨fun ⟨a,ha,e⟩ => ⟨a,hperm.mem_iff.1 ha,e⟩,fun ⟨a,ha,e⟩ => ⟨a,hperm.mem_iff.2 ha,e⟩⟩
 ·intro i hi
  rw [List.length_map,Array.length_toList] at hi
  have hs:=hS i (i+1) (Nat.zero_le _) (by omega) (by rw [List.size_toArray];omega)
  rw [lt_ls,decide_eq_false_iff_not] at hs
  have ed:∀ j,j < d'.size→at' (d'.toList.map Subtype.val) j=d'[j]!.1:=fun j hj => by
   unfold at'
   simp [List.getD,hj,getElem!_pos]
  rw [ed _ hi,ed _ (by omega)]
  exact hs
 ·unfold sortWorldK putRowK
  rw [flat_pp]
  exact ho.put (by simp [hsz])
 ·exact grownBy_put _ _ _ _ _
end Hl
end Go.Proofs.YtlookcbokhknfaaGreat
namespace Go.Proofs.YtlookcbokhknfaaGreat
open Go.RowKit Go.Shelf Go.Sort Go.Lib
namespace Hl
theorem at_arr {d:Array Pt} {i:Nat} (hi:i < d.size):at' d.toList i=d[i]!:=by
 unfold at'
 simp [List.getD,hi,getElem!_pos]
theorem OwnAt.arr {B:Nat} {w:World} {g cap:Nat} {d:Array Pt} (h:OwnAt B w g cap d.toList) {i:Nat} (hi:i < d.size):w.cell? ⟨g,i * 2,none⟩=some (.int .i64 d[i]!.1)∧w.cell? ⟨g,i * 2+1,none⟩=some (.int .i64 d[i]!.2):=by
 have:=h.cells (i:=i) (by simpa using hi)
 rwa [at_arr hi] at this
theorem run_clear_points (w:World) (ty:TypeId) (g k n c:Nat) (hn:0 < n) (hc:∀ j,j < n * 2→(w.cell? ⟨g,k * 2+j,none⟩).isSome=true) (hf:∀ j,j < n * 2→w.frozen? ⟨g,k * 2+j,none⟩=false) :
  (Builtin.clear_ #[23] ty #[.slice (some ⟨g,k * 2,none⟩) n c]).run Tryz.prog w=.ok (.tuple #[]) (w.setCells g (k * 2) (List.replicate (n * 2) (.int .i64 0))):=by
 have hz:(Builtin.zeroCells (Value.agg #[.int .i64 0,.int .i64 0]).cells n).toList=List.replicate (n * 2) (.int .i64 0):=by
  apply List.ext_getElem
  ·simp [Builtin.zeroCells,Value.cells]
  ·intro i h1 h2
   have h3:i % 2=0∨i % 2=1:=by omega
   rcases h3 with h3 | h3 <;> simp [Builtin.zeroCells,Value.cells,h3]
 have hst:=run_storeCells_cells (P:=Tryz.prog) g (k * 2) (List.replicate (n * 2) (.int .i64 0)) 0 w (by simpa using hc) (by simpa using hf) (by intro v hv';rw [List.eq_of_mem_replicate hv'];rfl)
 simp only [Nat.add_zero] at hst
 obtain ⟨m,rfl⟩:∃ m,n=m+1:=⟨n - 1,by omega⟩
 have hv:=fun w => Tryz.zeroValue27 w
 simp [Builtin.clear_,run_underlying Tryz.underlying23,hv,hz,hst]
def CompactSays (d:Array Pt) (B g cap:Nat) (w:World) (e:Ending) (w':World):Prop:=e=.returned (.slice (some ⟨g,0,none⟩) (compactUpTo d d.size).length cap)∧OwnAt B w' g cap (compactUpTo d d.size)∧w.grownBy w' (some g)
theorem compact_same {d:Array Pt} (h:∀ j,j < d.size→keeps d j=true):compactUpTo d d.size=d.toList:=by rw [compactUpTo_all d _ h,range_map_get]
set_option maxHeartbeats 4000000 in
set_option maxRecDepth 100000 in
theorem compact_c (d:Array Pt) (B g cap:Nat) (w:World) (ho:OwnAt B w g cap d.toList) (hl:d.size≤4000000) :
  Calls Tryz.prog 191 #[.slice (some ⟨g,0,none⟩) d.size cap] w (CompactSays d B g cap w):=by
 have hcap:d.size≤cap:=by have:=ho.2.1;simpa using this
 have hmax:cap≤9223372036854775807:=ho.2.2.1
 have HO:=Lib.hid ho
 have same:Hid (∀ wf,(∀ j,j < d.size→keeps d j=true)→OwnAt B wf g cap d.toList→w.grownBy wf (some g)→CompactSays d B g cap w (.returned (.slice (some ⟨g,0,none⟩) d.size cap)) wf):=Lib.hid (fun wf h1 h2 h3 => by
  unfold CompactSays
  rw [compact_same h1]
  exact ⟨by simp,h2,h3⟩)
 clear ho
 by_cases h2:d.size < 2
 ·go_enter Tryz.func191,Tryz.ntmps191
  go_wp2_with fail
  go_ret
  exact same.out w (fun j hj => keeps_lt_one d j (by omega)) HO.out (grownBy_refl _ _)
 ·go_enter Tryz.func191,Tryz.ntmps191
  go_wp2_with fail
  go_loopg [3] d.size (fun gh s3 wr => ∃ k:Nat,1≤k∧k≤d.size∧d.size - k≤gh∧s3=.int .i64 k∧Hid (OwnAt B wr g cap d.toList∧w.grownBy wr (some g))∧Hid (∀ j,j < k→keeps d j=true))
  case atStart => exact ⟨1,Nat.le_refl _,by omega,by omega,rfl,Lib.hid ⟨HO.out,grownBy_refl _ _⟩,Lib.hid (keeps_lt_one d)⟩
  case round =>
   obtain ⟨k,hk1,hk,hg,rfl,HW,HA⟩:=hrel
   by_cases hlt:k < d.size
   ·obtain ⟨c0,c1⟩:=HW.out.1.arr hlt
    obtain ⟨p0,p1⟩:=HW.out.1.arr (i:=k - 1) (by omega)
    obtain ⟨⟨x1,x2⟩,hx⟩:∃ x,d[k]! = x:=⟨_,rfl⟩
    obtain ⟨⟨y1,y2⟩,hy⟩:∃ y,d[k - 1]! = y:=⟨_,rfl⟩
    rw [hx] at c0 c1
    rw [hy] at p0 p1
    simp only at c0 c1 p0 p1
    have HX:=Lib.hid hx
    have HY:=Lib.hid hy
    have gB:=HW.out.1.lt
    clear hx hy
    have e1:((k:Int) - 1)=((k - 1:Nat):Int):=by omega
    have e2:(0:Int)≤(k:Int) - 1:=by omega
    have e3:(k:Int) - 1 < (d.size:Int):=by omega
    have e4:((k:Int) - 1).toNat=k - 1:=by omega
    have i1:(k:Int) < (d.size:Int):=by omega
    have hxy:(x1=y1∧x2=y2)∨¬ (x1=y1∧x2=y2):=Classical.em _
    rcases hxy with ⟨rfl,rfl⟩ | hne
    ·go_wp2_with fail
     go_quiet (fail)
     go_wp2_with fail
     have DUP:=Lib.hid (show keeps d k=false from keeps_neg (by omega) (by rw [HX.out,HY.out]))
     clear c0 c1 p0 p1 e1 e2 e3 e4 HX HY
     go_loopg [3,5] d.size (fun gh s3 s5 wr => ∃ (kk k2:Nat) (dk:Array Pt),s3=.int .i64 kk∧s5=.int .i64 k2∧1≤k2∧k+k2≤d.size∧d.size - (k+k2)≤gh∧Hid (OwnAt B wr g cap dk.toList∧w.grownBy wr (some g))∧Hid (CompInv d (k+k2) kk dk))
     case atStart => exact ⟨k,1,d,rfl,rfl,Nat.le_refl _,by omega,by omega,Lib.hid ⟨HW.out.1.grew ((Grew.refl _).drewN _),grownBy_trans HW.out.2 (grownBy_drawN _ _ _)⟩,Lib.hid (CompInv.start HA.out DUP.out)⟩
     case round =>
      obtain ⟨kk,k2,dk,rfl,rfl,h1,hle,hg2,HK,HI⟩:=hrel
      have hkk:=HI.out.lt
      have hds:=HI.out.size
      by_cases hlt2:k+k2 < d.size
      ·obtain ⟨m0,m1⟩:=HK.out.1.arr (i:=k+k2) (by omega)
       obtain ⟨q0,q1⟩:=HK.out.1.arr (i:=k+k2 - 1) (by omega)
       obtain ⟨r0,r1⟩:=HK.out.1.arr (i:=kk) (by omega)
       have f0:=HK.out.1.frozen (kk * 2)
       have f1:=HK.out.1.frozen (kk * 2+1)
       rw [HI.out.high (k+k2) (by omega),show (k+k2) * 2=k * 2+k2 * 2 by omega] at m0 m1
       rw [HI.out.high (k+k2 - 1) (by omega),show (k+k2 - 1) * 2=k * 2+(k2 - 1) * 2 by omega] at q0 q1
       obtain ⟨⟨u1,u2⟩,hu⟩:∃ x,d[k+k2]! = x:=⟨_,rfl⟩
       obtain ⟨⟨v1,v2⟩,hv⟩:∃ y,d[k+k2 - 1]! = y:=⟨_,rfl⟩
       rw [hu] at m0 m1
       rw [hv] at q0 q1
       simp only at m0 m1 q0 q1
       have HU:=Lib.hid hu
       have HV:=Lib.hid hv
       have gB2:=HK.out.1.lt
       clear hu hv
       have e1:((k2:Int) - 1)=((k2 - 1:Nat):Int):=by omega
       have e2:(0:Int)≤(k2:Int) - 1:=by omega
       have e3:(k2:Int) - 1 < ((d.size - k:Nat):Int):=by omega
       have e4:((k2:Int) - 1).toNat=k2 - 1:=by omega
       have i2:(k2:Int) < ((d.size - k:Nat):Int):=by omega
       have i3:(kk:Int) < (d.size:Int):=by omega
       have i4:kk < d.size:=by omega
       have huv:(u1=v1∧u2=v2)∨¬ (u1=v1∧u2=v2):=Classical.em _
       rcases huv with ⟨rfl,rfl⟩ | hne
       ·go_wp2_with fail
        go_quiet (fail)
        go_wp2_with fail
        go_roundg (d.size - (k+(k2+1)))
        case measure => omega
        case rel => exact ⟨kk,k2+1,dk,rfl,by go_num,by omega,by omega,Nat.le_refl _,Lib.hid ⟨HK.out.1.grew ((Grew.refl _).drewN _),grownBy_trans HK.out.2 (grownBy_drawN _ _ _)⟩,Lib.hid (HI.out.skip (keeps_neg (by omega) (by rw [HU.out,HV.out])))⟩
       ·have KEEP:=Lib.hid (HI.out.keep hlt2 (keeps_pos (by rw [HU.out,HV.out];exact fun h => hne ⟨congrArg Prod.fst h,congrArg Prod.snd h⟩)))
        have SETS:=Lib.hid (show OwnAt B ((wr.setCell ⟨g,kk * 2,none⟩ (.int .i64 u1)).setCell ⟨g,kk * 2+1,none⟩ (.int .i64 u2)) g cap (dk.setIfInBounds kk d[k+k2]!).toList by
         rw [HU.out,Array.toList_setIfInBounds]
         exact HK.out.1.set (by simp;omega) (u1,u2))
        by_cases eu:u1=v1
        ·have ev:¬ u2=v2:=fun h => hne ⟨eu,h⟩
         have ev':(u2 == v2)=false:=by rw [beq_eq_false_iff_ne];exact ev
         clear hne
         subst eu
         go_wp2_with fail
         go_quiet (fail)
         go_wp2_with fail
         go_roundg (d.size - (k+(k2+1)))
         case measure => omega
         case rel => exact ⟨kk+1,k2+1,_,by go_num,by go_num,by omega,by omega,Nat.le_refl _,Lib.hid ⟨SETS.out.grew ((Grew.refl _).drewN _),grownBy_trans (grownBy_trans (grownBy_trans HK.out.2 (grownBy_setCell _ _ _ _)) (grownBy_setCell _ _ _ _)) (grownBy_drawN _ _ _)⟩,KEEP⟩
        ·have eu':(u1 == v1)=false:=by rw [beq_eq_false_iff_ne];exact eu
         clear hne
         go_wp2_with fail
         go_quiet (fail)
         go_wp2_with fail
         go_roundg (d.size - (k+(k2+1)))
         case measure => omega
         case rel => exact ⟨kk+1,k2+1,_,by go_num,by go_num,by omega,by omega,Nat.le_refl _,Lib.hid ⟨SETS.out.grew ((Grew.refl _).drewN _),grownBy_trans (grownBy_trans (grownBy_trans HK.out.2 (grownBy_setCell _ _ _ _)) (grownBy_setCell _ _ _ _)) (grownBy_drawN _ _ _)⟩,KEEP⟩
      ·have hend:k+k2=d.size:=by omega
       have hcl:∀ ty,(Builtin.clear_ #[23] ty #[.slice (some ⟨g,kk * 2,none⟩) (d.size - kk) (cap - kk)]).run Tryz.prog wr=.ok (.tuple #[]) (wr.setCells g (kk * 2) (List.replicate ((d.size - kk) * 2) (.int .i64 0))) :=
        fun ty => run_clear_points wr ty g kk _ _ (by omega) (fun j hj => HK.out.1.there (by omega)) (fun j hj => HK.out.1.frozen _)
       have hlen:(compactUpTo d d.size).length=kk:=by have:=HI.out.len;rwa [hend] at this
       have FIN:Hid (OwnAt B (wr.setCells g (kk * 2) (List.replicate ((d.size - kk) * 2) (.int .i64 0))) g cap (compactUpTo d d.size)∧w.grownBy (wr.setCells g (kk * 2) (List.replicate ((d.size - kk) * 2) (.int .i64 0))) (some g)):=Lib.hid (by
        have et:dk.toList.take kk=compactUpTo d d.size:=by
         apply List.ext_getElem?
         intro j
         by_cases hj:j < kk
         ·have:=HI.out.low j hj
          rw [hend] at this
          rw [List.getElem?_take_of_lt hj,this,Array.getElem?_toList,getElem!_pos dk j (by omega),Array.getElem?_eq_getElem]
         ·rw [List.getElem?_eq_none (by simp;omega),List.getElem?_eq_none (by omega)]
        have h:=(HK.out.1.take kk).beyonds (List.replicate ((d.size - kk) * 2) (.int .i64 0)) _ (kk * 2) (by simp;omega)
        rw [et] at h
        exact ⟨h,grownBy_trans HK.out.2 (grownBy_setCells _ _ _ _)⟩)
       have HL:=Lib.hid hlen
       have kc:kk≤cap:=by omega
       have k9:kk≤9223372036854775807:=by omega
       have kd:kk≤d.size:=by omega
       clear hlen
       go_wp2_with fail
       go_ret
       exact ⟨by rw [HL.out];rfl,FIN.out.1,FIN.out.2⟩
    ·have KEEP:=Lib.hid (show keeps d k=true from keeps_pos (by rw [HX.out,HY.out];exact fun h => hne ⟨congrArg Prod.fst h,congrArg Prod.snd h⟩))
     have ALL:Hid (∀ j,j < k+1→keeps d j=true):=Lib.hid (fun j hj => by
      by_cases e:j=k
      ·rw [e];exact KEEP.out
      ·exact HA.out j (by omega))
     by_cases eu:x1=y1
     ·have ev:¬ x2=y2:=fun h => hne ⟨eu,h⟩
      have ev':(x2 == y2)=false:=by rw [beq_eq_false_iff_ne];exact ev
      clear hne
      subst eu
      go_wp2_with fail
      go_quiet (fail)
      go_wp2_with fail
      go_roundg (d.size - (k+1))
      case measure => omega
      case rel => exact ⟨k+1,by omega,by omega,Nat.le_refl _,by go_num,Lib.hid ⟨HW.out.1.grew ((Grew.refl _).drewN _),grownBy_trans HW.out.2 (grownBy_drawN _ _ _)⟩,ALL⟩
     ·have eu':(x1 == y1)=false:=by rw [beq_eq_false_iff_ne];exact eu
      clear hne
      go_wp2_with fail
      go_quiet (fail)
      go_wp2_with fail
      go_roundg (d.size - (k+1))
      case measure => omega
      case rel => exact ⟨k+1,by omega,by omega,Nat.le_refl _,by go_num,Lib.hid ⟨HW.out.1.grew ((Grew.refl _).drewN _),grownBy_trans HW.out.2 (grownBy_drawN _ _ _)⟩,ALL⟩
   ·obtain rfl:k=d.size:=by omega
    go_wp2_with fail
    go_ret
    exact same.out _ HA.out HW.out.1 HW.out.2
end Hl
end Go.Proofs.YtlookcbokhknfaaGreat
namespace Go.Proofs.YtlookcbokhknfaaGreat
open Go.RowKit Go.Shelf Go.Sort Go.Lib
namespace Hl
theorem compact_props {d:Array Pt} (hs:∀ i,i+1 < d.size→¬ ls d[i+1]! d[i]!):∀ m,m≤d.size→(∀ x,x ∈ compactUpTo d m↔∃ j,j < m∧d[j]! = x)∧(∀ i,i+1 < (compactUpTo d m).length→ls (at' (compactUpTo d m) i) (at' (compactUpTo d m) (i+1))) ∧
  (1≤m→1≤(compactUpTo d m).length∧at' (compactUpTo d m) ((compactUpTo d m).length - 1)=d[m - 1]!)∧(compactUpTo d m).length≤m:=by
 intro m
 induction m with
 | zero =>
   intro _
   have e:compactUpTo d 0=[]:=rfl
   rw [e]
   exact ⟨fun x => ⟨fun h => (by cases h),fun ⟨j,hj,_⟩ => absurd hj (Nat.not_lt_zero _)⟩,fun i hi => (by simp at hi),fun h => (by omega),Nat.le_refl _⟩
 | succ m ih =>
   intro hm
   obtain ⟨h1,h2,h3,h4⟩:=ih (by omega)
   rw [compactUpTo_succ]
   by_cases hk:keeps d m=true
   ·rw [if_pos hk]
    obtain ⟨C,hC⟩:∃ C,compactUpTo d m=C:=⟨_,rfl⟩
    rw [hC] at h1 h2 h3 h4 ⊢
    refine ⟨fun x => ?_,fun i hi => ?_,fun _ => ⟨by simp,?_⟩,by simp;omega⟩
    ·rw [List.mem_append,List.mem_singleton,h1]
     constructor
     ·rintro (⟨j,hj,e⟩ | e)
      ·exact ⟨j,by omega,e⟩
      ·exact ⟨m,by omega,e.symm⟩
     ·rintro ⟨j,hj,e⟩
      by_cases ej:j=m
      ·rw [ej] at e;exact Or.inr e.symm
      ·exact Or.inl ⟨j,by omega,e⟩
    ·rw [List.length_append,List.length_singleton] at hi
     by_cases ei:i+1=C.length
     ·rw [at_append (by omega),ei,at_last]
      by_cases m0:m=0
      ·subst m0
       omega
      ·obtain ⟨l1,l2⟩:=h3 (by omega)
       rw [show i=C.length - 1 by omega,l2]
       have hne:d[m]! ≠ d[m - 1]!:=by
        unfold keeps at hk
        rw [decide_eq_true_eq] at hk
        exact hk.resolve_left m0
       have hw:=hs (m - 1) (by omega)
       rw [show m - 1+1=m by omega] at hw
       rcases ls_total d[m - 1]! d[m]! with h | h | h
       ·exact h
       ·exact absurd h.symm hne
       ·exact absurd h hw
     ·rw [at_append (by omega),at_append (by omega)]
      exact h2 i (by omega)
    ·rw [List.length_append,List.length_singleton,Nat.add_sub_cancel,at_last,Nat.add_sub_cancel]
   ·rw [if_neg hk,List.append_nil]
    have hm0:m ≠ 0∧d[m]! = d[m - 1]!:=by
     unfold keeps at hk
     rw [decide_eq_true_eq] at hk
     exact ⟨fun h => hk (Or.inl h),Classical.byContradiction fun h => hk (Or.inr h)⟩
    refine ⟨fun x => ?_,h2,fun _ => ?_,by omega⟩
    ·rw [h1]
     constructor
     ·rintro ⟨j,hj,e⟩;exact ⟨j,by omega,e⟩
     ·rintro ⟨j,hj,e⟩
      by_cases ej:j=m
      ·exact ⟨m - 1,by omega,by rw [← hm0.2,← ej];exact e⟩
      ·exact ⟨j,by omega,e⟩
    ·rw [Nat.add_sub_cancel,hm0.2]
     exact h3 (by omega)
def SortedSays (l:List Pt) (w:World) (e:Ending) (w':World):Prop:=∃ g cap q,e=.returned (.slice (some ⟨g,0,none⟩) q.length cap)∧OwnAt w.heap.size w' g cap q∧1≤q.length∧q.length≤l.length∧(∀ x,x ∈ q↔x ∈ l)∧(∀ i,i+1 < q.length→ls (at' q i) (at' q (i+1)))∧Grew w w'
theorem sorted_c (l:List Pt) (b o c:Nat) (w:World) (hr:Row w b o l) (hp:Plcs l) (h1:1≤l.length) (hl:l.length≤4000000) :
  Calls Tryz.prog 178 #[.slice (some ⟨b,o,none⟩) l.length c] w (SortedSays l w):=by
 have CL:=Lib.hid (clone_c l b o c w hr hl)
 have PL:=Lib.hid hp
 have L1:l ≠ []:=fun e => by rw [e] at h1;simp at h1
 clear hr hp
 go_enter Tryz.func178,Tryz.ntmps178
 go_wp2_with fail
 refine CL.out.mono ?_
 rintro e w1 ⟨v,rfl,ho,g1⟩
 obtain ⟨g,cap,rfl,ha⟩:=ho.at L1
 have SC:=Lib.hid (sort_c l w.heap.size g cap w1 ha PL.out hl)
 have HA:=Lib.hid (And.intro ha g1)
 clear CL ho ha g1
 go_wp2_with fail
 refine SC.out.mono ?_
 rintro e w2 ⟨rfl,q,hq,hmem,hsort,hown,hgr⟩
 have CC:=Lib.hid (compact_c q.toArray w.heap.size g cap w2 hown (by simp;omega))
 rw [List.size_toArray,hq] at CC
 have PR:=compact_props (d:=q.toArray) (fun i hi => by
  have:=hsort i (by simpa using hi)
  rwa [show q=q.toArray.toList from rfl,at_arr (by simpa using hi),at_arr (by simp at hi ⊢;omega)] at this) q.toArray.size (Nat.le_refl _)
 have PR:=Lib.hid PR
 have MEM:Hid (∀ x,x ∈ compactUpTo q.toArray q.toArray.size↔x ∈ l):=Lib.hid (fun x => by
  rw [PR.out.1,← hmem]
  constructor
  ·rintro ⟨j,hj,e⟩
   rw [← e,← at_arr (d:=q.toArray) hj]
   exact at_mem (by simpa using hj)
  ·intro hx
   obtain ⟨j,hj,e⟩:=mem_at hx
   exact ⟨j,by simpa using hj,by rw [← at_arr (d:=q.toArray) (by simpa using hj)];exact e⟩)
 have HG:=Lib.hid hgr
 have HQ:=Lib.hid hq
 have hB:=Lib.hid hown.1
 clear SC hsort hmem hown hgr hq
 go_wp2_with fail
 refine CC.out.mono ?_
 rintro e w3 ⟨rfl,hown,hgr⟩
 have FIN:Hid (SortedSays l w (.returned (.slice (some ⟨g,0,none⟩) (compactUpTo q.toArray q.toArray.size).length cap)) w3):=Lib.hid (by
  have hz:=PR.out.2.2
  have hs:q.toArray.size=l.length:=by rw [List.size_toArray,HQ.out]
  exact ⟨g,cap,_,rfl,hown,(hz.1 (by omega)).1,by rw [← hs];exact hz.2,MEM.out,PR.out.2.1,(HA.out.2.grown HG.out (fun k hk => by cases hk;exact hB.out)).grown hgr (fun k hk => by cases hk;exact hB.out)⟩)
 rw [List.size_toArray] at FIN
 clear hown hgr CC PR MEM
 go_wp2_with fail
 go_ret
 exact FIN.out
end Hl
end Go.Proofs.YtlookcbokhknfaaGreat
namespace Go.Proofs.YtlookcbokhknfaaGreat
open Go.RowKit Go.Shelf Go.Sort
namespace Hl
theorem new_block (w:World) (cs:Array Value) (t:TypeId):(w.drew.alloc (.cells cs t)).heap[w.heap.size]? = some (.cells cs t (0,0)):=by
 show (w.heap.push _)[w.heap.size]? = _
 rw [Array.getElem?_push_size]
theorem grow_c (N:Nat) (w:World) (h1:1≤N) (hN:N≤4000000) :
  Calls Tryz.prog 192 #[.slice none 0 0,.int .i64 N] w fun e w' => ∃ sa sc,e=.returned (.slice sa 0 sc)∧Own w.heap.size w' (.slice sa 0 sc) []∧Grew w w':=by
 obtain ⟨i0,hi,hz0,hz1,hz2⟩:=info_parts info_pt
 have h:=Any8.slices_Grow_grow growP i0 (.agg #[.int .i64 0,.int .i64 0]) hi hz0 (by omega) none 0 0 N [] w (Nat.le_refl _) (by omega) (by rw [hz2];omega) (by omega) (by simp) (fun _ => rfl) (fun a h => by cases h)
 refine h.mono ?_
 rintro e w' ⟨rfl,rfl⟩
 have hG:=grownCap_ge w (0+N) 0 27
 have hM:=grownCap_le_maxLen w (0+N) 0 27 (by unfold maxLen;omega)
 have hz:(growP_ren.t 25) = 27:=rfl
 rw [hz]
 refine ⟨_,_,rfl,own_at.1 ⟨Nat.le_refl _,Nat.zero_le _,hM,_,new_block _ _ _,?_,fun i hi => absurd hi (Nat.not_lt_zero _)⟩,((Grew.refl w).drew).alloc _ _⟩
 rw [Array.size_append,Array.size_append,size_zeroCells,size_zeroCells]
 show 0+(0+N - 0) * 2+(grownCap w (0+N) 0 27 - (0+N)) * 2=_
 omega
theorem rev_c (l:List Pt) (B g cap:Nat) (w:World) (ho:OwnAt B w g cap l) (hl:l.length≤4000000) :
  Calls Tryz.prog 181 #[.slice (some ⟨g,0,none⟩) l.length cap] w fun e w' => e=.returned (.tuple #[])∧OwnAt B w' g cap l.reverse∧w.grownBy w' (some g):=by
 have hH:HoldsK encP 2 w g 0 l.toArray:=by
  unfold HoldsK
  rw [flat_cells]
  exact ho.holds
 have h:=AnyQ.slices_Reverse reverseP 2 (fun w => Tryz.isAgg27 w) (fun w => Tryz.sizeOf27 w) encP (fun _ => rfl) (fun x v hv => by simp [encP] at hv;rcases hv with rfl | rfl <;> rfl) g 0 cap l.toArray w hH (by simp;omega)
 refine h.mono ?_
 rintro e w' ⟨rfl,n,rfl⟩
 refine ⟨rfl,?_,?_⟩
 ·have:=ho.put (n:=n) (os:=#[]) (q:=l.reverse) List.length_reverse
  unfold putRowK
  rw [flat_cells]
  simpa using this
 ·have:=grownBy_put w g n #[] (cellsOf l.reverse).toArray
  unfold putRowK
  rw [flat_cells]
  simpa using this
end Hl
end Go.Proofs.YtlookcbokhknfaaGreat
namespace Go.Proofs.YtlookcbokhknfaaGreat
open Go.RowKit Go.Shelf
namespace Hl
theorem Own.mono {B B':Nat} {w:World} {v:Value} {p:List Pt} (h:Own B w v p) (hb:B'≤B):Own B' w v p:=by
 refine ⟨h.1,?_⟩
 rcases h.2 with h | ⟨g,cap,cur,e,h1,h2⟩
 ·exact Or.inl h
 ·exact Or.inr ⟨g,cap,cur,e,Nat.le_trans hb h1,h2⟩
set_option maxRecDepth 100000 in
set_option maxHeartbeats 4000000 in
theorem concat_c (b g1 g2 c1 c2:Nat) (S T:List Pt) (w:World) (hb:Blk w b #[.slice (some ⟨g1,0,none⟩) S.length c1,.slice (some ⟨g2,0,none⟩) T.length c2] 174) (hS:Row w g1 0 S) (hT:Row w g2 0 T)
  (h1:1≤S.length) (h2:S.length≤1000000) (h3:T.length≤1000000) :
  Calls Tryz.prog 182 #[.slice (some ⟨b,0,none⟩) 2 2] w fun e w' => ∃ v,e=.returned v∧Own w.heap.size w' v (S ++ T)∧Grew w w':=by
 have HS:=Lib.hid hS
 have HT:=Lib.hid hT
 have HB:=Lib.hid hb
 obtain ⟨⟨x0,x1⟩,_,_⟩:=hb.two
 have GC:Hid (∀ W,Grew w W→Calls Tryz.prog 192 #[.slice none 0 0,.int .i64 ((S.length:Int)+(T.length:Int))] W fun e w' => ∃ sa sc,e=.returned (.slice sa 0 sc)∧Hid (Own w.heap.size w' (.slice sa 0 sc) []∧Grew w w')):=Lib.hid (fun W g => by
  have h:=grow_c (S.length+T.length) W (by omega) (by omega)
  rw [Int.natCast_add] at h
  refine h.mono ?_
  rintro e w' ⟨sa,sc,he,ho,hg⟩
  exact ⟨sa,sc,he,Lib.hid ⟨ho.mono g.size,g.trans hg⟩⟩)
 have W1:IntKind.i64.wrap (S.length:Int)=(S.length:Int):=IntWalk.i64_in _ ⟨by omega,by omega⟩
 have W2:IntKind.i64.wrap ((S.length:Int)+(T.length:Int))=(S.length:Int)+(T.length:Int):=IntWalk.i64_in _ ⟨by omega,by omega⟩
 have n1:¬ ((S.length:Int) < 0):=by omega
 have n2:¬ ((S.length:Int)+(T.length:Int) < 0):=by omega
 clear hb hS hT
 go_enter Tryz.func182,Tryz.ntmps182
 go_wp2_with fail
 go_loopw [3,11] (fun s i wr => w=wr∧((i=.int .i64 0∧s=.int .i64 0)∨(i=.int .i64 1∧s=.int .i64 S.length)∨(i=.int .i64 2∧s=.int .i64 ((S.length:Int)+(T.length:Int))))) (fun _ i _ => 2 - (intOf i).toNat)
 case atStart => exact ⟨rfl,Or.inl ⟨rfl,rfl⟩⟩
 case round =>
  obtain ⟨rfl,hk⟩:=hrel
  rcases hk with ⟨rfl,rfl⟩ | ⟨rfl,rfl⟩ | ⟨rfl,rfl⟩
  ·go_wp2_with fail
   exact ⟨⟨trivial,Or.inr (Or.inl ⟨rfl,rfl⟩)⟩,by simp [intOf]⟩
  ·go_wp2_with fail
   exact ⟨⟨trivial,Or.inr (Or.inr ⟨rfl,rfl⟩)⟩,by simp [intOf]⟩
  ·go_wp2_with (first | (go_at_call 192;refine (GC.out _ (Grew.refl _)).mono ?_;rintro e w' ⟨sa,sc,rfl,hn⟩))
   clear x0 x1
   go_loopw [6,27] (fun v i wz => ((i=.int .i64 0∧Own w.heap.size wz v [])∨(i=.int .i64 1∧Own w.heap.size wz v S)∨(i=.int .i64 2∧Own w.heap.size wz v (S ++ T)))∧Grew w wz) (fun _ i _ => 2 - (intOf i).toNat)
   case atStart => exact ⟨Or.inl ⟨rfl,hn.out.1⟩,hn.out.2⟩
   case round =>
    clear hn GC
    obtain ⟨hk,hG⟩:=hrel
    have HG:=Lib.hid hG
    obtain ⟨⟨x0,x1⟩,y0,y1⟩:=(HB.out.grown hG).two
    clear hG
    rcases hk with ⟨rfl,hO⟩ | ⟨rfl,hO⟩ | ⟨rfl,hO⟩
    ·obtain ⟨oa,oc,rfl⟩:=hO.sl.shape
     have HO:=Lib.hid hO
     clear hO
     go_wp2_with (at_builtin;go_must (refine append_T _ rfl _ _ 174 Tryz.underlying174 rfl w.heap.size _ ([]) (S) _ 0 _ rfl HO.out rfl (HS.out.grown HG.out) (by simp;omega) HG.out.size ?_;intro v' w' own' gr';have GG':=Lib.hid (HG.out.grown gr' (fun k hk => HO.out.block k hk));have OWN':=Lib.hid own';obtain ⟨sa',sc',rfl⟩:=own'.sl.shape;clear own' gr'))
     exact ⟨⟨Or.inr (Or.inl ⟨rfl,OWN'.out⟩),GG'.out⟩,by simp [intOf]⟩
    ·obtain ⟨oa,oc,rfl⟩:=hO.sl.shape
     have HO:=Lib.hid hO
     clear hO
     go_wp2_with (at_builtin;go_must (refine append_T _ rfl _ _ 174 Tryz.underlying174 rfl w.heap.size _ (S) (T) _ 0 _ rfl HO.out rfl (HT.out.grown HG.out) (by omega) HG.out.size ?_;intro v' w' own' gr';have GG':=Lib.hid (HG.out.grown gr' (fun k hk => HO.out.block k hk));have OWN':=Lib.hid own';obtain ⟨sa',sc',rfl⟩:=own'.sl.shape;clear own' gr'))
     exact ⟨⟨Or.inr (Or.inr ⟨rfl,by have h:=OWN'.out;rwa [List.length_append] at h⟩),GG'.out⟩,by simp [intOf]⟩
    ·obtain ⟨oa,oc,rfl⟩:=hO.sl.shape
     have HO:=Lib.hid hO
     clear hO
     go_wp2_with fail
     go_ret
     exact ⟨_,rfl,HO.out,HG.out⟩
end Hl
end Go.Proofs.YtlookcbokhknfaaGreat
namespace Go.Proofs.YtlookcbokhknfaaGreat
open Go.RowKit Go.Shelf
namespace Hl
theorem cho_chain (u v k:Int) (q:List Pt) (hinc:∀ i j,i < j→j < q.length→af u v k (at' q i) < af u v k (at' q j)):∀ n,1≤n→n≤q.length→Chain u v k (fun y => ∃ j,j < n∧at' q j=y) (cho q n)∧at' (cho q n) ((cho q n).length - 1)=at' q (n - 1):=by
 intro n
 induction n with
 | zero => intro h;omega
 | succ n ih =>
   intro _ hn
   have hlast:at' (cho q (n+1)) ((cho q (n+1)).length - 1)=at' q (n+1 - 1):=(pushP_len (at' q n) _ (cho q n) rfl).2.2
   refine ⟨?_,hlast⟩
   by_cases h0:n=0
   ·subst h0
    have e:cho q (0+1)=[at' q 0]:=rfl
    have ef:(fun y => ∃ j,j < 0+1∧at' q j=y)=(fun y => y=at' q 0):=funext fun y => propext ⟨fun ⟨j,hj,e⟩ => by
     obtain rfl:j=0:=by omega
     exact e.symm,fun h => ⟨0,by omega,h.symm⟩⟩
    rw [e,ef]
    exact Chain.one
   ·obtain ⟨hc,hl⟩:=ih (by omega) (by omega)
    have ef:(fun y => ∃ j,j < n+1∧at' q j=y)=(fun y => (∃ j,j < n∧at' q j=y)∨y=at' q n):=funext fun y => propext ⟨fun ⟨j,hj,e⟩ => by
     by_cases ej:j=n
     ·subst ej;exact Or.inr e.symm
     ·exact Or.inl ⟨j,by omega,e⟩,fun h => by
     rcases h with ⟨j,hj,e⟩ | h
     ·exact ⟨j,by omega,e⟩
     ·exact ⟨n,by omega,h.symm⟩⟩
    rw [ef]
    refine Pend.pushP _ (cho q n) rfl (hc.pend ?_ ?_)
    ·rintro y ⟨j,hj,rfl⟩
     exact hinc j n hj (by omega)
    ·rintro y ⟨j,hj,rfl⟩ hle
     rw [hl] at hle ⊢
     by_cases ej:j=n - 1
     ·rw [ej]
     ·have:=hinc j (n - 1) (by omega) (by omega)
      omega
theorem cho_all (u v k:Int) (q:List Pt) (hinc:∀ i j,i < j→j < q.length→af u v k (at' q i) < af u v k (at' q j)) (h2:2≤q.length) :
  Chain u v k (fun y => y ∈ q) (cho q q.length)∧at' (cho q q.length) ((cho q q.length).length - 1)=at' q (q.length - 1)∧at' (cho q q.length) 0=at' q 0∧2≤(cho q q.length).length:=by
 obtain ⟨hc,hl⟩:=cho_chain u v k q hinc q.length (by omega) (Nat.le_refl _)
 have ef:(fun y => ∃ j,j < q.length∧at' q j=y)=(fun y => y ∈ q):=funext fun y => propext ⟨fun ⟨j,hj,e⟩ => by rw [← e];exact at_mem hj,fun h => mem_at h⟩
 rw [ef] at hc
 have h0:at' (cho q q.length) 0=at' q 0:=by
  obtain ⟨j,hj,e⟩:=mem_at (hc.mem 0 hc.some')
  by_cases ej:j=0
  ·rw [← e,ej]
  ·have h1:=hc.low _ (at_mem (show 0 < q.length by omega))
   have h3:=hinc 0 j (by omega) hj
   rw [e] at h3
   omega
 refine ⟨hc,hl,h0,?_⟩
 have hs:=hc.some'
 by_cases h1:(cho q q.length).length=1
 ·rw [h1,Nat.sub_self,h0] at hl
  have:=hinc 0 (q.length - 1) (by omega) (by omega)
  rw [hl] at this
  omega
 ·omega
theorem at_rev {q:List Pt} {i:Nat} (h:i < q.length):at' q.reverse i=at' q (q.length - 1 - i):=by
 unfold at'
 rw [List.getD_eq_getElem?_getD,List.getD_eq_getElem?_getD,List.getElem?_reverse h]
theorem corners_hull {l q:List Pt} (hp:Plcs q) (hs:∀ i,i+1 < q.length→ls (at' q i) (at' q (i+1))) (h2:2≤q.length) (hm:∀ x,x ∈ q↔x ∈ l) :
  2≤(cho q q.length).length∧2≤(cho q.reverse q.reverse.length).length∧IsHull l ((cho q q.length).take ((cho q q.length).length - 1) ++ (cho q.reverse q.reverse.length).take ((cho q.reverse q.reverse.length).length - 1)):=by
 have inc:∀ i j,i < j→j < q.length→af 1000001 1 0 (at' q i) < af 1000001 1 0 (at' q j):=inc_all (fun i hi => (ls_steep (hp i (by omega)) (hp (i+1) hi)).1 (hs i hi))
 obtain ⟨a1,a2,a3,a4⟩:=cho_all 1000001 1 0 q inc h2
 have hrl:q.reverse.length=q.length:=List.length_reverse
 obtain ⟨b1,b2,b3,b4⟩:=cho_all (-1000001) (-1) (-0) q.reverse (fun i j hij hj => by
  rw [hrl] at hj
  rw [neg_af,neg_af,at_rev hj,at_rev (by omega)]
  have:=inc (q.length - 1 - j) (q.length - 1 - i) (by omega) (by omega)
  omega) (by omega)
 have ef:(fun y => y ∈ q.reverse)=(fun y => y ∈ q):=funext fun y => propext List.mem_reverse
 rw [ef] at b1
 refine ⟨a4,b4,?_⟩
 obtain ⟨g1,g2,g3⟩:=two_chains a1 b1 a4 b4 (by rw [a2,b3,at_rev (by omega)];rfl) (by rw [b2,a3,hrl,at_rev (by omega)];congr 1;omega)
  (fun y z hy hz h => by
   obtain ⟨i,hi,rfl⟩:=mem_at hy
   obtain ⟨j,hj,rfl⟩:=mem_at hz
   exact (ls_steep (hp i hi) (hp j hj)).2 h)
 exact ⟨g1,fun x hx => (hm x).1 (g2 x hx),fun x hx => g3 x ((hm x).2 hx)⟩
theorem one_hull {l q:List Pt} (h1:q.length=1) (hm:∀ x,x ∈ q↔x ∈ l):IsHull l q :=
 ⟨⟨by omega,fun i h h' => by omega,fun h => by omega⟩,fun x hx => (hm x).1 hx,fun x hx => (hs1 h1).2 (by
  obtain ⟨i,hi,e⟩:=mem_at ((hm x).2 hx)
  obtain rfl:i=0:=by omega
  exact e)⟩
end Hl
end Go.Proofs.YtlookcbokhknfaaGreat
namespace Go.Proofs.YtlookcbokhknfaaGreat
open Go.RowKit Go.Shelf
namespace Hl
theorem Leaves.toGrew {B C:Nat} {w W w':World} (h:Leaves B C W w') (g:Grew w W) (hB:w.heap.size≤B) (hC:w.heap.size≤C):Grew w w' :=
 ⟨h.os.trans g.os,h.tape.trans g.tape,h.output.trans g.output,Nat.le_trans g.size h.size,fun k hk => (h.block k (by omega) (by omega)).trans (g.block k hk)⟩
theorem Leaves.ownAt {B C D g cap:Nat} {w w':World} {p:List Pt} (h:Leaves B C w w') (ho:OwnAt D w g cap p) (hg:g < B) (hc:g ≠ C):OwnAt D w' g cap p:=by
 obtain ⟨h1,h2,h3,cur,h4,h5,h6⟩:=ho
 exact ⟨h1,h2,h3,cur,(h.block g hg hc).trans h4,h5,h6⟩
theorem Leaves.blk {B C b:Nat} {w w':World} {cs:Array Value} {t:TypeId} (h:Leaves B C w w') (hb:Blk w b cs t) (hg:b < B) (hc:b ≠ C):Blk w' b cs t:=(h.block b hg hc).trans hb
theorem Blk.newD (w:World) (cs:Array Value) (t:TypeId):Blk (w.alloc (.cells cs t)).drew w.heap.size cs t:=Blk.new w cs t
def CornSays (l:List Pt) (w:World) (e:Ending) (w':World):Prop:=∃ v q,e=.returned v∧IsHull l q∧Own w.heap.size w' v q∧Grew w w'
set_option maxRecDepth 100000 in
set_option maxHeartbeats 4000000 in
theorem corners_c (l:List Pt) (b o c:Nat) (w:World) (hr:Row w b o l) (hp:Plcs l) (h1:1≤l.length) (hl:l.length≤1000000) :
  Calls Tryz.prog 165 #[.slice (some ⟨b,o,none⟩) l.length c] w (CornSays l w):=by
 have SC:=Lib.hid (sorted_c l b o c w hr hp h1 (by omega))
 have PL:=Lib.hid hp
 clear hr hp
 go_enter Tryz.func165,Tryz.ntmps165
 go_wp2_with fail
 refine SC.out.mono ?_
 rintro e w1 ⟨g,cap,q,rfl,ho,q1,ql,hmem,hls,hgr⟩
 have PQ:Hid (Plcs q):=Lib.hid (plcs_of (fun x hx => mem_plc PL.out ((hmem x).1 hx)))
 have MEM:=Lib.hid hmem
 have LS:=Lib.hid hls
 have HO:=Lib.hid ho
 have HG:=Lib.hid hgr
 have gl:=ho.lt
 have gw:=ho.1
 have hz1:=hgr.size
 clear SC hmem hls ho hgr
 by_cases hq:q.length=1
 ·rw [hq]
  go_wp2_with fail
  go_ret
  exact ⟨_,q,rfl,one_hull hq MEM.out,by have:=own_at.1 HO.out;rwa [hq] at this,HG.out⟩
 ·have hq':¬ ((q.length:Int)=1):=by omega
  have C0:Hid (Blk ((w1.alloc (.cells #[.slice none 0 0] 174)).alloc (.cells #[.slice none 0 0] 174)) w1.heap.size #[.slice none 0 0] 174):=Lib.hid ((Blk.new w1 _ _).alloc _)
  have C1:Hid (Blk ((w1.alloc (.cells #[.slice none 0 0] 174)).alloc (.cells #[.slice none 0 0] 174)) (w1.heap.size+1) #[.slice none 0 0] 174):=Lib.hid (by
   have h:=Blk.new (w1.alloc (.cells #[.slice none 0 0] 174)) #[.slice none 0 0] 174
   rwa [World.size_alloc] at h)
  have GW:Hid (Grew w1 ((w1.alloc (.cells #[.slice none 0 0] 174)).alloc (.cells #[.slice none 0 0] 174))):=Lib.hid (((Grew.refl w1).alloc _ _).alloc _ _)
  have hsz:((w1.alloc (.cells #[.slice none 0 0] 174)).alloc (.cells #[.slice none 0 0] 174)).heap.size=w1.heap.size+1+1:=by simp
  have HA:=Lib.hid (hand_c (w1.heap.size+1+1) w1.heap.size g 0 cap q ((w1.alloc (.cells #[.slice none 0 0] 174)).alloc (.cells #[.slice none 0 0] 174)) (HO.out.row.grown GW.out) (by omega) (by omega) C0.out (by omega) (by omega) PQ.out (by omega))
  go_wp2_with fail
  refine HA.out.mono ?_
  rintro e w2 ⟨rfl,v1,o1,b1,lv1⟩
  have A2:Hid (OwnAt w.heap.size w2 g cap q):=Lib.hid (lv1.ownAt (HO.out.grew GW.out) (by omega) (by omega))
  have O1:=Lib.hid o1
  have B1:=Lib.hid b1
  have B2:Hid (Blk w2 (w1.heap.size+1) #[.slice none 0 0] 174):=Lib.hid (lv1.blk C1.out (by omega) (by omega))
  have G2:Hid (Grew w w2):=Lib.hid (lv1.toGrew (HG.out.trans GW.out) (by omega) (by omega))
  have hz2:=lv1.size
  rw [hsz] at hz2
  clear HA C0 C1 GW HO HG o1 b1 lv1 hsz
  go_wp2_with fail
  refine (rev_c q w.heap.size g cap w2 A2.out (by omega)).mono ?_
  rintro e w3 ⟨rfl,o3,g3⟩
  have A3:=Lib.hid o3
  have O3:Hid (Own (w1.heap.size+1+1) w3 v1 (cho q q.length)):=Lib.hid (O1.out.keeps g3 (Or.inr (fun e => by have:=O1.out.block _ e;omega)))
  have B3:Hid (Blk w3 w1.heap.size #[v1] 174):=Lib.hid (B1.out.kept g3 (fun e => by cases e;omega))
  have D3:Hid (Blk w3 (w1.heap.size+1) #[.slice none 0 0] 174):=Lib.hid (B2.out.kept g3 (fun e => by cases e;omega))
  have G3:Hid (Grew w w3):=Lib.hid (G2.out.grown g3 (fun k hk => by cases hk;exact gw))
  have hz3:=g3.size
  clear A2 O1 B1 B2 G2 o3 g3
  have hrl:q.reverse.length=q.length:=List.length_reverse
  have HA:=Lib.hid (hand_c w3.heap.size (w1.heap.size+1) g 0 cap q.reverse w3 A3.out.row (by omega) (by omega) D3.out (by omega) (Nat.le_refl _) (plcs_of (fun x hx => mem_plc PQ.out (List.mem_reverse.1 hx))) (by omega))
  rw [hrl] at HA
  go_wp2_with fail
  refine HA.out.mono ?_
  rintro e w4 ⟨rfl,v2,o4,b4,lv4⟩
  rw [hrl] at o4
  have hz4:=lv4.size
  obtain ⟨s2,t2,HUL⟩:=corners_hull PQ.out LS.out (by omega) MEM.out
  rw [hrl] at t2 HUL
  have HUL:=Lib.hid HUL
  have ne1:cho q q.length ≠ []:=fun e => by rw [e] at s2;simp at s2
  have ne2:cho q.reverse q.length ≠ []:=fun e => by rw [e] at t2;simp at t2
  have ls:=cho_len q q.length
  have lt:=cho_len q.reverse q.length
  generalize cho q q.length=S at *
  generalize cho q.reverse q.length=T at *
  obtain ⟨g1,c1,rfl,a1⟩:=O3.out.at ne1
  obtain ⟨g2,c2,rfl,a2⟩:=o4.at ne2
  have a1:=lv4.ownAt a1 a1.lt (by have:=a1.1;omega)
  have B4:=lv4.blk B3.out (by omega) (by omega)
  have G4:=lv4.toGrew G3.out (by omega) (by omega)
  have R1:=Lib.hid (a1.take (S.length - 1)).row
  have R2:=Lib.hid (a2.take (T.length - 1)).row
  obtain ⟨m,hm⟩:∃ m,S.length=m:=⟨_,rfl⟩
  obtain ⟨n,hn⟩:∃ n,T.length=n:=⟨_,rfl⟩
  obtain ⟨k,hk⟩:∃ k,S.length - 1=k:=⟨_,rfl⟩
  obtain ⟨j,hj⟩:∃ j,T.length - 1=j:=⟨_,rfl⟩
  rw [hk] at R1 HUL
  rw [hj] at R2 HUL
  have e1:(S.take k).length=k:=by rw [List.length_take];omega
  have e2:(T.take j).length=j:=by rw [List.length_take];omega
  have CC:Hid (∀ W x,Grew w4 W→Blk W x #[.slice (some ⟨g1,0,none⟩) k c1,.slice (some ⟨g2,0,none⟩) j c2] 174→Calls Tryz.prog 182 #[.slice (some ⟨x,0,none⟩) 2 2] W fun e w' => ∃ v,e=.returned v∧Hid (CornSays l w (.returned v) w'∧Grew w4 w')):=Lib.hid (fun W x g hb => by
   have h:=concat_c x g1 g2 c1 c2 (S.take k) (T.take j) W (by rw [e1,e2];exact hb) (R1.out.grown g) (R2.out.grown g) (by omega) (by omega) (by omega)
   refine h.mono ?_
   rintro e w' ⟨v,rfl,h1,h2⟩
   exact ⟨v,rfl,Lib.hid ⟨⟨v,_,rfl,HUL.out,h1.mono (G4.trans g).size,(G4.trans g).trans h2⟩,g.trans h2⟩⟩)
  have i1:(0:Int)≤(k:Int):=by omega
  have i2:(0:Int)≤(j:Int):=by omega
  have i3:IntKind.i64.wrap ((m:Int) - 1)=(k:Int):=by
   rw [IntWalk.i64_in _ ⟨by omega,by omega⟩];omega
  have i4:IntKind.i64.wrap ((n:Int) - 1)=(j:Int):=by
   rw [IntWalk.i64_in _ ⟨by omega,by omega⟩];omega
  have cm1:S.length≤c1:=a1.2.1
  have cm2:T.length≤c2:=a2.2.1
  have i5:(k:Int)≤(c1:Int):=by omega
  have i6:(j:Int)≤(c2:Int):=by omega
  have i7:k≤c1:=by omega
  have i8:j≤c2:=by omega
  rw [hm] at B4
  rw [hn] at b4
  obtain ⟨x0,x1⟩:=B4.one
  obtain ⟨y0,y1⟩:=b4.one
  have lB4:=B4.lt
  have lb4:=b4.lt
  have l0:w1.heap.size < w4.heap.size+1:=by omega
  have l1:w1.heap.size+1 < w4.heap.size+1:=by omega
  clear HUL R1 R2 PL PQ MEM LS HA A3 O3 B3 D3 G3 o4 lv4 a1 a2 e1 e2
  go_wp2_with fail
  go_region_held3 (fun w' => w'.cell? ⟨w1.heap.size,0,none⟩=some (.slice (some ⟨g1,0,none⟩) m c1)∧w'.cell? ⟨w1.heap.size+1,0,none⟩=some (.slice (some ⟨g2,0,none⟩) n c2)) (simp [go_sem, *])
   ((go_at_call 182;refine (CC.out _ _ (by repeat' (first|(with_reducible first|exact Grew.refl _|assumption|refine Grew.alloc ?_ _ _|refine Grew.drew ?_|refine Grew.drewN ?_ _|refine Grew.setCell ?_ ?_ _)|go_size)) (Blk.newD _ _ _)).mono ?_;rintro e w' ⟨v,rfl,hfin⟩;have z0:=(hfin.out.2.cell (b:=w1.heap.size) (o:=0) lB4).trans x0;have z1:=(hfin.out.2.cell (b:=w1.heap.size+1) (o:=0) lb4).trans y0))
  go_wp2_with fail
  go_ret
  exact hfin.out.1
end Hl
end Go.Proofs.YtlookcbokhknfaaGreat
