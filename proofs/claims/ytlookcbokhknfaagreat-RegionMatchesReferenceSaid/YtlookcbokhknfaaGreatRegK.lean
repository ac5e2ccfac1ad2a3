/-
  The landed package region: pairs.
-/
import Derived.Test.YtlookcbokhknfaaGreatRegH
import Derived.Test.YtlookcbokhknfaaGreatHullCa
namespace Go.Proofs.YtlookcbokhknfaaGreat
open Go.RowKit Go.Shelf Hl
attribute [local go_sem] Oper.semAt_some
namespace Rg
open Ct (Hf)
def KeptX (N A:Nat) (W W':World):Prop:=W.heap.size≤W'.heap.size∧∀ k,k < N→k ≠ A→W'.heap[k]? = W.heap[k]?
theorem KeptX.refl (N A:Nat) (W:World):KeptX N A W W:=⟨Nat.le_refl _,fun _ _ _ => rfl⟩
theorem KeptX.trans {N A:Nat} {X Y Z:World} (h:KeptX N A X Y) (k:KeptX N A Y Z):KeptX N A X Z:=⟨Nat.le_trans h.1 k.1,fun i h1 h2 => (k.2 i h1 h2).trans (h.2 i h1 h2)⟩
theorem KeptX.cell {N A:Nat} {W W':World} (h:KeptX N A W W') {k o:Nat} (hk:k < N) (hA:k ≠ A):W'.cell? ⟨k,o,none⟩=W.cell? ⟨k,o,none⟩:=World.cell?_of_block (a:=⟨k,o,none⟩) (h.2 k hk hA)
theorem KeptX.by {N A:Nat} {X Y Z:World} {row:Option Nat} (h:KeptX N A X Y) (g:Y.grownBy Z row) (hN:N≤Y.heap.size) (hr:∀ k,row=some k→N≤k∨k=A):KeptX N A X Z :=
 ⟨Nat.le_trans h.1 g.size,fun k h1 h2 => (g.block k (by omega) (fun e => by rcases hr k e.symm with h | h <;> omega)).trans (h.2 k h1 h2)⟩
theorem KeptX.alloc {N A:Nat} {X Y:World} (h:KeptX N A X Y) (hN:N≤Y.heap.size) (o:Obj):KeptX N A X (Y.alloc o):=h.by (World.grownBy_alloc Y o none) hN (by simp)
theorem KeptX.put {N A:Nat} (W:World) (l:Nat) (o':Obj) (hl:N≤l):KeptX N A W (W.putObj l o') :=
 ⟨(grownBy_putObj' W l o').size,fun k hk _ => World.putObj_heap_other (by omega)⟩
theorem div_at {i k n:Nat} (h:k < n):(i * n+k) / n=i∧(i * n+k) % n=k:=by
 constructor
 ·rw [Nat.mul_comm,Nat.mul_add_div (by omega),Nat.div_eq_of_lt h,Nat.add_zero]
 ·rw [Nat.mul_comm,Nat.mul_add_mod,Nat.mod_eq_of_lt h]
def prH (U:Nat→Value) (X:Nat→Hf) (n2 tot m:Nat):Array Value:=#[U ((m % tot) / n2),(.agg #[.int .i64 (X (m % n2)).1,.int .i64 (X (m % n2)).2.1,.int .i64 (X (m % n2)).2.2])]
structure LstH (N A:Nat) (a1 a2:Option Addr) (n1 n2:Nat) (U:Nat→Value) (X:Nat→Hf) (w:World):Prop where
 rr:∀ i,i < n1→∃ b o,a1=some ⟨b,o,none⟩∧(b < N∧b ≠ A)∧w.cell? ⟨b,o+i,none⟩=some (U i)
 rl:∀ k,k < n2→∃ b o,a2=some ⟨b,o,none⟩∧(b < N∧b ≠ A)∧w.cell? ⟨b,o+k * 3,none⟩=some (.int .i64 (X k).1)∧w.cell? ⟨b,o+k * 3+1,none⟩=some (.int .i64 (X k).2.1)∧w.cell? ⟨b,o+k * 3+2,none⟩=some (.int .i64 (X k).2.2)
set_option maxHeartbeats 1000000 in
theorem pairsH_in (n:Nat) (a1 a2:Option Addr) (n1 n2 c1 c2:Nat) (w:World) :
  CallsIn Fence.wide n Tryz.prog 100 #[.slice a1 n1 c1,.slice a2 n2 c2] w fun e w' => e=.returned (.func (.func 142) #[] #[.pointer (some ⟨w.heap.size,0,none⟩),.pointer (some ⟨w.heap.size+1,0,none⟩)])∧w'=(w.alloc (.cells #[.slice a1 n1 c1] 22)).alloc (.cells #[.slice a2 n2 c2] 71):=by
 refine callsIn_of_wp Tryz.func100 rfl trivial ?_ rfl
 simp only [Tryz.ntmps100,List.size_toArray,List.length_cons,List.length_nil,Nat.reduceAdd,Nat.reduceSub,Array.replicate_succ,Array.replicate_zero,List.push_toArray,List.append_toArray,List.nil_append,List.cons_append]
 gi_wp2
 go_ret
 exact ⟨rfl,rfl⟩
set_option maxRecDepth 100000 in
set_option maxHeartbeats 8000000 in
theorem pairsH1_in (n:Nat) (hn:1≤n) (l Br Bl N A:Nat) (a1 a2:Option Addr) (n1 n2 c1 c2:Nat) (U:Nat→Value) (hU:∀ i,IsHd (U i)) (X:Nat→Hf) (h1:n1≤4000) (h2:n2≤4000) (J Jx:List Nat→World→Prop)
  (W:World) (hJ:AbidesFrom W.heap.size J)
  (hY:∀ pre m W1,J pre W1→pre.length < n1 * n2→YieldAt Fence.wide (n - 1) Tryz.prog l (prH U X n2 (n1 * n2) m) W1 fun e W' =>
   (e=.returned (.bool true)∧J (pre ++ [m]) W'∧KeptX N A W1 W')∨(e=.returned (.bool false)∧Jx (pre ++ [m]) W'))
  (hN:N≤W.heap.size) (hBr:Br < N∧Br ≠ A) (hBl:Bl < N∧Bl ≠ A) (cr:W.cell? ⟨Br,0,none⟩=some (.slice a1 n1 c1)) (cl:W.cell? ⟨Bl,0,none⟩=some (.slice a2 n2 c2)) (hL:LstH N A a1 a2 n1 n2 U X W) (h0:J [] W) :
  CallsIn Fence.wide n Tryz.prog 142 #[.func (.yield l) #[] #[],.pointer (some ⟨Br,0,none⟩),.pointer (some ⟨Bl,0,none⟩)] W fun e W' => (∃ v,e=.returned v) ∧
   ((∃ ys,ys=List.range (n1 * n2)∧J ys W')∨(∃ pre,(∃ k,k≤n1 * n2∧pre=List.range k)∧Jx pre W')):=by
 have HY:=Lib.hid hY
 have HJ:=Lib.hid hJ
 have HL:=Lib.hid hL
 have CR:=Lib.hid cr
 have CL:=Lib.hid cl
 have HU:=Lib.hid hU
 clear hY hJ hL
 refine callsIn_of_wp Tryz.func142 rfl trivial ?_ rfl
 simp only [Tryz.ntmps142,List.size_toArray,List.length_cons,List.length_nil,Nat.reduceAdd,Nat.reduceSub,Array.replicate_succ,Array.replicate_zero,List.push_toArray,List.append_toArray,List.nil_append,List.cons_append]
 gi_wp2
 gi_loopw [10] (fun i wr => ∃ k:Nat,k≤n1∧i=.int .i64 k∧Hid (J (List.range (k * n2)) wr∧KeptX N A W wr)) (fun i _ => n1 - (intOf i).toNat)
 case atStart => exact ⟨0,Nat.zero_le _,rfl,Lib.hid ⟨by rw [Nat.zero_mul];exact h0,KeptX.refl _ _ _⟩⟩
 case round =>
  clear cr cl
  obtain ⟨i,hi,rfl,HI⟩:=hrel
  by_cases hlt:i < n1
  ·obtain ⟨b,o,ha,hb,hc⟩:=HL.out.rr i hlt
   subst ha
   have c0:=(HI.out.2.cell (o:=o+i) hb.1 hb.2).trans hc
   have cr:=(HI.out.2.cell (o:=0) hBr.1 hBr.2).trans CR.out
   have cl:=(HI.out.2.cell (o:=0) hBl.1 hBl.2).trans CL.out
   have i0:(0:Int)≤(i:Int):=by omega
   have i1:(i:Int) < (n1:Int):=by omega
   obtain ⟨ua,un,uc,hu⟩:=HU.out i
   rw [hu] at c0
   have UE:=Lib.hid hu
   gi_wp2
   gi_loopw [16] (fun s wz => ∃ k:Nat,k≤n2∧s=.int .i64 k∧Hid (J (List.range (i * n2+k)) wz∧KeptX N A W wz)) (fun s _ => n2 - (intOf s).toNat)
   case atStart => exact ⟨0,Nat.zero_le _,rfl,HI⟩
   case round =>
    clear c0 cr cl hc HI
    obtain ⟨k,hk,rfl,HK⟩:=hrel
    by_cases hlk:k < n2
    ·obtain ⟨b2,o2,ha2,hb2,hc2⟩:=HL.out.rl k hlk
     subst ha2
     have hm:=div_at (i:=i) hlk
     have hle:i * n2+k < n1 * n2:=by
      have:=Nat.mul_le_mul_right n2 (show i+1≤n1 by omega)
      rw [Nat.add_mul,Nat.one_mul] at this
      omega
     have z0:=HK.out.2.1
     have j0:(0:Int)≤(k:Int):=by omega
     have j1:(k:Int) < (n2:Int):=by omega
     obtain ⟨x0,x1,x2⟩:=hc2
     have x0:=(HK.out.2.cell (o:=o2+k * 3) hb2.1 hb2.2).trans x0
     have x1:=(HK.out.2.cell (o:=o2+k * 3+1) hb2.1 hb2.2).trans x1
     have x2:=(HK.out.2.cell (o:=o2+k * 3+2) hb2.1 hb2.2).trans x2
     have KW:Hid (KeptX N A W (wr.alloc (.cells #[.int .i64 (X k).1,.int .i64 (X k).2.1,.int .i64 (X k).2.2] 25))):=Lib.hid (HK.out.2.alloc (by omega) _)
     have hJ1:J (List.range (i * n2+k)) (wr.alloc (.cells #[.int .i64 (X k).1,.int .i64 (X k).2.1,.int .i64 (X k).2.2] 25)):=abides_alloc HJ.out HK.out.1 _
     obtain ⟨fn,tmps,assign,body,hy,hR⟩:=HY.out _ (i * n2+k) _ hJ1 (by simpa using hle)
     have hR':=hR.mono (R':=fun e W' => ∃ r:Bool,e=.returned (.bool r)∧Hid ((r=true→J (List.range (i * n2+(k+1))) W'∧KeptX N A W W')∧(r=false→Jx (List.range (i * n2+(k+1))) W'))) (by
      rintro e W' (⟨rfl,h1,h2⟩ | ⟨rfl,h1⟩)
      ·exact ⟨true,rfl,Lib.hid ⟨fun _ => ⟨by rw [← Nat.add_assoc,List.range_succ];exact h1,KW.out.trans h2⟩,fun h => by cases h⟩⟩
      ·exact ⟨false,rfl,Lib.hid ⟨fun h => (by cases h),fun _ => (by rw [← Nat.add_assoc,List.range_succ];exact h1)⟩⟩)
     clear hR hJ1 HK KW
     unfold prH at hy
     rw [Nat.mod_eq_of_lt hle,hm.1,hm.2,UE.out] at hy
     gi_wp2_with fail
     refine hR'.mono ?_
     rintro e W3 ⟨r,rfl,hjr⟩
     cases r
     ·have F:=Lib.hid (hjr.out.2 (by first | rfl | trivial))
      clear hjr
      gi_wp2_with fail
      refine bodyPost_ret (results_none rfl _ _ _) rfl ?_
      exact ⟨⟨_,rfl⟩,.inr ⟨_,⟨i * n2+(k+1),by omega,rfl⟩,F.out⟩⟩
     ·have F:=Lib.hid (hjr.out.1 (by first | rfl | trivial))
      clear hjr
      gi_wp2_with fail
      go_roundw
      case rel => exact ⟨k+1,by omega,by go_num,F⟩
      case measure => simp [intOf];omega
    ·obtain rfl:k=n2:=by omega
     gi_wp2
     go_roundw
     case rel => exact ⟨i+1,by omega,by go_num,Lib.hid ⟨by rw [Nat.add_mul,Nat.one_mul];exact HK.out.1,HK.out.2⟩⟩
     case measure => simp [intOf];omega
  ·obtain rfl:i=n1:=by omega
   gi_wp2
   go_end0
   exact ⟨⟨_,rfl⟩,.inl ⟨_,rfl,HI.out.1⟩⟩
theorem LstH.below {N A:Nat} {a1 a2:Option Addr} {n1 n2:Nat} {U:Nat→Value} {X:Nat→Hf} {w W:World} (h:LstH N A a1 a2 n1 n2 U X w) (k:Below w.heap.size w W) (hN:N≤w.heap.size):LstH N A a1 a2 n1 n2 U X W :=
 ⟨fun i hi => by
  obtain ⟨b,o,e,hb,hc⟩:=h.rr i hi
  exact ⟨b,o,e,hb,(Grew.cell k (by omega)).trans hc⟩,fun i hi => by
  obtain ⟨b,o,e,hb,hc⟩:=h.rl i hi
  exact ⟨b,o,e,hb,(Grew.cell k (by omega)).trans hc.1,(Grew.cell k (by omega)).trans hc.2.1,(Grew.cell k (by omega)).trans hc.2.2⟩⟩
theorem pairsH_stops (n:Nat) (hn:1≤n) (Br Bl N A:Nat) (a1 a2:Option Addr) (n1 n2 c1 c2:Nat) (U:Nat→Value) (hU:∀ i,IsHd (U i)) (X:Nat→Hf) (h1:n1≤4000) (h2:n2≤4000) (w:World) (hN:N≤w.heap.size) (hBr:Br < N∧Br ≠ A) (hBl:Bl < N∧Bl ≠ A)
  (cr:w.cell? ⟨Br,0,none⟩=some (.slice a1 n1 c1)) (cl:w.cell? ⟨Bl,0,none⟩=some (.slice a2 n2 c2)) (hL:LstH N A a1 a2 n1 n2 U X w) :
  SeqStopsK Fence.wide n Tryz.prog 142 #[.pointer (some ⟨Br,0,none⟩),.pointer (some ⟨Bl,0,none⟩)] (prH U X n2 (n1 * n2)) (KeptX N A) (fun ys => ys=List.range (n1 * n2)) (fun pre => ∃ k,k≤n1 * n2∧pre=List.range k) (n1 * n2) w :=
 fun l J Jx W hW hJ _hJx hY h0 => pairsH1_in n hn l Br Bl N A a1 a2 n1 n2 c1 c2 U hU X h1 h2 J Jx W hJ hY (Nat.le_trans hN hW.size) hBr hBl ((Grew.cell hW (by omega)).trans cr) ((Grew.cell hW (by omega)).trans cl) (hL.below hW hN) h0
def prP (U:Nat→Value) (X:Nat→Value) (n2 tot m:Nat):Array Value:=#[U ((m % tot) / n2),(X (m % n2))]
structure LstP (N A:Nat) (a1 a2:Option Addr) (n1 n2:Nat) (U:Nat→Value) (X:Nat→Value) (w:World):Prop where
 rr:∀ i,i < n1→∃ b o,a1=some ⟨b,o,none⟩∧(b < N∧b ≠ A)∧w.cell? ⟨b,o+i,none⟩=some (U i)
 rl:∀ k,k < n2→∃ b o,a2=some ⟨b,o,none⟩∧(b < N∧b ≠ A)∧w.cell? ⟨b,o+k,none⟩=some (X k)
set_option maxHeartbeats 1000000 in
theorem pairsP_in (n:Nat) (a1 a2:Option Addr) (n1 n2 c1 c2:Nat) (w:World) :
  CallsIn Fence.wide n Tryz.prog 108 #[.slice a1 n1 c1,.slice a2 n2 c2] w fun e w' => e=.returned (.func (.func 149) #[] #[.pointer (some ⟨w.heap.size,0,none⟩),.pointer (some ⟨w.heap.size+1,0,none⟩)])∧w'=(w.alloc (.cells #[.slice a1 n1 c1] 22)).alloc (.cells #[.slice a2 n2 c2] 22):=by
 refine callsIn_of_wp Tryz.func108 rfl trivial ?_ rfl
 simp only [Tryz.ntmps108,List.size_toArray,List.length_cons,List.length_nil,Nat.reduceAdd,Nat.reduceSub,Array.replicate_succ,Array.replicate_zero,List.push_toArray,List.append_toArray,List.nil_append,List.cons_append]
 gi_wp2
 go_ret
 exact ⟨rfl,rfl⟩
set_option maxRecDepth 100000 in
set_option maxHeartbeats 8000000 in
theorem pairsP1_in (n:Nat) (hn:1≤n) (l Br Bl N A:Nat) (a1 a2:Option Addr) (n1 n2 c1 c2:Nat) (U:Nat→Value) (hU:∀ i,IsHd (U i)) (X:Nat→Value) (h1:n1≤4000) (h2:n2≤4000) (J Jx:List Nat→World→Prop)
  (W:World) (hJ:AbidesFrom W.heap.size J)
  (hY:∀ pre m W1,J pre W1→pre.length < n1 * n2→YieldAt Fence.wide (n - 1) Tryz.prog l (prP U X n2 (n1 * n2) m) W1 fun e W' =>
   (e=.returned (.bool true)∧J (pre ++ [m]) W'∧KeptX N A W1 W')∨(e=.returned (.bool false)∧Jx (pre ++ [m]) W'))
  (_hN:N≤W.heap.size) (hBr:Br < N∧Br ≠ A) (hBl:Bl < N∧Bl ≠ A) (cr:W.cell? ⟨Br,0,none⟩=some (.slice a1 n1 c1)) (cl:W.cell? ⟨Bl,0,none⟩=some (.slice a2 n2 c2)) (hL:LstP N A a1 a2 n1 n2 U X W) (h0:J [] W) :
  CallsIn Fence.wide n Tryz.prog 149 #[.func (.yield l) #[] #[],.pointer (some ⟨Br,0,none⟩),.pointer (some ⟨Bl,0,none⟩)] W fun e W' => (∃ v,e=.returned v) ∧
   ((∃ ys,ys=List.range (n1 * n2)∧J ys W')∨(∃ pre,(∃ k,k≤n1 * n2∧pre=List.range k)∧Jx pre W')):=by
 have HY:=Lib.hid hY
 have HJ:=Lib.hid hJ
 have HL:=Lib.hid hL
 have CR:=Lib.hid cr
 have CL:=Lib.hid cl
 have HU:=Lib.hid hU
 clear hY hJ hL
 refine callsIn_of_wp Tryz.func149 rfl trivial ?_ rfl
 simp only [Tryz.ntmps149,List.size_toArray,List.length_cons,List.length_nil,Nat.reduceAdd,Nat.reduceSub,Array.replicate_succ,Array.replicate_zero,List.push_toArray,List.append_toArray,List.nil_append,List.cons_append]
 gi_wp2
 gi_loopw [10] (fun i wr => ∃ k:Nat,k≤n1∧i=.int .i64 k∧Hid (J (List.range (k * n2)) wr∧KeptX N A W wr)) (fun i _ => n1 - (intOf i).toNat)
 case atStart => exact ⟨0,Nat.zero_le _,rfl,Lib.hid ⟨by rw [Nat.zero_mul];exact h0,KeptX.refl _ _ _⟩⟩
 case round =>
  clear cr cl
  obtain ⟨i,hi,rfl,HI⟩:=hrel
  by_cases hlt:i < n1
  ·obtain ⟨b,o,ha,hb,hc⟩:=HL.out.rr i hlt
   subst ha
   have c0:=(HI.out.2.cell (o:=o+i) hb.1 hb.2).trans hc
   have cr:=(HI.out.2.cell (o:=0) hBr.1 hBr.2).trans CR.out
   have cl:=(HI.out.2.cell (o:=0) hBl.1 hBl.2).trans CL.out
   have i0:(0:Int)≤(i:Int):=by omega
   have i1:(i:Int) < (n1:Int):=by omega
   obtain ⟨ua,un,uc,hu⟩:=HU.out i
   rw [hu] at c0
   have UE:=Lib.hid hu
   gi_wp2
   gi_loopw [16] (fun s wz => ∃ k:Nat,k≤n2∧s=.int .i64 k∧Hid (J (List.range (i * n2+k)) wz∧KeptX N A W wz)) (fun s _ => n2 - (intOf s).toNat)
   case atStart => exact ⟨0,Nat.zero_le _,rfl,HI⟩
   case round =>
    clear c0 cr cl hc HI
    obtain ⟨k,hk,rfl,HK⟩:=hrel
    by_cases hlk:k < n2
    ·obtain ⟨b2,o2,ha2,hb2,hc2⟩:=HL.out.rl k hlk
     subst ha2
     have hm:=div_at (i:=i) hlk
     have hle:i * n2+k < n1 * n2:=by
      have:=Nat.mul_le_mul_right n2 (show i+1≤n1 by omega)
      rw [Nat.add_mul,Nat.one_mul] at this
      omega
     have z0:=HK.out.2.1
     have j0:(0:Int)≤(k:Int):=by omega
     have j1:(k:Int) < (n2:Int):=by omega
     have x0:=(HK.out.2.cell (o:=o2+k) hb2.1 hb2.2).trans hc2
     have KW:=Lib.hid HK.out.2
     have hJ1:=HK.out.1
     obtain ⟨fn,tmps,assign,body,hy,hR⟩:=HY.out _ (i * n2+k) _ hJ1 (by simpa using hle)
     have hR':=hR.mono (R':=fun e W' => ∃ r:Bool,e=.returned (.bool r)∧Hid ((r=true→J (List.range (i * n2+(k+1))) W'∧KeptX N A W W')∧(r=false→Jx (List.range (i * n2+(k+1))) W'))) (by
      rintro e W' (⟨rfl,h1,h2⟩ | ⟨rfl,h1⟩)
      ·exact ⟨true,rfl,Lib.hid ⟨fun _ => ⟨by rw [← Nat.add_assoc,List.range_succ];exact h1,KW.out.trans h2⟩,fun h => by cases h⟩⟩
      ·exact ⟨false,rfl,Lib.hid ⟨fun h => (by cases h),fun _ => (by rw [← Nat.add_assoc,List.range_succ];exact h1)⟩⟩)
     clear hR hJ1 HK KW
     unfold prP at hy
     rw [Nat.mod_eq_of_lt hle,hm.1,hm.2,UE.out] at hy
     gi_wp2_with fail
     refine hR'.mono ?_
     rintro e W3 ⟨r,rfl,hjr⟩
     cases r
     ·have F:=Lib.hid (hjr.out.2 (by first | rfl | trivial))
      clear hjr
      gi_wp2_with fail
      refine bodyPost_ret (results_none rfl _ _ _) rfl ?_
      exact ⟨⟨_,rfl⟩,.inr ⟨_,⟨i * n2+(k+1),by omega,rfl⟩,F.out⟩⟩
     ·have F:=Lib.hid (hjr.out.1 (by first | rfl | trivial))
      clear hjr
      gi_wp2_with fail
      go_roundw
      case rel => exact ⟨k+1,by omega,by go_num,F⟩
      case measure => simp [intOf];omega
    ·obtain rfl:k=n2:=by omega
     gi_wp2
     go_roundw
     case rel => exact ⟨i+1,by omega,by go_num,Lib.hid ⟨by rw [Nat.add_mul,Nat.one_mul];exact HK.out.1,HK.out.2⟩⟩
     case measure => simp [intOf];omega
  ·obtain rfl:i=n1:=by omega
   gi_wp2
   go_end0
   exact ⟨⟨_,rfl⟩,.inl ⟨_,rfl,HI.out.1⟩⟩
theorem LstP.below {N A:Nat} {a1 a2:Option Addr} {n1 n2:Nat} {U:Nat→Value} {X:Nat→Value} {w W:World} (h:LstP N A a1 a2 n1 n2 U X w) (k:Below w.heap.size w W) (hN:N≤w.heap.size):LstP N A a1 a2 n1 n2 U X W :=
 ⟨fun i hi => by
  obtain ⟨b,o,e,hb,hc⟩:=h.rr i hi
  exact ⟨b,o,e,hb,(Grew.cell k (by omega)).trans hc⟩,fun i hi => by
  obtain ⟨b,o,e,hb,hc⟩:=h.rl i hi
  exact ⟨b,o,e,hb,(Grew.cell k (by omega)).trans hc⟩⟩
theorem pairsP_stops (n:Nat) (hn:1≤n) (Br Bl N A:Nat) (a1 a2:Option Addr) (n1 n2 c1 c2:Nat) (U:Nat→Value) (hU:∀ i,IsHd (U i)) (X:Nat→Value) (h1:n1≤4000) (h2:n2≤4000) (w:World) (hN:N≤w.heap.size) (hBr:Br < N∧Br ≠ A) (hBl:Bl < N∧Bl ≠ A)
  (cr:w.cell? ⟨Br,0,none⟩=some (.slice a1 n1 c1)) (cl:w.cell? ⟨Bl,0,none⟩=some (.slice a2 n2 c2)) (hL:LstP N A a1 a2 n1 n2 U X w) :
  SeqStopsK Fence.wide n Tryz.prog 149 #[.pointer (some ⟨Br,0,none⟩),.pointer (some ⟨Bl,0,none⟩)] (prP U X n2 (n1 * n2)) (KeptX N A) (fun ys => ys=List.range (n1 * n2)) (fun pre => ∃ k,k≤n1 * n2∧pre=List.range k) (n1 * n2) w :=
 fun l J Jx W hW hJ _hJx hY h0 => pairsP1_in n hn l Br Bl N A a1 a2 n1 n2 c1 c2 U hU X h1 h2 J Jx W hJ hY (Nat.le_trans hN hW.size) hBr hBl ((Grew.cell hW (by omega)).trans cr) ((Grew.cell hW (by omega)).trans cl) (hL.below hW hN) h0
def prS (U:Nat→Value) (X:Nat→Value) (n2 tot m:Nat):Array Value:=#[U ((m % tot) / n2),(X (m % n2))]
structure LstS (N A:Nat) (a1 a2:Option Addr) (n1 n2:Nat) (U:Nat→Value) (X:Nat→Value) (w:World):Prop where
 rr:∀ i,i < n1→∃ b o,a1=some ⟨b,o,none⟩∧(b < N∧b ≠ A)∧w.cell? ⟨b,o+i,none⟩=some (U i)
 rl:∀ k,k < n2→∃ b o,a2=some ⟨b,o,none⟩∧(b < N∧b ≠ A)∧w.cell? ⟨b,o+k,none⟩=some (X k)
set_option maxHeartbeats 1000000 in
theorem pairsS_in (n:Nat) (a1 a2:Option Addr) (n1 n2 c1 c2:Nat) (w:World) :
  CallsIn Fence.wide n Tryz.prog 125 #[.slice a1 n1 c1,.slice a2 n2 c2] w fun e w' => e=.returned (.func (.func 162) #[] #[.pointer (some ⟨w.heap.size,0,none⟩),.pointer (some ⟨w.heap.size+1,0,none⟩)])∧w'=(w.alloc (.cells #[.slice a1 n1 c1] 22)).alloc (.cells #[.slice a2 n2 c2] 79):=by
 refine callsIn_of_wp Tryz.func125 rfl trivial ?_ rfl
 simp only [Tryz.ntmps125,List.size_toArray,List.length_cons,List.length_nil,Nat.reduceAdd,Nat.reduceSub,Array.replicate_succ,Array.replicate_zero,List.push_toArray,List.append_toArray,List.nil_append,List.cons_append]
 gi_wp2
 go_ret
 exact ⟨rfl,rfl⟩
set_option maxRecDepth 100000 in
set_option maxHeartbeats 8000000 in
theorem pairsS1_in (n:Nat) (hn:1≤n) (l Br Bl N A:Nat) (a1 a2:Option Addr) (n1 n2 c1 c2:Nat) (U:Nat→Value) (hU:∀ i,IsHd (U i)) (X:Nat→Value) (h1:n1≤4000) (h2:n2≤4000) (J Jx:List Nat→World→Prop)
  (W:World) (hJ:AbidesFrom W.heap.size J)
  (hY:∀ pre m W1,J pre W1→pre.length < n1 * n2→YieldAt Fence.wide (n - 1) Tryz.prog l (prS U X n2 (n1 * n2) m) W1 fun e W' =>
   (e=.returned (.bool true)∧J (pre ++ [m]) W'∧KeptX N A W1 W')∨(e=.returned (.bool false)∧Jx (pre ++ [m]) W'))
  (_hN:N≤W.heap.size) (hBr:Br < N∧Br ≠ A) (hBl:Bl < N∧Bl ≠ A) (cr:W.cell? ⟨Br,0,none⟩=some (.slice a1 n1 c1)) (cl:W.cell? ⟨Bl,0,none⟩=some (.slice a2 n2 c2)) (hL:LstS N A a1 a2 n1 n2 U X W) (h0:J [] W) :
  CallsIn Fence.wide n Tryz.prog 162 #[.func (.yield l) #[] #[],.pointer (some ⟨Br,0,none⟩),.pointer (some ⟨Bl,0,none⟩)] W fun e W' => (∃ v,e=.returned v) ∧
   ((∃ ys,ys=List.range (n1 * n2)∧J ys W')∨(∃ pre,(∃ k,k≤n1 * n2∧pre=List.range k)∧Jx pre W')):=by
 have HY:=Lib.hid hY
 have HJ:=Lib.hid hJ
 have HL:=Lib.hid hL
 have CR:=Lib.hid cr
 have CL:=Lib.hid cl
 have HU:=Lib.hid hU
 clear hY hJ hL
 refine callsIn_of_wp Tryz.func162 rfl trivial ?_ rfl
 simp only [Tryz.ntmps162,List.size_toArray,List.length_cons,List.length_nil,Nat.reduceAdd,Nat.reduceSub,Array.replicate_succ,Array.replicate_zero,List.push_toArray,List.append_toArray,List.nil_append,List.cons_append]
 gi_wp2
 gi_loopw [10] (fun i wr => ∃ k:Nat,k≤n1∧i=.int .i64 k∧Hid (J (List.range (k * n2)) wr∧KeptX N A W wr)) (fun i _ => n1 - (intOf i).toNat)
 case atStart => exact ⟨0,Nat.zero_le _,rfl,Lib.hid ⟨by rw [Nat.zero_mul];exact h0,KeptX.refl _ _ _⟩⟩
 case round =>
  clear cr cl
  obtain ⟨i,hi,rfl,HI⟩:=hrel
  by_cases hlt:i < n1
  ·obtain ⟨b,o,ha,hb,hc⟩:=HL.out.rr i hlt
   subst ha
   have c0:=(HI.out.2.cell (o:=o+i) hb.1 hb.2).trans hc
   have cr:=(HI.out.2.cell (o:=0) hBr.1 hBr.2).trans CR.out
   have cl:=(HI.out.2.cell (o:=0) hBl.1 hBl.2).trans CL.out
   have i0:(0:Int)≤(i:Int):=by omega
   have i1:(i:Int) < (n1:Int):=by omega
   obtain ⟨ua,un,uc,hu⟩:=HU.out i
   rw [hu] at c0
   have UE:=Lib.hid hu
   gi_wp2
   gi_loopw [16] (fun s wz => ∃ k:Nat,k≤n2∧s=.int .i64 k∧Hid (J (List.range (i * n2+k)) wz∧KeptX N A W wz)) (fun s _ => n2 - (intOf s).toNat)
   case atStart => exact ⟨0,Nat.zero_le _,rfl,HI⟩
   case round =>
    clear c0 cr cl hc HI
    obtain ⟨k,hk,rfl,HK⟩:=hrel
    by_cases hlk:k < n2
    ·obtain ⟨b2,o2,ha2,hb2,hc2⟩:=HL.out.rl k hlk
     subst ha2
     have hm:=div_at (i:=i) hlk
     have hle:i * n2+k < n1 * n2:=by
      have:=Nat.mul_le_mul_right n2 (show i+1≤n1 by omega)
      rw [Nat.add_mul,Nat.one_mul] at this
      omega
     have z0:=HK.out.2.1
     have j0:(0:Int)≤(k:Int):=by omega
     have j1:(k:Int) < (n2:Int):=by omega
     have x0:=(HK.out.2.cell (o:=o2+k) hb2.1 hb2.2).trans hc2
     have KW:=Lib.hid HK.out.2
     have hJ1:=HK.out.1
     obtain ⟨fn,tmps,assign,body,hy,hR⟩:=HY.out _ (i * n2+k) _ hJ1 (by simpa using hle)
     have hR':=hR.mono (R':=fun e W' => ∃ r:Bool,e=.returned (.bool r)∧Hid ((r=true→J (List.range (i * n2+(k+1))) W'∧KeptX N A W W')∧(r=false→Jx (List.range (i * n2+(k+1))) W'))) (by
      rintro e W' (⟨rfl,h1,h2⟩ | ⟨rfl,h1⟩)
      ·exact ⟨true,rfl,Lib.hid ⟨fun _ => ⟨by rw [← Nat.add_assoc,List.range_succ];exact h1,KW.out.trans h2⟩,fun h => by cases h⟩⟩
      ·exact ⟨false,rfl,Lib.hid ⟨fun h => (by cases h),fun _ => (by rw [← Nat.add_assoc,List.range_succ];exact h1)⟩⟩)
     clear hR hJ1 HK KW
     unfold prS at hy
     rw [Nat.mod_eq_of_lt hle,hm.1,hm.2,UE.out] at hy
     gi_wp2_with fail
     refine hR'.mono ?_
     rintro e W3 ⟨r,rfl,hjr⟩
     cases r
     ·have F:=Lib.hid (hjr.out.2 (by first | rfl | trivial))
      clear hjr
      gi_wp2_with fail
      refine bodyPost_ret (results_none rfl _ _ _) rfl ?_
      exact ⟨⟨_,rfl⟩,.inr ⟨_,⟨i * n2+(k+1),by omega,rfl⟩,F.out⟩⟩
     ·have F:=Lib.hid (hjr.out.1 (by first | rfl | trivial))
      clear hjr
      gi_wp2_with fail
      go_roundw
      case rel => exact ⟨k+1,by omega,by go_num,F⟩
      case measure => simp [intOf];omega
    ·obtain rfl:k=n2:=by omega
     gi_wp2
     go_roundw
     case rel => exact ⟨i+1,by omega,by go_num,Lib.hid ⟨by rw [Nat.add_mul,Nat.one_mul];exact HK.out.1,HK.out.2⟩⟩
     case measure => simp [intOf];omega
  ·obtain rfl:i=n1:=by omega
   gi_wp2
   go_end0
   exact ⟨⟨_,rfl⟩,.inl ⟨_,rfl,HI.out.1⟩⟩
theorem LstS.below {N A:Nat} {a1 a2:Option Addr} {n1 n2:Nat} {U:Nat→Value} {X:Nat→Value} {w W:World} (h:LstS N A a1 a2 n1 n2 U X w) (k:Below w.heap.size w W) (hN:N≤w.heap.size):LstS N A a1 a2 n1 n2 U X W :=
 ⟨fun i hi => by
  obtain ⟨b,o,e,hb,hc⟩:=h.rr i hi
  exact ⟨b,o,e,hb,(Grew.cell k (by omega)).trans hc⟩,fun i hi => by
  obtain ⟨b,o,e,hb,hc⟩:=h.rl i hi
  exact ⟨b,o,e,hb,(Grew.cell k (by omega)).trans hc⟩⟩
theorem pairsS_stops (n:Nat) (hn:1≤n) (Br Bl N A:Nat) (a1 a2:Option Addr) (n1 n2 c1 c2:Nat) (U:Nat→Value) (hU:∀ i,IsHd (U i)) (X:Nat→Value) (h1:n1≤4000) (h2:n2≤4000) (w:World) (hN:N≤w.heap.size) (hBr:Br < N∧Br ≠ A) (hBl:Bl < N∧Bl ≠ A)
  (cr:w.cell? ⟨Br,0,none⟩=some (.slice a1 n1 c1)) (cl:w.cell? ⟨Bl,0,none⟩=some (.slice a2 n2 c2)) (hL:LstS N A a1 a2 n1 n2 U X w) :
  SeqStopsK Fence.wide n Tryz.prog 162 #[.pointer (some ⟨Br,0,none⟩),.pointer (some ⟨Bl,0,none⟩)] (prS U X n2 (n1 * n2)) (KeptX N A) (fun ys => ys=List.range (n1 * n2)) (fun pre => ∃ k,k≤n1 * n2∧pre=List.range k) (n1 * n2) w :=
 fun l J Jx W hW hJ _hJx hY h0 => pairsS1_in n hn l Br Bl N A a1 a2 n1 n2 c1 c2 U hU X h1 h2 J Jx W hJ hY (Nat.le_trans hN hW.size) hBr hBl ((Grew.cell hW (by omega)).trans cr) ((Grew.cell hW (by omega)).trans cl) (hL.below hW hN) h0
end Rg
end Go.Proofs.YtlookcbokhknfaaGreat
