/-
  A range over an iterator that stores into cells of its own, with a body that never leaves early.
  A range over an iterator that says something of the world before each round, with a body that may return.
  The landed package ring: the sectors that are ranged over.
  The landed package mink: plus, order, sides.
  Plain geometry: the merged sides go around the sum of two polygons. No program.
  The landed package mink: the sides of a polygon, collected.
  The landed merged: an iterator with a cell of its own.
  The landed sum: corners, one after the other.
  The landed Sum.
-/
import Derived.RangeFuncNested
import Derived.Test.YtbpgfenippiepaaGreatDoorRows
import Derived.Test.YtbpgfenippiepaaGreatDoorMRngPlainB
import Derived.Test.YtbpgfenippiepaaGreatDoorMHullCm
import Derived.Test.YtbpgfenippiepaaGreatDoorMHullCr
import Derived.Test.YtbpgfenippiepaaGreatDoorMMinkMrg
import Derived.Test.YtbpgfenippiepaaGreatDoorMHullLay
import Derived.Deep.RegionHeld3
import Derived.Test.YtbpgfenippiepaaGreatDoorMHullCf
import Derived.Sort.CutIn
import Derived.Test.YtbpgfenippiepaaGreatDoorMHullBar
import Derived.Test.YtbpgfenippiepaaGreatDoorMMinkOne
import Derived.Test.YtbpgfenippiepaaGreatDoorMHullCk
namespace Go.Proofs.YtbpgfenippiepaaGreatDoor
open Go.RowKit
namespace Sq
variable {F:Fence} {n:Nat} {P:Program} {α:Type}
def Bears (B:Nat) (Fr:World→Nat→Prop) (J:List α→World→Prop):Prop :=
 ∀ s X Y row,J s X→X.grownBy Y row→(∀ r,row=some r→B≤r∧∃ o:Obj,X.heap[r]? = some o∧(o.isWalk=true∨o.isCells=true∧Fr X r))→J s Y
def Runs (F:Fence) (n:Nat) (P:Program) (g:Nat) (lb:Array Value) (encs:α→Array Value) (Fr:World→Nat→Prop) (Kp:World→World→Prop) (Ok:List α→α→Prop) (S:List α→Prop) (w:World):Prop :=
 ∀ (l:Nat) (J:List α→World→Prop) (W:World),Below w.heap.size w W→Bears W.heap.size Fr J →
   (∀ pre x X,J pre X→Ok pre x→YieldAt F (n - 1) P l (encs x) X fun e Y => e=.returned (.bool true)∧J (pre ++ [x]) Y∧Kp X Y) →
   J [] W→CallsIn F n P g (#[.func (.yield l) #[] #[]] ++ lb) W fun e Y => (∃ v,e=.returned v)∧∃ xs,S xs∧J xs Y
structure Book (D:Nat) (r:Loop) (W:World):Prop where
 defs:W.heap[D]? = some (.deferred (some []))
 loop:W.heap[D+1]? = some (.loop r)
theorem Book.lt {D:Nat} {r:Loop} {W:World} (h:Book D r W):D+1 < W.heap.size:=(Array.getElem?_eq_some_iff.1 h.loop).1
theorem Book.from {D B:Nat} {r:Loop} {X Y:World} (h:Book D r X) (k:KeepsFrom B X Y) (hB:B≤D):Book D r Y:=⟨k.same _ _ hB h.defs rfl,k.same _ _ (by omega) h.loop rfl⟩
theorem Book.put {D:Nat} {r:Loop} {X:World} (h:Book D r X) (q:Loop):Book D q (X.putObj (D+1) (.loop q)):=⟨(World.putObj_heap_other (by omega)).trans h.defs,World.putObj_heap_same h.lt⟩
theorem Book.grown {D:Nat} {r:Loop} {X Y:World} {row:Option Nat} (h:Book D r X) (g:X.grownBy Y row) (hr:∀ k,row=some k→∃ o:Obj,X.heap[k]? = some o∧(o.isWalk=true∨o.isCells=true)):Book D r Y:=by
 have ne:∀ {k:Nat} {o:Obj},X.heap[k]? = some o→o.isWalk=false→o.isCells=false→Y.heap[k]? = some o:=fun {k o} ho hw hc => by
  refine (g.block k (Array.getElem?_eq_some_iff.1 ho).1 fun e => ?_).trans ho
  obtain ⟨o',ho',h'⟩:=hr k e.symm
  rw [ho] at ho'
  cases ho'
  rcases h' with h' | h'
  ·rw [hw] at h';cases h'
  ·rw [hc] at h';cases h'
 exact ⟨ne h.defs rfl rfl,ne h.loop rfl rfl⟩
end Sq
end Go.Proofs.YtbpgfenippiepaaGreatDoor
namespace Go.Proofs.YtbpgfenippiepaaGreatDoor
open Go.RowKit
namespace Rq
open Sq (Book)
variable {F:Fence} {n:Nat} {P:Program} {α:Type}
def Runs (F:Fence) (n:Nat) (P:Program) (g:Nat) (lb:Array Value) (encs:α→Array Value) (Kp:World→World→Prop) (Ok:List α→α→World→Prop) (S:List α→Prop) (w:World):Prop :=
 ∀ (l:Nat) (J Jx:List α→World→Prop) (W:World),Below w.heap.size w W→AbidesFrom W.heap.size J→AbidesFrom W.heap.size Jx →
   (∀ pre x X,J pre X→Ok pre x X→YieldAt F (n - 1) P l (encs x) X fun e Y => (e=.returned (.bool true)∧J (pre ++ [x]) Y∧Kp X Y)∨(e=.returned (.bool false)∧Jx (pre ++ [x]) Y)) →
   J [] W→CallsIn F n P g (#[.func (.yield l) #[] #[]] ++ lb) W fun e Y => (∃ v,e=.returned v)∧((∃ xs,S xs∧J xs Y)∨∃ pre,Jx pre Y)
def Post (B:Nat) (Kp:World→World→Prop) (I Ix:List α→World→Prop) (s:List α) (W:World):Exit→Act→World→Prop
 | .normal,_,Y => KeepsFrom B W Y∧Kp W Y∧I s Y
 | .ret,_,Y => KeepsFrom B W Y∧Ix s Y
 | _,_,_ => False
theorem range_rets {g:Operand} {ps:Array Tmp} {assign body:Code} {Q:Exit→Act→World→Prop} {a:Act} {w:World}
  (hro:F.round=none) (h1:1≤n) {gf:Nat} {lb:Array Value} (hg:a.eval g=.func (.func gf) #[] lb) (hFg:F.fn gf) (eg:∀ args w,(callFunc gf args).run P w=.ok (.enter gf args) w)
  {encs:α→Array Value} {Kp:World→World→Prop} {Ok:List α→α→World→Prop} {S:List α→Prop} {w0:World} (hseq:Runs F (n - 1) P gf lb encs Kp Ok S w0)
  (hKt:∀ {X Y Z:World},Kp X Y→Kp Y Z→Kp X Z) (hKb:∀ (W:World) (l:Nat) (o o':Obj),w.heap.size≤l→W.heap[l]? = some o→o.isCells=false→Kp W (W.putObj l o')) (hb0:Below w0.heap.size w0 w) (hps:∀ x,(encs x).size=ps.size)
  (I Ix:List α→World→Prop) (hI:OwnFrom w.heap.size I) (hIx:OwnFrom w.heap.size Ix) (h0:I [] w)
  (Ax:List α→α→Act→World→Prop) (hAx:∀ pre x a',OwnFrom w.heap.size (fun (_:Unit) W => Ax pre x a' W))
  (hassign:∀ (l:Nat) (pre:List α) (x:α) (W:World) (K:Act→World→Prop),I pre W→Ok pre x W→(∀ a' Y,KeepsFrom w.heap.size W Y→Kp W Y→I pre Y→Ax pre x a' Y→K a' Y) →
   assign.wpIn (F.inRound l) (n - 1 - 1) P (Exit.then K (fun _ _ _ => False)) { tmps:=(ps.zip (encs x)).foldl (fun t (p,v) => t.setIfInBounds p v) a.tmps,defers:=[] } W)
  (hbody:∀ (l:Nat) (pre:List α) (x:α) (a':Act) (W:World),w.heap.size≤l→I pre W→Ax pre x a' W→body.wpIn (F.inRound l) (n - 1 - 1) P (Post w.heap.size Kp I Ix (pre ++ [x]) W) a' W)
  (hdone:∀ (D:Nat) (xs:List α) (W:World),w.heap.size≤D→S xs→I xs W→W.heap[D]? = some (.deferred (some []))→Q .normal { a with defers:={ target:=.collected D,args:=#[] } :: a.defers } W)
  (hstop:∀ (D:Nat) (pre:List α) (W:World),w.heap.size≤D→Ix pre W→W.heap[D]? = some (.deferred (some []))→Code.ret.wpIn F n P Q { a with defers:={ target:=.collected D,args:=#[] } :: a.defers } W) :
  (Code.rangeFunc g ps assign body).wpIn F n P Q a w:=by
 have put:∀ {I:List α→World→Prop} (_:OwnFrom w.heap.size I) {s:List α} {X:World} {r:Loop} (q:Loop),Book w.heap.size r X→I s X→I s (X.putObj (w.heap.size+1) (.loop q)):=fun {I} hI {s X r} q b h =>
  hI s X _ (some (w.heap.size+1)) h (grownBy_putObj' X _ _) (fun k e => by cases e;exact ⟨by omega,_,b.loop,rfl⟩)
 refine wpIn_rangeFunc fun fn hfn => ?_
 rw [hro]
 obtain ⟨q,hq⟩:∃ q:LoopState→Option Code→Loop,q=fun st pe => { state:=st,pending:=pe,fn,tmps:=a.tmps,params:=ps,assign,body,defers:=w.heap.size }:=⟨_,rfl⟩
 obtain ⟨W1,hW1⟩:∃ W1,(w.alloc (.deferred (some []))).alloc (.loop (q .ready none))=W1:=⟨_,rfl⟩
 have gW:w.grownBy W1 none:=by
  rw [← hW1]
  exact ⟨rfl,rfl,rfl,by simp;omega,fun k hk _ => (Below.heap_alloc _ _ k (by simp;omega)).trans (Below.heap_alloc _ _ k hk)⟩
 have b1:Book w.heap.size (q .ready none) W1:=by
  rw [← hW1]
  refine ⟨(Below.heap_alloc _ _ _ (by simp)).trans (World.alloc_heap_new w _),?_⟩
  have:=World.alloc_heap_new (w.alloc (.deferred (some []))) (.loop (q .ready none))
  rwa [World.size_alloc] at this
 have iW:I [] W1:=hI [] w W1 none h0 gW (fun _ e => by cases e)
 have sz:w.heap.size≤W1.heap.size:=gW.size
 have walks:∀ {X:World} {row:Option Nat},(∀ r,row=some r→W1.heap.size≤r∧∃ o:Obj,X.heap[r]? = some o∧o.isWalk=true)→∀ r,row=some r→w.heap.size≤r∧∃ o:Obj,X.heap[r]? = some o∧o.isCells=false:=fun hr r e => by
  obtain ⟨h2,o,ho,h3⟩:=hr r e
  exact ⟨Nat.le_trans sz h2,o,ho,Obj.not_cells_of_walk h3⟩
 have books:∀ {X Y:World} {row:Option Nat} {r:Loop},Book w.heap.size r X→X.grownBy Y row→(∀ r,row=some r→W1.heap.size≤r∧∃ o:Obj,X.heap[r]? = some o∧o.isWalk=true)→Book w.heap.size r Y:=fun hb hg hr => hb.grown hg (fun r e => by
  obtain ⟨_,o,ho,h3⟩:=hr r e
  exact ⟨o,ho,Or.inl h3⟩)
 refine ⟨w.heap.size+1,[{ target:=.collected w.heap.size,args:=#[] }],W1,{ target:=.fn (.func gf) lb,args:=#[.func (.yield (w.heap.size+1)) #[] #[]] },W1,gf,
  #[.func (.yield (w.heap.size+1)) #[] #[]] ++ lb,W1,?_,?_,?_,?_,fun _ => h1,?_⟩
 ·rw [← hW1,hq]
  exact run_enterLoop_outer _ _ _ _ _
 ·simp only [resolve,hg]
  simp [go_sem]
 ·intro f' hf'
  simp [Target.leads] at hf'
  subst hf'
  exact hFg
 ·simp [invoke,go_sem,eg]
 ·refine (hseq (w.heap.size+1) (fun pre W => I pre W∧Book w.heap.size (q .ready none) W) (fun pre W => Ix pre W∧Book w.heap.size (q .done (some .ret)) W) W1 (hb0.trans ((Below.refl w.heap.size w).grown gW (Nat.le_refl _) (fun _ e => by cases e) |>.mono hb0.size)) ?_ ?_ ?_ ⟨iW,b1⟩).mono ?_
  ·exact fun s X Y row hs hg hr => ⟨hI s X Y row hs.1 hg (walks hr),books hs.2 hg hr⟩
  ·exact fun s X Y row hs hg hr => ⟨hIx s X Y row hs.1 hg (walks hr),books hs.2 hg hr⟩
  ·-- one round
   rintro pre x W ⟨hi,hb⟩ hok
   have hy:=run_yield (P:=P) (args:=encs x) hb.loop (by rw [hq];exact hps x)
   rw [hq] at hy
   refine ⟨fn,_,assign,body,hy,roundIn_of_wpIn hfn (hassign _ pre x W _ hi hok fun a' Wa hkf hkp hia hax => ?_)⟩
   have hba:=hb.from hkf (Nat.le_refl _)
   have hb2:=hba.put (q .busy none)
   have hax2:=hAx pre x a' () Wa (Wa.putObj (w.heap.size+1) (.loop (q .busy none))) (some (w.heap.size+1)) hax (grownBy_putObj' Wa _ _) (fun k e => by cases e;exact ⟨by omega,_,hba.loop,rfl⟩)
   refine ⟨Wa.putObj (w.heap.size+1) (.loop (q .busy none)),?_,wpIn_mono (hbody _ pre x a' _ (by omega) (put hI _ hba hia) hax2) ?_⟩
   ·have:=run_beginRound (P:=P) hba.loop (by rw [hq])
    rw [hq] at this ⊢
    exact this
   ·rintro e a3 W3 hp
    cases e with
    | normal =>
      obtain ⟨hk3,hp3,hi3⟩:=hp
      have hb3:=hb2.from hk3 (Nat.le_refl _)
      refine ⟨.bool true,W3.putObj (w.heap.size+1) (.loop (q .ready none)),?_,.inl ⟨rfl,⟨put hI _ hb3 hi3,hb3.put _⟩,hKt hkp (hKt (hKb _ _ _ _ (by omega) hba.loop rfl) (hKt hp3 (hKb _ _ _ _ (by omega) hb3.loop rfl)))⟩⟩
      have:=run_endRound (P:=P) none hb3.loop
      rw [hq] at this ⊢
      exact this
    | ret =>
      obtain ⟨hk3,hi3⟩:=hp
      have hb3:=hb2.from hk3 (Nat.le_refl _)
      refine ⟨.bool false,W3.putObj (w.heap.size+1) (.loop (q .done (some .ret))),?_,.inr ⟨rfl,put hIx _ hb3 hi3,hb3.put _⟩⟩
      have:=run_endRound (P:=P) (some .ret) hb3.loop
      rw [hq] at this ⊢
      exact this
    | _ => exact hp.elim
  ·-- behind the iterator
   rintro e W2 ⟨⟨v,rfl⟩,(⟨xs,hS,hi,hb⟩ | ⟨pre,hi,hb⟩)⟩
   ·refine ⟨none,_,?_,hdone _ xs _ (Nat.le_refl _) hS (put hI (q .exhausted none) hb hi) ((World.putObj_heap_other (by omega)).trans hb.defs)⟩
    have:=run_endLoop (P:=P) hb.loop (by rw [hq];simp)
    rw [hq] at this ⊢
    exact this
   ·refine ⟨some .ret,_,?_,hstop _ pre _ (Nat.le_refl _) (put hIx (q .exhausted (some .ret)) hb hi) ((World.putObj_heap_other (by omega)).trans hb.defs)⟩
    have:=run_endLoop (P:=P) hb.loop (by rw [hq];simp)
    rw [hq] at this ⊢
    exact this
end Rq
end Go.Proofs.YtbpgfenippiepaaGreatDoor
namespace Go.Proofs.YtbpgfenippiepaaGreatDoor
open Go.RowKit Go.Shelf Hl
attribute [local go_sem] Oper.semAt_some
namespace Rn
open Rg (Rgn VlR AnsR Rl nth TidP)
theorem lv_cell {B C b o:Nat} {w w':World} (h:Hl.Leaves B C w w') (hg:b < B) (hc:b ≠ C):w'.cell? ⟨b,o,none⟩=w.cell? ⟨b,o,none⟩:=World.cell?_of_block (a:=⟨b,o,none⟩) (h.block b hg hc)
theorem gb_grew {X Y:World} (g:Grew X Y):X.grownBy Y none:=⟨g.os,g.tape,g.output,g.size,fun k hk _ => g.block k hk⟩
abbrev El:=Value × Int × List Pt
def encS (x:El):Array Value:=#[x.1,.int .i64 x.2.1]
def OkS (lo hi:Int) (pre:List El) (x:El) (W:World):Prop:=pre.length < 32∧Sl W x.1 x.2.2∧((Dst lo hi∧x.2.1=0∧Sec pre.length lo hi x.2.2∧x.2.2.length≤64)∨(¬ Dst lo hi∧x.2.1=1∧x.2.2=[]))
theorem sectors_in (n:Nat) (lo hi:Int) (w:World) :
  CallsIn Fence.wide n Tryz.prog 30 #[.agg #[.int .i64 lo,.int .i64 hi]] w fun e w' => e=.returned (.func (.func 60) #[] #[.pointer (some ⟨w.heap.size,0,none⟩)])∧w'=w.alloc (.cells #[.int .i64 lo,.int .i64 hi] 26):=by
 refine callsIn_of_wp Tryz.func30 rfl trivial ?_ rfl
 simp only [Tryz.ntmps30,List.size_toArray,List.length_cons,List.length_nil,Nat.reduceAdd,Nat.reduceSub,Array.replicate_succ,Array.replicate_zero,List.push_toArray,List.append_toArray,List.nil_append,List.cons_append]
 gi_wp2
 go_ret
 exact ⟨rfl,rfl⟩
theorem sec_any {T:World→Prop} (N:Nd T) (k:Nat) (lo hi:Int) (w:World) (hT:T w) (hk:k < 32):Calls Tryz.prog 61 #[.int .i64 (2 * (k:Int)),.int .i64 2,.agg #[.int .i64 lo,.int .i64 hi]] w fun e w' => ∃ v j q,e=.returned (.tuple #[v,.int .i64 j])∧(Sl w' v q∧((Dst lo hi∧j=0∧Sec k lo hi q∧q.length≤64)∨(¬ Dst lo hi∧j=1∧q=[])))∧Grew w w':=by
 by_cases hd:Dst lo hi
 ·have h:=N.sec (2 * k) 2 lo hi w hT (by omega) (by omega) hd
  rw [show ((2 * k:Nat):Int)=2 * (k:Int) by omega,show ((2:Nat):Int)=2 from rfl] at h
  refine h.mono ?_
  rintro e w' ⟨q,v,hq,h64,rfl,hs,g⟩
  exact ⟨v,0,q,rfl,⟨hs,Or.inl ⟨hd,rfl,hq,h64⟩⟩,g⟩
 ·refine (N.sec_bad (2 * (k:Int)) 2 lo hi w (fun h => hd h.2.2)).mono ?_
  rintro e w' ⟨v,rfl,hs,g⟩
  exact ⟨v,1,[],rfl,⟨hs,Or.inr ⟨hd,rfl,rfl⟩⟩,g⟩
set_option maxHeartbeats 4000000 in
theorem sectors1_in {T:World→Prop} (N:Nd T) (n:Nat) (hn:1≤n) (l D B A:Nat) (lo hi:Int) (w0:World) (h0:T w0) (J Jx:List El→World→Prop)
  (W:World) (hb:Grew w0 W) (hA:w0.heap.size≤A∧w0.heap.size≤B) (hJ:AbidesFrom W.heap.size J)
  (hY:∀ pre x X,J pre X→OkS lo hi pre x X→YieldAt Fence.wide (n - 1) Tryz.prog l (encS x) X fun e Y => (e=.returned (.bool true)∧J (pre ++ [x]) Y∧Hl.Leaves B A X Y)∨(e=.returned (.bool false)∧Jx (pre ++ [x]) Y))
  (hB:B≤W.heap.size) (hD:D < B∧D ≠ A) (cd:W.cell? ⟨D,0,none⟩=some (.int .i64 lo)∧W.cell? ⟨D,1,none⟩=some (.int .i64 hi)) (hj:J [] W) :
  CallsIn Fence.wide n Tryz.prog 60 #[.func (.yield l) #[] #[],.pointer (some ⟨D,0,none⟩)] W fun e Y => (∃ v,e=.returned v)∧((∃ xs:List El,xs.length=32∧J xs Y)∨∃ pre,Jx pre Y):=by
 have HY:=Lib.hid hY
 have HJ:=Lib.hid hJ
 have CD:=Lib.hid cd
 have SC:Hid (∀ (k:Nat) (W':World),k < 32→Hl.Leaves B A W W'→CallsIn Fence.wide (n - 1) Tryz.prog 61 #[.int .i64 (2 * (k:Int)),.int .i64 2,.agg #[.int .i64 lo,.int .i64 hi]] W' fun e w' => ∃ v j q,e=.returned (.tuple #[v,.int .i64 j])∧(Sl w' v q∧((Dst lo hi∧j=0∧Sec k lo hi q∧q.length≤64)∨(¬ Dst lo hi∧j=1∧q=[])))∧Grew W' w') :=
  Lib.hid (fun k W' hk hl => callsIn_wide.2 (sec_any N k lo hi W' (N.keep _ _ (hl.toGrew hb hA.2 hA.1) h0) hk))
 clear hY hJ h0 hb N hA
 refine callsIn_of_wp Tryz.func60 rfl trivial ?_ rfl
 simp only [Tryz.ntmps60,List.size_toArray,List.length_cons,List.length_nil,Nat.reduceAdd,Nat.reduceSub,Array.replicate_succ,Array.replicate_zero,List.push_toArray,List.append_toArray,List.nil_append,List.cons_append]
 gi_wp2_with fail
 gi_loopw [3] (fun i wr => ∃ (k:Nat) (xs:List El),k≤32∧i=.int .i64 (2 * (k:Int))∧Hid (xs.length=k∧J xs wr∧Hl.Leaves B A W wr)) (fun i _ => 64 - (intOf i).toNat)
 case atStart => exact ⟨0,[],Nat.zero_le _,rfl,Lib.hid ⟨rfl,hj,Hl.Leaves.refl _ _ _⟩⟩
 case round =>
  clear cd hj
  obtain ⟨k,xs,hk,rfl,HK⟩:=hrel
  have k0:(0:Int)≤2 * (k:Int):=by omega
  by_cases hlt:k < 32
  ·have klt:2 * (k:Int) < 64:=by omega
   have d0:=((lv_cell HK.out.2.2 hD.1 hD.2).trans CD.out.1)
   have d1:=((lv_cell HK.out.2.2 hD.1 hD.2).trans CD.out.2)
   have lD:D < wr.heap.size:=by have h1:=HK.out.2.2.size;omega
   have S1:=Lib.hid (SC.out k wr hlt HK.out.2.2)
   gi_wp2_with fail
   refine ⟨trivial,S1.out.mono ?_⟩
   rintro e w1 ⟨v,j,q,rfl,hq,g1⟩
   have LN:=Lib.hid HK.out.1
   have OK:Hid (OkS lo hi xs (v,j,q) w1):=Lib.hid ⟨by rw [LN.out];exact hlt,hq.1,by rw [LN.out];exact hq.2⟩
   have hJ1:J xs w1:=HJ.out _ _ _ none HK.out.2.1 (gb_grew g1) (fun r e => by cases e)
   have KW:Hid (Hl.Leaves B A W w1):=Lib.hid (HK.out.2.2.grew g1 (Nat.le_trans hB HK.out.2.2.size))
   obtain ⟨fn,tmps,assign,body,hy,hR⟩:=HY.out xs (v,j,q) _ hJ1 OK.out
   have hR':=hR.mono (R':=fun e Y => ∃ r:Bool,e=.returned (.bool r)∧Hid ((r=true→J (xs ++ [(v,j,q)]) Y∧Hl.Leaves B A W Y)∧(r=false→Jx (xs ++ [(v,j,q)]) Y))) (by
    rintro e Y (⟨rfl,h1,h2⟩ | ⟨rfl,h1⟩)
    ·exact ⟨true,rfl,Lib.hid ⟨fun _ => ⟨h1,KW.out.trans h2⟩,fun h => by cases h⟩⟩
    ·exact ⟨false,rfl,Lib.hid ⟨fun h => (by cases h),fun _ => h1⟩⟩)
   unfold encS at hy
   obtain ⟨va,vc,rfl⟩:=hq.1.shape
   clear hR hJ1 HK KW d0 d1 lD g1 hq S1
   gi_wp2_with fail
   refine hR'.mono ?_
   rintro e W3 ⟨r,rfl,hjr⟩
   cases r
   ·have F:=Lib.hid (hjr.out.2 (by first | rfl | trivial))
    clear hjr
    gi_wp2_with fail
    refine bodyPost_ret (results_none rfl _ _ _) rfl ?_
    exact ⟨⟨_,rfl⟩,.inr ⟨_,F.out⟩⟩
   ·have F:=Lib.hid (hjr.out.1 (by first | rfl | trivial))
    clear hjr
    gi_wp2_with fail
    go_roundw
    case rel => exact ⟨k+1,_,by omega,by go_num,Lib.hid ⟨by rw [List.length_append,LN.out];rfl,F.out.1,F.out.2⟩⟩
    case measure => simp [intOf];omega
  ·obtain rfl:k=32:=by omega
   gi_wp2
   go_end0
   exact ⟨⟨_,rfl⟩,.inl ⟨xs,HK.out.1,HK.out.2.1⟩⟩
theorem sectors_runs {T:World→Prop} (N:Nd T) (n:Nat) (hn:1≤n) (D B A:Nat) (lo hi:Int) (w0 w:World) (h0:T w0) (hb:Grew w0 w) (hA:w0.heap.size≤A∧w0.heap.size≤B) (hB:B≤w.heap.size) (hD:D < B∧D ≠ A) (cd:w.cell? ⟨D,0,none⟩=some (.int .i64 lo)∧w.cell? ⟨D,1,none⟩=some (.int .i64 hi)) :
  Rq.Runs Fence.wide n Tryz.prog 60 #[.pointer (some ⟨D,0,none⟩)] encS (Hl.Leaves B A) (OkS lo hi) (fun xs => xs.length=32) w :=
 fun l J Jx W hW hJ _hJx hY hj => sectors1_in N n hn l D B A lo hi w0 h0 J Jx W (hb.trans hW) hA hJ hY (Nat.le_trans hB hW.size) hD ⟨(Grew.cell hW (by omega)).trans cd.1,(Grew.cell hW (by omega)).trans cd.2⟩ hj
end Rn
end Go.Proofs.YtbpgfenippiepaaGreatDoor
namespace Go.Proofs.YtbpgfenippiepaaGreatDoor
open Go.RowKit Go.Shelf Hl
attribute [local go_sem] Oper.semAt_some
namespace Mk
def Wp (x:Pt):Prop:=(-8000000≤x.1∧x.1≤8000000)∧(-8000000≤x.2∧x.2≤8000000)
theorem plus_m (x y:Pt) (w:World) (hx:Wp x) (hy:Wp y):Calls Tryz.prog 65 #[.agg #[.int .i64 x.1,.int .i64 x.2],.agg #[.int .i64 y.1,.int .i64 y.2]] w fun e w' => e=.returned (.agg #[.int .i64 (plus x y).1,.int .i64 (plus x y).2])∧((w.alloc (.cells #[.int .i64 x.1,.int .i64 x.2] 24)).alloc (.cells #[.int .i64 y.1,.int .i64 y.2] 24)).alloc (.cells #[.int .i64 (plus x y).1,.int .i64 (plus x y).2] 24)=w':=by
 rcases x with ⟨a,b⟩
 rcases y with ⟨c,d⟩
 obtain ⟨⟨p0,p1⟩,p2,p3⟩:=hx
 obtain ⟨⟨q0,q1⟩,q2,q3⟩:=hy
 simp only at p0 p1 p2 p3 q0 q1 q2 q3
 go_enter Tryz.func65,Tryz.ntmps65
 go_wp2_with fail
 refine bodyPost_ret (v:=.agg #[.int .i64 (a+c),.int .i64 (b+d)]) (by simp [results,Tryz.results65,go_sem]) rfl ⟨rfl,rfl⟩
end Mk
end Go.Proofs.YtbpgfenippiepaaGreatDoor
namespace Go.Proofs.YtbpgfenippiepaaGreatDoor
open Hl
namespace Mk
theorem nz_ne {v:Pt} (h:nz v):v ≠ (0,0):=fun e => by rw [e] at h;unfold nz at h;simp at h
theorem sub_of_plus {a b d:Pt} (h:b=plus a d):sub b a=d:=by rw [h];unfold sub plus;exact Prod.ext (by simp only;omega) (by simp only;omega)
theorem xp_sub_add (d a b c:Pt):xp d (sub a c)=xp d (sub a b)+xp d (sub b c):=by unfold xp sub;grind
theorem par_same {u v:Pt} (nu:nz u) (nv:nz v) (z:xp u v=0) (d:0 < dp u v):up u↔up v:=by
 have key:∀ {a b:Pt},nz b→xp a b=0→0 < dp a b→up a→up b:=fun {a b} nb z d ha => by
  by_cases ub:up b
  ·exact ub
  ·exfalso
   have hb:=down_neg nb ub
   have a0:=up_first ha
   have b0:=up_first hb
   have n1:(neg b).1 = -b.1:=rfl
   have n2:(neg b).2 = -b.2:=rfl
   unfold dp at d
   have z':a.1 * b.2=a.2 * b.1:=by unfold xp at z;omega
   by_cases z1:a.1=0
   ·have a2:=up_second ha z1
    rw [z1,Int.zero_mul] at z'
    have b1:b.1=0:=by
     rcases Int.mul_eq_zero.1 z'.symm with h | h
     ·omega
     ·exact h
    have b2:=up_second hb (by omega)
    rw [z1,b1] at d
    have:=Int.mul_pos a2 (show 0 < -b.2 by omega)
    rw [Int.mul_neg] at this
    omega
   ·have a1:0 < a.1:=by omega
    have m1:=Int.mul_nonneg a0 (show 0≤-b.1 by omega)
    rw [Int.mul_neg] at m1
    have m2:0 < a.1 * (a.2 * b.2):=by
     have:=Int.mul_pos a1 (show 0 < a.2 * b.2 by omega)
     exact this
    have e:a.1 * (a.2 * b.2)=a.2 * a.2 * b.1:=by
     rw [show a.1 * (a.2 * b.2)=a.2 * (a.1 * b.2) by grind,z']
     grind
    rw [e] at m2
    have:=Int.mul_nonneg (sq_nonneg a.2) (show 0≤-b.1 by omega)
    rw [Int.mul_neg] at this
    omega
 have z':xp v u=0:=by rw [xp_swap];omega
 exact ⟨key nv z d,key nu z' (by rw [dp_comm];exact d)⟩
theorem opp {u v:Pt} (nu:nz u) (nv:nz v) (z:xp u v=0) (n:¬ (up u↔up v)):dp u v < 0:=by
 have h0:=xp_dp (nz_ne nu) (nz_ne nv) z
 rcases Int.lt_or_gt_of_ne h0 with h | h
 ·exact h
 ·exact absurd (par_same nu nv z h) n
theorem lag_zero {u v z:Pt} (nu:nz u) (h1:xp u v=0) (h2:xp u z=0):xp v z=0:=by
 have e:=lag u v z
 rw [h1,h2,Int.mul_zero,Int.zero_mul,Int.sub_zero] at e
 have:=dd_pos (nz_ne nu)
 rcases Int.mul_eq_zero.1 e with h | h
 ·omega
 ·exact h
theorem lag_neg {u v z:Pt} (nu:nz u) (h1:xp u v=0) (d:dp u v < 0) (h:0≤xp v z):xp u z≤0:=by
 have e:=lag u v z
 rw [h1,Int.zero_mul,Int.sub_zero] at e
 have g:=Int.mul_nonneg (Int.le_of_lt (dd_pos (nz_ne nu))) h
 rw [e] at g
 rcases Int.lt_or_le 0 (xp u z) with k | k
 ·have:=Int.mul_neg_of_neg_of_pos d k
  omega
 ·exact k
structure Ring (l L D:List Pt):Prop where
 len:L.length=D.length
 three:3≤D.length
 next:∀ k,k < D.length→at' L ((k+1) % D.length)=plus (at' L k) (at' D k)
 left:∀ k,k < D.length→∀ y,y ∈ l→0≤xp (at' D k) (sub y (at' L k))
 mem:∀ k,k < D.length→at' L k ∈ l
 srt:∀ {i j:Nat},i < j→j < D.length→lt (at' D i) (at' D j)
 nzs:∀ k,k < D.length→nz (at' D k)
theorem Ring.side {l L D:List Pt} (R:Ring l L D) {k:Nat} (hk:k < D.length):sub (at' L ((k+1) % D.length)) (at' L k)=at' D k:=sub_of_plus (R.next k hk)
theorem Ring.half {l L D:List Pt} (R:Ring l L D) {e f:Nat} (he:e < D.length) (hf:f < D.length) (hne:e ≠ f) (z:xp (at' D e) (at' D f)=0):¬ (up (at' D e)↔up (at' D f)):=by
 intro s
 have z':xp (at' D f) (at' D e)=0:=by rw [xp_swap];omega
 rcases Nat.lt_or_gt_of_ne hne with h | h
 ·rcases R.srt h hf with ⟨u,d⟩ | ⟨_,x⟩
  ·exact d (s.1 u)
  ·omega
 ·rcases R.srt h he with ⟨u,d⟩ | ⟨_,x⟩
  ·exact d (s.2 u)
  ·omega
theorem Ring.flat {l L D:List Pt} (R:Ring l L D) {e f:Nat} (he:e < D.length) (hf:f < D.length) (hne:e ≠ f) (z:xp (at' D e) (at' D f)=0) (h:xp (at' D e) (sub (at' L e) (at' L f))=0):False:=by
 have ne:=R.nzs e he
 have nf:=R.nzs f hf
 have n:=R.half he hf hne z
 have d:=opp ne nf z n
 have all:∀ m,m < D.length→xp (at' D e) (sub (at' L m) (at' L e))=0:=fun m hm => by
  have h1:=R.left e he _ (R.mem m hm)
  have h2:=lag_neg ne z d (R.left f hf _ (R.mem m hm))
  have h3:=xp_sub_add (at' D e) (at' L m) (at' L e) (at' L f)
  omega
 have par:∀ m,m < D.length→xp (at' D e) (at' D m)=0:=fun m hm => by
  rw [← R.side hm]
  have h1:=all m hm
  have h2:=all _ (nx_lt (n:=D.length) (i:=m) (by omega))
  have h3:=xp_sub_add (at' D e) (at' L ((m+1) % D.length)) (at' L m) (at' L e)
  omega
 obtain ⟨m,hm,m1,m2⟩:∃ m,m < D.length∧m ≠ e∧m ≠ f:=by
  have:=R.three
  by_cases h0:0 ≠ e∧0 ≠ f
  ·exact ⟨0,by omega,h0.1,h0.2⟩
  ·by_cases h1:1 ≠ e∧1 ≠ f
   ·exact ⟨1,by omega,h1.1,h1.2⟩
   ·exact ⟨2,by omega,by omega,by omega⟩
 have k1:=R.half he hm (Ne.symm m1) (par m hm)
 have k2:=R.half hf hm (Ne.symm m2) (lag_zero ne z (par m hm))
 by_cases a:up (at' D e) <;> by_cases b:up (at' D f) <;> by_cases c:up (at' D m) <;> simp [a,b,c] at n k1 k2
theorem Ring.turn {l L D:List Pt} (R:Ring l L D) {i:Nat} (hi:i < D.length):0 < xp (at' D (pv D.length i)) (at' D i):=by
 have h3:=R.three
 have hv:pv D.length i < D.length:=pv_lt (by omega)
 have e:=R.next _ hv
 rw [pv_next hi] at e
 have e1:sub (at' L i) (at' L (pv D.length i))=at' D (pv D.length i):=sub_of_plus e
 have h1:=R.left _ hv _ (R.mem _ (nx_lt (n:=D.length) (i:=i) (by omega)))
 rw [xp_sub_add _ _ (at' L i),R.side hi,e1,xp_self] at h1
 rcases Int.lt_or_le 0 (xp (at' D (pv D.length i)) (at' D i)) with g | g
 ·exact g
 ·refine (R.flat hv hi (fun e => by
   have:=pv_next hi
   rw [e] at this
   exact nx_ne (by omega) hi this) (by omega) ?_).elim
  have:=xp_neg (at' D (pv D.length i)) (at' L (pv D.length i)) (at' L i)
  rw [e1,xp_self] at this
  omega
theorem Ring.ne {l L D:List Pt} (R:Ring l L D) {i j:Nat} (hi:i < D.length) (hj:j < D.length) (hne:i ≠ j):at' L i ≠ at' L j:=by
 intro e
 have h3:=R.three
 have key:∀ a b,a < D.length→b < D.length→at' L a=at' L b→0≤xp (at' D a) (at' D b):=fun a b ha hb e => by
  have h1:=R.left a ha _ (R.mem _ (nx_lt (n:=D.length) (i:=b) (by omega)))
  rw [e,R.side hb] at h1
  exact h1
 have a:=key i j hi hj e
 have b:=key j i hj hi e.symm
 have s:=xp_swap (at' D i) (at' D j)
 exact R.flat hi hj hne (by omega) (by rw [e];unfold xp sub;grind)
end Mk
end Go.Proofs.YtbpgfenippiepaaGreatDoor
namespace Go.Proofs.YtbpgfenippiepaaGreatDoor
open Go.RowKit Go.Shelf Hl
namespace Mk
def Lies (n0:Nat) (w:World) (g cp:Nat) (l:List Pt):Prop:=OwnAt n0 w g cp l
end Mk
end Go.Proofs.YtbpgfenippiepaaGreatDoor
namespace Go.Proofs.YtbpgfenippiepaaGreatDoor
open Go.RowKit Go.Shelf Hl
attribute [local go_sem] Oper.semAt_some
namespace Mk
def Free (L:Nat) (X:World) (k:Nat):Prop:=∀ v g,X.cell? ⟨L,0,none⟩=some v→v.ownBlock=some g→k < g
structure Kpm (L C:Nat) (X Y:World):Prop where
 size:X.heap.size≤Y.heap.size
 same:∀ k cs t f,X.heap[k]? = some (.cells cs t f)→k ≠ L→k ≠ C→Free L X k→Y.heap[k]? = some (.cells cs t f)
 list:∀ k,k < X.heap.size→Free L X k→Free L Y k
theorem Kpm.refl (L C:Nat) (X:World):Kpm L C X X:=⟨Nat.le_refl _,fun _ _ _ _ h _ _ _ => h,fun _ _ h => h⟩
theorem Kpm.trans {L C:Nat} {X Y Z:World} (h:Kpm L C X Y) (k:Kpm L C Y Z):Kpm L C X Z :=
 ⟨Nat.le_trans h.size k.size,fun i cs t f e h1 h2 h3 => k.same i cs t f (h.same i cs t f e h1 h2 h3) h1 h2 (h.list i (Array.getElem?_eq_some_iff.1 e).1 h3),fun i e h3 => k.list i (Nat.lt_of_lt_of_le e h.size) (h.list i e h3)⟩
theorem cell_of_block {X Y:World} {k o:Nat} (h:Y.heap[k]? = X.heap[k]?):Y.cell? ⟨k,o,none⟩=X.cell? ⟨k,o,none⟩:=World.cell?_of_block (a:=⟨k,o,none⟩) h
theorem Free.same {L k:Nat} {X Y:World} (h:Free L X k) (e:Y.heap[L]? = X.heap[L]?):Free L Y k:=fun v g hv hg => h v g (by rw [← cell_of_block e];exact hv) hg
theorem Kpm.put {L C:Nat} {w:World} (hL:L < w.heap.size) (W:World) (l:Nat) (o o':Obj) (hl:w.heap.size≤l) (h:W.heap[l]? = some o) (hc:o.isCells=false):Kpm L C W (W.putObj l o'):=by
 have g:=grownBy_putObj' W l o'
 refine ⟨g.size,fun k cs t f e _ _ _ => ?_,fun k _ f => f.same (World.putObj_heap_other (by omega))⟩
 refine (World.putObj_heap_other fun e2 => ?_).trans e
 subst e2
 rw [e] at h
 cases h
 cases hc
theorem grew_grown {X Y:World} (h:Grew X Y):X.grownBy Y none:=⟨h.os,h.tape,h.output,h.size,fun k hk _ => h.block k hk⟩
structure Mst (W:World) (L C S ga gb:Nat) (p q:List Pt) (J:List Pt→World→Prop) (pre A B:List Pt) (oa ca ob cb:Nat) (X:World):Prop where
 list:mg (rs p 0 p.length) (rs q 0 q.length)=pre ++ mg A B
 j:J pre X
 side:∃ s:Pt,Blk X S #[.int .i64 s.1,.int .i64 s.2] 24
 rowA:Row X ga oa A
 rowB:Row X gb ob B
 cellsA:∃ cs t f,X.heap[ga]? = some (.cells cs t f)
 cellsB:∃ cs t f,X.heap[gb]? = some (.cells cs t f)
 free:Free L X S∧Free L X ga∧Free L X gb
 far:(W.heap.size≤S∧W.heap.size≤ga∧W.heap.size≤gb)∧S ≠ ga∧S ≠ gb
 lens:(A.length≤ca∧ca≤9223372036854775807)∧B.length≤cb∧cb≤9223372036854775807
 small:(∀ x,x ∈ A→Wp x)∧∀ x,x ∈ B→Wp x
 size:W.heap.size≤X.heap.size
theorem row_block {X Y:World} {g o:Nat} {l:List Pt} (h:Row X g o l) (e:Y.heap[g]? = X.heap[g]?) (hs:X.heap.size≤Y.heap.size):Row Y g o l :=
 ⟨Nat.lt_of_lt_of_le h.1 hs,fun i hi => ⟨(cell_of_block e).trans (h.2 i hi).1,(cell_of_block e).trans (h.2 i hi).2⟩⟩
theorem Mst.step {W:World} {L C S ga gb:Nat} {p q:List Pt} {J:List Pt→World→Prop} {pre A B:List Pt} {oa ca ob cb:Nat} {X:World} (m:Mst W L C S ga gb p q J pre A B oa ca ob cb X) (hL:L < W.heap.size) (hC:C < W.heap.size)
  (hJ:Sq.Bears W.heap.size (Free L) J) {s:Pt} {A' B':List Pt} {oa' ca' ob' cb':Nat} {X1:World} (e:mg A B=s :: mg A' B')
  (hA:Row X ga oa' A'∧A'.length≤ca'∧ca'≤ca∧∀ x,x ∈ A'→x ∈ A) (hB:Row X gb ob' B'∧B'.length≤cb'∧cb'≤cb∧∀ x,x ∈ B'→x ∈ B) (g:Grew X X1) :
  J pre ((X1.setCell ⟨S,0,none⟩ (.int .i64 s.1)).setCell ⟨S,1,none⟩ (.int .i64 s.2))∧Blk ((X1.setCell ⟨S,0,none⟩ (.int .i64 s.1)).setCell ⟨S,1,none⟩ (.int .i64 s.2)) S #[.int .i64 s.1,.int .i64 s.2] 24∧(∃ t,mg (rs p 0 p.length) (rs q 0 q.length)=pre ++ s :: t) ∧
  ∀ Y,J (pre ++ [s]) Y→Kpm L C ((X1.setCell ⟨S,0,none⟩ (.int .i64 s.1)).setCell ⟨S,1,none⟩ (.int .i64 s.2)) Y→Mst W L C S ga gb p q J (pre ++ [s]) A' B' oa' ca' ob' cb' Y:=by
 obtain ⟨s0,hs0⟩:=m.side
 have b1:=hs0.grown g
 have b2:Blk ((X1.setCell ⟨S,0,none⟩ (.int .i64 s.1)).setCell ⟨S,1,none⟩ (.int .i64 s.2)) S #[.int .i64 s.1,.int .i64 s.2] 24:=b1.put2
 obtain ⟨⟨f1,f2,f3⟩,n1,n2⟩:=m.far
 obtain ⟨e1,e2,e3⟩:=m.free
 have gs:=m.size
 have gg:=g.size
 have hLX:X1.heap[L]? = X.heap[L]?:=g.block L (by omega)
 have other:∀ k,k ≠ S→((X1.setCell ⟨S,0,none⟩ (.int .i64 s.1)).setCell ⟨S,1,none⟩ (.int .i64 s.2)).heap[k]? = X1.heap[k]?:=fun k hk => (Below.heap_setCell _ _ _ k hk).trans (Below.heap_setCell _ _ _ k hk)
 have sz:((X1.setCell ⟨S,0,none⟩ (.int .i64 s.1)).setCell ⟨S,1,none⟩ (.int .i64 s.2)).heap.size=X1.heap.size:=by simp [World.setCell]
 have fr:∀ k,Free L X k→Free L ((X1.setCell ⟨S,0,none⟩ (.int .i64 s.1)).setCell ⟨S,1,none⟩ (.int .i64 s.2)) k:=fun k h => (h.same hLX).same (other L (by omega))
 have j1:J pre X1:=hJ pre X X1 none m.j (grew_grown g) (fun _ e => by cases e)
 have j2:J pre (X1.setCell ⟨S,0,none⟩ (.int .i64 s.1)):=hJ pre X1 _ (some S) j1 (grownBy_setCell X1 S 0 _) (fun r e => by cases e;exact ⟨f1,_,b1,Or.inr ⟨rfl,e1.same hLX⟩⟩)
 have j3:J pre ((X1.setCell ⟨S,0,none⟩ (.int .i64 s.1)).setCell ⟨S,1,none⟩ (.int .i64 s.2)):=hJ pre _ _ (some S) j2 (grownBy_setCell _ S 1 _) (fun r e => by
  cases e
  exact ⟨f1,_,b1.set (o:=0) _,Or.inr ⟨rfl,(e1.same hLX).same (Below.heap_setCell _ _ _ L (show L ≠ S by omega))⟩⟩)
 generalize ((X1.setCell ⟨S,0,none⟩ (.int .i64 s.1)).setCell ⟨S,1,none⟩ (.int .i64 s.2))=Z at *
 refine ⟨j3,b2,?_,fun Y hj k => ?_⟩
 ·exact ⟨_,by rw [m.list,e]⟩
 ·have keep:∀ i cs t f,Z.heap[i]? = some (.cells cs t f)→W.heap.size≤i→Free L Z i→Y.heap[i]? = Z.heap[i]?:=fun i cs t f h h1 h2 => (k.same i cs t f h (by omega) (by omega) h2).trans h.symm
  obtain ⟨ca1,ta,fa,za⟩:=m.cellsA
  obtain ⟨cb1,tb,fb,zb⟩:=m.cellsB
  have za1:Z.heap[ga]? = some (.cells ca1 ta fa):=(other ga (Ne.symm n1)).trans ((g.block ga hA.1.1).trans za)
  have zb1:Z.heap[gb]? = some (.cells cb1 tb fb):=(other gb (Ne.symm n2)).trans ((g.block gb hB.1.1).trans zb)
  have ya:=keep ga _ _ _ za1 f2 (fr _ e2)
  have yb:=keep gb _ _ _ zb1 f3 (fr _ e3)
  have ys:=keep S _ _ _ b2 f1 (fr _ e1)
  have kz:=k.size
  refine ⟨by rw [m.list,e,List.append_assoc];rfl,hj,⟨s,ys.trans b2⟩,row_block hA.1 (ya.trans (za1.trans za.symm)) (by omega),row_block hB.1 (yb.trans (zb1.trans zb.symm)) (by omega),⟨_,_,_,ya.trans za1⟩,⟨_,_,_,yb.trans zb1⟩,?_,m.far,?_,?_,by omega⟩
  ·exact ⟨k.list _ b2.lt (fr _ e1),k.list _ (Array.getElem?_eq_some_iff.1 za1).1 (fr _ e2),k.list _ (Array.getElem?_eq_some_iff.1 zb1).1 (fr _ e3)⟩
  ·obtain ⟨⟨l1,l2⟩,l3,l4⟩:=m.lens
   exact ⟨⟨hA.2.1,by have:=hA.2.2.1;omega⟩,hB.2.1,by have:=hB.2.2.1;omega⟩
  ·exact ⟨fun x hx => m.small.1 x (hA.2.2.2 x hx),fun x hx => m.small.2 x (hB.2.2.2 x hx)⟩
end Mk
end Go.Proofs.YtbpgfenippiepaaGreatDoor
namespace Go.Proofs.YtbpgfenippiepaaGreatDoor
open Go.RowKit Go.Shelf Hl
attribute [local go_sem] Oper.semAt_some
namespace Mk
theorem plc_mem {p:List Pt} (hp:Plcs p) {x:Pt} (hx:x ∈ p):Plc x:=by
 obtain ⟨i,hi,rfl⟩:=mem_at hx
 exact hp i hi
theorem Kpm.alloc {L C:Nat} {X Y:World} (h:Kpm L C X Y) (hL:L < X.heap.size) (o:Obj):Kpm L C X (Y.alloc o):=by
 have g:=World.grownBy_alloc Y o none
 refine h.trans ⟨g.size,fun k cs t f e _ _ _ => (g.block k (Array.getElem?_eq_some_iff.1 e).1 (by simp)).trans e,fun k _ fr => fr.same (g.block L (Nat.lt_of_lt_of_le hL h.size) (by simp))⟩
theorem Kpm.grown {L C:Nat} {X Y:World} {v:Value} (hL:L < X.heap.size) (hc:X.cell? ⟨L,0,none⟩=some v) (hn:v.ownBlock ≠ some L) (g:X.grownBy Y v.ownBlock):Kpm L C X Y :=
 ⟨g.size,fun k cs t f e _ _ fr => (g.block k (Array.getElem?_eq_some_iff.1 e).1 (fun e2 => by have:=fr v k hc e2.symm;omega)).trans e,fun k _ fr => fr.same (g.block L hL (fun e => hn e.symm))⟩
end Mk
end Go.Proofs.YtbpgfenippiepaaGreatDoor
namespace Go.Proofs.YtbpgfenippiepaaGreatDoor
open Go.RowKit Go.Shelf Hl
namespace Mk
def PlacedSays (s:List Pt) (v:Value) (w:World) (e:Ending) (w':World):Prop:=(Vl s∧e=.returned (.tuple #[v,.int .i64 0])∧Grew w w')∨(¬ Vl s∧Empty 3 w e w')
theorem placed_c (s:List Pt) (v:Value) (w:World) (hs:Sl w v s) (hl:s.length≤9223372036854775807):Calls Tryz.prog 62 #[v] w (PlacedSays s v w):=by
 have HS:=Lib.hid hs
 have HL:=Lib.hid hl
 clear hs hl
 by_cases hv:Vl s
 ·have V:=Lib.hid hv
  clear hv
  go_enter Tryz.func62,Tryz.ntmps62
  go_wp2_with fail
  refine ((Hl.landed.valid s v _ HS.out HL.out).mono fun _ _ t => t.to V.out).mono ?_
  rintro e w1 ⟨rfl,G1⟩
  go_wp2_with fail
  go_ret2
  exact Or.inl ⟨V.out,rfl,G1⟩
 ·have V:=Lib.hid hv
  clear hv
  go_enter Tryz.func62,Tryz.ntmps62
  go_wp2_with fail
  refine ((Hl.landed.valid s v _ HS.out HL.out).mono fun _ _ t => t.un V.out).mono ?_
  rintro e w1 ⟨rfl,G1⟩
  go_wp2_with fail
  go_ret2
  exact Or.inr ⟨V.out,_,rfl,Or.inl ⟨rfl,none,0,rfl⟩,G1⟩
end Mk
end Go.Proofs.YtbpgfenippiepaaGreatDoor
