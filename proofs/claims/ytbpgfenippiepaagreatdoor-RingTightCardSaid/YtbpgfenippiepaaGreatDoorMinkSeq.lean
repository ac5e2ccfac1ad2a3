/-
  A range over an iterator that stores into cells of its own, with a body that never leaves early.
  The landed package mink: the sides of a polygon, collected.
  The landed merged: an iterator with a cell of its own.
  The landed merged: its contract.
-/
import Derived.RangeFuncNested
import Derived.Test.YtbpgfenippiepaaGreatDoorRows
import Derived.Test.YtbpgfenippiepaaGreatDoorMinkLnA
import Derived.Test.YtbpgfenippiepaaGreatDoorHullLay
import Derived.Test.YtbpgfenippiepaaGreatDoorMinkHul
import Derived.Sort.CutIn
namespace Go.Proofs.YtbpgfenippiepaaGreatDoor
open Go.RowKit
namespace Sq
variable {F:Fence} {n:Nat} {P:Program} {α:Type}
def Bears (B:Nat) (Fr:World→Nat→Prop) (J:List α→World→Prop):Prop :=
 ∀ s X Y row,J s X→X.grownBy Y row→(∀ r,row=some r→B≤r∧∃ o:Obj,X.heap[r]? = some o∧(o.isWalk=true∨o.isCells=true∧Fr X r))→J s Y
def Runs (F:Fence) (n:Nat) (P:Program) (g:Nat) (lb:Array Value) (encs:α→Array Value) (Fr:World→Nat→Prop) (Kp:World→World→Prop) (Ok:List α→α→Prop) (S:List α→Prop) (w:World):Prop :=
 ∀ (l:Nat) (J:List α→World→Prop) (W:World),Below w.heap.size w W→Bears W.heap.size Fr J →
   (∀ pre x X,J pre X→Ok pre x→YieldAt F (n - 1) P l (encs x) X fun e Y => e=.returned (.bool true)∧J (pre ++ [x]) Y∧Kp X Y) →
   J [] W→CallsIn F n P g (#[.func (.yield l) #[] #[]] ++ lb) W fun e Y => (∃ v,e=.returned v)∧∃ xs,S xs∧J xs Y
structure Book (D:Nat) (r:Loop) (W:World):Prop where
 defs:W.heap[D]? = some (.deferred (some []))
 loop:W.heap[D+1]? = some (.loop r)
theorem Book.lt {D:Nat} {r:Loop} {W:World} (h:Book D r W):D+1 < W.heap.size:=(Array.getElem?_eq_some_iff.1 h.loop).1
theorem Book.from {D B:Nat} {r:Loop} {X Y:World} (h:Book D r X) (k:KeepsFrom B X Y) (hB:B≤D):Book D r Y:=⟨k.same _ _ hB h.defs rfl,k.same _ _ (by omega) h.loop rfl⟩
theorem Book.put {D:Nat} {r:Loop} {X:World} (h:Book D r X) (q:Loop):Book D q (X.putObj (D+1) (.loop q)):=⟨(World.putObj_heap_other (by omega)).trans h.defs,World.putObj_heap_same h.lt⟩
theorem Book.grown {D:Nat} {r:Loop} {X Y:World} {row:Option Nat} (h:Book D r X) (g:X.grownBy Y row) (hr:∀ k,row=some k→∃ o:Obj,X.heap[k]? = some o∧(o.isWalk=true∨o.isCells=true)):Book D r Y:=by
 have ne:∀ {k:Nat} {o:Obj},X.heap[k]? = some o→o.isWalk=false→o.isCells=false→Y.heap[k]? = some o:=fun {k o} ho hw hc => by
  refine (g.block k (Array.getElem?_eq_some_iff.1 ho).1 fun e => ?_).trans ho
  obtain ⟨o',ho',h'⟩:=hr k e.symm
  rw [ho] at ho'
  cases ho'
  rcases h' with h' | h'
  ·rw [hw] at h';cases h'
  ·rw [hc] at h';cases h'
 exact ⟨ne h.defs rfl rfl,ne h.loop rfl rfl⟩
theorem range_runs {g:Operand} {ps:Array Tmp} {assign body:Code} {Q:Exit→Act→World→Prop} {a:Act} {w:World}
  (hro:F.round=none) (h1:1≤n) {gf:Nat} {lb:Array Value} (hg:a.eval g=.func (.func gf) #[] lb) (hFg:F.fn gf) (eg:∀ args w,(callFunc gf args).run P w=.ok (.enter gf args) w)
  {encs:α→Array Value} {Fr:World→Nat→Prop} {Kp:World→World→Prop} {Ok:List α→α→Prop} {S:List α→Prop} {w0:World} (hseq:Runs F (n - 1) P gf lb encs Fr Kp Ok S w0)
  (hKt:∀ {X Y Z:World},Kp X Y→Kp Y Z→Kp X Z) (hKb:∀ (W:World) (l:Nat) (o o':Obj),w.heap.size≤l→W.heap[l]? = some o→o.isCells=false→Kp W (W.putObj l o')) (hb0:Below w0.heap.size w0 w) (hps:∀ x,(encs x).size=ps.size)
  (I:List α→World→Prop) (hI:∀ s X Y row,I s X→X.grownBy Y row→(∀ r,row=some r→w.heap.size≤r∧∃ o:Obj,X.heap[r]? = some o∧(o.isCells=false∨Fr X r))→I s Y) (h0:I [] w)
  (Ax:α→Act→World→Prop) (hAx:∀ x a' X l o o',w.heap.size≤l→X.heap[l]? = some o→o.isCells=false→Ax x a' X→Ax x a' (X.putObj l o'))
  (hassign:∀ (l:Nat) (pre:List α) (x:α) (W:World) (K:Act→World→Prop),I pre W→(∀ a' Y,KeepsFrom w.heap.size W Y→Kp W Y→I pre Y→Ax x a' Y→K a' Y) →
   assign.wpIn (F.inRound l) (n - 1 - 1) P (Exit.then K (fun _ _ _ => False)) { tmps:=(ps.zip (encs x)).foldl (fun t (p,v) => t.setIfInBounds p v) a.tmps,defers:=[] } W)
  (hbody:∀ (l:Nat) (pre:List α) (x:α) (a':Act) (W:World),I pre W→Ax x a' W→Ok pre x →
   body.wpIn (F.inRound l) (n - 1 - 1) P (Exit.then (fun _ Y => KeepsFrom w.heap.size W Y∧Kp W Y∧I (pre ++ [x]) Y) (fun _ _ _ => False)) a' W)
  (hdone:∀ (D:Nat) (xs:List α) (W:World),w.heap.size≤D→S xs→I xs W→W.heap[D]? = some (.deferred (some []))→Q .normal { a with defers:={ target:=.collected D,args:=#[] } :: a.defers } W) :
  (Code.rangeFunc g ps assign body).wpIn F n P Q a w:=by
 have Iput:∀ {s:List α} {X:World} {r:Loop} (q:Loop),Book w.heap.size r X→I s X→I s (X.putObj (w.heap.size+1) (.loop q)):=fun {s X r} q b h =>
  hI s X _ (some (w.heap.size+1)) h (grownBy_putObj' X _ _) (fun k e => by cases e;exact ⟨by omega,_,b.loop,Or.inl rfl⟩)
 refine wpIn_rangeFunc fun fn hfn => ?_
 rw [hro]
 obtain ⟨q,hq⟩:∃ q:LoopState→Loop,q=fun st => { state:=st,pending:=none,fn,tmps:=a.tmps,params:=ps,assign,body,defers:=w.heap.size }:=⟨_,rfl⟩
 obtain ⟨W1,hW1⟩:∃ W1,(w.alloc (.deferred (some []))).alloc (.loop (q .ready))=W1:=⟨_,rfl⟩
 have gW:w.grownBy W1 none:=by
  rw [← hW1]
  exact ⟨rfl,rfl,rfl,by simp;omega,fun k hk _ => (Below.heap_alloc _ _ k (by simp;omega)).trans (Below.heap_alloc _ _ k hk)⟩
 have b1:Book w.heap.size (q .ready) W1:=by
  rw [← hW1]
  refine ⟨(Below.heap_alloc _ _ _ (by simp)).trans (World.alloc_heap_new w _),?_⟩
  have:=World.alloc_heap_new (w.alloc (.deferred (some []))) (.loop (q .ready))
  rwa [World.size_alloc] at this
 have iW:I [] W1:=hI [] w W1 none h0 gW (fun _ e => by cases e)
 refine ⟨w.heap.size+1,[{ target:=.collected w.heap.size,args:=#[] }],W1,{ target:=.fn (.func gf) lb,args:=#[.func (.yield (w.heap.size+1)) #[] #[]] },W1,gf,
  #[.func (.yield (w.heap.size+1)) #[] #[]] ++ lb,W1,?_,?_,?_,?_,fun _ => h1,?_⟩
 ·rw [← hW1,hq]
  exact run_enterLoop_outer _ _ _ _ _
 ·simp only [resolve,hg]
  simp [go_sem]
 ·intro f' hf'
  simp [Target.leads] at hf'
  subst hf'
  exact hFg
 ·simp [invoke,go_sem,eg]
 ·refine (hseq (w.heap.size+1) (fun pre W => I pre W∧Book w.heap.size (q .ready) W) W1 (hb0.trans ((Below.refl w.heap.size w).grown gW (Nat.le_refl _) (fun _ e => by cases e) |>.mono hb0.size)) ?_ ?_ ⟨iW,b1⟩).mono ?_
  ·-- what the loop's owner says stays through the iterator's steps
   rintro s X Y row ⟨hi,hb⟩ hgr hr
   have sz:w.heap.size≤W1.heap.size:=gW.size
   refine ⟨hI s X Y row hi hgr (fun r e => ?_),hb.grown hgr (fun r e => ?_)⟩
   ·obtain ⟨h2,o,ho,h3⟩:=hr r e
    exact ⟨Nat.le_trans sz h2,o,ho,h3.elim (fun k => Or.inl (Obj.not_cells_of_walk k)) (fun k => Or.inr k.2)⟩
   ·obtain ⟨_,o,ho,h3⟩:=hr r e
    exact ⟨o,ho,h3.imp id (fun k => k.1)⟩
  ·-- one round
   rintro pre x W ⟨hi,hb⟩ hlen
   have hy:=run_yield (P:=P) (args:=encs x) hb.loop (by rw [hq];exact hps x)
   rw [hq] at hy
   refine ⟨fn,_,assign,body,hy,roundIn_of_wpIn hfn (hassign _ pre x W _ hi fun a' Wa hkf hkp hia hax => ?_)⟩
   have hba:=hb.from hkf (Nat.le_refl _)
   have hb2:=hba.put (q .busy)
   refine ⟨Wa.putObj (w.heap.size+1) (.loop (q .busy)),?_,wpIn_mono (hbody _ pre x a' _ (Iput _ hba hia) (hAx x a' _ _ _ _ (by omega) hba.loop rfl hax) hlen) ?_⟩
   ·have:=run_beginRound (P:=P) hba.loop (by rw [hq])
    rw [hq] at this ⊢
    exact this
   ·rintro e a3 W3 hp
    cases e with
    | normal =>
      obtain ⟨hk3,hp3,hi3⟩:=hp
      have hb3:=hb2.from hk3 (Nat.le_refl _)
      refine ⟨.bool true,W3.putObj (w.heap.size+1) (.loop (q .ready)),?_,rfl,⟨Iput _ hb3 hi3,hb3.put _⟩,hKt hkp (hKt (hKb _ _ _ _ (by omega) hba.loop rfl) (hKt hp3 (hKb _ _ _ _ (by omega) hb3.loop rfl)))⟩
      have:=run_endRound (P:=P) none hb3.loop
      rw [hq] at this ⊢
      exact this
    | _ => exact hp.elim
  ·-- behind the iterator
   rintro e W2 ⟨⟨v,rfl⟩,xs,hS,hi,hb⟩
   refine ⟨none,_,?_,hdone _ xs _ (Nat.le_refl _) hS (Iput (q .exhausted) hb hi) ((World.putObj_heap_other (by omega)).trans hb.defs)⟩
   have:=run_endLoop (P:=P) hb.loop (by rw [hq];simp)
   rw [hq] at this ⊢
   exact this
end Sq
end Go.Proofs.YtbpgfenippiepaaGreatDoor
namespace Go.Proofs.YtbpgfenippiepaaGreatDoor
open Go.RowKit Go.Shelf Hl
namespace Mk
def Lies (n0:Nat) (w:World) (g cp:Nat) (l:List Pt):Prop:=OwnAt n0 w g cp l
set_option maxRecDepth 100000 in
set_option maxHeartbeats 4000000 in
theorem collect_in (n:Nat) (hn:6≤n) (B b o c:Nat) (p:List Pt) (hpl:Plcs p) (h1:1≤p.length) (h2:p.length≤64) (w:World) (hB:B < w.heap.size)
  (hc:w.cell? ⟨B,0,none⟩=some (.slice (some ⟨b,o,none⟩) p.length c)) (hr:Row w b o p) :
  CallsIn Fence.wide n Tryz.prog 172 #[.func (.func 199) #[] #[.pointer (some ⟨B,0,none⟩)]] w fun e w' => ∃ g cp,e=.returned (.slice (some ⟨g,0,none⟩) p.length cp)∧OwnAt w.heap.size w' g cp (rs p 0 p.length)∧Grew w w':=by
 have hbl:=hr.1
 have hn2:1≤n - 1 - 1:=by omega
 have hs:=sides_stops (n - 1 - 1) hn2 B b o c p hpl h1 (by omega) w hB hc hr
 have eg:∀ args W,(callFunc 199 args).run Tryz.prog W=.ok (.enter 199 args) W:=enters_of Tryz.func199 (by kernel_rfl) rfl
 have AC:=Lib.hid ((aseq_in (n - 1) (by omega) 199 #[.pointer (some ⟨B,0,none⟩)] eg b B p.length (fun ys => ys=rs p 0 p.length) (fun pre => ∃ k,k≤p.length∧pre=(rs p 0 p.length).take k) (by omega) (fun ys e => (by rw [e,rs_len];exact Nat.le_refl _)) w hbl hB hs).mono (R':=fun e w' => ∃ g cp,e=.returned (.slice (some ⟨g,0,none⟩) p.length cp)∧OwnAt w.heap.size w' g cp (rs p 0 p.length)∧Grew w w') (by
  rintro e w' ⟨v,ys,rfl,rfl,hw,g⟩
  obtain ⟨g0,cp,rfl,ho⟩:=hw.at (fun e => by have h0:=congrArg List.length e;rw [rs_len] at h0;have h0:p.length=0:=h0;omega)
  rw [rs_len]
  exact ⟨g0,cp,rfl,ho,g⟩))
 clear hs hr hc hpl
 refine callsIn_of_wp Tryz.func172 rfl trivial ?_ rfl
 simp only [Tryz.ntmps172,List.size_toArray,List.length_cons,List.length_nil,Nat.reduceAdd,Nat.reduceSub,Array.replicate_succ,Array.replicate_zero,List.push_toArray,List.append_toArray,List.nil_append,List.cons_append]
 gi_wp2_with fail
 refine ⟨trivial,(fun h => by cases h),AC.out.mono ?_⟩
 rintro e w1 ⟨g,cp,rfl,ho,G⟩
 have HO:=Lib.hid ho
 clear ho
 gi_wp2_with fail
 go_ret
 exact ⟨g,cp,rfl,HO.out,G⟩
end Mk
end Go.Proofs.YtbpgfenippiepaaGreatDoor
namespace Go.Proofs.YtbpgfenippiepaaGreatDoor
open Go.RowKit Go.Shelf Hl
attribute [local go_sem] Oper.semAt_some
namespace Mk
def Free (L:Nat) (X:World) (k:Nat):Prop:=∀ v g,X.cell? ⟨L,0,none⟩=some v→v.ownBlock=some g→k < g
structure Kpm (L C:Nat) (X Y:World):Prop where
 size:X.heap.size≤Y.heap.size
 same:∀ k cs t f,X.heap[k]? = some (.cells cs t f)→k ≠ L→k ≠ C→Free L X k→Y.heap[k]? = some (.cells cs t f)
 list:∀ k,k < X.heap.size→Free L X k→Free L Y k
theorem Kpm.refl (L C:Nat) (X:World):Kpm L C X X:=⟨Nat.le_refl _,fun _ _ _ _ h _ _ _ => h,fun _ _ h => h⟩
theorem Kpm.trans {L C:Nat} {X Y Z:World} (h:Kpm L C X Y) (k:Kpm L C Y Z):Kpm L C X Z :=
 ⟨Nat.le_trans h.size k.size,fun i cs t f e h1 h2 h3 => k.same i cs t f (h.same i cs t f e h1 h2 h3) h1 h2 (h.list i (Array.getElem?_eq_some_iff.1 e).1 h3),fun i e h3 => k.list i (Nat.lt_of_lt_of_le e h.size) (h.list i e h3)⟩
theorem cell_of_block {X Y:World} {k o:Nat} (h:Y.heap[k]? = X.heap[k]?):Y.cell? ⟨k,o,none⟩=X.cell? ⟨k,o,none⟩:=World.cell?_of_block (a:=⟨k,o,none⟩) h
theorem Free.same {L k:Nat} {X Y:World} (h:Free L X k) (e:Y.heap[L]? = X.heap[L]?):Free L Y k:=fun v g hv hg => h v g (by rw [← cell_of_block e];exact hv) hg
theorem Kpm.put {L C:Nat} {w:World} (hL:L < w.heap.size) (W:World) (l:Nat) (o o':Obj) (hl:w.heap.size≤l) (h:W.heap[l]? = some o) (hc:o.isCells=false):Kpm L C W (W.putObj l o'):=by
 have g:=grownBy_putObj' W l o'
 refine ⟨g.size,fun k cs t f e _ _ _ => ?_,fun k _ f => f.same (World.putObj_heap_other (by omega))⟩
 refine (World.putObj_heap_other fun e2 => ?_).trans e
 subst e2
 rw [e] at h
 cases h
 cases hc
theorem grew_grown {X Y:World} (h:Grew X Y):X.grownBy Y none:=⟨h.os,h.tape,h.output,h.size,fun k hk _ => h.block k hk⟩
structure Mst (W:World) (L C S ga gb:Nat) (p q:List Pt) (J:List Pt→World→Prop) (pre A B:List Pt) (oa ca ob cb:Nat) (X:World):Prop where
 list:mg (rs p 0 p.length) (rs q 0 q.length)=pre ++ mg A B
 j:J pre X
 side:∃ s:Pt,Blk X S #[.int .i64 s.1,.int .i64 s.2] 24
 rowA:Row X ga oa A
 rowB:Row X gb ob B
 cellsA:∃ cs t f,X.heap[ga]? = some (.cells cs t f)
 cellsB:∃ cs t f,X.heap[gb]? = some (.cells cs t f)
 free:Free L X S∧Free L X ga∧Free L X gb
 far:(W.heap.size≤S∧W.heap.size≤ga∧W.heap.size≤gb)∧S ≠ ga∧S ≠ gb
 lens:(A.length≤ca∧ca≤9223372036854775807)∧B.length≤cb∧cb≤9223372036854775807
 small:(∀ x,x ∈ A→Wp x)∧∀ x,x ∈ B→Wp x
 size:W.heap.size≤X.heap.size
theorem row_block {X Y:World} {g o:Nat} {l:List Pt} (h:Row X g o l) (e:Y.heap[g]? = X.heap[g]?) (hs:X.heap.size≤Y.heap.size):Row Y g o l :=
 ⟨Nat.lt_of_lt_of_le h.1 hs,fun i hi => ⟨(cell_of_block e).trans (h.2 i hi).1,(cell_of_block e).trans (h.2 i hi).2⟩⟩
theorem Mst.step {W:World} {L C S ga gb:Nat} {p q:List Pt} {J:List Pt→World→Prop} {pre A B:List Pt} {oa ca ob cb:Nat} {X:World} (m:Mst W L C S ga gb p q J pre A B oa ca ob cb X) (hL:L < W.heap.size) (hC:C < W.heap.size)
  (hJ:Sq.Bears W.heap.size (Free L) J) {s:Pt} {A' B':List Pt} {oa' ca' ob' cb':Nat} {X1:World} (e:mg A B=s :: mg A' B')
  (hA:Row X ga oa' A'∧A'.length≤ca'∧ca'≤ca∧∀ x,x ∈ A'→x ∈ A) (hB:Row X gb ob' B'∧B'.length≤cb'∧cb'≤cb∧∀ x,x ∈ B'→x ∈ B) (g:Grew X X1) :
  J pre ((X1.setCell ⟨S,0,none⟩ (.int .i64 s.1)).setCell ⟨S,1,none⟩ (.int .i64 s.2))∧Blk ((X1.setCell ⟨S,0,none⟩ (.int .i64 s.1)).setCell ⟨S,1,none⟩ (.int .i64 s.2)) S #[.int .i64 s.1,.int .i64 s.2] 24∧(∃ t,mg (rs p 0 p.length) (rs q 0 q.length)=pre ++ s :: t) ∧
  ∀ Y,J (pre ++ [s]) Y→Kpm L C ((X1.setCell ⟨S,0,none⟩ (.int .i64 s.1)).setCell ⟨S,1,none⟩ (.int .i64 s.2)) Y→Mst W L C S ga gb p q J (pre ++ [s]) A' B' oa' ca' ob' cb' Y:=by
 obtain ⟨s0,hs0⟩:=m.side
 have b1:=hs0.grown g
 have b2:Blk ((X1.setCell ⟨S,0,none⟩ (.int .i64 s.1)).setCell ⟨S,1,none⟩ (.int .i64 s.2)) S #[.int .i64 s.1,.int .i64 s.2] 24:=b1.put2
 obtain ⟨⟨f1,f2,f3⟩,n1,n2⟩:=m.far
 obtain ⟨e1,e2,e3⟩:=m.free
 have gs:=m.size
 have gg:=g.size
 have hLX:X1.heap[L]? = X.heap[L]?:=g.block L (by omega)
 have other:∀ k,k ≠ S→((X1.setCell ⟨S,0,none⟩ (.int .i64 s.1)).setCell ⟨S,1,none⟩ (.int .i64 s.2)).heap[k]? = X1.heap[k]?:=fun k hk => (Below.heap_setCell _ _ _ k hk).trans (Below.heap_setCell _ _ _ k hk)
 have sz:((X1.setCell ⟨S,0,none⟩ (.int .i64 s.1)).setCell ⟨S,1,none⟩ (.int .i64 s.2)).heap.size=X1.heap.size:=by simp [World.setCell]
 have fr:∀ k,Free L X k→Free L ((X1.setCell ⟨S,0,none⟩ (.int .i64 s.1)).setCell ⟨S,1,none⟩ (.int .i64 s.2)) k:=fun k h => (h.same hLX).same (other L (by omega))
 have j1:J pre X1:=hJ pre X X1 none m.j (grew_grown g) (fun _ e => by cases e)
 have j2:J pre (X1.setCell ⟨S,0,none⟩ (.int .i64 s.1)):=hJ pre X1 _ (some S) j1 (grownBy_setCell X1 S 0 _) (fun r e => by cases e;exact ⟨f1,_,b1,Or.inr ⟨rfl,e1.same hLX⟩⟩)
 have j3:J pre ((X1.setCell ⟨S,0,none⟩ (.int .i64 s.1)).setCell ⟨S,1,none⟩ (.int .i64 s.2)):=hJ pre _ _ (some S) j2 (grownBy_setCell _ S 1 _) (fun r e => by
  cases e
  exact ⟨f1,_,b1.set (o:=0) _,Or.inr ⟨rfl,(e1.same hLX).same (Below.heap_setCell _ _ _ L (show L ≠ S by omega))⟩⟩)
 generalize ((X1.setCell ⟨S,0,none⟩ (.int .i64 s.1)).setCell ⟨S,1,none⟩ (.int .i64 s.2))=Z at *
 refine ⟨j3,b2,?_,fun Y hj k => ?_⟩
 ·exact ⟨_,by rw [m.list,e]⟩
 ·have keep:∀ i cs t f,Z.heap[i]? = some (.cells cs t f)→W.heap.size≤i→Free L Z i→Y.heap[i]? = Z.heap[i]?:=fun i cs t f h h1 h2 => (k.same i cs t f h (by omega) (by omega) h2).trans h.symm
  obtain ⟨ca1,ta,fa,za⟩:=m.cellsA
  obtain ⟨cb1,tb,fb,zb⟩:=m.cellsB
  have za1:Z.heap[ga]? = some (.cells ca1 ta fa):=(other ga (Ne.symm n1)).trans ((g.block ga hA.1.1).trans za)
  have zb1:Z.heap[gb]? = some (.cells cb1 tb fb):=(other gb (Ne.symm n2)).trans ((g.block gb hB.1.1).trans zb)
  have ya:=keep ga _ _ _ za1 f2 (fr _ e2)
  have yb:=keep gb _ _ _ zb1 f3 (fr _ e3)
  have ys:=keep S _ _ _ b2 f1 (fr _ e1)
  have kz:=k.size
  refine ⟨by rw [m.list,e,List.append_assoc];rfl,hj,⟨s,ys.trans b2⟩,row_block hA.1 (ya.trans (za1.trans za.symm)) (by omega),row_block hB.1 (yb.trans (zb1.trans zb.symm)) (by omega),⟨_,_,_,ya.trans za1⟩,⟨_,_,_,yb.trans zb1⟩,?_,m.far,?_,?_,by omega⟩
  ·exact ⟨k.list _ b2.lt (fr _ e1),k.list _ (Array.getElem?_eq_some_iff.1 za1).1 (fr _ e2),k.list _ (Array.getElem?_eq_some_iff.1 zb1).1 (fr _ e3)⟩
  ·obtain ⟨⟨l1,l2⟩,l3,l4⟩:=m.lens
   exact ⟨⟨hA.2.1,by have:=hA.2.2.1;omega⟩,hB.2.1,by have:=hB.2.2.1;omega⟩
  ·exact ⟨fun x hx => m.small.1 x (hA.2.2.2 x hx),fun x hx => m.small.2 x (hB.2.2.2 x hx)⟩
end Mk
end Go.Proofs.YtbpgfenippiepaaGreatDoor
namespace Go.Proofs.YtbpgfenippiepaaGreatDoor
open Go.RowKit Go.Shelf Hl
attribute [local go_sem] Oper.semAt_some
namespace Mk
theorem merged_in (n:Nat) (a a':Option Addr) (l c l' c':Nat) (w:World) :
  CallsIn Fence.wide n Tryz.prog 133 #[.slice a l c,.slice a' l' c'] w fun e w' => e=.returned (.func (.func 171) #[] #[.pointer (some ⟨w.heap.size,0,none⟩),.pointer (some ⟨w.heap.size+1,0,none⟩)])∧w'=(w.alloc (.cells #[.slice a l c] 48)).alloc (.cells #[.slice a' l' c'] 48):=by
 refine callsIn_of_wp Tryz.func133 rfl trivial ?_ rfl
 simp only [Tryz.ntmps133,List.size_toArray,List.length_cons,List.length_nil,Nat.reduceAdd,Nat.reduceSub,Array.replicate_succ,Array.replicate_zero,List.push_toArray,List.append_toArray,List.nil_append,List.cons_append]
 gi_wp2
 go_ret
 exact ⟨rfl,rfl⟩
set_option maxRecDepth 100000 in
set_option maxHeartbeats 8000000 in
theorem merged1_in (n:Nat) (hn:8≤n) (l L C P Q b o c b' o' c':Nat) (p q:List Pt) (vp:Vl p) (vq:Vl q) (J:List Pt→World→Prop) (W:World) (hJ:Sq.Bears W.heap.size (Free L) J)
  (hY:∀ pre x X,J pre X→(∃ t,mg (rs p 0 p.length) (rs q 0 q.length)=pre ++ x :: t)→YieldAt Fence.wide (n - 1) Tryz.prog l (encA x) X fun e Y => e=.returned (.bool true)∧J (pre ++ [x]) Y∧Kpm L C X Y)
  (hL:L < W.heap.size) (hC:C < W.heap.size) (hLn:W.cell? ⟨L,0,none⟩=some (.slice none 0 0)) (hP:P < W.heap.size) (hQ:Q < W.heap.size)
  (hPc:W.cell? ⟨P,0,none⟩=some (.slice (some ⟨b,o,none⟩) p.length c)) (hQc:W.cell? ⟨Q,0,none⟩=some (.slice (some ⟨b',o',none⟩) q.length c')) (rp:Row W b o p) (rq:Row W b' o' q) (h0:J [] W) :
  CallsIn Fence.wide n Tryz.prog 171 #[.func (.yield l) #[] #[],.pointer (some ⟨P,0,none⟩),.pointer (some ⟨Q,0,none⟩)] W fun e W' => (∃ v,e=.returned v)∧∃ ys,ys=mg (rs p 0 p.length) (rs q 0 q.length)∧J ys W':=by
 have HY:=Lib.hid hY
 have HJ:=Lib.hid hJ
 have PC:=Lib.hid hPc
 have QC:=Lib.hid hQc
 have LC:=Lib.hid hLn
 have SC:Hid (∀ (k:Nat) (a:Option Addr) (m r:Nat) (X:World),CallsIn Fence.wide k Tryz.prog 173 #[.slice a m r] X fun e w' => e=.returned (.func (.func 199) #[] #[.pointer (some ⟨X.heap.size,0,none⟩)])∧X.alloc (.cells #[.slice a m r] 48)=w'):=Lib.hid (fun k a m r X => (sides_in k a m r X).mono fun e w' h => ⟨h.1,h.2.symm⟩)
 have KP:Hid (∀ (B:Nat) (X:World),Grew W X→B < X.heap.size→X.cell? ⟨B,0,none⟩=some (.slice (some ⟨b,o,none⟩) p.length c)→CallsIn Fence.wide (n - 1) Tryz.prog 172 #[.func (.func 199) #[] #[.pointer (some ⟨B,0,none⟩)]] X fun e w' => ∃ g cp,e=.returned (.slice (some ⟨g,0,none⟩) p.length cp)∧OwnAt X.heap.size w' g cp (rs p 0 p.length)∧Grew X w') :=
  Lib.hid (fun B X g hB hc => collect_in (n - 1) (by omega) B b o c p vp.2.1 vp.1.1 vp.1.2 X hB hc (rp.grown g))
 have KQ:Hid (∀ (B:Nat) (X:World),Grew W X→B < X.heap.size→X.cell? ⟨B,0,none⟩=some (.slice (some ⟨b',o',none⟩) q.length c')→CallsIn Fence.wide (n - 1) Tryz.prog 172 #[.func (.func 199) #[] #[.pointer (some ⟨B,0,none⟩)]] X fun e w' => ∃ g cp,e=.returned (.slice (some ⟨g,0,none⟩) q.length cp)∧OwnAt X.heap.size w' g cp (rs q 0 q.length)∧Grew X w') :=
  Lib.hid (fun B X g hB hc => collect_in (n - 1) (by omega) B b' o' c' q vq.2.1 vq.1.1 vq.1.2 X hB hc (rq.grown g))
 have p1:Hid (1≤p.length∧p.length≤64):=Lib.hid vp.1
 have q1:Hid (1≤q.length∧q.length≤64):=Lib.hid vq.1
 have WP:=Lib.hid (rs_wp vp.2.1 p.length)
 have WQ:=Lib.hid (rs_wp vq.2.1 q.length)
 have hmx:Tryz.prog.follows .mixedOrders=true:=by kernel_rfl
 have hLn':=Lib.hid hLn
 clear hY hJ vp vq rp rq hLn
 refine callsIn_of_wp Tryz.func171 rfl trivial ?_ rfl
 simp only [Tryz.ntmps171,List.size_toArray,List.length_cons,List.length_nil,Nat.reduceAdd,Nat.reduceSub,Array.replicate_succ,Array.replicate_zero,List.push_toArray,List.append_toArray,List.nil_append,List.cons_append]
 gi_wp2
 gi_cut [5,6] from 7 (fun s t X => ∃ ga ca gb cb,s=.slice (some ⟨ga,0,none⟩) p.length ca∧t=.slice (some ⟨gb,0,none⟩) q.length cb∧Hid (OwnAt (W.heap.size+1) X ga ca (rs p 0 p.length)∧OwnAt (W.heap.size+1) X gb cb (rs q 0 q.length)∧Grew (W.alloc (.cells #[.int .i64 0,.int .i64 0] 24)) X))
 case rest =>
  obtain ⟨ga,ca,gb,cb,rfl,rfl,hh⟩:=hcut
  have M0:Hid (Mst W L C W.heap.size ga gb p q J [] (rs p 0 p.length) (rs q 0 q.length) 0 ca 0 cb wc):=Lib.hid (by
   obtain ⟨ha,hb,G⟩:=hh.out
   have Gw:Grew W wc:=Grew.trans ((Grew.refl W).alloc _ _) G
   have fr:∀ k,Free L wc k:=fun k v g hv hg => by
    rw [Gw.cell hL,hLn'.out] at hv
    cases hv
    simp [Value.ownBlock] at hg
   have hA1:=ha.row
   have hB1:=hb.row
   obtain ⟨a1,a2,a3,cu,a4,_⟩:=ha
   obtain ⟨b1,b2,b3,cv,b4,_⟩:=hb
   unfold maxLen at a3 b3
   exact ⟨rfl,HJ.out [] W wc none h0 (grew_grown Gw) (fun _ e => by cases e),⟨(0,0),(Blk.new W _ _).grown G⟩,hA1,hB1,⟨_,_,_,a4⟩,⟨_,_,_,b4⟩,⟨fr _,fr _,fr _⟩,⟨⟨Nat.le_refl _,by omega,by omega⟩,by omega,by omega⟩,⟨⟨a2,a3⟩,b2,b3⟩,⟨WP.out,WQ.out⟩,Gw.size⟩)
  clear hh
  gi_wp2
  gi_loopw [5,6] (fun s t wr => ∃ pre A B oa ca ob cb,s=.slice (some ⟨ga,oa,none⟩) A.length ca∧t=.slice (some ⟨gb,ob,none⟩) B.length cb∧Hid (Mst W L C W.heap.size ga gb p q J pre A B oa ca ob cb wr)) (fun s t _ => lenV s+lenV t)
  case atStart => exact ⟨[],_,_,0,ca,0,cb,by rw [rs_len],by rw [rs_len],M0⟩
  case round =>
   clear M0
   obtain ⟨pre,A,B,oa,ca,ob,cb,rfl,rfl,m⟩:=hrel
   obtain ⟨na,hna⟩:∃ na,A.length=na:=⟨_,rfl⟩
   obtain ⟨nb,hnb⟩:∃ nb,B.length=nb:=⟨_,rfl⟩
   by_cases hne:A ≠ []∨B ≠ []
   ·have PULL:=Lib.hid ((callsIn_wide (n:=n - 1)).2 (pull_any A B ga oa ca gb ob cb wr m.out.rowA m.out.rowB m.out.lens.1.1 m.out.lens.2.1 m.out.lens.1.2 m.out.lens.2.2 m.out.small.1 m.out.small.2 hne))
    have LE:Hid (na=A.length∧nb=B.length):=Lib.hid ⟨hna.symm,hnb.symm⟩
    rw [hna,hnb] at PULL ⊢
    have key:(0:Int) < (na:Int)∨(na=0∧(0:Int) < (nb:Int)):=by
     rcases hne with h | h
     ·have:=List.length_pos_iff.2 h
      omega
     ·have:=List.length_pos_iff.2 h
      omega
    clear hne hna hnb
    rcases key with k1 | ⟨rfl,k1⟩
    all_goals
     gi_wp2_with fail
     refine ⟨trivial,(fun h => by cases h),PULL.out.mono ?_⟩
     rintro e w3 ⟨s,A',B',oa',ca',ob',cb',he,hlt,hA',hB',rfl,G⟩
     have hlt2:Hid (A'.length+B'.length < A.length+B.length):=Lib.hid hlt
     obtain ⟨jj,bb,hlen,nxt⟩:=m.out.step hL hC HJ.out he hA' hB' G
     obtain ⟨s0,hs0⟩:=m.out.side
     have b3:=hs0.grown G
     obtain ⟨⟨x0,x1⟩,x2,x3⟩:=b3.two
     have lS:=b3.lt
     obtain ⟨fn,tmps,asg,bd,hy,hR⟩:=HY.out pre s _ jj hlen
     have NX:=Lib.hid nxt
     have hR':=hR.mono (R':=fun e Y => e=.returned (.bool true)∧Hid (Mst W L C W.heap.size ga gb p q J (pre ++ [s]) A' B' oa' ca' ob' cb' Y)) (by
      rintro e Y ⟨rfl,h1,h2⟩
      exact ⟨rfl,Lib.hid (NX.out Y h1 h2)⟩)
     clear hR jj bb hlen nxt NX he hlt hA' hB' G b3 hs0 PULL
     unfold encA at hy
     gi_wp2
     refine ⟨(fun h => by cases h),hR'.mono ?_⟩
     rintro e Y ⟨rfl,mm⟩
     gi_wp2
     go_roundw
     case rel => exact ⟨_,A',B',oa',ca',ob',cb',rfl,rfl,mm⟩
     case measure => simp [lenV];have:=hlt2.out;have:=LE.out;omega
   ·have eA:A=[]:=Classical.byContradiction fun h => hne (Or.inl h)
    have eB:B=[]:=Classical.byContradiction fun h => hne (Or.inr h)
    subst eA
    subst eB
    have ex:Hid (∃ ys,ys=mg (rs p 0 p.length) (rs q 0 q.length)∧J ys wr):=Lib.hid ⟨_,m.out.list.symm.trans rfl,by
     rw [mg_nil_l,List.append_nil]
     exact m.out.j⟩
    clear hne hna hnb
    simp only [List.length_nil]
    gi_wp2
    go_end0
    exact ⟨⟨_,rfl⟩,ex.out⟩
 all_goals
  gi_region_with_o (first
   | (refine ⟨trivial,(fun h => by cases h),(SC.out _ _ _ _ _).mono ?_⟩;rintro e w' ⟨rfl,rfl⟩)
   | (refine ⟨trivial,(fun h => by cases h),(KP.out _ _ (by repeat' (first | (with_reducible assumption) | (with_reducible exact Grew.refl _) | (with_reducible refine Grew.alloc ?_ _ _) | (with_reducible refine Grew.drew ?_))) (by simp;try omega) (by simp [go_sem])).mono ?_⟩;rintro e w2 ⟨ga,ca,rfl,hoa,Ga⟩;have hq2:w2.cell? ⟨Q,0,none⟩=some (.slice (some ⟨b',o',none⟩) q.length c'):=(by rw [Ga.cell (by simp;omega)];simp [go_sem,hQc,hQ,Nat.lt_succ_of_lt hQ]);have GW2:Grew W w2:=Grew.trans (by repeat' (first | (with_reducible assumption) | (with_reducible exact Grew.refl _) | (with_reducible refine Grew.alloc ?_ _ _) | (with_reducible refine Grew.drew ?_))) Ga;have GA2:Grew (W.alloc (.cells #[.int .i64 0,.int .i64 0] 24)) w2:=Grew.trans (by repeat' (first | (with_reducible assumption) | (with_reducible exact Grew.refl _) | (with_reducible refine Grew.alloc ?_ _ _) | (with_reducible refine Grew.drew ?_))) Ga;have hoa2:=Lib.hid (hoa.mono (B':=W.heap.size+1) (by simp));clear hoa)
   | (refine ⟨trivial,(fun h => by cases h),(KQ.out _ _ (by repeat' (first | (with_reducible assumption) | (with_reducible exact Grew.refl _) | (with_reducible refine Grew.alloc ?_ _ _) | (with_reducible refine Grew.drew ?_))) (by simp;try omega) (by simp [go_sem])).mono ?_⟩;rintro e w4 ⟨gb,cb,rfl,hob,Gb⟩;have G24:Grew w2 w4:=Grew.trans (by repeat' (first | (with_reducible assumption) | (with_reducible exact Grew.refl _) | (with_reducible refine Grew.alloc ?_ _ _) | (with_reducible refine Grew.drew ?_))) Gb;have hob2:=Lib.hid (hob.mono (B':=W.heap.size+1) (by have:=GA2.size;simp at this ⊢;omega));clear hob))
 all_goals gi_wp2
 all_goals gi_meet
 all_goals exact ⟨ga,ca,gb,cb,rfl,rfl,Lib.hid ⟨hoa2.out.grew G24,hob2.out,Grew.trans GA2 G24⟩⟩
end Mk
end Go.Proofs.YtbpgfenippiepaaGreatDoor
