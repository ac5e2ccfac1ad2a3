/-
  The landed package region: whether a piece lies within another one.
  The landed package region: slices of pieces that are the call's own.
  The landed package region: the first of some pieces, what is deleted of them.
-/
import Derived.Test.YtbpgfenippiepaaGreatDoorRegB
import Derived.Test.YtbpgfenippiepaaGreatDoorCutCi
import Derived.Test.YtbpgfenippiepaaGreatDoorHullChain
namespace Go.Proofs.YtbpgfenippiepaaGreatDoor
open Go.RowKit Go.Shelf Hl
namespace Rg
theorem contains_p (f:Nat) (cb:Array Value) (eg:∀ args w,(callFunc f args).run Tryz.prog w=.ok (.enter f args) w) (d:Pt→Bool) (p:List Pt) (v:Value) (w:World) (hs:Sl w v p) (hp:Vl p)
  (hC:∀ x W,x ∈ p→Grew w W→Calls Tryz.prog f (#[.agg #[.int .i64 x.1,.int .i64 x.2]] ++ cb) W fun e w' => e=.returned (.bool (d x))∧Grew W w') :
  Calls Tryz.prog 144 #[v,.func (.func f) #[] cb] w (Tells (∃ x,x ∈ p∧d x=true) w):=by
 have n0:1≤p.length:=hp.1.1
 obtain ⟨b,o,c,rfl,hr⟩:=hs.row (fun e => by rw [e] at n0;cases n0)
 have IC:=Lib.hid (Ct.index_c f cb eg d p b o c w hr (by have:=hp.1.2;omega) hC)
 clear hs hr hC hp
 go_enter Tryz.func144,Tryz.ntmps144
 go_wp2_with fail
 refine IC.out.mono ?_
 rintro e w1 ⟨z,rfl,hz,g1⟩
 have HZ:Hid ((∃ x,x ∈ p∧d x=true)↔0≤z):=Lib.hid (by
  rcases hz.out with ⟨rfl,h⟩ | ⟨k,hk,rfl,hd,_⟩
  ·refine ⟨fun ⟨x,hx,e⟩ => ?_,fun h => by omega⟩
   obtain ⟨i,hi,ex⟩:=mem_at hx
   rw [← ex,h i hi] at e
   cases e
  ·exact ⟨fun _ => by omega,fun _ => ⟨_,at_mem hk,hd⟩⟩)
 clear hz
 by_cases c0:0≤z
 ·go_wp2_with fail
  go_ret
  exact Tells.yes (HZ.out.2 c0) (by first | rfl | simp [c0]) g1
 ·go_wp2_with fail
  go_ret
  exact Tells.no (fun h => by have:=HZ.out.1 h;omega) (by first | rfl | simp [c0]) g1
theorem within1_r (K:Hl.Code) (q:List Pt) (u:Value) (b0 b1 b2 b3 b4 b5 b6 b7:Int) (Bq:Nat) (x:Pt) (w:World) (hs:Sl w u q) (hq:Vl q) (hx:Plc x) (hB:Blk w Bq #[.int .i64 b0,.int .i64 b1,.int .i64 b2,.int .i64 b3,.int .i64 b4,.int .i64 b5,.int .i64 b6,.int .i64 b7,u] 134) :
  Calls Tryz.prog 145 (#[.agg #[.int .i64 x.1,.int .i64 x.2]] ++ #[.pointer (some ⟨Bq,0,none⟩)]) w fun e w' => e=.returned (.bool (!Ct.hsB q x))∧Grew w w':=by
 have HC:Hid (∀ W,Grew w W→Calls Tryz.prog 51 #[u,.agg #[.int .i64 x.1,.int .i64 x.2]] W fun e w' => e=.returned (.bool (Ct.hsB q x))∧Grew W w'):=Lib.hid (fun W g => (rhas_c K q x u W (hs.grown g) hq hx).mono (by
  rintro e w' ⟨r,rfl,h,g⟩
  refine ⟨?_,g⟩
  have:r=Ct.hsB q x:=by
   unfold Ct.hsB
   rw [Bool.eq_iff_iff,h,decide_eq_true_eq]
  rw [this]))
 obtain ⟨_,_,x8⟩:=blk9 hB
 have lB:=hB.lt
 have l1:Bq < w.heap.size+1:=by omega
 clear hs hq hx hB K
 generalize Ct.hsB q x=r at *
 show Calls Tryz.prog 145 #[.agg #[.int .i64 x.1,.int .i64 x.2],.pointer (some ⟨Bq,0,none⟩)] w _
 go_enter Tryz.func145,Tryz.ntmps145
 go_wp2_with fail
 refine (HC.out _ ((Grew.refl _).alloc _ _)).mono ?_
 rintro e w1 ⟨rfl,g1⟩
 have G1:Grew w w1:=Grew.trans ((Grew.refl _).alloc _ _) g1
 clear g1
 go_wp2_with fail
 go_ret
 exact ⟨rfl,G1⟩
theorem isWithin_c (K:Hl.Code) (p q:List Pt) (u u':Value) (a0 a1 a2 a3 a4 a5 a6 a7 b0 b1 b2 b3 b4 b5 b6 b7:Int) (w:World) (hs:Sl w u p) (hs':Sl w u' q) (hp:Vl p) (hq:Vl q) :
  Calls Tryz.prog 107 #[.agg #[.int .i64 a0,.int .i64 a1,.int .i64 a2,.int .i64 a3,.int .i64 a4,.int .i64 a5,.int .i64 a6,.int .i64 a7,u],.agg #[.int .i64 b0,.int .i64 b1,.int .i64 b2,.int .i64 b3,.int .i64 b4,.int .i64 b5,.int .i64 b6,.int .i64 b7,u']] w (Tells ((In4 a0 a1 a2 a3 b0 b1 b2 b3∧In4 a4 a5 a6 a7 b4 b5 b6 b7)∧Lies p q) w):=by
 have AC:=Lib.hid (fun W => areIn_c a0 a1 a2 a3 a4 a5 a6 a7 b0 b1 b2 b3 b4 b5 b6 b7 W)
 have PL:=Lib.hid hp.2.1
 have KB:Hid (Blk ((w.alloc (.cells #[.int .i64 a0,.int .i64 a1,.int .i64 a2,.int .i64 a3,.int .i64 a4,.int .i64 a5,.int .i64 a6,.int .i64 a7,u] 134)).alloc (.cells #[.int .i64 b0,.int .i64 b1,.int .i64 b2,.int .i64 b3,.int .i64 b4,.int .i64 b5,.int .i64 b6,.int .i64 b7,u'] 134)) (w.heap.size+1) #[.int .i64 b0,.int .i64 b1,.int .i64 b2,.int .i64 b3,.int .i64 b4,.int .i64 b5,.int .i64 b6,.int .i64 b7,u'] 134):=Lib.hid (by
  have h:=Blk.new (w.alloc (.cells #[.int .i64 a0,.int .i64 a1,.int .i64 a2,.int .i64 a3,.int .i64 a4,.int .i64 a5,.int .i64 a6,.int .i64 a7,u] 134)) #[.int .i64 b0,.int .i64 b1,.int .i64 b2,.int .i64 b3,.int .i64 b4,.int .i64 b5,.int .i64 b6,.int .i64 b7,u'] 134
  rwa [World.size_alloc] at h)
 have KA:=Lib.hid ((Blk.new w #[.int .i64 a0,.int .i64 a1,.int .i64 a2,.int .i64 a3,.int .i64 a4,.int .i64 a5,.int .i64 a6,.int .i64 a7,u] 134).alloc (.cells #[.int .i64 b0,.int .i64 b1,.int .i64 b2,.int .i64 b3,.int .i64 b4,.int .i64 b5,.int .i64 b6,.int .i64 b7,u'] 134))
 have CC:Hid (∀ W,Grew w W→Blk W (w.heap.size+1) #[.int .i64 b0,.int .i64 b1,.int .i64 b2,.int .i64 b3,.int .i64 b4,.int .i64 b5,.int .i64 b6,.int .i64 b7,u'] 134→Calls Tryz.prog 144 #[u,.func (.func 145) #[] #[.pointer (some ⟨w.heap.size+1,0,none⟩)]] W (Tells (¬ Lies p q) W)):=Lib.hid (fun W g hB => (contains_p 145 _ (enters_of Tryz.func145 (by kernel_rfl) rfl) (fun x => !Ct.hsB q x) p u W (hs.grown g) hp (fun x V hx gV => by
   obtain ⟨i,hi,e⟩:=mem_at hx
   exact within1_r K q u' b0 b1 b2 b3 b4 b5 b6 b7 (w.heap.size+1) x V (hs'.grown (g.trans gV)) hq (by rw [← e];exact PL.out i hi) (hB.grown gV))).mono (by
  rintro e w' ⟨r,rfl,h,g⟩
  refine ⟨r,rfl,h.trans ?_,g⟩
  constructor
  ·rintro ⟨x,hx,e⟩ hl
   have:Ct.hsB q x=true:=by unfold Ct.hsB;exact decide_eq_true (hl x hx)
   rw [this] at e
   cases e
  ·intro hn
   apply Classical.byContradiction
   intro h'
   refine hn fun x hx => ?_
   apply Classical.byContradiction
   intro hh
   exact h' ⟨x,hx,by unfold Ct.hsB;rw [decide_eq_false hh];rfl⟩))
 clear hs hs' hp hq K PL
 go_enter Tryz.func107,Tryz.ntmps107
 go_wp2_with fail
 refine (AC.out _).mono ?_
 rintro e w1 ⟨r,rfl,hr,g1⟩
 have G1:Grew w w1:=Grew.trans (((Grew.refl w).alloc _ _).alloc _ _) g1
 have K1:=Lib.hid (KB.out.grown g1)
 obtain ⟨_,_,x8⟩:=blk9 (KA.out.grown g1)
 clear g1 KA KB AC
 cases r
 ·have F:=Lib.hid (no_of hr)
  clear hr
  go_wp2_with fail
  go_ret
  exact Tells.no (fun h => F.out h.1) rfl G1
 ·have F:=Lib.hid (hr.1 rfl)
  clear hr
  go_wp2_with fail
  refine (CC.out _ G1 K1.out).mono ?_
  rintro e w2 ⟨r,rfl,hr,g2⟩
  have G2:Grew w w2:=Grew.trans G1 g2
  cases r
  ·have F2:=Lib.hid (Classical.byContradiction (p:=Lies p q) fun h => no_of hr h)
   clear hr
   go_wp2_with fail
   go_ret
   exact Tells.yes ⟨F.out,F2.out⟩ rfl G2
  ·have F2:=Lib.hid (hr.1 rfl)
   clear hr
   go_wp2_with fail
   go_ret
   exact Tells.no (fun h => F2.out h.2) rfl G2
def pcA (p:List Pt) (u:Value):Array Value:=#[.int .i64 (mn 1 0 p),.int .i64 (mn 0 1 p),.int .i64 (mx 1 0 p),.int .i64 (mx 0 1 p),.int .i64 (mn 1 1 p),.int .i64 (mn 1 (-1) p),.int .i64 (mx 1 1 p),.int .i64 (mx 1 (-1) p),u]
theorem lies_in {p q:List Pt} (hp:Pg p) (hq:Pg q) (h:Lies p q) (u v:Int):mn u v q≤mn u v p∧mx u v p≤mx u v q:=by
 have key:∀ (a b m m':Int),IsMin p a b m→IsMin q a b m'→m'≤m:=fun a b m m' h1 h2 => by
  obtain ⟨⟨y,hy,e⟩,_⟩:=h1
  obtain ⟨j,hj,g⟩:=hs_least hq (h y hy) a b 0
  have:=h2.2 _ (at_mem hj)
  unfold af at g
  omega
 have k1:=key u v _ _ (mn_is hp.1 u v) (mn_is hq.1 u v)
 have k2:=key (-u) (-v) _ _ (mx_is hp.1 u v) (mx_is hq.1 u v)
 omega
theorem within_pc (K:Hl.Code) (p q:List Pt) (u u':Value) (w:World) (hs:Sl w u p) (hs':Sl w u' q) (hp:Vl p) (hq:Vl q) :
  Calls Tryz.prog 107 #[.agg (pcA p u),.agg (pcA q u')] w fun e w' => e=.returned (.bool (decide (Lies p q)))∧Grew w w' :=
 (isWithin_c K p q u u' (mn 1 0 p) (mn 0 1 p) (mx 1 0 p) (mx 0 1 p) (mn 1 1 p) (mn 1 (-1) p) (mx 1 1 p) (mx 1 (-1) p) (mn 1 0 q) (mn 0 1 q) (mx 1 0 q) (mx 0 1 q) (mn 1 1 q) (mn 1 (-1) q) (mx 1 1 q) (mx 1 (-1) q) w hs hs' hp hq).mono (by
  rintro e w' ⟨r,rfl,h,g⟩
  refine ⟨?_,g⟩
  have:r=decide (Lies p q):=by
   rw [Bool.eq_iff_iff,h,decide_eq_true_eq]
   constructor
   ·exact fun k => k.2
   ·intro k
    have b1:=lies_in hp.pg hq.pg k 1 0
    have b2:=lies_in hp.pg hq.pg k 0 1
    have b3:=lies_in hp.pg hq.pg k 1 1
    have b4:=lies_in hp.pg hq.pg k 1 (-1)
    exact ⟨⟨⟨b1.1,b2.1,b1.2,b2.2⟩,b3.1,b4.1,b3.2,b4.2⟩,k⟩
  rw [this])
end Rg
end Go.Proofs.YtbpgfenippiepaaGreatDoor
namespace Go.Proofs.YtbpgfenippiepaaGreatDoor
open Go.RowKit Go.Shelf Go.Sort Hl
namespace Rg
abbrev Pcs:=List (List Pt × Value)
def pcL (x:List Pt × Value):List Value:=(pcA x.1 x.2).toList
def pcc (Q:Pcs):List Value:=Q.flatMap pcL
def ith (Q:Pcs) (i:Nat):List Pt × Value:=Q.getD i ([],.bool false)
theorem pcL_len (x:List Pt × Value):(pcL x).length=9:=rfl
theorem pcc_cons (x:List Pt × Value) (Q:Pcs):pcc (x :: Q)=pcL x ++ pcc Q:=rfl
theorem pcc_append (Q R:Pcs):pcc (Q ++ R)=pcc Q ++ pcc R:=by unfold pcc;rw [List.flatMap_append]
theorem pcc_len:∀ Q:Pcs,(pcc Q).length=Q.length * 9
 | [] => rfl
 | x :: Q => by
   rw [pcc_cons,List.length_append,pcL_len,pcc_len Q,List.length_cons]
   omega
theorem pcc_at:∀ (Q:Pcs) (i j:Nat),i < Q.length→j < 9→(pcc Q)[i * 9+j]? = (pcL (ith Q i))[j]?
 | [],i,j,h,_ => absurd h (by simp)
 | x :: Q,0,j,_,hj => by
   rw [pcc_cons,List.getElem?_append_left (by rw [pcL_len];omega),Nat.zero_mul,Nat.zero_add]
   rfl
 | x :: Q,i+1,j,h,hj => by
   rw [pcc_cons,List.getElem?_append_right (by rw [pcL_len];omega),pcL_len,show (i+1) * 9+j - 9=i * 9+j by omega,pcc_at Q i j (by simpa using h) hj]
   rfl
theorem ith_get {Q:Pcs} {i:Nat} (h:i < Q.length):ith Q i=Q[i]:=by
 unfold ith
 simp [List.getD,h]
theorem ith_mem {Q:Pcs} {i:Nat} (h:i < Q.length):ith Q i ∈ Q:=by rw [ith_get h];exact List.getElem_mem h
theorem mem_ith {Q:Pcs} {x:List Pt × Value} (h:x ∈ Q):∃ i,i < Q.length∧ith Q i=x:=by
 obtain ⟨i,hi,e⟩:=List.getElem_of_mem h
 exact ⟨i,hi,by rw [ith_get hi];exact e⟩
def OwnPAt (B:Nat) (w:World) (g cap:Nat) (Q:Pcs):Prop:=B≤g∧Q.length≤cap∧cap≤maxLen∧∃ cur,w.heap[g]? = some (.cells cur 134 (0,0))∧cur.size=cap * 9 ∧
 ∀ i j,i < Q.length→j < 9→cur[i * 9+j]? = (pcL (ith Q i))[j]?
def OwnP (B:Nat) (w:World) (v:Value) (Q:Pcs):Prop:=w.ownsRow B 134 9 v Q.length (pcc Q)
theorem take_pcc {cur:Array Value} {Q:Pcs} (hs:Q.length * 9≤cur.size):cur.toList.take (Q.length * 9)=pcc Q↔∀ i j,i < Q.length→j < 9→cur[i * 9+j]? = (pcL (ith Q i))[j]?:=by
 constructor
 ·intro h i j hi hj
  have a:=pcc_at Q i j hi hj
  rw [← h,List.getElem?_take_of_lt (by omega),Array.getElem?_toList] at a
  exact a
 ·intro h
  apply List.ext_getElem?
  intro j
  by_cases hj:j < Q.length * 9
  ·rw [List.getElem?_take_of_lt hj,Array.getElem?_toList]
   have e:j=j / 9 * 9+j % 9:=by omega
   rw [e,h (j / 9) (j % 9) (by omega) (by omega),pcc_at Q (j / 9) (j % 9) (by omega) (by omega)]
  ·rw [List.getElem?_eq_none (by simp;omega),List.getElem?_eq_none (by rw [pcc_len];omega)]
theorem ownp_at {B:Nat} {w:World} {g cap:Nat} {Q:Pcs}:OwnPAt B w g cap Q↔OwnP B w (.slice (some ⟨g,0,none⟩) Q.length cap) Q:=by
 constructor
 ·rintro ⟨h1,h2,h3,cur,h4,h5,h6⟩
  exact ⟨pcc_len Q,Or.inr ⟨g,cap,cur,rfl,h1,h4,h2,h3,h5,(take_pcc (by omega)).2 h6⟩⟩
 ·rintro ⟨_,h⟩
  rcases h with ⟨h,_⟩ | ⟨g',cap',cur,e,h1,h4,h2,h3,h5,h6⟩
  ·cases h
  ·cases e
   exact ⟨h1,h2,h3,cur,h4,h5,(take_pcc (by omega)).1 h6⟩
theorem OwnP.shape {B:Nat} {w:World} {v:Value} {Q:Pcs} (h:OwnP B w v Q):(v=.slice none 0 0∧Q=[])∨∃ g cap,v=.slice (some ⟨g,0,none⟩) Q.length cap∧OwnPAt B w g cap Q:=by
 rcases h.2 with ⟨e,hl⟩ | ⟨g,cap,cur,rfl,_⟩
 ·exact Or.inl ⟨e,List.length_eq_zero_iff.1 hl⟩
 ·exact Or.inr ⟨g,cap,rfl,ownp_at.2 h⟩
theorem OwnP.nil (B:Nat) (w:World):OwnP B w (.slice none 0 0) []:=World.ownsRow_nil w B _ 9
theorem OwnP.block {B:Nat} {w:World} {v:Value} {Q:Pcs} (h:OwnP B w v Q):∀ k,v.ownBlock=some k→B≤k∧k < w.heap.size:=World.ownsRow.lt h
theorem OwnP.keeps {B:Nat} {w w':World} {v:Value} {Q:Pcs} {row:Option Nat} (h:OwnP B w v Q) (g:w.grownBy w' row) (hne:v.ownBlock=none∨v.ownBlock ≠ row):OwnP B w' v Q:=World.ownsRow.kept h g hne
theorem OwnP.grew {B:Nat} {w w':World} {v:Value} {Q:Pcs} (h:OwnP B w v Q) (g:Grew w w'):OwnP B w' v Q :=
 World.ownsRow.kept h (row:=none) ⟨g.os,g.tape,g.output,g.size,fun k hk _ => g.block k hk⟩ (by cases hv:v.ownBlock <;> simp)
theorem OwnPAt.lt {B:Nat} {w:World} {g cap:Nat} {Q:Pcs} (h:OwnPAt B w g cap Q):g < w.heap.size:=by
 obtain ⟨_,_,_,cur,h4,_⟩:=h
 exact (Array.getElem?_eq_some_iff.1 h4).1
theorem OwnPAt.frozen {B:Nat} {w:World} {g cap:Nat} {Q:Pcs} (h:OwnPAt B w g cap Q) (o:Nat):w.frozen? ⟨g,o,none⟩=false:=by
 obtain ⟨_,_,_,cur,h4,_⟩:=h
 simp [World.frozen?,h4]
theorem OwnPAt.cell {B:Nat} {w:World} {g cap:Nat} {Q:Pcs} (h:OwnPAt B w g cap Q) {i j:Nat} (hi:i < Q.length) (hj:j < 9):w.cell? ⟨g,i * 9+j,none⟩=(pcL (ith Q i))[j]?:=by
 obtain ⟨_,_,_,cur,h4,_,h6⟩:=h
 have:=h6 i j hi hj
 simp [World.cell?,h4,this]
theorem OwnPAt.there {B:Nat} {w:World} {g cap:Nat} {Q:Pcs} (h:OwnPAt B w g cap Q) {j:Nat} (hj:j < cap * 9):(w.cell? ⟨g,j,none⟩).isSome=true:=by
 obtain ⟨_,_,_,cur,h4,h5,_⟩:=h
 simp [World.cell?,h4]
 omega
theorem OwnPAt.grew {B:Nat} {w w':World} {g cap:Nat} {Q:Pcs} (h:OwnPAt B w g cap Q) (k:Grew w w'):OwnPAt B w' g cap Q:=by
 have hl:=h.lt
 obtain ⟨h1,h2,h3,cur,h4,h5,h6⟩:=h
 exact ⟨h1,h2,h3,cur,(k.block g hl).trans h4,h5,h6⟩
theorem ith_take {Q:Pcs} {i k:Nat} (h:i < k):ith (Q.take k) i=ith Q i:=by
 unfold ith
 simp [List.getD,h]
theorem OwnPAt.take {B:Nat} {w:World} {g cap:Nat} {Q:Pcs} (h:OwnPAt B w g cap Q) (k:Nat):OwnPAt B w g cap (Q.take k):=by
 obtain ⟨h1,h2,h3,cur,h4,h5,h6⟩:=h
 refine ⟨h1,by simp;omega,h3,cur,h4,h5,fun i j hi hj => ?_⟩
 rw [List.length_take] at hi
 rw [ith_take (by omega)]
 exact h6 i j (by omega) hj
theorem heap_sets {g:Nat} {t:TypeId} {fr:Nat × Nat}:∀ (vs:List Value) (w:World) (o:Nat) (cur:Array Value),w.heap[g]? = some (.cells cur t fr) →
  ∃ cur':Array Value,(w.setCells g o vs).heap[g]? = some (.cells cur' t fr)∧cur'.size=cur.size∧∀ k,cur'[k]? = if o≤k∧k < o+vs.length∧k < cur.size then vs[k - o]? else cur[k]?
 | [],w,o,cur,h => ⟨cur,h,rfl,fun k => by rw [if_neg (by simp;omega)]⟩
 | v :: vs,w,o,cur,h => by
   obtain ⟨cur',h1,h2,h3⟩:=heap_sets vs (w.setCell ⟨g,o,none⟩ v) (o+1) _ (heap_set v h)
   refine ⟨cur',h1,by rw [h2];simp,fun k => ?_⟩
   rw [h3 k]
   by_cases c:o+1≤k∧k < o+1+vs.length∧k < (cur.setIfInBounds o v).size
   ·have c':=c
    rw [Array.size_setIfInBounds] at c'
    rw [if_pos c,if_pos (by simp;omega),show k - o=(k - (o+1))+1 by omega]
    rfl
   ·rw [if_neg c,Array.getElem?_setIfInBounds]
    rw [Array.size_setIfInBounds] at c
    by_cases e:o=k
    ·subst e
     rw [if_pos rfl]
     by_cases s:o < cur.size
     ·rw [if_pos s,if_pos (by simp;omega),Nat.sub_self]
      rfl
     ·rw [if_neg s,if_neg (by omega),Array.getElem?_eq_none (by omega)]
    ·rw [if_neg e,if_neg (by simp;omega)]
theorem ith_set_self {Q:Pcs} {i:Nat} (hi:i < Q.length) (x:List Pt × Value):ith (Q.set i x) i=x:=by
 unfold ith
 simp [List.getD,hi]
theorem ith_set_ne {Q:Pcs} {i j:Nat} (hne:i ≠ j) (x:List Pt × Value):ith (Q.set i x) j=ith Q j:=by
 unfold ith
 simp [List.getD,hne]
theorem OwnPAt.set {B:Nat} {w:World} {g cap:Nat} {Q:Pcs} (h:OwnPAt B w g cap Q) {i:Nat} (hi:i < Q.length) (x:List Pt × Value):OwnPAt B (w.setCells g (i * 9) (pcL x)) g cap (Q.set i x):=by
 obtain ⟨h1,h2,h3,cur,h4,h5,h6⟩:=h
 obtain ⟨cur',k1,k2,k3⟩:=heap_sets (pcL x) w (i * 9) cur h4
 refine ⟨h1,by simpa using h2,h3,cur',k1,by rw [k2];exact h5,fun m j hm hj => ?_⟩
 rw [List.length_set] at hm
 rw [k3,pcL_len]
 by_cases e:i=m
 ·subst e
  rw [if_pos (by omega),ith_set_self hi,show i * 9+j - i * 9=j by omega]
 ·rw [if_neg (by omega),ith_set_ne e]
  exact h6 m j hm hj
theorem OwnPAt.beyonds {B:Nat} {w:World} {g cap:Nat} {Q:Pcs} (h:OwnPAt B w g cap Q) (vs:List Value) {o:Nat} (ho:Q.length * 9≤o):OwnPAt B (w.setCells g o vs) g cap Q:=by
 obtain ⟨h1,h2,h3,cur,h4,h5,h6⟩:=h
 obtain ⟨cur',k1,k2,k3⟩:=heap_sets vs w o cur h4
 refine ⟨h1,h2,h3,cur',k1,by rw [k2];exact h5,fun m j hm hj => ?_⟩
 rw [k3,if_neg (by omega)]
 exact h6 m j hm hj
theorem info_pc:(Tryz.prog.info? 134).map (fun i => (i.zero,i.size,i.bytes))=some (some (.agg #[.int .i64 0,.int .i64 0,.int .i64 0,.int .i64 0,.int .i64 0,.int .i64 0,.int .i64 0,.int .i64 0,.slice none 0 0]),9,88):=by kernel_rfl
theorem run_clear_pcs (w:World) (g k n c:Nat) (hn:0 < n) (hc:∀ j,j < n * 9→(w.cell? ⟨g,k * 9+j,none⟩).isSome=true) (hf:∀ j,j < n * 9→w.frozen? ⟨g,k * 9+j,none⟩=false) :
  ∃ vs:List Value,∀ ty:TypeId,(Builtin.clear_ #[95] ty #[.slice (some ⟨g,k * 9,none⟩) n c]).run Tryz.prog w=.ok (.tuple #[]) (w.setCells g (k * 9) vs):=by
 obtain ⟨zs,hz⟩:∃ zs,(Builtin.zeroCells (Value.agg #[.int .i64 0,.int .i64 0,.int .i64 0,.int .i64 0,.int .i64 0,.int .i64 0,.int .i64 0,.int .i64 0,.slice none 0 0]).cells n).toList=zs:=⟨_,rfl⟩
 have hl:zs.length=n * 9:=by rw [← hz];simp [Builtin.zeroCells,Value.cells]
 have h1:∀ v,v ∈ zs→v.oneCell'=true:=fun v hv => by
  rw [← hz] at hv
  unfold Builtin.zeroCells at hv
  simp only [Array.toList_map,List.mem_map] at hv
  obtain ⟨a,_,rfl⟩:=hv
  have:a % 9=0∨a % 9=1∨a % 9=2∨a % 9=3∨a % 9=4∨a % 9=5∨a % 9=6∨a % 9=7∨a % 9=8:=by omega
  rcases this with e | e | e | e | e | e | e | e | e <;> simp [Value.cells,e,Value.oneCell']
 have hst:=run_storeCells_cells (P:=Tryz.prog) g (k * 9) zs 0 w (by rw [hl];simpa using hc) (by rw [hl];simpa using hf) h1
 simp only [Nat.add_zero] at hst
 obtain ⟨m,rfl⟩:∃ m,n=m+1:=⟨n - 1,by omega⟩
 have hv:=fun w => Tryz.zeroValue134 w
 exact ⟨zs,fun ty => by simp [Builtin.clear_,run_underlying Tryz.underlying95,hv,hz,hst]⟩
theorem Sl.row_of {w w':World} {u:Value} {p:List Pt} {row:Option Nat} (h:Sl w u p) (g:w.grownBy w' row) (ne:∀ k,row=some k→u.ownBlock ≠ some k):Sl w' u p:=by
 obtain ⟨rfl,a,c,rfl⟩ | ⟨b,o,c,rfl,hr⟩:=h
 ·exact Or.inl ⟨rfl,a,c,rfl⟩
 ·have e:some b ≠ row:=fun e => ne b e.symm rfl
  exact Or.inr ⟨b,o,c,rfl,Nat.lt_of_lt_of_le hr.1 g.size,fun i hi => ⟨World.grownBy.cell g (hr.2 i hi).1 e,World.grownBy.cell g (hr.2 i hi).2 e⟩⟩
theorem Sl.not_one {w:World} {u x:Value} {p:List Pt} {A:Nat} {t:TypeId} (h:Sl w u p) (h0:0 < p.length) (hb:Blk w A #[x] t):u.ownBlock ≠ some A:=by
 obtain ⟨rfl,_⟩ | ⟨b,o,c,rfl,hr⟩:=h
 ·cases h0
 ·intro e
  obtain rfl:b=A:=by cases e;rfl
  have k2:=(hr.2 0 h0).2
  have n:w.cell? ⟨b,o+0 * 2+1,none⟩=none:=by simp [World.cell?,show w.heap[b]? = _ from hb]
  rw [n] at k2
  cases k2
structure Pile (B:Nat) (w:World) (v:Value) (Q:Pcs):Prop where
 own:OwnP B w v Q
 sl:∀ x,x ∈ Q→Sl w x.2 x.1
 vl:∀ x,x ∈ Q→Vl x.1
 away:∀ x,x ∈ Q→∀ g,v.ownBlock=some g→x.2.ownBlock ≠ some g
theorem Pile.nil (B:Nat) (w:World):Pile B w (.slice none 0 0) []:=⟨OwnP.nil B w,fun x h => (by cases h),fun x h => (by cases h),fun x h => (by cases h)⟩
theorem Pile.grew {B:Nat} {w w':World} {v:Value} {Q:Pcs} (h:Pile B w v Q) (g:Grew w w'):Pile B w' v Q:=⟨h.own.grew g,fun x hx => (h.sl x hx).grown g,h.vl,h.away⟩
end Rg
end Go.Proofs.YtbpgfenippiepaaGreatDoor
namespace Go.Proofs.YtbpgfenippiepaaGreatDoor
open Go.RowKit Go.Shelf Hl
namespace Rg
theorem nine_cells {B:Nat} {w:World} {g cap:Nat} {Q:Pcs} (h:OwnPAt B w g cap Q) {i:Nat} (hi:i < Q.length):∃ v0 v1 v2 v3 v4 v5 v6 v7 v8:Value,pcA (ith Q i).1 (ith Q i).2 = #[v0,v1,v2,v3,v4,v5,v6,v7,v8]∧w.cell? ⟨g,i * 9,none⟩=some v0∧w.cell? ⟨g,i * 9+1,none⟩=some v1∧w.cell? ⟨g,i * 9+2,none⟩=some v2∧w.cell? ⟨g,i * 9+3,none⟩=some v3∧w.cell? ⟨g,i * 9+4,none⟩=some v4∧w.cell? ⟨g,i * 9+5,none⟩=some v5∧w.cell? ⟨g,i * 9+6,none⟩=some v6∧w.cell? ⟨g,i * 9+7,none⟩=some v7∧w.cell? ⟨g,i * 9+8,none⟩=some v8:=by
 have k:=fun j hj => h.cell (j:=j) hi hj
 refine ⟨_,_,_,_,_,_,_,_,_,rfl,k 0 (by omega),k 1 (by omega),k 2 (by omega),k 3 (by omega),k 4 (by omega),k 5 (by omega),k 6 (by omega),k 7 (by omega),k 8 (by omega)⟩
theorem nine_typed {B:Nat} {w:World} {g cap:Nat} {Q:Pcs} (h:OwnPAt B w g cap Q) {i:Nat} (hi:i < Q.length) (hd:IsHd (ith Q i).2):∃ (v0 v1 v2 v3 v4 v5 v6 v7:Int) (v8:Option Addr) (v9 v10:Nat),pcA (ith Q i).1 (ith Q i).2 = #[.int .i64 v0,.int .i64 v1,.int .i64 v2,.int .i64 v3,.int .i64 v4,.int .i64 v5,.int .i64 v6,.int .i64 v7,.slice v8 v9 v10]∧w.cell? ⟨g,i * 9,none⟩=some (.int .i64 v0)∧w.cell? ⟨g,i * 9+1,none⟩=some (.int .i64 v1)∧w.cell? ⟨g,i * 9+2,none⟩=some (.int .i64 v2)∧w.cell? ⟨g,i * 9+3,none⟩=some (.int .i64 v3)∧w.cell? ⟨g,i * 9+4,none⟩=some (.int .i64 v4)∧w.cell? ⟨g,i * 9+5,none⟩=some (.int .i64 v5)∧w.cell? ⟨g,i * 9+6,none⟩=some (.int .i64 v6)∧w.cell? ⟨g,i * 9+7,none⟩=some (.int .i64 v7)∧w.cell? ⟨g,i * 9+8,none⟩=some (.slice v8 v9 v10):=by
 obtain ⟨a,n,c,e⟩:=hd
 have k:=fun j hj => h.cell (j:=j) hi hj
 unfold pcL at k
 rw [e] at k ⊢
 refine ⟨_,_,_,_,_,_,_,_,_,_,_,rfl,k 0 (by omega),k 1 (by omega),k 2 (by omega),k 3 (by omega),k 4 (by omega),k 5 (by omega),k 6 (by omega),k 7 (by omega),k 8 (by omega)⟩
set_option maxRecDepth 100000 in
set_option maxHeartbeats 4000000 in
theorem index_m (f:Nat) (bv:Value) (eg:∀ args w,(callFunc f args).run Tryz.prog w=.ok (.enter f args) w) (d:List Pt × Value→Bool) (Q:Pcs) (B g cap:Nat) (w:World) (ho:OwnPAt B w g cap Q) (h2:Q.length≤4000000)
  (hC:∀ x W,x ∈ Q→Grew w W→Calls Tryz.prog f #[bv,.agg (pcA (x).1 (x).2)] W fun e w' => e=.returned (.bool (d x))∧Grew W w') :
  Calls Tryz.prog 142 #[.slice (some ⟨g,0,none⟩) Q.length cap,.func (.func f) #[bv] #[]] w (IdxSays Q.length (fun i => d (ith Q i)) w):=by
 have HR:=Lib.hid ho
 have HC:=Lib.hid hC
 clear ho hC
 go_enter Tryz.func142,Tryz.ntmps142
 go_wp2_with fail
 go_loopw [5,8] (fun _ i wr => ∃ k:Nat,k≤Q.length∧i=.int .i64 k∧Grew w wr∧Hid (∀ j,j < k→d (ith Q j)=false)) (fun _ i _ => Q.length - (intOf i).toNat)
 case atStart => exact ⟨0,Nat.zero_le _,rfl,Grew.refl _,Lib.hid (fun j hj => by omega)⟩
 case round =>
  obtain ⟨k,hk,rfl,G,D⟩:=hrel
  by_cases hlt:k < Q.length
  ·obtain ⟨v0,v1,v2,v3,v4,v5,v6,v7,v8,ea,q0,q1,q2,q3,q4,q5,q6,q7,q8⟩:=nine_cells (HR.out.grew G) hlt
   have i0:(0:Int)≤(k:Int):=by omega
   have i1:(k:Int) < (Q.length:Int):=by omega
   obtain ⟨r,hr⟩:∃ r,d (ith Q k)=r:=⟨_,rfl⟩
   have RD:=Lib.hid hr
   have CC:Hid (Calls Tryz.prog f #[bv,(.agg #[v0,v1,v2,v3,v4,v5,v6,v7,v8])] wr fun e w' => e=.returned (.bool r)∧Grew wr w'):=Lib.hid (by
    have h:=HC.out _ wr (ith_mem hlt) G
    rw [ea,hr] at h
    exact h)
   clear hr ea
   cases r
   ·go_wp2_with fail
    refine CC.out.mono ?_
    rintro e w1 ⟨rfl,g1⟩
    have G1:Grew w w1:=Grew.trans G g1
    clear g1
    go_wp2_with fail
    go_roundw
    case rel => exact ⟨k+1,by omega,by go_num,G1,Lib.hid (fun j hj => by
     by_cases e:j=k
     ·rw [e];exact RD.out
     ·exact D.out j (by omega))⟩
    case measure => simp [intOf];omega
   ·go_wp2_with fail
    refine CC.out.mono ?_
    rintro e w1 ⟨rfl,g1⟩
    have G1:Grew w w1:=Grew.trans G g1
    clear g1
    go_wp2_with fail
    go_ret
    exact ⟨k,rfl,Lib.hid (Or.inr ⟨k,hlt,rfl,RD.out,D.out⟩),G1⟩
  ·obtain rfl:k=Q.length:=by omega
   have D':=Lib.hid D.out
   go_wp2_with fail
   go_ret
   exact ⟨-1,rfl,Lib.hid (Or.inl ⟨rfl,D'.out⟩),G⟩
theorem index_m0 (fv:Value) (hf:∃ f b c,fv=.func (.func f) b c) (w:World):Calls Tryz.prog 142 #[.slice none 0 0,fv] w fun e w' => e=.returned (.int .i64 (-1))∧w=w':=by
 obtain ⟨f,b,c,rfl⟩:=hf
 go_enter Tryz.func142,Tryz.ntmps142
 go_wp2_with fail
 go_loopw [5,8] (fun _ i wr => i=.int .i64 0∧w=wr) (fun _ _ _ => 0)
 case atStart => exact ⟨rfl,rfl⟩
 case round =>
  obtain ⟨rfl,rfl⟩:=hrel
  go_wp2_with fail
  go_ret
  exact ⟨rfl,rfl⟩
set_option maxRecDepth 100000 in
set_option maxHeartbeats 4000000 in
theorem index_k (f:Nat) (bv:Value) (eg:∀ args w,(callFunc f args).run Tryz.prog w=.ok (.enter f args) w) (d:List Pt × Value→Bool) (Q:Pcs) (B g cap:Nat) (w:World) (ho:OwnPAt B w g cap Q) (h2:Q.length≤4000000)
  (hC:∀ x W,x ∈ Q→Grew w W→Calls Tryz.prog f #[.agg (pcA (x).1 (x).2),bv] W fun e w' => e=.returned (.bool (d x))∧Grew W w') :
  Calls Tryz.prog 142 #[.slice (some ⟨g,0,none⟩) Q.length cap,.func (.func f) #[] #[bv]] w (IdxSays Q.length (fun i => d (ith Q i)) w):=by
 have HR:=Lib.hid ho
 have HC:=Lib.hid hC
 clear ho hC
 go_enter Tryz.func142,Tryz.ntmps142
 go_wp2_with fail
 go_loopw [5,8] (fun _ i wr => ∃ k:Nat,k≤Q.length∧i=.int .i64 k∧Grew w wr∧Hid (∀ j,j < k→d (ith Q j)=false)) (fun _ i _ => Q.length - (intOf i).toNat)
 case atStart => exact ⟨0,Nat.zero_le _,rfl,Grew.refl _,Lib.hid (fun j hj => by omega)⟩
 case round =>
  obtain ⟨k,hk,rfl,G,D⟩:=hrel
  by_cases hlt:k < Q.length
  ·obtain ⟨v0,v1,v2,v3,v4,v5,v6,v7,v8,ea,q0,q1,q2,q3,q4,q5,q6,q7,q8⟩:=nine_cells (HR.out.grew G) hlt
   have i0:(0:Int)≤(k:Int):=by omega
   have i1:(k:Int) < (Q.length:Int):=by omega
   obtain ⟨r,hr⟩:∃ r,d (ith Q k)=r:=⟨_,rfl⟩
   have RD:=Lib.hid hr
   have CC:Hid (Calls Tryz.prog f #[(.agg #[v0,v1,v2,v3,v4,v5,v6,v7,v8]),bv] wr fun e w' => e=.returned (.bool r)∧Grew wr w'):=Lib.hid (by
    have h:=HC.out _ wr (ith_mem hlt) G
    rw [ea,hr] at h
    exact h)
   clear hr ea
   cases r
   ·go_wp2_with fail
    refine CC.out.mono ?_
    rintro e w1 ⟨rfl,g1⟩
    have G1:Grew w w1:=Grew.trans G g1
    clear g1
    go_wp2_with fail
    go_roundw
    case rel => exact ⟨k+1,by omega,by go_num,G1,Lib.hid (fun j hj => by
     by_cases e:j=k
     ·rw [e];exact RD.out
     ·exact D.out j (by omega))⟩
    case measure => simp [intOf];omega
   ·go_wp2_with fail
    refine CC.out.mono ?_
    rintro e w1 ⟨rfl,g1⟩
    have G1:Grew w w1:=Grew.trans G g1
    clear g1
    go_wp2_with fail
    go_ret
    exact ⟨k,rfl,Lib.hid (Or.inr ⟨k,hlt,rfl,RD.out,D.out⟩),G1⟩
  ·obtain rfl:k=Q.length:=by omega
   have D':=Lib.hid D.out
   go_wp2_with fail
   go_ret
   exact ⟨-1,rfl,Lib.hid (Or.inl ⟨rfl,D'.out⟩),G⟩
theorem contains_m (f:Nat) (bv:Value) (eg:∀ args w,(callFunc f args).run Tryz.prog w=.ok (.enter f args) w) (d:List Pt × Value→Bool) (Q:Pcs) (B:Nat) (v:Value) (w:World) (ho:OwnP B w v Q) (h2:Q.length≤4000000)
  (hC:∀ x W,x ∈ Q→Grew w W→Calls Tryz.prog f #[bv,.agg (pcA (x).1 (x).2)] W fun e w' => e=.returned (.bool (d x))∧Grew W w') :
  Calls Tryz.prog 106 #[v,.func (.func f) #[bv] #[]] w (Tells (∃ x,x ∈ Q∧d x=true) w):=by
 have IC:Calls Tryz.prog 142 #[v,.func (.func f) #[bv] #[]] w (IdxSays Q.length (fun i => d (ith Q i)) w):=by
  rcases ho.shape with ⟨rfl,rfl⟩ | ⟨g,cap,rfl,ha⟩
  ·refine (index_m0 _ ⟨f,_,_,rfl⟩ w).mono ?_
   rintro e w' ⟨rfl,rfl⟩
   exact ⟨-1,rfl,Lib.hid (Or.inl ⟨rfl,fun j hj => absurd hj (Nat.not_lt_zero j)⟩),Grew.refl _⟩
  ·exact index_m f bv eg d Q B g cap w ha h2 hC
 have IC:=Lib.hid IC
 obtain ⟨a,n,c,rfl⟩:∃ a n c,v=.slice a n c:=by
  rcases ho.shape with ⟨rfl,_⟩ | ⟨g,cap,rfl,_⟩
  ·exact ⟨_,_,_,rfl⟩
  ·exact ⟨_,_,_,rfl⟩
 clear ho hC
 go_enter Tryz.func106,Tryz.ntmps106
 go_wp2_with fail
 refine IC.out.mono ?_
 rintro e w1 ⟨z,rfl,hz,g1⟩
 have HZ:Hid ((∃ x,x ∈ Q∧d x=true)↔0≤z):=Lib.hid (by
  rcases hz.out with ⟨rfl,h⟩ | ⟨k,hk,rfl,hd,_⟩
  ·refine ⟨fun ⟨x,hx,e⟩ => ?_,fun h => by omega⟩
   obtain ⟨i,hi,ex⟩:=mem_ith hx
   have hk:d (ith Q i)=false:=h i hi
   rw [← ex,hk] at e
   cases e
  ·exact ⟨fun _ => by omega,fun _ => ⟨_,ith_mem hk,hd⟩⟩)
 clear hz
 by_cases c0:0≤z
 ·go_wp2_with fail
  go_ret
  exact Tells.yes (HZ.out.2 c0) (by first | rfl | simp [c0]) g1
 ·go_wp2_with fail
  go_ret
  exact Tells.no (fun h => by have:=HZ.out.1 h;omega) (by first | rfl | simp [c0]) g1
theorem ptake_snoc (l:Pcs) {j:Nat} (hj:j < l.length):l.take (j+1)=l.take j ++ [ith l j]:=by
 rw [List.take_add_one]
 unfold ith
 rw [List.getD_eq_getElem?_getD,List.getElem?_eq_getElem hj]
 rfl
theorem ptake_set (L:Pcs) {i:Nat} (hi:i < L.length) (x:List Pt × Value):(L.set i x).take (i+1)=L.take i ++ [x]:=by
 have h:=ptake_snoc (L.set i x) (j:=i) (by simpa using hi)
 rw [h,List.take_set_of_le (Nat.le_refl _),ith_set_self hi]
structure DelP (d:List Pt × Value→Bool) (l L:Pcs) (i j:Nat):Prop where
 len:L.length=l.length
 lt:i < j
 low:L.take i=(l.take j).filter fun x => !d x
 high:∀ m,j≤m→ith L m=ith l m
theorem DelP.start {d:List Pt × Value→Bool} {l:Pcs} {k:Nat} (hk:k < l.length) (h:d (ith l k)=true) (h0:∀ j,j < k→d (ith l j)=false):DelP d l l k (k+1) :=
 ⟨rfl,by omega,by
  rw [ptake_snoc l hk,List.filter_append,List.filter_cons_of_neg (by simp [h]),List.filter_nil,List.append_nil]
  symm
  rw [List.filter_eq_self]
  intro x hx
  obtain ⟨i,hi,e⟩:=mem_ith hx
  rw [List.length_take] at hi
  rw [ith_take (by omega)] at e
  rw [← e,h0 i (by omega)]
  rfl,fun _ _ => rfl⟩
theorem DelP.drop {d:List Pt × Value→Bool} {l L:Pcs} {i j:Nat} (h:DelP d l L i j) (hj:j < l.length) (hd:d (ith l j)=true):DelP d l L i (j+1) :=
 ⟨h.len,by have:=h.lt;omega,by rw [ptake_snoc l hj,List.filter_append,List.filter_cons_of_neg (by simp [hd]),List.filter_nil,List.append_nil];exact h.low,fun m hm => h.high m (by omega)⟩
theorem DelP.keep {d:List Pt × Value→Bool} {l L:Pcs} {i j:Nat} (h:DelP d l L i j) (hj:j < l.length) (hd:d (ith l j)=false):DelP d l (L.set i (ith l j)) (i+1) (j+1) :=
 ⟨by rw [List.length_set];exact h.len,by have:=h.lt;omega,by
  rw [ptake_set L (by have:=h.lt;have:=h.len;omega),ptake_snoc l hj,List.filter_append,List.filter_cons_of_pos (by simp [hd]),List.filter_nil,h.low],fun m hm => by
  rw [ith_set_ne (by have:=h.lt;omega)];exact h.high m (by omega)⟩
def DelPSays (B:Nat) (v:Value) (Q:Pcs) (w:World) (e:Ending) (w':World):Prop:=∃ v',e=.returned v'∧v'.ownBlock=v.ownBlock∧OwnP B w' v' Q∧w.grownBy w' v.ownBlock
theorem Grew.by {a b:World} (g:Grew a b) (row:Option Nat):a.grownBy b row:=⟨g.os,g.tape,g.output,g.size,fun k hk _ => g.block k hk⟩
set_option maxRecDepth 100000 in
set_option maxHeartbeats 8000000 in
theorem delete_k (f:Nat) (bv:Value) (eg:∀ args w,(callFunc f args).run Tryz.prog w=.ok (.enter f args) w) (d:List Pt × Value→Bool) (l:Pcs) (B g cap:Nat) (w:World) (ho:OwnPAt B w g cap l) (h2:l.length≤4000000) (hd:∀ x,x ∈ l→IsHd x.2)
  (hC:∀ x W,x ∈ l→w.grownBy W (some g)→Calls Tryz.prog f #[.agg (pcA (x).1 (x).2),bv] W fun e w' => e=.returned (.bool (d x))∧Grew W w') :
  Calls Tryz.prog 108 #[.slice (some ⟨g,0,none⟩) l.length cap,.func (.func f) #[] #[bv]] w (DelPSays B (.slice (some ⟨g,0,none⟩) l.length cap) (l.filter fun x => !d x) w):=by
 have IC:=Lib.hid (index_k f bv eg d l B g cap w ho h2 (fun x W hx k => hC x W hx (Grew.by k _)))
 have HO:=Lib.hid ho
 have HC:=Lib.hid hC
 have HD:=Lib.hid hd
 have hcap:l.length≤cap:=ho.2.1
 have hmax:cap≤9223372036854775807:=ho.2.2.1
 clear ho hC hd
 go_enter Tryz.func108,Tryz.ntmps108
 go_wp2_with fail
 refine IC.out.mono ?_
 rintro e w1 ⟨z,rfl,hz,g1⟩
 have O1:=Lib.hid (HO.out.grew g1)
 have E1:Hid (w.grownBy w1 (some g)):=Lib.hid (Grew.by g1 _)
 clear g1
 by_cases hz1:z = -1
 ·have ALL:Hid ((l.filter fun x => !d x)=l):=Lib.hid (by
   rcases hz.out with ⟨_,h⟩ | ⟨k,_,e,_⟩
   ·rw [List.filter_eq_self]
    intro x hx
    obtain ⟨j,hj,e⟩:=mem_ith hx
    have hk:d (ith l j)=false:=h j hj
    rw [← e,hk]
    rfl
   ·omega)
  subst hz1
  go_wp2_with fail
  go_ret
  exact ⟨_,rfl,rfl,by rw [ALL.out];exact ownp_at.1 O1.out,E1.out⟩
 ·obtain ⟨k,hk,rfl,hd,h0⟩:∃ k:Nat,k < l.length∧z=k∧d (ith l k)=true∧∀ j,j < k→d (ith l j)=false:=by
   rcases hz.out with ⟨h,_⟩ | h
   ·exact absurd h hz1
   ·exact h
  have ST:=Lib.hid (DelP.start hk hd h0)
  clear hd h0 hz
  have k1:((k:Int) == -1)=false:=by rw [beq_eq_false_iff_ne];omega
  go_wp2_with fail
  go_loopw [5,6,7] (fun u5 u6 _ wr => ∃ (i j:Nat) (L:Pcs),u5=.int .i64 i∧u6=.int .i64 j∧j≤l.length∧Hid (OwnPAt B wr g cap L)∧Hid (DelP d l L i j)∧Hid (w.grownBy wr (some g))) (fun _ j _ _ => l.length - (intOf j).toNat)
  case atStart => exact ⟨k,k+1,l,rfl,by go_num,by omega,O1,ST,E1⟩
  case round =>
   clear O1 ST k1 hk E1
   obtain ⟨i,j,L,rfl,rfl,hj,HO1,DI,EI⟩:=hrel
   have hij:=DI.out.lt
   have HLEN:Hid (L.length=l.length):=Lib.hid DI.out.len
   by_cases hlt:j < l.length
   ·obtain ⟨v0,v1,v2,v3,v4,v5,v6,v7,v8,v9,v10,ea,q0,q1,q2,q3,q4,q5,q6,q7,q8⟩:=nine_typed HO1.out (i:=j) (by have:=HLEN.out;omega) (by rw [DI.out.high j (Nat.le_refl _)];exact HD.out _ (ith_mem hlt))
    rw [DI.out.high j (Nat.le_refl _)] at ea
    have i0:(0:Int)≤(j:Int):=by omega
    have i1:(j:Int) < (l.length:Int):=by omega
    have i2:(0:Int)≤(i:Int):=by omega
    have i3:(i:Int) < (l.length:Int):=by omega
    have lg:=HO1.out.lt
    have lg1:g < wr.heap.size+1:=by omega
    obtain ⟨r,hr⟩:∃ r,d (ith l j)=r:=⟨_,rfl⟩
    have RD:=Lib.hid hr
    have EA:Hid (pcA (ith l j).1 (ith l j).2 = #[.int .i64 v0,.int .i64 v1,.int .i64 v2,.int .i64 v3,.int .i64 v4,.int .i64 v5,.int .i64 v6,.int .i64 v7,.slice v8 v9 v10]):=Lib.hid ea
    have EW:Hid (w.grownBy (wr.alloc (.cells #[.int .i64 v0,.int .i64 v1,.int .i64 v2,.int .i64 v3,.int .i64 v4,.int .i64 v5,.int .i64 v6,.int .i64 v7,.slice v8 v9 v10] 134)) (some g)):=Lib.hid (grownBy_trans EI.out (World.grownBy_alloc wr _ (some g)))
    have CC:Hid (Calls Tryz.prog f #[(.agg #[.int .i64 v0,.int .i64 v1,.int .i64 v2,.int .i64 v3,.int .i64 v4,.int .i64 v5,.int .i64 v6,.int .i64 v7,.slice v8 v9 v10]),bv] (wr.alloc (.cells #[.int .i64 v0,.int .i64 v1,.int .i64 v2,.int .i64 v3,.int .i64 v4,.int .i64 v5,.int .i64 v6,.int .i64 v7,.slice v8 v9 v10] 134)) fun e w' => e=.returned (.bool r)∧Grew (wr.alloc (.cells #[.int .i64 v0,.int .i64 v1,.int .i64 v2,.int .i64 v3,.int .i64 v4,.int .i64 v5,.int .i64 v6,.int .i64 v7,.slice v8 v9 v10] 134)) w'):=Lib.hid (by
     have h:=HC.out _ _ (ith_mem hlt) EW.out
     rw [ea,hr] at h
     exact h)
    have VB:=Lib.hid (Blk.new wr #[.int .i64 v0,.int .i64 v1,.int .i64 v2,.int .i64 v3,.int .i64 v4,.int .i64 v5,.int .i64 v6,.int .i64 v7,.slice v8 v9 v10] 134)
    clear hr ea
    cases r
    ·have NX:=Lib.hid (DI.out.keep hlt RD.out)
     clear DI
     go_wp2_with fail
     refine CC.out.mono ?_
     rintro e w2 ⟨rfl,g2⟩
     have O2:=HO1.out.grew (Grew.trans ((Grew.refl _).alloc _ _) g2)
     obtain ⟨⟨y0,y1,y2,y3⟩,⟨y4,y5,y6,y7⟩,y8⟩:=blk9 (VB.out.grown g2)
     obtain ⟨_,_,_,_,_,_,_,_,_,_,s0,s1,s2,s3,s4,s5,s6,s7,s8⟩:=nine_cells O2 (i:=i) (by have:=HLEN.out;omega)
     have fz:=fun o => O2.frozen o
     have f0:=fz (i * 9)
     have f1:=fz (i * 9+1)
     have f2:=fz (i * 9+2)
     have f3:=fz (i * 9+3)
     have f4:=fz (i * 9+4)
     have f5:=fz (i * 9+5)
     have f6:=fz (i * 9+6)
     have f7:=fz (i * 9+7)
     have f8:=fz (i * 9+8)
     have lg2:=O2.lt
     have OS:=Lib.hid (O2.set (i:=i) (by have:=HLEN.out;omega) (ith l j))
     have ES:Hid (pcL (ith l j)=[.int .i64 v0,.int .i64 v1,.int .i64 v2,.int .i64 v3,.int .i64 v4,.int .i64 v5,.int .i64 v6,.int .i64 v7,.slice v8 v9 v10]):=Lib.hid (by unfold pcL;rw [EA.out])
     have E2:Hid (w.grownBy (w2.setCells g (i * 9) [.int .i64 v0,.int .i64 v1,.int .i64 v2,.int .i64 v3,.int .i64 v4,.int .i64 v5,.int .i64 v6,.int .i64 v7,.slice v8 v9 v10]) (some g)):=Lib.hid (grownBy_trans (grownBy_trans EW.out (Grew.by g2 _)) (grownBy_setCells g _ w2 _))
     rw [ES.out] at OS
     clear O2 g2 q0 q1 q2 q3 q4 q5 q6 q7 q8 fz
     go_wp2_with fail
     go_roundw
     case rel => exact ⟨i+1,j+1,_,by go_num,by go_num,by omega,OS,NX,E2⟩
     case measure => simp [intOf];omega
    ·have NX:=Lib.hid (DI.out.drop hlt RD.out)
     clear DI
     go_wp2_with fail
     refine CC.out.mono ?_
     rintro e w2 ⟨rfl,g2⟩
     have O2:=Lib.hid (HO1.out.grew (Grew.trans ((Grew.refl _).alloc _ _) g2))
     have E2:Hid (w.grownBy w2 (some g)):=Lib.hid (grownBy_trans EW.out (Grew.by g2 _))
     clear g2 q0 q1 q2 q3 q4 q5 q6 q7 q8
     go_wp2_with fail
     go_roundw
     case rel => exact ⟨i,j+1,L,rfl,by go_num,by omega,O2,NX,E2⟩
     case measure => simp [intOf];omega
   ·obtain rfl:j=l.length:=by omega
    have hil:i < l.length:=hij
    obtain ⟨vs,hcl⟩:=run_clear_pcs wr g i (l.length - i) (cap - i) (by omega) (fun j hj => HO1.out.there (by omega)) (fun j hj => HO1.out.frozen _)
    have FL:Hid (L.take i=l.filter fun x => !d x):=Lib.hid (by have:=DI.out.low;rwa [List.take_length] at this)
    have FIN:Hid (OwnP B (wr.setCells g (i * 9) vs) (.slice (some ⟨g,0,none⟩) i cap) (l.filter fun x => !d x)):=Lib.hid (by
     have h:=(HO1.out.take i).beyonds vs (o:=i * 9) (by simp;omega)
     have h2:=ownp_at.1 h
     rw [List.length_take,HLEN.out,Nat.min_eq_left (by omega),FL.out] at h2
     exact h2)
    have EF:Hid (w.grownBy (wr.setCells g (i * 9) vs) (some g)):=Lib.hid (grownBy_trans EI.out (grownBy_setCells g _ wr _))
    have kc:i≤cap:=by omega
    have k9:i≤9223372036854775807:=by omega
    have kl:i≤l.length:=by omega
    clear DI FL
    go_wp2_with fail
    go_ret
    exact ⟨_,rfl,rfl,FIN.out,EF.out⟩
theorem delete_k0 (fv:Value) (hf:∃ f b c,fv=.func (.func f) b c) (w:World):Calls Tryz.prog 108 #[.slice none 0 0,fv] w fun e w' => e=.returned (.slice none 0 0)∧w=w':=by
 have IC:=Lib.hid (index_m0 fv hf w)
 obtain ⟨f,b,c,rfl⟩:=hf
 go_enter Tryz.func108,Tryz.ntmps108
 go_wp2_with fail
 refine IC.out.mono ?_
 rintro e w1 ⟨rfl,rfl⟩
 go_wp2_with fail
 go_ret
 exact ⟨rfl,rfl⟩
end Rg
end Go.Proofs.YtbpgfenippiepaaGreatDoor
