/-
  The landed keep, outer, In, Cut, index and delete.
-/
import Derived.Test.YtbpgfenippiepaaGreatDoorCutCb
import Derived.Test.YtbpgfenippiepaaGreatDoorCutCh
import Derived.Test.YtbpgfenippiepaaGreatDoorHullCa
import Derived.Test.YtbpgfenippiepaaGreatDoorHullChain
namespace Go.Proofs.YtbpgfenippiepaaGreatDoor
open Go.RowKit Go.Shelf Hl
attribute [local go_sem] Oper.semAt_some
namespace Ct
theorem ownI {β:Type} (B B0 A:Nat) (t:TypeId) (J:β→List Pt→Prop):OwnFrom B (fun s W => ∃ v l,J s l∧Blk W A #[v] t∧Hl.Own B0 W v l):=fun s X Y row hs hg hr => by
 obtain ⟨v,l,h1,h2,h3⟩:=hs
 refine ⟨v,l,h1,blk_own A t (fun _:Unit => #[v]) () X Y row h2 hg (fun r e => (hr r e).2),h3.keeps hg ?_⟩
 cases hv:v.ownBlock with
 | none => exact Or.inl rfl
 | some j =>
   refine Or.inr fun e => ?_
   obtain ⟨_,o,ho,hc⟩:=hr j e.symm
   rw [own_cells h3 j o hv ho] at hc
   cases hc
theorem Blk.row {W W':World} {B:Nat} {cs:Array Value} {t:TypeId} {row:Option Nat} (h:Blk W B cs t) (g:W.grownBy W' row) (hne:row ≠ some B):Blk W' B cs t:=h.kept g (fun e => hne e.symm)
set_option maxRecDepth 100000 in
set_option maxHeartbeats 8000000 in
theorem keep_c (g:Nat) (cb:Array Value) (eg:∀ args w,(callFunc g args).run Tryz.prog w=.ok (.enter g args) w) (p:List Pt) (b o c:Nat) (w:World) (hr:Row w b o p) (L1:1≤p.length) (L64:p.length≤64) (T:Nat→List Pt→Prop) (hlen:∀ i l,T i l→l.length≤1000)
  (hT:∀ i W,Grew w W→Calls Tryz.prog g (#[.agg #[.int .i64 (at' p i).1,.int .i64 (at' p i).2],.agg #[.int .i64 (at' p ((i+1) % p.length)).1,.int .i64 (at' p ((i+1) % p.length)).2]] ++ cb) W (SideSays (T i) W)) :
  Calls Tryz.prog 153 #[.slice (some ⟨b,o,none⟩) p.length c,.func (.func g) #[] cb] w (KeepSays T p.length w):=by
 have HR:=Lib.hid hr
 have HT:=Lib.hid hT
 have hb:=hr.1
 clear hr hT
 refine (callsIn_wide (n:=5)).1 ?_
 refine callsIn_of_wp_marks Tryz.func153 rfl trivial ?_ rfl
 simp only [Tryz.ntmps153,List.size_toArray,List.length_cons,List.length_nil,Nat.reduceAdd,Nat.reduceSub,Array.replicate_succ,Array.replicate_zero,List.push_toArray,List.append_toArray,List.nil_append,List.cons_append]
 gi_wp2_with fail
 refine ⟨trivial,(csides_in 4 _ _ _ _).mono ?_⟩
 rintro e w2 ⟨rfl,rfl⟩
 gi_wp2_with fail
 have kF:=((Blk.new w #[.func (.func g) #[] cb] 174).alloc (.cells #[.slice none 0 0] 48)).alloc (.cells #[.slice (some ⟨b,o,none⟩) p.length c] 48)
 have kL:=(Blk.new (w.alloc (.cells #[.func (.func g) #[] cb] 174)) #[.slice none 0 0] 48).alloc (.cells #[.slice (some ⟨b,o,none⟩) p.length c] 48)
 rw [World.size_alloc] at kL
 have G0:Below w.heap.size w (((w.alloc (.cells #[.func (.func g) #[] cb] 174)).alloc (.cells #[.slice none 0 0] 48)).alloc (.cells #[.slice (some ⟨b,o,none⟩) p.length c] 48)):=(((Grew.refl w).alloc _ _).alloc _ _).alloc _ _
 have hsz:(((w.alloc (.cells #[.func (.func g) #[] cb] 174)).alloc (.cells #[.slice none 0 0] 48)).alloc (.cells #[.slice (some ⟨b,o,none⟩) p.length c] 48)).heap.size=w.heap.size+1+1+1:=by simp
 have kS:(((w.alloc (.cells #[.func (.func g) #[] cb] 174)).alloc (.cells #[.slice none 0 0] 48)).alloc (.cells #[.slice (some ⟨b,o,none⟩) p.length c] 48)).cell? ⟨w.heap.size+1+1,0,none⟩=some (.slice (some ⟨b,o,none⟩) p.length c):=by simp [go_sem]
 obtain ⟨W0,hW0⟩:∃ W0,((w.alloc (.cells #[.func (.func g) #[] cb] 174)).alloc (.cells #[.slice none 0 0] 48)).alloc (.cells #[.slice (some ⟨b,o,none⟩) p.length c] 48)=W0:=⟨_,rfl⟩
 rw [hW0] at kF kL G0 hsz kS ⊢
 have hR0:=HR.out.grown G0
 clear hW0
 refine wpIn_rangeFunc_ownH rfl (by omega) (gf:=207) (lb:=#[.pointer (some ⟨w.heap.size+1+1,0,none⟩)]) rfl trivial (enters_of Tryz.func207 (by kernel_rfl) rfl)
  (csides_stops 4 (by omega) (w.heap.size+1+1) b o c p L1 (by omega) W0 (by omega) kS hR0) Kept.trans (kept_b (by omega) (by omega)) (Below.refl _ _) (fun _ => rfl)
  (fun pre W => ((∃ v l,Gath T pre l∧Blk W (w.heap.size+1) #[v] 48∧Hl.Own W0.heap.size W v l)∧Blk W w.heap.size #[.func (.func g) #[] cb] 174∧W0.heap.size≤W.heap.size)∧Below w.heap.size w W)
  (fun _ _ _ => False)
  (OwnFrom.and (OwnFrom.and (ownI _ W0.heap.size (w.heap.size+1) _ (fun pre l => Gath T pre l)) (Own.from (fun s A B row hs hg hr => ⟨blk_own _ _ (fun _ => #[.func (.func g) #[] cb]) s A B row hs.1 hg hr,Nat.le_trans hs.2 hg.size⟩) _)) (ownFrom_below (Nat.le_refl _) (by omega)))
  (fun _ _ _ _ _ hs _ _ => hs)
  ⟨⟨⟨_,[],Gath.nil T,kL,Own.nil _ _⟩,kF,Nat.le_refl _⟩,G0⟩
  (fun i a' W => ∃ Bx By,w.heap.size+1+1 < Bx∧Bx < By∧Blk W Bx #[.int .i64 (at' p i).1,.int .i64 (at' p i).2] 24∧Blk W By #[.int .i64 (at' p ((i+1) % p.length)).1,.int .i64 (at' p ((i+1) % p.length)).2] 24∧a' = { tmps:=#[.slice (some ⟨b,o,none⟩) p.length c,.func (.func g) #[] cb,undef,.pointer (some ⟨w.heap.size,0,none⟩),.slice none 0 0,.pointer (some ⟨w.heap.size+1,0,none⟩),.pointer (some ⟨Bx,0,none⟩),.pointer (some ⟨By,0,none⟩),.slice (some ⟨b,o,none⟩) p.length c,.func (.func 207) #[] #[.pointer (some ⟨w.heap.size+1+1,0,none⟩)],.agg #[.int .i64 (at' p i).1,.int .i64 (at' p i).2],.agg #[.int .i64 (at' p ((i+1) % p.length)).1,.int .i64 (at' p ((i+1) % p.length)).2],undef,undef,undef,undef,undef,undef,undef],defers:=[] })
  (fun i a' _ X Y row hs hg hr => by
   obtain ⟨Bx,By,g1,g2,g3,g4,g5⟩:=hs
   exact ⟨Bx,By,g1,g2,blk_own _ _ (fun _:Unit => #[.int .i64 (at' p i).1,.int .i64 (at' p i).2]) () X Y row g3 hg (fun r e => (hr r e).2),blk_own _ _ (fun _:Unit => #[.int .i64 (at' p ((i+1) % p.length)).1,.int .i64 (at' p ((i+1) % p.length)).2]) () X Y row g4 hg (fun r e => (hr r e).2),g5⟩)
  ?assign ?body ?done ?stop
 case assign =>
  rintro l pre i W K ⟨⟨⟨v,m,g1,g2,g3⟩,g4,g5⟩,gB⟩ hK
  have hz:=gB.size
  unfold ends
  gi_wp2
  have bX:=(Blk.new W #[.int .i64 (at' p i).1,.int .i64 (at' p i).2] 24).alloc (.cells #[.int .i64 (at' p ((i+1) % p.length)).1,.int .i64 (at' p ((i+1) % p.length)).2] 24)
  have bY:=Blk.new (W.alloc (.cells #[.int .i64 (at' p i).1,.int .i64 (at' p i).2] 24)) #[.int .i64 (at' p ((i+1) % p.length)).1,.int .i64 (at' p ((i+1) % p.length)).2] 24
  rw [World.size_alloc] at bY
  exact hK _ _ (((KeepsOthers.alloc _ _).trans (KeepsOthers.alloc _ _)).from _)
   (((Kept.refl _ _ W).alloc (by omega) (by omega) _).alloc (by simp;omega) (by simp;omega) _)
   ⟨⟨⟨v,m,g1,(g2.alloc _).alloc _,(g3.alloc _).alloc _⟩,(g4.alloc _).alloc _,by simp;omega⟩,(gB.alloc (by omega) _).alloc (by simp;omega) _⟩ ⟨W.heap.size,W.heap.size+1,by omega,by omega,bX,bY,rfl⟩
 case body =>
  rintro l pre i a' W hl ⟨r0,hr0⟩ ⟨⟨⟨v,m,g1,g2,g3⟩,g4,g5⟩,gB⟩ ⟨Bx,By,hBx,hBy,bX,bY,rfl⟩ hlt
  have hz:=gB.size
  have GA:=Lib.hid g1
  have OW:=Lib.hid g3
  have KL:=Lib.hid g2
  have KF:=Lib.hid g4
  have KX:=Lib.hid bX
  have KY:=Lib.hid bY
  have LM:Hid (m.length+1000≤4000000):=Lib.hid (by
   have:=Gath.len (P:=fun _ => false) (c:=1000) (fun i l h => by have:=hlen i l h;simpa using this) g1
   have e0:(List.filter (fun _ => false) pre).length=0:=by rw [List.length_eq_zero_iff,List.filter_eq_nil_iff];simp
   omega)
  have CC:Hid (∀ W,Grew w W→Calls Tryz.prog g (#[.agg #[.int .i64 (at' p i).1,.int .i64 (at' p i).2],.agg #[.int .i64 (at' p ((i+1) % p.length)).1,.int .i64 (at' p ((i+1) % p.length)).2]] ++ cb) W (SideSays (T i) W)):=Lib.hid (HT.out i)
  have VB:∀ k,v.ownBlock=some k→W0.heap.size≤k:=g3.block
  have VL:∀ k,v.ownBlock=some k→k < W.heap.size:=fun k e => (World.ownsRow.lt g3 k e).2
  obtain ⟨⟨x0,x1⟩,_,_⟩:=bX.two
  obtain ⟨⟨y0,y1⟩,_,_⟩:=bY.two
  obtain ⟨p0,p1⟩:=g2.one
  obtain ⟨f0,f1⟩:=g4.one
  have lX:=bX.lt
  have lY:=bY.lt
  clear g1
  have lX_0:Bx < W.heap.size:=by omega
  have lX_1:Bx < W.heap.size+1:=by omega
  have lX_2:Bx < W.heap.size+1+1:=by omega
  have lX_3:Bx < W.heap.size+1+1+1:=by omega
  have lY_0:By < W.heap.size:=by omega
  have lY_1:By < W.heap.size+1:=by omega
  have lY_2:By < W.heap.size+1+1:=by omega
  have lY_3:By < W.heap.size+1+1+1:=by omega
  have l0_0:w.heap.size < W.heap.size:=by omega
  have l0_1:w.heap.size < W.heap.size+1:=by omega
  have l0_2:w.heap.size < W.heap.size+1+1:=by omega
  have l0_3:w.heap.size < W.heap.size+1+1+1:=by omega
  have l1_0:w.heap.size+1 < W.heap.size:=by omega
  have l1_1:w.heap.size+1 < W.heap.size+1:=by omega
  have l1_2:w.heap.size+1 < W.heap.size+1+1:=by omega
  have l1_3:w.heap.size+1 < W.heap.size+1+1+1:=by omega
  gi_wp2_with fail
  refine Bar.begin_round (S:=(fun w' => (w'.cell? ⟨w.heap.size+1,0,none⟩=some v∧w'.frozen? ⟨w.heap.size+1,0,none⟩=false)∧w'.cell? ⟨w.heap.size,0,none⟩=some (.func (.func g) #[] cb)∧(w'.cell? ⟨Bx,0,none⟩=some (.int .i64 (at' p i).1)∧w'.cell? ⟨Bx,1,none⟩=some (.int .i64 (at' p i).2))∧(w'.cell? ⟨By,0,none⟩=some (.int .i64 (at' p ((i+1) % p.length)).1)∧w'.cell? ⟨By,1,none⟩=some (.int .i64 (at' p ((i+1) % p.length)).2)))) 5 (by kernel_rfl) (by kernel_rfl) (by simp [go_sem, *]) (fun hHeld => ?_)
  refine Bar.Walk.take [5] (i:=0) (oi:=⟨some 12,_,_,_,_,_⟩) (v:=?_) rfl (by kernel_rfl) (by kernel_rfl) (by kernel_rfl) (by kernel_rfl) (fun _ _ _ h => h) (Or.inl ⟨by rfl,?_⟩) (by assumption) ?_
  rotate_left
  ·intro w hSw;(try dsimp only at hSw);go_simp;(try with_reducible rfl)
  try simp only [Act.put,List.setIfInBounds_toArray,List.set_cons_zero,List.set_cons_succ]
  refine Bar.Walk.take [5,4] (i:=1) (oi:=⟨some 13,_,_,_,_,_⟩) (v:=?_) rfl (by kernel_rfl) (by kernel_rfl) (by kernel_rfl) (by kernel_rfl) (fun _ _ _ h => h) (Or.inl ⟨by rfl,?_⟩) (by assumption) ?_
  rotate_left
  ·intro w hSw;(try dsimp only at hSw);go_simp;(try with_reducible rfl)
  try simp only [Act.put,List.setIfInBounds_toArray,List.set_cons_zero,List.set_cons_succ]
  refine Bar.Walk.take [5,4] (i:=2) (oi:=⟨some 14,_,_,_,_,_⟩) (v:=?_) rfl (by kernel_rfl) (by kernel_rfl) (by kernel_rfl) (by kernel_rfl) (fun _ _ _ h => h) (Or.inl ⟨by rfl,?_⟩) (by assumption) ?_
  rotate_left
  ·intro w hSw;(try dsimp only at hSw);go_simp;(try with_reducible rfl)
  try simp only [Act.put,List.setIfInBounds_toArray,List.set_cons_zero,List.set_cons_succ]
  refine Bar.Walk.take [5,4] (i:=3) (oi:=⟨some 15,_,_,_,_,_⟩) (v:=?_) rfl (by kernel_rfl) (by kernel_rfl) (by kernel_rfl) (by kernel_rfl) (fun _ _ _ h => h) (Or.inl ⟨by rfl,?_⟩) (by assumption) ?_
  rotate_left
  ·intro w hSw;(try dsimp only at hSw);go_simp;(try with_reducible rfl)
  try simp only [Act.put,List.setIfInBounds_toArray,List.set_cons_zero,List.set_cons_succ]
  refine Bar.Walk.step (i:=4) (o:=⟨some 16,_,_,_,_,_⟩) (by kernel_rfl) rfl (fun K hK => ?_)
  go_simp
  refine (CC.out _ (Grew.drew gB)).mono ?_
  rintro e w1 ⟨u,m',rfl,hTm,hu,gw⟩
  have TM:=Lib.hid hTm
  have GW:=Lib.hid gw
  have OU:=Lib.hid hu
  have b1:=KL.out.drew.grown gw
  obtain ⟨p2,p3⟩:=b1.one
  obtain ⟨f2,f3⟩:=(KF.out.drew.grown gw).one
  obtain ⟨⟨x2,x3⟩,_,_⟩:=(KX.out.drew.grown gw).two
  obtain ⟨⟨y2,y3⟩,_,_⟩:=(KY.out.drew.grown gw).two
  have OW1:=Lib.hid (OW.out.drew.grew gw)
  have Z1:W.heap.size≤w1.heap.size:=gw.size
  clear b1 gw hu hTm
  go_wp2_with fail
  refine hK.out _ _ (by (try dsimp only);simp [go_sem, *]) (fun h1 => ?_)
  clear hK K hHeld
  have hHeld:=h1
  clear h1
  try simp only [Act.put,List.setIfInBounds_toArray,List.set_cons_zero,List.set_cons_succ]
  refine Bar.Walk.pass (o:=⟨some 17,_,_,_,_,_⟩) (by kernel_rfl) rfl (by kernel_rfl) (fun K hK => ?_)
  rw [if_pos (by rfl)]
  refine wp_append_oo _ _ _ 48 Tryz.underlying48 rfl W0.heap.size _ v u m m' rfl OW1.out rfl OU.out (by have:=LM.out;have:=hlen i _ TM.out;omega) (by omega) ?_
  intro v2 w2 own2 gr2
  obtain ⟨sa2,sc2,rfl⟩:=own2.sl.shape
  refine hK.out _ _ ?_
  clear hK K hHeld
  try simp only [Act.put,List.setIfInBounds_toArray,List.set_cons_zero,List.set_cons_succ]
  have nf:v.ownBlock ≠ some w.heap.size:=fun e => by have:=VB _ e;omega
  have nl:v.ownBlock ≠ some (w.heap.size+1):=fun e => by have:=VB _ e;omega
  have k1:=Blk.row (KL.out.drew.grown GW.out) gr2 nl
  have k2:=Blk.row (KF.out.drew.grown GW.out) gr2 nf
  obtain ⟨p4,p5⟩:=k1.one
  have K1:=Lib.hid k1
  have K2:=Lib.hid k2
  have O2:=Lib.hid own2
  have GR:=Lib.hid gr2
  have Z2:w1.heap.size≤w2.heap.size:=gr2.size
  clear k1 k2 own2 gr2 nf nl p0 p1 p2 p3 x0 x1 x2 x3 y0 y1 y2 y3 f0 f1 f2 f3
  refine Bar.any_step (i:=6) (o:=⟨none,_,_,_,_,_⟩) (by kernel_rfl) rfl (fun K hK => ?_)
  go_simp
  refine hK.out _ _ ?_
  clear hK K
  try simp only [Act.put,List.setIfInBounds_toArray,List.set_cons_zero,List.set_cons_succ]
  refine wpAny_done (by kernel_rfl) ?_ _
  refine Bar.Only.out ?_
  gi_wp2_with fail
  have own2:=O2.out
  rw [List.length_append] at own2
  have VB2:=own2.block
  refine ⟨KeepsOthers.from ((KeepsOthers.drew W).trans ((keeps_grew GW.out).trans ((KeepsOthers.of_grownBy GR.out (fun j o e ho => own_cells OW1.out j o e ho)).trans (KeepsOthers.setCell _ _ _)))) _,?_,⟨⟨⟨_,m ++ m',GA.out.snoc TM.out,K1.out.put0,own2.keeps (grownBy_setCell w2 (w.heap.size+1) 0 _) (Or.inr fun e => by have:=VB2 _ e;omega)⟩,K2.out.other (by omega) _,by simp [World.setCell];omega⟩,?_⟩⟩
  ·refine Kept.setCell (Kept.grown (Kept.trans (Kept.refl _ _ W).drew (Kept.below GW.out (by simp;omega) (by simp;omega))) GR.out (by omega) (by omega) ⟨fun e => by have:=VB _ e;omega,fun e => by have:=VB _ e;omega⟩) (by omega) (by omega) _
  ·exact Grew.setCell (Grew.grown (Grew.trans (Grew.drew gB) GW.out) GR.out (fun k e => by have:=VB _ e;omega)) (by show w.heap.size≤w.heap.size+1;omega) _
 case done =>
  rintro D ys W hD rfl ⟨⟨⟨v,m,g1,g2,g3⟩,g4,g5⟩,gB⟩ hK
  obtain ⟨r0,r1⟩:=g2.one
  gi_wp2
  refine ⟨by simp,.inl ⟨_,_,rfl,run_takeDeferred hK,?_⟩⟩
  refine ⟨v,?_,?_⟩
  ·simp [results,Tryz.results153,go_sem]
  ·exact ⟨v,m,rfl,g1,own_mono (g3.keeps (grownBy_putObj' W D _) (Or.inr fun e => by have h:=own_cells g3 D _ e hK;cases h)) (by omega),gB.trans (belowK_b (w:=w) (Nat.le_refl _) W D _ _ (by have:=G0.size;omega) hK rfl rfl)⟩
 case stop =>
  rintro D c pre W _ _ h _
  exact h.elim
end Ct
end Go.Proofs.YtbpgfenippiepaaGreatDoor
namespace Go.Proofs.YtbpgfenippiepaaGreatDoor
open Go.RowKit Go.Shelf Hl
namespace Ct
theorem sl_none (w:World) (a:Option Addr) (c:Nat):Sl w (.slice a 0 c) []:=Or.inl ⟨rfl,a,c,rfl⟩
set_option maxRecDepth 100000 in
set_option maxHeartbeats 4000000 in
theorem outer_c (K:Hl.CodeN) (l:List Pt) (v:Value) (w:World) (hs:Sl w v l) (h4:l.length≤4000) (hp:∀ x,x ∈ l→Plc x):Calls Tryz.prog 119 #[v] w (PolyNew (fun y => y ∈ l) w):=by
 by_cases h0:l=[]
 ·subst h0
  obtain ⟨a,c,rfl⟩:=hs.shape
  have NE:Hid (¬ ∃ y:Pt,y ∈ ([]:List Pt)):=Lib.hid (fun ⟨y,hy⟩ => by cases hy)
  clear hs h4 hp
  go_enter Tryz.func119,Tryz.ntmps119
  go_wp2_with fail
  refine bodyPost_ret (v:=.tuple #[.slice none 0 0,.bool false,.int .i64 0]) (by simp [results,Tryz.results119,go_sem, *]) rfl (Or.inr ⟨NE.out,_,rfl,sl_none _ _ _,Hl.gw⟩)
 ·obtain ⟨b,o,c,rfl,hr⟩:=hs.row h0
  have hn:¬ (l.length:Int)=0:=fun e => h0 (List.length_eq_zero_iff.1 (by omega))
  have hn2:((l.length:Int) == 0)=false:=beq_eq_false_iff_ne.2 hn
  have L1:1≤l.length:=by omega
  have HC:=Lib.hid (K.hull_new l _ w (Or.inr ⟨b,o,c,rfl,hr⟩) h4 h0 (fun i hi => hp _ (at_mem hi)))
  have EC:Hid (∀ W,Grew w W→Calls Tryz.prog 150 #[.slice (some ⟨b,o,none⟩) l.length c] W (OctFar l W)):=Lib.hid (fun W g => eight_c K l b o c W (hr.grown g) L1 (by omega) hp)
  have PS:Hid (∀ q0 q,IsHull l q0→((q0.length≤64∧q=q0)∨(64 < q0.length∧IsOct q0 q))→Poly (fun y => y ∈ l) q):=Lib.hid (fun q0 q h k => ⟨l,q0,fun y => Iff.rfl,h,k⟩)
  obtain ⟨n,hN⟩:∃ n,l.length=n:=⟨_,rfl⟩
  rw [hN] at hn hn2 HC EC ⊢
  clear hs hr h0 hp h4 L1 hN
  go_enter Tryz.func119,Tryz.ntmps119
  go_wp2_with fail
  refine HC.out.mono ?_
  rintro e w1 ⟨q0,hq,⟨h64,v1,rfl,hs1,g1⟩ | ⟨h64,v1,rfl,hs1,g1⟩⟩
  ·have P1:=Lib.hid (PS.out q0 q0 hq (Or.inl ⟨h64,rfl⟩))
   have S1:=Lib.hid hs1
   clear hq hs1 h64
   go_wp2_with fail
   refine bodyPost_ret (v:=.tuple #[v1,.bool true,.int .i64 0]) (by simp [results,Tryz.results119,go_sem, *]) rfl (Or.inl ⟨q0,_,P1.out,rfl,S1.out.grown Hl.gw,Hl.gw⟩)
  ·have P1:=Lib.hid (fun q h => PS.out q0 q hq (Or.inr ⟨h64,h⟩))
   have HQ:=Lib.hid hq
   clear hq hs1 h64
   go_wp2_with fail
   refine (EC.out _ g1).mono ?_
   rintro e w2 ⟨q,v2,ho,rfl,hs2,g2⟩
   have P2:=Lib.hid (P1.out q (ho q0 HQ.out))
   have S2:=Lib.hid (hs2.later g1)
   have G2:=Grew.trans g1 g2
   clear ho hs2 g2 g1
   go_wp2_with fail
   refine bodyPost_ret (v:=.tuple #[v2,.bool true,.int .i64 0]) (by simp [results,Tryz.results119,go_sem, *]) rfl (Or.inl ⟨q,_,P2.out,rfl,S2.out.grown Hl.gw,Hl.gw⟩)
theorem vl_one (x:Pt):Vl [x]↔Plc x:=by
 constructor
 ·exact fun h => h.2.1 0 (by simp)
 ·exact fun h => ⟨⟨by simp,by simp⟩,fun i hi => by
   have:i=0:=by simpa using hi
   subst this;exact h,fun i h1 h2 => by simp at h2;omega,fun h => by simp at h⟩
theorem valid_one (K:Hl.Code) (x:Pt) (b:Nat) (W:World) (hr:Row W b 0 [x]):Calls Tryz.prog 56 #[.slice (some ⟨b,0,none⟩) 1 1] W fun e w' => e=.returned (.bool (decide (Plc x)))∧Grew W w' :=
 (K.valid [x] _ W (Or.inr ⟨b,0,1,rfl,hr⟩) (by simp)).mono (by
  rintro e w' ⟨r,rfl,h,g⟩
  refine ⟨?_,g⟩
  congr 2
  rw [Bool.eq_iff_iff,h,vl_one,decide_eq_true_eq])
set_option maxRecDepth 100000 in
theorem inc_ok (K:Hl.Code) (h:Hf) (x:Pt) (w:World) (hh:WF h) (hx:Plc x):Calls Tryz.prog 160 #[.agg #[.int .i64 h.1,.int .i64 h.2.1,.int .i64 h.2.2],.agg #[.int .i64 x.1,.int .i64 x.2]] w (YesNo (ov h x≤0) w):=by
 have WC:Hid (∀ W,Calls Tryz.prog 162 #[.agg #[.int .i64 h.1,.int .i64 h.2.1,.int .i64 h.2.2]] W fun e w' => e=.returned (.bool true)∧W.alloc (.cells #[.int .i64 h.1,.int .i64 h.2.1,.int .i64 h.2.2] 78)=w'):=Lib.hid (fun W => by have g:=well_c h W;rwa [decide_eq_true hh] at g)
 have VC:Hid (∀ b W,Row W b 0 [x]→Calls Tryz.prog 56 #[.slice (some ⟨b,0,none⟩) 1 1] W fun e w' => e=.returned (.bool true)∧Grew W w'):=Lib.hid (fun b W hr => by have g:=valid_one K x b W hr;rwa [decide_eq_true hx] at g)
 have BC:Hid (∀ W,Calls Tryz.prog 164 #[.agg #[.int .i64 h.1,.int .i64 h.2.1,.int .i64 h.2.2],.agg #[.int .i64 x.1,.int .i64 x.2]] W fun e w' => e=.returned (.int .i64 (ov h x))∧Grew W w'):=Lib.hid (fun W => (beyond_c h x W hh.eb hx).mono (by
  rintro e w' ⟨rfl,rfl⟩
  exact ⟨rfl,((Grew.refl _).alloc _ _).alloc _ _⟩))
 clear hh hx
 obtain ⟨s,hs⟩:∃ s,ov h x=s:=⟨_,rfl⟩
 rw [hs] at BC ⊢
 clear hs
 go_enter Tryz.func160,Tryz.ntmps160
 go_wp2_with fail
 refine (WC.out _).mono ?_
 rintro e w1 ⟨rfl,rfl⟩
 go_wp2_with fail
 refine (VC.out _ _ (row_one (by simp))).mono ?_
 rintro e w4 ⟨rfl,g4⟩
 obtain ⟨c4,f4,z4⟩:=laid g4
 try simp at z4
 have G4:Grew w w4:=Grew.trans Hl.gw g4
 clear g4
 have l0:w.heap.size < w4.heap.size:=by omega
 have l1:w.heap.size+1 < w4.heap.size:=by omega
 have q0:w4.cell? ⟨w.heap.size,0,none⟩=some (.int .i64 h.1):=by simp [go_sem, *]
 have q1:w4.cell? ⟨w.heap.size,1,none⟩=some (.int .i64 h.2.1):=by simp [go_sem, *]
 have q2:w4.cell? ⟨w.heap.size,2,none⟩=some (.int .i64 h.2.2):=by simp [go_sem, *]
 have q3:w4.cell? ⟨w.heap.size+1,0,none⟩=some (.int .i64 x.1):=by simp [go_sem, *]
 have q4:w4.cell? ⟨w.heap.size+1,1,none⟩=some (.int .i64 x.2):=by simp [go_sem, *]
 clear c4 f4 z4
 go_wp2_with fail
 refine (BC.out _).mono ?_
 rintro e w5 ⟨rfl,g5⟩
 have G5:Grew w w5:=Grew.trans G4 g5
 clear g5 q0 q1 q2 q3 q4
 go_wp2_with fail
 go_ret2
 exact ⟨decide (s≤0),rfl,decide_eq_true_iff,G5⟩
set_option maxRecDepth 100000 in
theorem inc_bad (K:Hl.Code) (h:Hf) (x:Pt) (w:World) (hb:¬ (WF h∧Plc x)):Calls Tryz.prog 160 #[.agg #[.int .i64 h.1,.int .i64 h.2.1,.int .i64 h.2.2],.agg #[.int .i64 x.1,.int .i64 x.2]] w fun e w' => e=.returned (.tuple #[.bool false,.int .i64 1])∧Grew w w':=by
 have WC:=Lib.hid (well_c h)
 by_cases hh:WF h
 ·rw [decide_eq_true hh] at WC
  have VC:Hid (∀ b W,Row W b 0 [x]→Calls Tryz.prog 56 #[.slice (some ⟨b,0,none⟩) 1 1] W fun e w' => e=.returned (.bool false)∧Grew W w'):=Lib.hid (fun b W hr => by have g:=valid_one K x b W hr;rwa [decide_eq_false (fun hx => hb ⟨hh,hx⟩)] at g)
  clear hh hb
  go_enter Tryz.func160,Tryz.ntmps160
  go_wp2_with fail
  refine (WC.out _).mono ?_
  rintro e w1 ⟨rfl,rfl⟩
  go_wp2_with fail
  refine (VC.out _ _ (row_one (by simp))).mono ?_
  rintro e w4 ⟨rfl,g4⟩
  have G4:Grew w w4:=Grew.trans Hl.gw g4
  clear g4
  go_wp2_with fail
  go_ret2
  exact ⟨rfl,G4⟩
 ·rw [decide_eq_false hh] at WC
  clear hh hb
  go_enter Tryz.func160,Tryz.ntmps160
  go_wp2_with fail
  refine (WC.out _).mono ?_
  rintro e w1 ⟨rfl,rfl⟩
  go_wp2_with fail
  go_ret2
  exact ⟨rfl,Hl.gw⟩
def LeftT (p:List Pt) (h:Hf) (i:Nat) (l:List Pt):Prop:=(∀ y,y ∈ l↔((y=at' p i∧ov h y≤0)∨Fr (at' p i) (at' p ((i+1) % p.length)) (ov h (at' p i)) (ov h (at' p ((i+1) % p.length))) y))∧l.length≤5
theorem fr_plc {a b y:Pt} {s t:Int} (ha:Plc a) (hb:Plc b) (h:Fr a b s t y):Plc y:=by
 obtain ⟨m,n,hw,h1,h2⟩:=h
 exact ⟨wr_bounds hw.1 hw.2.1 ha.1 hb.1 h1,wr_bounds hw.1 hw.2.1 ha.2 hb.2 h2⟩
theorem left_plc {p:List Pt} (hp:Plcs p) {h:Hf} {y:Pt} (hy:LeftS p h y):Plc y:=by
 rcases hy with ⟨i,hi,rfl,_⟩ | ⟨i,hi,hf⟩
 ·exact hp i hi
 ·exact fr_plc (hp i hi) (hp _ (Nat.mod_lt _ (by omega))) hf
theorem left_gath {p:List Pt} {h:Hf} {l:List Pt} (hg:Gath (LeftT p h) (List.range p.length) l):(∀ y,y ∈ l↔LeftS p h y)∧l.length≤5 * p.length:=by
 constructor
 ·intro y
  rw [hg.mem (F:=fun i y => (y=at' p i∧ov h y≤0)∨Fr (at' p i) (at' p ((i+1) % p.length)) (ov h (at' p i)) (ov h (at' p ((i+1) % p.length))) y) (fun i l hl => hl.1)]
  unfold LeftS
  constructor
  ·rintro ⟨i,hi,⟨e,hs⟩ | hf⟩
   ·exact Or.inl ⟨i,List.mem_range.1 hi,e.symm,hs⟩
   ·exact Or.inr ⟨i,List.mem_range.1 hi,hf⟩
  ·rintro (⟨i,hi,e,hs⟩ | ⟨i,hi,hf⟩)
   ·exact ⟨i,List.mem_range.2 hi,Or.inl ⟨e.symm,hs⟩⟩
   ·exact ⟨i,List.mem_range.2 hi,Or.inr hf⟩
 ·have:=hg.len (P:=fun _ => false) (c:=5) (fun i l hl => by have:=hl.2;simpa using this)
  have e0:(List.filter (fun _ => false) (List.range p.length)).length=0:=by rw [List.length_eq_zero_iff,List.filter_eq_nil_iff];simp
  rw [List.length_range] at this
  omega
set_option maxRecDepth 100000 in
set_option maxHeartbeats 4000000 in
theorem cut1_c (h:Hf) (Be:Nat) (a b:Pt) (w:World) (hB:Blk w Be #[.int .i64 h.1,.int .i64 h.2.1,.int .i64 h.2.2] 172) (hh:EB h) (ha:Plc a) (hb:Plc b):Calls Tryz.prog 163 (#[.agg #[.int .i64 a.1,.int .i64 a.2],.agg #[.int .i64 b.1,.int .i64 b.2]] ++ #[.pointer (some ⟨Be,0,none⟩)]) w (SideSays (fun l => (∀ y,y ∈ l↔((y=a∧ov h y≤0)∨Fr a b (ov h a) (ov h b) y))∧l.length≤5) w):=by
 have FC:=Lib.hid (fun W => frame_c h a b W hh ha hb)
 have BC:Hid (∀ W,Calls Tryz.prog 164 #[.agg #[.int .i64 h.1,.int .i64 h.2.1,.int .i64 h.2.2],.agg #[.int .i64 a.1,.int .i64 a.2]] W fun e w' => e=.returned (.int .i64 (ov h a))∧Grew W w'):=Lib.hid (fun W => (beyond_c h a W hh ha).mono (by
  rintro e w' ⟨rfl,rfl⟩
  exact ⟨rfl,((Grew.refl _).alloc _ _).alloc _ _⟩))
 have HB:=Lib.hid hB
 have HA:=Lib.hid (Blk.new w #[.int .i64 a.1,.int .i64 a.2] 24)
 have OV:Hid (∀ y,y=a∧ov h y≤0↔y=a∧ov h a≤0):=Lib.hid (fun y => by
  constructor
  ·rintro ⟨rfl,g⟩;exact ⟨rfl,g⟩
  ·rintro ⟨rfl,g⟩;exact ⟨rfl,g⟩)
 obtain ⟨e0,e1,e2⟩:=blk_three hB
 have lB:=hB.lt
 have l1:Be < w.heap.size+1:=by omega
 have l2:Be < w.heap.size+1+1:=by omega
 obtain ⟨s,hs⟩:∃ s,ov h a=s:=⟨_,rfl⟩
 rw [hs] at FC BC OV ⊢
 generalize ov h b=t at *
 have FIN:Hid (∀ l:List Pt,(∀ y,y ∈ l↔Fr a b s t y)→l.length≤4→((s≤0→(∀ y,y ∈ l ++ [a]↔((y=a∧ov h y≤0)∨Fr a b s t y))∧(l ++ [a]).length≤5)∧(¬ s≤0→(∀ y,y ∈ l↔((y=a∧ov h y≤0)∨Fr a b s t y))∧l.length≤5))):=Lib.hid (fun l hm hl => ⟨fun h0 => ⟨fun y => by
  rw [List.mem_append,List.mem_singleton,hm y,OV.out y]
  constructor
  ·rintro (g | g)
   ·exact Or.inr g
   ·exact Or.inl ⟨g,h0⟩
  ·rintro (⟨g,_⟩ | g)
   ·exact Or.inr g
   ·exact Or.inl g,by rw [List.length_append,List.length_singleton];omega⟩,fun h0 => ⟨fun y => by
  rw [hm y,OV.out y]
  constructor
  ·exact Or.inr
  ·rintro (⟨_,g⟩ | g)
   ·exact absurd g h0
   ·exact g,by omega⟩⟩)
 clear hs hh ha hb hB OV
 simp only [List.append_toArray,List.cons_append,List.nil_append]
 go_enter Tryz.func163,Tryz.ntmps163
 go_wp2_with fail
 refine (FC.out _).mono ?_
 rintro e w1 ⟨v,l,rfl,hO,hm,hl,g1⟩
 have G0:Grew w ((w.alloc (.cells #[.int .i64 a.1,.int .i64 a.2] 24)).alloc (.cells #[.int .i64 b.1,.int .i64 b.2] 24)):=((Grew.refl w).alloc _ _).alloc _ _
 have G1:Grew w w1:=Grew.trans G0 g1
 have A1:=(HA.out.alloc (.cells #[.int .i64 b.1,.int .i64 b.2] 24)).grown g1
 have HA1:=Lib.hid A1
 obtain ⟨⟨a0,a1⟩,_,_⟩:=A1.two
 have E1:=HB.out.grown G1
 obtain ⟨x0,x1,x2⟩:=blk_three E1
 have HO:=Lib.hid (own_mono (B':=w.heap.size) hO (by simp;omega))
 have HF:=Lib.hid (FIN.out l hm (by split at hl <;> omega))
 have HL:Hid (l.length≤4):=Lib.hid (by split at hl <;> omega)
 obtain ⟨sa,sc,rfl⟩:=hO.sl.shape
 have lA:=A1.lt
 have lE:=E1.lt
 clear hO hm hl g1 A1 E1 e0 e1 e2
 go_wp2_with fail
 refine (BC.out _).mono ?_
 rintro e w2 ⟨rfl,g2⟩
 have G2:Grew w w2:=Grew.trans G1 g2
 obtain ⟨⟨b0,b1⟩,_,_⟩:=(HA1.out.grown g2).two
 have HO2:=Lib.hid (HO.out.grew g2)
 have lA2:=(HA1.out.grown g2).lt
 have Z2:=G2.size
 clear g2 a0 a1 x0 x1 x2
 by_cases h0:s≤0
 ·go_wp2_with (at_builtin;go_must (refine append_T _ rfl _ _ 48 Tryz.underlying48 rfl w.heap.size _ l [a] _ 0 1 rfl (HO2.out.alloc _) rfl (by exact row_one rfl) (by have:=HL.out;simp;omega) (by simp;omega) ?_;intro v' w' own' gr';obtain ⟨sa',sc',rfl⟩:=own'.sl.shape))
  go_ret
  exact ⟨_,l ++ [a],rfl,HF.out.1 h0,by rw [List.length_append,List.length_singleton] at own';exact own',Grew.grown (G2.alloc _ _) gr' (fun k e => HO2.out.block k e)⟩
 ·go_wp2_with fail
  go_ret
  exact ⟨_,l,rfl,HF.out.2 h0,HO2.out,G2⟩
set_option maxRecDepth 100000 in
set_option maxHeartbeats 4000000 in
theorem cutc_new (K:Hl.CodeN) (p:List Pt) (h:Hf) (v:Value) (w:World) (hs:Sl w v p) (hv:Vl p) (hh:WF h):Calls Tryz.prog 126 #[v,.agg #[.int .i64 h.1,.int .i64 h.2.1,.int .i64 h.2.2]] w (PolyNew (LeftS p h) w):=by
 obtain ⟨b,o,c,rfl,hr⟩:=hs.row (fun e => by have:=hv.1.1;rw [e] at this;cases this)
 have VC:Hid (∀ W,Grew w W→Calls Tryz.prog 56 #[.slice (some ⟨b,o,none⟩) p.length c] W fun e w' => e=.returned (.bool true)∧Grew W w'):=Lib.hid (fun W g => (K.valid p _ W (Or.inr ⟨b,o,c,rfl,hr.grown g⟩) (by have:=hv.1.2;omega)).mono (by
  rintro e w' ⟨r,rfl,h,g⟩
  rw [h.2 hv]
  exact ⟨rfl,g⟩))
 have WC:Hid (∀ W,Calls Tryz.prog 162 #[.agg #[.int .i64 h.1,.int .i64 h.2.1,.int .i64 h.2.2]] W fun e w' => e=.returned (.bool true)∧Grew W w'):=Lib.hid (fun W => (well_c h W).mono (by
  rintro e w' ⟨rfl,rfl⟩
  rw [decide_eq_true hh]
  exact ⟨rfl,(Grew.refl _).alloc _ _⟩))
 have KC:Hid (∀ Be W,Grew w W→Blk W Be #[.int .i64 h.1,.int .i64 h.2.1,.int .i64 h.2.2] 172→Calls Tryz.prog 153 #[.slice (some ⟨b,o,none⟩) p.length c,.func (.func 163) #[] #[.pointer (some ⟨Be,0,none⟩)]] W (KeepSays (LeftT p h) p.length W)):=Lib.hid (fun Be W g hB => keep_c 163 _ (enters_of Tryz.func163 (by kernel_rfl) rfl) p b o c W (hr.grown g) hv.1.1 hv.1.2 (LeftT p h) (fun i l hl => by have:=hl.2;omega) (fun i W' g' => cut1_c h Be _ _ W' (hB.grown g') hh.eb (at_plc hv.2.1 i) (at_plc hv.2.1 _)))
 have OC:Hid (∀ l v W,Gath (LeftT p h) (List.range p.length) l→Sl W v l→Calls Tryz.prog 119 #[v] W (PolyNew (LeftS p h) W)):=Lib.hid (fun l v W hg hs => by
  obtain ⟨hm,hl⟩:=left_gath hg
  refine (outer_c K l v W hs (by have:=hv.1.2;omega) (fun x hx => left_plc hv.2.1 ((hm x).1 hx))).mono ?_
  rintro e w' (⟨q,v,hq,r⟩ | ⟨hn,r⟩)
  ·exact Or.inl ⟨q,v,hq.same hm,r⟩
  ·exact Or.inr ⟨fun ⟨y,hy⟩ => hn ⟨y,(hm y).2 hy⟩,r⟩)
 have HH:=Lib.hid (Blk.new w #[.int .i64 h.1,.int .i64 h.2.1,.int .i64 h.2.2] 78)
 clear hs hr hv hh
 generalize p.length=n at *
 go_enter Tryz.func126,Tryz.ntmps126
 go_wp2_with fail
 refine (VC.out _ ((Grew.refl _).alloc _ _)).mono ?_
 rintro e w1 ⟨rfl,g1⟩
 have G1:Grew w w1:=Grew.trans ((Grew.refl _).alloc _ _) g1
 have H1:=Lib.hid (HH.out.grown g1)
 obtain ⟨x0,x1,x2⟩:=blk_three H1.out
 have lx:=H1.out.lt
 clear g1
 go_wp2_with fail
 refine (WC.out _).mono ?_
 rintro e w2 ⟨rfl,g2⟩
 have G2:Grew w w2:=Grew.trans G1 g2
 have H2:=Lib.hid (H1.out.grown g2)
 obtain ⟨y0,y1,y2⟩:=blk_three H2.out
 have ly:=H2.out.lt
 clear g2 G1 x0 x1 x2
 go_wp2_with fail
 refine (KC.out _ _ (G2.alloc _ _) (Blk.new w2 _ _)).mono ?_
 rintro e w3 ⟨v3,l,rfl,hg,hO,g3⟩
 have G3:Grew w w3:=Grew.trans (G2.alloc _ _) g3
 have OC3:=Lib.hid (OC.out l v3 w3 hg hO.sl)
 clear g3 hg hO G2
 go_wp2_with fail
 refine OC3.out.mono ?_
 rintro e w4 (⟨q,v4,hq,rfl,hs4,g4⟩ | ⟨hn,v4,rfl,hs4,g4⟩)
 ·have G4:Grew w w4:=Grew.trans G3 g4
  clear g4
  go_wp2_with fail
  refine bodyPost_ret (v:=.tuple #[v4,.bool true,.int .i64 0]) (by simp [results,Tryz.results126,go_sem, *]) rfl (Or.inl ⟨q,_,hq,rfl,(hs4.later G3).grown Hl.gw,Hl.gw⟩)
 ·have G4:Grew w w4:=Grew.trans G3 g4
  clear g4
  go_wp2_with fail
  refine bodyPost_ret (v:=.tuple #[v4,.bool false,.int .i64 0]) (by simp [results,Tryz.results126,go_sem, *]) rfl (Or.inr ⟨hn,_,rfl,hs4.grown Hl.gw,Hl.gw⟩)
theorem cutc_ok (K:Hl.CodeN) (p:List Pt) (h:Hf) (v:Value) (w:World) (hs:Sl w v p) (hv:Vl p) (hh:WF h):Calls Tryz.prog 126 #[v,.agg #[.int .i64 h.1,.int .i64 h.2.1,.int .i64 h.2.2]] w (PolySays (LeftS p h) w):=(cutc_new K p h v w hs hv hh).mono fun _ _ h => h.says
set_option maxRecDepth 100000 in
set_option maxHeartbeats 4000000 in
theorem cutc_bad (K:Hl.Code) (p:List Pt) (h:Hf) (v:Value) (w:World) (hs:Sl w v p) (hl:p.length≤9223372036854775807) (hb:¬ (Vl p∧WF h)):Calls Tryz.prog 126 #[v,.agg #[.int .i64 h.1,.int .i64 h.2.1,.int .i64 h.2.2]] w (NoSays w):=by
 have WC:Hid (∀ W,Calls Tryz.prog 162 #[.agg #[.int .i64 h.1,.int .i64 h.2.1,.int .i64 h.2.2]] W fun e w' => e=.returned (.bool (decide (WF h)))∧Grew W w'):=Lib.hid (fun W => (well_c h W).mono (by
  rintro e w' ⟨rfl,rfl⟩
  exact ⟨rfl,(Grew.refl _).alloc _ _⟩))
 have VC:Hid (∀ W,Grew w W→Calls Tryz.prog 56 #[v] W fun e w' => ∃ r:Bool,e=.returned (.bool r)∧Hid (r=true↔Vl p)∧Grew W w'):=Lib.hid (fun W g => (K.valid p _ W (hs.grown g) hl).mono (by
  rintro e w' ⟨r,rfl,h,g⟩
  exact ⟨r,rfl,Lib.hid h,g⟩))
 have HH:=Lib.hid (Blk.new w #[.int .i64 h.1,.int .i64 h.2.1,.int .i64 h.2.2] 78)
 have HB:=Lib.hid hb
 obtain ⟨sa,sc,rfl⟩:=hs.shape
 clear hs hb hl
 go_enter Tryz.func126,Tryz.ntmps126
 go_wp2_with fail
 refine (VC.out _ ((Grew.refl _).alloc _ _)).mono ?_
 rintro e w1 ⟨r,rfl,hr,g1⟩
 have G1:Grew w w1:=Grew.trans ((Grew.refl _).alloc _ _) g1
 have H1:=Lib.hid (HH.out.grown g1)
 obtain ⟨x0,x1,x2⟩:=blk_three H1.out
 have lx:=H1.out.lt
 clear g1
 cases r
 ·go_wp2_with fail
  refine bodyPost_ret (v:=.tuple #[.slice none 0 0,.bool false,.int .i64 1]) (by simp [results,Tryz.results126,go_sem, *]) rfl ⟨_,rfl,sl_none _ _ _,Hl.gw⟩
 ·have hw:decide (WF h)=false:=decide_eq_false (fun g => HB.out ⟨hr.out.1 rfl,g⟩)
  rw [hw] at WC
  clear hw
  go_wp2_with fail
  refine (WC.out _).mono ?_
  rintro e w2 ⟨rfl,g2⟩
  have G2:Grew w w2:=Grew.trans G1 g2
  clear g2 x0 x1 x2
  go_wp2_with fail
  refine bodyPost_ret (v:=.tuple #[.slice none 0 0,.bool false,.int .i64 1]) (by simp [results,Tryz.results126,go_sem, *]) rfl ⟨_,rfl,sl_none _ _ _,Hl.gw⟩
end Ct
end Go.Proofs.YtbpgfenippiepaaGreatDoor
namespace Go.Proofs.YtbpgfenippiepaaGreatDoor
open Go.RowKit Go.Shelf Hl
namespace Ct
def IndexSays (d:Pt→Bool) (l:List Pt) (w:World) (e:Ending) (w':World):Prop:=∃ z:Int,e=.returned (.int .i64 z)∧Hid ((z = -1∧∀ j,j < l.length→d (at' l j)=false)∨∃ k:Nat,k < l.length∧z=k∧d (at' l k)=true∧∀ j,j < k→d (at' l j)=false)∧Grew w w'
set_option maxRecDepth 100000 in
set_option maxHeartbeats 4000000 in
theorem index_c (f:Nat) (cb:Array Value) (eg:∀ args w,(callFunc f args).run Tryz.prog w=.ok (.enter f args) w) (d:Pt→Bool) (l:List Pt) (b o c:Nat) (w:World) (hr:Row w b o l) (h2:l.length≤4000000)
  (hC:∀ x W,x ∈ l→Grew w W→Calls Tryz.prog f (#[.agg #[.int .i64 x.1,.int .i64 x.2]] ++ cb) W fun e w' => e=.returned (.bool (d x))∧Grew W w') :
  Calls Tryz.prog 186 #[.slice (some ⟨b,o,none⟩) l.length c,.func (.func f) #[] cb] w (IndexSays d l w):=by
 have HR:=Lib.hid hr
 have HC:=Lib.hid hC
 clear hr hC
 go_enter Tryz.func186,Tryz.ntmps186
 go_wp2_with fail
 go_loopw [5,8] (fun _ i wr => ∃ k:Nat,k≤l.length∧i=.int .i64 k∧Grew w wr∧Hid (∀ j,j < k→d (at' l j)=false)) (fun _ i _ => l.length - (intOf i).toNat)
 case atStart => exact ⟨0,Nat.zero_le _,rfl,Grew.refl _,Lib.hid (fun j hj => by omega)⟩
 case round =>
  obtain ⟨k,hk,rfl,G,D⟩:=hrel
  by_cases hlt:k < l.length
  ·obtain ⟨q0,q1⟩:=(HR.out.grown G).2 k hlt
   have i0:(0:Int)≤(k:Int):=by omega
   have i1:(k:Int) < (l.length:Int):=by omega
   obtain ⟨r,hr⟩:∃ r,d (at' l k)=r:=⟨_,rfl⟩
   have RD:=Lib.hid hr
   have CC:Hid (∀ W,Grew w W→Calls Tryz.prog f (#[.agg #[.int .i64 (at' l k).1,.int .i64 (at' l k).2]] ++ cb) W fun e w' => e=.returned (.bool r)∧Grew W w'):=Lib.hid (fun W g => by rw [← hr];exact HC.out _ W (at_mem hlt) g)
   clear hr
   cases r
   ·go_wp2_with fail
    refine (CC.out _ G).mono ?_
    rintro e w1 ⟨rfl,g1⟩
    have G1:Grew w w1:=Grew.trans G g1
    clear g1
    go_wp2_with fail
    go_roundw
    case rel => exact ⟨k+1,by omega,by go_num,G1,Lib.hid (fun j hj => by
     by_cases e:j=k
     ·rw [e];exact RD.out
     ·exact D.out j (by omega))⟩
    case measure => simp [intOf];omega
   ·go_wp2_with fail
    refine (CC.out _ G).mono ?_
    rintro e w1 ⟨rfl,g1⟩
    have G1:Grew w w1:=Grew.trans G g1
    clear g1
    go_wp2_with fail
    go_ret
    exact ⟨k,rfl,Lib.hid (Or.inr ⟨k,hlt,rfl,RD.out,D.out⟩),G1⟩
  ·obtain rfl:k=l.length:=by omega
   have D':=Lib.hid D.out
   go_wp2_with fail
   go_ret
   exact ⟨-1,rfl,Lib.hid (Or.inl ⟨rfl,D'.out⟩),G⟩
def DelSays (B:Nat) (w0:World) (l:List Pt) (e:Ending) (w':World):Prop:=∃ v,e=.returned v∧Hl.Own B w' v l∧Grew w0 w'
theorem take_snoc (l:List Pt) {j:Nat} (hj:j < l.length):l.take (j+1)=l.take j ++ [at' l j]:=by
 rw [List.take_add_one]
 unfold at'
 rw [List.getD_eq_getElem?_getD,List.getElem?_eq_getElem hj]
 rfl
theorem at_set (L:List Pt) (i m:Nat) (x:Pt) (h:m ≠ i):at' (L.set i x) m=at' L m:=by
 unfold at'
 rw [List.getD_eq_getElem?_getD,List.getD_eq_getElem?_getD,List.getElem?_set_ne (fun e => h e.symm)]
theorem take_set (L:List Pt) {i:Nat} (hi:i < L.length) (x:Pt):(L.set i x).take (i+1)=L.take i ++ [x]:=by
 have h:=take_snoc (L.set i x) (j:=i) (by simpa using hi)
 rw [h,List.take_set_of_le (Nat.le_refl _)]
 congr 2
 unfold at'
 rw [List.getD_eq_getElem?_getD,List.getElem?_set_self hi]
 rfl
structure DelInv (d:Pt→Bool) (l L:List Pt) (i j:Nat):Prop where
 len:L.length=l.length
 lt:i < j
 low:L.take i=(l.take j).filter fun x => !d x
 high:∀ m,j≤m→at' L m=at' l m
theorem DelInv.start {d:Pt→Bool} {l:List Pt} {k:Nat} (hk:k < l.length) (h:d (at' l k)=true) (h0:∀ j,j < k→d (at' l j)=false):DelInv d l l k (k+1) :=
 ⟨rfl,by omega,by
  rw [take_snoc l hk,List.filter_append,List.filter_cons_of_neg (by simp [h]),List.filter_nil,List.append_nil]
  symm
  rw [List.filter_eq_self]
  intro x hx
  obtain ⟨i,hi,e⟩:=mem_at hx
  rw [List.length_take] at hi
  rw [at_take (by omega) (by omega)] at e
  rw [← e,h0 i (by omega)]
  rfl,fun _ _ => rfl⟩
theorem DelInv.drop {d:Pt→Bool} {l L:List Pt} {i j:Nat} (h:DelInv d l L i j) (hj:j < l.length) (hd:d (at' l j)=true):DelInv d l L i (j+1) :=
 ⟨h.len,by have:=h.lt;omega,by rw [take_snoc l hj,List.filter_append,List.filter_cons_of_neg (by simp [hd]),List.filter_nil,List.append_nil];exact h.low,fun m hm => h.high m (by omega)⟩
theorem DelInv.keep {d:Pt→Bool} {l L:List Pt} {i j:Nat} (h:DelInv d l L i j) (hj:j < l.length) (hd:d (at' l j)=false):DelInv d l (L.set i (at' l j)) (i+1) (j+1) :=
 ⟨by rw [List.length_set];exact h.len,by have:=h.lt;omega,by
  rw [take_set L (by have:=h.lt;have:=h.len;omega),take_snoc l hj,List.filter_append,List.filter_cons_of_pos (by simp [hd]),List.filter_nil,h.low],fun m hm => by
  rw [at_set _ _ _ _ (by have:=h.lt;omega)];exact h.high m (by omega)⟩
set_option maxRecDepth 100000 in
set_option maxHeartbeats 8000000 in
theorem delete_c (f:Nat) (cb:Array Value) (eg:∀ args w,(callFunc f args).run Tryz.prog w=.ok (.enter f args) w) (d:Pt→Bool) (w0:World) (l:List Pt) (B g cap:Nat) (w:World) (ho:OwnAt B w g cap l) (h2:l.length≤4000000) (hB:w0.heap.size≤B) (hG:Grew w0 w)
  (hC:∀ x W,x ∈ l→Grew w0 W→Calls Tryz.prog f (#[.agg #[.int .i64 x.1,.int .i64 x.2]] ++ cb) W fun e w' => e=.returned (.bool (d x))∧Grew W w') :
  Calls Tryz.prog 151 #[.slice (some ⟨g,0,none⟩) l.length cap,.func (.func f) #[] cb] w (DelSays B w0 (l.filter fun x => !d x)):=by
 have IC:=Lib.hid (index_c f cb eg d l g 0 cap w (by exact ho.row) h2 (fun x W hx g => hC x W hx (Grew.trans hG g)))
 have HO:=Lib.hid ho
 have HC:=Lib.hid hC
 have gB:w0.heap.size≤g:=Nat.le_trans hB ho.1
 have hcap:l.length≤cap:=ho.2.1
 have hmax:cap≤9223372036854775807:=ho.2.2.1
 have HB:=Lib.hid hB
 clear ho hC hB
 go_enter Tryz.func151,Tryz.ntmps151
 go_wp2_with fail
 refine IC.out.mono ?_
 rintro e w1 ⟨z,rfl,hz,g1⟩
 have G1:Grew w0 w1:=Grew.trans hG g1
 have O1:=Lib.hid (HO.out.grew g1)
 clear g1
 by_cases hz1:z = -1
 ·have ALL:Hid ((l.filter fun x => !d x)=l):=Lib.hid (by
   rcases hz.out with ⟨_,h⟩ | ⟨k,_,e,_⟩
   ·rw [List.filter_eq_self]
    intro x hx
    obtain ⟨j,hj,e⟩:=mem_at hx
    rw [← e,h j hj]
    rfl
   ·omega)
  subst hz1
  go_wp2_with fail
  go_ret
  exact ⟨_,rfl,by rw [ALL.out];exact own_at.1 O1.out,G1⟩
 ·obtain ⟨k,hk,rfl,hd,h0⟩:∃ k:Nat,k < l.length∧z=k∧d (at' l k)=true∧∀ j,j < k→d (at' l j)=false:=by
   rcases hz.out with ⟨h,_⟩ | h
   ·exact absurd h hz1
   ·exact h
  have ST:=Lib.hid (DelInv.start hk hd h0)
  clear hd h0 hz
  have k1:((k:Int) == -1)=false:=by rw [beq_eq_false_iff_ne];omega
  go_wp2_with fail
  go_loopw [5,6,7] (fun u5 u6 _ wr => ∃ (i j:Nat) (L:List Pt),u5=.int .i64 i∧u6=.int .i64 j∧j≤l.length∧Hid (OwnAt B wr g cap L)∧Grew w0 wr∧Hid (DelInv d l L i j)) (fun _ j _ _ => l.length - (intOf j).toNat)
  case atStart => exact ⟨k,k+1,l,rfl,by go_num,by omega,O1,G1,ST⟩
  case round =>
   clear G1 O1 ST k1 hk
   obtain ⟨i,j,L,rfl,rfl,hj,HO1,G,DI⟩:=hrel
   have hij:=DI.out.lt
   have HLEN:Hid (L.length=l.length):=Lib.hid DI.out.len
   by_cases hlt:j < l.length
   ·obtain ⟨q0,q1⟩:=HO1.out.cells (i:=j) (by have:=HLEN.out;omega)
    rw [DI.out.high j (Nat.le_refl _)] at q0 q1
    have i0:(0:Int)≤(j:Int):=by omega
    have i1:(j:Int) < (l.length:Int):=by omega
    have i2:(0:Int)≤(i:Int):=by omega
    have i3:(i:Int) < (l.length:Int):=by omega
    have lg:=HO1.out.lt
    have lg1:g < wr.heap.size+1:=by omega
    obtain ⟨r,hr⟩:∃ r,d (at' l j)=r:=⟨_,rfl⟩
    have RD:=Lib.hid hr
    have CC:Hid (∀ W,Grew w0 W→Calls Tryz.prog f (#[.agg #[.int .i64 (at' l j).1,.int .i64 (at' l j).2]] ++ cb) W fun e w' => e=.returned (.bool r)∧Grew W w'):=Lib.hid (fun W g => by rw [← hr];exact HC.out _ W (at_mem hlt) g)
    have VB:=Lib.hid (Blk.new wr #[.int .i64 (at' l j).1,.int .i64 (at' l j).2] 24)
    clear hr
    cases r
    ·have NX:=Lib.hid (DI.out.keep hlt RD.out)
     clear DI
     go_wp2_with fail
     refine (CC.out _ (G.alloc _ _)).mono ?_
     rintro e w2 ⟨rfl,g2⟩
     have G2:Grew w0 w2:=Grew.trans (G.alloc _ _) g2
     have O2:=HO1.out.grew (Grew.trans ((Grew.refl _).alloc _ _) g2)
     obtain ⟨⟨v0,v1⟩,_,_⟩:=(VB.out.grown g2).two
     obtain ⟨s0,s1⟩:=O2.cells (i:=i) (by have:=HLEN.out;omega)
     have f0:=O2.frozen (i * 2)
     have f1:=O2.frozen (i * 2+1)
     have lg2:=O2.lt
     have OS:=Lib.hid (O2.set (i:=i) (by have:=HLEN.out;omega) (at' l j))
     clear O2 g2 q0 q1
     go_wp2_with fail
     go_roundw
     case rel => exact ⟨i+1,j+1,_,by go_num,by go_num,by omega,OS,(G2.setCell (by exact gB) _).setCell (by exact gB) _,NX⟩
     case measure => simp [intOf];omega
    ·have NX:=Lib.hid (DI.out.drop hlt RD.out)
     clear DI
     go_wp2_with fail
     refine (CC.out _ (G.alloc _ _)).mono ?_
     rintro e w2 ⟨rfl,g2⟩
     have G2:Grew w0 w2:=Grew.trans (G.alloc _ _) g2
     have O2:=Lib.hid (HO1.out.grew (Grew.trans ((Grew.refl _).alloc _ _) g2))
     clear g2 q0 q1
     go_wp2_with fail
     go_roundw
     case rel => exact ⟨i,j+1,L,rfl,by go_num,by omega,O2,G2,NX⟩
     case measure => simp [intOf];omega
   ·obtain rfl:j=l.length:=by omega
    have hil:i < l.length:=hij
    have hcl:∀ ty,(Builtin.clear_ #[48] ty #[.slice (some ⟨g,i * 2,none⟩) (l.length - i) (cap - i)]).run Tryz.prog wr=.ok (.tuple #[]) (wr.setCells g (i * 2) (List.replicate ((l.length - i) * 2) (.int .i64 0))) :=
     fun ty => run_clear_points wr ty g i _ _ (by omega) (fun j hj => HO1.out.there (by omega)) (fun j hj => HO1.out.frozen _)
    have FL:Hid (L.take i=l.filter fun x => !d x):=Lib.hid (by have:=DI.out.low;rwa [List.take_length] at this)
    have FIN:Hid (Hl.Own B (wr.setCells g (i * 2) (List.replicate ((l.length - i) * 2) (.int .i64 0))) (.slice (some ⟨g,0,none⟩) i cap) (l.filter fun x => !d x)):=Lib.hid (by
     have h:=(HO1.out.take i).beyonds (List.replicate ((l.length - i) * 2) (.int .i64 0)) _ (i * 2) (by simp;omega)
     have h2:=own_at.1 h
     rw [List.length_take,HLEN.out,Nat.min_eq_left (by omega),FL.out] at h2
     exact h2)
    have GF:Hid (Grew w0 (wr.setCells g (i * 2) (List.replicate ((l.length - i) * 2) (.int .i64 0)))):=Lib.hid (Grew.grown G (grownBy_setCells g _ wr _) (fun k e => by cases e;exact gB))
    have kc:i≤cap:=by omega
    have k9:i≤9223372036854775807:=by omega
    have kl:i≤l.length:=by omega
    clear DI FL
    go_wp2_with fail
    go_ret
    exact ⟨_,rfl,FIN.out,GF.out⟩
end Ct
end Go.Proofs.YtbpgfenippiepaaGreatDoor
