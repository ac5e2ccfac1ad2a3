/-
  The library Clone, Grow, Concat at points; the landed within and crossings.
  The landed crossings, Meet, Apart, Within, Common; all contracts of the landed package, in one.
-/
import Derived.Test.YtbpgfenippiepaaGreatDoorMCutCi
import Derived.Test.YtbpgfenippiepaaGreatDoorMHullCu
import Derived.Test.YtbpgfenippiepaaGreatDoorMCutCon
import Derived.Test.YtbpgfenippiepaaGreatDoorMHullCk
namespace Go.Proofs.YtbpgfenippiepaaGreatDoor
open Go.RowKit Go.Shelf Hl
namespace Ct
def growQ_ren:Go.Shelf.Ren:=⟨fun | 4 => 137 | n => n,fun | 22 => 48 | 25 => 24 | 3 => 3 | 4 => 4 | 9 => 9 | 20 => 20 | 0 => 0 | 2 => 3 | n => n,fun | n => n⟩
theorem growQ:Go.Proofs.Lays8.n4 Tryz.prog growQ_ren:={
 mixed:=by kernel_rfl
 f4:=⟨Tryz.f137.name,by decide,Tryz.func137.trans (congrArg some (by kernel_rfl))⟩
 t0:=Tryz.underlying0
 a0:=Tryz.isAgg0
 z0:=Tryz.sizeOf0
 v0:=Tryz.zeroValue0
 t3:=Tryz.underlying3
 a3:=Tryz.isAgg3
 z3:=Tryz.sizeOf3
 v3:=Tryz.zeroValue3
 t4:=Tryz.underlying4
 a4:=Tryz.isAgg4
 z4:=Tryz.sizeOf4
 v4:=Tryz.zeroValue4
 t9:=Tryz.underlying9
 a9:=Tryz.isAgg9
 z9:=Tryz.sizeOf9
 v9:=Tryz.zeroValue9
 t20:=Tryz.underlying20
 a20:=Tryz.isAgg20
 z20:=Tryz.sizeOf20
 v20:=Tryz.zeroValue20
 t22:=Tryz.underlying48
 a22:=Tryz.isAgg48
 z22:=Tryz.sizeOf48
 v22:=Tryz.zeroValue48 }
theorem wpl_append_oo {ops:Array Oper} {rest:List Oper} {o:Oper} {a:Act} {Q:Exit→Act→World→Prop} (w:World) (hgd:o.guard=none) (s x:Operand) (T:TypeId) (hT:Tryz.prog.underlying T=some (.slice 24))
  (ho:o.op=.call { callee:=.builtin .append,args:=#[s,x],argTypes:=#[T,T] }) (B B':Nat) (v u:Value) (p q:List Pt)
  (hs:a.eval s=v) (hown:Hl.Own B w v p) (hx:a.eval x=u) (hu:Hl.Own B' w u q) (hl:p.length+q.length≤4000000) (hB:B≤w.heap.size)
  (h:∀ v' w',Hl.Own B w' v' (p ++ q)→w.grownBy w' v.ownBlock→wpList Tryz.prog ops Q rest (a.put o.dst v') w'):wpList Tryz.prog ops Q (o :: rest) a w :=
 wpList_plain hgd fun _ hK => wp_append_oo w s x T hT ho B B' v u p q hs hown hx hu hl hB fun v' w' h2 h3 => hK _ _ (h v' w' h2 h3)
theorem grow_any (N:Nat) (w:World) (hN:N≤4000000) :
  Calls Tryz.prog 137 #[.slice none 0 0,.int .i64 N] w fun e w' => ∃ sa sc,e=.returned (.slice sa 0 sc)∧Hl.Own w.heap.size w' (.slice sa 0 sc) []∧Grew w w':=by
 by_cases h0:N=0
 ·subst h0
  clear hN
  go_enter Tryz.func137,Tryz.ntmps137
  go_wp2_with fail
  go_ret
  exact ⟨none,0,rfl,Own.nil _ _,Grew.refl _⟩
 ·obtain ⟨i0,hi,hz0,hz1,hz2⟩:=info_parts info_pt
  have h:=Any8.slices_Grow_grow growQ i0 (.agg #[.int .i64 0,.int .i64 0]) hi hz0 (by omega) none 0 0 N [] w (Nat.le_refl _) (by omega) (by rw [hz2];omega) (by omega) (by simp) (fun _ => rfl) (fun a h => by cases h)
  refine h.mono ?_
  rintro e w' ⟨rfl,rfl⟩
  have hG:=grownCap_ge w (0+N) 0 24
  have hM:=grownCap_le_maxLen w (0+N) 0 24 (by unfold maxLen;omega)
  have hz:(growQ_ren.t 25) = 24:=rfl
  rw [hz]
  refine ⟨_,_,rfl,own_at.1 ⟨Nat.le_refl _,Nat.zero_le _,hM,_,new_block _ _ _,?_,fun i hi => absurd hi (Nat.not_lt_zero _)⟩,((Grew.refl w).drew).alloc _ _⟩
  rw [Array.size_append,Array.size_append,size_zeroCells,size_zeroCells]
  show 0+(0+N - 0) * 2+(grownCap w (0+N) 0 24 - (0+N)) * 2=_
  omega
set_option maxRecDepth 100000 in
set_option maxHeartbeats 8000000 in
theorem concat_any (b B:Nat) (v1 v2 v3:Value) (l1 l2 l3:List Pt) (w:World) (hb:Blk w b #[v1,v2,v3] 48) (h1:Hl.Own B w v1 l1) (h2:Hl.Own B w v2 l2) (h3:Hl.Own B w v3 l3)
  (s1:l1.length≤1000000) (s2:l2.length≤1000000) (s3:l3.length≤1000000) :
  Calls Tryz.prog 100 #[.slice (some ⟨b,0,none⟩) 3 3] w fun e w' => ∃ v,e=.returned v∧Hl.Own w.heap.size w' v (l1 ++ l2 ++ l3)∧Grew w w':=by
 have O1:=Lib.hid h1
 have O2:=Lib.hid h2
 have O3:=Lib.hid h3
 have HB:=Lib.hid hb
 obtain ⟨a1,c1,rfl⟩:=h1.sl.shape
 obtain ⟨a2,c2,rfl⟩:=h2.sl.shape
 obtain ⟨a3,c3,rfl⟩:=h3.sl.shape
 obtain ⟨x0,x1,x2⟩:=blk_three hb
 have GC:Hid (∀ W,Grew w W→Calls Tryz.prog 137 #[.slice none 0 0,.int .i64 ((l1.length:Int)+(l2.length:Int)+(l3.length:Int))] W fun e w' => ∃ sa sc,e=.returned (.slice sa 0 sc)∧Hid (Hl.Own w.heap.size w' (.slice sa 0 sc) []∧Grew w w')):=Lib.hid (fun W g => by
  have h:=grow_any (l1.length+l2.length+l3.length) W (by omega)
  rw [Int.natCast_add,Int.natCast_add] at h
  refine h.mono ?_
  rintro e w' ⟨sa,sc,he,ho,hg⟩
  exact ⟨sa,sc,he,Lib.hid ⟨own_mono ho g.size,g.trans hg⟩⟩)
 have W1:IntKind.i64.wrap (l1.length:Int)=(l1.length:Int):=IntWalk.i64_in _ ⟨by omega,by omega⟩
 have W2:IntKind.i64.wrap ((l1.length:Int)+(l2.length:Int))=(l1.length:Int)+(l2.length:Int):=IntWalk.i64_in _ ⟨by omega,by omega⟩
 have W3:IntKind.i64.wrap ((l1.length:Int)+(l2.length:Int)+(l3.length:Int))=(l1.length:Int)+(l2.length:Int)+(l3.length:Int):=IntWalk.i64_in _ ⟨by omega,by omega⟩
 have n1:¬ ((l1.length:Int) < 0):=by omega
 have n2:¬ ((l1.length:Int)+(l2.length:Int) < 0):=by omega
 have n3:¬ ((l1.length:Int)+(l2.length:Int)+(l3.length:Int) < 0):=by omega
 clear hb h1 h2 h3
 go_enter Tryz.func100,Tryz.ntmps100
 go_wp2_with fail
 go_loopw [3,5,11] (fun s _ i wr => w=wr∧((i=.int .i64 0∧s=.int .i64 0)∨(i=.int .i64 1∧s=.int .i64 l1.length)∨(i=.int .i64 2∧s=.int .i64 ((l1.length:Int)+(l2.length:Int)))∨(i=.int .i64 3∧s=.int .i64 ((l1.length:Int)+(l2.length:Int)+(l3.length:Int))))) (fun _ _ i _ => 3 - (intOf i).toNat)
 case atStart => exact ⟨rfl,Or.inl ⟨rfl,rfl⟩⟩
 case round =>
  obtain ⟨rfl,hk⟩:=hrel
  rcases hk with ⟨rfl,rfl⟩ | ⟨rfl,rfl⟩ | ⟨rfl,rfl⟩ | ⟨rfl,rfl⟩
  ·go_wp2_with fail
   exact ⟨⟨trivial,Or.inr (Or.inl ⟨rfl,rfl⟩)⟩,by simp [intOf]⟩
  ·go_wp2_with fail
   exact ⟨⟨trivial,Or.inr (Or.inr (Or.inl ⟨rfl,rfl⟩))⟩,by simp [intOf]⟩
  ·go_wp2_with fail
   exact ⟨⟨trivial,Or.inr (Or.inr (Or.inr ⟨rfl,rfl⟩))⟩,by simp [intOf]⟩
  ·go_wp2_with (first | (go_at_call 137;refine (GC.out _ (Grew.refl _)).mono ?_;rintro e w' ⟨sa,sc,rfl,hn⟩))
   clear x0 x1 x2
   go_loopw [6,8,27] (fun v _ i wz => ((i=.int .i64 0∧Hl.Own w.heap.size wz v [])∨(i=.int .i64 1∧Hl.Own w.heap.size wz v l1)∨(i=.int .i64 2∧Hl.Own w.heap.size wz v (l1 ++ l2))∨(i=.int .i64 3∧Hl.Own w.heap.size wz v (l1 ++ l2 ++ l3)))∧Grew w wz) (fun _ _ i _ => 3 - (intOf i).toNat)
   case atStart => exact ⟨Or.inl ⟨rfl,hn.out.1⟩,hn.out.2⟩
   case round =>
    clear hn GC
    obtain ⟨hk,hG⟩:=hrel
    have HG:=Lib.hid hG
    obtain ⟨x0,x1,x2⟩:=blk_three (HB.out.grown hG)
    clear hG
    rcases hk with ⟨rfl,hO⟩ | ⟨rfl,hO⟩ | ⟨rfl,hO⟩ | ⟨rfl,hO⟩
    ·have OWk:=Lib.hid hO
     obtain ⟨oa,oc,rfl⟩:=hO.sl.shape
     clear hO
     go_wp2_with (at_builtin;go_must (refine wpl_append_oo _ rfl _ _ 48 Tryz.underlying48 rfl w.heap.size B _ _ [] l1 rfl OWk.out rfl (O1.out.grew HG.out) (by first | omega | (simp;omega)) HG.out.size ?_;intro v' w' own' gr';have GG':=Lib.hid (HG.out.grown gr' (fun k hk => OWk.out.block k hk));have OWN':=Lib.hid own';obtain ⟨sa',sc',rfl⟩:=own'.sl.shape;clear own' gr'))
     exact ⟨⟨Or.inr (Or.inl ⟨rfl,by have h:=OWN'.out;first | exact h | simpa [List.append_assoc] using h⟩),GG'.out⟩,by simp [intOf]⟩
    ·have OWk:=Lib.hid hO
     obtain ⟨oa,oc,rfl⟩:=hO.sl.shape
     clear hO
     go_wp2_with (at_builtin;go_must (refine wpl_append_oo _ rfl _ _ 48 Tryz.underlying48 rfl w.heap.size B _ _ l1 l2 rfl OWk.out rfl (O2.out.grew HG.out) (by first | omega | (simp;omega)) HG.out.size ?_;intro v' w' own' gr';have GG':=Lib.hid (HG.out.grown gr' (fun k hk => OWk.out.block k hk));have OWN':=Lib.hid own';obtain ⟨sa',sc',rfl⟩:=own'.sl.shape;clear own' gr'))
     exact ⟨⟨Or.inr (Or.inr (Or.inl ⟨rfl,by have h:=OWN'.out;first | exact h | simpa [List.append_assoc] using h⟩)),GG'.out⟩,by simp [intOf]⟩
    ·have OWk:=Lib.hid hO
     obtain ⟨oa,oc,rfl⟩:=hO.sl.shape
     clear hO
     go_wp2_with (at_builtin;go_must (refine wpl_append_oo _ rfl _ _ 48 Tryz.underlying48 rfl w.heap.size B _ _ (l1 ++ l2) l3 rfl OWk.out rfl (O3.out.grew HG.out) (by first | omega | (simp;omega)) HG.out.size ?_;intro v' w' own' gr';have GG':=Lib.hid (HG.out.grown gr' (fun k hk => OWk.out.block k hk));have OWN':=Lib.hid own';obtain ⟨sa',sc',rfl⟩:=own'.sl.shape;clear own' gr'))
     exact ⟨⟨Or.inr (Or.inr (Or.inr (⟨rfl,by have h:=OWN'.out;first | exact h | simpa [List.append_assoc] using h⟩))),GG'.out⟩,by simp [intOf]⟩
    ·obtain ⟨oa,oc,rfl⟩:=hO.sl.shape
     have HO:=Lib.hid hO
     clear hO
     go_wp2_with fail
     go_ret
     exact ⟨_,rfl,HO.out,HG.out⟩
end Ct
end Go.Proofs.YtbpgfenippiepaaGreatDoor
namespace Go.Proofs.YtbpgfenippiepaaGreatDoor
open Go.RowKit Go.Shelf Hl
namespace Ct
theorem blk_single {W:World} {B:Nat} {v:Value} {t:TypeId} (h:Blk W B #[v] t):W.cell? ⟨B,0,none⟩=some v:=h.one.1
set_option maxRecDepth 100000 in
theorem within1_c (K:Hl.Code) (p:List Pt) (b o c Bp:Nat) (x:Pt) (w:World) (hr:Row w b o p) (hv:Vl p) (hx:Plc x) (hB:Blk w Bp #[.slice (some ⟨b,o,none⟩) p.length c] 48):Calls Tryz.prog 152 (#[.agg #[.int .i64 x.1,.int .i64 x.2]] ++ #[.pointer (some ⟨Bp,0,none⟩)]) w fun e w' => e=.returned (.bool (!hsB p x))∧Grew w w':=by
 have HC:Hid (∀ W,Grew w W→Calls Tryz.prog 87 #[.slice (some ⟨b,o,none⟩) p.length c,.agg #[.int .i64 x.1,.int .i64 x.2]] W fun e w' => e=.returned (.tuple #[.bool (hsB p x),.int .i64 0])∧Grew W w'):=Lib.hid (fun W g => (K.has_ok p x _ W (Or.inr ⟨b,o,c,rfl,hr.grown g⟩) hv hx).mono (by
  rintro e w' ⟨r,rfl,h,g⟩
  refine ⟨?_,g⟩
  have:r=hsB p x:=by
   unfold hsB
   rw [Bool.eq_iff_iff,h,decide_eq_true_eq]
  rw [this]))
 have x0:=blk_single hB
 have lB:=hB.lt
 have l1:Bp < w.heap.size+1:=by omega
 clear hr hv hx hB
 generalize hsB p x=r at *
 simp only [List.append_toArray,List.cons_append,List.nil_append]
 go_enter Tryz.func152,Tryz.ntmps152
 go_wp2_with fail
 refine (HC.out _ ((Grew.refl _).alloc _ _)).mono ?_
 rintro e w1 ⟨rfl,g1⟩
 have G1:Grew w w1:=Grew.trans ((Grew.refl _).alloc _ _) g1
 clear g1
 cases r
 ·go_wp2_with fail
  go_ret
  exact ⟨rfl,G1⟩
 ·go_wp2_with fail
  go_ret
  exact ⟨rfl,G1⟩
theorem index_nil (f:Nat) (cb:Array Value) (w:World):Calls Tryz.prog 186 #[.slice none 0 0,.func (.func f) #[] cb] w fun e w' => e=.returned (.int .i64 (-1))∧w=w':=by
 go_enter Tryz.func186,Tryz.ntmps186
 go_wp2_with fail
 go_loopw [5,8] (fun _ i wr => i=.int .i64 0∧w=wr) (fun _ _ _ => 0)
 case atStart => exact ⟨rfl,rfl⟩
 case round =>
  obtain ⟨rfl,rfl⟩:=hrel
  go_wp2_with fail
  go_ret
  exact ⟨rfl,rfl⟩
theorem delete_any (f:Nat) (cb:Array Value) (eg:∀ args w,(callFunc f args).run Tryz.prog w=.ok (.enter f args) w) (d:Pt→Bool) (w0:World) (l:List Pt) (B:Nat) (v:Value) (w:World) (ho:Hl.Own B w v l) (h2:l.length≤4000000) (hB:w0.heap.size≤B) (hG:Grew w0 w)
  (hC:∀ x W,x ∈ l→Grew w0 W→Calls Tryz.prog f (#[.agg #[.int .i64 x.1,.int .i64 x.2]] ++ cb) W fun e w' => e=.returned (.bool (d x))∧Grew W w') :
  Calls Tryz.prog 151 #[v,.func (.func f) #[] cb] w (DelSays B w0 (l.filter fun x => !d x)):=by
 have ho':=ho
 obtain ⟨_,⟨rfl,h0⟩ | ⟨g,cap,cur,rfl,r⟩⟩:=ho
 ·obtain rfl:l=[]:=List.length_eq_zero_iff.1 h0
  have IC:=Lib.hid (index_nil f cb)
  clear hC ho' h2
  go_enter Tryz.func151,Tryz.ntmps151
  go_wp2_with fail
  refine (IC.out _).mono ?_
  rintro e w1 ⟨rfl,rfl⟩
  go_wp2_with fail
  go_ret
  exact ⟨_,rfl,Own.nil _ _,hG⟩
 ·exact delete_c f cb eg d w0 l B g cap w (own_at.2 ho') h2 hB hG hC
def FilterSays (l:List Pt) (w:World) (e:Ending) (w':World):Prop:=∃ v,e=.returned v∧Hl.Own w.heap.size w' v l∧Grew w w'
set_option maxRecDepth 100000 in
theorem within_c (K:Hl.Code) (l p:List Pt) (v:Value) (b o c:Nat) (w:World) (hr:Row w b o p) (hv:Vl p) (hl:l.length≤4000000) (hp:∀ x,x ∈ l→Plc x) (hcl:∀ W,Grew w W→Calls Tryz.prog 104 #[v] W fun e w' => ∃ v,e=.returned v∧Hl.Own W.heap.size w' v l∧Grew W w') :
  Calls Tryz.prog 120 #[v,.slice (some ⟨b,o,none⟩) p.length c] w (FilterSays (l.filter (hsB p)) w):=by
 have CC:=Lib.hid hcl
 have HB:=Lib.hid (Blk.new w #[.slice (some ⟨b,o,none⟩) p.length c] 48)
 have DC:Hid (∀ v1 w1,Hl.Own (w.alloc (.cells #[.slice (some ⟨b,o,none⟩) p.length c] 48)).heap.size w1 v1 l→Grew (w.alloc (.cells #[.slice (some ⟨b,o,none⟩) p.length c] 48)) w1→Calls Tryz.prog 151 #[v1,.func (.func 152) #[] #[.pointer (some ⟨w.heap.size,0,none⟩)]] w1 fun e w' => ∃ v,e=.returned v∧Hl.Own w.heap.size w' v (l.filter (hsB p))∧Grew w w'):=Lib.hid (fun v1 w1 ho g1 => by
  refine (delete_any 152 _ (enters_of Tryz.func152 (by kernel_rfl) rfl) (fun x => !hsB p x) _ l _ v1 w1 ho hl (Nat.le_refl _) g1 (fun x W hx g => within1_c K p b o c w.heap.size x W (hr.grown (Grew.trans ((Grew.refl _).alloc _ _) g)) hv (hp x hx) (HB.out.grown g))).mono ?_
  rintro e w' ⟨v,rfl,h1,h2⟩
  simp only [Bool.not_not] at h1
  exact ⟨v,rfl,own_mono h1 (by simp),Grew.trans ((Grew.refl _).alloc _ _) h2⟩)
 clear hr hv hp hcl HB
 go_enter Tryz.func120,Tryz.ntmps120
 go_wp2_with fail
 refine (CC.out _ ((Grew.refl _).alloc _ _)).mono ?_
 rintro e w1 ⟨v1,rfl,ho,g1⟩
 have DC1:=Lib.hid (DC.out v1 w1 ho g1)
 clear ho g1 DC
 go_wp2_with fail
 refine DC1.out.mono ?_
 rintro e w2 ⟨v2,rfl,h1,h2⟩
 go_wp2_with fail
 go_ret
 exact ⟨_,rfl,h1,h2⟩
theorem df_neg {s t:Int}:Df (-s) (-t)↔Df s t:=by unfold Df;omega
theorem fr_neg {a b y:Pt} {s t:Int}:Fr a b (-s) (-t) y↔Fr a b s t y:=by
 constructor
 ·rintro ⟨m,n,h,g⟩;exact ⟨m,n,by unfold Wt at *;omega,g⟩
 ·rintro ⟨m,n,h,g⟩;exact ⟨m,n,by unfold Wt at *;omega,g⟩
theorem xf_turn {a b c d y:Pt}:XF a b c d y↔XF c d a b y:=⟨XF.turn,XF.turn⟩
def CrossT (a b c d:Pt) (l:List Pt):Prop:=(∀ y,y ∈ l↔XF a b c d y)∧(l.length≤if decide (Df (cr a b c) (cr a b d))=true then 4 else 0)
set_option maxRecDepth 100000 in
set_option maxHeartbeats 8000000 in
theorem cross11_c (Bs Ba Bb:Nat) (a b c d:Pt) (w:World) (hs:Blk w Bs #[.int .i64 (thr a b).1,.int .i64 (thr a b).2.1,.int .i64 (thr a b).2.2] 172) (hA:Blk w Ba #[.int .i64 a.1,.int .i64 a.2] 24) (hB:Blk w Bb #[.int .i64 b.1,.int .i64 b.2] 24) (ha:Plc a) (hb:Plc b) (hc:Plc c) (hd:Plc d) :
  Calls Tryz.prog 156 (#[.agg #[.int .i64 c.1,.int .i64 c.2],.agg #[.int .i64 d.1,.int .i64 d.2]] ++ #[.pointer (some ⟨Bs,0,none⟩),.pointer (some ⟨Ba,0,none⟩),.pointer (some ⟨Bb,0,none⟩)]) w (SideSays (CrossT a b c d) w):=by
 have PC:Hid (∀ W,Calls Tryz.prog 157 #[.agg #[.int .i64 (thr a b).1,.int .i64 (thr a b).2.1,.int .i64 (thr a b).2.2],.agg #[.int .i64 c.1,.int .i64 c.2],.agg #[.int .i64 d.1,.int .i64 d.2]] W fun e w' => e=.returned (.bool (decide (Df (cr a b c) (cr a b d))))∧Grew W w'):=Lib.hid (fun W => (parts_c (thr a b) c d W (thr_bd ha hb).1 hc hd).mono (by
  rintro e w' ⟨rfl,g⟩
  refine ⟨?_,g⟩
  rw [ov_thr,ov_thr]
  congr 2
  rw [Bool.eq_iff_iff,decide_eq_true_eq,decide_eq_true_eq,df_neg]))
 have TC:Hid (∀ W,Calls Tryz.prog 155 #[.agg #[.int .i64 c.1,.int .i64 c.2],.agg #[.int .i64 d.1,.int .i64 d.2]] W fun e w' => e=.returned (.agg #[.int .i64 (thr c d).1,.int .i64 (thr c d).2.1,.int .i64 (thr c d).2.2])∧Grew W w'):=Lib.hid (fun W => through_c c d W hc hd)
 have FC:Hid (∀ W,Calls Tryz.prog 158 #[.agg #[.int .i64 (thr c d).1,.int .i64 (thr c d).2.1,.int .i64 (thr c d).2.2],.agg #[.int .i64 a.1,.int .i64 a.2],.agg #[.int .i64 b.1,.int .i64 b.2]] W (FrSays a b (cr c d a) (cr c d b) W)):=Lib.hid (fun W => (frame_c (thr c d) a b W (thr_bd hc hd).1 ha hb).mono (by
  rintro e w' ⟨v,l,rfl,ho,hm,hl,g⟩
  rw [ov_thr,ov_thr] at hm hl
  exact ⟨v,l,rfl,ho,fun y => (hm y).trans fr_neg,by
   have e:decide (Df (-cr c d a) (-cr c d b))=decide (Df (cr c d a) (cr c d b)):=by rw [Bool.eq_iff_iff,decide_eq_true_eq,decide_eq_true_eq,df_neg]
   rwa [e] at hl,g⟩))
 have HS:=Lib.hid hs
 have HA:=Lib.hid hA
 have HB:=Lib.hid hB
 obtain ⟨s0,s1,s2⟩:=blk_three hs
 obtain ⟨⟨a0,a1⟩,_,_⟩:=hA.two
 obtain ⟨⟨b0,b1⟩,_,_⟩:=hB.two
 have lS:=hs.lt
 have lA:=hA.lt
 have lB:=hB.lt
 have XC:=Lib.hid (Blk.new w #[.int .i64 c.1,.int .i64 c.2] 24)
 have XD:=Lib.hid (Blk.new (w.alloc (.cells #[.int .i64 c.1,.int .i64 c.2] 24)) #[.int .i64 d.1,.int .i64 d.2] 24)
 have G0:Grew w ((w.alloc (.cells #[.int .i64 c.1,.int .i64 c.2] 24)).alloc (.cells #[.int .i64 d.1,.int .i64 d.2] 24)):=((Grew.refl w).alloc _ _).alloc _ _
 have lS1:Bs < w.heap.size+1:=by omega
 have lS2:Bs < w.heap.size+1+1:=by omega
 clear ha hb hc hd hs hA hB
 simp only [List.append_toArray,List.cons_append,List.nil_append]
 by_cases hdf:Df (cr a b c) (cr a b d)
 ·rw [decide_eq_true hdf] at PC
  have HDF:=Lib.hid hdf
  clear hdf
  go_enter Tryz.func156,Tryz.ntmps156
  go_wp2_with fail
  refine (PC.out _).mono ?_
  rintro e w1 ⟨rfl,g1⟩
  have G1:Grew w w1:=Grew.trans G0 g1
  have kC:=Lib.hid ((XC.out.alloc (.cells #[.int .i64 d.1,.int .i64 d.2] 24)).grown g1)
  have kD:=Lib.hid (by have h:=XD.out.grown g1;rw [World.size_alloc] at h;exact h)
  have kA:=Lib.hid (HA.out.grown G1)
  have kB:=Lib.hid (HB.out.grown G1)
  obtain ⟨⟨c0,c1⟩,_,_⟩:=kC.out.two
  obtain ⟨⟨d0,d1⟩,_,_⟩:=kD.out.two
  obtain ⟨⟨x0,x1⟩,_,_⟩:=kA.out.two
  obtain ⟨⟨y0,y1⟩,_,_⟩:=kB.out.two
  clear g1 s0 s1 s2 a0 a1 b0 b1
  go_wp2_with fail
  refine Bar.begin_ (S:=(fun w' => (w'.cell? ⟨w.heap.size,0,none⟩=some (.int .i64 c.1)∧w'.cell? ⟨w.heap.size,1,none⟩=some (.int .i64 c.2))∧(w'.cell? ⟨w.heap.size+1,0,none⟩=some (.int .i64 d.1)∧w'.cell? ⟨w.heap.size+1,1,none⟩=some (.int .i64 d.2))∧(w'.cell? ⟨Ba,0,none⟩=some (.int .i64 a.1)∧w'.cell? ⟨Ba,1,none⟩=some (.int .i64 a.2))∧(w'.cell? ⟨Bb,0,none⟩=some (.int .i64 b.1)∧w'.cell? ⟨Bb,1,none⟩=some (.int .i64 b.2)))) 5 (by kernel_rfl) (by simp [go_sem, *]) (fun hHeld => ?_)
  refine Bar.Walk.take [5,2] (i:=0) (oi:=⟨some 13,_,_,_,_,_⟩) (v:=?_) rfl (by kernel_rfl) (by kernel_rfl) (by kernel_rfl) (by kernel_rfl) (fun _ _ _ h => h) (Or.inl ⟨by rfl,?_⟩) (by assumption) ?_
  rotate_left
  ·intro w hSw;(try dsimp only at hSw);go_simp;(try with_reducible rfl)
  try simp only [Act.put,List.setIfInBounds_toArray,List.set_cons_zero,List.set_cons_succ]
  refine Bar.Walk.take [5,2] (i:=1) (oi:=⟨some 14,_,_,_,_,_⟩) (v:=?_) rfl (by kernel_rfl) (by kernel_rfl) (by kernel_rfl) (by kernel_rfl) (fun _ _ _ h => h) (Or.inl ⟨by rfl,?_⟩) (by assumption) ?_
  rotate_left
  ·intro w hSw;(try dsimp only at hSw);go_simp;(try with_reducible rfl)
  try simp only [Act.put,List.setIfInBounds_toArray,List.set_cons_zero,List.set_cons_succ]
  refine Bar.Walk.take [5] (i:=3) (oi:=⟨some 16,_,_,_,_,_⟩) (v:=?_) rfl (by kernel_rfl) (by kernel_rfl) (by kernel_rfl) (by kernel_rfl) (fun _ _ _ h => h) (Or.inl ⟨by rfl,?_⟩) (by assumption) ?_
  rotate_left
  ·intro w hSw;(try dsimp only at hSw);go_simp;(try with_reducible rfl)
  try simp only [Act.put,List.setIfInBounds_toArray,List.set_cons_zero,List.set_cons_succ]
  refine Bar.Walk.take [5] (i:=4) (oi:=⟨some 17,_,_,_,_,_⟩) (v:=?_) rfl (by kernel_rfl) (by kernel_rfl) (by kernel_rfl) (by kernel_rfl) (fun _ _ _ h => h) (Or.inl ⟨by rfl,?_⟩) (by assumption) ?_
  rotate_left
  ·intro w hSw;(try dsimp only at hSw);go_simp;(try with_reducible rfl)
  try simp only [Act.put,List.setIfInBounds_toArray,List.set_cons_zero,List.set_cons_succ]
  refine Bar.Walk.step (i:=2) (o:=⟨some 15,_,_,_,_,_⟩) (by kernel_rfl) rfl (fun K hK => ?_)
  go_simp
  refine (TC.out _).mono ?_
  rintro e w2 ⟨rfl,g2⟩
  have G2:Grew w w2:=Grew.trans (Grew.drew G1) g2
  obtain ⟨⟨c2,c3⟩,_,_⟩:=(kC.out.drew.grown g2).two
  obtain ⟨⟨d2,d3⟩,_,_⟩:=(kD.out.drew.grown g2).two
  obtain ⟨⟨x2,x3⟩,_,_⟩:=(kA.out.drew.grown g2).two
  obtain ⟨⟨y2,y3⟩,_,_⟩:=(kB.out.drew.grown g2).two
  clear g2
  go_wp2_with fail
  refine hK.out _ _ (by (try dsimp only);simp [go_sem, *]) (fun h1 => ?_)
  clear hK K hHeld
  have hHeld:=h1
  clear h1
  try simp only [Act.put,List.setIfInBounds_toArray,List.set_cons_zero,List.set_cons_succ]
  refine Bar.Walk.pass (o:=⟨some 18,_,_,_,_,_⟩) (by kernel_rfl) rfl (by kernel_rfl) (fun K hK => ?_)
  go_simp
  refine (FC.out _).mono ?_
  rintro e w3 ⟨v,l,rfl,ho,hm,hl,g3⟩
  have G3:Grew w w3:=Grew.trans G2 g3
  have FIN:Hid (CrossT a b c d l∧Hl.Own w.heap.size w3 v l):=Lib.hid ⟨⟨fun y => by
   rw [hm y,xf_turn]
   exact ⟨fun g => ⟨HDF.out,g⟩,fun g => g.2⟩,by
   rw [if_pos (decide_eq_true HDF.out)]
   split at hl <;> omega⟩,own_mono ho G2.size⟩
  clear g3 ho hm hl
  go_wp2_with fail
  refine hK.out _ _ ?_
  clear hK K hHeld
  try simp only [Act.put,List.setIfInBounds_toArray,List.set_cons_zero,List.set_cons_succ]
  refine wpAny_take (i:=6) (oi:=⟨some 7,_,_,_,_,_⟩) (v:=?_) rfl (by kernel_rfl) (by kernel_rfl) (by kernel_rfl) (fun _ _ _ h => h) (Or.inl ⟨by rfl,?_⟩) ?_
  rotate_left
  ·intro w;go_simp;(try with_reducible rfl)
  try simp only [Act.put,List.setIfInBounds_toArray,List.set_cons_zero,List.set_cons_succ]
  refine wpAny_done (by kernel_rfl) ?_ _
  go_wp2_with fail
  go_ret
  exact ⟨_,l,rfl,FIN.out.1,FIN.out.2,G3⟩
 ·rw [decide_eq_false hdf] at PC
  have FIN:Hid (CrossT a b c d []):=Lib.hid ⟨fun y => ⟨fun g => (by cases g),fun g => absurd (xf_turn.1 g).1 hdf⟩,Nat.zero_le _⟩
  clear hdf
  go_enter Tryz.func156,Tryz.ntmps156
  go_wp2_with fail
  refine (PC.out _).mono ?_
  rintro e w1 ⟨rfl,g1⟩
  have G1:Grew w w1:=Grew.trans G0 g1
  clear g1
  go_wp2_with fail
  go_ret
  exact ⟨_,[],rfl,FIN.out,Own.nil _ _,G1⟩
end Ct
end Go.Proofs.YtbpgfenippiepaaGreatDoor
namespace Go.Proofs.YtbpgfenippiepaaGreatDoor
open Go.RowKit Go.Shelf Hl
namespace Ct
def SideT (q:List Pt) (a b:Pt) (l:List Pt):Prop:=(∀ y,y ∈ l↔∃ k,k < q.length∧XF a b (at' q k) (at' q ((k+1) % q.length)) y)∧l.length≤8
theorem side_gath {q:List Pt} (hq:Pg q) {a b:Pt} {l:List Pt} (h:Gath (fun k l => CrossT a b (at' q k) (at' q ((k+1) % q.length)) l) (List.range q.length) l):SideT q a b l:=by
 constructor
 ·intro y
  rw [h.mem (F:=fun k y => XF a b (at' q k) (at' q ((k+1) % q.length)) y) (fun k l hl => hl.1)]
  constructor
  ·rintro ⟨k,hk,g⟩;exact ⟨k,List.mem_range.1 hk,g⟩
  ·rintro ⟨k,hk,g⟩;exact ⟨k,List.mem_range.2 hk,g⟩
 ·have h1:=h.len (P:=fun k => decide (Df (cr a b (at' q k)) (cr a b (at' q ((k+1) % q.length))))) (c:=0) (fun k l hl => by have:=hl.2;omega)
  have h2:=cross_two hq (-(b.2 - a.2)) (b.1 - a.1) ((b.2 - a.2) * a.1 - (b.1 - a.1) * a.2)
  simp only [← cr_af] at h2
  omega
set_option maxRecDepth 100000 in
set_option maxHeartbeats 4000000 in
theorem cross1_c (q:List Pt) (b' o' c' Bq:Nat) (a b:Pt) (w:World) (hr:Row w b' o' q) (hq:Vl q) (hB:Blk w Bq #[.slice (some ⟨b',o',none⟩) q.length c'] 48) (ha:Plc a) (hb:Plc b) :
  Calls Tryz.prog 154 (#[.agg #[.int .i64 a.1,.int .i64 a.2],.agg #[.int .i64 b.1,.int .i64 b.2]] ++ #[.pointer (some ⟨Bq,0,none⟩)]) w (SideSays (SideT q a b) w):=by
 have TC:Hid (∀ W,Calls Tryz.prog 155 #[.agg #[.int .i64 a.1,.int .i64 a.2],.agg #[.int .i64 b.1,.int .i64 b.2]] W fun e w' => e=.returned (.agg #[.int .i64 (thr a b).1,.int .i64 (thr a b).2.1,.int .i64 (thr a b).2.2])∧Grew W w'):=Lib.hid (fun W => through_c a b W ha hb)
 have KC:Hid (∀ Bs Ba Bb W,Grew w W→Blk W Bs #[.int .i64 (thr a b).1,.int .i64 (thr a b).2.1,.int .i64 (thr a b).2.2] 172→Blk W Ba #[.int .i64 a.1,.int .i64 a.2] 24→Blk W Bb #[.int .i64 b.1,.int .i64 b.2] 24→Calls Tryz.prog 153 #[.slice (some ⟨b',o',none⟩) q.length c',.func (.func 156) #[] #[.pointer (some ⟨Bs,0,none⟩),.pointer (some ⟨Ba,0,none⟩),.pointer (some ⟨Bb,0,none⟩)]] W (KeepSays (fun k l => CrossT a b (at' q k) (at' q ((k+1) % q.length)) l) q.length W)):=Lib.hid (fun Bs Ba Bb W g h1 h2 h3 => keep_c 156 _ (enters_of Tryz.func156 (by kernel_rfl) rfl) q b' o' c' W (hr.grown g) hq.1.1 hq.1.2 _ (fun i l hl => by have:=hl.2;split at this <;> omega) (fun i W' g' => cross11_c Bs Ba Bb a b _ _ W' (h1.grown g') (h2.grown g') (h3.grown g') ha hb (at_plc hq.2.1 i) (at_plc hq.2.1 _)))
 have FIN:Hid (∀ l,Gath (fun k l => CrossT a b (at' q k) (at' q ((k+1) % q.length)) l) (List.range q.length) l→SideT q a b l):=Lib.hid (fun l h => side_gath hq.pg h)
 have HQ:=Lib.hid hB
 have XA:=Lib.hid (Blk.new w #[.int .i64 a.1,.int .i64 a.2] 24)
 have XB:=Lib.hid (Blk.new (w.alloc (.cells #[.int .i64 a.1,.int .i64 a.2] 24)) #[.int .i64 b.1,.int .i64 b.2] 24)
 have G0:Grew w ((w.alloc (.cells #[.int .i64 a.1,.int .i64 a.2] 24)).alloc (.cells #[.int .i64 b.1,.int .i64 b.2] 24)):=((Grew.refl w).alloc _ _).alloc _ _
 obtain ⟨A,hA⟩:∃ A,thr a b=A:=⟨_,rfl⟩
 rw [hA] at TC KC
 clear hr hq hB ha hb hA
 simp only [List.append_toArray,List.cons_append,List.nil_append]
 generalize q.length=n at *
 go_enter Tryz.func154,Tryz.ntmps154
 go_wp2_with fail
 refine (TC.out _).mono ?_
 rintro e w1 ⟨rfl,g1⟩
 have G1:Grew w w1:=Grew.trans G0 g1
 have kA:=Lib.hid (((XA.out.alloc (.cells #[.int .i64 b.1,.int .i64 b.2] 24)).grown g1).alloc (.cells #[.int .i64 A.1,.int .i64 A.2.1,.int .i64 A.2.2] 172))
 have kB:=Lib.hid (by have h:=(XB.out.grown g1).alloc (.cells #[.int .i64 A.1,.int .i64 A.2.1,.int .i64 A.2.2] 172);rw [World.size_alloc] at h;exact h)
 have kQ:=HQ.out.grown G1
 have q0:=blk_single kQ
 have lQ:=kQ.lt
 have lQ1:Bq < w1.heap.size+1:=by omega
 clear g1 kQ
 go_wp2_with fail
 refine (KC.out _ _ _ _ (G1.alloc _ _) (Blk.new w1 _ _) kA.out kB.out).mono ?_
 rintro e w2 ⟨v,l,rfl,hg,ho,g2⟩
 have G2:Grew w w2:=Grew.trans (G1.alloc _ _) g2
 have F2:=Lib.hid (FIN.out l hg)
 have O2:=Lib.hid (own_mono (B':=w.heap.size) ho (by have:=G1.size;simp;omega))
 clear hg ho g2
 go_wp2_with fail
 go_ret
 exact ⟨_,l,rfl,F2.out,O2.out,G2⟩
def CrossL (p q l:List Pt):Prop:=(∀ y,y ∈ l↔∃ i k,(i < p.length∧k < q.length)∧XF (at' p i) (at' p ((i+1) % p.length)) (at' q k) (at' q ((k+1) % q.length)) y)∧l.length≤8 * p.length
theorem cross_gath {p q l:List Pt} (h:Gath (fun i l => SideT q (at' p i) (at' p ((i+1) % p.length)) l) (List.range p.length) l):CrossL p q l:=by
 constructor
 ·intro y
  rw [h.mem (F:=fun i y => ∃ k,k < q.length∧XF (at' p i) (at' p ((i+1) % p.length)) (at' q k) (at' q ((k+1) % q.length)) y) (fun k l hl => hl.1)]
  constructor
  ·rintro ⟨i,hi,k,hk,g⟩;exact ⟨i,k,⟨List.mem_range.1 hi,hk⟩,g⟩
  ·rintro ⟨i,k,⟨hi,hk⟩,g⟩;exact ⟨i,List.mem_range.2 hi,k,hk,g⟩
 ·have:=h.len (P:=fun _ => false) (c:=8) (fun i l hl => by have:=hl.2;simpa using this)
  have e0:(List.filter (fun _ => false) (List.range p.length)).length=0:=by rw [List.length_eq_zero_iff,List.filter_eq_nil_iff];simp
  rw [List.length_range] at this
  omega
def CrossSays (p q:List Pt) (w:World) (e:Ending) (w':World):Prop:=∃ v l,e=.returned v∧CrossL p q l∧Hl.Own w.heap.size w' v l∧Grew w w'
set_option maxRecDepth 100000 in
set_option maxHeartbeats 4000000 in
theorem crossings_c (p q:List Pt) (b o c b' o' c':Nat) (w:World) (hr:Row w b o p) (hr':Row w b' o' q) (hp:Vl p) (hq:Vl q):Calls Tryz.prog 121 #[.slice (some ⟨b,o,none⟩) p.length c,.slice (some ⟨b',o',none⟩) q.length c'] w (CrossSays p q w):=by
 have KC:Hid (∀ Bq W,Grew w W→Blk W Bq #[.slice (some ⟨b',o',none⟩) q.length c'] 48→Calls Tryz.prog 153 #[.slice (some ⟨b,o,none⟩) p.length c,.func (.func 154) #[] #[.pointer (some ⟨Bq,0,none⟩)]] W (KeepSays (fun i l => SideT q (at' p i) (at' p ((i+1) % p.length)) l) p.length W)):=Lib.hid (fun Bq W g h1 => keep_c 154 _ (enters_of Tryz.func154 (by kernel_rfl) rfl) p b o c W (hr.grown g) hp.1.1 hp.1.2 _ (fun i l hl => by have:=hl.2;omega) (fun i W' g' => cross1_c q b' o' c' Bq _ _ W' (hr'.grown (Grew.trans g g')) hq (h1.grown g') (at_plc hp.2.1 i) (at_plc hp.2.1 _)))
 have FIN:Hid (∀ l,Gath (fun i l => SideT q (at' p i) (at' p ((i+1) % p.length)) l) (List.range p.length) l→CrossL p q l):=Lib.hid (fun l h => cross_gath h)
 clear hr hr' hp hq
 generalize p.length=n at *
 go_enter Tryz.func121,Tryz.ntmps121
 go_wp2_with fail
 refine (KC.out _ _ ((Grew.refl _).alloc _ _) (Blk.new w _ _)).mono ?_
 rintro e w2 ⟨v,l,rfl,hg,ho,g2⟩
 have F2:=Lib.hid (FIN.out l hg)
 have O2:=Lib.hid (own_mono (B':=w.heap.size) ho (by simp))
 have G2:Grew w w2:=Grew.trans ((Grew.refl _).alloc _ _) g2
 clear hg ho g2
 go_wp2_with fail
 go_ret
 exact ⟨_,l,rfl,F2.out,O2.out,G2⟩
theorem valid_yes (K:Hl.Code) {p:List Pt} {b o c:Nat} {w:World} (hr:Row w b o p) (hp:Vl p) (W:World) (g:Grew w W):Calls Tryz.prog 56 #[.slice (some ⟨b,o,none⟩) p.length c] W fun e w' => e=.returned (.bool true)∧Grew W w' :=
 (K.valid p _ W (Or.inr ⟨b,o,c,rfl,hr.grown g⟩) (by have:=hp.1.2;omega)).mono (by
  rintro e w' ⟨r,rfl,h,g⟩
  rw [h.2 hp]
  exact ⟨rfl,g⟩)
theorem within_row (K:Hl.Code) {p q:List Pt} {b o c b' o' c':Nat} {w:World} (hr:Row w b o p) (hr':Row w b' o' q) (hp:Vl p) (hq:Vl q) (W:World) (g:Grew w W):Calls Tryz.prog 120 #[.slice (some ⟨b,o,none⟩) p.length c,.slice (some ⟨b',o',none⟩) q.length c'] W (FilterSays (p.filter (hsB q)) W) :=
 within_c K p q _ b' o' c' W (hr'.grown g) hq (by have:=hp.1.2;omega) (fun x hx => by
  obtain ⟨i,hi,e⟩:=mem_at hx
  rw [← e];exact hp.2.1 i hi) (fun W' g' => clone_c p b o c W' (hr.grown (Grew.trans g g')) (by have:=hp.1.2;omega))
theorem both_list {p q l:List Pt} (h:CrossL p q l) (y:Pt):y ∈ p.filter (hsB q) ++ q.filter (hsB p) ++ l↔BothS p q y:=by
 rw [List.mem_append,List.mem_append,mem_hsB,mem_hsB,h.1 y,mem_list,mem_list]
 unfold BothS
 constructor
 ·rintro ((⟨⟨i,hi,e⟩,g⟩ | ⟨⟨i,hi,e⟩,g⟩) | g)
  ·exact Or.inl ⟨i,hi,e,g⟩
  ·exact Or.inr (Or.inl ⟨i,hi,e,g⟩)
  ·exact Or.inr (Or.inr g)
 ·rintro (⟨i,hi,e,g⟩ | ⟨i,hi,e,g⟩ | g)
  ·exact Or.inl (Or.inl ⟨⟨i,hi,e⟩,g⟩)
  ·exact Or.inl (Or.inr ⟨⟨i,hi,e⟩,g⟩)
  ·exact Or.inr g
theorem both_plcC {p q:List Pt} (hp:Plcs p) (hq:Plcs q) {y:Pt} (h:BothS p q y):Plc y:=by
 rcases h with ⟨i,hi,rfl,_⟩ | ⟨i,hi,rfl,_⟩ | ⟨i,k,⟨hi,hk⟩,g⟩
 ·exact hp i hi
 ·exact hq i hi
 ·exact fr_plc (hq k hk) (hq _ (Nat.mod_lt _ (by omega))) g.2
set_option maxRecDepth 100000 in
set_option maxHeartbeats 4000000 in
theorem meetc_new (K:Hl.CodeN) (p q:List Pt) (v v':Value) (w:World) (hs:Sl w v p) (hs':Sl w v' q) (hp:Vl p) (hq:Vl q):Calls Tryz.prog 75 #[v,v'] w (PolyNew (BothS p q) w):=by
 obtain ⟨b,o,c,rfl,hr⟩:=hs.row (fun e => by have:=hp.1.1;rw [e] at this;cases this)
 obtain ⟨b',o',c',rfl,hr'⟩:=hs'.row (fun e => by have:=hq.1.1;rw [e] at this;cases this)
 have WP:=Lib.hid (within_row K.toCode (c:=c) (c':=c') hr hr' hp hq)
 have WQ:=Lib.hid (within_row K.toCode (c:=c') (c':=c) hr' hr hq hp)
 have XC:Hid (∀ W,Grew w W→Calls Tryz.prog 121 #[.slice (some ⟨b,o,none⟩) p.length c,.slice (some ⟨b',o',none⟩) q.length c'] W (CrossSays p q W)):=Lib.hid (fun W g => crossings_c p q b o c b' o' c' W (hr.grown g) (hr'.grown g) hp hq)
 have PC:=Lib.hid (valid_yes K.toCode (c:=c) hr hp)
 have QC:=Lib.hid (valid_yes K.toCode (c:=c') hr' hq)
 have CC:Hid (∀ B v1 v2 v3 l (W:World),CrossL p q l→Hl.Own B W v1 (p.filter (hsB q))→Hl.Own B W v2 (q.filter (hsB p))→Hl.Own B W v3 l→Calls Tryz.prog 100 #[.slice (some ⟨W.heap.size,0,none⟩) 3 3] (W.alloc (.cells #[v1,v2,v3] 48)) fun e w' => ∃ v,e=.returned v∧Hid (Sl w' v (p.filter (hsB q) ++ q.filter (hsB p) ++ l))∧Grew W w'):=Lib.hid (fun B v1 v2 v3 l W h h1 h2 h3 => by
  have a1:(p.filter (hsB q)).length≤p.length:=List.length_filter_le _ _
  have a2:(q.filter (hsB p)).length≤q.length:=List.length_filter_le _ _
  have a3:=h.2
  have a4:=hp.1.2
  have a5:=hq.1.2
  refine (concat_any W.heap.size B v1 v2 v3 _ _ l _ (Blk.new W _ _) (h1.alloc _) (h2.alloc _) (h3.alloc _) (by omega) (by omega) (by omega)).mono ?_
  rintro e w' ⟨v,rfl,ho,g⟩
  exact ⟨v,rfl,Lib.hid ho.sl,Grew.trans ((Grew.refl _).alloc _ _) g⟩)
 have OC:Hid (∀ l v W,CrossL p q l→Sl W v (p.filter (hsB q) ++ q.filter (hsB p) ++ l)→Calls Tryz.prog 119 #[v] W (PolyNew (BothS p q) W)):=Lib.hid (fun l v W h hs => by
  have a1:(p.filter (hsB q)).length≤p.length:=List.length_filter_le _ _
  have a2:(q.filter (hsB p)).length≤q.length:=List.length_filter_le _ _
  have a3:=h.2
  have a4:=hp.1.2
  have a5:=hq.1.2
  refine (outer_c K _ v W hs (by rw [List.length_append,List.length_append];omega) (fun x hx => both_plcC hp.2.1 hq.2.1 ((both_list h x).1 hx))).mono ?_
  rintro e w' (⟨r,v,hq,t⟩ | ⟨hn,t⟩)
  ·exact Or.inl ⟨r,v,hq.same (both_list h),t⟩
  ·exact Or.inr ⟨fun ⟨y,hy⟩ => hn ⟨y,(both_list h y).2 hy⟩,t⟩)
 clear hs hs' hr hr' hp hq
 generalize p.length=n at *
 generalize q.length=m at *
 go_enter Tryz.func75,Tryz.ntmps75
 go_wp2_with fail
 refine (PC.out _ (Grew.refl _)).mono ?_
 rintro e w1 ⟨rfl,g1⟩
 go_wp2_with fail
 refine (QC.out _ g1).mono ?_
 rintro e w2 ⟨rfl,g2⟩
 have G2:Grew w w2:=Grew.trans g1 g2
 clear g1 g2
 go_wp2_with fail
 refine (WP.out _ G2).mono ?_
 rintro e w3 ⟨v1,rfl,o1,g3⟩
 have G3:Grew w w3:=Grew.trans G2 g3
 have O1:=Lib.hid (own_mono (B':=w.heap.size) o1 G2.size)
 clear o1 g3
 go_wp2_with fail
 refine (WQ.out _ G3).mono ?_
 rintro e w4 ⟨v2,rfl,o2,g4⟩
 have G4:Grew w w4:=Grew.trans G3 g4
 have O1:=Lib.hid (O1.out.grew g4)
 have O2:=Lib.hid (own_mono (B':=w.heap.size) o2 G3.size)
 clear o2 g4
 go_wp2_with fail
 refine (XC.out _ G4).mono ?_
 rintro e w5 ⟨v3,l,rfl,hx,o3,g5⟩
 have G5:Grew w w5:=Grew.trans G4 g5
 have HX:=Lib.hid hx
 have C5:=Lib.hid (CC.out w.heap.size v1 v2 v3 l w5 hx (O1.out.grew g5) (O2.out.grew g5) (own_mono o3 G4.size))
 have sh1:=(O1.out.grew g5).sl.shape
 have sh2:=(O2.out.grew g5).sl.shape
 have sh3:=o3.sl.shape
 obtain ⟨a1,c1,rfl⟩:=sh1
 obtain ⟨a2,c2,rfl⟩:=sh2
 obtain ⟨a3,c3,rfl⟩:=sh3
 clear o3 g5 hx O1 O2
 go_wp2_with fail
 refine C5.out.mono ?_
 rintro e w6 ⟨v6,rfl,hs6,g6⟩
 have G6:Grew w w6:=Grew.trans G5 g6
 have OC6:=Lib.hid (OC.out l v6 w6 HX.out hs6.out)
 clear hs6 g6
 go_wp2_with fail
 refine OC6.out.mono ?_
 rintro e w7 (⟨r,v7,hq,rfl,hs7,g7⟩ | ⟨hn,v7,rfl,hs7,g7⟩)
 ·have G7:Grew w w7:=Grew.trans G6 g7
  clear g7
  go_wp2_with fail
  refine bodyPost_ret (v:=.tuple #[v7,.bool true,.int .i64 0]) (by simp [results,Tryz.results75,go_sem, *]) rfl (Or.inl ⟨r,_,hq,rfl,(hs7.later G6).grown gw,gw⟩)
 ·have G7:Grew w w7:=Grew.trans G6 g7
  clear g7
  go_wp2_with fail
  refine bodyPost_ret (v:=.tuple #[v7,.bool false,.int .i64 0]) (by simp [results,Tryz.results75,go_sem, *]) rfl (Or.inr ⟨hn,_,rfl,hs7.grown gw,gw⟩)
theorem meetc_ok (K:Hl.CodeN) (p q:List Pt) (v v':Value) (w:World) (hs:Sl w v p) (hs':Sl w v' q) (hp:Vl p) (hq:Vl q):Calls Tryz.prog 75 #[v,v'] w (PolySays (BothS p q) w):=(meetc_new K p q v v' w hs hs' hp hq).mono fun _ _ h => h.says
set_option maxRecDepth 100000 in
set_option maxHeartbeats 4000000 in
theorem meetc_bad (K:Hl.Code) (p q:List Pt) (v v':Value) (w:World) (hs:Sl w v p) (hs':Sl w v' q) (hl:p.length≤9223372036854775807) (hl':q.length≤9223372036854775807) (hb:¬ (Vl p∧Vl q)):Calls Tryz.prog 75 #[v,v'] w (NoSays w):=by
 have PC:Hid (∀ W,Grew w W→Calls Tryz.prog 56 #[v] W fun e w' => ∃ r:Bool,e=.returned (.bool r)∧Hid (r=true↔Vl p)∧Grew W w'):=Lib.hid (fun W g => (K.valid p _ W (hs.grown g) hl).mono (by
  rintro e w' ⟨r,rfl,h,g⟩
  exact ⟨r,rfl,Lib.hid h,g⟩))
 have QC:Hid (∀ W,Grew w W→Calls Tryz.prog 56 #[v'] W fun e w' => ∃ r:Bool,e=.returned (.bool r)∧Hid (r=true↔Vl q)∧Grew W w'):=Lib.hid (fun W g => (K.valid q _ W (hs'.grown g) hl').mono (by
  rintro e w' ⟨r,rfl,h,g⟩
  exact ⟨r,rfl,Lib.hid h,g⟩))
 have HB:=Lib.hid hb
 obtain ⟨sa,sc,rfl⟩:=hs.shape
 obtain ⟨sa',sc',rfl⟩:=hs'.shape
 clear hs hs' hb hl hl'
 go_enter Tryz.func75,Tryz.ntmps75
 go_wp2_with fail
 refine (PC.out _ (Grew.refl _)).mono ?_
 rintro e w1 ⟨r,rfl,hr,g1⟩
 have G1:Grew w w1:=g1
 cases r
 ·clear g1
  go_wp2_with fail
  refine bodyPost_ret (v:=.tuple #[.slice none 0 0,.bool false,.int .i64 1]) (by simp [results,Tryz.results75,go_sem, *]) rfl ⟨_,rfl,sl_none _ _ _,gw⟩
 ·go_wp2_with fail
  refine (QC.out _ G1).mono ?_
  rintro e w2 ⟨r',rfl,hr',g2⟩
  have G1:Grew w w2:=Grew.trans G1 g2
  clear g1 g2
  cases r'
  ·go_wp2_with fail
   refine bodyPost_ret (v:=.tuple #[.slice none 0 0,.bool false,.int .i64 1]) (by simp [results,Tryz.results75,go_sem, *]) rfl ⟨_,rfl,sl_none _ _ _,gw⟩
  ·exact absurd ⟨hr.out.1 (by first | rfl | trivial),hr'.out.1 (by first | rfl | trivial)⟩ HB.out
end Ct
end Go.Proofs.YtbpgfenippiepaaGreatDoor
namespace Go.Proofs.YtbpgfenippiepaaGreatDoor
open Go.RowKit Go.Shelf Hl
end Go.Proofs.YtbpgfenippiepaaGreatDoor
namespace Go.Proofs.YtbpgfenippiepaaGreatDoor
open Go.RowKit Go.Shelf Hl
namespace Ct
theorem landed:Code where
 in_ok:=inc_ok Hl.landed
 in_bad:=inc_bad Hl.landed
 cut_ok:=cutc_ok Hl.landedN
 cut_bad:=cutc_bad Hl.landed
 meet_ok:=meetc_ok Hl.landedN
 meet_bad:=meetc_bad Hl.landed
structure CodeN:Prop extends Code where
 cut_new:∀ (p:List Pt) (h:Hf) (v:Value) (w:World),Sl w v p→Vl p→WF h→Calls Tryz.prog 126 #[v,.agg #[.int .i64 h.1,.int .i64 h.2.1,.int .i64 h.2.2]] w (PolyNew (LeftS p h) w)
 meet_new:∀ (p q:List Pt) (v v':Value) (w:World),Sl w v p→Sl w v' q→Vl p→Vl q→Calls Tryz.prog 75 #[v,v'] w (PolyNew (BothS p q) w)
theorem landedN:CodeN:={ landed with cut_new:=cutc_new Hl.landedN,meet_new:=meetc_new Hl.landedN }
end Ct
end Go.Proofs.YtbpgfenippiepaaGreatDoor
