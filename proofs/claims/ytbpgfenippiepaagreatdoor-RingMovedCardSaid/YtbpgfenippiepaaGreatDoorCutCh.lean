/-
  The landed package cut: the eight-sided hull of places, and the polygon of corners and frames.
-/
import Derived.Test.YtbpgfenippiepaaGreatDoorCutCb
import Derived.Test.YtbpgfenippiepaaGreatDoorHullWrap
import Derived.Test.YtbpgfenippiepaaGreatDoorHullCr
namespace Go.Proofs.YtbpgfenippiepaaGreatDoor
open Go.RowKit Go.Shelf Hl
namespace Ct
def dirs:List Hf:=[(1,0,0),(1,1,0),(0,1,0),(-1,1,0),(-1,0,0),(-1,-1,0),(0,-1,0),(1,-1,0)]
def dir (k:Nat):Hf:=dirs.getD k (0,0,0)
def Far (l:List Pt) (k:Nat) (po:List Pt):Prop:=po.length=k∧∀ j,j < k→at' po j ∈ l∧∀ y,y ∈ l→ov (dir j) y≤ov (dir j) (at' po j)
theorem far_min {l far:List Pt} (h:Far l 8 far) {u v m:Int} {j:Nat} (hj:j < 8) (e:∀ x,ov (dir j) x = -(u * x.1+v * x.2)) (hm:IsMin far u v m):IsMin l u v m:=by
 obtain ⟨⟨x,hx,ex⟩,h2⟩:=hm
 have hF:∀ x,x ∈ far→x ∈ l:=fun x hx => by
  obtain ⟨i,hi,e⟩:=mem_at hx
  rw [← e];exact (h.2 i (by have:=h.1;omega)).1
 refine ⟨⟨x,hF x hx,ex⟩,fun y hy => ?_⟩
 have a:=h2 _ (at_mem (p:=far) (i:=j) (by have:=h.1;omega))
 have b:=(h.2 j hj).2 y hy
 rw [e,e] at b
 omega
theorem hull_min {L q:List Pt} (hq:IsHull L q) {u v m:Int} (h:IsMin q u v m):IsMin L u v m:=by
 obtain ⟨⟨x,hx,ex⟩,h2⟩:=h
 refine ⟨⟨x,hq.2.1 x hx,ex⟩,fun y hy => ?_⟩
 obtain ⟨j,hj,e⟩:=hs_least hq.1 (hq.2.2 y hy) u v 0
 have:=h2 _ (at_mem hj)
 unfold af at e
 omega
theorem min_of_list {L q:List Pt} (hq:IsHull L q) {u v m:Int} (h:IsMin L u v m):IsMin q u v m:=min_hull hq h.2 h.1
theorem oct_far {l far q0 q1 q:List Pt} (h:Far l 8 far) (h0:IsHull l q0) (h1:IsHull far q1) (ho:IsOct q1 q):IsOct q0 q:=by
 obtain ⟨a,b,c,d,s,t,i,j,k1,k2,k3,k4,k5,k6,k7,k8,hq⟩:=ho
 have mv:∀ (u v m:Int) (j:Nat),j < 8→(∀ x,ov (dir j) x = -(u * x.1+v * x.2))→IsMin q1 u v m→IsMin q0 u v m:=fun u v m j hj e hm => min_of_list h0 (far_min h hj e (hull_min h1 hm))
 exact ⟨a,b,c,d,s,t,i,j,mv _ _ _ 4 (by omega) (fun x => by simp [dir,dirs,ov] <;> omega) k1,mv _ _ _ 0 (by omega) (fun x => by simp [dir,dirs,ov] <;> omega) k2,mv _ _ _ 6 (by omega) (fun x => by simp [dir,dirs,ov] <;> omega) k3,mv _ _ _ 2 (by omega) (fun x => by simp [dir,dirs,ov] <;> omega) k4,mv _ _ _ 5 (by omega) (fun x => by simp [dir,dirs,ov] <;> omega) k5,mv _ _ _ 1 (by omega) (fun x => by simp [dir,dirs,ov] <;> omega) k6,mv _ _ _ 3 (by omega) (fun x => by simp [dir,dirs,ov] <;> omega) k7,mv _ _ _ 7 (by omega) (fun x => by simp [dir,dirs,ov] <;> omega) k8,hq⟩
instance (h:Hf):Decidable (EB h):=by unfold EB;infer_instance
def PolyNew (S:Pt→Prop) (w:World) (e:Ending) (w':World):Prop:=(∃ q v,Poly S q∧e=.returned (.tuple #[v,.bool true,.int .i64 0])∧SlN w w' v q∧Grew w w')∨((¬ ∃ y,S y)∧∃ v,e=.returned (.tuple #[v,.bool false,.int .i64 0])∧Sl w' v []∧Grew w w')
theorem PolyNew.says {S:Pt→Prop} {w:World} {e:Ending} {w':World} (h:PolyNew S w e w'):PolySays S w e w':=by
 rcases h with ⟨q,v,hq,he,hs,g⟩ | h
 ·exact Or.inl ⟨q,v,hq,he,hs.sl,g⟩
 ·exact Or.inr h
def OctFar (l:List Pt) (w:World) (e:Ending) (w':World):Prop:=∃ q v,(∀ q0,IsHull l q0→IsOct q0 q)∧e=.returned (.tuple #[v,.int .i64 0])∧SlN w w' v q∧Grew w w'
set_option maxRecDepth 100000 in
theorem index_0 (w:World):Sem.run Tryz.prog (Instr.index 197 (.agg #[.int .i64 1,.int .i64 0,.int .i64 0,.int .i64 1,.int .i64 1,.int .i64 0,.int .i64 0,.int .i64 1,.int .i64 0,.int .i64 (-1),.int .i64 1,.int .i64 0,.int .i64 (-1),.int .i64 0,.int .i64 0,.int .i64 (-1),.int .i64 (-1),.int .i64 0,.int .i64 0,.int .i64 (-1),.int .i64 0,.int .i64 1,.int .i64 (-1),.int .i64 0]) (.int .i64 0)) w=.ok (.agg #[.int .i64 1,.int .i64 0,.int .i64 0]) w:=by rfl
set_option maxRecDepth 100000 in
theorem index_1 (w:World):Sem.run Tryz.prog (Instr.index 197 (.agg #[.int .i64 1,.int .i64 0,.int .i64 0,.int .i64 1,.int .i64 1,.int .i64 0,.int .i64 0,.int .i64 1,.int .i64 0,.int .i64 (-1),.int .i64 1,.int .i64 0,.int .i64 (-1),.int .i64 0,.int .i64 0,.int .i64 (-1),.int .i64 (-1),.int .i64 0,.int .i64 0,.int .i64 (-1),.int .i64 0,.int .i64 1,.int .i64 (-1),.int .i64 0]) (.int .i64 1)) w=.ok (.agg #[.int .i64 1,.int .i64 1,.int .i64 0]) w:=by rfl
set_option maxRecDepth 100000 in
theorem index_2 (w:World):Sem.run Tryz.prog (Instr.index 197 (.agg #[.int .i64 1,.int .i64 0,.int .i64 0,.int .i64 1,.int .i64 1,.int .i64 0,.int .i64 0,.int .i64 1,.int .i64 0,.int .i64 (-1),.int .i64 1,.int .i64 0,.int .i64 (-1),.int .i64 0,.int .i64 0,.int .i64 (-1),.int .i64 (-1),.int .i64 0,.int .i64 0,.int .i64 (-1),.int .i64 0,.int .i64 1,.int .i64 (-1),.int .i64 0]) (.int .i64 2)) w=.ok (.agg #[.int .i64 0,.int .i64 1,.int .i64 0]) w:=by rfl
set_option maxRecDepth 100000 in
theorem index_3 (w:World):Sem.run Tryz.prog (Instr.index 197 (.agg #[.int .i64 1,.int .i64 0,.int .i64 0,.int .i64 1,.int .i64 1,.int .i64 0,.int .i64 0,.int .i64 1,.int .i64 0,.int .i64 (-1),.int .i64 1,.int .i64 0,.int .i64 (-1),.int .i64 0,.int .i64 0,.int .i64 (-1),.int .i64 (-1),.int .i64 0,.int .i64 0,.int .i64 (-1),.int .i64 0,.int .i64 1,.int .i64 (-1),.int .i64 0]) (.int .i64 3)) w=.ok (.agg #[.int .i64 (-1),.int .i64 1,.int .i64 0]) w:=by rfl
set_option maxRecDepth 100000 in
theorem index_4 (w:World):Sem.run Tryz.prog (Instr.index 197 (.agg #[.int .i64 1,.int .i64 0,.int .i64 0,.int .i64 1,.int .i64 1,.int .i64 0,.int .i64 0,.int .i64 1,.int .i64 0,.int .i64 (-1),.int .i64 1,.int .i64 0,.int .i64 (-1),.int .i64 0,.int .i64 0,.int .i64 (-1),.int .i64 (-1),.int .i64 0,.int .i64 0,.int .i64 (-1),.int .i64 0,.int .i64 1,.int .i64 (-1),.int .i64 0]) (.int .i64 4)) w=.ok (.agg #[.int .i64 (-1),.int .i64 0,.int .i64 0]) w:=by rfl
set_option maxRecDepth 100000 in
theorem index_5 (w:World):Sem.run Tryz.prog (Instr.index 197 (.agg #[.int .i64 1,.int .i64 0,.int .i64 0,.int .i64 1,.int .i64 1,.int .i64 0,.int .i64 0,.int .i64 1,.int .i64 0,.int .i64 (-1),.int .i64 1,.int .i64 0,.int .i64 (-1),.int .i64 0,.int .i64 0,.int .i64 (-1),.int .i64 (-1),.int .i64 0,.int .i64 0,.int .i64 (-1),.int .i64 0,.int .i64 1,.int .i64 (-1),.int .i64 0]) (.int .i64 5)) w=.ok (.agg #[.int .i64 (-1),.int .i64 (-1),.int .i64 0]) w:=by rfl
set_option maxRecDepth 100000 in
theorem index_6 (w:World):Sem.run Tryz.prog (Instr.index 197 (.agg #[.int .i64 1,.int .i64 0,.int .i64 0,.int .i64 1,.int .i64 1,.int .i64 0,.int .i64 0,.int .i64 1,.int .i64 0,.int .i64 (-1),.int .i64 1,.int .i64 0,.int .i64 (-1),.int .i64 0,.int .i64 0,.int .i64 (-1),.int .i64 (-1),.int .i64 0,.int .i64 0,.int .i64 (-1),.int .i64 0,.int .i64 1,.int .i64 (-1),.int .i64 0]) (.int .i64 6)) w=.ok (.agg #[.int .i64 0,.int .i64 (-1),.int .i64 0]) w:=by rfl
set_option maxRecDepth 100000 in
theorem index_7 (w:World):Sem.run Tryz.prog (Instr.index 197 (.agg #[.int .i64 1,.int .i64 0,.int .i64 0,.int .i64 1,.int .i64 1,.int .i64 0,.int .i64 0,.int .i64 1,.int .i64 0,.int .i64 (-1),.int .i64 1,.int .i64 0,.int .i64 (-1),.int .i64 0,.int .i64 0,.int .i64 (-1),.int .i64 (-1),.int .i64 0,.int .i64 0,.int .i64 (-1),.int .i64 0,.int .i64 1,.int .i64 (-1),.int .i64 0]) (.int .i64 7)) w=.ok (.agg #[.int .i64 1,.int .i64 (-1),.int .i64 0]) w:=by rfl
attribute [local go_sem] index_0 index_1 index_2 index_3 index_4 index_5 index_6 index_7
set_option maxRecDepth 100000 in
set_option maxHeartbeats 16000000 in
theorem eight_c (K:Hl.CodeN) (l:List Pt) (b o c:Nat) (w:World) (hr:Row w b o l) (L1:1≤l.length) (L2:l.length≤4000000) (hp:∀ x,x ∈ l→Plc x):Calls Tryz.prog 150 #[.slice (some ⟨b,o,none⟩) l.length c] w (OctFar l w):=by
 have HR:=Lib.hid hr
 have HP:=Lib.hid hp
 clear hr hp
 go_enter Tryz.func150,Tryz.ntmps150
 go_wp2_with fail
 go_loopw [4,6,7,19] (fun u _ _ i wr => ∃ (k:Nat) (po:List Pt),k≤8∧i=.int .i64 k∧Grew w wr∧Hl.Own w.heap.size wr u po∧Far l k po) (fun _ _ _ i _ => 8 - (intOf i).toNat)
 case atStart => exact ⟨0,[],by omega,rfl,Grew.refl _,Hl.Own.nil _ _,rfl,fun j hj => by omega⟩
 case round =>
  obtain ⟨k,po,hk,rfl,G,hO,hF⟩:=hrel
  have OW:=Lib.hid hO
  have FR:=Lib.hid hF
  have PL:Hid (po.length=k):=Lib.hid hF.1
  obtain ⟨sa,sc,rfl⟩:=hO.sl.shape
  clear hO hF
  rcases (show k=0∨k=1∨k=2∨k=3∨k=4∨k=5∨k=6∨k=7∨k=8 by omega) with rfl | rfl | rfl | rfl | rfl | rfl | rfl | rfl | rfl
  ·have GE:Hid (∀ W,Grew (((wr.alloc (.cells #[.int .i64 1,.int .i64 0,.int .i64 0] 78)).alloc (.cells #[.int .i64 1,.int .i64 0,.int .i64 0] 172))) W→Blk W (wr.heap.size+1) #[.int .i64 1,.int .i64 0,.int .i64 0] 172):=Lib.hid (fun W g => by
    have h:=Blk.new (wr.alloc (.cells #[.int .i64 1,.int .i64 0,.int .i64 0] 78)) #[.int .i64 1,.int .i64 0,.int .i64 0] 172
    rw [World.size_alloc] at h
    exact h.grown g)
   have MC:Hid (Calls Tryz.prog 187 #[.slice (some ⟨b,o,none⟩) l.length c,.func (.func 188) #[] #[.pointer (some ⟨wr.heap.size+1,0,none⟩)]] ((wr.alloc (.cells #[.int .i64 1,.int .i64 0,.int .i64 0] 78)).alloc (.cells #[.int .i64 1,.int .i64 0,.int .i64 0] 172)) (BestSays (fun x y => ov ((1,0,0):Hf) y≤ov ((1,0,0):Hf) x) l ((wr.alloc (.cells #[.int .i64 1,.int .i64 0,.int .i64 0] 78)).alloc (.cells #[.int .i64 1,.int .i64 0,.int .i64 0] 172)))):=Lib.hid (maxf_c 188 _ (fun x y => ov ((1,0,0):Hf) x - ov ((1,0,0):Hf) y) (fun x y => ov ((1,0,0):Hf) y≤ov ((1,0,0):Hf) x) (fun x => Int.le_refl _) (fun x y z h k => Int.le_trans k h) (fun x m h => by show ov ((1,0,0):Hf) m≤ov ((1,0,0):Hf) x;omega) (fun x m h => by show ov ((1,0,0):Hf) x≤ov ((1,0,0):Hf) m;omega) l b o c _ (HR.out.grown (((G.alloc _ _)).alloc _ _)) L1 L2 (fun x y W hx hy g => eight1_c ((1,0,0):Hf) (wr.heap.size+1) x y W (GE.out W g) (by decide) (HP.out x hx) (HP.out y hy)) (enters_of Tryz.func188 (by kernel_rfl) rfl))
   go_wp2_with fail
   refine MC.out.mono ?_
   rintro e w1 ⟨m,hm,rfl,g1⟩
   have HM:=Lib.hid hm
   have GG:=Lib.hid (Grew.trans (((Grew.refl wr).alloc _ _).alloc _ _) g1)
   have GS:=Lib.hid (Grew.trans ((G.alloc _ _).alloc _ _) g1)
   clear g1 hm
   go_wp2_with (at_builtin;go_must (refine append_T _ rfl _ _ 48 Tryz.underlying48 rfl w.heap.size _ po [m] _ 0 1 rfl ((Hl.Own.grew OW.out GG.out).alloc _) rfl (by exact row_one rfl) (by have:=PL.out;simp;omega) (by have:=GS.out.size;simp;omega) ?_;intro v' w' own' gr';obtain ⟨sa',sc',rfl⟩:=own'.sl.shape))
   go_roundw
   case rel => exact ⟨1,po ++ [m],by omega,by simp,Grew.grown (GS.out.alloc _ _) gr' (fun k e => OW.out.block k e),by rw [List.length_append,List.length_singleton] at own';exact own',by
    obtain ⟨h1,h2⟩:=FR.out
    refine ⟨by rw [List.length_append,h1];rfl,fun j hj => ?_⟩
    by_cases e:j=0
    ·subst e
     have e1:at' (po ++ [m]) 0=m:=by have:=at_last po m;rw [h1] at this;exact this
     rw [e1]
     exact HM.out
    ·rw [at_append (by rw [h1];omega)]
     exact h2 j (by omega)⟩
   case measure => simp [intOf]
  ·have GE:Hid (∀ W,Grew (((wr.alloc (.cells #[.int .i64 1,.int .i64 1,.int .i64 0] 78)).alloc (.cells #[.int .i64 1,.int .i64 1,.int .i64 0] 172))) W→Blk W (wr.heap.size+1) #[.int .i64 1,.int .i64 1,.int .i64 0] 172):=Lib.hid (fun W g => by
    have h:=Blk.new (wr.alloc (.cells #[.int .i64 1,.int .i64 1,.int .i64 0] 78)) #[.int .i64 1,.int .i64 1,.int .i64 0] 172
    rw [World.size_alloc] at h
    exact h.grown g)
   have MC:Hid (Calls Tryz.prog 187 #[.slice (some ⟨b,o,none⟩) l.length c,.func (.func 188) #[] #[.pointer (some ⟨wr.heap.size+1,0,none⟩)]] ((wr.alloc (.cells #[.int .i64 1,.int .i64 1,.int .i64 0] 78)).alloc (.cells #[.int .i64 1,.int .i64 1,.int .i64 0] 172)) (BestSays (fun x y => ov ((1,1,0):Hf) y≤ov ((1,1,0):Hf) x) l ((wr.alloc (.cells #[.int .i64 1,.int .i64 1,.int .i64 0] 78)).alloc (.cells #[.int .i64 1,.int .i64 1,.int .i64 0] 172)))):=Lib.hid (maxf_c 188 _ (fun x y => ov ((1,1,0):Hf) x - ov ((1,1,0):Hf) y) (fun x y => ov ((1,1,0):Hf) y≤ov ((1,1,0):Hf) x) (fun x => Int.le_refl _) (fun x y z h k => Int.le_trans k h) (fun x m h => by show ov ((1,1,0):Hf) m≤ov ((1,1,0):Hf) x;omega) (fun x m h => by show ov ((1,1,0):Hf) x≤ov ((1,1,0):Hf) m;omega) l b o c _ (HR.out.grown (((G.alloc _ _)).alloc _ _)) L1 L2 (fun x y W hx hy g => eight1_c ((1,1,0):Hf) (wr.heap.size+1) x y W (GE.out W g) (by decide) (HP.out x hx) (HP.out y hy)) (enters_of Tryz.func188 (by kernel_rfl) rfl))
   go_wp2_with fail
   refine MC.out.mono ?_
   rintro e w1 ⟨m,hm,rfl,g1⟩
   have HM:=Lib.hid hm
   have GG:=Lib.hid (Grew.trans (((Grew.refl wr).alloc _ _).alloc _ _) g1)
   have GS:=Lib.hid (Grew.trans ((G.alloc _ _).alloc _ _) g1)
   clear g1 hm
   go_wp2_with (at_builtin;go_must (refine append_T _ rfl _ _ 48 Tryz.underlying48 rfl w.heap.size _ po [m] _ 0 1 rfl ((Hl.Own.grew OW.out GG.out).alloc _) rfl (by exact row_one rfl) (by have:=PL.out;simp;omega) (by have:=GS.out.size;simp;omega) ?_;intro v' w' own' gr';obtain ⟨sa',sc',rfl⟩:=own'.sl.shape))
   go_roundw
   case rel => exact ⟨2,po ++ [m],by omega,by simp,Grew.grown (GS.out.alloc _ _) gr' (fun k e => OW.out.block k e),by rw [List.length_append,List.length_singleton] at own';exact own',by
    obtain ⟨h1,h2⟩:=FR.out
    refine ⟨by rw [List.length_append,h1];rfl,fun j hj => ?_⟩
    by_cases e:j=1
    ·subst e
     have e1:at' (po ++ [m]) 1=m:=by have:=at_last po m;rw [h1] at this;exact this
     rw [e1]
     exact HM.out
    ·rw [at_append (by rw [h1];omega)]
     exact h2 j (by omega)⟩
   case measure => simp [intOf]
  ·have GE:Hid (∀ W,Grew (((wr.alloc (.cells #[.int .i64 0,.int .i64 1,.int .i64 0] 78)).alloc (.cells #[.int .i64 0,.int .i64 1,.int .i64 0] 172))) W→Blk W (wr.heap.size+1) #[.int .i64 0,.int .i64 1,.int .i64 0] 172):=Lib.hid (fun W g => by
    have h:=Blk.new (wr.alloc (.cells #[.int .i64 0,.int .i64 1,.int .i64 0] 78)) #[.int .i64 0,.int .i64 1,.int .i64 0] 172
    rw [World.size_alloc] at h
    exact h.grown g)
   have MC:Hid (Calls Tryz.prog 187 #[.slice (some ⟨b,o,none⟩) l.length c,.func (.func 188) #[] #[.pointer (some ⟨wr.heap.size+1,0,none⟩)]] ((wr.alloc (.cells #[.int .i64 0,.int .i64 1,.int .i64 0] 78)).alloc (.cells #[.int .i64 0,.int .i64 1,.int .i64 0] 172)) (BestSays (fun x y => ov ((0,1,0):Hf) y≤ov ((0,1,0):Hf) x) l ((wr.alloc (.cells #[.int .i64 0,.int .i64 1,.int .i64 0] 78)).alloc (.cells #[.int .i64 0,.int .i64 1,.int .i64 0] 172)))):=Lib.hid (maxf_c 188 _ (fun x y => ov ((0,1,0):Hf) x - ov ((0,1,0):Hf) y) (fun x y => ov ((0,1,0):Hf) y≤ov ((0,1,0):Hf) x) (fun x => Int.le_refl _) (fun x y z h k => Int.le_trans k h) (fun x m h => by show ov ((0,1,0):Hf) m≤ov ((0,1,0):Hf) x;omega) (fun x m h => by show ov ((0,1,0):Hf) x≤ov ((0,1,0):Hf) m;omega) l b o c _ (HR.out.grown (((G.alloc _ _)).alloc _ _)) L1 L2 (fun x y W hx hy g => eight1_c ((0,1,0):Hf) (wr.heap.size+1) x y W (GE.out W g) (by decide) (HP.out x hx) (HP.out y hy)) (enters_of Tryz.func188 (by kernel_rfl) rfl))
   go_wp2_with fail
   refine MC.out.mono ?_
   rintro e w1 ⟨m,hm,rfl,g1⟩
   have HM:=Lib.hid hm
   have GG:=Lib.hid (Grew.trans (((Grew.refl wr).alloc _ _).alloc _ _) g1)
   have GS:=Lib.hid (Grew.trans ((G.alloc _ _).alloc _ _) g1)
   clear g1 hm
   go_wp2_with (at_builtin;go_must (refine append_T _ rfl _ _ 48 Tryz.underlying48 rfl w.heap.size _ po [m] _ 0 1 rfl ((Hl.Own.grew OW.out GG.out).alloc _) rfl (by exact row_one rfl) (by have:=PL.out;simp;omega) (by have:=GS.out.size;simp;omega) ?_;intro v' w' own' gr';obtain ⟨sa',sc',rfl⟩:=own'.sl.shape))
   go_roundw
   case rel => exact ⟨3,po ++ [m],by omega,by simp,Grew.grown (GS.out.alloc _ _) gr' (fun k e => OW.out.block k e),by rw [List.length_append,List.length_singleton] at own';exact own',by
    obtain ⟨h1,h2⟩:=FR.out
    refine ⟨by rw [List.length_append,h1];rfl,fun j hj => ?_⟩
    by_cases e:j=2
    ·subst e
     have e1:at' (po ++ [m]) 2=m:=by have:=at_last po m;rw [h1] at this;exact this
     rw [e1]
     exact HM.out
    ·rw [at_append (by rw [h1];omega)]
     exact h2 j (by omega)⟩
   case measure => simp [intOf]
  ·have GE:Hid (∀ W,Grew (((wr.alloc (.cells #[.int .i64 (-1),.int .i64 1,.int .i64 0] 78)).alloc (.cells #[.int .i64 (-1),.int .i64 1,.int .i64 0] 172))) W→Blk W (wr.heap.size+1) #[.int .i64 (-1),.int .i64 1,.int .i64 0] 172):=Lib.hid (fun W g => by
    have h:=Blk.new (wr.alloc (.cells #[.int .i64 (-1),.int .i64 1,.int .i64 0] 78)) #[.int .i64 (-1),.int .i64 1,.int .i64 0] 172
    rw [World.size_alloc] at h
    exact h.grown g)
   have MC:Hid (Calls Tryz.prog 187 #[.slice (some ⟨b,o,none⟩) l.length c,.func (.func 188) #[] #[.pointer (some ⟨wr.heap.size+1,0,none⟩)]] ((wr.alloc (.cells #[.int .i64 (-1),.int .i64 1,.int .i64 0] 78)).alloc (.cells #[.int .i64 (-1),.int .i64 1,.int .i64 0] 172)) (BestSays (fun x y => ov ((-1,1,0):Hf) y≤ov ((-1,1,0):Hf) x) l ((wr.alloc (.cells #[.int .i64 (-1),.int .i64 1,.int .i64 0] 78)).alloc (.cells #[.int .i64 (-1),.int .i64 1,.int .i64 0] 172)))):=Lib.hid (maxf_c 188 _ (fun x y => ov ((-1,1,0):Hf) x - ov ((-1,1,0):Hf) y) (fun x y => ov ((-1,1,0):Hf) y≤ov ((-1,1,0):Hf) x) (fun x => Int.le_refl _) (fun x y z h k => Int.le_trans k h) (fun x m h => by show ov ((-1,1,0):Hf) m≤ov ((-1,1,0):Hf) x;omega) (fun x m h => by show ov ((-1,1,0):Hf) x≤ov ((-1,1,0):Hf) m;omega) l b o c _ (HR.out.grown (((G.alloc _ _)).alloc _ _)) L1 L2 (fun x y W hx hy g => eight1_c ((-1,1,0):Hf) (wr.heap.size+1) x y W (GE.out W g) (by decide) (HP.out x hx) (HP.out y hy)) (enters_of Tryz.func188 (by kernel_rfl) rfl))
   go_wp2_with fail
   refine MC.out.mono ?_
   rintro e w1 ⟨m,hm,rfl,g1⟩
   have HM:=Lib.hid hm
   have GG:=Lib.hid (Grew.trans (((Grew.refl wr).alloc _ _).alloc _ _) g1)
   have GS:=Lib.hid (Grew.trans ((G.alloc _ _).alloc _ _) g1)
   clear g1 hm
   go_wp2_with (at_builtin;go_must (refine append_T _ rfl _ _ 48 Tryz.underlying48 rfl w.heap.size _ po [m] _ 0 1 rfl ((Hl.Own.grew OW.out GG.out).alloc _) rfl (by exact row_one rfl) (by have:=PL.out;simp;omega) (by have:=GS.out.size;simp;omega) ?_;intro v' w' own' gr';obtain ⟨sa',sc',rfl⟩:=own'.sl.shape))
   go_roundw
   case rel => exact ⟨4,po ++ [m],by omega,by simp,Grew.grown (GS.out.alloc _ _) gr' (fun k e => OW.out.block k e),by rw [List.length_append,List.length_singleton] at own';exact own',by
    obtain ⟨h1,h2⟩:=FR.out
    refine ⟨by rw [List.length_append,h1];rfl,fun j hj => ?_⟩
    by_cases e:j=3
    ·subst e
     have e1:at' (po ++ [m]) 3=m:=by have:=at_last po m;rw [h1] at this;exact this
     rw [e1]
     exact HM.out
    ·rw [at_append (by rw [h1];omega)]
     exact h2 j (by omega)⟩
   case measure => simp [intOf]
  ·have GE:Hid (∀ W,Grew (((wr.alloc (.cells #[.int .i64 (-1),.int .i64 0,.int .i64 0] 78)).alloc (.cells #[.int .i64 (-1),.int .i64 0,.int .i64 0] 172))) W→Blk W (wr.heap.size+1) #[.int .i64 (-1),.int .i64 0,.int .i64 0] 172):=Lib.hid (fun W g => by
    have h:=Blk.new (wr.alloc (.cells #[.int .i64 (-1),.int .i64 0,.int .i64 0] 78)) #[.int .i64 (-1),.int .i64 0,.int .i64 0] 172
    rw [World.size_alloc] at h
    exact h.grown g)
   have MC:Hid (Calls Tryz.prog 187 #[.slice (some ⟨b,o,none⟩) l.length c,.func (.func 188) #[] #[.pointer (some ⟨wr.heap.size+1,0,none⟩)]] ((wr.alloc (.cells #[.int .i64 (-1),.int .i64 0,.int .i64 0] 78)).alloc (.cells #[.int .i64 (-1),.int .i64 0,.int .i64 0] 172)) (BestSays (fun x y => ov ((-1,0,0):Hf) y≤ov ((-1,0,0):Hf) x) l ((wr.alloc (.cells #[.int .i64 (-1),.int .i64 0,.int .i64 0] 78)).alloc (.cells #[.int .i64 (-1),.int .i64 0,.int .i64 0] 172)))):=Lib.hid (maxf_c 188 _ (fun x y => ov ((-1,0,0):Hf) x - ov ((-1,0,0):Hf) y) (fun x y => ov ((-1,0,0):Hf) y≤ov ((-1,0,0):Hf) x) (fun x => Int.le_refl _) (fun x y z h k => Int.le_trans k h) (fun x m h => by show ov ((-1,0,0):Hf) m≤ov ((-1,0,0):Hf) x;omega) (fun x m h => by show ov ((-1,0,0):Hf) x≤ov ((-1,0,0):Hf) m;omega) l b o c _ (HR.out.grown (((G.alloc _ _)).alloc _ _)) L1 L2 (fun x y W hx hy g => eight1_c ((-1,0,0):Hf) (wr.heap.size+1) x y W (GE.out W g) (by decide) (HP.out x hx) (HP.out y hy)) (enters_of Tryz.func188 (by kernel_rfl) rfl))
   go_wp2_with fail
   refine MC.out.mono ?_
   rintro e w1 ⟨m,hm,rfl,g1⟩
   have HM:=Lib.hid hm
   have GG:=Lib.hid (Grew.trans (((Grew.refl wr).alloc _ _).alloc _ _) g1)
   have GS:=Lib.hid (Grew.trans ((G.alloc _ _).alloc _ _) g1)
   clear g1 hm
   go_wp2_with (at_builtin;go_must (refine append_T _ rfl _ _ 48 Tryz.underlying48 rfl w.heap.size _ po [m] _ 0 1 rfl ((Hl.Own.grew OW.out GG.out).alloc _) rfl (by exact row_one rfl) (by have:=PL.out;simp;omega) (by have:=GS.out.size;simp;omega) ?_;intro v' w' own' gr';obtain ⟨sa',sc',rfl⟩:=own'.sl.shape))
   go_roundw
   case rel => exact ⟨5,po ++ [m],by omega,by simp,Grew.grown (GS.out.alloc _ _) gr' (fun k e => OW.out.block k e),by rw [List.length_append,List.length_singleton] at own';exact own',by
    obtain ⟨h1,h2⟩:=FR.out
    refine ⟨by rw [List.length_append,h1];rfl,fun j hj => ?_⟩
    by_cases e:j=4
    ·subst e
     have e1:at' (po ++ [m]) 4=m:=by have:=at_last po m;rw [h1] at this;exact this
     rw [e1]
     exact HM.out
    ·rw [at_append (by rw [h1];omega)]
     exact h2 j (by omega)⟩
   case measure => simp [intOf]
  ·have GE:Hid (∀ W,Grew (((wr.alloc (.cells #[.int .i64 (-1),.int .i64 (-1),.int .i64 0] 78)).alloc (.cells #[.int .i64 (-1),.int .i64 (-1),.int .i64 0] 172))) W→Blk W (wr.heap.size+1) #[.int .i64 (-1),.int .i64 (-1),.int .i64 0] 172):=Lib.hid (fun W g => by
    have h:=Blk.new (wr.alloc (.cells #[.int .i64 (-1),.int .i64 (-1),.int .i64 0] 78)) #[.int .i64 (-1),.int .i64 (-1),.int .i64 0] 172
    rw [World.size_alloc] at h
    exact h.grown g)
   have MC:Hid (Calls Tryz.prog 187 #[.slice (some ⟨b,o,none⟩) l.length c,.func (.func 188) #[] #[.pointer (some ⟨wr.heap.size+1,0,none⟩)]] ((wr.alloc (.cells #[.int .i64 (-1),.int .i64 (-1),.int .i64 0] 78)).alloc (.cells #[.int .i64 (-1),.int .i64 (-1),.int .i64 0] 172)) (BestSays (fun x y => ov ((-1,-1,0):Hf) y≤ov ((-1,-1,0):Hf) x) l ((wr.alloc (.cells #[.int .i64 (-1),.int .i64 (-1),.int .i64 0] 78)).alloc (.cells #[.int .i64 (-1),.int .i64 (-1),.int .i64 0] 172)))):=Lib.hid (maxf_c 188 _ (fun x y => ov ((-1,-1,0):Hf) x - ov ((-1,-1,0):Hf) y) (fun x y => ov ((-1,-1,0):Hf) y≤ov ((-1,-1,0):Hf) x) (fun x => Int.le_refl _) (fun x y z h k => Int.le_trans k h) (fun x m h => by show ov ((-1,-1,0):Hf) m≤ov ((-1,-1,0):Hf) x;omega) (fun x m h => by show ov ((-1,-1,0):Hf) x≤ov ((-1,-1,0):Hf) m;omega) l b o c _ (HR.out.grown (((G.alloc _ _)).alloc _ _)) L1 L2 (fun x y W hx hy g => eight1_c ((-1,-1,0):Hf) (wr.heap.size+1) x y W (GE.out W g) (by decide) (HP.out x hx) (HP.out y hy)) (enters_of Tryz.func188 (by kernel_rfl) rfl))
   go_wp2_with fail
   refine MC.out.mono ?_
   rintro e w1 ⟨m,hm,rfl,g1⟩
   have HM:=Lib.hid hm
   have GG:=Lib.hid (Grew.trans (((Grew.refl wr).alloc _ _).alloc _ _) g1)
   have GS:=Lib.hid (Grew.trans ((G.alloc _ _).alloc _ _) g1)
   clear g1 hm
   go_wp2_with (at_builtin;go_must (refine append_T _ rfl _ _ 48 Tryz.underlying48 rfl w.heap.size _ po [m] _ 0 1 rfl ((Hl.Own.grew OW.out GG.out).alloc _) rfl (by exact row_one rfl) (by have:=PL.out;simp;omega) (by have:=GS.out.size;simp;omega) ?_;intro v' w' own' gr';obtain ⟨sa',sc',rfl⟩:=own'.sl.shape))
   go_roundw
   case rel => exact ⟨6,po ++ [m],by omega,by simp,Grew.grown (GS.out.alloc _ _) gr' (fun k e => OW.out.block k e),by rw [List.length_append,List.length_singleton] at own';exact own',by
    obtain ⟨h1,h2⟩:=FR.out
    refine ⟨by rw [List.length_append,h1];rfl,fun j hj => ?_⟩
    by_cases e:j=5
    ·subst e
     have e1:at' (po ++ [m]) 5=m:=by have:=at_last po m;rw [h1] at this;exact this
     rw [e1]
     exact HM.out
    ·rw [at_append (by rw [h1];omega)]
     exact h2 j (by omega)⟩
   case measure => simp [intOf]
  ·have GE:Hid (∀ W,Grew (((wr.alloc (.cells #[.int .i64 0,.int .i64 (-1),.int .i64 0] 78)).alloc (.cells #[.int .i64 0,.int .i64 (-1),.int .i64 0] 172))) W→Blk W (wr.heap.size+1) #[.int .i64 0,.int .i64 (-1),.int .i64 0] 172):=Lib.hid (fun W g => by
    have h:=Blk.new (wr.alloc (.cells #[.int .i64 0,.int .i64 (-1),.int .i64 0] 78)) #[.int .i64 0,.int .i64 (-1),.int .i64 0] 172
    rw [World.size_alloc] at h
    exact h.grown g)
   have MC:Hid (Calls Tryz.prog 187 #[.slice (some ⟨b,o,none⟩) l.length c,.func (.func 188) #[] #[.pointer (some ⟨wr.heap.size+1,0,none⟩)]] ((wr.alloc (.cells #[.int .i64 0,.int .i64 (-1),.int .i64 0] 78)).alloc (.cells #[.int .i64 0,.int .i64 (-1),.int .i64 0] 172)) (BestSays (fun x y => ov ((0,-1,0):Hf) y≤ov ((0,-1,0):Hf) x) l ((wr.alloc (.cells #[.int .i64 0,.int .i64 (-1),.int .i64 0] 78)).alloc (.cells #[.int .i64 0,.int .i64 (-1),.int .i64 0] 172)))):=Lib.hid (maxf_c 188 _ (fun x y => ov ((0,-1,0):Hf) x - ov ((0,-1,0):Hf) y) (fun x y => ov ((0,-1,0):Hf) y≤ov ((0,-1,0):Hf) x) (fun x => Int.le_refl _) (fun x y z h k => Int.le_trans k h) (fun x m h => by show ov ((0,-1,0):Hf) m≤ov ((0,-1,0):Hf) x;omega) (fun x m h => by show ov ((0,-1,0):Hf) x≤ov ((0,-1,0):Hf) m;omega) l b o c _ (HR.out.grown (((G.alloc _ _)).alloc _ _)) L1 L2 (fun x y W hx hy g => eight1_c ((0,-1,0):Hf) (wr.heap.size+1) x y W (GE.out W g) (by decide) (HP.out x hx) (HP.out y hy)) (enters_of Tryz.func188 (by kernel_rfl) rfl))
   go_wp2_with fail
   refine MC.out.mono ?_
   rintro e w1 ⟨m,hm,rfl,g1⟩
   have HM:=Lib.hid hm
   have GG:=Lib.hid (Grew.trans (((Grew.refl wr).alloc _ _).alloc _ _) g1)
   have GS:=Lib.hid (Grew.trans ((G.alloc _ _).alloc _ _) g1)
   clear g1 hm
   go_wp2_with (at_builtin;go_must (refine append_T _ rfl _ _ 48 Tryz.underlying48 rfl w.heap.size _ po [m] _ 0 1 rfl ((Hl.Own.grew OW.out GG.out).alloc _) rfl (by exact row_one rfl) (by have:=PL.out;simp;omega) (by have:=GS.out.size;simp;omega) ?_;intro v' w' own' gr';obtain ⟨sa',sc',rfl⟩:=own'.sl.shape))
   go_roundw
   case rel => exact ⟨7,po ++ [m],by omega,by simp,Grew.grown (GS.out.alloc _ _) gr' (fun k e => OW.out.block k e),by rw [List.length_append,List.length_singleton] at own';exact own',by
    obtain ⟨h1,h2⟩:=FR.out
    refine ⟨by rw [List.length_append,h1];rfl,fun j hj => ?_⟩
    by_cases e:j=6
    ·subst e
     have e1:at' (po ++ [m]) 6=m:=by have:=at_last po m;rw [h1] at this;exact this
     rw [e1]
     exact HM.out
    ·rw [at_append (by rw [h1];omega)]
     exact h2 j (by omega)⟩
   case measure => simp [intOf]
  ·have GE:Hid (∀ W,Grew (((wr.alloc (.cells #[.int .i64 1,.int .i64 (-1),.int .i64 0] 78)).alloc (.cells #[.int .i64 1,.int .i64 (-1),.int .i64 0] 172))) W→Blk W (wr.heap.size+1) #[.int .i64 1,.int .i64 (-1),.int .i64 0] 172):=Lib.hid (fun W g => by
    have h:=Blk.new (wr.alloc (.cells #[.int .i64 1,.int .i64 (-1),.int .i64 0] 78)) #[.int .i64 1,.int .i64 (-1),.int .i64 0] 172
    rw [World.size_alloc] at h
    exact h.grown g)
   have MC:Hid (Calls Tryz.prog 187 #[.slice (some ⟨b,o,none⟩) l.length c,.func (.func 188) #[] #[.pointer (some ⟨wr.heap.size+1,0,none⟩)]] ((wr.alloc (.cells #[.int .i64 1,.int .i64 (-1),.int .i64 0] 78)).alloc (.cells #[.int .i64 1,.int .i64 (-1),.int .i64 0] 172)) (BestSays (fun x y => ov ((1,-1,0):Hf) y≤ov ((1,-1,0):Hf) x) l ((wr.alloc (.cells #[.int .i64 1,.int .i64 (-1),.int .i64 0] 78)).alloc (.cells #[.int .i64 1,.int .i64 (-1),.int .i64 0] 172)))):=Lib.hid (maxf_c 188 _ (fun x y => ov ((1,-1,0):Hf) x - ov ((1,-1,0):Hf) y) (fun x y => ov ((1,-1,0):Hf) y≤ov ((1,-1,0):Hf) x) (fun x => Int.le_refl _) (fun x y z h k => Int.le_trans k h) (fun x m h => by show ov ((1,-1,0):Hf) m≤ov ((1,-1,0):Hf) x;omega) (fun x m h => by show ov ((1,-1,0):Hf) x≤ov ((1,-1,0):Hf) m;omega) l b o c _ (HR.out.grown (((G.alloc _ _)).alloc _ _)) L1 L2 (fun x y W hx hy g => eight1_c ((1,-1,0):Hf) (wr.heap.size+1) x y W (GE.out W g) (by decide) (HP.out x hx) (HP.out y hy)) (enters_of Tryz.func188 (by kernel_rfl) rfl))
   go_wp2_with fail
   refine MC.out.mono ?_
   rintro e w1 ⟨m,hm,rfl,g1⟩
   have HM:=Lib.hid hm
   have GG:=Lib.hid (Grew.trans (((Grew.refl wr).alloc _ _).alloc _ _) g1)
   have GS:=Lib.hid (Grew.trans ((G.alloc _ _).alloc _ _) g1)
   clear g1 hm
   go_wp2_with (at_builtin;go_must (refine append_T _ rfl _ _ 48 Tryz.underlying48 rfl w.heap.size _ po [m] _ 0 1 rfl ((Hl.Own.grew OW.out GG.out).alloc _) rfl (by exact row_one rfl) (by have:=PL.out;simp;omega) (by have:=GS.out.size;simp;omega) ?_;intro v' w' own' gr';obtain ⟨sa',sc',rfl⟩:=own'.sl.shape))
   go_roundw
   case rel => exact ⟨8,po ++ [m],by omega,by simp,Grew.grown (GS.out.alloc _ _) gr' (fun k e => OW.out.block k e),by rw [List.length_append,List.length_singleton] at own';exact own',by
    obtain ⟨h1,h2⟩:=FR.out
    refine ⟨by rw [List.length_append,h1];rfl,fun j hj => ?_⟩
    by_cases e:j=7
    ·subst e
     have e1:at' (po ++ [m]) 7=m:=by have:=at_last po m;rw [h1] at this;exact this
     rw [e1]
     exact HM.out
    ·rw [at_append (by rw [h1];omega)]
     exact h2 j (by omega)⟩
   case measure => simp [intOf]
  ·have FR8:=Lib.hid FR.out
   go_wp2_with fail
   refine (K.hull_new po _ _ (OW.out.sl) (by have:=PL.out;omega) (fun e => by have:=PL.out;rw [e] at this;cases this) (fun i hi => HP.out _ (FR8.out.2 i (by have:=PL.out;omega)).1)).mono ?_
   rintro e w1 ⟨q1,hq1,h⟩
   have hl1:q1.length≤8:=by have:=count_le (at' q1) q1.length po (fun _ _ hi hj hne => pg_distinct hq1.1 hi hj hne) (fun _ hi => hq1.2.1 _ (at_mem hi));have:=PL.out;omega
   rcases h with ⟨h64,v1,rfl,hs1,g1⟩ | ⟨h64,_⟩
   ·have G1:Grew w w1:=Grew.trans G g1
    have HQ:=Lib.hid hq1
    have EC:Hid (Calls Tryz.prog 98 #[v1] w1 (EightNew q1 w1)):=Lib.hid (K.eight_new q1 _ _ hs1.sl (vl_of hq1.1 (by omega) (fun i hi => by
     obtain ⟨j,hj,e⟩:=mem_at (hq1.2.1 _ (at_mem hi))
     rw [← e]
     exact HP.out _ (FR8.out.2 j (by have:=PL.out;omega)).1)))
    clear g1 hq1 hs1 FR OW hl1
    go_wp2_with fail
    refine EC.out.mono ?_
    rintro e w2 ⟨q,v,ho,rfl,hs2,g2⟩
    go_wp2_with fail
    go_ret2
    exact ⟨q,_,fun q0 h0 => oct_far FR8.out h0 HQ.out ho,rfl,hs2.later G1,Grew.trans G1 g2⟩
   ·omega
end Ct
end Go.Proofs.YtbpgfenippiepaaGreatDoor
