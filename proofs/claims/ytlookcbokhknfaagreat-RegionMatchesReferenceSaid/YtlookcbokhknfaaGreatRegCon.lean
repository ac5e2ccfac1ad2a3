/-
  What package region owes, a relation each.
  Small facts of slices of polygons and of blocks of two cells.
  The examples of the chapter about regions, without the program.
  Small functions of the statements about layer 7: at, box; Same of the reference.
-/
import Derived.Test.YtlookcbokhknfaaGreatRegSl
import Derived.Test.YtlookcbokhknfaaGreatHullCa
import Derived.Test.YtlookcbokhknfaaGreatHullCon
import Derived.Test.YtlookcbokhknfaaGreatHullIn
namespace Go.Proofs.YtlookcbokhknfaaGreat
open Go.RowKit Hl
namespace Rg
open Ct (Hf WF)
def AnsR (P:Int→Rgn→Prop) (w:World) (e:Ending) (w':World):Prop:=∃ v k r,P k r∧e=.returned (.tuple #[v,.int .i64 k])∧Rl w' v r∧Grew w w'
def AnsB (P:Bool→Int→Prop) (w:World) (e:Ending) (w':World):Prop:=∃ r k,P r k∧e=.returned (.tuple #[.bool r,.int .i64 k])∧Grew w w'
def Rect (lo hi:Pt):Prop:=(Plc lo∧Plc hi)∧lo.1≤hi.1∧lo.2≤hi.2
def Made (B:Prop) (C:Rgn→Prop) (k:Int) (r:Rgn):Prop:=(¬ B∧k=1∧r=[])∨(B∧k=0∧∃ c,C c∧TidyIs c r)
def TidP (L:Rgn) (k:Int) (r:Rgn):Prop:=Made (L.length≤4000∧AllV L) (fun c => c=L) k r
def JoiP (a b:Rgn) (k:Int) (r:Rgn):Prop:=Made (VlR a∧VlR b) (fun c => c=a ++ b) k r
def CutP (L:Rgn) (h:Hf) (k:Int) (r:Rgn):Prop:=Made (VlR L∧WF h) (CutC L h) k r
def MetP (a b:Rgn) (k:Int) (r:Rgn):Prop:=Made (VlR a∧VlR b) (MetC a b) k r
def OutP (L:Rgn) (lo hi:Pt) (k:Int) (r:Rgn):Prop:=Made (VlR L∧Rect lo hi) (OutC L lo hi) k r
def SumP (L:Rgn) (p:List Pt) (k:Int) (r:Rgn):Prop:=(k=3∧r=[]∧(VlR L∧Vl p)∧∃ i,i < L.length∧Mk.SumIs (nth L i) p 3 [])∨Made (VlR L∧Vl p) (SumC L p L.length) k r
def HasP (L:Rgn) (x:Pt) (r:Bool) (k:Int):Prop:=(¬ (VlR L∧Plc x)∧r=false∧k=1)∨((VlR L∧Plc x)∧(r=true↔InR L x)∧k=0)
def WitP (L:Rgn) (p:List Pt) (r:Bool) (k:Int):Prop:=(¬ (VlR L∧Vl p)∧r=false∧k=1)∨((VlR L∧Vl p)∧(r=true↔∀ q,q ∈ L→Lies q p)∧k=0)
def BoxP (L:Rgn) (lo hi:Pt) (ok:Bool) (k:Int):Prop:=(¬ VlR L∧lo=(0,0)∧hi=(0,0)∧ok=false∧k=1)∨(VlR L∧L=[]∧lo=(0,0)∧hi=(0,0)∧ok=false∧k=0)∨(VlR L∧L ≠ []∧IsBox L.flatten lo hi∧ok=true∧k=0)
def BoxA (L:Rgn) (w:World) (e:Ending) (w':World):Prop:=∃ (lo hi:Pt) (ok:Bool) (k:Int),BoxP L lo hi ok k∧e=.returned (.tuple #[.agg #[.int .i64 lo.1,.int .i64 lo.2],.agg #[.int .i64 hi.1,.int .i64 hi.2],.bool ok,.int .i64 k])∧Grew w w'
theorem Made.one {B:Prop} {C:Rgn→Prop} (hC:∀ c c',C c→C c'→c=c') {k k':Int} {r r':Rgn} (h:Made B C k r) (h':Made B C k' r'):k=k'∧r=r':=by
 rcases h with ⟨hb,rfl,rfl⟩ | ⟨hb,rfl,c,hc,ht⟩ <;> rcases h' with ⟨hb',rfl,rfl⟩ | ⟨hb',rfl,c',hc',ht'⟩
 ·exact ⟨rfl,rfl⟩
 ·exact absurd hb' hb
 ·exact absurd hb hb'
 ·obtain rfl:=hC c c' hc hc'
  exact ⟨rfl,tidy_one ht ht'⟩
theorem TidP.one {L:Rgn} {k k':Int} {r r':Rgn} (h:TidP L k r) (h':TidP L k' r'):k=k'∧r=r':=Made.one (fun _ _ h h' => h.trans h'.symm) h h'
theorem JoiP.one {a b:Rgn} {k k':Int} {r r':Rgn} (h:JoiP a b k r) (h':JoiP a b k' r'):k=k'∧r=r':=Made.one (fun _ _ h h' => h.trans h'.symm) h h'
theorem CutP.one {L:Rgn} {x:Hf} {k k':Int} {r r':Rgn} (h:CutP L x k r) (h':CutP L x k' r'):k=k'∧r=r':=Made.one (fun _ _ h h' => h.one h') h h'
theorem MetP.one {a b:Rgn} {k k':Int} {r r':Rgn} (h:MetP a b k r) (h':MetP a b k' r'):k=k'∧r=r':=Made.one (fun _ _ h h' => h.one h') h h'
theorem OutP.one {L:Rgn} {lo hi:Pt} {k k':Int} {r r':Rgn} (h:OutP L lo hi k r) (h':OutP L lo hi k' r'):k=k'∧r=r':=Made.one (fun _ _ h h' => h.one h') h h'
theorem SumP.one {L:Rgn} {p:List Pt} {k k':Int} {r r':Rgn} (h:SumP L p k r) (h':SumP L p k' r'):k=k'∧r=r':=by
 have no:∀ {c:Rgn},SumC L p L.length c→(∃ i,i < L.length∧Mk.SumIs (nth L i) p 3 [])→False:=fun {c} hc ⟨i,hi,h3⟩ => by
  obtain ⟨_,⟨s,hs,_⟩,_⟩:=Col.has hc hi
  have:=(hs.one h3).1
  omega
 rcases h with ⟨rfl,rfl,hb,he⟩ | h <;> rcases h' with ⟨rfl,rfl,hb',he'⟩ | h'
 ·exact ⟨rfl,rfl⟩
 ·rcases h' with ⟨hn,_⟩ | ⟨_,_,c,hc,_⟩
  ·exact absurd hb hn
  ·exact (no hc he).elim
 ·rcases h with ⟨hn,_⟩ | ⟨_,_,c,hc,_⟩
  ·exact absurd hb' hn
  ·exact (no hc he').elim
 ·exact Made.one (fun _ _ h h' => h.one h') h h'
structure Fns (fv fh ft fj fc fm fs fo fw fb:Nat):Prop where
 valid:∀ (L:Rgn) (v:Value) (w:World),Rl w v L→Calls Tryz.prog fv #[v] w (Tells (VlR L) w)
 has:∀ (L:Rgn) (x:Pt) (v:Value) (w:World),Rl w v L→Calls Tryz.prog fh #[v,.agg #[.int .i64 x.1,.int .i64 x.2]] w (AnsB (HasP L x) w)
 tidy:∀ (L:Rgn) (v:Value) (w:World),Rl w v L→Calls Tryz.prog ft #[v] w (AnsR (TidP L) w)
 join:∀ (a b:Rgn) (v u:Value) (w:World),Rl w v a→Rl w u b→Calls Tryz.prog fj #[v,u] w (AnsR (JoiP a b) w)
 cut:∀ (L:Rgn) (h:Hf) (v:Value) (w:World),Rl w v L→Calls Tryz.prog fc #[v,.agg #[.int .i64 h.1,.int .i64 h.2.1,.int .i64 h.2.2]] w (AnsR (CutP L h) w)
 meet:∀ (a b:Rgn) (v u:Value) (w:World),Rl w v a→Rl w u b→Calls Tryz.prog fm #[v,u] w (AnsR (MetP a b) w)
 sum:∀ (L:Rgn) (p:List Pt) (v u:Value) (w:World),Rl w v L→Sl w u p→p.length≤9223372036854775807→Calls Tryz.prog fs #[v,u] w (AnsR (SumP L p) w)
 out:∀ (L:Rgn) (lo hi:Pt) (v:Value) (w:World),Rl w v L→Calls Tryz.prog fo #[v,.agg #[.int .i64 lo.1,.int .i64 lo.2],.agg #[.int .i64 hi.1,.int .i64 hi.2]] w (AnsR (OutP L lo hi) w)
 within:∀ (L:Rgn) (p:List Pt) (v u:Value) (w:World),Rl w v L→Sl w u p→p.length≤9223372036854775807→Calls Tryz.prog fw #[v,u] w (AnsB (WitP L p) w)
 box:∀ (L:Rgn) (v:Value) (w:World),Rl w v L→Calls Tryz.prog fb #[v] w (BoxA L w)
abbrev Code:Prop:=Fns 14 12 16 19 21 23 25 27 29 31
end Rg
end Go.Proofs.YtlookcbokhknfaaGreat
namespace Go.Proofs.YtlookcbokhknfaaGreat
open Go.RowKit Go.Shelf Hl
namespace Rg
theorem rl_fun {w:World} {v:Value} {L:Rgn} (h:Rl w v L):∃ (a:Option Addr) (c:Nat) (U:Nat→Value),v=.slice a L.length c∧(∀ i,IsHd (U i))∧(∀ i,i < L.length→Sl w (U i) (nth L i))∧∀ i,i < L.length→∃ b o,a=some ⟨b,o,none⟩∧(b < w.heap.size∧b ≠ w.heap.size)∧w.cell? ⟨b,o+i,none⟩=some (U i):=by
 obtain ⟨⟨rfl,a,c,rfl⟩ | ⟨b,o,c,rfl,hb,hr⟩,_⟩:=h
 ·exact ⟨a,c,fun _ => .slice none 0 0,rfl,fun _ => ⟨_,_,_,rfl⟩,fun i hi => (by cases hi),fun i hi => (by cases hi)⟩
 ·obtain ⟨F,hF⟩:=Go.Deep.choose_lt (α:=Value) (n:=L.length) (p:=fun i u => w.cell? ⟨b,o+i,none⟩=some u∧Sl w u (nth L i)) hr
  refine ⟨_,c,fun i => if i < L.length then F i else .slice none 0 0,rfl,fun i => ?_,fun i hi => ?_,fun i hi => ⟨b,o,rfl,⟨hb,by omega⟩,?_⟩⟩
  ·by_cases hi:i < L.length
   ·simp only [if_pos hi]
    obtain ⟨a,c,e⟩:=(hF i hi).2.shape
    exact ⟨_,_,_,e⟩
   ·simp only [if_neg hi]
    exact ⟨_,_,_,rfl⟩
  ·simp only [if_pos hi]
   exact (hF i hi).2
  ·simp only [if_pos hi]
   exact (hF i hi).1
theorem blk_two {W:World} {B:Nat} {x y:Value} {t:TypeId} (h:Blk W B #[x,y] t):W.cell? ⟨B,0,none⟩=some x∧W.cell? ⟨B,1,none⟩=some y:=by simp [World.cell?,show W.heap[B]? = _ from h]
end Rg
end Go.Proofs.YtlookcbokhknfaaGreat
namespace Go.Proofs.YtlookcbokhknfaaGreat
open Go.RowKit Hl
namespace Rg
open Ct (Hf WF LeftS BothS Poly leftL mem_leftL ov)
def big:List Pt:=[(0,0),(4,0),(4,4),(0,4)]
def small:List Pt:=[(1,1),(2,1),(2,2),(1,2)]
def west:List Pt:=[(0,0),(0,4)]
def east:List Pt:=[(3,0),(4,0),(4,4),(3,4)]
def midl:List Pt:=[(1,0),(4,0),(4,4),(1,4)]
def mid:List Pt:=[(1,0),(2,0),(2,4),(1,4)]
def south:List Pt:=[(1,0),(2,0)]
def north:List Pt:=[(1,3),(2,3),(2,4),(1,4)]
def one3:List Pt:=[(3,0)]
def far:List Pt:=[(9,-3)]
def moved:List Pt:=[(4,1),(5,1),(5,2),(4,2)]
theorem big_vl:Vl big:=vl_of (pg_of (by decide)) (by decide) (plcs_of (by decide))
theorem small_vl:Vl small:=vl_of (pg_of (by decide)) (by decide) (plcs_of (by decide))
theorem east_vl:Vl east:=vl_of (pg_of (by decide)) (by decide) (plcs_of (by decide))
theorem north_vl:Vl north:=vl_of (pg_of (by decide)) (by decide) (plcs_of (by decide))
theorem one_vl {x:Pt} (h:Plc x):Vl [x]:=vl_of ⟨by simp,fun i h1 h2 => by simp at h2;omega,fun h => absurd h (by simp)⟩ (by simp) (plcs_of (by
 intro y hy
 rw [List.mem_singleton.1 hy]
 exact h))
theorem seg_pg {a b:Pt} (h:ls a b):Pg [a,b]:=⟨by simp,fun i h1 h2 => by
 obtain rfl:i=1:=by simp at h2;omega
 exact h,fun h => absurd h (by simp)⟩
theorem seg_vl {a b:Pt} (h:ls a b) (ha:Plc a) (hb:Plc b):Vl [a,b]:=vl_of (seg_pg h) (by simp) (plcs_of (by
 intro y hy
 rcases List.mem_cons.1 hy with e | hy
 ·rw [e];exact ha
 ·rw [List.mem_singleton.1 hy];exact hb))
theorem west_vl:Vl west:=seg_vl (by decide) (by decide) (by decide)
theorem south_vl:Vl south:=seg_vl (by decide) (by decide) (by decide)
theorem poly3 {S:Pt→Prop} (l q:List Pt) (hm:∀ y,y ∈ l↔S y) (hp:pgB q=true) (h3:3≤q.length) (h64:q.length≤64) (hs:∀ x,x ∈ q→x ∈ l) (hi:∀ x,x ∈ l→insB q x=true):Poly S q :=
 ⟨l,q,hm,⟨pg_of hp,hs,fun x hx => hs_of h3 (hi x hx)⟩,Or.inl ⟨h64,rfl⟩⟩
theorem poly2 {S:Pt→Prop} (l:List Pt) (a b:Pt) (hm:∀ y,y ∈ l↔S y) (h:ls a b) (hs:∀ x,x ∈ [a,b]→x ∈ l) (hi:∀ x,x ∈ l→Hs [a,b] x):Poly S [a,b] :=
 ⟨l,[a,b],hm,⟨seg_pg h,hs,hi⟩,Or.inl ⟨by simp,rfl⟩⟩
theorem c_west:Poly (LeftS big (1,0,0)) west:=poly2 (leftL big (1,0,0)) _ _ (mem_leftL _ _) (by decide) (by decide +kernel) (by decide +kernel)
theorem c_east:Poly (LeftS big (-1,0,-3)) east:=poly3 (leftL big (-1,0,-3)) east (mem_leftL _ _) (by decide) (by decide) (by decide) (by decide +kernel) (by decide +kernel)
theorem c_midl:Poly (LeftS big (-1,0,-1)) midl:=poly3 (leftL big (-1,0,-1)) midl (mem_leftL _ _) (by decide) (by decide) (by decide) (by decide +kernel) (by decide +kernel)
theorem c_mid:Poly (LeftS midl (1,0,2)) mid:=poly3 (leftL midl (1,0,2)) mid (mem_leftL _ _) (by decide) (by decide) (by decide) (by decide +kernel) (by decide +kernel)
theorem c_south:Poly (LeftS mid (0,1,0)) south:=poly2 (leftL mid (0,1,0)) _ _ (mem_leftL _ _) (by decide) (by decide +kernel) (by decide +kernel)
theorem c_north:Poly (LeftS mid (0,-1,-3)) north:=poly3 (leftL mid (0,-1,-3)) north (mem_leftL _ _) (by decide) (by decide) (by decide) (by decide +kernel) (by decide +kernel)
theorem cut1 {p q:List Pt} {h:Hf} (k:Poly (LeftS p h) q):CutC [p] h [q]:=⟨[],[q],rfl,Or.inl ⟨q,k,rfl⟩,rfl⟩
def left4:Rgn:=[west,east,south,north]
theorem pie:PieC big (1,1) (2,2) left4:=⟨[west],[east],[midl],[mid],[south],[north],cut1 c_west,cut1 c_east,cut1 c_midl,cut1 c_mid,cut1 c_south,cut1 c_north,rfl⟩
theorem all_one {p:List Pt} (h:Vl p):AllV [p]:=fun q hq => by rw [List.mem_singleton.1 hq];exact h
theorem vr_one {p:List Pt} (h:Vl p):VlR [p]:=⟨by simp,all_one h⟩
theorem left4_vl:VlR left4:=⟨by decide,fun p hp => by
 simp only [left4,List.mem_cons,List.not_mem_nil,or_false] at hp
 rcases hp with rfl | rfl | rfl | rfl
 ·exact west_vl
 ·exact east_vl
 ·exact south_vl
 ·exact north_vl⟩
theorem ex_out:OutP [big] (1,1) (2,2) 0 left4:=Or.inr ⟨⟨vr_one big_vl,by unfold Rect;decide⟩,rfl,left4,⟨[],left4,rfl,pie,rfl⟩,Or.inl ⟨by decide +kernel,by decide +kernel⟩⟩
theorem ex_outno:OutP [big] (2,1) (1,1) 1 []:=Or.inl ⟨fun h => absurd h.2.2.1 (by decide),rfl,rfl⟩
theorem ex_tidy:TidP [small,big,big] 0 [big]:=Or.inr ⟨⟨by decide,fun p hp => by
 simp only [List.mem_cons,List.not_mem_nil,or_false] at hp
 rcases hp with rfl | rfl | rfl
 ·exact small_vl
 ·exact big_vl
 ·exact big_vl⟩,rfl,_,rfl,Or.inl ⟨by decide +kernel,by decide +kernel⟩⟩
theorem ex_sum1:Mk.SumIs small one3 0 moved:=Or.inr ⟨⟨small_vl,one_vl (by decide)⟩,moved,⟨pg_of (by decide),by decide,fun x hx => hs_of (by decide) (by
 revert x
 decide)⟩,Or.inr ⟨plcs_of (by decide),rfl,Or.inl ⟨by decide,rfl⟩⟩⟩
theorem ex_sum:SumP [small] one3 0 [moved]:=Or.inr (Or.inr ⟨⟨vr_one small_vl,one_vl (by decide)⟩,rfl,[moved],⟨[],[moved],rfl,⟨moved,ex_sum1,rfl⟩,rfl⟩,Or.inl ⟨by decide +kernel,by decide +kernel⟩⟩)
instance (L:Rgn) (x:Pt):Decidable (InR L x):=by unfold InR;infer_instance
theorem ex_has:HasP left4 (1,3) true 0:=Or.inr ⟨⟨left4_vl,by decide⟩,⟨fun _ => by decide +kernel,fun _ => rfl⟩,rfl⟩
theorem ex_hasno:HasP left4 (2,1) false 0:=Or.inr ⟨⟨left4_vl,by decide⟩,⟨fun h => absurd h (by decide),fun h => absurd h (by decide +kernel)⟩,rfl⟩
theorem ex_box:BoxP [big,far] (0,-3) (9,4) true 0:=Or.inr (Or.inr ⟨⟨by decide,fun p hp => by
 simp only [List.mem_cons,List.not_mem_nil,or_false] at hp
 rcases hp with rfl | rfl
 ·exact big_vl
 ·exact one_vl (by decide)⟩,by decide,by unfold IsBox IsMin;decide,rfl,rfl⟩)
theorem ex_boxno:BoxP [] (0,0) (0,0) false 0:=Or.inr (Or.inl ⟨⟨by decide,fun p hp => by cases hp⟩,rfl,rfl,rfl,rfl,rfl⟩)
end Rg
end Go.Proofs.YtlookcbokhknfaaGreat
namespace Go.Proofs.YtlookcbokhknfaaGreat
open Go.RowKit Go.Shelf Hl
namespace Rg
theorem at_c (x y:Int) (w:World):Calls Tryz.prog 40 #[.int .i64 x,.int .i64 y] w fun e w' => e=.returned (.agg #[.int .i64 x,.int .i64 y])∧Grew w w':=by
 go_enter Tryz.func40,Tryz.ntmps40
 go_wp2_with fail
 refine bodyPost_ret (v:=.agg #[.int .i64 x,.int .i64 y]) (by simp [results,Tryz.results40,go_sem]) rfl ⟨rfl,(by repeat' (first|(with_reducible first|exact Grew.refl _|assumption|refine Grew.alloc ?_ _ _|refine Grew.drew ?_|refine Grew.drewN ?_ _|refine Grew.setCell ?_ ?_ _)|go_size))⟩
def boxL (lo hi:Pt):List Pt:=[lo,(hi.1,lo.2),hi,(lo.1,hi.2)]
set_option maxRecDepth 100000 in
set_option maxHeartbeats 4000000 in
theorem lbox_c (lo hi:Pt) (w:World):Calls Tryz.prog 43 #[.agg #[.int .i64 lo.1,.int .i64 lo.2],.agg #[.int .i64 hi.1,.int .i64 hi.2]] w fun e w' => ∃ v,e=.returned v∧Sl w' v (boxL lo hi)∧Grew w w':=by
 rcases lo with ⟨a,b⟩
 rcases hi with ⟨c,d⟩
 have A1:=Lib.hid (fun W => at_c c b W)
 have A2:=Lib.hid (fun W => at_c a d W)
 have B0:=Lib.hid ((Blk.new w #[.int .i64 a,.int .i64 b] 27).grown ((Grew.refl _).alloc #[.int .i64 c,.int .i64 d] 27))
 have B1:=Lib.hid (Blk.new (w.alloc (.cells #[.int .i64 a,.int .i64 b] 27)) #[.int .i64 c,.int .i64 d] 27)
 rw [World.size_alloc] at B1
 have G2:Grew w ((w.alloc (.cells #[.int .i64 a,.int .i64 b] 27)).alloc (.cells #[.int .i64 c,.int .i64 d] 27)):=((Grew.refl w).alloc _ _).alloc _ _
 go_enter Tryz.func43,Tryz.ntmps43
 go_wp2_with fail
 obtain ⟨x0,x1⟩:=blk_two B0.out
 obtain ⟨y0,y1⟩:=blk_two B1.out
 have hs0:w.heap.size < w.heap.size+1+1:=by omega
 have hs1:w.heap.size+1 < w.heap.size+1+1:=by omega
 go_region_held3 (fun w' => (w'.cell? ⟨w.heap.size,0,none⟩=some (.int .i64 a)∧w'.cell? ⟨w.heap.size,1,none⟩=some (.int .i64 b))∧w'.cell? ⟨w.heap.size+1,0,none⟩=some (.int .i64 c)∧w'.cell? ⟨w.heap.size+1,1,none⟩=some (.int .i64 d)) (simp [go_sem, *])
  (first | (go_at_call 40;refine (A1.out _).mono ?_;rintro e w1 ⟨rfl,g1⟩;have ga1:Grew ((w.alloc (.cells #[.int .i64 a,.int .i64 b] 27)).alloc (.cells #[.int .i64 c,.int .i64 d] 27)) w1:=Grew.trans (by repeat' (first|(with_reducible first|exact Grew.refl _|assumption|refine Grew.alloc ?_ _ _|refine Grew.drew ?_|refine Grew.drewN ?_ _|refine Grew.setCell ?_ ?_ _)|go_size)) g1;obtain ⟨x2,x3⟩:=blk_two (B0.out.grown ga1);obtain ⟨y2,y3⟩:=blk_two (B1.out.grown ga1)) | (go_at_call 40;refine (A2.out _).mono ?_;rintro e w2 ⟨rfl,g2⟩;have ga2:Grew ((w.alloc (.cells #[.int .i64 a,.int .i64 b] 27)).alloc (.cells #[.int .i64 c,.int .i64 d] 27)) w2:=Grew.trans (by repeat' (first|(with_reducible first|exact Grew.refl _|assumption|refine Grew.alloc ?_ _ _|refine Grew.drew ?_|refine Grew.drewN ?_ _|refine Grew.setCell ?_ ?_ _)|go_size)) g2;obtain ⟨x4,x5⟩:=blk_two (B0.out.grown ga2);obtain ⟨y4,y5⟩:=blk_two (B1.out.grown ga2);have e1:w.heap.size < w2.heap.size:=(B0.out.grown ga2).lt;have e2:w.heap.size+1 < w2.heap.size:=(B1.out.grown ga2).lt))
 all_goals go_wp2_with fail
 all_goals exact bodyPost_ret (v:=.slice (some ⟨w2.heap.size,0,none⟩) 4 4) (by simp [results,Tryz.results43,go_sem]) rfl ⟨_,rfl,Sl.of (row_new (boxL (a,b) (c,d)) _ rfl w2 _),(Grew.trans G2 ga2).alloc _ _⟩
set_option maxRecDepth 100000 in
set_option maxHeartbeats 4000000 in
theorem rsame_c (L M:Rgn) (v u:Value) (w:World) (hs:Rl w v L) (hs2:Rl w u M):Calls Tryz.prog 18 #[v,u] w (Tells (L=M) w):=by
 have hB:=hs.2
 obtain ⟨a,c,U,rfl,hU,hSl,hRr⟩:=rl_fun hs
 obtain ⟨a2,c2,X,rfl,hX,hSl2,hRr2⟩:=rl_fun hs2
 by_cases hl:L.length=M.length
 ·have SC:Hid (∀ i W,i < L.length→Grew w W→Calls Tryz.prog 44 #[U i,X i] W (Tells (nth L i=nth M i) W)):=Lib.hid (fun i W hi g => same_any (nth L i) (nth M i) (U i) (X i) W ((hSl i hi).grown g) ((hSl2 i (by omega)).grown g) (hB.2 _ (nth_mem hi)))
  have RR:Hid (∀ i W,i < L.length→Grew w W→∃ b o b' o',(a=some ⟨b,o,none⟩∧a2=some ⟨b',o',none⟩)∧(b < W.heap.size∧b' < W.heap.size)∧W.cell? ⟨b,o+i,none⟩=some (U i)∧W.cell? ⟨b',o'+i,none⟩=some (X i)):=Lib.hid (fun i W hi g => by
   obtain ⟨b,o,e,hb,z⟩:=hRr i hi
   obtain ⟨b',o',e',hb',z'⟩:=hRr2 i (by omega)
   exact ⟨b,o,b',o',⟨e,e'⟩,⟨Nat.lt_of_lt_of_le hb.1 g.size,Nat.lt_of_lt_of_le hb'.1 g.size⟩,(Grew.cell g hb.1).trans z,(Grew.cell g hb'.1).trans z'⟩)
  have NE:Hid ((∀ i,i < L.length→nth L i=nth M i)→L=M):=Lib.hid (fun h => by
   apply List.ext_getElem hl
   intro i h1 h2
   have:=h i h1
   rwa [nth_get h1,nth_get h2] at this)
  have LL:=Lib.hid hB.1
  rw [← hl]
  clear hs hs2 hU hSl hRr hX hSl2 hRr2 hB hl
  go_enter Tryz.func18,Tryz.ntmps18
  go_wp2_with fail
  go_loopw [5,6] (fun i _ wr => ∃ k:Nat,k≤L.length∧i=.int .i64 k∧Grew w wr∧Hid (∀ j,j < k→nth L j=nth M j)) (fun i _ _ => L.length - (intOf i).toNat)
  case atStart => exact ⟨0,Nat.zero_le _,rfl,Grew.refl _,Lib.hid (fun j hj => by omega)⟩
  case round =>
   obtain ⟨k,hk,rfl,G,D⟩:=hrel
   have hz:=LL.out
   by_cases hlt:k < L.length
   ·obtain ⟨b,o,b',o',⟨rfl,rfl⟩,⟨hb,hb'⟩,z0,z1⟩:=RR.out k _ hlt G
    have i0:(0:Int)≤(k:Int):=by omega
    have i1:(k:Int) < (L.length:Int):=by omega
    have CC:=Lib.hid (fun W g => SC.out k W hlt (Grew.trans G g))
    go_wp2_with fail
    go_region_held3 (fun w' => w'.cell? ⟨b,o+k,none⟩=some (U k)∧w'.cell? ⟨b',o'+k,none⟩=some (X k)) (simp [go_sem, *])
     (first | (go_at_call 44;refine (CC.out _ (by repeat' (first|(with_reducible first|exact Grew.refl _|assumption|refine Grew.alloc ?_ _ _|refine Grew.drew ?_|refine Grew.drewN ?_ _|refine Grew.setCell ?_ ?_ _)|go_size))).mono ?_;rintro e w1 ⟨r,rfl,hr,g1⟩;have GX:Grew wr w1:=Grew.trans (by repeat' (first|(with_reducible first|exact Grew.refl _|assumption|refine Grew.alloc ?_ _ _|refine Grew.drew ?_|refine Grew.drewN ?_ _|refine Grew.setCell ?_ ?_ _)|go_size)) g1;have G1:Grew w w1:=Grew.trans G GX;have y0:=(Grew.cell (o:=o+k) GX hb).trans z0;have y1:=(Grew.cell (o:=o'+k) GX hb').trans z1))
    cases r
    ·have F:Hid (¬ L=M):=Lib.hid (fun e => by
      have:=hr.2 (by rw [e])
      cases this)
     clear hr g1
     go_wp2_with fail
     go_ret
     exact Tells.no F.out rfl G1
    ·have F:=Lib.hid (hr.1 rfl)
     clear hr g1
     go_wp2_with fail
     go_roundw
     case rel => exact ⟨k+1,by omega,by go_num,G1,Lib.hid (fun j hj => by
      by_cases e:j=k
      ·rw [e];exact F.out
      ·exact D.out j (by omega))⟩
     case measure => simp [intOf];omega
   ·obtain rfl:k=L.length:=by omega
    have F:=Lib.hid (NE.out D.out)
    clear hz
    go_wp2_with fail
    go_ret
    exact Tells.yes F.out rfl G
 ·have F:Hid (¬ L=M):=Lib.hid (fun e => hl (by rw [e]))
  have hl':¬ (L.length:Int)=(M.length:Int):=by omega
  clear hs hs2 hU hSl hRr hX hSl2 hRr2 hB hl
  go_enter Tryz.func18,Tryz.ntmps18
  go_wp2_with fail
  go_ret
  exact Tells.no F.out rfl (Grew.refl _)
end Rg
end Go.Proofs.YtlookcbokhknfaaGreat
