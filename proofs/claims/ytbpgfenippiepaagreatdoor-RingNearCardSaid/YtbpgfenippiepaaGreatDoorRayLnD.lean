/-
  The landed package ray: Sector.
-/
import Derived.Test.YtbpgfenippiepaaGreatDoorRayLnA
import Derived.Test.YtbpgfenippiepaaGreatDoorHullWrap
import Derived.Test.YtbpgfenippiepaaGreatDoorHullHl
namespace Go.Proofs.YtbpgfenippiepaaGreatDoor
open Go.RowKit Go.Shelf Hl Ex
attribute [local go_sem] Oper.semAt_some
namespace Ry
set_option maxRecDepth 100000
def SecNew (a n:Nat) (lo hi:Int) (w:World) (e:Ending) (w':World):Prop:=∃ q v,IsHull (secL a n lo hi) q∧q.length≤64∧e=.returned (.tuple #[v,.int .i64 0])∧SlN w w' v q∧Grew w w'
theorem blk_newS {W:World} {k:Nat} {cs:Array Value} {t:TypeId} (h:W.heap.size=k):Blk (W.alloc (.cells cs t)) k cs t:=by
 subst h
 exact Blk.new _ _ _
theorem own_ne_t {B:Nat} {w:World} {v:Value} {p:List Pt} (h:Hl.Own B w v p) {n:Nat} {cs:Array Value} {t:TypeId} (hb:Blk w n cs t) (ht:t ≠ 24):v.ownBlock ≠ some n:=by
 intro e
 rcases h.2 with ⟨rfl,_⟩ | ⟨g,cap,cur,rfl,_,hg,_⟩
 ·cases e
 ·have e':g=n:=Option.some.inj e
  subst e'
  rw [show w.heap[g]? = _ from hb] at hg
  injection hg with hg
  injection hg with _ h2
  exact ht h2
theorem own_set {B:Nat} {w:World} {v:Value} {p:List Pt} (h:Hl.Own B w v p) {n:Nat} {cs:Array Value} {t:TypeId} (hb:Blk w n cs t) (ht:t ≠ 24) (u:Value):Hl.Own B (w.setCell ⟨n,0,none⟩ u) v p :=
 h.keeps (grownBy_setCell w n 0 u) (by
  cases hv:v.ownBlock with
  | none => exact Or.inl rfl
  | some k => exact Or.inr fun e => own_ne_t h hb ht (by rw [hv];exact e))
theorem own_ownF {β:Type} (B b:Nat) (f:β→List Pt):Go.Own (fun (s:β) W => ∃ v,Blk W b #[v] 48∧Hl.Own B W v (f s)):=fun s X Y row hs hg hrow => by
 obtain ⟨v,h1,h2⟩:=hs
 have nc:∀ r,row=some r→∀ cs t f,X.heap[r]? ≠ some (.cells cs t f):=fun r e cs t f h => by
  obtain ⟨o,ho,hc⟩:=hrow r e
  rw [h] at ho
  cases ho
  cases hc
 refine ⟨v,h1.kept hg (fun e => nc b e.symm _ _ _ h1),h2.keeps hg ?_⟩
 rcases h2.2 with ⟨rfl,_⟩ | ⟨g,cap,cur,rfl,_,hgb,_⟩
 ·exact Or.inl rfl
 ·exact Or.inr (fun e => nc g e.symm _ _ _ hgb)
theorem keepsF {B:Nat} {W W':World} {row:Option Nat} (hg:W.grownBy W' row) (h:∀ r,row=some r→∃ cs t f,W.heap[r]? = some (.cells cs t f)):KeepsFrom B W W' :=
 (KeepsOthers.of_grownBy hg (fun j o e ho => by
  obtain ⟨cs,t,f,hk⟩:=h j e
  rw [hk] at ho
  cases ho
  rfl)).from B
theorem own_cells9 {B:Nat} {W:World} {v:Value} {p:List Pt} (h:Hl.Own B W v p):∀ r,v.ownBlock=some r→∃ cs t f,W.heap[r]? = some (.cells cs t f):=fun r e => by
 rcases h.2 with ⟨rfl,_⟩ | ⟨g,cap,cur,rfl,_,hgb,_⟩
 ·simp [Value.ownBlock] at e
 ·simp [Value.ownBlock] at e
  subst e
  exact ⟨_,_,_,hgb⟩
theorem own_ne2 {B:Nat} {w:World} {v:Value} {l:List Pt} (h:Hl.Own B w v l) (h2:2≤l.length) {n:Nat} {x y:Value} {t:TypeId} (hb:Blk w n #[x,y] t):v.ownBlock ≠ some n:=by
 intro e
 obtain ⟨g,cap,rfl,hc,hl,hm,cur,h4,h5,_⟩:=Hl.Own.at h (fun e => by rw [e] at h2;exact absurd h2 (by decide))
 have e':g=n:=Option.some.inj e
 subst e'
 have hb':w.heap[g]? = some (.cells #[x,y] t (0,0)):=hb
 rw [h4] at hb'
 injection hb' with hb'
 injection hb' with hb'
 rw [hb'] at h5
 have:(#[x,y]:Array Value).size=2:=rfl
 omega
theorem step_app {ops:Array Oper} {o:Oper} {a:Act} {K:Act→World→Prop} {Q:Exit→Act→World→Prop} {E:Prop} (w:World) (hgd:o.guard=none) (s x:Operand)
  (ho:o.op=.call { callee:=.builtin .append,args:=#[s,x],argTypes:=#[48,48] }) (B:Nat) (v:Value) (p y:List Pt) (wb c:Nat)
  (hs:a.eval s=v) (hown:Hl.Own B w v p) (hx:a.eval x=.slice (some ⟨wb,0,none⟩) y.length c) (hr:Row w wb 0 y) (hl:p.length+y.length≤4000000) (hB:B≤w.heap.size)
  (h:∀ v' w',Hl.Own B w' v' (p ++ y)→w.grownBy w' v.ownBlock→K (a.put o.dst v') w'):if Region.wanted o (yielded ops a.tmps)=true then Oper.wp Tryz.prog o a w K Q else E:=by
 have hw:Region.wanted o (yielded ops a.tmps)=true:=by simp [Region.wanted,hgd]
 rw [if_pos hw]
 obtain ⟨i0,hi,hz0,hz1,hz2⟩:=info_parts info_pt
 refine wp_append_own w s x 48 ho B 24 i0 (.agg #[.int .i64 0,.int .i64 0]) 2 16 Tryz.underlying48 hi hz0 hz1 hz2 rfl (by decide) v p.length (cellsOf p) hs hown ⟨wb,0,none⟩ y.length c (cellsOf y) hx (cellsOf_len y) (row_cells hr) (cells_one y) (by unfold maxLen;omega) (by omega) hB ?_
 intro v' w' h1 h2 _
 refine h v' w' ?_ h2
 unfold Hl.Own
 rw [cellsOf_append,List.length_append]
 exact h1
theorem blk_tne {w:World} {n m:Nat} {cs ds:Array Value} {t u:TypeId} (h:Blk w n cs t) (k:Blk w m ds u) (ht:t ≠ u):n ≠ m:=fun e => by
 subst e
 have h2:=(show w.heap[n]? = _ from h).symm.trans (show w.heap[n]? = _ from k)
 injection h2 with h2
 injection h2 with _ h3
 exact ht h3
theorem OwnAt.alloc9 {B:Nat} {w:World} {g cap:Nat} {p:List Pt} (h:OwnAt B w g cap p) (o:Obj):OwnAt B (w.alloc o) g cap p:=h.kept (World.grownBy_alloc w o none) (by simp)
theorem OwnAt.drew9 {B:Nat} {w:World} {g cap:Nat} {p:List Pt} (h:OwnAt B w g cap p):OwnAt B w.drew g cap p:=h
theorem own_mono9 {B B':Nat} {w:World} {v:Value} {p:List Pt} (h:Hl.Own B w v p) (hb:B'≤B):Hl.Own B' w v p:=Hl.Own.less h hb
theorem bx_len (r:Pt) (n d:Int):(bx r n d).length=4:=rfl
def farL (a:Nat) (hi:Int) (ks:List Nat):List Pt:=ks.flatMap fun k => bx (dir (a+k)) hi 998
theorem farL_snoc (a:Nat) (hi:Int) (ks:List Nat) (k:Nat):farL a hi (ks ++ [k])=farL a hi ks ++ bx (dir (a+k)) hi 998:=by unfold farL;rw [List.flatMap_append];simp
theorem farL_len (a:Nat) (hi:Int) (ks:List Nat):(farL a hi ks).length=4 * ks.length:=by
 induction ks with
 | nil => rfl
 | cons k ks ih =>
   have e:farL a hi (k :: ks)=bx (dir (a+k)) hi 998 ++ farL a hi ks:=rfl
   rw [e,List.length_append,ih,bx_len,List.length_cons]
   omega
def nearL (a n:Nat) (lo:Int):List Pt:=bx (dir a) lo 1001 ++ bx (dir (a+n)) lo 1001
theorem secL_is (a n:Nat) (lo hi:Int):secL a n lo hi=nearL a n lo ++ farL a hi (List.range (n+1)):=rfl
theorem secL_len (a n:Nat) (lo hi:Int):(secL a n lo hi).length=8+4 * (n+1):=by
 rw [secL_is,List.length_append,farL_len,List.length_range]
 rfl
theorem secL_plcs {a n:Nat} {lo hi:Int} (h0:0≤lo) (h1:lo≤hi) (h2:hi≤100000):Plcs (secL a n lo hi):=fun i hi' => by
 have:=sec_bd h0 h1 (b:=100402) (by omega) (at_mem hi')
 unfold Plc
 omega
set_option maxHeartbeats 4000000 in
theorem sector_ok (K:∀ (l:List Pt) (v:Value) (w:World),Sl w v l→l.length≤4000→l ≠ []→Plcs l→Calls Tryz.prog 103 #[v] w (HullNew l w)) (a n:Nat) (lo hi:Int) (w:World) (hT:Tq w) (ha:a < 64) (hn:n≤31) (h0:0≤lo) (h1:lo≤hi) (h2:hi≤100000):Calls Tryz.prog 61 #[.int .i64 a,.int .i64 n,.agg #[.int .i64 lo,.int .i64 hi]] w (SecNew a n lo hi w):=by
 have A0:Hid ((0:Int)≤(a:Int)∧(a:Int) < 64):=Lib.hid (by omega)
 have N0:Hid ((0:Int)≤(n:Int)∧(n:Int)≤31):=Lib.hid (by omega)
 have a0:(0:Int)≤(a:Int):=by omega
 have a1:(a:Int) < 64:=by omega
 have n0:(0:Int)≤(n:Int):=by omega
 have n1:(n:Int)≤31:=by omega
 have B0:Hid (0≤lo∧lo≤hi∧hi≤100000):=Lib.hid ⟨h0,h1,h2⟩
 have AN:Hid (a < 64∧n≤31):=Lib.hid ⟨ha,hn⟩
 have HT:=Lib.hid hT
 have d1:¬ hi < lo:=by omega
 have d0:¬ lo < 0:=by omega
 have d2:¬ 100000 < hi:=by omega
 have SP:=Lib.hid (Blk.new w #[.int .i64 lo,.int .i64 hi] 26)
 have GS:Hid (Grew w (w.alloc (.cells #[.int .i64 lo,.int .i64 hi] 26))):=Lib.hid ((Grew.refl w).alloc _ _)
 have lS:w.heap.size < (w.alloc (.cells #[.int .i64 lo,.int .i64 hi] 26)).heap.size:=by simp
 have SZ0:Hid ((w.alloc (.cells #[.int .i64 lo,.int .i64 hi] 26)).heap.size=w.heap.size+1):=Lib.hid (by simp)
 obtain ⟨w0,hw0⟩:∃ w0,(w.alloc (.cells #[.int .i64 lo,.int .i64 hi] 26))=w0:=⟨_,rfl⟩
 have CD:Hid (∀ (z:Int) W,0≤z→z < 128→Grew w0 W→Calls Tryz.prog 79 #[.int .i64 z] W fun e w' => e=.returned (.agg #[.int .i64 (dir z.toNat).1,.int .i64 (dir z.toNat).2])∧(w'.cell? ⟨w.heap.size,0,none⟩=some (.int .i64 lo)∧w'.cell? ⟨w.heap.size,1,none⟩=some (.int .i64 hi))∧Grew W w'∧Grew w0 w'):=Lib.hid (fun z W z0 z1 g => by
  have h:=direction_c z.toNat W ((hT.grew GS.out).grew (by rw [hw0];exact g)) (by omega)
  rw [show ((z.toNat:Nat):Int)=z by omega] at h
  refine h.mono ?_
  rintro e w' ⟨rfl,g'⟩
  have g2:=g.trans g'
  rw [← hw0] at g2
  exact ⟨rfl,(SP.out.grown g2).two.1,g',g.trans g'⟩)
 have CR:Hid (∀ (r:Pt) W,((-1000≤r.1∧r.1≤1000)∧(-1000≤r.2∧r.2≤1000))→Grew w0 W→Calls Tryz.prog 101 #[.agg #[.int .i64 r.1,.int .i64 r.2],.int .i64 lo,.int .i64 1001] W fun e w' => ∃ g,e=.returned (.slice (some ⟨g,0,none⟩) 4 4)∧(w'.cell? ⟨w.heap.size,0,none⟩=some (.int .i64 lo)∧w'.cell? ⟨w.heap.size,1,none⟩=some (.int .i64 hi))∧Hid (OwnAt w0.heap.size w' g 4 (bx r lo 1001))∧Grew W w'∧Grew w0 w'):=Lib.hid (fun r W hr g => by
  refine (rounded_c r lo 1001 W hr B0.out.1 (by have:=B0.out;omega) (Or.inr rfl)).mono ?_
  rintro e w' ⟨x,rfl,ho,g'⟩
  have g2:=g.trans g'
  rw [← hw0] at g2
  exact ⟨x,rfl,(SP.out.grown g2).two.1,Lib.hid (ho.mono g.size),g',g.trans g'⟩)
 have CC:Hid (∀ x g1 g2 (P Q:List Pt) W,P.length=4→Q.length=4→Grew w0 W→Blk W x #[.slice (some ⟨g1,0,none⟩) 4 4,.slice (some ⟨g2,0,none⟩) 4 4] 48→OwnAt w0.heap.size W g1 4 P→OwnAt w0.heap.size W g2 4 Q→Calls Tryz.prog 100 #[.slice (some ⟨x,0,none⟩) 2 2] W fun e w' => ∃ sa sc,e=.returned (.slice sa 8 sc)∧(w'.cell? ⟨w.heap.size,0,none⟩=some (.int .i64 lo)∧w'.cell? ⟨w.heap.size,1,none⟩=some (.int .i64 hi))∧Hid (Hl.Own w0.heap.size w' (.slice sa 8 sc) (P ++ Q))∧Grew W w'∧Grew w0 w'):=Lib.hid (fun x g1 g2 P Q W hP hQ g hb o1 o2 => by
  have h:=concat_pts x g1 g2 4 4 P Q W (by rw [hP,hQ];exact hb) o1.row o2.row (by omega) (by omega) (by omega)
  refine h.mono ?_
  rintro e w' ⟨v,rfl,ho,g'⟩
  have g3:=g.trans g'
  rw [← hw0] at g3
  obtain ⟨sa,sc,rfl⟩:=ho.sl.shape
  rw [List.length_append,hP,hQ] at ho ⊢
  exact ⟨sa,sc,rfl,(SP.out.grown g3).two.1,Lib.hid (own_mono9 ho g.size),g',g.trans g'⟩)
 have DN1:Hid (dir (a:Int).toNat=dir a):=Lib.hid (by rw [Int.toNat_natCast])
 have DN2:Hid (dir ((a:Int)+(n:Int)).toNat=dir (a+n)):=Lib.hid (by rw [show ((a:Int)+(n:Int)).toNat=a+n by omega])
 have HW:=Lib.hid hw0
 clear h0 h1 h2 ha hn hT hw0
 refine (callsIn_wide (n:=5)).1 ?_
 refine callsIn_of_wp_marks Tryz.func61 rfl trivial ?_ rfl
 simp only [Tryz.ntmps61,List.size_toArray,List.length_cons,List.length_nil,Nat.reduceAdd,Nat.reduceSub,Array.replicate_succ,Array.replicate_zero,List.push_toArray,List.append_toArray,List.nil_append,List.cons_append]
 gi_wp2_with fail
 refine ⟨trivial,(callsIn_wide.2 (isRay_yes _ A0.out.1 A0.out.2 _)).mono ?_⟩
 rintro e w' ⟨rfl,rfl⟩
 gi_wp2_with fail
 refine ⟨trivial,(callsIn_wide.2 (isWidth_yes _ N0.out.1 N0.out.2 _)).mono ?_⟩
 rintro e w' ⟨rfl,rfl⟩
 gi_wp2_with fail
 rw [HW.out]
 generalize Value.bool (decide (lo < 0))=v1
 generalize Value.bool (decide (hi < lo))=v2
 generalize Value.bool (decide (lo < 0) || decide (hi < lo))=v3
 generalize Value.bool (decide (100000 < hi))=v4
 generalize Value.bool (decide (lo < 0) || decide (hi < lo) || decide (100000 < hi))=v5
 refine wpIn_wide.2 (wp_mono (Q:=Bar.Only (fun _ a' X => ∃ sa sc b,(∃ s36 s39 s43 s46 s47,a' = { tmps:=#[.int .i64 a,.int .i64 n,.agg #[.int .i64 lo,.int .i64 hi],undef,undef,.pointer (some ⟨w.heap.size,0,none⟩),.slice none 0 0,.int .i64 0,.pointer (some ⟨b,0,none⟩),undef,.int .i64 a,.bool true,.bool false,.bool false,.int .i64 n,.bool true,.bool false,.bool false,.bool false,.pointer (some ⟨w.heap.size,0,none⟩),.int .i64 lo,v1,v1,v1,.pointer (some ⟨w.heap.size,0,none⟩),.int .i64 lo,.pointer (some ⟨w.heap.size,1,none⟩),.int .i64 hi,v2,v3,v3,.pointer (some ⟨w.heap.size,1,none⟩),.int .i64 hi,v4,v5,.int .i64 a,s36,.pointer (some ⟨w.heap.size,0,none⟩),.int .i64 lo,s39,.int .i64 a,.int .i64 n,.int .i64 ((a:Int)+(n:Int)),s43,.pointer (some ⟨w.heap.size,0,none⟩),.int .i64 lo,s46,s47,.slice sa 8 sc,undef,undef,undef,undef,undef,undef,undef,undef,undef,undef,undef,undef,undef,undef],defers:=[] })∧Hid (Blk X b #[.slice sa 8 sc] 48∧Hl.Own w0.heap.size X (.slice sa 8 sc) (nearL a n lo)∧Grew w0 X∧w0.heap.size≤b))) ?_ ?_)
 ·have L0:w0.cell? ⟨w.heap.size,0,none⟩=some (.int .i64 lo)∧w0.cell? ⟨w.heap.size,1,none⟩=some (.int .i64 hi):=by rw [← HW.out];exact SP.out.two.1
  rw [HW.out] at lS
  have nz1:¬ w.heap.size=w0.heap.size:=by omega
  have nz2:¬ w0.heap.size=w.heap.size:=by omega
  have W1:IntKind.i64.wrap ((a:Int)+(n:Int))=(a:Int)+(n:Int):=IntWalk.i64_in _ ⟨by omega,by omega⟩
  go_region_held3 (fun W' => W'.cell? ⟨w.heap.size,0,none⟩=some (.int .i64 lo)∧W'.cell? ⟨w.heap.size,1,none⟩=some (.int .i64 hi)) (first | assumption | (simp [go_sem, *];done))
   (first
    | (go_at_call 79;refine (CD.out _ _ (by omega) (by omega) (by (repeat' (first | (with_reducible exact G) | (with_reducible exact Grew.refl _) | (with_reducible refine Grew.drew ?_) | (with_reducible refine Grew.alloc ?_ _ _))))).mono ?_;rintro e w' ⟨rfl,⟨z0,z1⟩,g,G⟩;have lz:=Nat.lt_of_lt_of_le lS G.size;have gsz:=G.size;(have ne1:¬ w.heap.size=w'.heap.size:=(by omega));(have ne2:¬ w'.heap.size=w.heap.size:=(by omega));(have ne3:¬ w.heap.size=w'.heap.size+1:=(by omega));(have ne4:¬ w'.heap.size+1=w.heap.size:=(by omega));(first | (have O1:=Lib.hid (OwnAt.grew O1.out g)) | (have O1:=Lib.hid (OwnAt.grew (OwnAt.alloc9 O1.out _) g)) | (have O1:=Lib.hid (OwnAt.grew (OwnAt.alloc9 (OwnAt.alloc9 O1.out _) _) g)) | skip);(first | (have O2:=Lib.hid (OwnAt.grew O2.out g)) | (have O2:=Lib.hid (OwnAt.grew (OwnAt.alloc9 O2.out _) g)) | (have O2:=Lib.hid (OwnAt.grew (OwnAt.alloc9 (OwnAt.alloc9 O2.out _) _) g)) | skip);(first | (have BL:=Lib.hid (Blk.grown BL.out g)) | (have BL:=Lib.hid (Blk.grown (Blk.alloc BL.out _) g)) | (have BL:=Lib.hid (Blk.grown (Blk.new _ #[.slice none 0 0] 48) g)) | (have BL:=Lib.hid (Blk.grown (Blk.drew (Blk.new _ #[.slice none 0 0] 48)) g)) | (have BL:=Lib.hid (Blk.grown ((Blk.new _ #[.slice none 0 0] 48).alloc _) g)) | skip);(try simp only [World.size_alloc,World.size_drew] at BL);(try (have bl:=BL.out.one.1;have bf:=BL.out.one.2;have bll:=BL.out.lt)))
    | (go_at_call 101;refine (CR.out _ _ (dir_bd _) (by (repeat' (first | (with_reducible exact G) | (with_reducible exact Grew.refl _) | (with_reducible refine Grew.drew ?_) | (with_reducible refine Grew.alloc ?_ _ _))))).mono ?_;rintro e w' ⟨gx,rfl,⟨z0,z1⟩,ox,g,G⟩;have lz:=Nat.lt_of_lt_of_le lS G.size;have gsz:=G.size;(have ne1:¬ w.heap.size=w'.heap.size:=(by omega));(have ne2:¬ w'.heap.size=w.heap.size:=(by omega));(have ne3:¬ w.heap.size=w'.heap.size+1:=(by omega));(have ne4:¬ w'.heap.size+1=w.heap.size:=(by omega));(first | (have O1:=Lib.hid (OwnAt.grew O1.out g)) | (have O1:=Lib.hid (OwnAt.grew (OwnAt.alloc9 O1.out _) g)) | (have O1:=Lib.hid (OwnAt.grew (OwnAt.alloc9 (OwnAt.alloc9 O1.out _) _) g)) | skip);(first | (have O2:=Lib.hid (OwnAt.grew O2.out g)) | (have O2:=Lib.hid (OwnAt.grew (OwnAt.alloc9 O2.out _) g)) | (have O2:=Lib.hid (OwnAt.grew (OwnAt.alloc9 (OwnAt.alloc9 O2.out _) _) g)) | skip);(first | (have BL:=Lib.hid (Blk.grown BL.out g)) | (have BL:=Lib.hid (Blk.grown (Blk.alloc BL.out _) g)) | (have BL:=Lib.hid (Blk.grown (Blk.new _ #[.slice none 0 0] 48) g)) | (have BL:=Lib.hid (Blk.grown (Blk.drew (Blk.new _ #[.slice none 0 0] 48)) g)) | (have BL:=Lib.hid (Blk.grown ((Blk.new _ #[.slice none 0 0] 48).alloc _) g)) | skip);(try simp only [World.size_alloc,World.size_drew] at BL);(try (have bl:=BL.out.one.1;have bf:=BL.out.one.2;have bll:=BL.out.lt));(first | (have O2:=O1;clear O1;have O1:=O2;clear O2;have O2:=ox;clear ox) | (have O1:=ox;clear ox)))
    | (go_at_call 100;refine (CC.out _ _ _ (bx (dir a) lo 1001) (bx (dir ((a:Int)+(n:Int)).toNat) lo 1001) _ rfl rfl (by (repeat' (first | (with_reducible exact G) | (with_reducible exact Grew.refl _) | (with_reducible refine Grew.drew ?_) | (with_reducible refine Grew.alloc ?_ _ _)))) (by (repeat' (first | (with_reducible exact Blk.new _ _ _) | (with_reducible exact blk_newS (by simp)) | (with_reducible refine Blk.alloc ?_ _)))) (by (repeat' (first | (with_reducible exact O1.out) | (with_reducible refine OwnAt.drew9 ?_) | (with_reducible refine OwnAt.alloc9 ?_ _)))) (by (repeat' (first | (with_reducible exact O2.out) | (with_reducible refine OwnAt.drew9 ?_) | (with_reducible refine OwnAt.alloc9 ?_ _))))).mono ?_;rintro e w' ⟨sa,sc,rfl,⟨z0,z1⟩,ow,g,G⟩;have lz:=Nat.lt_of_lt_of_le lS G.size;have gsz:=G.size;(have ne1:¬ w.heap.size=w'.heap.size:=(by omega));(have ne2:¬ w'.heap.size=w.heap.size:=(by omega));(have ne3:¬ w.heap.size=w'.heap.size+1:=(by omega));(have ne4:¬ w'.heap.size+1=w.heap.size:=(by omega));(first | (have O1:=Lib.hid (OwnAt.grew O1.out g)) | (have O1:=Lib.hid (OwnAt.grew (OwnAt.alloc9 O1.out _) g)) | (have O1:=Lib.hid (OwnAt.grew (OwnAt.alloc9 (OwnAt.alloc9 O1.out _) _) g)) | skip);(first | (have O2:=Lib.hid (OwnAt.grew O2.out g)) | (have O2:=Lib.hid (OwnAt.grew (OwnAt.alloc9 O2.out _) g)) | (have O2:=Lib.hid (OwnAt.grew (OwnAt.alloc9 (OwnAt.alloc9 O2.out _) _) g)) | skip);(first | (have BL:=Lib.hid (Blk.grown BL.out g)) | (have BL:=Lib.hid (Blk.grown (Blk.alloc BL.out _) g)) | (have BL:=Lib.hid (Blk.grown (Blk.new _ #[.slice none 0 0] 48) g)) | (have BL:=Lib.hid (Blk.grown (Blk.drew (Blk.new _ #[.slice none 0 0] 48)) g)) | (have BL:=Lib.hid (Blk.grown ((Blk.new _ #[.slice none 0 0] 48).alloc _) g)) | skip);(try simp only [World.size_alloc] at BL);(try (have bl:=BL.out.one.1;have bf:=BL.out.one.2;have bll:=BL.out.lt))))
  all_goals
   have OW:Hl.Own w0.heap.size w' (.slice sa 8 sc) (nearL a n lo):=by
    have h:=ow.out
    rw [DN2.out] at h
    exact h
   have GW:Grew w0 w':=G
   clear ow O1 O2 z0 z1
  all_goals first
   | exact Bar.Only.out ⟨sa,sc,_,⟨_,_,_,_,_,rfl⟩,Lib.hid ⟨BL.out.put0,own_set OW BL.out (by decide) _,GW.setCell (by first | exact Nat.le_refl _ | (simp only;omega)) _,by first | exact Nat.le_refl _ | omega⟩⟩
   | exact Bar.Only.out ⟨sa,sc,_,⟨_,_,_,_,_,rfl⟩,Lib.hid ⟨Blk.new _ _ _,OW.alloc _,GW.alloc _ _,GW.size⟩⟩
 ·rintro e a' X h
  cases e with
  | normal =>
    obtain ⟨sa,sc,b,⟨s36,s39,s43,s46,s47,rfl⟩,HH⟩:=h
    gi_wp2_with fail
    refine ⟨trivial,(rays_in 4 _ _ _).mono ?_⟩
    rintro e wx ⟨rfl,rfl⟩
    gi_wp2_with fail
    obtain ⟨kL,ow,GX,hb⟩:=HH.out
    clear HH
    have G0:Grew w0 ((X.alloc (.cells #[.int .i64 a] 3)).alloc (.cells #[.int .i64 n] 3)):=(GX.alloc _ _).alloc _ _
    have G0w:Below w.heap.size w ((X.alloc (.cells #[.int .i64 a] 3)).alloc (.cells #[.int .i64 n] 3)):=GS.out.trans (by rw [HW.out];exact G0)
    have kL:=(kL.alloc (.cells #[.int .i64 a] 3)).alloc (.cells #[.int .i64 n] 3)
    have kA:Blk ((X.alloc (.cells #[.int .i64 a] 3)).alloc (.cells #[.int .i64 n] 3)) X.heap.size #[.int .i64 a] 3:=(Blk.new X _ _).alloc _
    have kN:Blk ((X.alloc (.cells #[.int .i64 a] 3)).alloc (.cells #[.int .i64 n] 3)) (X.heap.size+1) #[.int .i64 n] 3:=blk_newS (by simp)
    have kS:Blk ((X.alloc (.cells #[.int .i64 a] 3)).alloc (.cells #[.int .i64 n] 3)) w.heap.size #[.int .i64 lo,.int .i64 hi] 26:=SP.out.grown (by rw [HW.out];exact G0)
    have ow:=(ow.alloc (.cells #[.int .i64 a] 3)).alloc (.cells #[.int .i64 n] 3)
    have T1:Tq ((X.alloc (.cells #[.int .i64 a] 3)).alloc (.cells #[.int .i64 n] 3)):=(HT.out.grew GS.out).grew (by rw [HW.out];exact G0)
    have hsz:((X.alloc (.cells #[.int .i64 a] 3)).alloc (.cells #[.int .i64 n] 3)).heap.size=X.heap.size+1+1:=by simp
    have gx:=GX.size
    have SZ0:=SZ0.out
    rw [HW.out] at SZ0
    have hbX:=kL.lt
    rw [hsz] at hbX
    have QL:Hid (0 < w.heap.size):=Lib.hid HT.out.1
    obtain ⟨W0,hW0⟩:∃ W0,((X.alloc (.cells #[.int .i64 a] 3)).alloc (.cells #[.int .i64 n] 3))=W0:=⟨_,rfl⟩
    rw [hW0] at G0 G0w kL kA kN kS ow T1 hsz ⊢
    have KH:=Lib.hid K
    clear hW0 GX CD CR CC DN1 DN2
    have L1:∀ k,k ∈ [X.heap.size+1,X.heap.size,0]→k < W0.heap.size:=fun k hk => by
     have:=T1.1
     simp only [List.mem_cons,List.mem_nil_iff,or_false] at hk
     rcases hk with rfl | rfl | rfl <;> omega
    have HS:=Lib.hid L1
    refine wpIn_rangeFunc_ownH rfl (by omega) (gf:=139) (lb:=#[.pointer (some ⟨X.heap.size+1,0,none⟩),.pointer (some ⟨X.heap.size,0,none⟩)]) rfl trivial (enters_of Tryz.func139 (by kernel_rfl) rfl)
     (rays_stops 4 (by omega) (X.heap.size+1) X.heap.size [X.heap.size+1,X.heap.size,0] a n (by omega) W0 L1 (by simp) (by simp) (by simp) kN.one.1 kA.one.1 T1) KeptL.trans (fun W l o o' hl _ _ _ => keptL_put _ W l o' (fun k hk => by have:=HS.out k hk;omega)) (Below.refl _ _) (fun _ => rfl)
     (fun pre W => ((∃ v,Blk W b #[v] 48∧Hl.Own w0.heap.size W v (nearL a n lo ++ farL a hi pre))∧Blk W w.heap.size #[.int .i64 lo,.int .i64 hi] 26∧Blk W X.heap.size #[.int .i64 a] 3∧Blk W (X.heap.size+1) #[.int .i64 n] 3∧W0.heap.size≤W.heap.size)∧Below w.heap.size w W)
     (fun _ _ _ => False)
     (OwnFrom.and (Own.from (fun s A B row hs hg hr => ⟨own_ownF _ _ (fun s => nearL a n lo ++ farL a hi s) s A B row hs.1 hg hr,blk_own _ _ (fun _ => #[.int .i64 lo,.int .i64 hi]) s A B row hs.2.1 hg hr,blk_own _ _ (fun _ => #[.int .i64 a]) s A B row hs.2.2.1 hg hr,blk_own _ _ (fun _ => #[.int .i64 n]) s A B row hs.2.2.2.1 hg hr,Nat.le_trans hs.2.2.2.2 hg.size⟩) _) (ownFrom_below (Nat.le_refl _) (by omega)))
     (fun _ _ _ _ _ hs _ _ => hs)
     ⟨⟨⟨_,kL,by rw [show farL a hi []=[] from rfl,List.append_nil];exact ow⟩,kS,kA,kN,Nat.le_refl _⟩,G0w⟩
     (fun k a' W => ∃ Bx,X.heap.size+1 < Bx∧Blk W Bx #[.int .i64 (dir (a+k)).1,.int .i64 (dir (a+k)).2] 24∧a' = { tmps:=#[.int .i64 a,.int .i64 n,.agg #[.int .i64 lo,.int .i64 hi],undef,undef,.pointer (some ⟨w.heap.size,0,none⟩),.slice none 0 0,.int .i64 0,.pointer (some ⟨b,0,none⟩),.pointer (some ⟨Bx,0,none⟩),.int .i64 a,.bool true,.bool false,.bool false,.int .i64 n,.bool true,.bool false,.bool false,.bool false,.pointer (some ⟨w.heap.size,0,none⟩),.int .i64 lo,v1,v1,v1,.pointer (some ⟨w.heap.size,0,none⟩),.int .i64 lo,.pointer (some ⟨w.heap.size,1,none⟩),.int .i64 hi,v2,v3,v3,.pointer (some ⟨w.heap.size,1,none⟩),.int .i64 hi,v4,v5,.int .i64 a,s36,.pointer (some ⟨w.heap.size,0,none⟩),.int .i64 lo,s39,.int .i64 a,.int .i64 n,.int .i64 ((a:Int)+(n:Int)),s43,.pointer (some ⟨w.heap.size,0,none⟩),.int .i64 lo,s46,s47,.slice sa 8 sc,.int .i64 a,.int .i64 n,.func (.func 139) #[] #[.pointer (some ⟨X.heap.size+1,0,none⟩),.pointer (some ⟨X.heap.size,0,none⟩)],.agg #[.int .i64 (dir (a+k)).1,.int .i64 (dir (a+k)).2],undef,undef,undef,undef,undef,undef,undef,undef,undef,undef],defers:=[] })
     (fun k a' _ X' Y row hs hg hr => by
      obtain ⟨Bx,g1,g2,g3⟩:=hs
      exact ⟨Bx,g1,blk_own _ _ (fun _:Unit => #[.int .i64 (dir (a+k)).1,.int .i64 (dir (a+k)).2]) () X' Y row g2 hg (fun r e => (hr r e).2),g3⟩)
     ?assign ?body ?done ?stop
    case assign =>
     rintro l pre k W K' ⟨⟨⟨v,g1,g2⟩,g3,g4,g5,g6⟩,gB⟩ hK
     have hz:=gB.size
     unfold encD
     gi_wp2
     have bX:=Blk.new W #[.int .i64 (dir (a+k)).1,.int .i64 (dir (a+k)).2] 24
     exact hK _ _ ((KeepsOthers.alloc _ _).from _) ((KeptL.refl _ W).grown (World.grownBy_alloc W _ none) (fun j hj => Nat.lt_of_lt_of_le (HS.out j hj) g6) (by simp))
      ⟨⟨⟨v,g1.alloc _,g2.alloc _⟩,g3.alloc _,g4.alloc _,g5.alloc _,by simp;omega⟩,gB.alloc (by omega) _⟩ ⟨W.heap.size,by omega,bX,rfl⟩
    case body =>
     rintro l pre k a' W hl ⟨r0,hr0⟩ ⟨⟨⟨v,g1,g2⟩,g3,g4,g5,g6⟩,gB⟩ ⟨Bx,hBx,bX,rfl⟩ hlt
     have RC:Hid (∀ W',Calls Tryz.prog 101 #[.agg #[.int .i64 (dir (a+k)).1,.int .i64 (dir (a+k)).2],.int .i64 hi,.int .i64 998] W' (RndSays (dir (a+k)) hi 998 W')):=Lib.hid (fun W' => rounded_c _ _ _ W' (dir_bd _) (by have:=B0.out;omega) B0.out.2.2 (Or.inl rfl))
     have SN:=Lib.hid (farL_snoc a hi pre k)
     have LE:(nearL a n lo ++ farL a hi pre).length≤200:=by
      rw [List.length_append,farL_len]
      show 8+_≤200
      omega
     have L8:8≤(nearL a n lo ++ farL a hi pre).length:=by
      rw [List.length_append]
      show 8≤8+_
      omega
     generalize dir (a+k)=p at RC SN bX ⊢
     obtain ⟨P,hP⟩:∃ P,nearL a n lo ++ farL a hi pre=P:=⟨_,rfl⟩
     have SN:Hid (nearL a n lo ++ farL a hi (pre ++ [k])=P ++ bx p hi 998):=Lib.hid (by rw [SN.out,← List.append_assoc,hP])
     rw [hP] at g2 LE L8
     obtain ⟨N,hN⟩:∃ N,P.length=N:=⟨_,rfl⟩
     obtain ⟨va,vc,rfl⟩:=g2.sl.shape
     have L2P:2≤P.length:=by omega
     rw [hN] at g1 g2 LE L8
     have OWv:Hid (Hl.Own w0.heap.size W (.slice va N vc) P):=Lib.hid g2
     have hnv:∀ j,(Value.slice va N vc).ownBlock=some j→w0.heap.size≤j:=fun j e => g2.block j e
     have NEXT:Hid (∀ w4,Grew W.drew w4→Hid (((w4.cell? ⟨b,0,none⟩=some (.slice va N vc)∧w4.frozen? ⟨b,0,none⟩=false)∧(w4.cell? ⟨Bx,0,none⟩=some (.int .i64 p.1)∧w4.cell? ⟨Bx,1,none⟩=some (.int .i64 p.2))∧w4.cell? ⟨w.heap.size,1,none⟩=some (.int .i64 hi))∧Hl.Own w0.heap.size w4 (.slice va N vc) P∧(Blk w4 b #[.slice va N vc] 48∧Blk w4 Bx #[.int .i64 p.1,.int .i64 p.2] 24∧Blk w4 w.heap.size #[.int .i64 lo,.int .i64 hi] 26)∧(Blk w4 X.heap.size #[.int .i64 a] 3∧Blk w4 (X.heap.size+1) #[.int .i64 n] 3)∧Grew W w4∧P.length+(bx p hi 998).length≤4000000∧w0.heap.size≤w4.heap.size)):=Lib.hid (fun w4 gr => by
      have g:Grew W w4:=Grew.trans (Grew.drew (Grew.refl W)) gr
      have k1:=g1.grown g
      have k2:=bX.grown g
      have k3:=g3.grown g
      exact Lib.hid ⟨⟨k1.one,k2.two.1,k3.two.1.2⟩,OWv.out.grew g,⟨k1,k2,k3⟩,⟨g4.grown g,g5.grown g⟩,g,by rw [hN,bx_len];omega,by have:=g.size;omega⟩)
     have APP:Hid (∀ w4 v' w5,Hid (((w4.cell? ⟨b,0,none⟩=some (.slice va N vc)∧w4.frozen? ⟨b,0,none⟩=false)∧(w4.cell? ⟨Bx,0,none⟩=some (.int .i64 p.1)∧w4.cell? ⟨Bx,1,none⟩=some (.int .i64 p.2))∧w4.cell? ⟨w.heap.size,1,none⟩=some (.int .i64 hi))∧Hl.Own w0.heap.size w4 (.slice va N vc) P∧(Blk w4 b #[.slice va N vc] 48∧Blk w4 Bx #[.int .i64 p.1,.int .i64 p.2] 24∧Blk w4 w.heap.size #[.int .i64 lo,.int .i64 hi] 26)∧(Blk w4 X.heap.size #[.int .i64 a] 3∧Blk w4 (X.heap.size+1) #[.int .i64 n] 3)∧Grew W w4∧P.length+(bx p hi 998).length≤4000000∧w0.heap.size≤w4.heap.size)→Hl.Own w0.heap.size w5 v' (P ++ bx p hi 998)→w4.grownBy w5 (Value.slice va N vc).ownBlock →
       ∃ va5 vc5,v'=.slice va5 (N+4) vc5∧((w5.cell? ⟨b,0,none⟩=some (.slice va N vc)∧w5.frozen? ⟨b,0,none⟩=false)∧(w5.cell? ⟨Bx,0,none⟩=some (.int .i64 p.1)∧w5.cell? ⟨Bx,1,none⟩=some (.int .i64 p.2))∧w5.cell? ⟨w.heap.size,1,none⟩=some (.int .i64 hi))∧Hid (Blk w5 b #[.slice va N vc] 48∧(KeepsFrom W0.heap.size W (w5.setCell ⟨b,0,none⟩ (.slice va5 (N+4) vc5))∧KeptL [X.heap.size+1,X.heap.size,0] W (w5.setCell ⟨b,0,none⟩ (.slice va5 (N+4) vc5))∧((∃ v,Blk (w5.setCell ⟨b,0,none⟩ (.slice va5 (N+4) vc5)) b #[v] 48∧Hl.Own w0.heap.size (w5.setCell ⟨b,0,none⟩ (.slice va5 (N+4) vc5)) v (nearL a n lo ++ farL a hi (pre ++ [k])))∧Blk (w5.setCell ⟨b,0,none⟩ (.slice va5 (N+4) vc5)) w.heap.size #[.int .i64 lo,.int .i64 hi] 26∧Blk (w5.setCell ⟨b,0,none⟩ (.slice va5 (N+4) vc5)) X.heap.size #[.int .i64 a] 3∧Blk (w5.setCell ⟨b,0,none⟩ (.slice va5 (N+4) vc5)) (X.heap.size+1) #[.int .i64 n] 3∧W0.heap.size≤(w5.setCell ⟨b,0,none⟩ (.slice va5 (N+4) vc5)).heap.size)∧Below w.heap.size w (w5.setCell ⟨b,0,none⟩ (.slice va5 (N+4) vc5))))):=Lib.hid (fun w4 v' w5 HA ow5 gr5 => by
      obtain ⟨_,o4,⟨k1,k2,k3⟩,⟨k4,k5⟩,g4',_,_⟩:=HA.out
      obtain ⟨va5,vc5,rfl⟩:=ow5.sl.shape
      have el:(P ++ bx p hi 998).length=N+4:=by rw [List.length_append,hN,bx_len]
      rw [el] at ow5
      rw [el]
      have n1:=own_ne_t o4 k1 (by decide)
      have n2:(Value.slice va N vc).ownBlock ≠ some Bx:=own_ne2 o4 L2P k2
      have n3:=own_ne_t o4 k3 (by decide)
      have n4:=own_ne_t o4 k4 (by decide)
      have n5:=own_ne_t o4 k5 (by decide)
      have j1:=k1.kept gr5 (fun e => n1 e.symm)
      have j2:=k2.kept gr5 (fun e => n2 e.symm)
      have j3:=k3.kept gr5 (fun e => n3 e.symm)
      have j4:=k4.kept gr5 (fun e => n4 e.symm)
      have j5:=k5.kept gr5 (fun e => n5 e.symm)
      have gs:=grownBy_setCell w5 b 0 (.slice va5 (N+4) vc5)
      have s4:=g4'.size
      have s5:=gr5.size
      have ss:=gs.size
      have hgB:=gB.size
      have nb:b ≠ w.heap.size:=blk_tne j1 j3 (by decide)
      have nA:b ≠ X.heap.size:=blk_tne j1 j4 (by decide)
      have nN:b ≠ X.heap.size+1:=blk_tne j1 j5 (by decide)
      have qb:0 < w.heap.size:=QL.out
      have kl:KeptL [X.heap.size+1,X.heap.size,0] W w5:=((KeptL.refl [X.heap.size+1,X.heap.size,0] W).grew g4' (fun j hj => Nat.lt_of_lt_of_le (HS.out j hj) g6)).grown gr5 (fun j hj => by have:=HS.out j hj;omega) (fun j e hj => by
       simp only [List.mem_cons,List.mem_nil_iff,or_false] at hj
       rcases hj with rfl | rfl | rfl
       ·exact n5 e
       ·exact n4 e
       ·have:=hnv _ e;omega)
      refine ⟨va5,vc5,rfl,⟨j1.one,j2.two.1,j3.two.1.2⟩,Lib.hid ⟨j1,?_,?_,⟨⟨_,j1.put0,by rw [SN.out];exact own_set ow5 j1 (by decide) _⟩,j3.other nb.symm _,j4.other nA.symm _,j5.other nN.symm _,by omega⟩,?_⟩⟩
      ·exact ((keepsF (grownBy_grew g4') (fun r e => by cases e)).trans (keepsF gr5 (own_cells9 o4))).trans (keepsF gs (fun r e => by cases e;exact ⟨_,_,_,j1⟩))
      ·exact kl.grown gs (fun j hj => by have:=HS.out j hj;omega) (fun j e hj => by
        cases e
        simp only [List.mem_cons,List.mem_nil_iff,or_false] at hj
        rcases hj with h | h | h
        ·exact nN h
        ·exact nA h
        ·omega)
      ·exact ((gB.trans (Below.mono (g4':Below W.heap.size W w4) hgB)).grown gr5 (by omega) (fun j e => by have:=hnv j e;omega)).grown gs (by omega) (fun j e => by cases e;omega))
     have W0S:((W.cell? ⟨b,0,none⟩=some (.slice va N vc)∧W.frozen? ⟨b,0,none⟩=false)∧(W.cell? ⟨Bx,0,none⟩=some (.int .i64 p.1)∧W.cell? ⟨Bx,1,none⟩=some (.int .i64 p.2))∧W.cell? ⟨w.heap.size,1,none⟩=some (.int .i64 hi)):=⟨g1.one,bX.two.1,g3.two.1.2⟩
     have SS:((W.drew.cell? ⟨b,0,none⟩=some (.slice va N vc)∧W.drew.frozen? ⟨b,0,none⟩=false)∧(W.drew.cell? ⟨Bx,0,none⟩=some (.int .i64 p.1)∧W.drew.cell? ⟨Bx,1,none⟩=some (.int .i64 p.2))∧W.drew.cell? ⟨w.heap.size,1,none⟩=some (.int .i64 hi)):=W0S
     have lX:=bX.lt
     have lb:=g1.lt
     have lw:w.heap.size < W.heap.size:=g3.lt
     clear g1 g2 g3 g4 g5 bX L1 kL kA kN kS ow T1 G0 G0w hP hnv OWv
     gi_wp2_with fail
     refine Bar.begin_round (S:=(fun W' => (W'.cell? ⟨b,0,none⟩=some (.slice va N vc)∧W'.frozen? ⟨b,0,none⟩=false)∧(W'.cell? ⟨Bx,0,none⟩=some (.int .i64 p.1)∧W'.cell? ⟨Bx,1,none⟩=some (.int .i64 p.2))∧W'.cell? ⟨w.heap.size,1,none⟩=some (.int .i64 hi))) 6 (by kernel_rfl) (by kernel_rfl) (by first | assumption | exact SS | (simp [go_sem, *];done)) (fun hHeld => ?_)
     refine Bar.Walk.take [6] (i:=0) (oi:=⟨some 53,_,_,_,_,_⟩) (v:=?_) rfl (by kernel_rfl) (by kernel_rfl) (by kernel_rfl) (by kernel_rfl) (fun _ _ _ h => h) (Or.inl ⟨by rfl,?_⟩) (by assumption) ?_
     rotate_left
     ·intro w hSw;(try dsimp only at hSw);go_simp;(try with_reducible rfl)
     try simp only [Act.put,List.setIfInBounds_toArray,List.set_cons_zero,List.set_cons_succ]
     refine Bar.Walk.take [6] (i:=1) (oi:=⟨some 54,_,_,_,_,_⟩) (v:=?_) rfl (by kernel_rfl) (by kernel_rfl) (by kernel_rfl) (by kernel_rfl) (fun _ _ _ h => h) (Or.inl ⟨by rfl,?_⟩) (by assumption) ?_
     rotate_left
     ·intro w hSw;(try dsimp only at hSw);go_simp;(try with_reducible rfl)
     try simp only [Act.put,List.setIfInBounds_toArray,List.set_cons_zero,List.set_cons_succ]
     refine Bar.Walk.takeY (i:=2) (oi:=⟨some 55,_,_,_,_,_⟩) (v:=?_) rfl (by kernel_rfl) (by kernel_rfl) (by kernel_rfl) rfl (fun _ _ _ h => h) (Or.inl ⟨by rfl,?_⟩) (by assumption) ?_
     rotate_left
     ·intro w;go_simp;(try with_reducible rfl)
     try simp only [Act.put,List.setIfInBounds_toArray,List.set_cons_zero,List.set_cons_succ]
     refine Bar.Walk.take [6] (i:=3) (oi:=⟨some 56,_,_,_,_,_⟩) (v:=?_) rfl (by kernel_rfl) (by kernel_rfl) (by kernel_rfl) (by kernel_rfl) (fun _ _ _ h => h) (Or.inl ⟨by rfl,?_⟩) (by assumption) ?_
     rotate_left
     ·intro w hSw;(try dsimp only at hSw);go_simp;(try with_reducible rfl)
     try simp only [Act.put,List.setIfInBounds_toArray,List.set_cons_zero,List.set_cons_succ]
     refine Bar.Walk.step (i:=4) (o:=⟨some 57,_,_,_,_,_⟩) (by kernel_rfl) rfl (fun K hK => ?_)
     go_simp
     refine (RC.out _).mono ?_
     rintro e w4 ⟨g9,rfl,o9,gr4⟩
     have H4:=NEXT.out w4 gr4
     have SS:=H4.out.1
     go_wp2_with fail
     refine hK.out _ _ (by (try dsimp only);exact SS) (fun h1 => ?_)
     clear hK K hHeld
     have hHeld:=h1
     clear h1
     try simp only [Act.put,List.setIfInBounds_toArray,List.set_cons_zero,List.set_cons_succ]
     refine Bar.Walk.step (i:=5) (o:=⟨some 58,_,_,_,_,_⟩) (by kernel_rfl) rfl (fun K hK => ?_)
     refine step_app _ rfl (.tmp 53) (.tmp 57) rfl w0.heap.size _ P (bx p hi 998) g9 4 rfl H4.out.2.1 rfl o9.row H4.out.2.2.2.2.2.1 H4.out.2.2.2.2.2.2 ?_
     intro v' w5 own5 gr5
     obtain ⟨va5,vc5,rfl,SS5,HH5⟩:=APP.out w4 v' w5 H4 own5 gr5
     refine hK.out _ _ (by (try dsimp only);exact SS5) (fun h1 => ?_)
     clear hK K hHeld SS SS5
     have hHeld:=h1
     clear h1
     try simp only [Act.put,List.setIfInBounds_toArray,List.set_cons_zero,List.set_cons_succ]
     obtain ⟨⟨q0,q1⟩,_,_⟩:=hHeld
     have lb5:=HH5.out.1.lt
     refine Bar.Walk.pass (o:=⟨none,_,_,_,_,_⟩) (by kernel_rfl) rfl (by kernel_rfl) (fun K hK => ?_)
     go_simp
     refine hK.out _ _ ?_
     clear hK K
     try simp only [Act.put,List.setIfInBounds_toArray,List.set_cons_zero,List.set_cons_succ]
     refine wpAny_done (by kernel_rfl) ?_ _
     refine Bar.Only.out ?_
     gi_wp2_with fail
     exact HH5.out.2
    case done =>
     rintro D ys W hD rfl ⟨⟨⟨v,g1,g2⟩,g3,g4,g5,g6⟩,gB⟩ hK
     rw [← secL_is] at g2
     have HC:=Lib.hid (KH.out (secL a n lo hi) v W g2.sl (by rw [secL_len];have:=AN.out;omega) (fun e => by have:=secL_len a n lo hi;rw [e] at this;simp at this) (secL_plcs B0.out.1 B0.out.2.1 B0.out.2.2))
     have FEW:Hid (∀ q,IsHull (secL a n lo hi) q→q.length≤64):=Lib.hid (fun q hq => sec_few AN.out.1 AN.out.2 B0.out.1 B0.out.2.1 hq)
     obtain ⟨r0,r1⟩:=g1.one
     have lb:=g1.lt
     have hDl:=(Array.getElem?_eq_some_iff.1 hK).1
     have hz:=gB.size
     obtain ⟨va,vc,rfl⟩:=g2.sl.shape
     obtain ⟨N,hN⟩:∃ N,(secL a n lo hi).length=N:=⟨_,rfl⟩
     rw [hN] at r0 HC
     clear g1 g2 g3 g4 g5 L1 kL kA kN kS ow T1 G0 G0w
     gi_wp2_with fail
     refine ⟨trivial,(callsIn_wide.2 HC.out).mono ?_⟩
     rintro e w6 ⟨q,hq,⟨h64,u,rfl,su,g'⟩ | ⟨h64,_⟩⟩
     ·have hK2:=(g'.block D hDl).trans hK
      have G6:Hid (Below w.heap.size w w6):=Lib.hid (gB.trans (Below.mono g' hz))
      have SU:=Lib.hid su
      have HQ:=Lib.hid (And.intro hq h64)
      clear su hq h64
      gi_wp2_with fail
      refine ⟨by simp,.inl ⟨_,_,rfl,run_takeDeferred hK2,?_⟩⟩
      refine ⟨.tuple #[u,.int .i64 0],?_,q,u,HQ.out.1,HQ.out.2,rfl,⟨(own_mono9 SU.out.own hz).keeps (grownBy_putObj' _ D (.deferred none)) ?_⟩,G6.out.trans (belowK_b (w:=w) (Nat.le_refl _) _ D _ _ (by omega) hK2 rfl rfl)⟩
      ·simp [results,Tryz.results61,go_sem]
      ·cases hv:u.ownBlock with
       | none => exact Or.inl rfl
       | some j =>
         refine Or.inr fun e => ?_
         obtain ⟨cs,t,f,hc⟩:=own_cells9 SU.out.own j hv
         cases e
         rw [hc] at hK2
         cases hK2
     ·exact absurd (FEW.out q hq) (by omega)
    case stop =>
     rintro D c pre W _ _ h _
     exact h.elim
  | _ => exact h.elim
end Ry
end Go.Proofs.YtbpgfenippiepaaGreatDoor
