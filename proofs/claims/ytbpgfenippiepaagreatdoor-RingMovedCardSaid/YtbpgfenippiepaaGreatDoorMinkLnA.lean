/-
  The landed package mink: plus, order, sides.
  The library's AppendSeq and Collect at points, against an iterator of one point a round.
-/
import Derived.Test.YtbpgfenippiepaaGreatDoorHullCa
import Derived.Test.YtbpgfenippiepaaGreatDoorHullCr
import Derived.Test.YtbpgfenippiepaaGreatDoorMinkMrg
namespace Go.Proofs.YtbpgfenippiepaaGreatDoor
open Go.RowKit Go.Shelf Hl
attribute [local go_sem] Oper.semAt_some
namespace Mk
def Wp (x:Pt):Prop:=(-8000000≤x.1∧x.1≤8000000)∧(-8000000≤x.2∧x.2≤8000000)
theorem plus_m (x y:Pt) (w:World) (hx:Wp x) (hy:Wp y):Calls Tryz.prog 65 #[.agg #[.int .i64 x.1,.int .i64 x.2],.agg #[.int .i64 y.1,.int .i64 y.2]] w fun e w' => e=.returned (.agg #[.int .i64 (plus x y).1,.int .i64 (plus x y).2])∧((w.alloc (.cells #[.int .i64 x.1,.int .i64 x.2] 24)).alloc (.cells #[.int .i64 y.1,.int .i64 y.2] 24)).alloc (.cells #[.int .i64 (plus x y).1,.int .i64 (plus x y).2] 24)=w':=by
 rcases x with ⟨a,b⟩
 rcases y with ⟨c,d⟩
 obtain ⟨⟨p0,p1⟩,p2,p3⟩:=hx
 obtain ⟨⟨q0,q1⟩,q2,q3⟩:=hy
 simp only at p0 p1 p2 p3 q0 q1 q2 q3
 go_enter Tryz.func65,Tryz.ntmps65
 go_wp2_with fail
 refine bodyPost_ret (v:=.agg #[.int .i64 (a+c),.int .i64 (b+d)]) (by simp [results,Tryz.results65,go_sem]) rfl ⟨rfl,rfl⟩
theorem wp_mul {x y:Pt} (hx:Wp x) (hy:Wp y):(-64000000000000≤x.1 * y.2∧x.1 * y.2≤64000000000000)∧(-64000000000000≤x.2 * y.1∧x.2 * y.1≤64000000000000):=by
 have key:∀ a b:Int,-8000000≤a→a≤8000000→-8000000≤b→b≤8000000→-64000000000000≤a * b∧a * b≤64000000000000:=fun a b h1 h2 h3 h4 => by
  have e1:=Int.mul_nonneg (show 0≤8000000 - a by omega) (show 0≤8000000 - b by omega)
  have e2:=Int.mul_nonneg (show 0≤8000000+a by omega) (show 0≤8000000+b by omega)
  have e3:=Int.mul_nonneg (show 0≤8000000 - a by omega) (show 0≤8000000+b by omega)
  have e4:=Int.mul_nonneg (show 0≤8000000+a by omega) (show 0≤8000000 - b by omega)
  rw [Int.sub_mul,Int.mul_sub,Int.mul_sub] at e1
  rw [Int.add_mul,Int.mul_add,Int.mul_add] at e2
  rw [Int.sub_mul,Int.mul_add,Int.mul_add] at e3
  rw [Int.add_mul,Int.mul_sub,Int.mul_sub] at e4
  omega
 exact ⟨key _ _ hx.1.1 hx.1.2 hy.2.1 hy.2.2,key _ _ hx.2.1 hx.2.2 hy.1.1 hy.1.2⟩
theorem order_m (x y:Pt) (w:World) (hx:Wp x) (hy:Wp y):Calls Tryz.prog 200 #[.agg #[.int .i64 x.1,.int .i64 x.2],.agg #[.int .i64 y.1,.int .i64 y.2]] w fun e w' => e=.returned (.int .i64 (-(xp x y)))∧(w.alloc (.cells #[.int .i64 x.1,.int .i64 x.2] 24)).alloc (.cells #[.int .i64 y.1,.int .i64 y.2] 24)=w':=by
 obtain ⟨⟨m0,m1⟩,m2,m3⟩:=wp_mul hx hy
 have e:-(xp x y)=x.2 * y.1 - x.1 * y.2:=by unfold xp;omega
 rw [e]
 rcases x with ⟨a,b⟩
 rcases y with ⟨c,d⟩
 obtain ⟨⟨p0,p1⟩,p2,p3⟩:=hx
 obtain ⟨⟨q0,q1⟩,q2,q3⟩:=hy
 simp only at p0 p1 p2 p3 q0 q1 q2 q3 m0 m1 m2 m3 ⊢
 clear e
 go_enter Tryz.func200,Tryz.ntmps200
 go_wp2_with fail
 go_ret
 exact ⟨rfl,rfl⟩
def encA (x:Pt):Array Value:=#[.agg #[.int .i64 x.1,.int .i64 x.2]]
theorem rs_at (p:List Pt):∀ k i j,j < k→at' (rs p i k) j=sd p (i+j)
 | k+1,i,0,_ => rfl
 | k+1,i,j+1,h => by
   have:=rs_at p k (i+1) j (by omega)
   rw [show i+(j+1)=i+1+j by omega,← this]
   rfl
theorem rs_take {p:List Pt} {n k:Nat} (h:k < n):(rs p 0 n).take (k+1)=(rs p 0 n).take k ++ [sd p k]:=by
 rw [List.take_succ_eq_append_getElem (by rw [rs_len];exact h)]
 have e:at' (rs p 0 n) k=(rs p 0 n)[k]'(by rw [rs_len];exact h):=by unfold at';simp [rs_len,h]
 rw [← e,rs_at p n 0 k h,Nat.zero_add]
set_option maxHeartbeats 1000000 in
theorem sides_in (n:Nat) (a:Option Addr) (len cap:Nat) (w:World) :
  CallsIn Fence.wide n Tryz.prog 173 #[.slice a len cap] w fun e w' => e=.returned (.func (.func 199) #[] #[.pointer (some ⟨w.heap.size,0,none⟩)])∧w'=w.alloc (.cells #[.slice a len cap] 48):=by
 refine callsIn_of_wp Tryz.func173 rfl trivial ?_ rfl
 simp only [Tryz.ntmps173,List.size_toArray,List.length_cons,List.length_nil,Nat.reduceAdd,Nat.reduceSub,Array.replicate_succ,Array.replicate_zero,List.push_toArray,List.append_toArray,List.nil_append,List.cons_append]
 gi_wp2
 go_ret
 exact ⟨rfl,rfl⟩
set_option maxRecDepth 100000 in
set_option maxHeartbeats 4000000 in
theorem sides1_in (n:Nat) (hn:1≤n) (l B b o c:Nat) (p:List Pt) (hpl:Plcs p) (h1:1≤p.length) (h2:p.length≤4000000) (J Jx:List Pt→World→Prop)
  (W:World) (hJ:AbidesFrom W.heap.size J) (_hJx:AbidesFrom W.heap.size Jx)
  (hY:∀ pre x W1,J pre W1→pre.length < p.length→YieldAt Fence.wide (n - 1) Tryz.prog l (encA x) W1 fun e W' =>
   (e=.returned (.bool true)∧J (pre ++ [x]) W'∧Kept b B W1 W')∨(e=.returned (.bool false)∧Jx (pre ++ [x]) W'))
  (hB:B < W.heap.size) (hBs:W.cell? ⟨B,0,none⟩=some (.slice (some ⟨b,o,none⟩) p.length c)) (hr:Row W b o p) (h0:J [] W) :
  CallsIn Fence.wide n Tryz.prog 199 #[.func (.yield l) #[] #[],.pointer (some ⟨B,0,none⟩)] W fun e W' => (∃ v,e=.returned v) ∧
   ((∃ ys,ys=rs p 0 p.length∧J ys W')∨(∃ pre,(∃ k,k≤p.length∧pre=(rs p 0 p.length).take k)∧Jx pre W')):=by
 have HY:=Lib.hid hY
 have HJ:=Lib.hid hJ
 have HR:=Lib.hid hr
 have HB:=Lib.hid hBs
 have PL:=Lib.hid hpl
 clear hY hJ hr _hJx hpl
 have hmx:Tryz.prog.follows .mixedOrders=true:=by kernel_rfl
 refine callsIn_of_wp Tryz.func199 rfl trivial ?_ rfl
 simp only [Tryz.ntmps199,List.size_toArray,List.length_cons,List.length_nil,Nat.reduceAdd,Nat.reduceSub,Array.replicate_succ,Array.replicate_zero,List.push_toArray,List.append_toArray,List.nil_append,List.cons_append]
 gi_wp2
 gi_loopw [8,3] (fun i _ wr => ∃ k:Nat,k≤p.length∧i=.int .i64 k∧J ((rs p 0 p.length).take k) wr∧Kept b B W wr)
  (fun i _ _ => p.length - (intOf i).toNat)
 case atStart => exact ⟨0,Nat.zero_le _,rfl,h0,Kept.refl _ _ _⟩
 case round =>
  obtain ⟨k,hk,rfl,hJs,hK⟩:=hrel
  by_cases hlt:k < p.length
  ·obtain ⟨m,hm⟩:∃ m,(k+1) % p.length=m:=⟨_,rfl⟩
   have hmm:m < p.length:=by rw [← hm];exact Nat.mod_lt _ (by omega)
   have TM':((k:Int)+1).tmod (p.length:Int)=(m:Int):=by
    rw [← hm,Int.natCast_emod,Int.natCast_add]
    exact Int.tmod_eq_emod_of_nonneg (by omega)
   have WK':IntKind.i64.wrap ((k:Int)+1)=(k:Int)+1:=IntWalk.i64_in _ ⟨by omega,by omega⟩
   have TM2:((k:Int)+1) % (p.length:Int)=(m:Int):=by rw [← TM'];exact (Int.tmod_eq_emod_of_nonneg (by omega)).symm
   have nz:(p.length:Int) ≠ 0:=by omega
   have nz2:((p.length:Int) == 0)=false:=by rw [beq_eq_false_iff_ne];omega
   have nz3:¬ p.length=0:=by omega
   have k0:(0:Int)≤(k:Int)+1:=by omega
   obtain ⟨s0,s1⟩:=(HR.out.kept hK).2 k hlt
   obtain ⟨s2,s3⟩:=(HR.out.kept hK).2 m hmm
   have hb:=(HR.out.kept hK).1
   have cB:=(hK.cell (o:=0) (Or.inr rfl)).trans HB.out
   have lB:B < wr.heap.size:=by have:=hK.1;omega
   have i0:(0:Int)≤(k:Int):=by omega
   have i1:(k:Int) < (p.length:Int):=by omega
   have i2:(m:Int) < (p.length:Int):=by omega
   have hb1:b < wr.heap.size+1:=by omega
   have lB1:B < wr.heap.size+1:=by omega
   have ES:Hid (sd p k=((at' p m).1 - (at' p k).1,(at' p m).2 - (at' p k).2)):=Lib.hid (by unfold sd sub;rw [hm])
   obtain ⟨⟨u0,u1⟩,u2,u3⟩:=PL.out k hlt
   obtain ⟨⟨v0,v1⟩,v2,v3⟩:=PL.out m hmm
   have W1:IntKind.i64.wrap ((at' p m).1 - (at' p k).1)=(at' p m).1 - (at' p k).1:=IntWalk.i64_in _ ⟨by omega,by omega⟩
   have W2:IntKind.i64.wrap ((at' p m).2 - (at' p k).2)=(at' p m).2 - (at' p k).2:=IntWalk.i64_in _ ⟨by omega,by omega⟩
   clear u0 u1 u2 u3 v0 v1 v2 v3
   obtain ⟨X,hX⟩:∃ X,at' p k=X:=⟨_,rfl⟩
   obtain ⟨Y,hY2⟩:∃ Y,at' p m=Y:=⟨_,rfl⟩
   rw [hX] at s0 s1 ES W1 W2
   rw [hY2] at s2 s3 ES W1 W2
   have KW:Hid (Kept b B W (((wr.alloc (.cells #[.int .i64 X.1,.int .i64 X.2] 24)).alloc (.cells #[.int .i64 Y.1,.int .i64 Y.2] 24)).drew)):=Lib.hid (((hK.grown (World.grownBy_alloc wr _ none) hb lB (by simp)).grown (World.grownBy_alloc _ _ none) (by simp;omega) (by simp;omega) (by simp)).grown (grownBy_drew _) (by simp;omega) (by simp;omega) (by simp))
   have hJ1:J ((rs p 0 p.length).take k) (((wr.alloc (.cells #[.int .i64 X.1,.int .i64 X.2] 24)).alloc (.cells #[.int .i64 Y.1,.int .i64 Y.2] 24)).drew):=abides_drew HJ.out (abides_alloc HJ.out (abides_alloc HJ.out hJs _) _)
   obtain ⟨fn,tmps,assign,body,hy,hR⟩:=HY.out _ (sd p k) _ hJ1 (by rw [List.length_take,rs_len];omega)
   have TK:=rs_take (p:=p) hlt
   have hR':=hR.mono (R':=fun e W' => ∃ r:Bool,e=.returned (.bool r)∧Hid ((r=true→J ((rs p 0 p.length).take (k+1)) W'∧Kept b B W W')∧(r=false→Jx ((rs p 0 p.length).take (k+1)) W'))) (by
    rintro e W' (⟨rfl,h1,h2⟩ | ⟨rfl,h1⟩)
    ·exact ⟨true,rfl,Lib.hid ⟨fun _ => ⟨by rw [TK];exact h1,KW.out.trans h2⟩,fun h => by cases h⟩⟩
    ·exact ⟨false,rfl,Lib.hid ⟨fun h => (by cases h),fun _ => (by rw [TK];exact h1)⟩⟩)
   clear hR hJ1 hJs hK KW TK hX hY2 hm
   unfold encA at hy
   rw [ES.out] at hy
   simp only at hy
   gi_wp2
   gi_region_o
   gi_wp2
   refine hR'.mono ?_
   rintro e W3 ⟨r,rfl,hjr⟩
   all_goals gi_wp2
   all_goals first
    | (refine bodyPost_ret (results_none rfl _ _ _) rfl ?_
       have hr0:(!r)=true:=by assumption
       exact ⟨⟨_,rfl⟩,.inr ⟨_,⟨k+1,by omega,rfl⟩,hjr.out.2 (by simpa using hr0)⟩⟩)
    | (have hr0:(!r)=false:=by assumption
       go_roundw
       case rel => exact ⟨k+1,by omega,by simp,(hjr.out.1 (by simpa using hr0)).1,(hjr.out.1 (by simpa using hr0)).2⟩
       case measure => simp [intOf];omega)
  ·obtain rfl:k=p.length:=by omega
   gi_wp2
   go_end0
   exact ⟨⟨_,rfl⟩,.inl ⟨_,rfl,by
    have e:(rs p 0 p.length).take p.length=rs p 0 p.length:=List.take_of_length_le (by rw [rs_len];exact Nat.le_refl _)
    rwa [e] at hJs⟩⟩
theorem sides_stops (n:Nat) (hn:1≤n) (B b o c:Nat) (p:List Pt) (hpl:Plcs p) (h1:1≤p.length) (h2:p.length≤4000000) (w:World) (hB:B < w.heap.size)
  (hc:w.cell? ⟨B,0,none⟩=some (.slice (some ⟨b,o,none⟩) p.length c)) (hr:Row w b o p) :
  SeqStopsK Fence.wide n Tryz.prog 199 #[.pointer (some ⟨B,0,none⟩)] encA (Kept b B) (fun ys => ys=rs p 0 p.length) (fun pre => ∃ k,k≤p.length∧pre=(rs p 0 p.length).take k) p.length w :=
 fun l J Jx W hW hJ hJx hY h0 => sides1_in n hn l B b o c p hpl h1 h2 J Jx W hJ hJx hY (Nat.lt_of_lt_of_le hB hW.size) ((hW.cell (p:=⟨B,0,none⟩) hB).trans hc) (hr.grown hW) h0
end Mk
end Go.Proofs.YtbpgfenippiepaaGreatDoor
namespace Go.Proofs.YtbpgfenippiepaaGreatDoor
open Go.RowKit Go.Shelf Hl
attribute [local go_sem] Oper.semAt_some
namespace Mk
theorem own_mono {B B':Nat} {w:World} {v:Value} {p:List Pt} (h:Hl.Own B w v p) (hb:B'≤B):Hl.Own B' w v p:=by
 refine ⟨h.1,?_⟩
 rcases h.2 with h | ⟨g,cap,cur,e,h1,h2⟩
 ·exact Or.inl h
 ·exact Or.inr ⟨g,cap,cur,e,Nat.le_trans hb h1,h2⟩
theorem own_own (B b:Nat) (t:TypeId) (_hb:b < B):Go.Own (fun (s:List Pt) W => ∃ v,Blk W b #[v] t∧Hl.Own B W v s):=fun s X Y row hs hg hrow => by
 obtain ⟨v,h1,h2⟩:=hs
 have nc:∀ r,row=some r→∀ cs t f,X.heap[r]? ≠ some (.cells cs t f):=fun r e cs t f h => by
  obtain ⟨o,ho,hc⟩:=hrow r e
  rw [h] at ho
  cases ho
  cases hc
 refine ⟨v,h1.kept hg (fun e => nc b e.symm _ _ _ h1),h2.keeps hg ?_⟩
 rcases h2.2 with ⟨rfl,_⟩ | ⟨g,cap,cur,rfl,_,hgb,_⟩
 ·exact Or.inl rfl
 ·exact Or.inr (fun e => nc g e.symm _ _ _ hgb)
theorem keepsFrom_grown {B:Nat} {W W':World} {row:Option Nat} (hg:W.grownBy W' row) (h:∀ r,row=some r→∃ cs t f,W.heap[r]? = some (.cells cs t f)):KeepsFrom B W W' :=
 (KeepsOthers.of_grownBy hg (fun j o e ho => by
  obtain ⟨cs,t,f,hk⟩:=h j e
  rw [hk] at ho
  cases ho
  rfl)).from B
theorem own_cells {B:Nat} {W:World} {v:Value} {p:List Pt} (h:Hl.Own B W v p):∀ r,v.ownBlock=some r→∃ cs t f,W.heap[r]? = some (.cells cs t f):=fun r e => by
 rcases h.2 with ⟨rfl,_⟩ | ⟨g,cap,cur,rfl,_,hgb,_⟩
 ·simp [Value.ownBlock] at e
 ·simp [Value.ownBlock] at e
  subst e
  exact ⟨_,_,_,hgb⟩
set_option maxRecDepth 100000 in
set_option maxHeartbeats 4000000 in
theorem aseq_in (n:Nat) (hn:3≤n) (gf:Nat) (lb:Array Value) (eg:∀ args w,(callFunc gf args).run Tryz.prog w=.ok (.enter gf args) w) (b B N:Nat) (S Sp:List Pt→Prop) (hN:N≤4000) (_hlen:∀ ys,S ys→ys.length≤N) (w:World) (hb:b < w.heap.size) (hB:B < w.heap.size)
  (hseq:SeqStopsK Fence.wide (n - 1) Tryz.prog gf lb encA (Kept b B) S Sp N w) :
  CallsIn Fence.wide n Tryz.prog 198 #[.slice none 0 0,.func (.func gf) #[] lb] w fun e w' => ∃ v ys,e=.returned v∧S ys∧Hl.Own w.heap.size w' v ys∧Grew w w':=by
 have hmx:Tryz.prog.follows .mixedOrders=true:=by kernel_rfl
 refine callsIn_of_wp_marks Tryz.func198 rfl trivial ?_ rfl
 simp only [Tryz.ntmps198,List.size_toArray,List.length_cons,List.length_nil,Nat.reduceAdd,Nat.reduceSub,Array.replicate_succ,Array.replicate_zero,List.push_toArray,List.append_toArray,List.nil_append,List.cons_append]
 gi_wp2
 have kS:Blk (w.alloc (.cells #[.slice none 0 0] 48)) w.heap.size #[.slice none 0 0] 48:=Blk.new _ _ _
 have G0:Below w.heap.size w (w.alloc (.cells #[.slice none 0 0] 48)):=(Below.refl _ w).alloc (Nat.le_refl _) _
 have hsz:(w.alloc (.cells #[.slice none 0 0] 48)).heap.size=w.heap.size+1:=by simp
 obtain ⟨W0,hW0⟩:∃ W0,w.alloc (.cells #[.slice none 0 0] 48)=W0:=⟨_,rfl⟩
 rw [hW0] at kS G0 hsz ⊢
 clear hW0
 refine wpIn_rangeFunc_ownH rfl (by omega) (gf:=gf) (lb:=lb) rfl trivial eg hseq Kept.trans (kept_b (by omega) (by omega)) G0 (fun _ => rfl)
  (fun pre W => ((∃ v,Blk W w.heap.size #[v] 48∧Hl.Own (w.heap.size+1) W v pre)∧W0.heap.size≤W.heap.size)∧Below w.heap.size w W)
  (fun _ _ _ => False)
  (OwnFrom.and (OwnFrom.and (Own.from (own_own _ _ _ (by omega)) _) (fun s X Y row h g _ => Nat.le_trans h g.size)) (ownFrom_below (Nat.le_refl _) (by omega)))
  (fun c s X Y row h _ _ => h)
  ⟨⟨⟨_,kS,Hl.Own.nil _ _⟩,Nat.le_refl _⟩,G0⟩
  (fun x a' W => ∃ Bx,w.heap.size < Bx∧Blk W Bx #[.int .i64 x.1,.int .i64 x.2] 24∧a' = { tmps:=#[.slice none 0 0,.func (.func gf) #[] lb,.pointer (some ⟨w.heap.size,0,none⟩),undef,.slice none 0 0,.pointer (some ⟨Bx,0,none⟩),.func (.func gf) #[] lb,.agg #[.int .i64 x.1,.int .i64 x.2],undef,undef,undef,undef,undef],defers:=[] })
  (fun x a' _ X Y row hs hg hr => by
   obtain ⟨Bx,g1,g2,g3⟩:=hs
   exact ⟨Bx,g1,blk_own _ _ (fun _:Unit => #[.int .i64 x.1,.int .i64 x.2]) () X Y row g2 hg (fun r e => (hr r e).2),g3⟩)
  ?assign ?body ?done ?stop
 case assign =>
  rintro l pre x W K ⟨⟨⟨v,g1,g2⟩,g3⟩,gB⟩ hK
  unfold encA
  gi_wp2
  have bX:=Blk.new W #[.int .i64 x.1,.int .i64 x.2] 24
  exact hK _ _ ((KeepsOthers.alloc _ _).from _) ((Kept.refl _ _ W).grown (World.grownBy_alloc W _ none) (by omega) (by omega) (by simp))
   ⟨⟨⟨v,g1.alloc _,g2.alloc _⟩,by simp;omega⟩,gB.alloc (by omega) _⟩ ⟨W.heap.size,by omega,bX,rfl⟩
 case body =>
  rintro l pre x a' W hl _ ⟨⟨⟨v,g1,g2⟩,g3⟩,gB⟩ ⟨Bx,hBx,bX,rfl⟩ hlt
  obtain ⟨⟨x0,x1⟩,_,_⟩:=bX.two
  obtain ⟨s0,s1⟩:=g1.one
  have lX:=bX.lt
  have lS:=g1.lt
  have OW:=Lib.hid g2
  have KS:=Lib.hid g1
  have GB:=Lib.hid gB
  obtain ⟨i0,hi,hz0,hz1,hz2⟩:=info_parts info_pt
  have NB:Hid (∀ k,v.ownBlock=some k→w.heap.size+1≤k):=Lib.hid g2.block
  have LE:Hid (pre.length < N∧N≤4000):=Lib.hid ⟨hlt,hN⟩
  have SZ:Hid (W0.heap.size≤W.heap.size∧W0.heap.size=w.heap.size+1):=Lib.hid ⟨g3,hsz⟩
  have STEP:Hid (∀ v' w3,w3.ownsRow (w.heap.size+1) 24 2 v' (pre.length+1) (cellsOf pre ++ cellsOf [x])→(W.alloc (.cells #[.int .i64 x.1,.int .i64 x.2] 24)).grownBy w3 v.ownBlock →
    ∃ sa sc,v'=.slice sa (pre ++ [x]).length sc∧(w3.cell? ⟨w.heap.size,0,none⟩=some v∧w3.frozen? ⟨w.heap.size,0,none⟩=false)∧Hid (Blk w3 w.heap.size #[v] 48∧Hl.Own (w.heap.size+1) w3 (.slice sa (pre ++ [x]).length sc) (pre ++ [x])∧Below w.heap.size w w3∧KeepsFrom W0.heap.size W w3∧Kept b B W w3∧W0.heap.size≤w3.heap.size)):=Lib.hid (fun v' w3 hown' hg3 => by
   have KS3:=(KS.out.alloc (.cells #[.int .i64 x.1,.int .i64 x.2] 24)).kept hg3 (fun e => by have:=NB.out _ e.symm;omega)
   have OW3:Hl.Own (w.heap.size+1) w3 v' (pre ++ [x]):=by unfold Hl.Own;rw [cellsOf_append,List.length_append];exact hown'
   have GB3:Below w.heap.size w w3:=(GB.out.alloc (by have:=SZ.out;omega) _).grown hg3 (by have:=SZ.out;simp;omega) (fun k e => by have:=NB.out k e;omega)
   have KF3:KeepsFrom W0.heap.size W w3:=((KeepsOthers.alloc W (.cells #[.int .i64 x.1,.int .i64 x.2] 24)).from _).trans (keepsFrom_grown hg3 (own_cells (OW.out.alloc _)))
   have KK3:Kept b B W w3:=((Kept.refl _ _ W).grown (World.grownBy_alloc W (.cells #[.int .i64 x.1,.int .i64 x.2] 24) none) (by omega) (by omega) (by simp)).grown hg3 (by simp;omega) (by simp;omega) ⟨fun e => by have:=NB.out _ e;omega,fun e => by have:=NB.out _ e;omega⟩
   have LS3:W0.heap.size≤w3.heap.size:=by have h1:=hg3.size;rw [World.size_alloc] at h1;have h2:=SZ.out;omega
   obtain ⟨sa,sc,rfl⟩:=OW3.sl.shape
   exact ⟨sa,sc,rfl,KS3.one,Lib.hid ⟨KS3,OW3,GB3,KF3,KK3,LS3⟩⟩)
  clear g1 g2 gB hseq _hlen hlt hN
  gi_wp2_with (first
   | (gi_at_builtin;go_loud (refine wpListIn_append_own _ rfl _ _ 48 rfl (w.heap.size+1) 24 i0 (.agg #[.int .i64 0,.int .i64 0]) 2 16 Tryz.underlying48 hi hz0 hz1 hz2 rfl (by decide) v pre.length (cellsOf pre) rfl (World.ownsRow.alloc OW.out _) ⟨W.heap.size,0,none⟩ 1 1 (cellsOf [x]) rfl (cellsOf_len [x]) (row_cells (row_one rfl)) (cells_one [x]) (by have:=LE.out;unfold maxLen;omega) (by have:=LE.out;omega) (by have:=SZ.out;simp;omega) ?_;intro v' w3 hown' hg3 hnil3;obtain ⟨sa,sc,rfl,⟨s2,s3⟩,HH⟩:=STEP.out v' w3 hown' hg3;clear hown' hg3 hnil3;go_frame)))
  obtain ⟨KS3,OW3,GB3,KF3,KK3,LS3⟩:=HH.out
  simp only [List.length_append,List.length_cons,List.length_nil,Nat.zero_add] at OW3
  have ls3:=KS3.lt
  have nb3:∀ k,(Value.slice sa (pre.length+1) sc).ownBlock=some k→w.heap.size+1≤k:=OW3.block
  have gs:=grownBy_setCell w3 w.heap.size 0 (.slice sa (pre.length+1) sc)
  refine ⟨KF3.trans (keepsFrom_grown gs (fun r e => by cases e;exact ⟨_,_,_,KS3⟩)),KK3.trans ((Kept.refl _ _ _).grown gs (by have:=KK3.1;omega) (by have:=KK3.1;omega) ⟨fun e => by cases e;omega,fun e => by cases e;omega⟩),
   ⟨⟨_,KS3.put0,OW3.keeps gs (Or.inr (fun e => by have:=nb3 _ e;omega))⟩,by have:=gs.size;have:=LS3;omega⟩,GB3.grown gs GB3.size (fun k e => by cases e;exact Nat.le_refl _)⟩
 case done =>
  rintro D xs W hD hS ⟨⟨⟨v,g1,g2⟩,g3⟩,gB⟩ hK
  obtain ⟨s0,s1⟩:=g1.one
  have lS:=g1.lt
  gi_wp2
  refine ⟨by simp,.inl ⟨_,_,rfl,run_takeDeferred hK,?_⟩⟩
  exact ⟨v,by simp [results,Tryz.results198,go_sem],v,xs,rfl,hS,(own_mono g2 (Nat.le_succ _)).keeps (grownBy_putObj' _ D (.deferred none)) (by
   rcases g2.2 with ⟨rfl,_⟩ | ⟨g,cap,cur,rfl,_,hgb,_⟩
   ·exact Or.inl rfl
   ·exact Or.inr (fun e => by
     simp [Value.ownBlock] at e
     subst e
     rw [hgb] at hK
     cases hK)),gB.trans (belowK_b (w:=w) (Nat.le_refl _) W D _ _ (by omega) hK rfl rfl)⟩
 case stop => exact fun _ _ _ _ _ _ h _ => h.elim
end Mk
end Go.Proofs.YtbpgfenippiepaaGreatDoor
