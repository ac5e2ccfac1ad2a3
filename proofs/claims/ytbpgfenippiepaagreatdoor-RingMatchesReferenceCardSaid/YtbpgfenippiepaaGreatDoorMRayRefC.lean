/-
  The reference implementation of layer 9: rounded places, the places of a sector, Sector; the landed Sector, where an argument is wrong.
-/
import Derived.Test.YtbpgfenippiepaaGreatDoorMRayRefA
namespace Go.Proofs.YtbpgfenippiepaaGreatDoor
open Go.RowKit Hl Ex
namespace Ry
set_option maxRecDepth 100000
theorem fl_tdiv (n:Int) {d:Int} (hd:0 < d):fl n d=if n < n.tdiv d * d then n.tdiv d - 1 else n.tdiv d:=by
 obtain ⟨h1,h2,h3,h4,_⟩:=cut_facts n d (by omega)
 obtain ⟨s1,s2⟩:=fl_spec n hd
 have h4:=h4 hd
 generalize n.tdiv d=q at *
 generalize n.tmod d=r at *
 rw [Int.mul_comm q d]
 have key:∀ x y:Int,d * x≤d * y+(d - 1)→x≤y:=fun x y h => by
  by_cases e:x≤y
  ·exact e
  ·have:=Int.mul_le_mul_of_nonneg_left (show y+1≤x by omega) (Int.le_of_lt hd)
   rw [Int.mul_add,Int.mul_one] at this
   omega
 split
 ·have a1:fl n d≤q - 1:=key _ _ (by rw [Int.mul_sub,Int.mul_one];omega)
  have a2:q - 1≤fl n d:=key _ _ (by rw [Int.mul_sub,Int.mul_one];omega)
  omega
 ·have a1:fl n d≤q:=key _ _ (by omega)
  have a2:q≤fl n d:=key _ _ (by omega)
  omega
theorem floor_998 (n:Int) (w:World) (h:-1000000000≤n∧n≤1000000000):Calls Tryz.prog 146 #[.int .i64 n,.int .i64 998] w fun e w' => e=.returned (.int .i64 (fl n 998))∧w=w':=by
 have E:Hid (fl n 998=if n < n.tdiv 998 * 998 then n.tdiv 998 - 1 else n.tdiv 998):=Lib.hid (fl_tdiv n (by decide))
 obtain ⟨q0,q1⟩:=tdiv_bd n 998 (by decide)
 obtain ⟨q,hq⟩:∃ q,n.tdiv 998=q:=⟨_,rfl⟩
 rw [hq] at E q0 q1
 obtain ⟨n0,n1⟩:=h
 have b0:-1000000000≤q:=by omega
 have b1:q≤1000000000:=by omega
 by_cases hc:n < q * 998
 ·have E:Hid (fl n 998=q - 1):=Lib.hid (by rw [E.out,if_pos hc])
  have hc2:q * 998 > n:=hc
  clear q0 q1
  go_enter Tryz.func146,Tryz.ntmps146
  go_wp2_with fail
  go_ret
  exact ⟨by rw [E.out];first | rfl | (simp;done),rfl⟩
 ·have E:Hid (fl n 998=q):=Lib.hid (by rw [E.out,if_neg hc])
  have hc2:¬ q * 998 > n:=hc
  clear q0 q1
  go_enter Tryz.func146,Tryz.ntmps146
  go_wp2_with fail
  go_ret
  exact ⟨by rw [E.out];first | rfl | (simp;done),rfl⟩
theorem floor_1001 (n:Int) (w:World) (h:-1000000000≤n∧n≤1000000000):Calls Tryz.prog 146 #[.int .i64 n,.int .i64 1001] w fun e w' => e=.returned (.int .i64 (fl n 1001))∧w=w':=by
 have E:Hid (fl n 1001=if n < n.tdiv 1001 * 1001 then n.tdiv 1001 - 1 else n.tdiv 1001):=Lib.hid (fl_tdiv n (by decide))
 obtain ⟨q0,q1⟩:=tdiv_bd n 1001 (by decide)
 obtain ⟨q,hq⟩:∃ q,n.tdiv 1001=q:=⟨_,rfl⟩
 rw [hq] at E q0 q1
 obtain ⟨n0,n1⟩:=h
 have b0:-1000000000≤q:=by omega
 have b1:q≤1000000000:=by omega
 by_cases hc:n < q * 1001
 ·have E:Hid (fl n 1001=q - 1):=Lib.hid (by rw [E.out,if_pos hc])
  have hc2:q * 1001 > n:=hc
  clear q0 q1
  go_enter Tryz.func146,Tryz.ntmps146
  go_wp2_with fail
  go_ret
  exact ⟨by rw [E.out];first | rfl | (simp;done),rfl⟩
 ·have E:Hid (fl n 1001=q):=Lib.hid (by rw [E.out,if_neg hc])
  have hc2:¬ q * 1001 > n:=hc
  clear q0 q1
  go_enter Tryz.func146,Tryz.ntmps146
  go_wp2_with fail
  go_ret
  exact ⟨by rw [E.out];first | rfl | (simp;done),rfl⟩
theorem floor_c (n d:Int) (w:World) (h:-1000000000≤n∧n≤1000000000) (hd:d=998∨d=1001):Calls Tryz.prog 146 #[.int .i64 n,.int .i64 d] w fun e w' => e=.returned (.int .i64 (fl n d))∧w=w':=by
 rcases hd with rfl | rfl
 ·exact floor_998 n w h
 ·exact floor_1001 n w h
def bxR (r:Pt) (n d:Int):List Pt:=[(fl (r.1 * n) d,fl (r.2 * n) d),(fl (r.1 * n) d,ce (r.2 * n) d),(ce (r.1 * n) d,fl (r.2 * n) d),(ce (r.1 * n) d,ce (r.2 * n) d)]
theorem mem_bxR {r:Pt} {n d:Int} {x:Pt}:x ∈ bxR r n d↔x ∈ bx r n d:=by
 unfold bxR bx
 simp only [List.mem_cons,List.mem_nil_iff,or_false]
 constructor
 ·rintro (h | h | h | h)
  ·exact Or.inl h
  ·exact Or.inr (Or.inr (Or.inl h))
  ·exact Or.inr (Or.inl h)
  ·exact Or.inr (Or.inr (Or.inr h))
 ·rintro (h | h | h | h)
  ·exact Or.inl h
  ·exact Or.inr (Or.inr (Or.inl h))
  ·exact Or.inr (Or.inl h)
  ·exact Or.inr (Or.inr (Or.inr h))
def RndR (r:Pt) (n d:Int) (w:World) (e:Ending) (w':World):Prop:=∃ g,e=.returned (.slice (some ⟨g,0,none⟩) 4 4)∧OwnAt w.heap.size w' g 4 (bxR r n d)∧Grew w w'
set_option maxHeartbeats 4000000 in
theorem rounded_r (k:Nat) (n d:Int) (w:World) (hk:k < 128) (h0:0≤n) (h1:n≤100000) (hd:d=998∨d=1001):Calls Tryz.prog 112 #[.int .i64 k,.int .i64 n,.int .i64 d] w (RndR (dir k) n d w):=by
 have AC:Hid (∀ W,Calls Tryz.prog 45 #[.int .i64 k] W fun e w' => e=.returned (.agg #[.int .i64 (dir k).1,.int .i64 (dir k).2])∧Grew W w'):=Lib.hid (fun W => at_r k W hk)
 have FC:Hid (∀ (z:Int) W,(-1000000000≤z∧z≤1000000000)→Calls Tryz.prog 146 #[.int .i64 z,.int .i64 d] W fun e w' => e=.returned (.int .i64 (fl z d))∧W=w'):=Lib.hid (fun z W hz => floor_c z d W hz hd)
 have BD:=dir_bd k
 generalize dir k=r at AC BD ⊢
 obtain ⟨r1,r2⟩:=r
 simp only at AC BD
 obtain ⟨⟨a0,a1⟩,b0,b1⟩:=BD
 obtain ⟨p0,p1⟩:=prod_bd ⟨a0,a1⟩ h0 h1
 obtain ⟨q0,q1⟩:=prod_bd ⟨b0,b1⟩ h0 h1
 have EX:Hid (bxR (r1,r2) n d=[(fl (r1 * n) d,fl (r2 * n) d),(fl (r1 * n) d,-(fl (-(r1 * n)) d)),(-(fl (-(r1 * n)) d),fl (r2 * n) d),(-(fl (-(r1 * n)) d),-(fl (-(r2 * n)) d))]∨True):=Lib.hid (Or.inr trivial)
 have EB:Hid (bxR (r1,r2) n d=[(fl (r1 * n) d,fl (r2 * n) d),(fl (r1 * n) d,-(fl (-(r2 * n)) d)),(-(fl (-(r1 * n)) d),fl (r2 * n) d),(-(fl (-(r1 * n)) d),-(fl (-(r2 * n)) d))]):=Lib.hid rfl
 obtain ⟨A,hA⟩:∃ A,r1 * n=A:=⟨_,rfl⟩
 obtain ⟨B,hB⟩:∃ B,r2 * n=B:=⟨_,rfl⟩
 rw [hA,hB] at EB
 rw [hA] at p0 p1
 rw [hB] at q0 q1
 have WA:IntKind.i64.wrap (r1 * n)=A:=by rw [hA];exact IntWalk.i64_in _ ⟨by omega,by omega⟩
 have WB:IntKind.i64.wrap (r2 * n)=B:=by rw [hB];exact IntWalk.i64_in _ ⟨by omega,by omega⟩
 have WA2:IntKind.i64.wrap (-r1 * n) = -A:=by rw [Int.neg_mul,hA];exact IntWalk.i64_in _ ⟨by omega,by omega⟩
 have WB2:IntKind.i64.wrap (-r2 * n) = -B:=by rw [Int.neg_mul,hB];exact IntWalk.i64_in _ ⟨by omega,by omega⟩
 have NA:IntKind.i64.wrap (-r1) = -r1:=IntWalk.i64_in _ ⟨by omega,by omega⟩
 have NB:IntKind.i64.wrap (-r2) = -r2:=IntWalk.i64_in _ ⟨by omega,by omega⟩
 have pA:(-1000000000≤A∧A≤1000000000)∧(-1000000000≤-A∧-A≤1000000000):=by omega
 have pB:(-1000000000≤B∧B≤1000000000)∧(-1000000000≤-B∧-B≤1000000000):=by omega
 have FA:Hid (∀ W,Calls Tryz.prog 146 #[.int .i64 A,.int .i64 d] W fun e w' => e=.returned (.int .i64 (fl A d))∧W=w'):=Lib.hid (fun W => FC.out A W pA.1)
 have FB:Hid (∀ W,Calls Tryz.prog 146 #[.int .i64 B,.int .i64 d] W fun e w' => e=.returned (.int .i64 (fl B d))∧W=w'):=Lib.hid (fun W => FC.out B W pB.1)
 have bA:-1000001≤fl (-A) d∧fl (-A) d≤1000001:=by
  obtain ⟨s1,s2⟩:=fl_spec (-A) (b:=d) (by omega)
  generalize fl (-A) d=f at *
  rcases hd with rfl | rfl <;> omega
 have bB:-1000001≤fl (-B) d∧fl (-B) d≤1000001:=by
  obtain ⟨s1,s2⟩:=fl_spec (-B) (b:=d) (by omega)
  generalize fl (-B) d=f at *
  rcases hd with rfl | rfl <;> omega
 have FC':Hid (∀ (z:Int) W,(z=A∨z=B∨z = -A∨z = -B)→Calls Tryz.prog 146 #[.int .i64 z,.int .i64 d] W fun e w' => e=.returned (.int .i64 (fl z d))∧W=w'):=Lib.hid (fun z W hz => FC.out z W (by omega))
 have MA:IntKind.i64.wrap (-(fl (-A) d)) = -(fl (-A) d):=IntWalk.i64_in _ ⟨by omega,by omega⟩
 have MB:IntKind.i64.wrap (-(fl (-B) d)) = -(fl (-B) d):=IntWalk.i64_in _ ⟨by omega,by omega⟩
 clear hA hB p0 p1 q0 q1 h0 h1 hd FC FA FB pA pB EX a0 a1 b0 b1 bA bB
 go_enter Tryz.func112,Tryz.ntmps112
 go_wp2_with fail
 refine (AC.out _).mono ?_
 rintro e w1 ⟨rfl,g1⟩
 have kR:=Blk.new w1 #[.int .i64 r1,.int .i64 r2] 24
 have G1:=Grew.alloc g1 #[.int .i64 r1,.int .i64 r2] 24
 have lz:w1.heap.size < (w1.alloc (.cells #[.int .i64 r1,.int .i64 r2] 24)).heap.size:=kR.lt
 have hs1:=g1.size
 go_wp2_with fail
 obtain ⟨V1,hV1⟩:∃ V1,w1.alloc (.cells #[.int .i64 r1,.int .i64 r2] 24)=V1:=⟨_,rfl⟩
 rw [hV1] at kR G1 lz ⊢
 clear hV1 g1
 obtain ⟨⟨c0,c1⟩,_,_⟩:=kR.two
 go_region_held3 (fun W' => W'.cell? ⟨w1.heap.size,0,none⟩=some (.int .i64 r1)) (first | assumption | (simp [go_sem, *];done))
  ((go_at_call 146;refine (FC'.out _ _ (by first | exact Or.inl rfl | exact Or.inr (Or.inr (Or.inl rfl)))).mono ?_;rintro e w' ⟨rfl,rfl⟩))
 go_wp2_with fail
 obtain ⟨x0,hx0⟩:∃ x,fl A d=x:=⟨_,rfl⟩
 obtain ⟨x1,hx1⟩:∃ x,-(fl (-A) d)=x:=⟨_,rfl⟩
 have kX:Blk (V1.alloc (.cells #[.int .i64 (fl A d),.int .i64 (-(fl (-A) d))] 3)).drew V1.heap.size #[.int .i64 (fl A d),.int .i64 (-(fl (-A) d))] 3:=Blk.drew (Blk.new V1 _ _)
 have kR2:Blk (V1.alloc (.cells #[.int .i64 (fl A d),.int .i64 (-(fl (-A) d))] 3)).drew w1.heap.size #[.int .i64 r1,.int .i64 r2] 24:=Blk.drew (kR.alloc _)
 have G2:Grew w (V1.alloc (.cells #[.int .i64 (fl A d),.int .i64 (-(fl (-A) d))] 3)).drew:=(G1.alloc _ _).drew
 obtain ⟨V2,hV2⟩:∃ V2,(V1.alloc (.cells #[.int .i64 (fl A d),.int .i64 (-(fl (-A) d))] 3)).drew=V2:=⟨_,rfl⟩
 rw [hV2] at kX kR2 G2 ⊢
 clear hV2 c0 c1 kR G1
 obtain ⟨⟨c0,c1⟩,_,_⟩:=kR2.two
 have lR:=kR2.lt
 have lX:=kX.lt
 go_region_held3 (fun W' => W'.cell? ⟨w1.heap.size,1,none⟩=some (.int .i64 r2)) (first | assumption | (simp [go_sem, *];done))
  ((go_at_call 146;refine (FC'.out _ _ (by first | exact Or.inr (Or.inl rfl) | exact Or.inr (Or.inr (Or.inr rfl)))).mono ?_;rintro e w' ⟨rfl,rfl⟩))
 go_wp2_with fail
 have kY:Blk (V2.alloc (.cells #[.int .i64 (fl B d),.int .i64 (-(fl (-B) d))] 3)).drew V2.heap.size #[.int .i64 (fl B d),.int .i64 (-(fl (-B) d))] 3:=Blk.drew (Blk.new V2 _ _)
 have kX2:Blk (V2.alloc (.cells #[.int .i64 (fl B d),.int .i64 (-(fl (-B) d))] 3)).drew V1.heap.size #[.int .i64 (fl A d),.int .i64 (-(fl (-A) d))] 3:=Blk.drew (kX.alloc _)
 have G3:Grew w (V2.alloc (.cells #[.int .i64 (fl B d),.int .i64 (-(fl (-B) d))] 3)).drew:=(G2.alloc _ _).drew
 obtain ⟨V3,hV3⟩:∃ V3,(V2.alloc (.cells #[.int .i64 (fl B d),.int .i64 (-(fl (-B) d))] 3)).drew=V3:=⟨_,rfl⟩
 rw [hV3] at kX2 kY G3 ⊢
 clear hV3 c0 c1 kX kR2 G2 lR lX MA MB NA NB WA WB WA2 WB2 FC' hx0 hx1
 generalize fl A d=x0 at kX2 EB ⊢
 generalize -(fl (-A) d)=X0 at kX2 EB ⊢
 generalize fl B d=y0 at kY EB ⊢
 generalize -(fl (-B) d)=Y0 at kY EB ⊢
 obtain ⟨⟨c0,c1⟩,_,_⟩:=kX2.two
 obtain ⟨⟨f0,f1⟩,_,_⟩:=kY.two
 have lX:=kX2.lt
 have lY:=kY.lt
 go_region_held3 (fun W' => (W'.cell? ⟨V1.heap.size,0,none⟩=some (.int .i64 x0)∧W'.cell? ⟨V1.heap.size,1,none⟩=some (.int .i64 X0))∧(W'.cell? ⟨V2.heap.size,0,none⟩=some (.int .i64 y0)∧W'.cell? ⟨V2.heap.size,1,none⟩=some (.int .i64 Y0))) (first | (simp [go_sem, *];done)) (fail)
 go_wp2_with fail
 go_ret
 have h:=ownAt_new w.heap.size V3 (bxR (r1,r2) n d) _ rfl G3.size (by rw [EB.out];exact of_decide_eq_true rfl)
 rw [EB.out] at h
 refine ⟨_,rfl,?_,?_⟩
 ·rw [EB.out]
  exact h
 ·exact gw
def farR (a:Nat) (hi:Int) (m:Nat):List Pt:=(List.range m).flatMap fun k => bxR (dir (a+k)) hi 998
def nearR (a n:Nat) (lo:Int):List Pt:=bxR (dir a) lo 1001 ++ bxR (dir (a+n)) lo 1001
theorem farR_succ (a:Nat) (hi:Int) (m:Nat):farR a hi (m+1)=farR a hi m ++ bxR (dir (a+m)) hi 998:=by unfold farR;rw [List.range_succ,List.flatMap_append];simp
theorem farR_len (a:Nat) (hi:Int) (m:Nat):(farR a hi m).length=4 * m:=by
 induction m with
 | zero => rfl
 | succ m ih => rw [farR_succ,List.length_append,ih];show 4 * m+4=_;omega
theorem mem_all {a n:Nat} {lo hi:Int} {x:Pt}:x ∈ nearR a n lo ++ farR a hi (n+1)↔x ∈ secL a n lo hi:=by
 unfold nearR farR
 rw [mem_sec,List.mem_append,List.mem_append,List.mem_flatMap,or_assoc,mem_bxR,mem_bxR]
 constructor
 ·rintro (h | h | ⟨i,hi,h⟩)
  ·exact Or.inl h
  ·exact Or.inr (Or.inl h)
  ·exact Or.inr (Or.inr ⟨i,by have:=List.mem_range.1 hi;omega,mem_bxR.1 h⟩)
 ·rintro (h | h | ⟨i,hi,h⟩)
  ·exact Or.inl h
  ·exact Or.inr (Or.inl h)
  ·exact Or.inr (Or.inr ⟨i,List.mem_range.2 (by omega),mem_bxR.2 h⟩)
theorem hull_congr {l l' q:List Pt} (h:∀ x,x ∈ l↔x ∈ l') (k:IsHull l q):IsHull l' q:=⟨k.1,fun x hx => (h x).1 (k.2.1 x hx),fun x hx => k.2.2 x ((h x).2 hx)⟩
theorem few_small (q:List Pt) (v:Value) (w:World) (hs:Sl w v q) (h:q.length≤64):Calls Tryz.prog 113 #[v] w fun e w' => e=.returned v∧w=w':=by
 obtain ⟨a,c,rfl⟩:=hs.shape
 have i0:¬ (q.length:Int) > 64:=by omega
 clear h hs
 go_enter Tryz.func113,Tryz.ntmps113
 go_wp2_with fail
 go_ret
 exact ⟨rfl,rfl⟩
def SecR (a n:Nat) (lo hi:Int) (w:World) (e:Ending) (w':World):Prop:=∃ q v,IsHull (secL a n lo hi) q∧q.length≤64∧e=.returned v∧Sl w' v q∧Grew w w'
set_option maxHeartbeats 4000000 in
theorem around_9 (a n:Nat) (lo hi:Int) (w:World) (ha:a < 64) (hn:n≤31) (h0:0≤lo) (h1:lo≤hi) (h2:hi≤100000):Calls Tryz.prog 69 #[.int .i64 a,.int .i64 n,.agg #[.int .i64 lo,.int .i64 hi]] w (SecR a n lo hi w):=by
 have a0:(0:Int)≤(a:Int):=by omega
 have a1:(a:Int) < 64:=by omega
 have n0:(0:Int)≤(n:Int):=by omega
 have n1:(n:Int)≤31:=by omega
 have AN:Hid (a < 64∧n≤31):=Lib.hid ⟨ha,hn⟩
 have RC:Hid (∀ (z:Int),0≤z→z < 128→∀ W,Calls Tryz.prog 112 #[.int .i64 z,.int .i64 lo,.int .i64 1001] W (RndR (dir z.toNat) lo 1001 W)):=Lib.hid (fun z z0 z1 W => by
  have h:=rounded_r z.toNat lo 1001 W (by omega) h0 (by omega) (Or.inr rfl)
  rwa [show ((z.toNat:Nat):Int)=z by omega] at h)
 have RF:Hid (∀ (k:Nat) W,k < 128→Calls Tryz.prog 112 #[.int .i64 k,.int .i64 hi,.int .i64 998] W (RndR (dir k) hi 998 W)):=Lib.hid (fun k W hk => rounded_r k hi 998 W hk (by omega) h2 (Or.inl rfl))
 have EN:Hid (nearR a n lo=bxR (dir (a:Int).toNat) lo 1001 ++ bxR (dir ((a:Int)+(n:Int)).toNat) lo 1001):=Lib.hid (by
  rw [Int.toNat_natCast,show ((a:Int)+(n:Int)).toNat=a+n by omega]
  rfl)
 have W1:IntKind.i64.wrap ((a:Int)+(n:Int))=(a:Int)+(n:Int):=IntWalk.i64_in _ ⟨by omega,by omega⟩
 have kS:=Blk.new w #[.int .i64 lo,.int .i64 hi] 26
 have G0:Grew w (w.alloc (.cells #[.int .i64 lo,.int .i64 hi] 26)):=(Grew.refl w).alloc _ _
 have FIN:Hid (∀ q,IsHull (nearR a n lo ++ farR a hi (n+1)) q→IsHull (secL a n lo hi) q∧q.length≤64):=Lib.hid (fun q hq => by
  have h:=hull_congr (fun x => mem_all) hq
  exact ⟨h,sec_few ha hn h0 h1 h⟩)
 have PL:Hid (Plcs (nearR a n lo ++ farR a hi (n+1))):=Lib.hid (fun i hi' => by
  have:=sec_bd h0 h1 (b:=100402) (by omega) (mem_all.1 (at_mem hi'))
  unfold Plc
  omega)
 have FS:=Lib.hid (fun m => farR_succ a hi m)
 have FL:=Lib.hid (fun m => farR_len a hi m)
 clear ha hn h0 h1 h2
 go_enter Tryz.func69,Tryz.ntmps69
 go_wp2_with fail
 obtain ⟨W0,hW0⟩:∃ W0,w.alloc (.cells #[.int .i64 lo,.int .i64 hi] 26)=W0:=⟨_,rfl⟩
 rw [hW0] at kS G0 ⊢
 clear hW0
 have KS:=Lib.hid kS
 have lS:=kS.lt
 obtain ⟨⟨c0,c1⟩,_,_⟩:=kS.two
 go_region_held3 (fun W' => W'.cell? ⟨w.heap.size,0,none⟩=some (.int .i64 lo)) (first | assumption | (simp [go_sem, *];done))
  (first
   | (go_at_call 112;refine (RC.out _ (by omega) (by omega) _).mono ?_;rintro e w' ⟨gx,rfl,ox,g⟩;(first | (have O1:=Lib.hid (O1.out.grew g);have O2:=ox;have GG:=Grew.trans GG g) | (have O1:Hid (OwnAt W0.heap.size w' gx 4 (bxR (dir a) lo 1001)):=Lib.hid ox;have GG:=Grew.trans (Grew.drew (Grew.refl W0)) g));have c0:=(KS.out.grown GG).two.1.1;have lz:=(KS.out.grown GG).lt)
   | (refine step_app _ rfl (.tmp 12) (.tmp 18) rfl W0.heap.size _ (bxR (dir a) lo 1001) (bxR (dir ((a:Int)+(n:Int)).toNat) lo 1001) _ 4 rfl (own_at.1 O1.out) rfl O2.row (show 4+4≤4000000 by decide) GG.size ?_
      intro v' w' own' gr'
      have GG:=Grew.grown GG gr' (fun k e => by have:=(own_at.1 O1.out).block k e;omega)
      have c0:=(KS.out.grown GG).two.1.1))
 have OW:Hid (Hl.Own W0.heap.size w' v' (nearR a n lo ++ farR a hi 0)):=Lib.hid (by
  rw [EN.out,Int.toNat_natCast,show farR a hi 0=[] from rfl,List.append_nil]
  exact own')
 have G1:Grew w w':=G0.trans GG
 have kS1:=KS.out.grown GG
 have z1:W0.heap.size≤w'.heap.size:=GG.size
 have aw:w.heap.size < W0.heap.size:=lS
 clear own' gr' GG c0 RC EN O1 O2 KS kS G0 lS
 go_wp2_with fail
 go_loopw [7,8] (fun v x wr => ∃ t:Nat,a≤t∧t≤a+n+1∧x=.int .i64 t∧Hid (Hl.Own W0.heap.size wr v (nearR a n lo ++ farR a hi (t - a))∧Blk wr w.heap.size #[.int .i64 lo,.int .i64 hi] 26∧Grew w wr∧W0.heap.size≤wr.heap.size)) (fun _ x _ => a+n+1 - (intOf x).toNat)
 case atStart => exact ⟨a,Nat.le_refl _,by omega,rfl,Lib.hid ⟨by rw [Nat.sub_self];exact OW.out,kS1,G1,z1⟩⟩
 case round =>
  clear OW kS1 G1 z1
  obtain ⟨t,ht0,ht1,rfl,HH⟩:=hrel
  obtain ⟨⟨c0,c1⟩,_,_⟩:=HH.out.2.1.two
  have lS:=HH.out.2.1.lt
  obtain ⟨va,vc,rfl⟩:=HH.out.1.sl.shape
  have LL:(nearR a n lo ++ farR a hi (t - a)).length=8+4 * (t - a):=by rw [List.length_append,FL.out];rfl
  have t0:(0:Int)≤(t:Int):=by omega
  have t1:(t:Int) < 128:=by omega
  by_cases hlt:t≤a+n
  ·have RT:=Lib.hid (fun W => RF.out t W (by omega))
   have SU:Hid (nearR a n lo ++ farR a hi (t+1 - a)=(nearR a n lo ++ farR a hi (t - a)) ++ bxR (dir t) hi 998):=Lib.hid (by
    rw [show t+1 - a=(t - a)+1 by omega,FS.out,show a+(t - a)=t by omega,List.append_assoc])
   have hle:(t:Int)≤(a:Int)+(n:Int):=by omega
   obtain ⟨P,hP⟩:∃ P,nearR a n lo ++ farR a hi (t - a)=P:=⟨_,rfl⟩
   rw [hP] at HH SU LL ⊢
   have L4:Hid (P.length≤1000):=Lib.hid (by omega)
   clear hP LL
   generalize dir t=r at RT SU
   go_wp2_with fail
   refine (RT.out _).mono ?_
   rintro e w2 ⟨g,rfl,og,g2⟩
   have H2:Hid (Hl.Own W0.heap.size w2 (.slice va P.length vc) P∧Blk w2 w.heap.size #[.int .i64 lo,.int .i64 hi] 26∧Grew w w2∧W0.heap.size≤w2.heap.size):=Lib.hid ⟨HH.out.1.grew g2,HH.out.2.1.grown g2,HH.out.2.2.1.trans g2,Nat.le_trans HH.out.2.2.2 g2.size⟩
   have OG:=Lib.hid og
   clear HH og g2 c0 c1 lS
   go_wp2_with (at_builtin;go_must (refine append_T _ rfl _ _ 48 Tryz.underlying48 rfl W0.heap.size _ P (bxR r hi 998) g 0 4 rfl H2.out.1 rfl OG.out.row (by have:=L4.out;show P.length+4≤4000000;omega) H2.out.2.2.2 ?_;intro v5 w5 own5 gr5;have H5:=Lib.hid (And.intro own5 (And.intro (H2.out.2.1.kept gr5 (fun e => by have:=H2.out.1.block _ e.symm;omega)) (And.intro (Grew.grown H2.out.2.2.1 gr5 (fun k e => by have:=H2.out.1.block k e;omega)) (Nat.le_trans H2.out.2.2.2 gr5.size))));obtain ⟨va5,vc5,rfl⟩:=own5.sl.shape;clear own5 gr5))
   go_roundw
   case rel => exact ⟨t+1,by omega,by omega,by go_num,Lib.hid ⟨by rw [SU.out];have h:=H5.out.1;rw [List.length_append] at h;exact h,H5.out.2.1,H5.out.2.2.1,H5.out.2.2.2⟩⟩
   case measure => simp [intOf];omega
  ·obtain rfl:t=a+n+1:=by omega
   rw [show a+n+1 - a=n+1 by omega] at HH LL ⊢
   obtain ⟨g,cap,hv,og⟩:=HH.out.1.at (fun e => by rw [e] at LL;simp at LL)
   cases hv
   have ARC:Hid (∀ W,Grew w W→W=W→OwnAt W0.heap.size W g vc (nearR a n lo ++ farR a hi (n+1))→Calls Tryz.prog 114 #[.slice (some ⟨g,0,none⟩) (nearR a n lo ++ farR a hi (n+1)).length vc] W (AroundSays (nearR a n lo ++ farR a hi (n+1)) W)):=Lib.hid (fun W _ _ ho => around_any _ g 0 vc W ho.row (by omega) (by omega) PL.out)
   have AR:=Lib.hid (ARC.out _ HH.out.2.2.1 rfl og)
   obtain ⟨N,hN⟩:∃ N,(nearR a n lo ++ farR a hi (n+1)).length=N:=⟨_,rfl⟩
   rw [hN] at AR ⊢
   have hle:¬ ((a:Int)+(n:Int)+1≤(a:Int)+(n:Int)):=by omega
   have GH:=Lib.hid HH.out.2.2.1
   clear og ARC LL HH hlt
   go_wp2_with fail
   refine AR.out.mono ?_
   rintro e w2 ⟨v2,q,hq,rfl,sq,g2⟩
   obtain ⟨f1,f2⟩:=FIN.out q hq
   have QQ:=Lib.hid (And.intro f1 f2)
   have FC:=Lib.hid (few_small q v2 w2 sq f2)
   have SQ:=Lib.hid sq
   have G2:=Lib.hid (GH.out.trans g2)
   clear sq g2 f1 f2 hq
   go_wp2_with fail
   refine FC.out.mono ?_
   rintro e w3 ⟨rfl,rfl⟩
   go_wp2_with fail
   go_ret
   exact ⟨q,v2,QQ.out.1,QQ.out.2,rfl,SQ.out,G2.out⟩
def Dst (lo hi:Int):Prop:=0≤lo∧lo≤hi∧hi≤100000
instance (lo hi:Int):Decidable (Dst lo hi):=by unfold Dst;infer_instance
theorem dist_yes (lo hi:Int) (w:World) (h:Dst lo hi):Calls Tryz.prog 33 #[.agg #[.int .i64 lo,.int .i64 hi]] w fun e w' => e=.returned (.bool true)∧Grew w w':=by
 obtain ⟨h0,h1,h2⟩:=h
 go_enter Tryz.func33,Tryz.ntmps33
 go_wp2_with fail
 go_ret
 exact ⟨by first | rfl | (simp;omega),gw⟩
theorem dist_no (lo hi:Int) (w:World) (h:¬ Dst lo hi):Calls Tryz.prog 33 #[.agg #[.int .i64 lo,.int .i64 hi]] w fun e w' => e=.returned (.bool false)∧Grew w w':=by
 by_cases h0:0≤lo
 ·by_cases h1:lo≤hi
  ·have h2:¬ hi≤100000:=fun h2 => h ⟨h0,h1,h2⟩
   clear h
   go_enter Tryz.func33,Tryz.ntmps33
   go_wp2_with fail
   go_ret
   exact ⟨by first | rfl | (simp;omega),gw⟩
  ·clear h
   go_enter Tryz.func33,Tryz.ntmps33
   go_wp2_with fail
   go_ret
   exact ⟨by first | rfl | (simp;omega),gw⟩
 ·clear h
  go_enter Tryz.func33,Tryz.ntmps33
  go_wp2_with fail
  go_ret
  exact ⟨by first | rfl | (simp;omega),gw⟩
def SecSays (a n:Nat) (lo hi:Int) (w:World) (e:Ending) (w':World):Prop:=∃ q v,IsHull (secL a n lo hi) q∧q.length≤64∧e=.returned (.tuple #[v,.int .i64 0])∧Sl w' v q∧Grew w w'
theorem r_sector_ok (a n:Nat) (lo hi:Int) (w:World) (ha:a < 64) (hn:n≤31) (h:Dst lo hi):Calls Tryz.prog 34 #[.int .i64 a,.int .i64 n,.agg #[.int .i64 lo,.int .i64 hi]] w (SecSays a n lo hi w):=by
 have RC:Hid (∀ W,Calls Tryz.prog 68 #[.int .i64 a,.int .i64 n] W fun e w' => e=.returned (.bool true)∧W=w'):=Lib.hid (fun W => right_yes _ _ W (by omega))
 have DC:Hid (∀ W,Calls Tryz.prog 33 #[.agg #[.int .i64 lo,.int .i64 hi]] W fun e w' => e=.returned (.bool true)∧Grew W w'):=Lib.hid (fun W => dist_yes lo hi W h)
 have AC:Hid (∀ W,Calls Tryz.prog 69 #[.int .i64 a,.int .i64 n,.agg #[.int .i64 lo,.int .i64 hi]] W (SecR a n lo hi W)):=Lib.hid (fun W => around_9 a n lo hi W ha hn h.1 h.2.1 h.2.2)
 have kS:=Lib.hid (Blk.new w #[.int .i64 lo,.int .i64 hi] 26)
 have G0:Grew w (w.alloc (.cells #[.int .i64 lo,.int .i64 hi] 26)):=(Grew.refl w).alloc _ _
 clear ha hn h
 go_enter Tryz.func34,Tryz.ntmps34
 go_wp2_with fail
 refine (RC.out _).mono ?_
 rintro e w1 ⟨rfl,rfl⟩
 go_wp2_with fail
 refine (DC.out _).mono ?_
 rintro e w1 ⟨rfl,g1⟩
 have G1:=Grew.trans G0 g1
 obtain ⟨⟨c0,c1⟩,_,_⟩:=(kS.out.grown g1).two
 have lS:=(kS.out.grown g1).lt
 clear g1
 go_wp2_with fail
 refine (AC.out _).mono ?_
 rintro e w2 ⟨q,v,hq,h64,rfl,sq,g2⟩
 have QQ:=Lib.hid (And.intro hq h64)
 have SQ:=Lib.hid sq
 have G2:=Lib.hid (Grew.trans G1 g2)
 obtain ⟨va,vc,rfl⟩:=sq.shape
 clear hq h64 sq g2
 go_wp2_with fail
 go_ret2
 exact ⟨q,_,QQ.out.1,QQ.out.2,rfl,SQ.out,G2.out⟩
theorem sector_bad (a n lo hi:Int) (w:World) (h:¬ ((0≤a∧a < 64)∧(0≤n∧n≤31)∧Dst lo hi)):Calls Tryz.prog 61 #[.int .i64 a,.int .i64 n,.agg #[.int .i64 lo,.int .i64 hi]] w (Empty 1 w):=by
 by_cases ha:0≤a∧a < 64
 ·have A0:=Lib.hid ha
  by_cases hn:0≤n∧n≤31
  ·have N0:=Lib.hid hn
   by_cases h0:0≤lo
   ·by_cases h1:lo≤hi
    ·have h2:¬ hi≤100000:=fun h2 => h ⟨ha,hn,h0,h1,h2⟩
     clear h ha hn
     go_enter Tryz.func61,Tryz.ntmps61
     go_wp2_with fail
     refine (isRay_yes _ A0.out.1 A0.out.2 _).mono ?_
     rintro e w' ⟨rfl,rfl⟩
     go_wp2_with fail
     refine (isWidth_yes _ N0.out.1 N0.out.2 _).mono ?_
     rintro e w' ⟨rfl,rfl⟩
     go_wp2_with fail
     go_ret2
     exact ⟨_,rfl,Or.inl ⟨rfl,none,0,rfl⟩,gw⟩
    ·clear h ha hn
     go_enter Tryz.func61,Tryz.ntmps61
     go_wp2_with fail
     refine (isRay_yes _ A0.out.1 A0.out.2 _).mono ?_
     rintro e w' ⟨rfl,rfl⟩
     go_wp2_with fail
     refine (isWidth_yes _ N0.out.1 N0.out.2 _).mono ?_
     rintro e w' ⟨rfl,rfl⟩
     go_wp2_with fail
     go_ret2
     exact ⟨_,rfl,Or.inl ⟨rfl,none,0,rfl⟩,gw⟩
   ·clear h ha hn
    go_enter Tryz.func61,Tryz.ntmps61
    go_wp2_with fail
    refine (isRay_yes _ A0.out.1 A0.out.2 _).mono ?_
    rintro e w' ⟨rfl,rfl⟩
    go_wp2_with fail
    refine (isWidth_yes _ N0.out.1 N0.out.2 _).mono ?_
    rintro e w' ⟨rfl,rfl⟩
    go_wp2_with fail
    go_ret2
    exact ⟨_,rfl,Or.inl ⟨rfl,none,0,rfl⟩,gw⟩
  ·have N0:Hid (n < 0∨31 < n):=Lib.hid (by omega)
   clear h ha hn
   go_enter Tryz.func61,Tryz.ntmps61
   go_wp2_with fail
   refine (isRay_yes _ A0.out.1 A0.out.2 _).mono ?_
   rintro e w' ⟨rfl,rfl⟩
   go_wp2_with fail
   refine (isWidth_no _ N0.out _).mono ?_
   rintro e w' ⟨rfl,rfl⟩
   go_wp2_with fail
   go_ret2
   exact ⟨_,rfl,Or.inl ⟨rfl,none,0,rfl⟩,gw⟩
 ·have A0:Hid (a < 0∨64≤a):=Lib.hid (by omega)
  clear h ha
  go_enter Tryz.func61,Tryz.ntmps61
  go_wp2_with fail
  refine (isRay_no _ A0.out _).mono ?_
  rintro e w' ⟨rfl,rfl⟩
  go_wp2_with fail
  go_ret2
  exact ⟨_,rfl,Or.inl ⟨rfl,none,0,rfl⟩,gw⟩
end Ry
end Go.Proofs.YtbpgfenippiepaaGreatDoor
