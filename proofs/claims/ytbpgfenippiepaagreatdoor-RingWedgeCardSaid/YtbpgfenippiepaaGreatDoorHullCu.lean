/-
  Plain geometry: corners that turn left, rise, and then fall, are a polygon; and the other way round.
  The library Grow at a nil chain, Reverse at points, Concat at two chains.
  Plain geometry: the places in their order, pushed one by one, and back again, make the hull.
  The landed corners.
  The library Grow and Concat at two lists of points.
-/
import Derived.Test.YtbpgfenippiepaaGreatDoorHullChain
import Derived.Test.YtbpgfenippiepaaGreatDoorHullLay
import Derived.Test.YtbpgfenippiepaaGreatDoorHullCa
import Derived.Test.YtbpgfenippiepaaGreatDoorHullCr
import Derived.Test.YtbpgfenippiepaaGreatDoorHullIn
namespace Go.Proofs.YtbpgfenippiepaaGreatDoor
namespace Hl
theorem ls_steep {a b:Pt} (ha:Plc a) (hb:Plc b):ls a b↔af 1000001 1 0 a < af 1000001 1 0 b:=by
 unfold Plc at ha hb
 unfold ls af
 omega
theorem sep_id (u v k:Int) (m M p q y:Pt):(af u v k M - af u v k m) * cr p q y=(af u v k M - af u v k y) * cr p q m+(af u v k y - af u v k m) * cr p q M+(af u v k q - af u v k p) * cr m M y:=by unfold af cr;grind
theorem pos_of {d s:Int} (hd:0 < d) (h:0 < d * s):0 < s:=by
 by_cases hs:0 < s
 ·exact hs
 ·have:=Int.mul_nonneg (show 0≤d by omega) (show 0≤-s by omega)
  rw [Int.mul_neg] at this
  omega
theorem sep {u v k:Int} {m M p q y:Pt} (hm:af u v k m < af u v k M) (h1:af u v k m≤af u v k y) (h2:af u v k y≤af u v k M) (hpq:af u v k p < af u v k q) (a:0≤cr p q m) (b:0≤cr p q M) (c:0 < cr m M y):0 < cr p q y:=by
 refine pos_of (show 0 < af u v k M - af u v k m by omega) ?_
 rw [sep_id]
 have e1:=Int.mul_nonneg (show 0≤af u v k M - af u v k y by omega) a
 have e2:=Int.mul_nonneg (show 0≤af u v k y - af u v k m by omega) b
 have e3:=Int.mul_pos (show 0 < af u v k q - af u v k p by omega) c
 omega
theorem grows_all {g:Nat→Int} {a:Nat} (h:∀ i,i < a→g i < g (i+1)):∀ i j,i < j→j≤a→g i < g j:=by
 intro i j hij
 induction j with
 | zero => omega
 | succ j ih =>
   intro hj
   have h1:=h j (by omega)
   by_cases e:i=j
   ·rw [e];exact h1
   ·have:=ih (by omega) (by omega)
    omega
theorem chains_left {u v k:Int} {A B:Nat→Pt} {a b:Nat} (ia:∀ i,i < a→af u v k (A i) < af u v k (A (i+1))) (ta:∀ i,i+2≤a→0 < cr (A i) (A (i+1)) (A (i+2)))
  (ib:∀ j,j < b→af u v k (B (j+1)) < af u v k (B j)) (tb:∀ j,j+2≤b→0 < cr (B j) (B (j+1)) (B (j+2))) (e1:A a=B 0) (e2:B b=A 0) {i:Nat} (hi:i < a) :
  (∀ l,l≤a→l ≠ i→l ≠ i+1→0 < cr (A i) (A (i+1)) (A l))∧∀ j,0 < j→j < b→0 < cr (A i) (A (i+1)) (B j):=by
 have ca:=chain_all (u:=u) (v:=v) (k:=k) (P:=A) (a+1) (fun i hi => ia i (by omega)) (fun i hi => ta i (by omega))
 have cb:=chain_all (u:=-u) (v:=-v) (k:=-k) (P:=B) (b+1) (fun i hi => by have:=ib i (by omega);rw [neg_af,neg_af];omega) (fun i hi => tb i (by omega))
 have ga:=grows_all (g:=fun i => af u v k (A i)) ia
 have gb:=grows_all (g:=fun i => -(af u v k (B i))) (a:=b) (fun i hi => by have:=ib i hi;omega)
 have side:∀ l,l≤a→l ≠ i→l ≠ i+1→0 < cr (A i) (A (i+1)) (A l):=fun l hl h1 h2 => by
  by_cases h:l < i
  ·rw [← cr_rot]
   exact ca l i (i+1) h (by omega) (by omega)
  ·exact ca i (i+1) l (by omega) (by omega) (by omega)
 refine ⟨side,fun j h1 h2 => ?_⟩
 have m0:0≤cr (A i) (A (i+1)) (A 0):=by
  by_cases e:i=0
  ·rw [e,cr_self];exact Int.le_refl _
  ·exact Int.le_of_lt (side 0 (by omega) (by omega) (by omega))
 have m1:0≤cr (A i) (A (i+1)) (A a):=by
  by_cases e:i+1=a
  ·rw [← e,cr_self'];exact Int.le_refl _
  ·exact Int.le_of_lt (side a (by omega) (by omega) (by omega))
 have c:0 < cr (A 0) (A a) (B j):=by
  have:=cb 0 j b h1 h2 (by omega)
  rw [e2,← e1] at this
  rw [cr_rot]
  exact this
 have f0:=ga 0 a (by omega) (Nat.le_refl _)
 have f1:=gb 0 j h1 (by omega)
 have f2:=gb j b h2 (Nat.le_refl _)
 rw [e2] at f2
 rw [← e1] at f1
 exact sep f0 (by omega) (by omega) (ia i hi) m0 m1 c
def Rise (p:List Pt) (i:Nat):Prop:=ls (at' p i) (at' p ((i+1) % p.length))
instance (p:List Pt) (i:Nat):Decidable (Rise p i):=by unfold Rise ls;infer_instance
def Goes (p:List Pt):Prop:=∀ i,i < p.length→0 < cr (at' p (pv p.length i)) (at' p i) (at' p ((i+1) % p.length))∧(Rise p i→i=0∨Rise p (i - 1))
theorem pv_succ {n i:Nat} (h:i+1 < n):pv n (i+1)=i:=by
 unfold pv
 rw [show i+1+(n - 1)=i+n by omega,Nat.add_mod_right,Nat.mod_eq_of_lt (by omega)]
theorem goes_cvx {p:List Pt} (h3:3≤p.length) (hp:Plcs p) (h:Goes p):(∀ i,1≤i→i < p.length→ls (at' p 0) (at' p i))∧Cvx p.length (at' p):=by
 obtain ⟨n,hn⟩:∃ n,p.length=n:=⟨_,rfl⟩
 unfold Goes at h
 have hR:∀ i,Rise p i↔ls (at' p i) (at' p ((i+1) % p.length)):=fun i => Iff.rfl
 rw [hn] at h3 h hR ⊢
 have hpl:∀ i,i < n→Plc (at' p i):=fun i hi => hp i (by omega)
 have hpl':∀ i,Plc (at' p (i % n)):=fun i => hpl _ (Nat.mod_lt _ (by omega))
 have up:∀ i,i < n→Rise p i→af 1000001 1 0 (at' p i) < af 1000001 1 0 (at' p ((i+1) % n)):=fun i hi hr => (ls_steep (hpl i hi) (hpl' _)).1 ((hR i).1 hr)
 have dn:∀ i,i < n→¬ Rise p i→af 1000001 1 0 (at' p ((i+1) % n)) < af 1000001 1 0 (at' p i):=fun i hi hr => by
  rcases ls_total (at' p i) (at' p ((i+1) % n)) with e | e | e
  ·exact absurd ((hR i).2 e) hr
  ·have:=(h i hi).1
   rw [← e,cr_self'] at this
   omega
  ·exact (ls_steep (hpl' _) (hpl i hi)).1 e
 have pre:∀ j,j < n→Rise p j→∀ i,i≤j→Rise p i:=by
  intro j
  induction j with
  | zero => intro _ hr i hi;obtain rfl:i=0:=by omega
            exact hr
  | succ j ih =>
    intro hj hr i hi
    by_cases e:i=j+1
    ·rw [e];exact hr
    ·exact ih (by omega) (((h _ hj).2 hr).resolve_left (by omega)) i (by omega)
 have cut:∀ m,m≤n→∃ r,r≤m∧(∀ i,i < r→Rise p i)∧∀ i,r≤i→i < m→¬ Rise p i:=by
  intro m
  induction m with
  | zero => intro _;exact ⟨0,Nat.le_refl _,fun i hi => by omega,fun i h1 h2 => by omega⟩
  | succ m ih =>
    intro hm
    obtain ⟨r,h1,h2,h4⟩:=ih (by omega)
    by_cases hr:Rise p m
    ·exact ⟨m+1,Nat.le_refl _,fun i hi => pre m (by omega) hr i (by omega),fun i h1 h2 => by omega⟩
    ·refine ⟨r,by omega,h2,fun i h5 h6 => ?_⟩
     by_cases e:i=m
     ·rw [e];exact hr
     ·exact h4 i h5 (by omega)
 obtain ⟨r,hrn,hup,hdn⟩:=cut n (Nat.le_refl _)
 have r0:1≤r:=by
  by_cases e:1≤r
  ·exact e
  ·exfalso
   have hr0:r=0:=by omega
   have g:=grows_all (g:=fun i => -(af 1000001 1 0 (at' p (i % n)))) (a:=n) (fun i hi => by
    have:=dn i hi (hdn i (by omega) hi)
    rw [Nat.mod_eq_of_lt hi]
    omega) 0 n (by omega) (Nat.le_refl _)
   simp only [Nat.mod_self,Nat.zero_mod] at g
   omega
 have r1:r < n:=by
  by_cases e:r < n
  ·exact e
  ·exfalso
   have g:=grows_all (g:=fun i => af 1000001 1 0 (at' p (i % n))) (a:=n) (fun i hi => by
    have:=up i hi (hup i (by omega))
    rw [Nat.mod_eq_of_lt hi]
    omega) 0 n (by omega) (Nat.le_refl _)
   simp only [Nat.mod_self,Nat.zero_mod] at g
   omega
 have ia:∀ i,i < r→af 1000001 1 0 (at' p i) < af 1000001 1 0 (at' p (i+1)):=fun i hi => by
  have:=up i (by omega) (hup i hi)
  rwa [Nat.mod_eq_of_lt (show i+1 < n by omega)] at this
 have ta:∀ i,i+2≤r→0 < cr (at' p i) (at' p (i+1)) (at' p (i+2)):=fun i hi => by
  have:=(h (i+1) (by omega)).1
  rwa [pv_succ (by omega),Nat.mod_eq_of_lt (show i+1+1 < n by omega)] at this
 obtain ⟨B,hB⟩:∃ B:Nat→Pt,B=fun j => at' p ((r+j) % n):=⟨_,rfl⟩
 have eB:∀ j,r+j < n→B j=at' p (r+j):=fun j hj => by rw [hB];simp only;rw [Nat.mod_eq_of_lt hj]
 have eB':∀ j,B (j+1)=at' p ((r+j+1) % n):=fun j => by rw [hB];simp only;rw [Nat.add_assoc]
 have ib:∀ j,j < n - r→af 1000001 1 0 (B (j+1)) < af 1000001 1 0 (B j):=fun j hj => by
  have:=dn (r+j) (by omega) (hdn _ (by omega) (by omega))
  rw [eB j (by omega),eB']
  exact this
 have tb:∀ j,j+2≤n - r→0 < cr (B j) (B (j+1)) (B (j+2)):=fun j hj => by
  have:=(h (r+j+1) (by omega)).1
  rw [pv_succ (by omega)] at this
  rw [eB j (by omega),eB (j+1) (by omega),eB' (j+1)]
  exact this
 have e1:at' p r=B 0:=(eB 0 (by omega)).symm
 have e2:B (n - r)=at' p 0:=by
  rw [hB];simp only;rw [show r+(n - r)=n by omega,Nat.mod_self]
 have sa:=fun i hi => chains_left ia ta ib tb e1 e2 (i:=i) hi
 have sb:=fun i hi => chains_left (u:=-1000001) (v:=-1) (k:=-0) (A:=B) (B:=at' p) (a:=n - r) (b:=r) (fun j hj => by have:=ib j hj;rw [neg_af,neg_af];omega) tb
  (fun j hj => by have:=ia j hj;rw [neg_af,neg_af];omega) ta e2 e1 (i:=i) hi
 have ga:=grows_all (g:=fun i => af 1000001 1 0 (at' p i)) ia
 have gb:=grows_all (g:=fun i => -(af 1000001 1 0 (B i))) (a:=n - r) (fun i hi => by have:=ib i hi;omega)
 constructor
 ·intro i h1 h2
  refine (ls_steep (hpl 0 (by omega)) (hpl i h2)).2 ?_
  by_cases e:i≤r
  ·exact ga 0 i (by omega) e
  ·have:=gb (i - r) (n - r) (by omega) (Nat.le_refl _)
   rw [e2,eB (i - r) (by omega),show r+(i - r)=i by omega] at this
   omega
 ·intro i k hi hk hki hkn
  by_cases e:i < r
  ·rw [Nat.mod_eq_of_lt (show i+1 < n by omega)] at hkn ⊢
   obtain ⟨s1,s2⟩:=sa i e
   by_cases ek:k≤r
   ·exact s1 k ek hki hkn
   ·have:=s2 (k - r) (by omega) (by omega)
    rwa [eB (k - r) (by omega),show r+(k - r)=k by omega] at this
  ·obtain ⟨j,rfl⟩:∃ j,i=r+j:=⟨i - r,by omega⟩
   obtain ⟨s1,s2⟩:=sb j (by omega)
   rw [← eB j (by omega),← eB']
   by_cases ek:k=0
   ·rw [ek,← e2]
    refine s1 (n - r) (Nat.le_refl _) (by omega) (fun h => ?_)
    apply hkn
    rw [ek,show r+j+1=n by omega,Nat.mod_self]
   ·by_cases el:k < r
    ·exact s2 k (by omega) el
    ·have:=s1 (k - r) (by omega) (by omega) (fun h => by
      apply hkn
      rw [Nat.mod_eq_of_lt (by omega)]
      omega)
     rwa [eB (k - r) (by omega),show r+(k - r)=k by omega] at this
theorem cvx_goes {p:List Pt} (h3:3≤p.length) (hp:Plcs p) (h0:∀ i,1≤i→i < p.length→ls (at' p 0) (at' p i)) (hc:Cvx p.length (at' p)):Goes p:=by
 intro i hi
 refine ⟨turn hc h3 hi,fun hr => ?_⟩
 by_cases e:i=0
 ·exact Or.inl e
 ·refine Or.inr ?_
  obtain ⟨j,rfl⟩:∃ j,i=j+1:=⟨i - 1,by omega⟩
  rw [Nat.add_sub_cancel]
  by_cases hj:Rise p j
  ·exact hj
  ·exfalso
   have t:=turn hc h3 hi
   rw [pv_succ hi] at t
   have p0:=hp 0 (by omega)
   have pj:=hp j (by omega)
   have pi:=hp (j+1) hi
   have pn:=hp ((j+1+1) % p.length) (Nat.mod_lt _ (by omega))
   have f0:=(ls_steep p0 pi).1 (h0 (j+1) (by omega) hi)
   have f2:=(ls_steep pi pn).1 hr
   have f1:af 1000001 1 0 (at' p (j+1))≤af 1000001 1 0 (at' p j):=by
    unfold Rise at hj
    rw [Nat.mod_eq_of_lt hi] at hj
    have:¬ af 1000001 1 0 (at' p j) < af 1000001 1 0 (at' p (j+1)):=fun h => hj ((ls_steep pj pi).2 h)
    omega
   have c:=cone 1000001 1 0 (at' p j) (at' p (j+1)) (at' p ((j+1+1) % p.length)) (at' p 0)
   have c1:0≤cr (at' p j) (at' p (j+1)) (at' p 0):=by
    by_cases e0:j=0
    ·rw [e0,cr_self];exact Int.le_refl _
    ·have:=hc j 0 (by omega) (by omega) (by omega) (by rw [Nat.mod_eq_of_lt hi];omega)
     rw [Nat.mod_eq_of_lt hi] at this
     omega
   have c2:0≤cr (at' p (j+1)) (at' p ((j+1+1) % p.length)) (at' p 0):=by
    by_cases e0:0=(j+1+1) % p.length
    ·rw [← e0,cr_self'];exact Int.le_refl _
    ·have:=hc (j+1) 0 hi (by omega) (by omega) e0
     omega
   have m1:=Int.mul_nonneg c1 (show 0≤af 1000001 1 0 (at' p ((j+1+1) % p.length)) - af 1000001 1 0 (at' p (j+1)) by omega)
   have m2:=Int.mul_nonneg c2 (show 0≤af 1000001 1 0 (at' p j) - af 1000001 1 0 (at' p (j+1)) by omega)
   have m3:=Int.mul_pos t (show 0 < -(af 1000001 1 0 (at' p 0) - af 1000001 1 0 (at' p (j+1))) by omega)
   rw [Int.mul_neg,c] at m3
   omega
end Hl
end Go.Proofs.YtbpgfenippiepaaGreatDoor
namespace Go.Proofs.YtbpgfenippiepaaGreatDoor
open Go.RowKit Go.Shelf Go.Sort
namespace Hl
theorem new_block (w:World) (cs:Array Value) (t:TypeId):(w.drew.alloc (.cells cs t)).heap[w.heap.size]? = some (.cells cs t (0,0)):=by
 show (w.heap.push _)[w.heap.size]? = _
 rw [Array.getElem?_push_size]
theorem grow_c (N:Nat) (w:World) (h1:1≤N) (hN:N≤4000000) :
  Calls Tryz.prog 206 #[.slice none 0 0,.int .i64 N] w fun e w' => ∃ sa sc,e=.returned (.slice sa 0 sc)∧Own w.heap.size w' (.slice sa 0 sc) []∧Grew w w':=by
 obtain ⟨i0,hi,hz0,hz1,hz2⟩:=info_parts info_pt
 have h:=Any8.slices_Grow_grow growP i0 (.agg #[.int .i64 0,.int .i64 0]) hi hz0 (by omega) none 0 0 N [] w (Nat.le_refl _) (by omega) (by rw [hz2];omega) (by omega) (by simp) (fun _ => rfl) (fun a h => by cases h)
 refine h.mono ?_
 rintro e w' ⟨rfl,rfl⟩
 have hG:=grownCap_ge w (0+N) 0 24
 have hM:=grownCap_le_maxLen w (0+N) 0 24 (by unfold maxLen;omega)
 have hz:(growP_ren.t 25) = 24:=rfl
 rw [hz]
 refine ⟨_,_,rfl,own_at.1 ⟨Nat.le_refl _,Nat.zero_le _,hM,_,new_block _ _ _,?_,fun i hi => absurd hi (Nat.not_lt_zero _)⟩,((Grew.refl w).drew).alloc _ _⟩
 rw [Array.size_append,Array.size_append,size_zeroCells,size_zeroCells]
 show 0+(0+N - 0) * 2+(grownCap w (0+N) 0 24 - (0+N)) * 2=_
 omega
theorem rev_c (l:List Pt) (B g cap:Nat) (w:World) (ho:OwnAt B w g cap l) (hl:l.length≤4000000) :
  Calls Tryz.prog 183 #[.slice (some ⟨g,0,none⟩) l.length cap] w fun e w' => e=.returned (.tuple #[])∧OwnAt B w' g cap l.reverse∧w.grownBy w' (some g):=by
 have hH:HoldsK encP 2 w g 0 l.toArray:=by
  unfold HoldsK
  rw [flat_cells]
  exact ho.holds
 have h:=AnyQ.slices_Reverse reverseP 2 (fun w => Tryz.isAgg24 w) (fun w => Tryz.sizeOf24 w) encP (fun _ => rfl) (fun x v hv => by simp [encP] at hv;rcases hv with rfl | rfl <;> rfl) g 0 cap l.toArray w hH (by simp;omega)
 refine h.mono ?_
 rintro e w' ⟨rfl,n,rfl⟩
 refine ⟨rfl,?_,?_⟩
 ·have:=ho.put (n:=n) (os:=#[]) (q:=l.reverse) List.length_reverse
  unfold putRowK
  rw [flat_cells]
  simpa using this
 ·have:=grownBy_put w g n #[] (cellsOf l.reverse).toArray
  unfold putRowK
  rw [flat_cells]
  simpa using this
end Hl
end Go.Proofs.YtbpgfenippiepaaGreatDoor
namespace Go.Proofs.YtbpgfenippiepaaGreatDoor
open Go.RowKit Go.Shelf
namespace Hl
theorem Own.mono {B B':Nat} {w:World} {v:Value} {p:List Pt} (h:Own B w v p) (hb:B'≤B):Own B' w v p:=by
 refine ⟨h.1,?_⟩
 rcases h.2 with h | ⟨g,cap,cur,e,h1,h2⟩
 ·exact Or.inl h
 ·exact Or.inr ⟨g,cap,cur,e,Nat.le_trans hb h1,h2⟩
set_option maxRecDepth 100000 in
set_option maxHeartbeats 4000000 in
theorem concat_c (b g1 g2 c1 c2:Nat) (S T:List Pt) (w:World) (hb:Blk w b #[.slice (some ⟨g1,0,none⟩) S.length c1,.slice (some ⟨g2,0,none⟩) T.length c2] 191) (hS:Row w g1 0 S) (hT:Row w g2 0 T)
  (h1:1≤S.length) (h2:S.length≤1000000) (h3:T.length≤1000000) :
  Calls Tryz.prog 184 #[.slice (some ⟨b,0,none⟩) 2 2] w fun e w' => ∃ v,e=.returned v∧Own w.heap.size w' v (S ++ T)∧Grew w w':=by
 have HS:=Lib.hid hS
 have HT:=Lib.hid hT
 have HB:=Lib.hid hb
 obtain ⟨⟨x0,x1⟩,_,_⟩:=hb.two
 have GC:Hid (∀ W,Grew w W→Calls Tryz.prog 206 #[.slice none 0 0,.int .i64 ((S.length:Int)+(T.length:Int))] W fun e w' => ∃ sa sc,e=.returned (.slice sa 0 sc)∧Hid (Own w.heap.size w' (.slice sa 0 sc) []∧Grew w w')):=Lib.hid (fun W g => by
  have h:=grow_c (S.length+T.length) W (by omega) (by omega)
  rw [Int.natCast_add] at h
  refine h.mono ?_
  rintro e w' ⟨sa,sc,he,ho,hg⟩
  exact ⟨sa,sc,he,Lib.hid ⟨ho.mono g.size,g.trans hg⟩⟩)
 have W1:IntKind.i64.wrap (S.length:Int)=(S.length:Int):=IntWalk.i64_in _ ⟨by omega,by omega⟩
 have W2:IntKind.i64.wrap ((S.length:Int)+(T.length:Int))=(S.length:Int)+(T.length:Int):=IntWalk.i64_in _ ⟨by omega,by omega⟩
 have n1:¬ ((S.length:Int) < 0):=by omega
 have n2:¬ ((S.length:Int)+(T.length:Int) < 0):=by omega
 clear hb hS hT
 go_enter Tryz.func184,Tryz.ntmps184
 go_wp2_with fail
 go_loopw [3,11] (fun s i wr => w=wr∧((i=.int .i64 0∧s=.int .i64 0)∨(i=.int .i64 1∧s=.int .i64 S.length)∨(i=.int .i64 2∧s=.int .i64 ((S.length:Int)+(T.length:Int))))) (fun _ i _ => 2 - (intOf i).toNat)
 case atStart => exact ⟨rfl,Or.inl ⟨rfl,rfl⟩⟩
 case round =>
  obtain ⟨rfl,hk⟩:=hrel
  rcases hk with ⟨rfl,rfl⟩ | ⟨rfl,rfl⟩ | ⟨rfl,rfl⟩
  ·go_wp2_with fail
   exact ⟨⟨trivial,Or.inr (Or.inl ⟨rfl,rfl⟩)⟩,by simp [intOf]⟩
  ·go_wp2_with fail
   exact ⟨⟨trivial,Or.inr (Or.inr ⟨rfl,rfl⟩)⟩,by simp [intOf]⟩
  ·go_wp2_with (first | (go_at_call 206;refine (GC.out _ (Grew.refl _)).mono ?_;rintro e w' ⟨sa,sc,rfl,hn⟩))
   clear x0 x1
   go_loopw [6,27] (fun v i wz => ((i=.int .i64 0∧Own w.heap.size wz v [])∨(i=.int .i64 1∧Own w.heap.size wz v S)∨(i=.int .i64 2∧Own w.heap.size wz v (S ++ T)))∧Grew w wz) (fun _ i _ => 2 - (intOf i).toNat)
   case atStart => exact ⟨Or.inl ⟨rfl,hn.out.1⟩,hn.out.2⟩
   case round =>
    clear hn GC
    obtain ⟨hk,hG⟩:=hrel
    have HG:=Lib.hid hG
    obtain ⟨⟨x0,x1⟩,y0,y1⟩:=(HB.out.grown hG).two
    clear hG
    rcases hk with ⟨rfl,hO⟩ | ⟨rfl,hO⟩ | ⟨rfl,hO⟩
    ·obtain ⟨oa,oc,rfl⟩:=hO.sl.shape
     have HO:=Lib.hid hO
     clear hO
     go_wp2_with (at_builtin;go_must (refine append_T _ rfl _ _ 191 Tryz.underlying191 rfl w.heap.size _ ([]) (S) _ 0 _ rfl HO.out rfl (HS.out.grown HG.out) (by simp;omega) HG.out.size ?_;intro v' w' own' gr';have GG':=Lib.hid (HG.out.grown gr' (fun k hk => HO.out.block k hk));have OWN':=Lib.hid own';obtain ⟨sa',sc',rfl⟩:=own'.sl.shape;clear own' gr'))
     exact ⟨⟨Or.inr (Or.inl ⟨rfl,OWN'.out⟩),GG'.out⟩,by simp [intOf]⟩
    ·obtain ⟨oa,oc,rfl⟩:=hO.sl.shape
     have HO:=Lib.hid hO
     clear hO
     go_wp2_with (at_builtin;go_must (refine append_T _ rfl _ _ 191 Tryz.underlying191 rfl w.heap.size _ (S) (T) _ 0 _ rfl HO.out rfl (HT.out.grown HG.out) (by omega) HG.out.size ?_;intro v' w' own' gr';have GG':=Lib.hid (HG.out.grown gr' (fun k hk => HO.out.block k hk));have OWN':=Lib.hid own';obtain ⟨sa',sc',rfl⟩:=own'.sl.shape;clear own' gr'))
     exact ⟨⟨Or.inr (Or.inr ⟨rfl,by have h:=OWN'.out;rwa [List.length_append] at h⟩),GG'.out⟩,by simp [intOf]⟩
    ·obtain ⟨oa,oc,rfl⟩:=hO.sl.shape
     have HO:=Lib.hid hO
     clear hO
     go_wp2_with fail
     go_ret
     exact ⟨_,rfl,HO.out,HG.out⟩
end Hl
end Go.Proofs.YtbpgfenippiepaaGreatDoor
namespace Go.Proofs.YtbpgfenippiepaaGreatDoor
open Go.RowKit Go.Shelf
namespace Hl
theorem cho_chain (u v k:Int) (q:List Pt) (hinc:∀ i j,i < j→j < q.length→af u v k (at' q i) < af u v k (at' q j)):∀ n,1≤n→n≤q.length→Chain u v k (fun y => ∃ j,j < n∧at' q j=y) (cho q n)∧at' (cho q n) ((cho q n).length - 1)=at' q (n - 1):=by
 intro n
 induction n with
 | zero => intro h;omega
 | succ n ih =>
   intro _ hn
   have hlast:at' (cho q (n+1)) ((cho q (n+1)).length - 1)=at' q (n+1 - 1):=(pushP_len (at' q n) _ (cho q n) rfl).2.2
   refine ⟨?_,hlast⟩
   by_cases h0:n=0
   ·subst h0
    have e:cho q (0+1)=[at' q 0]:=rfl
    have ef:(fun y => ∃ j,j < 0+1∧at' q j=y)=(fun y => y=at' q 0):=funext fun y => propext ⟨fun ⟨j,hj,e⟩ => by
     obtain rfl:j=0:=by omega
     exact e.symm,fun h => ⟨0,by omega,h.symm⟩⟩
    rw [e,ef]
    exact Chain.one
   ·obtain ⟨hc,hl⟩:=ih (by omega) (by omega)
    have ef:(fun y => ∃ j,j < n+1∧at' q j=y)=(fun y => (∃ j,j < n∧at' q j=y)∨y=at' q n):=funext fun y => propext ⟨fun ⟨j,hj,e⟩ => by
     by_cases ej:j=n
     ·subst ej;exact Or.inr e.symm
     ·exact Or.inl ⟨j,by omega,e⟩,fun h => by
     rcases h with ⟨j,hj,e⟩ | h
     ·exact ⟨j,by omega,e⟩
     ·exact ⟨n,by omega,h.symm⟩⟩
    rw [ef]
    refine Pend.pushP _ (cho q n) rfl (hc.pend ?_ ?_)
    ·rintro y ⟨j,hj,rfl⟩
     exact hinc j n hj (by omega)
    ·rintro y ⟨j,hj,rfl⟩ hle
     rw [hl] at hle ⊢
     by_cases ej:j=n - 1
     ·rw [ej]
     ·have:=hinc j (n - 1) (by omega) (by omega)
      omega
theorem cho_all (u v k:Int) (q:List Pt) (hinc:∀ i j,i < j→j < q.length→af u v k (at' q i) < af u v k (at' q j)) (h2:2≤q.length) :
  Chain u v k (fun y => y ∈ q) (cho q q.length)∧at' (cho q q.length) ((cho q q.length).length - 1)=at' q (q.length - 1)∧at' (cho q q.length) 0=at' q 0∧2≤(cho q q.length).length:=by
 obtain ⟨hc,hl⟩:=cho_chain u v k q hinc q.length (by omega) (Nat.le_refl _)
 have ef:(fun y => ∃ j,j < q.length∧at' q j=y)=(fun y => y ∈ q):=funext fun y => propext ⟨fun ⟨j,hj,e⟩ => by rw [← e];exact at_mem hj,fun h => mem_at h⟩
 rw [ef] at hc
 have h0:at' (cho q q.length) 0=at' q 0:=by
  obtain ⟨j,hj,e⟩:=mem_at (hc.mem 0 hc.some')
  by_cases ej:j=0
  ·rw [← e,ej]
  ·have h1:=hc.low _ (at_mem (show 0 < q.length by omega))
   have h3:=hinc 0 j (by omega) hj
   rw [e] at h3
   omega
 refine ⟨hc,hl,h0,?_⟩
 have hs:=hc.some'
 by_cases h1:(cho q q.length).length=1
 ·rw [h1,Nat.sub_self,h0] at hl
  have:=hinc 0 (q.length - 1) (by omega) (by omega)
  rw [hl] at this
  omega
 ·omega
theorem at_rev {q:List Pt} {i:Nat} (h:i < q.length):at' q.reverse i=at' q (q.length - 1 - i):=by
 unfold at'
 rw [List.getD_eq_getElem?_getD,List.getD_eq_getElem?_getD,List.getElem?_reverse h]
theorem corners_hull {l q:List Pt} (hp:Plcs q) (hs:∀ i,i+1 < q.length→ls (at' q i) (at' q (i+1))) (h2:2≤q.length) (hm:∀ x,x ∈ q↔x ∈ l) :
  2≤(cho q q.length).length∧2≤(cho q.reverse q.reverse.length).length∧IsHull l ((cho q q.length).take ((cho q q.length).length - 1) ++ (cho q.reverse q.reverse.length).take ((cho q.reverse q.reverse.length).length - 1)):=by
 have inc:∀ i j,i < j→j < q.length→af 1000001 1 0 (at' q i) < af 1000001 1 0 (at' q j):=inc_all (fun i hi => (ls_steep (hp i (by omega)) (hp (i+1) hi)).1 (hs i hi))
 obtain ⟨a1,a2,a3,a4⟩:=cho_all 1000001 1 0 q inc h2
 have hrl:q.reverse.length=q.length:=List.length_reverse
 obtain ⟨b1,b2,b3,b4⟩:=cho_all (-1000001) (-1) (-0) q.reverse (fun i j hij hj => by
  rw [hrl] at hj
  rw [neg_af,neg_af,at_rev hj,at_rev (by omega)]
  have:=inc (q.length - 1 - j) (q.length - 1 - i) (by omega) (by omega)
  omega) (by omega)
 have ef:(fun y => y ∈ q.reverse)=(fun y => y ∈ q):=funext fun y => propext List.mem_reverse
 rw [ef] at b1
 refine ⟨a4,b4,?_⟩
 obtain ⟨g1,g2,g3⟩:=two_chains a1 b1 a4 b4 (by rw [a2,b3,at_rev (by omega)];rfl) (by rw [b2,a3,hrl,at_rev (by omega)];congr 1;omega)
  (fun y z hy hz h => by
   obtain ⟨i,hi,rfl⟩:=mem_at hy
   obtain ⟨j,hj,rfl⟩:=mem_at hz
   exact (ls_steep (hp i hi) (hp j hj)).2 h)
 exact ⟨g1,fun x hx => (hm x).1 (g2 x hx),fun x hx => g3 x ((hm x).2 hx)⟩
theorem one_hull {l q:List Pt} (h1:q.length=1) (hm:∀ x,x ∈ q↔x ∈ l):IsHull l q :=
 ⟨⟨by omega,fun i h h' => by omega,fun h => by omega⟩,fun x hx => (hm x).1 hx,fun x hx => (hs1 h1).2 (by
  obtain ⟨i,hi,e⟩:=mem_at ((hm x).2 hx)
  obtain rfl:i=0:=by omega
  exact e)⟩
end Hl
end Go.Proofs.YtbpgfenippiepaaGreatDoor
namespace Go.Proofs.YtbpgfenippiepaaGreatDoor
open Go.RowKit Go.Shelf
namespace Hl
theorem Leaves.ownAt {B C D g cap:Nat} {w w':World} {p:List Pt} (h:Leaves B C w w') (ho:OwnAt D w g cap p) (hg:g < B) (hc:g ≠ C):OwnAt D w' g cap p:=by
 obtain ⟨h1,h2,h3,cur,h4,h5,h6⟩:=ho
 exact ⟨h1,h2,h3,cur,(h.block g hg hc).trans h4,h5,h6⟩
theorem Blk.newD (w:World) (cs:Array Value) (t:TypeId):Blk (w.alloc (.cells cs t)).drew w.heap.size cs t:=Blk.new w cs t
def CornSays (l:List Pt) (w:World) (e:Ending) (w':World):Prop:=∃ v q,e=.returned v∧IsHull l q∧Own w.heap.size w' v q∧Grew w w'
set_option maxRecDepth 100000 in
set_option maxHeartbeats 4000000 in
theorem corners_c (l:List Pt) (b o c:Nat) (w:World) (hr:Row w b o l) (hp:Plcs l) (h1:1≤l.length) (hl:l.length≤1000000) :
  Calls Tryz.prog 140 #[.slice (some ⟨b,o,none⟩) l.length c] w (CornSays l w):=by
 have SC:=Lib.hid (sorted_c l b o c w hr hp h1 (by omega))
 have PL:=Lib.hid hp
 clear hr hp
 go_enter Tryz.func140,Tryz.ntmps140
 go_wp2_with fail
 refine SC.out.mono ?_
 rintro e w1 ⟨g,cap,q,rfl,ho,q1,ql,hmem,hls,hgr⟩
 have PQ:Hid (Plcs q):=Lib.hid (plcs_of (fun x hx => mem_plc PL.out ((hmem x).1 hx)))
 have MEM:=Lib.hid hmem
 have LS:=Lib.hid hls
 have HO:=Lib.hid ho
 have HG:=Lib.hid hgr
 have gl:=ho.lt
 have gw:=ho.1
 have hz1:=hgr.size
 clear SC hmem hls ho hgr
 by_cases hq:q.length=1
 ·rw [hq]
  go_wp2_with fail
  go_ret
  exact ⟨_,q,rfl,one_hull hq MEM.out,by have:=own_at.1 HO.out;rwa [hq] at this,HG.out⟩
 ·have hq':¬ ((q.length:Int)=1):=by omega
  have C0:Hid (Blk ((w1.alloc (.cells #[.slice none 0 0] 191)).alloc (.cells #[.slice none 0 0] 191)) w1.heap.size #[.slice none 0 0] 191):=Lib.hid ((Blk.new w1 _ _).alloc _)
  have C1:Hid (Blk ((w1.alloc (.cells #[.slice none 0 0] 191)).alloc (.cells #[.slice none 0 0] 191)) (w1.heap.size+1) #[.slice none 0 0] 191):=Lib.hid (by
   have h:=Blk.new (w1.alloc (.cells #[.slice none 0 0] 191)) #[.slice none 0 0] 191
   rwa [World.size_alloc] at h)
  have GW:Hid (Grew w1 ((w1.alloc (.cells #[.slice none 0 0] 191)).alloc (.cells #[.slice none 0 0] 191))):=Lib.hid (((Grew.refl w1).alloc _ _).alloc _ _)
  have hsz:((w1.alloc (.cells #[.slice none 0 0] 191)).alloc (.cells #[.slice none 0 0] 191)).heap.size=w1.heap.size+1+1:=by simp
  have HA:=Lib.hid (hand_c (w1.heap.size+1+1) w1.heap.size g 0 cap q ((w1.alloc (.cells #[.slice none 0 0] 191)).alloc (.cells #[.slice none 0 0] 191)) (HO.out.row.grown GW.out) (by omega) (by omega) C0.out (by omega) (by omega) PQ.out (by omega))
  go_wp2_with fail
  refine HA.out.mono ?_
  rintro e w2 ⟨rfl,v1,o1,b1,lv1⟩
  have A2:Hid (OwnAt w.heap.size w2 g cap q):=Lib.hid (lv1.ownAt (HO.out.grew GW.out) (by omega) (by omega))
  have O1:=Lib.hid o1
  have B1:=Lib.hid b1
  have B2:Hid (Blk w2 (w1.heap.size+1) #[.slice none 0 0] 191):=Lib.hid (lv1.blk C1.out (by omega) (by omega))
  have G2:Hid (Grew w w2):=Lib.hid (lv1.toGrew (HG.out.trans GW.out) (by omega) (by omega))
  have hz2:=lv1.size
  rw [hsz] at hz2
  clear HA C0 C1 GW HO HG o1 b1 lv1 hsz
  go_wp2_with fail
  refine (rev_c q w.heap.size g cap w2 A2.out (by omega)).mono ?_
  rintro e w3 ⟨rfl,o3,g3⟩
  have A3:=Lib.hid o3
  have O3:Hid (Own (w1.heap.size+1+1) w3 v1 (cho q q.length)):=Lib.hid (O1.out.keeps g3 (Or.inr (fun e => by have:=O1.out.block _ e;omega)))
  have B3:Hid (Blk w3 w1.heap.size #[v1] 191):=Lib.hid (B1.out.kept g3 (fun e => by cases e;omega))
  have D3:Hid (Blk w3 (w1.heap.size+1) #[.slice none 0 0] 191):=Lib.hid (B2.out.kept g3 (fun e => by cases e;omega))
  have G3:Hid (Grew w w3):=Lib.hid (G2.out.grown g3 (fun k hk => by cases hk;exact gw))
  have hz3:=g3.size
  clear A2 O1 B1 B2 G2 o3 g3
  have hrl:q.reverse.length=q.length:=List.length_reverse
  have HA:=Lib.hid (hand_c w3.heap.size (w1.heap.size+1) g 0 cap q.reverse w3 A3.out.row (by omega) (by omega) D3.out (by omega) (Nat.le_refl _) (plcs_of (fun x hx => mem_plc PQ.out (List.mem_reverse.1 hx))) (by omega))
  rw [hrl] at HA
  go_wp2_with fail
  refine HA.out.mono ?_
  rintro e w4 ⟨rfl,v2,o4,b4,lv4⟩
  rw [hrl] at o4
  have hz4:=lv4.size
  obtain ⟨s2,t2,HUL⟩:=corners_hull PQ.out LS.out (by omega) MEM.out
  rw [hrl] at t2 HUL
  have HUL:=Lib.hid HUL
  have ne1:cho q q.length ≠ []:=fun e => by rw [e] at s2;simp at s2
  have ne2:cho q.reverse q.length ≠ []:=fun e => by rw [e] at t2;simp at t2
  have ls:=cho_len q q.length
  have lt:=cho_len q.reverse q.length
  generalize cho q q.length=S at *
  generalize cho q.reverse q.length=T at *
  obtain ⟨g1,c1,rfl,a1⟩:=O3.out.at ne1
  obtain ⟨g2,c2,rfl,a2⟩:=o4.at ne2
  have a1:=lv4.ownAt a1 a1.lt (by have:=a1.1;omega)
  have B4:=lv4.blk B3.out (by omega) (by omega)
  have G4:=lv4.toGrew G3.out (by omega) (by omega)
  have R1:=Lib.hid (a1.take (S.length - 1)).row
  have R2:=Lib.hid (a2.take (T.length - 1)).row
  obtain ⟨m,hm⟩:∃ m,S.length=m:=⟨_,rfl⟩
  obtain ⟨n,hn⟩:∃ n,T.length=n:=⟨_,rfl⟩
  obtain ⟨k,hk⟩:∃ k,S.length - 1=k:=⟨_,rfl⟩
  obtain ⟨j,hj⟩:∃ j,T.length - 1=j:=⟨_,rfl⟩
  rw [hk] at R1 HUL
  rw [hj] at R2 HUL
  have e1:(S.take k).length=k:=by rw [List.length_take];omega
  have e2:(T.take j).length=j:=by rw [List.length_take];omega
  have CC:Hid (∀ W x,Grew w4 W→Blk W x #[.slice (some ⟨g1,0,none⟩) k c1,.slice (some ⟨g2,0,none⟩) j c2] 191→Calls Tryz.prog 184 #[.slice (some ⟨x,0,none⟩) 2 2] W fun e w' => ∃ v,e=.returned v∧Hid (CornSays l w (.returned v) w'∧Grew w4 w')):=Lib.hid (fun W x g hb => by
   have h:=concat_c x g1 g2 c1 c2 (S.take k) (T.take j) W (by rw [e1,e2];exact hb) (R1.out.grown g) (R2.out.grown g) (by omega) (by omega) (by omega)
   refine h.mono ?_
   rintro e w' ⟨v,rfl,h1,h2⟩
   exact ⟨v,rfl,Lib.hid ⟨⟨v,_,rfl,HUL.out,h1.mono (G4.trans g).size,(G4.trans g).trans h2⟩,g.trans h2⟩⟩)
  have i1:(0:Int)≤(k:Int):=by omega
  have i2:(0:Int)≤(j:Int):=by omega
  have i3:IntKind.i64.wrap ((m:Int) - 1)=(k:Int):=by
   rw [IntWalk.i64_in _ ⟨by omega,by omega⟩];omega
  have i4:IntKind.i64.wrap ((n:Int) - 1)=(j:Int):=by
   rw [IntWalk.i64_in _ ⟨by omega,by omega⟩];omega
  have cm1:S.length≤c1:=a1.2.1
  have cm2:T.length≤c2:=a2.2.1
  have i5:(k:Int)≤(c1:Int):=by omega
  have i6:(j:Int)≤(c2:Int):=by omega
  have i7:k≤c1:=by omega
  have i8:j≤c2:=by omega
  rw [hm] at B4
  rw [hn] at b4
  obtain ⟨x0,x1⟩:=B4.one
  obtain ⟨y0,y1⟩:=b4.one
  have lB4:=B4.lt
  have lb4:=b4.lt
  have l0:w1.heap.size < w4.heap.size+1:=by omega
  have l1:w1.heap.size+1 < w4.heap.size+1:=by omega
  clear HUL R1 R2 PL PQ MEM LS HA A3 O3 B3 D3 G3 o4 lv4 a1 a2 e1 e2
  go_wp2_with fail
  go_region_held3 (fun w' => w'.cell? ⟨w1.heap.size,0,none⟩=some (.slice (some ⟨g1,0,none⟩) m c1)∧w'.cell? ⟨w1.heap.size+1,0,none⟩=some (.slice (some ⟨g2,0,none⟩) n c2)) (simp [go_sem, *])
   ((go_at_call 184;refine (CC.out _ _ Hl.gw (Blk.newD _ _ _)).mono ?_;rintro e w' ⟨v,rfl,hfin⟩;have z0:=(hfin.out.2.cell (b:=w1.heap.size) (o:=0) lB4).trans x0;have z1:=(hfin.out.2.cell (b:=w1.heap.size+1) (o:=0) lb4).trans y0))
  go_wp2_with fail
  go_ret
  exact hfin.out.1
end Hl
end Go.Proofs.YtbpgfenippiepaaGreatDoor
namespace Go.Proofs.YtbpgfenippiepaaGreatDoor
open Go.RowKit Go.Shelf Hl
namespace Ry
def growQ_ren:Go.Shelf.Ren:=⟨fun | 4 => 137 | n => n,fun | 22 => 48 | 25 => 24 | 3 => 3 | 4 => 4 | 9 => 9 | 20 => 20 | 0 => 0 | 2 => 3 | n => n,fun | n => n⟩
theorem growQ:Go.Proofs.Lays8.n4 Tryz.prog growQ_ren:={
 mixed:=by kernel_rfl
 f4:=⟨Tryz.f137.name,by decide,Tryz.func137.trans (congrArg some (by kernel_rfl))⟩
 t0:=Tryz.underlying0
 a0:=Tryz.isAgg0
 z0:=Tryz.sizeOf0
 v0:=Tryz.zeroValue0
 t3:=Tryz.underlying3
 a3:=Tryz.isAgg3
 z3:=Tryz.sizeOf3
 v3:=Tryz.zeroValue3
 t4:=Tryz.underlying4
 a4:=Tryz.isAgg4
 z4:=Tryz.sizeOf4
 v4:=Tryz.zeroValue4
 t9:=Tryz.underlying9
 a9:=Tryz.isAgg9
 z9:=Tryz.sizeOf9
 v9:=Tryz.zeroValue9
 t20:=Tryz.underlying20
 a20:=Tryz.isAgg20
 z20:=Tryz.sizeOf20
 v20:=Tryz.zeroValue20
 t22:=Tryz.underlying48
 a22:=Tryz.isAgg48
 z22:=Tryz.sizeOf48
 v22:=Tryz.zeroValue48 }
theorem grow_any (N:Nat) (w:World) (hN:N≤4000000) :
  Calls Tryz.prog 137 #[.slice none 0 0,.int .i64 N] w fun e w' => ∃ sa sc,e=.returned (.slice sa 0 sc)∧Hl.Own w.heap.size w' (.slice sa 0 sc) []∧Grew w w':=by
 by_cases h0:N=0
 ·subst h0
  clear hN
  go_enter Tryz.func137,Tryz.ntmps137
  go_wp2_with fail
  go_ret
  exact ⟨none,0,rfl,Own.nil _ _,Grew.refl _⟩
 ·obtain ⟨i0,hi,hz0,hz1,hz2⟩:=info_parts info_pt
  have h:=Any8.slices_Grow_grow growQ i0 (.agg #[.int .i64 0,.int .i64 0]) hi hz0 (by omega) none 0 0 N [] w (Nat.le_refl _) (by omega) (by rw [hz2];omega) (by omega) (by simp) (fun _ => rfl) (fun a h => by cases h)
  refine h.mono ?_
  rintro e w' ⟨rfl,rfl⟩
  have hG:=grownCap_ge w (0+N) 0 24
  have hM:=grownCap_le_maxLen w (0+N) 0 24 (by unfold maxLen;omega)
  have hz:(growQ_ren.t 25) = 24:=rfl
  rw [hz]
  refine ⟨_,_,rfl,own_at.1 ⟨Nat.le_refl _,Nat.zero_le _,hM,_,new_block _ _ _,?_,fun i hi => absurd hi (Nat.not_lt_zero _)⟩,((Grew.refl w).drew).alloc _ _⟩
  rw [Array.size_append,Array.size_append,size_zeroCells,size_zeroCells]
  show 0+(0+N - 0) * 2+(grownCap w (0+N) 0 24 - (0+N)) * 2=_
  omega
set_option maxRecDepth 100000 in
set_option maxHeartbeats 4000000 in
theorem concat_pts (b g1 g2 c1 c2:Nat) (S T:List Pt) (w:World) (hb:Blk w b #[.slice (some ⟨g1,0,none⟩) S.length c1,.slice (some ⟨g2,0,none⟩) T.length c2] 48) (hS:Row w g1 0 S) (hT:Row w g2 0 T)
  (h1:1≤S.length) (h2:S.length≤1000000) (h3:T.length≤1000000) :
  Calls Tryz.prog 100 #[.slice (some ⟨b,0,none⟩) 2 2] w fun e w' => ∃ v,e=.returned v∧Hl.Own w.heap.size w' v (S ++ T)∧Grew w w':=by
 have HS:=Lib.hid hS
 have HT:=Lib.hid hT
 have HB:=Lib.hid hb
 obtain ⟨⟨x0,x1⟩,_,_⟩:=hb.two
 have GC:Hid (∀ W,Grew w W→Calls Tryz.prog 137 #[.slice none 0 0,.int .i64 ((S.length:Int)+(T.length:Int))] W fun e w' => ∃ sa sc,e=.returned (.slice sa 0 sc)∧Hid (Hl.Own w.heap.size w' (.slice sa 0 sc) []∧Grew w w')):=Lib.hid (fun W g => by
  have h:=grow_any (S.length+T.length) W (by omega)
  rw [Int.natCast_add] at h
  refine h.mono ?_
  rintro e w' ⟨sa,sc,he,ho,hg⟩
  exact ⟨sa,sc,he,Lib.hid ⟨ho.mono g.size,g.trans hg⟩⟩)
 have W1:IntKind.i64.wrap (S.length:Int)=(S.length:Int):=IntWalk.i64_in _ ⟨by omega,by omega⟩
 have W2:IntKind.i64.wrap ((S.length:Int)+(T.length:Int))=(S.length:Int)+(T.length:Int):=IntWalk.i64_in _ ⟨by omega,by omega⟩
 have n1:¬ ((S.length:Int) < 0):=by omega
 have n2:¬ ((S.length:Int)+(T.length:Int) < 0):=by omega
 clear hb hS hT
 go_enter Tryz.func100,Tryz.ntmps100
 go_wp2_with fail
 go_loopw [3,11] (fun s i wr => w=wr∧((i=.int .i64 0∧s=.int .i64 0)∨(i=.int .i64 1∧s=.int .i64 S.length)∨(i=.int .i64 2∧s=.int .i64 ((S.length:Int)+(T.length:Int))))) (fun _ i _ => 2 - (intOf i).toNat)
 case atStart => exact ⟨rfl,Or.inl ⟨rfl,rfl⟩⟩
 case round =>
  obtain ⟨rfl,hk⟩:=hrel
  rcases hk with ⟨rfl,rfl⟩ | ⟨rfl,rfl⟩ | ⟨rfl,rfl⟩
  ·go_wp2_with fail
   exact ⟨⟨trivial,Or.inr (Or.inl ⟨rfl,rfl⟩)⟩,by simp [intOf]⟩
  ·go_wp2_with fail
   exact ⟨⟨trivial,Or.inr (Or.inr ⟨rfl,rfl⟩)⟩,by simp [intOf]⟩
  ·go_wp2_with (first | (go_at_call 137;refine (GC.out _ (Grew.refl _)).mono ?_;rintro e w' ⟨sa,sc,rfl,hn⟩))
   clear x0 x1
   go_loopw [6,27] (fun v i wz => ((i=.int .i64 0∧Hl.Own w.heap.size wz v [])∨(i=.int .i64 1∧Hl.Own w.heap.size wz v S)∨(i=.int .i64 2∧Hl.Own w.heap.size wz v (S ++ T)))∧Grew w wz) (fun _ i _ => 2 - (intOf i).toNat)
   case atStart => exact ⟨Or.inl ⟨rfl,hn.out.1⟩,hn.out.2⟩
   case round =>
    clear hn GC
    obtain ⟨hk,hG⟩:=hrel
    have HG:=Lib.hid hG
    obtain ⟨⟨x0,x1⟩,y0,y1⟩:=(HB.out.grown hG).two
    clear hG
    rcases hk with ⟨rfl,hO⟩ | ⟨rfl,hO⟩ | ⟨rfl,hO⟩
    ·obtain ⟨oa,oc,rfl⟩:=hO.sl.shape
     have HO:=Lib.hid hO
     clear hO
     go_wp2_with (at_builtin;go_must (refine append_T _ rfl _ _ 48 Tryz.underlying48 rfl w.heap.size _ ([]) (S) _ 0 _ rfl HO.out rfl (HS.out.grown HG.out) (by simp;omega) HG.out.size ?_;intro v' w' own' gr';have GG':=Lib.hid (HG.out.grown gr' (fun k hk => HO.out.block k hk));have OWN':=Lib.hid own';obtain ⟨sa',sc',rfl⟩:=own'.sl.shape;clear own' gr'))
     exact ⟨⟨Or.inr (Or.inl ⟨rfl,OWN'.out⟩),GG'.out⟩,by simp [intOf]⟩
    ·obtain ⟨oa,oc,rfl⟩:=hO.sl.shape
     have HO:=Lib.hid hO
     clear hO
     go_wp2_with (at_builtin;go_must (refine append_T _ rfl _ _ 48 Tryz.underlying48 rfl w.heap.size _ (S) (T) _ 0 _ rfl HO.out rfl (HT.out.grown HG.out) (by omega) HG.out.size ?_;intro v' w' own' gr';have GG':=Lib.hid (HG.out.grown gr' (fun k hk => HO.out.block k hk));have OWN':=Lib.hid own';obtain ⟨sa',sc',rfl⟩:=own'.sl.shape;clear own' gr'))
     exact ⟨⟨Or.inr (Or.inr ⟨rfl,by have h:=OWN'.out;rwa [List.length_append] at h⟩),GG'.out⟩,by simp [intOf]⟩
    ·obtain ⟨oa,oc,rfl⟩:=hO.sl.shape
     have HO:=Lib.hid hO
     clear hO
     go_wp2_with fail
     go_ret
     exact ⟨_,rfl,HO.out,HG.out⟩
end Ry
end Go.Proofs.YtbpgfenippiepaaGreatDoor
