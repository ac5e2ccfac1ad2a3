/-
  What package hull owes, a contract each, and what follows of it at the examples.
  The examples of chapter 3: what they are as points.
  The examples at the head of the statements about layer 3.
  A slice of points of the call's own, to which points are appended.
  Small contracts in the form that the laws' walks take.
  The landed bounds and box.
-/
import Derived.Test.YtlookcbokhknfaaGreatHullIn
import Derived.Laws.AppendOwn
import Derived.Shelf.Abstract
import Derived.Deep.Cut
import Derived.Deep.CutRange
import Derived.Test.YtlookcbokhknfaaGreatHullCa
import Derived.Test.YtlookcbokhknfaaGreatHullBar
namespace Go.Proofs.YtlookcbokhknfaaGreat
open Go.RowKit
namespace Hl
def IsMin (p:List Pt) (u v m:Int):Prop:=(∃ x,x ∈ p∧u * x.1+v * x.2=m)∧∀ x,x ∈ p→m≤u * x.1+v * x.2
def octL (a b c d s t i j:Int):List Pt:=[(b,b - j),(b,t - b),(t - d,d),(d+i,d),(a,a - i),(a,s - a),(s - c,c),(c+j,c)]
def IsOct (p q:List Pt):Prop:=∃ a b c d s t i j:Int,IsMin p 1 0 a∧IsMin p (-1) 0 (-b)∧IsMin p 0 1 c∧IsMin p 0 (-1) (-d)∧IsMin p 1 1 s∧IsMin p (-1) (-1) (-t)∧IsMin p 1 (-1) i∧IsMin p (-1) 1 (-j)∧IsHull (octL a b c d s t i j) q
def IsBox (p:List Pt) (lo hi:Pt):Prop:=IsMin p 1 0 lo.1∧IsMin p (-1) 0 (-hi.1)∧IsMin p 0 1 lo.2∧IsMin p 0 (-1) (-hi.2)
def Empty (k:Int) (w:World) (e:Ending) (w':World):Prop:=∃ v,e=.returned (.tuple #[v,.int .i64 k])∧Sl w' v []∧Grew w w'
def HasSays (p:List Pt) (x:Pt) (w:World) (e:Ending) (w':World):Prop:=∃ r:Bool,e=.returned (.tuple #[.bool r,.int .i64 0])∧(r=true↔Hs p x)∧Grew w w'
def HullSays (l:List Pt) (w:World) (e:Ending) (w':World):Prop:=∃ q,IsHull l q∧((q.length≤64∧∃ v,e=.returned (.tuple #[v,.int .i64 0])∧Sl w' v q∧Grew w w')∨(64 < q.length∧Empty 2 w e w'))
def EightSays (p:List Pt) (w:World) (e:Ending) (w':World):Prop:=∃ q v,IsOct p q∧e=.returned (.tuple #[v,.int .i64 0])∧Sl w' v q∧Grew w w'
def BoxSays (p:List Pt) (w:World) (e:Ending) (w':World):Prop:=∃ lo hi:Pt,IsBox p lo hi∧e=.returned (.tuple #[.agg #[.int .i64 lo.1,.int .i64 lo.2],.agg #[.int .i64 hi.1,.int .i64 hi.2],.int .i64 0])∧Grew w w'
structure Code:Prop where
 valid:∀ (p:List Pt) (v:Value) (w:World),Sl w v p→p.length≤9223372036854775807→Calls Tryz.prog 63 #[v] w (Tells (Vl p) w)
 has_ok:∀ (p:List Pt) (x:Pt) (v:Value) (w:World),Sl w v p→Vl p→Plc x→Calls Tryz.prog 39 #[v,.agg #[.int .i64 x.1,.int .i64 x.2]] w (HasSays p x w)
 has_bad:∀ (p:List Pt) (x:Pt) (v:Value) (w:World),Sl w v p→p.length≤9223372036854775807→¬ (Vl p∧Plc x)→Calls Tryz.prog 39 #[v,.agg #[.int .i64 x.1,.int .i64 x.2]] w fun e w' => e=.returned (.tuple #[.bool false,.int .i64 1])∧Grew w w'
 hull_big:∀ (l:List Pt) (v:Value) (w:World),Sl w v l→l.length≤9223372036854775807→4000 < l.length→Calls Tryz.prog 139 #[v] w (Empty 2 w)
 hull_bad:∀ (l:List Pt) (v:Value) (w:World),Sl w v l→l.length≤4000→(l=[]∨¬ Plcs l)→Calls Tryz.prog 139 #[v] w (Empty 1 w)
 hull_ok:∀ (l:List Pt) (v:Value) (w:World),Sl w v l→l.length≤4000→l ≠ []→Plcs l→Calls Tryz.prog 139 #[v] w (HullSays l w)
 box_ok:∀ (p:List Pt) (v:Value) (w:World),Sl w v p→Vl p→Calls Tryz.prog 86 #[v] w (BoxSays p w)
 box_bad:∀ (p:List Pt) (v:Value) (w:World),Sl w v p→p.length≤9223372036854775807→¬ Vl p→Calls Tryz.prog 86 #[v] w fun e w' => e=.returned (.tuple #[.agg #[.int .i64 ((0,0):Pt).1,.int .i64 ((0,0):Pt).2],.agg #[.int .i64 ((0,0):Pt).1,.int .i64 ((0,0):Pt).2],.int .i64 1])∧Grew w w'
 eight_ok:∀ (p:List Pt) (v:Value) (w:World),Sl w v p→Vl p→Calls Tryz.prog 118 #[v] w (EightSays p w)
 eight_bad:∀ (p:List Pt) (v:Value) (w:World),Sl w v p→p.length≤9223372036854775807→¬ Vl p→Calls Tryz.prog 118 #[v] w (Empty 1 w)
def cellsOf (p:List Pt):List Value:=p.flatMap fun x => [.int .i64 x.1,.int .i64 x.2]
theorem cellsOf_at:∀ (p:List Pt) (i:Nat),i < p.length→(cellsOf p)[i * 2]? = some (.int .i64 (at' p i).1)∧(cellsOf p)[i * 2+1]? = some (.int .i64 (at' p i).2)
 | [],i,h => absurd h (by simp)
 | x :: p,0,_ => ⟨rfl,rfl⟩
 | x :: p,i+1,h => by
   have ih:=cellsOf_at p i (by simpa using h)
   have e1:(i+1) * 2=i * 2+1+1:=by omega
   have e2:at' (x :: p) (i+1)=at' p i:=rfl
   rw [e1,e2]
   exact ih
theorem row_new (p:List Pt) (cs:Array Value) (h:(cellsOf p).toArray=cs) (w:World) (t:TypeId):Row (w.alloc (.cells cs t)) w.heap.size 0 p:=by
 refine ⟨by simp,fun i hi => ?_⟩
 obtain ⟨a,b⟩:=cellsOf_at p i hi
 subst h
 have key:∀ (j:Nat) (v:Value),(cellsOf p)[j]? = some v→(w.alloc (.cells (cellsOf p).toArray t)).cell? ⟨w.heap.size,0+j,none⟩=some v:=by
  intro j v hj
  simp [go_sem,hj]
 exact ⟨key _ _ a,by have:=key _ _ b;rwa [← Nat.add_assoc] at this⟩
end Hl
end Go.Proofs.YtlookcbokhknfaaGreat
namespace Go.Proofs.YtlookcbokhknfaaGreat
open Go.RowKit
namespace Hl
def l6:List Pt:=[(0,0),(4,0),(2,1),(4,4),(2,0),(0,4)]
def sq:List Pt:=[(0,0),(4,0),(4,4),(0,4)]
def seg:List Pt:=[(0,0),(5,1)]
def o4:List Pt:=[(0,0),(4,0),(5,1),(1,1)]
instance (a b:Pt):Decidable (ls a b):=by unfold ls;infer_instance
def pgB (p:List Pt):Bool:=decide (1≤p.length) && decide (∀ i,i < p.length→1≤i→ls (at' p 0) (at' p i)) && decide (∀ i,i < p.length→∀ k,k < p.length→k ≠ i→k ≠ (i+1) % p.length→0 < cr (at' p i) (at' p ((i+1) % p.length)) (at' p k))
theorem pg_of {p:List Pt} (h:pgB p=true):Pg p:=by
 unfold pgB at h
 simp only [Bool.and_eq_true,decide_eq_true_eq] at h
 exact ⟨h.1.1,fun i hi hl => h.1.2 i hl hi,fun _ i k hi hk h1 h2 => h.2 i hi k hk h1 h2⟩
def insB (p:List Pt) (x:Pt):Bool:=decide (∀ i,i < p.length→0≤cr (at' p i) (at' p ((i+1) % p.length)) x)
theorem hs_of {p:List Pt} {x:Pt} (hp:3≤p.length) (h:insB p x=true):Hs p x:=(hs3 hp).2 (by
 unfold insB at h
 rw [decide_eq_true_eq] at h
 exact h)
theorem vl_of {p:List Pt} (h:Pg p) (hl:p.length≤64) (hp:Plcs p):Vl p:=⟨⟨h.1,hl⟩,hp,h.2.1,h.2.2⟩
theorem Vl.pg {p:List Pt} (h:Vl p):Pg p:=⟨h.1.1,h.2.2.1,h.2.2.2⟩
theorem plcs_of {p:List Pt} (h:∀ x,x ∈ p→Plc x):Plcs p:=fun _ hi => h _ (at_mem hi)
theorem sq_pg:Pg sq:=pg_of (by decide)
theorem sq_vl:Vl sq:=vl_of sq_pg (by decide) (plcs_of (by decide))
theorem seg_pg:Pg seg:=⟨by decide,fun i h1 h2 => by
 have h2':i < 2:=h2
 obtain rfl:i=1:=by omega
 decide,fun h => absurd h (by decide)⟩
theorem seg_vl:Vl seg:=vl_of seg_pg (by decide) (plcs_of (by decide))
theorem sq_has:Hs sq (4,3):=hs_of (by decide) (by decide)
theorem IsMin.one {p:List Pt} {u v m m':Int} (h:IsMin p u v m) (k:IsMin p u v m'):m=m':=by
 obtain ⟨⟨x,hx,e⟩,h2⟩:=h
 obtain ⟨⟨y,hy,e'⟩,k2⟩:=k
 have:=h2 y hy
 have:=k2 x hx
 omega
def minB (p:List Pt) (u v m:Int):Bool:=p.any (fun x => u * x.1+v * x.2 == m) && p.all (fun x => decide (m≤u * x.1+v * x.2))
theorem min_of {p:List Pt} {u v m:Int} (h:minB p u v m=true):IsMin p u v m:=by
 unfold minB at h
 simp only [Bool.and_eq_true,List.any_eq_true,List.all_eq_true,beq_iff_eq,decide_eq_true_eq] at h
 exact ⟨h.1,h.2⟩
theorem sq_box {lo hi:Pt} (h:IsBox sq lo hi):lo=(0,0)∧hi=(4,4):=by
 obtain ⟨h1,h2,h3,h4⟩:=h
 have e1:=h1.one (m':=0) (min_of (by decide))
 have e2:=h2.one (m':=-4) (min_of (by decide))
 have e3:=h3.one (m':=0) (min_of (by decide))
 have e4:=h4.one (m':=-4) (min_of (by decide))
 exact ⟨Prod.ext e1 e3,Prod.ext (by simp;omega) (by simp;omega)⟩
end Hl
end Go.Proofs.YtlookcbokhknfaaGreat
namespace Go.Proofs.YtlookcbokhknfaaGreat
open Go.RowKit
namespace Hl
theorem Sl.row {w:World} {v:Value} {p:List Pt} (h:Sl w v p) (hn:p ≠ []):∃ b o c,v=.slice (some ⟨b,o,none⟩) p.length c∧Row w b o p:=by
 rcases h with ⟨h,_⟩ | h
 ·exact absurd h hn
 ·exact h
theorem Sl.of {w:World} {b o c:Nat} {p:List Pt} (h:Row w b o p):Sl w (.slice (some ⟨b,o,none⟩) p.length c) p:=Or.inr ⟨b,o,c,rfl,h⟩
theorem h_box (K:Code) (b o c:Nat) (w:World) (hr:Row w b o sq):Calls Tryz.prog 86 #[.slice (some ⟨b,o,none⟩) 4 c] w fun e w' => e=.returned (.tuple #[.agg #[.int .i64 0,.int .i64 0],.agg #[.int .i64 4,.int .i64 4],.int .i64 0])∧Grew w w':=by
 refine (K.box_ok sq _ w (Sl.of hr) sq_vl).mono ?_
 rintro e w1 ⟨lo,hi,hb,rfl,g⟩
 obtain ⟨rfl,rfl⟩:=sq_box hb
 exact ⟨rfl,g⟩
theorem h_has (K:Code) (b o c:Nat) (w:World) (hr:Row w b o sq):Calls Tryz.prog 39 #[.slice (some ⟨b,o,none⟩) 4 c,.agg #[.int .i64 4,.int .i64 3]] w fun e w' => e=.returned (.tuple #[.bool true,.int .i64 0])∧Grew w w':=by
 refine (K.has_ok sq (4,3) _ w (Sl.of hr) sq_vl (by decide)).mono ?_
 rintro e w1 ⟨r,rfl,hr,g⟩
 rw [hr.2 sq_has]
 exact ⟨rfl,g⟩
theorem Tells.to {q:Prop} {w:World} {e:Ending} {w':World} (h:Tells q w e w') (hq:q):e=.returned (.bool true)∧Grew w w':=by
 obtain ⟨r,rfl,hr,g⟩:=h
 rw [hr.2 hq]
 exact ⟨rfl,g⟩
theorem Tells.un {q:Prop} {w:World} {e:Ending} {w':World} (h:Tells q w e w') (hq:¬ q):e=.returned (.bool false)∧Grew w w':=by
 obtain ⟨r,rfl,hr,g⟩:=h
 cases r
 ·exact ⟨rfl,g⟩
 ·exact absurd (hr.1 rfl) hq
end Hl
end Go.Proofs.YtlookcbokhknfaaGreat
namespace Go.Proofs.YtlookcbokhknfaaGreat
open Go.RowKit
namespace Hl
theorem info_pt:(Tryz.prog.info? 27).map (fun i => (i.zero,i.size,i.bytes))=some (some (.agg #[.int .i64 0,.int .i64 0]),2,16):=by kernel_rfl
def Own (B:Nat) (w:World) (v:Value) (p:List Pt):Prop:=w.ownsRow B 27 2 v p.length (cellsOf p)
theorem cellsOf_len (p:List Pt):(cellsOf p).length=p.length * 2:=by
 induction p with
 | nil => rfl
 | cons x p ih =>
   have e:cellsOf (x :: p)=[.int .i64 x.1,.int .i64 x.2] ++ cellsOf p:=rfl
   rw [e,List.length_append,ih]
   simp
   omega
theorem cellsOf_append (p q:List Pt):cellsOf (p ++ q)=cellsOf p ++ cellsOf q:=by
 unfold cellsOf
 rw [List.flatMap_append]
theorem Own.nil (B:Nat) (w:World):Own B w (.slice none 0 0) []:=World.ownsRow_nil w B _ 2
theorem Own.alloc {B:Nat} {w:World} {v:Value} {p:List Pt} (h:Own B w v p) (o:Obj):Own B (w.alloc o) v p:=World.ownsRow.alloc h o
theorem Own.drew {B:Nat} {w:World} {v:Value} {p:List Pt} (h:Own B w v p):Own B w.drew v p:=h
theorem Own.grew {B:Nat} {W w:World} {v:Value} {p:List Pt} (h:Own B W v p) (g:Grew W w):Own B w v p :=
 World.ownsRow.kept h (row:=none) ⟨g.os,g.tape,g.output,g.size,fun k hk _ => g.block k hk⟩ (by cases hv:v.ownBlock <;> simp)
theorem Own.sl {B:Nat} {w:World} {v:Value} {p:List Pt} (h:Own B w v p):Sl w v p:=by
 by_cases h0:p=[]
 ·subst h0
  rcases h.2 with ⟨rfl,_⟩ | ⟨g,cap,cur,rfl,_⟩
  ·exact Or.inl ⟨rfl,none,0,rfl⟩
  ·exact Or.inl ⟨rfl,_,_,rfl⟩
 ·have hc:=fun g => World.ownsRow.cells (g:=g) h
  rcases h.2 with ⟨_,h1⟩ | ⟨g,cap,cur,rfl,_,hg,_⟩
  ·exact absurd (List.length_eq_zero_iff.1 h1) h0
  ·refine Or.inr ⟨g,0,cap,rfl,(Array.getElem?_eq_some_iff.1 hg).1,fun i hi => ?_⟩
   obtain ⟨a,b⟩:=cellsOf_at p i hi
   have ad:∀ k,(⟨g,0,none⟩:Addr).add k=⟨g,0+k,none⟩:=fun k => by
    unfold Addr.add
    split
    ·rename_i e;subst e;rfl
    ·rfl
   have k1:=hc g rfl _ _ a
   have k2:=hc g rfl _ _ b
   rw [ad] at k1 k2
   exact ⟨k1,k2⟩
theorem row_cells {w:World} {b o:Nat} {p:List Pt} (h:Row w b o p):∀ j u,(cellsOf p)[j]? = some u→w.cell? ((⟨b,o,none⟩:Addr).add j)=some u:=by
 intro j u hj
 have ad:∀ k,(⟨b,o,none⟩:Addr).add k=⟨b,o+k,none⟩:=fun k => by
  unfold Addr.add
  split
  ·rename_i e;subst e;rfl
  ·rfl
 have hlt:j < p.length * 2:=by
  have h1:=(List.getElem?_eq_some_iff.1 hj).1
  rwa [cellsOf_len] at h1
 obtain ⟨a1,a2⟩:=cellsOf_at p (j / 2) (by omega)
 obtain ⟨c1,c2⟩:=h.2 (j / 2) (by omega)
 rw [ad]
 by_cases e:j % 2=0
 ·have ej:j=j / 2 * 2:=by omega
  rw [ej] at hj ⊢
  rw [a1] at hj
  rw [c1];exact hj
 ·have ej:j=j / 2 * 2+1:=by omega
  have e1:o+j=o+j / 2 * 2+1:=by omega
  rw [e1,c2]
  rw [ej,a2] at hj
  exact hj
theorem cells_one (p:List Pt):∀ u,u ∈ cellsOf p→u.oneCell'=true:=by
 intro u hu
 unfold cellsOf at hu
 rw [List.mem_flatMap] at hu
 obtain ⟨x,_,hx⟩:=hu
 rcases List.mem_cons.1 hx with rfl | hx
 ·rfl
 ·rcases List.mem_cons.1 hx with rfl | hx
  ·rfl
  ·cases hx
theorem wp_append_pts {o:Oper} {a:Act} {K:Act→World→Prop} {Q:Exit→Act→World→Prop} (w:World) (s x:Operand)
  (ho:o.op=.call { callee:=.builtin .append,args:=#[s,x],argTypes:=#[23,23] }) (B:Nat) (v:Value) (p ys:List Pt) (b off c:Nat)
  (hs:a.eval s=v) (hown:Own B w v p) (hx:a.eval x=.slice (some ⟨b,off,none⟩) ys.length c) (hr:Row w b off ys) (hl:p.length+ys.length≤4000000) (hB:B≤w.heap.size)
  (h:∀ v' w',Own B w' v' (p ++ ys)→(∀ W:World,W.heap.size≤B→Grew W w→Grew W w')→(∀ b' o' r,Row w b' o' r→some b' ≠ v.ownBlock→Row w' b' o' r)→K (a.put o.dst v') w'):o.wp Tryz.prog a w K Q:=by
 obtain ⟨i0,hi,hz0,hz1,hz2⟩:=info_parts info_pt
 refine wp_append_own w s x 23 ho B 27 i0 (.agg #[.int .i64 0,.int .i64 0]) 2 16 Tryz.underlying23 hi hz0 hz1 hz2 rfl (by decide) v p.length (cellsOf p) hs hown ⟨b,off,none⟩ ys.length c (cellsOf ys) hx (cellsOf_len ys) (row_cells hr) (cells_one ys) (by unfold maxLen;omega) (by omega) hB ?_
 intro v' w' h1 h2 _
 refine h v' w' ?_ (fun W hW g => Grew.grown g h2 (fun k hk => Nat.le_trans hW (World.ownsRow.lt hown k hk).1)) (fun b' o' r hr' hne => ⟨Nat.lt_of_lt_of_le hr'.1 h2.size,fun i hi => ?_⟩)
 ·unfold Own
  rw [cellsOf_append,List.length_append]
  exact h1
 ·obtain ⟨k1,k2⟩:=hr'.2 i hi
  exact ⟨World.grownBy.cell h2 k1 hne,World.grownBy.cell h2 k2 hne⟩
theorem Own.made {B:Nat} (w:World) (hB:B≤w.heap.size):Own B (w.alloc (.cells #[] 27)) (.slice (some ⟨w.heap.size,0,none⟩) 0 0) []:=World.ownsRow_made w #[] 0 hB (Nat.zero_le _) rfl
end Hl
end Go.Proofs.YtlookcbokhknfaaGreat
namespace Go.Proofs.YtlookcbokhknfaaGreat
open Go.RowKit
namespace Hl
theorem rvalid_nil (a:Option Addr) (c:Nat) (w:World):Calls Tryz.prog 66 #[.slice a 0 c] w fun e w' => e=.returned (.bool false)∧Grew w w':=by
 go_enter Tryz.func66,Tryz.ntmps66
 go_wp2_with fail
 go_ret
 exact ⟨rfl,Grew.refl _⟩
theorem rvalid_any (p:List Pt) (v:Value) (w:World) (hp:Sl w v p) (hl:p.length≤9223372036854775807):Calls Tryz.prog 66 #[v] w (Tells (Vl p) w):=by
 rcases hp with ⟨rfl,a,c,rfl⟩ | ⟨b,o,c,rfl,hr⟩
 ·refine (rvalid_nil a c w).mono ?_
  rintro e w1 ⟨rfl,g⟩
  exact Tells.no (fun t => absurd t.1.1 (by decide)) rfl g
 ·exact valid_any p b o c w hr hl
theorem rvalid_yes (p:List Pt) (v:Value) (w:World) (hp:Sl w v p) (hl:p.length≤80) (h:Vl p):Calls Tryz.prog 66 #[v] w fun e w' => e=.returned (.bool true)∧Grew w w' :=
 (rvalid_any p v w hp (by omega)).mono fun _ _ t => t.to h
end Hl
end Go.Proofs.YtlookcbokhknfaaGreat
namespace Go.Proofs.YtlookcbokhknfaaGreat
open Go.RowKit Go.Shelf
namespace Hl
def MinOf (p:List Pt) (m:Pt→Int) (lo:Int):Prop:=(∃ x,x ∈ p∧m x=lo)∧∀ x,x ∈ p→lo≤m x
def MaxOf (p:List Pt) (m:Pt→Int) (hi:Int):Prop:=(∃ x,x ∈ p∧m x=hi)∧∀ x,x ∈ p→m x≤hi
def SpanSays (p:List Pt) (m:Pt→Int) (w:World) (e:Ending) (w':World):Prop:=∃ lo hi:Int,MinOf p m lo∧MaxOf p m hi∧e=.returned (.agg #[.int .i64 lo,.int .i64 hi])∧Grew w w'
def mnC (x y:Int):Int:=if y < x then y else x
def mxC (x y:Int):Int:=if x < y then y else x
def rl (g:Nat→Int) (v:Int):Nat→Int
 | 0 => v
 | k+1 => mnC (rl g v k) (g k)
def rh (g:Nat→Int) (v:Int):Nat→Int
 | 0 => v
 | k+1 => mxC (rh g v k) (g k)
theorem rl_all (g:Nat→Int) (v:Int):∀ k,(rl g v k=v∨∃ j,j < k∧g j=rl g v k)∧∀ j,j < k→rl g v k≤g j
 | 0 => ⟨Or.inl rfl,fun j hj => by omega⟩
 | k+1 => by
   obtain ⟨e,h⟩:=rl_all g v k
   have d:rl g v (k+1)=mnC (rl g v k) (g k):=rfl
   rw [d]
   unfold mnC
   split
   ·refine ⟨Or.inr ⟨k,by omega,rfl⟩,fun i hi => ?_⟩
    by_cases ei:i=k
    ·rw [ei];exact Int.le_refl _
    ·have:=h i (by omega);omega
   ·refine ⟨e.imp id (fun ⟨j,hj,ej⟩ => ⟨j,by omega,ej⟩),fun i hi => ?_⟩
    by_cases ei:i=k
    ·rw [ei];omega
    ·exact h i (by omega)
theorem rh_all (g:Nat→Int) (v:Int):∀ k,(rh g v k=v∨∃ j,j < k∧g j=rh g v k)∧∀ j,j < k→g j≤rh g v k
 | 0 => ⟨Or.inl rfl,fun j hj => by omega⟩
 | k+1 => by
   obtain ⟨e,h⟩:=rh_all g v k
   have d:rh g v (k+1)=mxC (rh g v k) (g k):=rfl
   rw [d]
   unfold mxC
   split
   ·refine ⟨Or.inr ⟨k,by omega,rfl⟩,fun i hi => ?_⟩
    by_cases ei:i=k
    ·rw [ei];exact Int.le_refl _
    ·have:=h i (by omega);omega
   ·refine ⟨e.imp id (fun ⟨j,hj,ej⟩ => ⟨j,by omega,ej⟩),fun i hi => ?_⟩
    by_cases ei:i=k
    ·rw [ei];omega
    ·exact h i (by omega)
theorem rl_min (p:List Pt) (m:Pt→Int) (h1:1≤p.length):MinOf p m (rl (fun j => m (at' p j)) (m (at' p 0)) p.length)∧MaxOf p m (rh (fun j => m (at' p j)) (m (at' p 0)) p.length):=by
 obtain ⟨e,h⟩:=rl_all (fun j => m (at' p j)) (m (at' p 0)) p.length
 obtain ⟨e',h'⟩:=rh_all (fun j => m (at' p j)) (m (at' p 0)) p.length
 refine ⟨⟨?_,fun x hx => ?_⟩,⟨?_,fun x hx => ?_⟩⟩
 ·rcases e with e | ⟨j,hj,e⟩
  ·exact ⟨_,at_mem (by omega),e.symm⟩
  ·exact ⟨_,at_mem hj,e⟩
 ·obtain ⟨j,hj,ej⟩:=mem_at hx
  rw [← ej];exact h j hj
 ·rcases e' with e | ⟨j,hj,e⟩
  ·exact ⟨_,at_mem (by omega),e.symm⟩
  ·exact ⟨_,at_mem hj,e⟩
 ·obtain ⟨j,hj,ej⟩:=mem_at hx
  rw [← ej];exact h' j hj
def Two (w:World) (B:Nat) (x y:Int):Prop:=(B < w.heap.size∧w.cell? ⟨B,0,none⟩=some (.int .i64 x)∧w.cell? ⟨B,1,none⟩=some (.int .i64 y))∧w.frozen? ⟨B,0,none⟩=false∧w.frozen? ⟨B,1,none⟩=false
theorem Two.grown {w w':World} {B:Nat} {x y:Int} (h:Two w B x y) (g:Grew w w'):Two w' B x y:=by
 obtain ⟨⟨h0,h1,h2⟩,h3,h4⟩:=h
 obtain ⟨c,f,z⟩:=laid g
 exact ⟨⟨by omega,(c _ _ h0).trans h1,(c _ _ h0).trans h2⟩,(f _ _ h0).trans h3,(f _ _ h0).trans h4⟩
theorem Two.new (w:World) (x y:Int) (t:TypeId):Two (w.alloc (.cells #[.int .i64 x,.int .i64 y] t)) w.heap.size x y:=by
 unfold Two
 simp [go_sem]
set_option maxRecDepth 100000 in
set_option maxHeartbeats 2000000 in
theorem bounds_c (g:Nat) (m:Pt→Int) (eg:∀ args w,(callFunc g args).run Tryz.prog w=.ok (.enter g args) w) (hm:Measures g m) (p:List Pt) (b o c:Nat) (w:World) (hr:Row w b o p) (hp:Plcs p) (h1:1≤p.length) (h2:p.length≤9223372036854775807) :
  Calls Tryz.prog 129 #[.slice (some ⟨b,o,none⟩) p.length c,.func (.func g) #[] #[]] w (SpanSays p m w):=by
 have HR:=Lib.hid hr
 have M0:Hid (∀ w',Calls Tryz.prog g #[.agg #[.int .i64 (at' p 0).1,.int .i64 (at' p 0).2]] w' fun e w'' => e=.returned (.int .i64 (m (at' p 0)))∧w'.alloc (.cells #[.int .i64 (at' p 0).1,.int .i64 (at' p 0).2] 27)=w''):=Lib.hid (fun w' => hm _ w' (hp 0 (by omega)))
 have MK:Hid (∀ k,k < p.length→∀ w',Calls Tryz.prog g #[.agg #[.int .i64 (at' p k).1,.int .i64 (at' p k).2]] w' fun e w'' => e=.returned (.int .i64 (m (at' p k)))∧w'.alloc (.cells #[.int .i64 (at' p k).1,.int .i64 (at' p k).2] 27)=w''):=Lib.hid (fun k hk w' => hm _ w' (hp k hk))
 obtain ⟨s0,s1⟩:=hr.2 0 (by omega)
 rw [Nat.zero_mul,Nat.add_zero] at s0 s1
 have hb:=hr.1
 have p0:(0:Int) < (p.length:Int):=by omega
 have p1:0 < p.length:=by omega
 clear hr hp hm
 obtain ⟨v0,hv0⟩:∃ v0,m (at' p 0)=v0:=⟨_,rfl⟩
 rw [hv0] at M0
 have n1:¬ b=w.heap.size+1:=by omega
 have n2:¬ b=w.heap.size+1+1:=by omega
 have n3:¬ b=w.heap.size+1+1+1:=by omega
 have l1:b < w.heap.size+1:=by omega
 have l2:b < w.heap.size+1+1:=by omega
 have l3:b < w.heap.size+1+1+1:=by omega
 go_enter Tryz.func129,Tryz.ntmps129
 go_upto_region 1 with fail
 go_cut [5] from 8 to 18 (fun s5 wx => ∃ B,w.heap.size < B∧s5=.pointer (some ⟨B,0,none⟩)∧Two wx B v0 v0∧Grew (w.alloc (.cells #[.int .i64 0,.int .i64 0] 141)) wx)
 case first =>
  go_region_held3 (fun w' => w'.cell? ⟨b,o,none⟩=some (.int .i64 (at' p 0).1)∧w'.cell? ⟨b,o+1,none⟩=some (.int .i64 (at' p 0).2)) (simp [go_sem, *])
   (first | (go_at_fn g;refine (M0.out _).mono ?_;rintro e w' ⟨rfl,rfl⟩))
  all_goals (go_wp2_with fail;go_meet)
  all_goals exact ⟨_,by first | omega | (simp;omega),rfl,by unfold Two;simp [go_sem],by (repeat' (first | (with_reducible exact Grew.refl _) | (with_reducible assumption) | (with_reducible refine Grew.alloc ?_ _ _) | (with_reducible refine Grew.drew ?_) | (with_reducible refine Grew.drewN ?_ _) | (with_reducible refine Grew.setCell ?_ ?_ _) | go_size))⟩
 case rest =>
  obtain ⟨B,hB,rfl,hT,hG⟩:=hcut
  clear M0 s0 s1 n1 n2 n3 l1 l2 l3 hb
  have T4:=(Two.new w 0 0 141).grown hG
  go_wp2_with fail
  go_loopw [21] (fun i wr => ∃ k:Nat,k≤p.length∧i=.int .i64 k∧Two wr B (rl (fun j => m (at' p j)) v0 k) (rh (fun j => m (at' p j)) v0 k)∧Grew (w.alloc (.cells #[.int .i64 0,.int .i64 0] 141)) wr) (fun i _ => p.length - (intOf i).toNat)
  case atStart => exact ⟨0,Nat.zero_le _,rfl,hT,hG⟩
  case round =>
   clear hT hG T4
   obtain ⟨k,hk,rfl,hT,hG⟩:=hrel
   by_cases hlt:k < p.length
   ·obtain ⟨q0,q1⟩:=(HR.out.grown (((Grew.refl w).alloc _ _).trans hG)).2 k hlt
    have i2:(k:Int) < (p.length:Int):=by omega
    have MV:=Lib.hid (MK.out k hlt)
    have T0:=Lib.hid hT
    have hz:=hG.size
    rw [World.size_alloc] at hz
    obtain ⟨lo,hlo⟩:∃ lo,rl (fun j => m (at' p j)) v0 k=lo:=⟨_,rfl⟩
    obtain ⟨hi,hhi⟩:∃ hi,rh (fun j => m (at' p j)) v0 k=hi:=⟨_,rfl⟩
    obtain ⟨v,hv⟩:∃ v,m (at' p k)=v:=⟨_,rfl⟩
    have EL:Hid (rl (fun j => m (at' p j)) v0 (k+1)=mnC lo v):=Lib.hid (by rw [← hlo,← hv];rfl)
    have EH:Hid (rh (fun j => m (at' p j)) v0 (k+1)=mxC hi v):=Lib.hid (by rw [← hhi,← hv];rfl)
    rw [hlo,hhi] at hT
    rw [hv] at MV
    clear hlo hhi hv T0
    obtain ⟨⟨t0,t1,t2⟩,t3,t4⟩:=hT
    have nb:¬ B=wr.heap.size:=by omega
    have nb':¬ wr.heap.size=B:=by omega
    have lb1:B < wr.heap.size+1:=by omega
    have lb2:B < wr.heap.size+1+1:=by omega
    by_cases c1:v < lo <;> by_cases c2:hi < v
    all_goals
     go_wp2_with fail
     refine Bar.begin_ (S:=(fun w' => (w'.cell? ⟨B,0,none⟩=some (.int .i64 lo)∧w'.cell? ⟨B,1,none⟩=some (.int .i64 hi)∧w'.frozen? ⟨B,0,none⟩=false∧w'.frozen? ⟨B,1,none⟩=false)∧w'.cell? ⟨wr.heap.size,0,none⟩=some (.int .i64 (at' p k).1)∧w'.cell? ⟨wr.heap.size,1,none⟩=some (.int .i64 (at' p k).2))) 13 (by kernel_rfl) (by simp [go_sem, *]) (fun hHeld => ?_)
     refine Bar.Walk.takeY (i:=0) (oi:=⟨some 25,_,_,_,_,_⟩) (v:=?_) rfl (by kernel_rfl) (by kernel_rfl) (by kernel_rfl) rfl (fun _ _ _ h => h) (Or.inl ⟨by rfl,?_⟩) (by assumption) ?_
     rotate_left
     ·intro w;go_simp;(try with_reducible rfl)
     try simp only [Act.put,List.setIfInBounds_toArray,List.set_cons_zero,List.set_cons_succ]
     refine Bar.Walk.take [13] (i:=1) (oi:=⟨some 26,_,_,_,_,_⟩) (v:=?_) rfl (by kernel_rfl) (by kernel_rfl) (by kernel_rfl) (by kernel_rfl) (fun _ _ _ h => h) (Or.inl ⟨by rfl,?_⟩) (by assumption) ?_
     rotate_left
     ·intro w hSw;(try dsimp only at hSw);go_simp;(try with_reducible rfl)
     try simp only [Act.put,List.setIfInBounds_toArray,List.set_cons_zero,List.set_cons_succ]
     refine Bar.Walk.takeY (i:=2) (oi:=⟨some 27,_,_,_,_,_⟩) (v:=?_) rfl (by kernel_rfl) (by kernel_rfl) (by kernel_rfl) rfl (fun _ _ _ h => h) (Or.inl ⟨by rfl,?_⟩) (by assumption) ?_
     rotate_left
     ·intro w;go_simp;(try with_reducible rfl)
     try simp only [Act.put,List.setIfInBounds_toArray,List.set_cons_zero,List.set_cons_succ]
     refine Bar.Walk.take [13] (i:=3) (oi:=⟨some 28,_,_,_,_,_⟩) (v:=?_) rfl (by kernel_rfl) (by kernel_rfl) (by kernel_rfl) (by kernel_rfl) (fun _ _ _ h => h) (Or.inl ⟨by rfl,?_⟩) (by assumption) ?_
     rotate_left
     ·intro w hSw;(try dsimp only at hSw);go_simp;(try with_reducible rfl)
     try simp only [Act.put,List.setIfInBounds_toArray,List.set_cons_zero,List.set_cons_succ]
     refine Bar.Walk.takeY (i:=6) (oi:=⟨some 31,_,_,_,_,_⟩) (v:=?_) rfl (by kernel_rfl) (by kernel_rfl) (by kernel_rfl) rfl (fun _ _ _ h => h) (Or.inl ⟨by rfl,?_⟩) (by assumption) ?_
     rotate_left
     ·intro w;go_simp;(try with_reducible rfl)
     try simp only [Act.put,List.setIfInBounds_toArray,List.set_cons_zero,List.set_cons_succ]
     refine Bar.Walk.take [13] (i:=7) (oi:=⟨some 32,_,_,_,_,_⟩) (v:=?_) rfl (by kernel_rfl) (by kernel_rfl) (by kernel_rfl) (by kernel_rfl) (fun _ _ _ h => h) (Or.inl ⟨by rfl,?_⟩) (by assumption) ?_
     rotate_left
     ·intro w hSw;(try dsimp only at hSw);go_simp;(try with_reducible rfl)
     try simp only [Act.put,List.setIfInBounds_toArray,List.set_cons_zero,List.set_cons_succ]
     refine Bar.Walk.takeY (i:=8) (oi:=⟨some 33,_,_,_,_,_⟩) (v:=?_) rfl (by kernel_rfl) (by kernel_rfl) (by kernel_rfl) rfl (fun _ _ _ h => h) (Or.inl ⟨by rfl,?_⟩) (by assumption) ?_
     rotate_left
     ·intro w;go_simp;(try with_reducible rfl)
     try simp only [Act.put,List.setIfInBounds_toArray,List.set_cons_zero,List.set_cons_succ]
     refine Bar.Walk.take [10,13] (i:=9) (oi:=⟨some 34,_,_,_,_,_⟩) (v:=?_) rfl (by kernel_rfl) (by kernel_rfl) (by kernel_rfl) (by kernel_rfl) (fun _ _ _ h => h) (Or.inl ⟨by rfl,?_⟩) (by assumption) ?_
     rotate_left
     ·intro w hSw;(try dsimp only at hSw);go_simp;(try with_reducible rfl)
     try simp only [Act.put,List.setIfInBounds_toArray,List.set_cons_zero,List.set_cons_succ]
     refine Bar.Walk.step (i:=4) (o:=⟨some 29,_,_,_,_,_⟩) (by kernel_rfl) rfl (fun K hK => ?_)
     go_simp
     refine (MV.out _).mono ?_
     rintro e w' ⟨rfl,rfl⟩
     go_wp2_with fail
     refine hK.out _ _ (by (try dsimp only);simp [go_sem, *]) (fun h1 => ?_)
     clear hK K hHeld
     have hHeld:=h1
     clear h1
     try simp only [Act.put,List.setIfInBounds_toArray,List.set_cons_zero,List.set_cons_succ]
     refine Bar.Walk.takeY (i:=5) (oi:=⟨some 30,_,_,_,_,_⟩) (v:=?_) rfl (by kernel_rfl) (by kernel_rfl) (by kernel_rfl) rfl (fun _ _ _ h => h) (Or.inl ⟨by rfl,?_⟩) (by assumption) ?_
     rotate_left
     ·intro w;go_simp;(try with_reducible rfl)
     try simp only [Act.put,List.setIfInBounds_toArray,List.set_cons_zero,List.set_cons_succ]
     refine Bar.Walk.takeY (i:=12) (oi:=⟨some 37,_,_,_,_,_⟩) (v:=?_) rfl (by kernel_rfl) (by kernel_rfl) (by kernel_rfl) rfl (fun _ _ _ h => h) (Or.inl ⟨by rfl,?_⟩) (by assumption) ?_
     rotate_left
     ·intro w;go_simp;(try with_reducible rfl)
     try simp only [Act.put,List.setIfInBounds_toArray,List.set_cons_zero,List.set_cons_succ]
     refine Bar.Walk.step (i:=10) (o:=⟨some 35,_,_,_,_,_⟩) (by kernel_rfl) rfl (fun K hK => ?_)
     go_simp
     refine (MV.out _).mono ?_
     rintro e w' ⟨rfl,rfl⟩
     go_wp2_with fail
     refine hK.out _ _ (by (try dsimp only);simp [go_sem, *]) (fun h1 => ?_)
     clear hK K hHeld
     have hHeld:=h1
     clear h1
     try simp only [Act.put,List.setIfInBounds_toArray,List.set_cons_zero,List.set_cons_succ]
     refine Bar.Walk.takeY (i:=11) (oi:=⟨some 36,_,_,_,_,_⟩) (v:=?_) rfl (by kernel_rfl) (by kernel_rfl) (by kernel_rfl) rfl (fun _ _ _ h => h) (Or.inl ⟨by rfl,?_⟩) (by assumption) ?_
     rotate_left
     ·intro w;go_simp;(try with_reducible rfl)
     try simp only [Act.put,List.setIfInBounds_toArray,List.set_cons_zero,List.set_cons_succ]
     refine Bar.Walk.pass (o:=⟨none,_,_,_,_,_⟩) (by kernel_rfl) rfl (by kernel_rfl) (fun K hK => ?_)
     go_simp
     refine hK.out _ _ ?_
     clear hK K hHeld
     try simp only [Act.put,List.setIfInBounds_toArray,List.set_cons_zero,List.set_cons_succ]
     refine wpAny_take (i:=14) (oi:=⟨some 38,_,_,_,_,_⟩) (v:=?_) rfl (by kernel_rfl) (by kernel_rfl) (by kernel_rfl) (fun _ _ _ h => h) (Or.inl ⟨by rfl,?_⟩) ?_
     rotate_left
     ·intro w;go_simp;(try with_reducible rfl)
     try simp only [Act.put,List.setIfInBounds_toArray,List.set_cons_zero,List.set_cons_succ]
     refine Bar.any_step (i:=15) (o:=⟨none,_,_,_,_,_⟩) (by kernel_rfl) rfl (fun K hK => ?_)
     go_simp
     refine hK.out _ _ ?_
     clear hK K
     try simp only [Act.put,List.setIfInBounds_toArray,List.set_cons_zero,List.set_cons_succ]
     refine wpAny_done (by kernel_rfl) ?_ _
     go_wp2_with fail
     go_roundw
     case rel => exact ⟨k+1,by omega,by go_num,by
      rw [EL.out,EH.out]
      unfold Two mnC mxC
      first | (simp [go_sem, *];done) | (simp [go_sem, *];omega),by (repeat' (first | (with_reducible exact Grew.refl _) | (with_reducible assumption) | (with_reducible refine Grew.alloc ?_ _ _) | (with_reducible refine Grew.drew ?_) | (with_reducible refine Grew.drewN ?_ _) | (with_reducible refine Grew.setCell ?_ ?_ _) | go_size))⟩
     case measure => simp [intOf];omega
   ·obtain rfl:k=p.length:=by omega
    obtain ⟨⟨t0,t1,t2⟩,t3,t4⟩:=hT
    obtain ⟨⟨r0,r1,r2⟩,r3,r4⟩:=(Two.new w 0 0 141).grown hG
    have GW:Grew w wr:=((Grew.refl w).alloc _ _).trans hG
    have nb:¬ w.heap.size=B:=by omega
    obtain ⟨MI,MA⟩:=rl_min p m h1
    rw [hv0] at MI MA
    have MI:=Lib.hid MI
    have MA:=Lib.hid MA
    generalize rl (fun j => m (at' p j)) v0 p.length=lo at *
    generalize rh (fun j => m (at' p j)) v0 p.length=hi at *
    go_wp2_with fail
    refine bodyPost_ret (v:=.agg #[.int .i64 lo,.int .i64 hi]) (by simp [results,Tryz.results129,go_sem, *]) rfl ⟨lo,hi,MI.out,MA.out,rfl,by (repeat' (first | (with_reducible exact Grew.refl _) | (with_reducible assumption) | (with_reducible refine Grew.alloc ?_ _ _) | (with_reducible refine Grew.drew ?_) | (with_reducible refine Grew.drewN ?_ _) | (with_reducible refine Grew.setCell ?_ ?_ _) | go_size))⟩
end Hl
end Go.Proofs.YtlookcbokhknfaaGreat
namespace Go.Proofs.YtlookcbokhknfaaGreat
open Go.RowKit Go.Shelf
namespace Hl
theorem min_is {p:List Pt} {m:Pt→Int} {lo u v:Int} (h:MinOf p m lo) (e:∀ x,m x=u * x.1+v * x.2):IsMin p u v lo:=by
 obtain ⟨⟨x,hx,ex⟩,h2⟩:=h
 exact ⟨⟨x,hx,by rw [← e];exact ex⟩,fun y hy => by rw [← e];exact h2 y hy⟩
theorem max_is {p:List Pt} {m:Pt→Int} {hi u v:Int} (h:MaxOf p m hi) (e:∀ x,-m x=u * x.1+v * x.2):IsMin p u v (-hi):=by
 obtain ⟨⟨x,hx,ex⟩,h2⟩:=h
 exact ⟨⟨x,hx,by rw [← e,ex]⟩,fun y hy => by rw [← e];have:=h2 y hy;omega⟩
def Box2Says (p:List Pt) (w:World) (e:Ending) (w':World):Prop:=∃ lo hi:Pt,IsBox p lo hi∧e=.returned (.tuple #[.agg #[.int .i64 lo.1,.int .i64 lo.2],.agg #[.int .i64 hi.1,.int .i64 hi.2]])∧Grew w w'
set_option maxRecDepth 100000 in
set_option maxHeartbeats 2000000 in
theorem box_c (p:List Pt) (b o c:Nat) (w:World) (hr:Row w b o p) (hp:Plcs p) (h1:1≤p.length) (h2:p.length≤9223372036854775807) :
  Calls Tryz.prog 83 #[.slice (some ⟨b,o,none⟩) p.length c] w (Box2Says p w):=by
 have HR:=Lib.hid hr
 have BX:Hid (∀ W,Row W b o p→Calls Tryz.prog 129 #[.slice (some ⟨b,o,none⟩) p.length c,.func (.func 130) #[] #[]] W (SpanSays p (fun x => x.1) W)):=Lib.hid (fun W hW => bounds_c _ _ (enters_of Tryz.func130 (by kernel_rfl) rfl) measX p b o c W hW hp h1 h2)
 have BY:Hid (∀ W,Row W b o p→Calls Tryz.prog 129 #[.slice (some ⟨b,o,none⟩) p.length c,.func (.func 131) #[] #[]] W (SpanSays p (fun x => x.2) W)):=Lib.hid (fun W hW => bounds_c _ _ (enters_of Tryz.func131 (by kernel_rfl) rfl) measY p b o c W hW hp h1 h2)
 clear hr hp h1 h2
 have T2:=((Two.new w 0 0 27).grown ((Grew.refl _).alloc #[.int .i64 0,.int .i64 0] 27))
 have T3:=Two.new (w.alloc (.cells #[.int .i64 0,.int .i64 0] 27)) 0 0 27
 have G0:Grew w ((w.alloc (.cells #[.int .i64 0,.int .i64 0] 27)).alloc (.cells #[.int .i64 0,.int .i64 0] 27)):=((Grew.refl w).alloc _ _).alloc _ _
 rw [World.size_alloc] at T3
 have T2:=Lib.hid T2
 have T3:=Lib.hid T3
 have G0:=Lib.hid G0
 go_enter Tryz.func83,Tryz.ntmps83
 go_wp2_with fail
 refine (BX.out _ (HR.out.grown G0.out)).mono ?_
 rintro e w1 ⟨xlo,xhi,mx,Mx,rfl,g1⟩
 have N4:=Lib.hid (Two.new w1 xlo xhi 141)
 have G1:=Lib.hid (G0.out.trans g1)
 have g1:=Lib.hid g1
 have MX:=Lib.hid (And.intro mx Mx)
 clear mx Mx
 go_wp2_with fail
 refine (BY.out _ (HR.out.grown (G1.out.alloc _ _))).mono ?_
 rintro e w2 ⟨ylo,yhi,my,My,rfl,g2⟩
 have MY:=Lib.hid (And.intro my My)
 clear my My
 obtain ⟨⟨b2,x0,x1⟩,f0,f1⟩:=T2.out.grown (g1.out.trans (((Grew.refl w1).alloc _ _).trans g2))
 obtain ⟨⟨b3,y0,y1⟩,f2,f3⟩:=T3.out.grown (g1.out.trans (((Grew.refl w1).alloc _ _).trans g2))
 obtain ⟨⟨b4,z0,z1⟩,f4,f5⟩:=N4.out.grown g2
 have GW:Grew w w2:=(G1.out.alloc _ _).trans g2
 have z1':=g1.out.size
 simp only [World.size_alloc] at z1'
 have n1:¬ w.heap.size=w1.heap.size:=by omega
 have n2:¬ w.heap.size+1=w1.heap.size:=by omega
 have n3:¬ w1.heap.size=w.heap.size:=by omega
 have n4:¬ w1.heap.size=w.heap.size+1:=by omega
 have n5:¬ w2.heap.size=w.heap.size:=by omega
 have n6:¬ w2.heap.size=w.heap.size+1:=by omega
 have n7:¬ w.heap.size=w2.heap.size:=by omega
 have n8:¬ w.heap.size+1=w2.heap.size:=by omega
 clear g2 g1 T2 T3 N4 G0 G1 BX BY z1'
 go_wp2_with fail
 go_region_held3 (fun w' => (w'.cell? ⟨w1.heap.size,0,none⟩=some (.int .i64 xlo)∧w'.cell? ⟨w1.heap.size,1,none⟩=some (.int .i64 xhi))∧(w'.cell? ⟨w2.heap.size,0,none⟩=some (.int .i64 ylo)∧w'.cell? ⟨w2.heap.size,1,none⟩=some (.int .i64 yhi))) (simp [go_sem, *]) (fail)
 all_goals go_wp2_with fail
 all_goals refine bodyPost_ret (v:=.tuple #[.agg #[.int .i64 xlo,.int .i64 ylo],.agg #[.int .i64 xhi,.int .i64 yhi]]) (by simp [results,Tryz.results83,go_sem, *]) rfl ⟨(xlo,ylo),(xhi,yhi),⟨min_is MX.out.1 (fun x => by omega),max_is MX.out.2 (fun x => by omega),min_is MY.out.1 (fun x => by omega),max_is MY.out.2 (fun x => by omega)⟩,rfl,by (repeat' (first | (with_reducible exact Grew.refl _) | (with_reducible assumption) | (with_reducible refine Grew.alloc ?_ _ _) | (with_reducible refine Grew.drew ?_) | (with_reducible refine Grew.drewN ?_ _) | (with_reducible refine Grew.setCell ?_ ?_ _) | go_size))⟩
end Hl
end Go.Proofs.YtlookcbokhknfaaGreat
