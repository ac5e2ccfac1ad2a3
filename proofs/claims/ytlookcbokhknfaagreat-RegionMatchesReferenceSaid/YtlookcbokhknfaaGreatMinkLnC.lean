/-
  The landed pull: the next side of two lists.
  The landed pull where one of the lists is empty.
  The landed pull, at whatever lists that are not both empty.
-/
import Derived.Deep.RegionHeld3
import Derived.Test.YtlookcbokhknfaaGreatMinkLnA
import Derived.Test.YtlookcbokhknfaaGreatMinkHul
import Derived.Test.YtlookcbokhknfaaGreatHullCf
namespace Go.Proofs.YtlookcbokhknfaaGreat
open Go.RowKit Go.Shelf Hl
namespace Mk
def TailOf (o n c oa ca:Nat):Prop:=(n=0∨oa=o+2)∧n≤ca∧ca≤c
theorem row_tail {w:World} {g o:Nat} {x:Pt} {A:List Pt} (h:Row w g o (x :: A)):Row w g (o+2) A:=⟨h.1,fun i hi => by
 have:=h.2 (i+1) (by simpa using hi)
 rw [show o+2+i * 2=o+(i+1) * 2 by omega]
 exact this⟩
theorem row_head {w:World} {g o:Nat} {x:Pt} {A:List Pt} (h:Row w g o (x :: A)):w.cell? ⟨g,o,none⟩=some (.int .i64 x.1)∧w.cell? ⟨g,o+1,none⟩=some (.int .i64 x.2):=by
 have:=h.2 0 (by simp)
 simp only [Nat.zero_mul,Nat.add_zero] at this
 exact this
set_option maxRecDepth 100000 in
set_option maxHeartbeats 8000000 in
theorem pull_a (x y:Pt) (n m g o c g' o' c':Nat) (w:World) (hx:Wp x) (hy:Wp y) (hgl:g < w.heap.size) (hgl':g' < w.heap.size) (h1:w.cell? ⟨g,o,none⟩=some (.int .i64 x.1)∧w.cell? ⟨g,o+1,none⟩=some (.int .i64 x.2)) (h2:w.cell? ⟨g',o',none⟩=some (.int .i64 y.1)∧w.cell? ⟨g',o'+1,none⟩=some (.int .i64 y.2)) (hn:n+1≤c) (hm:m+1≤c') (hc:c≤9223372036854775807) (_hc':c'≤9223372036854775807) (hd:0 < xp x y) :
  Calls Tryz.prog 177 #[.slice (some ⟨g,o,none⟩) (n+1) c,.slice (some ⟨g',o',none⟩) (m+1) c'] w fun e w' => ∃ oa ca ,TailOf o n c oa ca∧e=.returned (.tuple #[.agg #[.int .i64 x.1,.int .i64 x.2],.slice (some ⟨g,oa,none⟩) n ca,.slice (some ⟨g',o',none⟩) (m+1) c'])∧Grew w w':=by
 obtain ⟨x0,x1⟩:=h1
 obtain ⟨y0,y1⟩:=h2
 have OC:=Lib.hid (fun W => order_m x y W hx hy)
 have PC:=Lib.hid (fun W => plus_m x y W hx hy)
 obtain ⟨z,hz⟩:∃ z,-(xp x y)=z:=⟨_,rfl⟩
 have zn:z < 0:=by omega
 have zm:¬ 0 < z:=by omega
 rw [hz] at OC
 obtain ⟨s,hs⟩:∃ s,plus x y=s:=⟨_,rfl⟩
 rw [hs] at PC
 try rw [hs]
 have zd:decide (z < 0)=true:=by simp;omega
 clear hz hd hx hy
 have q1:¬ ((m:Int)+1=0):=by omega
 have q2:(0:Int) < (n:Int)+1:=by omega
 have q3:(0:Int) < (m:Int)+1:=by omega
 have q4:¬ ((n:Int)+1=0):=by omega
 have q5:(1:Int)≤(n:Int)+1:=by omega
 have q6:(1:Int)≤(m:Int)+1:=by omega
 have q7:(n:Int)+1≤(c:Int):=by omega
 have q8:(m:Int)+1≤(c':Int):=by omega
 have l1:g < w.heap.size+1:=by omega
 have l2:g < w.heap.size+1+1:=by omega
 have l3:g < w.heap.size+1+1+1:=by omega
 have l4:g < w.heap.size+1+1+1+1:=by omega
 have l5:g < w.heap.size+1+1+1+1+1:=by omega
 have l6:g < w.heap.size+1+1+1+1+1+1:=by omega
 have k1:g' < w.heap.size+1:=by omega
 have k2:g' < w.heap.size+1+1:=by omega
 have k3:g' < w.heap.size+1+1+1:=by omega
 have k4:g' < w.heap.size+1+1+1+1:=by omega
 have k5:g' < w.heap.size+1+1+1+1+1:=by omega
 have k6:g' < w.heap.size+1+1+1+1+1+1:=by omega
 have hmx:Tryz.prog.follows .mixedOrders=true:=by kernel_rfl
 go_enter Tryz.func177,Tryz.ntmps177
 go_wp2_with fail
 go_region_held3 (fun W => (W.cell? ⟨g,o,none⟩=some (.int .i64 x.1)∧W.cell? ⟨g,o+1,none⟩=some (.int .i64 x.2))∧(W.cell? ⟨g',o',none⟩=some (.int .i64 y.1)∧W.cell? ⟨g',o'+1,none⟩=some (.int .i64 y.2))) (simp [go_sem, *])
  ((first | (go_at_call 188;refine (OC.out _).mono ?_;rintro e w' ⟨rfl,rfl⟩) | (go_at_call 158;refine (PC.out _).mono ?_;rintro e w' ⟨rfl,rfl⟩)))
 go_wp2_with fail
 go_region_o
 all_goals go_wp2_with fail
 all_goals first
  | exact bodyPost_ret (v:=.tuple #[.agg #[.int .i64 x.1,.int .i64 x.2],.slice (some ⟨g,o,none⟩) n 0,.slice (some ⟨g',o',none⟩) (m+1) c']) (by simp [results,Tryz.results177,go_sem]) rfl ⟨o,0,⟨Or.inl (by omega),by omega,by omega⟩,rfl,(by repeat' (first|(with_reducible first|exact Grew.refl _|assumption|refine Grew.alloc ?_ _ _|refine Grew.drew ?_|refine Grew.drewN ?_ _|refine Grew.setCell ?_ ?_ _)|go_size))⟩
  | exact bodyPost_ret (v:=.tuple #[.agg #[.int .i64 x.1,.int .i64 x.2],.slice (some ⟨g,(o+2),none⟩) n (c - 1),.slice (some ⟨g',o',none⟩) (m+1) c']) (by simp [results,Tryz.results177,go_sem]) rfl ⟨(o+2),(c - 1),⟨Or.inr rfl,by omega,by omega⟩,rfl,(by repeat' (first|(with_reducible first|exact Grew.refl _|assumption|refine Grew.alloc ?_ _ _|refine Grew.drew ?_|refine Grew.drewN ?_ _|refine Grew.setCell ?_ ?_ _)|go_size))⟩
set_option maxRecDepth 100000 in
set_option maxHeartbeats 8000000 in
theorem pull_b (x y:Pt) (n m g o c g' o' c':Nat) (w:World) (hx:Wp x) (hy:Wp y) (hgl:g < w.heap.size) (hgl':g' < w.heap.size) (h1:w.cell? ⟨g,o,none⟩=some (.int .i64 x.1)∧w.cell? ⟨g,o+1,none⟩=some (.int .i64 x.2)) (h2:w.cell? ⟨g',o',none⟩=some (.int .i64 y.1)∧w.cell? ⟨g',o'+1,none⟩=some (.int .i64 y.2)) (hn:n+1≤c) (hm:m+1≤c') (_hc:c≤9223372036854775807) (hc':c'≤9223372036854775807) (hd:xp x y < 0) :
  Calls Tryz.prog 177 #[.slice (some ⟨g,o,none⟩) (n+1) c,.slice (some ⟨g',o',none⟩) (m+1) c'] w fun e w' => ∃ ob cb ,TailOf o' m c' ob cb∧e=.returned (.tuple #[.agg #[.int .i64 y.1,.int .i64 y.2],.slice (some ⟨g,o,none⟩) (n+1) c,.slice (some ⟨g',ob,none⟩) m cb])∧Grew w w':=by
 obtain ⟨x0,x1⟩:=h1
 obtain ⟨y0,y1⟩:=h2
 have OC:=Lib.hid (fun W => order_m x y W hx hy)
 have PC:=Lib.hid (fun W => plus_m x y W hx hy)
 obtain ⟨z,hz⟩:∃ z,-(xp x y)=z:=⟨_,rfl⟩
 have zn:0 < z:=by omega
 have zm:¬ z < 0:=by omega
 rw [hz] at OC
 obtain ⟨s,hs⟩:∃ s,plus x y=s:=⟨_,rfl⟩
 rw [hs] at PC
 try rw [hs]
 have zd:decide (z < 0)=false:=by simp;omega
 clear hz hd hx hy
 have q1:¬ ((m:Int)+1=0):=by omega
 have q2:(0:Int) < (n:Int)+1:=by omega
 have q3:(0:Int) < (m:Int)+1:=by omega
 have q4:¬ ((n:Int)+1=0):=by omega
 have q5:(1:Int)≤(n:Int)+1:=by omega
 have q6:(1:Int)≤(m:Int)+1:=by omega
 have q7:(n:Int)+1≤(c:Int):=by omega
 have q8:(m:Int)+1≤(c':Int):=by omega
 have l1:g < w.heap.size+1:=by omega
 have l2:g < w.heap.size+1+1:=by omega
 have l3:g < w.heap.size+1+1+1:=by omega
 have l4:g < w.heap.size+1+1+1+1:=by omega
 have l5:g < w.heap.size+1+1+1+1+1:=by omega
 have l6:g < w.heap.size+1+1+1+1+1+1:=by omega
 have k1:g' < w.heap.size+1:=by omega
 have k2:g' < w.heap.size+1+1:=by omega
 have k3:g' < w.heap.size+1+1+1:=by omega
 have k4:g' < w.heap.size+1+1+1+1:=by omega
 have k5:g' < w.heap.size+1+1+1+1+1:=by omega
 have k6:g' < w.heap.size+1+1+1+1+1+1:=by omega
 have hmx:Tryz.prog.follows .mixedOrders=true:=by kernel_rfl
 go_enter Tryz.func177,Tryz.ntmps177
 go_wp2_with fail
 go_region_held3 (fun W => (W.cell? ⟨g,o,none⟩=some (.int .i64 x.1)∧W.cell? ⟨g,o+1,none⟩=some (.int .i64 x.2))∧(W.cell? ⟨g',o',none⟩=some (.int .i64 y.1)∧W.cell? ⟨g',o'+1,none⟩=some (.int .i64 y.2))) (simp [go_sem, *])
  ((first | (go_at_call 188;refine (OC.out _).mono ?_;rintro e w' ⟨rfl,rfl⟩) | (go_at_call 158;refine (PC.out _).mono ?_;rintro e w' ⟨rfl,rfl⟩)))
 go_wp2_with fail
 go_region_held3 (fun W => (W.cell? ⟨g,o,none⟩=some (.int .i64 x.1)∧W.cell? ⟨g,o+1,none⟩=some (.int .i64 x.2))∧(W.cell? ⟨g',o',none⟩=some (.int .i64 y.1)∧W.cell? ⟨g',o'+1,none⟩=some (.int .i64 y.2))) (simp [go_sem, *])
  ((first | (go_at_call 188;refine (OC.out _).mono ?_;rintro e w' ⟨rfl,rfl⟩) | (go_at_call 158;refine (PC.out _).mono ?_;rintro e w' ⟨rfl,rfl⟩)))
 go_wp2_with fail
 go_region_o
 all_goals go_wp2_with fail
 all_goals first
  | exact bodyPost_ret (v:=.tuple #[.agg #[.int .i64 y.1,.int .i64 y.2],.slice (some ⟨g,o,none⟩) (n+1) c,.slice (some ⟨g',o',none⟩) m 0]) (by simp [results,Tryz.results177,go_sem]) rfl ⟨o',0,⟨Or.inl (by omega),by omega,by omega⟩,rfl,(by repeat' (first|(with_reducible first|exact Grew.refl _|assumption|refine Grew.alloc ?_ _ _|refine Grew.drew ?_|refine Grew.drewN ?_ _|refine Grew.setCell ?_ ?_ _)|go_size))⟩
  | exact bodyPost_ret (v:=.tuple #[.agg #[.int .i64 y.1,.int .i64 y.2],.slice (some ⟨g,o,none⟩) (n+1) c,.slice (some ⟨g',(o'+2),none⟩) m (c' - 1)]) (by simp [results,Tryz.results177,go_sem]) rfl ⟨(o'+2),(c' - 1),⟨Or.inr rfl,by omega,by omega⟩,rfl,(by repeat' (first|(with_reducible first|exact Grew.refl _|assumption|refine Grew.alloc ?_ _ _|refine Grew.drew ?_|refine Grew.drewN ?_ _|refine Grew.setCell ?_ ?_ _)|go_size))⟩
set_option maxRecDepth 100000 in
set_option maxHeartbeats 8000000 in
theorem pull_ab (x y:Pt) (n m g o c g' o' c':Nat) (w:World) (hx:Wp x) (hy:Wp y) (hgl:g < w.heap.size) (hgl':g' < w.heap.size) (h1:w.cell? ⟨g,o,none⟩=some (.int .i64 x.1)∧w.cell? ⟨g,o+1,none⟩=some (.int .i64 x.2)) (h2:w.cell? ⟨g',o',none⟩=some (.int .i64 y.1)∧w.cell? ⟨g',o'+1,none⟩=some (.int .i64 y.2)) (hn:n+1≤c) (hm:m+1≤c') (hc:c≤9223372036854775807) (hc':c'≤9223372036854775807) (hd:xp x y=0) :
  Calls Tryz.prog 177 #[.slice (some ⟨g,o,none⟩) (n+1) c,.slice (some ⟨g',o',none⟩) (m+1) c'] w fun e w' => ∃ oa ca ob cb ,TailOf o n c oa ca∧TailOf o' m c' ob cb∧e=.returned (.tuple #[.agg #[.int .i64 (plus x y).1,.int .i64 (plus x y).2],.slice (some ⟨g,oa,none⟩) n ca,.slice (some ⟨g',ob,none⟩) m cb])∧Grew w w':=by
 obtain ⟨x0,x1⟩:=h1
 obtain ⟨y0,y1⟩:=h2
 have OC:=Lib.hid (fun W => order_m x y W hx hy)
 have PC:=Lib.hid (fun W => plus_m x y W hx hy)
 obtain ⟨z,hz⟩:∃ z,-(xp x y)=z:=⟨_,rfl⟩
 have zn:z=0:=by omega
 have zm:¬ z < 0:=by omega
 rw [hz] at OC
 obtain ⟨s,hs⟩:∃ s,plus x y=s:=⟨_,rfl⟩
 rw [hs] at PC
 try rw [hs]
 have zd:decide (z < 0)=false:=by simp;omega
 clear hz hd hx hy
 have q1:¬ ((m:Int)+1=0):=by omega
 have q2:(0:Int) < (n:Int)+1:=by omega
 have q3:(0:Int) < (m:Int)+1:=by omega
 have q4:¬ ((n:Int)+1=0):=by omega
 have q5:(1:Int)≤(n:Int)+1:=by omega
 have q6:(1:Int)≤(m:Int)+1:=by omega
 have q7:(n:Int)+1≤(c:Int):=by omega
 have q8:(m:Int)+1≤(c':Int):=by omega
 have l1:g < w.heap.size+1:=by omega
 have l2:g < w.heap.size+1+1:=by omega
 have l3:g < w.heap.size+1+1+1:=by omega
 have l4:g < w.heap.size+1+1+1+1:=by omega
 have l5:g < w.heap.size+1+1+1+1+1:=by omega
 have l6:g < w.heap.size+1+1+1+1+1+1:=by omega
 have k1:g' < w.heap.size+1:=by omega
 have k2:g' < w.heap.size+1+1:=by omega
 have k3:g' < w.heap.size+1+1+1:=by omega
 have k4:g' < w.heap.size+1+1+1+1:=by omega
 have k5:g' < w.heap.size+1+1+1+1+1:=by omega
 have k6:g' < w.heap.size+1+1+1+1+1+1:=by omega
 have hmx:Tryz.prog.follows .mixedOrders=true:=by kernel_rfl
 rcases (show c=1∨c ≠ 1 by omega) with hc1 | hc1 <;> rcases (show c'=1∨c' ≠ 1 by omega) with hc2 | hc2
 all_goals (first | (have hc3:c - 1 ≠ 0:=by omega) | skip)
 all_goals (first | (have hc4:c' - 1 ≠ 0:=by omega) | skip)
 all_goals go_enter Tryz.func177,Tryz.ntmps177
 all_goals go_wp2_with fail
 all_goals
  go_region_held3 (fun W => (W.cell? ⟨g,o,none⟩=some (.int .i64 x.1)∧W.cell? ⟨g,o+1,none⟩=some (.int .i64 x.2))∧(W.cell? ⟨g',o',none⟩=some (.int .i64 y.1)∧W.cell? ⟨g',o'+1,none⟩=some (.int .i64 y.2))) (simp [go_sem, *])
  ((first | (go_at_call 188;refine (OC.out _).mono ?_;rintro e w' ⟨rfl,rfl⟩) | (go_at_call 158;refine (PC.out _).mono ?_;rintro e w' ⟨rfl,rfl⟩)))
 all_goals go_wp2_with fail
 all_goals
  go_region_held3 (fun W => (W.cell? ⟨g,o,none⟩=some (.int .i64 x.1)∧W.cell? ⟨g,o+1,none⟩=some (.int .i64 x.2))∧(W.cell? ⟨g',o',none⟩=some (.int .i64 y.1)∧W.cell? ⟨g',o'+1,none⟩=some (.int .i64 y.2))) (simp [go_sem, *])
  ((first | (go_at_call 188;refine (OC.out _).mono ?_;rintro e w' ⟨rfl,rfl⟩) | (go_at_call 158;refine (PC.out _).mono ?_;rintro e w' ⟨rfl,rfl⟩)))
 all_goals go_wp2_with fail
 all_goals
  go_region_held3 (fun W => (W.cell? ⟨g,o,none⟩=some (.int .i64 x.1)∧W.cell? ⟨g,o+1,none⟩=some (.int .i64 x.2))∧(W.cell? ⟨g',o',none⟩=some (.int .i64 y.1)∧W.cell? ⟨g',o'+1,none⟩=some (.int .i64 y.2))) (simp [go_sem, *])
  ((first | (go_at_call 188;refine (OC.out _).mono ?_;rintro e w' ⟨rfl,rfl⟩) | (go_at_call 158;refine (PC.out _).mono ?_;rintro e w' ⟨rfl,rfl⟩)))
 all_goals go_wp2_with fail
 all_goals go_wp2_with fail
 all_goals first
  | exact bodyPost_ret (v:=.tuple #[.agg #[.int .i64 s.1,.int .i64 s.2],.slice (some ⟨g,o,none⟩) n 0,.slice (some ⟨g',o',none⟩) m 0]) (by simp [results,Tryz.results177,go_sem]) rfl ⟨o,0,o',0,⟨Or.inl (by omega),by omega,by omega⟩,⟨Or.inl (by omega),by omega,by omega⟩,rfl,(by repeat' (first|(with_reducible first|exact Grew.refl _|assumption|refine Grew.alloc ?_ _ _|refine Grew.drew ?_|refine Grew.drewN ?_ _|refine Grew.setCell ?_ ?_ _)|go_size))⟩
  | exact bodyPost_ret (v:=.tuple #[.agg #[.int .i64 s.1,.int .i64 s.2],.slice (some ⟨g,o,none⟩) n 0,.slice (some ⟨g',(o'+2),none⟩) m (c' - 1)]) (by simp [results,Tryz.results177,go_sem]) rfl ⟨o,0,(o'+2),(c' - 1),⟨Or.inl (by omega),by omega,by omega⟩,⟨Or.inr rfl,by omega,by omega⟩,rfl,(by repeat' (first|(with_reducible first|exact Grew.refl _|assumption|refine Grew.alloc ?_ _ _|refine Grew.drew ?_|refine Grew.drewN ?_ _|refine Grew.setCell ?_ ?_ _)|go_size))⟩
  | exact bodyPost_ret (v:=.tuple #[.agg #[.int .i64 s.1,.int .i64 s.2],.slice (some ⟨g,(o+2),none⟩) n (c - 1),.slice (some ⟨g',o',none⟩) m 0]) (by simp [results,Tryz.results177,go_sem]) rfl ⟨(o+2),(c - 1),o',0,⟨Or.inr rfl,by omega,by omega⟩,⟨Or.inl (by omega),by omega,by omega⟩,rfl,(by repeat' (first|(with_reducible first|exact Grew.refl _|assumption|refine Grew.alloc ?_ _ _|refine Grew.drew ?_|refine Grew.drewN ?_ _|refine Grew.setCell ?_ ?_ _)|go_size))⟩
  | exact bodyPost_ret (v:=.tuple #[.agg #[.int .i64 s.1,.int .i64 s.2],.slice (some ⟨g,(o+2),none⟩) n (c - 1),.slice (some ⟨g',(o'+2),none⟩) m (c' - 1)]) (by simp [results,Tryz.results177,go_sem]) rfl ⟨(o+2),(c - 1),(o'+2),(c' - 1),⟨Or.inr rfl,by omega,by omega⟩,⟨Or.inr rfl,by omega,by omega⟩,rfl,(by repeat' (first|(with_reducible first|exact Grew.refl _|assumption|refine Grew.alloc ?_ _ _|refine Grew.drew ?_|refine Grew.drewN ?_ _|refine Grew.setCell ?_ ?_ _)|go_size))⟩
end Mk
end Go.Proofs.YtlookcbokhknfaaGreat
namespace Go.Proofs.YtlookcbokhknfaaGreat
open Go.RowKit Go.Shelf Hl
namespace Mk
set_option maxRecDepth 100000 in
set_option maxHeartbeats 8000000 in
theorem pull_x (x:Pt) (n g o c g' o' c':Nat) (w:World) (hgl:g < w.heap.size) (h1:w.cell? ⟨g,o,none⟩=some (.int .i64 x.1)∧w.cell? ⟨g,o+1,none⟩=some (.int .i64 x.2)) (hn:n+1≤c) (hc:c≤9223372036854775807) :
  Calls Tryz.prog 177 #[.slice (some ⟨g,o,none⟩) (n+1) c,.slice (some ⟨g',o',none⟩) 0 c'] w fun e w' => ∃ oa ca,TailOf o n c oa ca∧e=.returned (.tuple #[.agg #[.int .i64 x.1,.int .i64 x.2],.slice (some ⟨g,oa,none⟩) n ca,.slice (some ⟨g',o',none⟩) 0 c'])∧Grew w w':=by
 obtain ⟨x0,x1⟩:=h1
 have q2:(0:Int) < (n:Int)+1:=by omega
 have q4:¬ ((n:Int)+1=0):=by omega
 have q5:(1:Int)≤(n:Int)+1:=by omega
 have q7:(n:Int)+1≤(c:Int):=by omega
 have l1:g < w.heap.size+1:=by omega
 have l2:g < w.heap.size+1+1:=by omega
 have hmx:Tryz.prog.follows .mixedOrders=true:=by kernel_rfl
 go_enter Tryz.func177,Tryz.ntmps177
 go_wp2_with fail
 go_region_o
 go_wp2_with fail
 go_region_o
 all_goals go_wp2_with fail
 all_goals first
  | exact bodyPost_ret (v:=.tuple #[.agg #[.int .i64 x.1,.int .i64 x.2],.slice (some ⟨g,o,none⟩) n 0,.slice (some ⟨g',o',none⟩) 0 c']) (by simp [results,Tryz.results177,go_sem]) rfl ⟨o,0,⟨Or.inl (by omega),by omega,by omega⟩,rfl,(by repeat' (first|(with_reducible first|exact Grew.refl _|assumption|refine Grew.alloc ?_ _ _|refine Grew.drew ?_|refine Grew.drewN ?_ _|refine Grew.setCell ?_ ?_ _)|go_size))⟩
  | exact bodyPost_ret (v:=.tuple #[.agg #[.int .i64 x.1,.int .i64 x.2],.slice (some ⟨g,(o+2),none⟩) n (c - 1),.slice (some ⟨g',o',none⟩) 0 c']) (by simp [results,Tryz.results177,go_sem]) rfl ⟨(o+2),(c - 1),⟨Or.inr rfl,by omega,by omega⟩,rfl,(by repeat' (first|(with_reducible first|exact Grew.refl _|assumption|refine Grew.alloc ?_ _ _|refine Grew.drew ?_|refine Grew.drewN ?_ _|refine Grew.setCell ?_ ?_ _)|go_size))⟩
set_option maxRecDepth 100000 in
set_option maxHeartbeats 8000000 in
theorem pull_y (x:Pt) (n g o c g' o' c':Nat) (w:World) (hgl:g < w.heap.size) (h1:w.cell? ⟨g,o,none⟩=some (.int .i64 x.1)∧w.cell? ⟨g,o+1,none⟩=some (.int .i64 x.2)) (hn:n+1≤c) (hc:c≤9223372036854775807) :
  Calls Tryz.prog 177 #[.slice (some ⟨g',o',none⟩) 0 c',.slice (some ⟨g,o,none⟩) (n+1) c] w fun e w' => ∃ oa ca,TailOf o n c oa ca∧e=.returned (.tuple #[.agg #[.int .i64 x.1,.int .i64 x.2],.slice (some ⟨g',o',none⟩) 0 c',.slice (some ⟨g,oa,none⟩) n ca])∧Grew w w':=by
 obtain ⟨x0,x1⟩:=h1
 have q2:(0:Int) < (n:Int)+1:=by omega
 have q4:¬ ((n:Int)+1=0):=by omega
 have q5:(1:Int)≤(n:Int)+1:=by omega
 have q7:(n:Int)+1≤(c:Int):=by omega
 have l1:g < w.heap.size+1:=by omega
 have l2:g < w.heap.size+1+1:=by omega
 have hmx:Tryz.prog.follows .mixedOrders=true:=by kernel_rfl
 go_enter Tryz.func177,Tryz.ntmps177
 go_wp2_with fail
 go_quiet (fail)
 go_wp2_with fail
 go_region_o
 go_wp2_with fail
 go_region_o
 all_goals go_wp2_with fail
 all_goals first
  | exact bodyPost_ret (v:=.tuple #[.agg #[.int .i64 x.1,.int .i64 x.2],.slice (some ⟨g',o',none⟩) 0 c',.slice (some ⟨g,o,none⟩) n 0]) (by simp [results,Tryz.results177,go_sem]) rfl ⟨o,0,⟨Or.inl (by omega),by omega,by omega⟩,rfl,(by repeat' (first|(with_reducible first|exact Grew.refl _|assumption|refine Grew.alloc ?_ _ _|refine Grew.drew ?_|refine Grew.drewN ?_ _|refine Grew.setCell ?_ ?_ _)|go_size))⟩
  | exact bodyPost_ret (v:=.tuple #[.agg #[.int .i64 x.1,.int .i64 x.2],.slice (some ⟨g',o',none⟩) 0 c',.slice (some ⟨g,(o+2),none⟩) n (c - 1)]) (by simp [results,Tryz.results177,go_sem]) rfl ⟨(o+2),(c - 1),⟨Or.inr rfl,by omega,by omega⟩,rfl,(by repeat' (first|(with_reducible first|exact Grew.refl _|assumption|refine Grew.alloc ?_ _ _|refine Grew.drew ?_|refine Grew.drewN ?_ _|refine Grew.setCell ?_ ?_ _)|go_size))⟩
end Mk
end Go.Proofs.YtlookcbokhknfaaGreat
namespace Go.Proofs.YtlookcbokhknfaaGreat
open Go.RowKit Go.Shelf Hl
namespace Mk
theorem row_nil {w:World} {g o:Nat} (h:g < w.heap.size):Row w g o []:=⟨h,fun i hi => absurd hi (by simp)⟩
theorem tail_row {w:World} {g o c oa ca:Nat} {x:Pt} {A:List Pt} (h:Row w g o (x :: A)) (t:TailOf o A.length c oa ca):Row w g oa A:=by
 rcases t.1 with h0 | rfl
 ·have:A=[]:=List.length_eq_zero_iff.1 h0
  subst this
  exact row_nil h.1
 ·exact row_tail h
def Pulls (A B:List Pt) (ga gb ca cb:Nat) (w:World) (e:Ending) (w':World):Prop:=∃ (s:Pt) (A' B':List Pt) (oa' ca' ob' cb':Nat),mg A B=s :: mg A' B'∧A'.length+B'.length < A.length+B.length ∧
 (Row w ga oa' A'∧A'.length≤ca'∧ca'≤ca∧∀ x,x ∈ A'→x ∈ A)∧(Row w gb ob' B'∧B'.length≤cb'∧cb'≤cb∧∀ x,x ∈ B'→x ∈ B) ∧
 e=.returned (.tuple #[.agg #[.int .i64 s.1,.int .i64 s.2],.slice (some ⟨ga,oa',none⟩) A'.length ca',.slice (some ⟨gb,ob',none⟩) B'.length cb'])∧Grew w w'
theorem pull_any (A B:List Pt) (ga oa ca gb ob cb:Nat) (w:World) (hA:Row w ga oa A) (hB:Row w gb ob B) (la:A.length≤ca) (lb:B.length≤cb) (ha:ca≤9223372036854775807) (hb:cb≤9223372036854775807) (wa:∀ x,x ∈ A→Wp x) (wb:∀ x,x ∈ B→Wp x) (hne:A ≠ []∨B ≠ []) :
  Calls Tryz.prog 177 #[.slice (some ⟨ga,oa,none⟩) A.length ca,.slice (some ⟨gb,ob,none⟩) B.length cb] w (Pulls A B ga gb ca cb w):=by
 cases A with
 | nil =>
   cases B with
   | nil => rcases hne with h | h <;> exact absurd rfl h
   | cons y B =>
     refine (pull_y y B.length gb ob cb ga oa ca w hB.1 (row_head hB) lb hb).mono ?_
     rintro e w' ⟨o',c',t,rfl,g⟩
     exact ⟨y,[],B,oa,ca,o',c',by rw [mg_nil_l,mg_nil_l],by simp,⟨hA,la,Nat.le_refl _,fun x h => h⟩,⟨tail_row hB t,t.2.1,t.2.2,fun x h => List.mem_cons_of_mem _ h⟩,rfl,g⟩
 | cons x A =>
   cases B with
   | nil =>
     refine (pull_x x A.length ga oa ca gb ob cb w hA.1 (row_head hA) la ha).mono ?_
     rintro e w' ⟨o',c',t,rfl,g⟩
     exact ⟨x,A,[],o',c',ob,cb,by rw [mg_nil_r,mg_nil_r],by simp,⟨tail_row hA t,t.2.1,t.2.2,fun x h => List.mem_cons_of_mem _ h⟩,⟨hB,lb,Nat.le_refl _,fun x h => h⟩,rfl,g⟩
   | cons y B =>
     have hx:=wa x (List.mem_cons_self ..)
     have hy:=wb y (List.mem_cons_self ..)
     rcases Int.lt_trichotomy (xp x y) 0 with h | h | h
     ·refine (pull_b x y A.length B.length ga oa ca gb ob cb w hx hy hA.1 hB.1 (row_head hA) (row_head hB) la lb ha hb h).mono ?_
      rintro e w' ⟨o',c',t,rfl,g⟩
      exact ⟨y,x :: A,B,oa,ca,o',c',mg_gt h,by simp,⟨hA,la,Nat.le_refl _,fun x h => h⟩,⟨tail_row hB t,t.2.1,t.2.2,fun x h => List.mem_cons_of_mem _ h⟩,rfl,g⟩
     ·refine (pull_ab x y A.length B.length ga oa ca gb ob cb w hx hy hA.1 hB.1 (row_head hA) (row_head hB) la lb ha hb h).mono ?_
      rintro e w' ⟨o1,c1,o2,c2,t1,t2,rfl,g⟩
      exact ⟨plus x y,A,B,o1,c1,o2,c2,mg_eq h,by simp;omega,⟨tail_row hA t1,t1.2.1,t1.2.2,fun x h => List.mem_cons_of_mem _ h⟩,⟨tail_row hB t2,t2.2.1,t2.2.2,fun x h => List.mem_cons_of_mem _ h⟩,rfl,g⟩
     ·refine (pull_a x y A.length B.length ga oa ca gb ob cb w hx hy hA.1 hB.1 (row_head hA) (row_head hB) la lb ha hb h).mono ?_
      rintro e w' ⟨o',c',t,rfl,g⟩
      exact ⟨x,A,y :: B,o',c',ob,cb,mg_lt h,by simp,⟨tail_row hA t,t.2.1,t.2.2,fun x h => List.mem_cons_of_mem _ h⟩,⟨hB,lb,Nat.le_refl _,fun x h => h⟩,rfl,g⟩
theorem rs_mem {p:List Pt}:∀ k i x,x ∈ rs p i k→∃ j,x=sd p j
 | 0,_,_,h => absurd h (by simp [rs])
 | k+1,i,x,h => by
   rcases List.mem_cons.1 h with rfl | h
   ·exact ⟨i,rfl⟩
   ·exact rs_mem k (i+1) x h
theorem rs_wp {p:List Pt} (hp:Plcs p) (n:Nat):∀ x,x ∈ rs p 0 n→Wp x:=fun x hx => by
 obtain ⟨j,rfl⟩:=rs_mem n 0 x hx
 have a:=at_plc hp j
 have b:=at_plc hp ((j+1) % p.length)
 unfold sd sub Wp
 unfold Plc at a b
 simp only
 omega
end Mk
end Go.Proofs.YtlookcbokhknfaaGreat
