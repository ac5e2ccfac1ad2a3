/-
  The landed pull: the next side of two lists.
  The landed pull where one of the lists is empty.
  Plain geometry: the merged sides go around the sum of two polygons. No program.
  The landed pull, at whatever lists that are not both empty.
-/
import Derived.Deep.RegionHeld3
import Derived.Test.YtbpgfenippiepaaGreatDoorMinkLnA
import Derived.Test.YtbpgfenippiepaaGreatDoorMinkMrg
import Derived.Test.YtbpgfenippiepaaGreatDoorHullCf
namespace Go.Proofs.YtbpgfenippiepaaGreatDoor
open Go.RowKit Go.Shelf Hl
namespace Mk
def TailOf (o n c oa ca:Nat):Prop:=(n=0∨oa=o+2)∧n≤ca∧ca≤c
theorem row_tail {w:World} {g o:Nat} {x:Pt} {A:List Pt} (h:Row w g o (x :: A)):Row w g (o+2) A:=⟨h.1,fun i hi => by
 have:=h.2 (i+1) (by simpa using hi)
 rw [show o+2+i * 2=o+(i+1) * 2 by omega]
 exact this⟩
theorem row_head {w:World} {g o:Nat} {x:Pt} {A:List Pt} (h:Row w g o (x :: A)):w.cell? ⟨g,o,none⟩=some (.int .i64 x.1)∧w.cell? ⟨g,o+1,none⟩=some (.int .i64 x.2):=by
 have:=h.2 0 (by simp)
 simp only [Nat.zero_mul,Nat.add_zero] at this
 exact this
set_option maxRecDepth 100000 in
set_option maxHeartbeats 8000000 in
theorem pull_a (x y:Pt) (n m g o c g' o' c':Nat) (w:World) (hx:Wp x) (hy:Wp y) (hgl:g < w.heap.size) (hgl':g' < w.heap.size) (h1:w.cell? ⟨g,o,none⟩=some (.int .i64 x.1)∧w.cell? ⟨g,o+1,none⟩=some (.int .i64 x.2)) (h2:w.cell? ⟨g',o',none⟩=some (.int .i64 y.1)∧w.cell? ⟨g',o'+1,none⟩=some (.int .i64 y.2)) (hn:n+1≤c) (hm:m+1≤c') (hc:c≤9223372036854775807) (_hc':c'≤9223372036854775807) (hd:0 < xp x y) :
  Calls Tryz.prog 174 #[.slice (some ⟨g,o,none⟩) (n+1) c,.slice (some ⟨g',o',none⟩) (m+1) c'] w fun e w' => ∃ oa ca ,TailOf o n c oa ca∧e=.returned (.tuple #[.agg #[.int .i64 x.1,.int .i64 x.2],.slice (some ⟨g,oa,none⟩) n ca,.slice (some ⟨g',o',none⟩) (m+1) c'])∧Grew w w':=by
 obtain ⟨x0,x1⟩:=h1
 obtain ⟨y0,y1⟩:=h2
 have OC:=Lib.hid (fun W => order_m x y W hx hy)
 have PC:=Lib.hid (fun W => plus_m x y W hx hy)
 obtain ⟨z,hz⟩:∃ z,-(xp x y)=z:=⟨_,rfl⟩
 have zn:z < 0:=by omega
 have zm:¬ 0 < z:=by omega
 rw [hz] at OC
 obtain ⟨s,hs⟩:∃ s,plus x y=s:=⟨_,rfl⟩
 rw [hs] at PC
 try rw [hs]
 have zd:decide (z < 0)=true:=by simp;omega
 clear hz hd hx hy
 have q1:¬ ((m:Int)+1=0):=by omega
 have q2:(0:Int) < (n:Int)+1:=by omega
 have q3:(0:Int) < (m:Int)+1:=by omega
 have q4:¬ ((n:Int)+1=0):=by omega
 have q5:(1:Int)≤(n:Int)+1:=by omega
 have q6:(1:Int)≤(m:Int)+1:=by omega
 have q7:(n:Int)+1≤(c:Int):=by omega
 have q8:(m:Int)+1≤(c':Int):=by omega
 have l1:g < w.heap.size+1:=by omega
 have l2:g < w.heap.size+1+1:=by omega
 have l3:g < w.heap.size+1+1+1:=by omega
 have l4:g < w.heap.size+1+1+1+1:=by omega
 have l5:g < w.heap.size+1+1+1+1+1:=by omega
 have l6:g < w.heap.size+1+1+1+1+1+1:=by omega
 have k1:g' < w.heap.size+1:=by omega
 have k2:g' < w.heap.size+1+1:=by omega
 have k3:g' < w.heap.size+1+1+1:=by omega
 have k4:g' < w.heap.size+1+1+1+1:=by omega
 have k5:g' < w.heap.size+1+1+1+1+1:=by omega
 have k6:g' < w.heap.size+1+1+1+1+1+1:=by omega
 have hmx:Tryz.prog.follows .mixedOrders=true:=by kernel_rfl
 go_enter Tryz.func174,Tryz.ntmps174
 go_wp2_with fail
 go_region_held3 (fun W => (W.cell? ⟨g,o,none⟩=some (.int .i64 x.1)∧W.cell? ⟨g,o+1,none⟩=some (.int .i64 x.2))∧(W.cell? ⟨g',o',none⟩=some (.int .i64 y.1)∧W.cell? ⟨g',o'+1,none⟩=some (.int .i64 y.2))) (simp [go_sem, *])
  ((first | (go_at_call 200;refine (OC.out _).mono ?_;rintro e w' ⟨rfl,rfl⟩) | (go_at_call 65;refine (PC.out _).mono ?_;rintro e w' ⟨rfl,rfl⟩)))
 go_wp2_with fail
 go_region_o
 all_goals go_wp2_with fail
 all_goals first
  | exact bodyPost_ret (v:=.tuple #[.agg #[.int .i64 x.1,.int .i64 x.2],.slice (some ⟨g,o,none⟩) n 0,.slice (some ⟨g',o',none⟩) (m+1) c']) (by simp [results,Tryz.results174,go_sem]) rfl ⟨o,0,⟨Or.inl (by omega),by omega,by omega⟩,rfl,gw⟩
  | exact bodyPost_ret (v:=.tuple #[.agg #[.int .i64 x.1,.int .i64 x.2],.slice (some ⟨g,(o+2),none⟩) n (c - 1),.slice (some ⟨g',o',none⟩) (m+1) c']) (by simp [results,Tryz.results174,go_sem]) rfl ⟨(o+2),(c - 1),⟨Or.inr rfl,by omega,by omega⟩,rfl,gw⟩
set_option maxRecDepth 100000 in
set_option maxHeartbeats 8000000 in
theorem pull_b (x y:Pt) (n m g o c g' o' c':Nat) (w:World) (hx:Wp x) (hy:Wp y) (hgl:g < w.heap.size) (hgl':g' < w.heap.size) (h1:w.cell? ⟨g,o,none⟩=some (.int .i64 x.1)∧w.cell? ⟨g,o+1,none⟩=some (.int .i64 x.2)) (h2:w.cell? ⟨g',o',none⟩=some (.int .i64 y.1)∧w.cell? ⟨g',o'+1,none⟩=some (.int .i64 y.2)) (hn:n+1≤c) (hm:m+1≤c') (_hc:c≤9223372036854775807) (hc':c'≤9223372036854775807) (hd:xp x y < 0) :
  Calls Tryz.prog 174 #[.slice (some ⟨g,o,none⟩) (n+1) c,.slice (some ⟨g',o',none⟩) (m+1) c'] w fun e w' => ∃ ob cb ,TailOf o' m c' ob cb∧e=.returned (.tuple #[.agg #[.int .i64 y.1,.int .i64 y.2],.slice (some ⟨g,o,none⟩) (n+1) c,.slice (some ⟨g',ob,none⟩) m cb])∧Grew w w':=by
 obtain ⟨x0,x1⟩:=h1
 obtain ⟨y0,y1⟩:=h2
 have OC:=Lib.hid (fun W => order_m x y W hx hy)
 have PC:=Lib.hid (fun W => plus_m x y W hx hy)
 obtain ⟨z,hz⟩:∃ z,-(xp x y)=z:=⟨_,rfl⟩
 have zn:0 < z:=by omega
 have zm:¬ z < 0:=by omega
 rw [hz] at OC
 obtain ⟨s,hs⟩:∃ s,plus x y=s:=⟨_,rfl⟩
 rw [hs] at PC
 try rw [hs]
 have zd:decide (z < 0)=false:=by simp;omega
 clear hz hd hx hy
 have q1:¬ ((m:Int)+1=0):=by omega
 have q2:(0:Int) < (n:Int)+1:=by omega
 have q3:(0:Int) < (m:Int)+1:=by omega
 have q4:¬ ((n:Int)+1=0):=by omega
 have q5:(1:Int)≤(n:Int)+1:=by omega
 have q6:(1:Int)≤(m:Int)+1:=by omega
 have q7:(n:Int)+1≤(c:Int):=by omega
 have q8:(m:Int)+1≤(c':Int):=by omega
 have l1:g < w.heap.size+1:=by omega
 have l2:g < w.heap.size+1+1:=by omega
 have l3:g < w.heap.size+1+1+1:=by omega
 have l4:g < w.heap.size+1+1+1+1:=by omega
 have l5:g < w.heap.size+1+1+1+1+1:=by omega
 have l6:g < w.heap.size+1+1+1+1+1+1:=by omega
 have k1:g' < w.heap.size+1:=by omega
 have k2:g' < w.heap.size+1+1:=by omega
 have k3:g' < w.heap.size+1+1+1:=by omega
 have k4:g' < w.heap.size+1+1+1+1:=by omega
 have k5:g' < w.heap.size+1+1+1+1+1:=by omega
 have k6:g' < w.heap.size+1+1+1+1+1+1:=by omega
 have hmx:Tryz.prog.follows .mixedOrders=true:=by kernel_rfl
 go_enter Tryz.func174,Tryz.ntmps174
 go_wp2_with fail
 go_region_held3 (fun W => (W.cell? ⟨g,o,none⟩=some (.int .i64 x.1)∧W.cell? ⟨g,o+1,none⟩=some (.int .i64 x.2))∧(W.cell? ⟨g',o',none⟩=some (.int .i64 y.1)∧W.cell? ⟨g',o'+1,none⟩=some (.int .i64 y.2))) (simp [go_sem, *])
  ((first | (go_at_call 200;refine (OC.out _).mono ?_;rintro e w' ⟨rfl,rfl⟩) | (go_at_call 65;refine (PC.out _).mono ?_;rintro e w' ⟨rfl,rfl⟩)))
 go_wp2_with fail
 go_region_held3 (fun W => (W.cell? ⟨g,o,none⟩=some (.int .i64 x.1)∧W.cell? ⟨g,o+1,none⟩=some (.int .i64 x.2))∧(W.cell? ⟨g',o',none⟩=some (.int .i64 y.1)∧W.cell? ⟨g',o'+1,none⟩=some (.int .i64 y.2))) (simp [go_sem, *])
  ((first | (go_at_call 200;refine (OC.out _).mono ?_;rintro e w' ⟨rfl,rfl⟩) | (go_at_call 65;refine (PC.out _).mono ?_;rintro e w' ⟨rfl,rfl⟩)))
 go_wp2_with fail
 go_region_o
 all_goals go_wp2_with fail
 all_goals first
  | exact bodyPost_ret (v:=.tuple #[.agg #[.int .i64 y.1,.int .i64 y.2],.slice (some ⟨g,o,none⟩) (n+1) c,.slice (some ⟨g',o',none⟩) m 0]) (by simp [results,Tryz.results174,go_sem]) rfl ⟨o',0,⟨Or.inl (by omega),by omega,by omega⟩,rfl,gw⟩
  | exact bodyPost_ret (v:=.tuple #[.agg #[.int .i64 y.1,.int .i64 y.2],.slice (some ⟨g,o,none⟩) (n+1) c,.slice (some ⟨g',(o'+2),none⟩) m (c' - 1)]) (by simp [results,Tryz.results174,go_sem]) rfl ⟨(o'+2),(c' - 1),⟨Or.inr rfl,by omega,by omega⟩,rfl,gw⟩
set_option maxRecDepth 100000 in
set_option maxHeartbeats 8000000 in
theorem pull_ab (x y:Pt) (n m g o c g' o' c':Nat) (w:World) (hx:Wp x) (hy:Wp y) (hgl:g < w.heap.size) (hgl':g' < w.heap.size) (h1:w.cell? ⟨g,o,none⟩=some (.int .i64 x.1)∧w.cell? ⟨g,o+1,none⟩=some (.int .i64 x.2)) (h2:w.cell? ⟨g',o',none⟩=some (.int .i64 y.1)∧w.cell? ⟨g',o'+1,none⟩=some (.int .i64 y.2)) (hn:n+1≤c) (hm:m+1≤c') (hc:c≤9223372036854775807) (hc':c'≤9223372036854775807) (hd:xp x y=0) :
  Calls Tryz.prog 174 #[.slice (some ⟨g,o,none⟩) (n+1) c,.slice (some ⟨g',o',none⟩) (m+1) c'] w fun e w' => ∃ oa ca ob cb ,TailOf o n c oa ca∧TailOf o' m c' ob cb∧e=.returned (.tuple #[.agg #[.int .i64 (plus x y).1,.int .i64 (plus x y).2],.slice (some ⟨g,oa,none⟩) n ca,.slice (some ⟨g',ob,none⟩) m cb])∧Grew w w':=by
 obtain ⟨x0,x1⟩:=h1
 obtain ⟨y0,y1⟩:=h2
 have OC:=Lib.hid (fun W => order_m x y W hx hy)
 have PC:=Lib.hid (fun W => plus_m x y W hx hy)
 obtain ⟨z,hz⟩:∃ z,-(xp x y)=z:=⟨_,rfl⟩
 have zn:z=0:=by omega
 have zm:¬ z < 0:=by omega
 rw [hz] at OC
 obtain ⟨s,hs⟩:∃ s,plus x y=s:=⟨_,rfl⟩
 rw [hs] at PC
 try rw [hs]
 have zd:decide (z < 0)=false:=by simp;omega
 clear hz hd hx hy
 have q1:¬ ((m:Int)+1=0):=by omega
 have q2:(0:Int) < (n:Int)+1:=by omega
 have q3:(0:Int) < (m:Int)+1:=by omega
 have q4:¬ ((n:Int)+1=0):=by omega
 have q5:(1:Int)≤(n:Int)+1:=by omega
 have q6:(1:Int)≤(m:Int)+1:=by omega
 have q7:(n:Int)+1≤(c:Int):=by omega
 have q8:(m:Int)+1≤(c':Int):=by omega
 have l1:g < w.heap.size+1:=by omega
 have l2:g < w.heap.size+1+1:=by omega
 have l3:g < w.heap.size+1+1+1:=by omega
 have l4:g < w.heap.size+1+1+1+1:=by omega
 have l5:g < w.heap.size+1+1+1+1+1:=by omega
 have l6:g < w.heap.size+1+1+1+1+1+1:=by omega
 have k1:g' < w.heap.size+1:=by omega
 have k2:g' < w.heap.size+1+1:=by omega
 have k3:g' < w.heap.size+1+1+1:=by omega
 have k4:g' < w.heap.size+1+1+1+1:=by omega
 have k5:g' < w.heap.size+1+1+1+1+1:=by omega
 have k6:g' < w.heap.size+1+1+1+1+1+1:=by omega
 have hmx:Tryz.prog.follows .mixedOrders=true:=by kernel_rfl
 rcases (show c=1∨c ≠ 1 by omega) with hc1 | hc1 <;> rcases (show c'=1∨c' ≠ 1 by omega) with hc2 | hc2
 all_goals (first | (have hc3:c - 1 ≠ 0:=by omega) | skip)
 all_goals (first | (have hc4:c' - 1 ≠ 0:=by omega) | skip)
 all_goals go_enter Tryz.func174,Tryz.ntmps174
 all_goals go_wp2_with fail
 all_goals
  go_region_held3 (fun W => (W.cell? ⟨g,o,none⟩=some (.int .i64 x.1)∧W.cell? ⟨g,o+1,none⟩=some (.int .i64 x.2))∧(W.cell? ⟨g',o',none⟩=some (.int .i64 y.1)∧W.cell? ⟨g',o'+1,none⟩=some (.int .i64 y.2))) (simp [go_sem, *])
  ((first | (go_at_call 200;refine (OC.out _).mono ?_;rintro e w' ⟨rfl,rfl⟩) | (go_at_call 65;refine (PC.out _).mono ?_;rintro e w' ⟨rfl,rfl⟩)))
 all_goals go_wp2_with fail
 all_goals
  go_region_held3 (fun W => (W.cell? ⟨g,o,none⟩=some (.int .i64 x.1)∧W.cell? ⟨g,o+1,none⟩=some (.int .i64 x.2))∧(W.cell? ⟨g',o',none⟩=some (.int .i64 y.1)∧W.cell? ⟨g',o'+1,none⟩=some (.int .i64 y.2))) (simp [go_sem, *])
  ((first | (go_at_call 200;refine (OC.out _).mono ?_;rintro e w' ⟨rfl,rfl⟩) | (go_at_call 65;refine (PC.out _).mono ?_;rintro e w' ⟨rfl,rfl⟩)))
 all_goals go_wp2_with fail
 all_goals
  go_region_held3 (fun W => (W.cell? ⟨g,o,none⟩=some (.int .i64 x.1)∧W.cell? ⟨g,o+1,none⟩=some (.int .i64 x.2))∧(W.cell? ⟨g',o',none⟩=some (.int .i64 y.1)∧W.cell? ⟨g',o'+1,none⟩=some (.int .i64 y.2))) (simp [go_sem, *])
  ((first | (go_at_call 200;refine (OC.out _).mono ?_;rintro e w' ⟨rfl,rfl⟩) | (go_at_call 65;refine (PC.out _).mono ?_;rintro e w' ⟨rfl,rfl⟩)))
 all_goals go_wp2_with fail
 all_goals go_wp2_with fail
 all_goals first
  | exact bodyPost_ret (v:=.tuple #[.agg #[.int .i64 s.1,.int .i64 s.2],.slice (some ⟨g,o,none⟩) n 0,.slice (some ⟨g',o',none⟩) m 0]) (by simp [results,Tryz.results174,go_sem]) rfl ⟨o,0,o',0,⟨Or.inl (by omega),by omega,by omega⟩,⟨Or.inl (by omega),by omega,by omega⟩,rfl,gw⟩
  | exact bodyPost_ret (v:=.tuple #[.agg #[.int .i64 s.1,.int .i64 s.2],.slice (some ⟨g,o,none⟩) n 0,.slice (some ⟨g',(o'+2),none⟩) m (c' - 1)]) (by simp [results,Tryz.results174,go_sem]) rfl ⟨o,0,(o'+2),(c' - 1),⟨Or.inl (by omega),by omega,by omega⟩,⟨Or.inr rfl,by omega,by omega⟩,rfl,gw⟩
  | exact bodyPost_ret (v:=.tuple #[.agg #[.int .i64 s.1,.int .i64 s.2],.slice (some ⟨g,(o+2),none⟩) n (c - 1),.slice (some ⟨g',o',none⟩) m 0]) (by simp [results,Tryz.results174,go_sem]) rfl ⟨(o+2),(c - 1),o',0,⟨Or.inr rfl,by omega,by omega⟩,⟨Or.inl (by omega),by omega,by omega⟩,rfl,gw⟩
  | exact bodyPost_ret (v:=.tuple #[.agg #[.int .i64 s.1,.int .i64 s.2],.slice (some ⟨g,(o+2),none⟩) n (c - 1),.slice (some ⟨g',(o'+2),none⟩) m (c' - 1)]) (by simp [results,Tryz.results174,go_sem]) rfl ⟨(o+2),(c - 1),(o'+2),(c' - 1),⟨Or.inr rfl,by omega,by omega⟩,⟨Or.inr rfl,by omega,by omega⟩,rfl,gw⟩
end Mk
end Go.Proofs.YtbpgfenippiepaaGreatDoor
namespace Go.Proofs.YtbpgfenippiepaaGreatDoor
open Go.RowKit Go.Shelf Hl
namespace Mk
set_option maxRecDepth 100000 in
set_option maxHeartbeats 8000000 in
theorem pull_x (x:Pt) (n g o c g' o' c':Nat) (w:World) (hgl:g < w.heap.size) (h1:w.cell? ⟨g,o,none⟩=some (.int .i64 x.1)∧w.cell? ⟨g,o+1,none⟩=some (.int .i64 x.2)) (hn:n+1≤c) (hc:c≤9223372036854775807) :
  Calls Tryz.prog 174 #[.slice (some ⟨g,o,none⟩) (n+1) c,.slice (some ⟨g',o',none⟩) 0 c'] w fun e w' => ∃ oa ca,TailOf o n c oa ca∧e=.returned (.tuple #[.agg #[.int .i64 x.1,.int .i64 x.2],.slice (some ⟨g,oa,none⟩) n ca,.slice (some ⟨g',o',none⟩) 0 c'])∧Grew w w':=by
 obtain ⟨x0,x1⟩:=h1
 have q2:(0:Int) < (n:Int)+1:=by omega
 have q4:¬ ((n:Int)+1=0):=by omega
 have q5:(1:Int)≤(n:Int)+1:=by omega
 have q7:(n:Int)+1≤(c:Int):=by omega
 have l1:g < w.heap.size+1:=by omega
 have l2:g < w.heap.size+1+1:=by omega
 have hmx:Tryz.prog.follows .mixedOrders=true:=by kernel_rfl
 go_enter Tryz.func174,Tryz.ntmps174
 go_wp2_with fail
 go_region_o
 go_wp2_with fail
 go_region_o
 all_goals go_wp2_with fail
 all_goals first
  | exact bodyPost_ret (v:=.tuple #[.agg #[.int .i64 x.1,.int .i64 x.2],.slice (some ⟨g,o,none⟩) n 0,.slice (some ⟨g',o',none⟩) 0 c']) (by simp [results,Tryz.results174,go_sem]) rfl ⟨o,0,⟨Or.inl (by omega),by omega,by omega⟩,rfl,gw⟩
  | exact bodyPost_ret (v:=.tuple #[.agg #[.int .i64 x.1,.int .i64 x.2],.slice (some ⟨g,(o+2),none⟩) n (c - 1),.slice (some ⟨g',o',none⟩) 0 c']) (by simp [results,Tryz.results174,go_sem]) rfl ⟨(o+2),(c - 1),⟨Or.inr rfl,by omega,by omega⟩,rfl,gw⟩
set_option maxRecDepth 100000 in
set_option maxHeartbeats 8000000 in
theorem pull_y (x:Pt) (n g o c g' o' c':Nat) (w:World) (hgl:g < w.heap.size) (h1:w.cell? ⟨g,o,none⟩=some (.int .i64 x.1)∧w.cell? ⟨g,o+1,none⟩=some (.int .i64 x.2)) (hn:n+1≤c) (hc:c≤9223372036854775807) :
  Calls Tryz.prog 174 #[.slice (some ⟨g',o',none⟩) 0 c',.slice (some ⟨g,o,none⟩) (n+1) c] w fun e w' => ∃ oa ca,TailOf o n c oa ca∧e=.returned (.tuple #[.agg #[.int .i64 x.1,.int .i64 x.2],.slice (some ⟨g',o',none⟩) 0 c',.slice (some ⟨g,oa,none⟩) n ca])∧Grew w w':=by
 obtain ⟨x0,x1⟩:=h1
 have q2:(0:Int) < (n:Int)+1:=by omega
 have q4:¬ ((n:Int)+1=0):=by omega
 have q5:(1:Int)≤(n:Int)+1:=by omega
 have q7:(n:Int)+1≤(c:Int):=by omega
 have l1:g < w.heap.size+1:=by omega
 have l2:g < w.heap.size+1+1:=by omega
 have hmx:Tryz.prog.follows .mixedOrders=true:=by kernel_rfl
 go_enter Tryz.func174,Tryz.ntmps174
 go_wp2_with fail
 go_quiet (fail)
 go_wp2_with fail
 go_region_o
 go_wp2_with fail
 go_region_o
 all_goals go_wp2_with fail
 all_goals first
  | exact bodyPost_ret (v:=.tuple #[.agg #[.int .i64 x.1,.int .i64 x.2],.slice (some ⟨g',o',none⟩) 0 c',.slice (some ⟨g,o,none⟩) n 0]) (by simp [results,Tryz.results174,go_sem]) rfl ⟨o,0,⟨Or.inl (by omega),by omega,by omega⟩,rfl,gw⟩
  | exact bodyPost_ret (v:=.tuple #[.agg #[.int .i64 x.1,.int .i64 x.2],.slice (some ⟨g',o',none⟩) 0 c',.slice (some ⟨g,(o+2),none⟩) n (c - 1)]) (by simp [results,Tryz.results174,go_sem]) rfl ⟨(o+2),(c - 1),⟨Or.inr rfl,by omega,by omega⟩,rfl,gw⟩
end Mk
end Go.Proofs.YtbpgfenippiepaaGreatDoor
namespace Go.Proofs.YtbpgfenippiepaaGreatDoor
open Hl
namespace Mk
theorem at_succ (x:Pt) (l:List Pt) (i:Nat):at' (x :: l) (i+1)=at' l i:=rfl
theorem cs_next:∀ (D:List Pt) (c:Pt) (k:Nat),k+1 < D.length→at' (cs c D) (k+1)=plus (at' (cs c D) k) (at' D k)
 | [],_,_,h => absurd h (by simp)
 | [_],_,_,h => absurd h (by simp)
 | d :: e :: D,c,0,_ => rfl
 | d :: e :: D,c,k+1,h => by
   rw [cs,at_succ,at_succ,at_succ]
   exact cs_next (e :: D) (plus c d) k (by simpa using h)
theorem cor_last {p q:List Pt}:∀ (D:List Pt) (c:Pt),Cor p q c D→1≤D.length→plus (at' (cs c D) (D.length - 1)) (at' D (D.length - 1))=plus (at' p 0) (at' q 0)
 | [],_,_,h => absurd h (by simp)
 | [d],c,⟨_,h⟩,_ => h
 | d :: e :: D,c,⟨_,h⟩,_ => by
   have:=cor_last (e :: D) (plus c d) h (by simp)
   simp only [List.length_cons,Nat.add_sub_cancel] at this ⊢
   rw [cs,at_succ,at_succ]
   exact this
theorem cor_at {p q:List Pt}:∀ (D:List Pt) (c:Pt),Cor p q c D→∀ k,k < D.length→∃ x,x ∈ p∧∃ y,y ∈ q∧at' (cs c D) k=plus x y∧(∀ x',x' ∈ p→0≤xp (at' D k) (sub x' x))∧∀ y',y' ∈ q→0≤xp (at' D k) (sub y' y)
 | [],_,_,_,h => absurd h (by simp)
 | d :: D,c,⟨h,_⟩,0,_ => h
 | d :: D,c,⟨_,h⟩,k+1,hk => cor_at D (plus c d) h k (by simpa using hk)
theorem srt_at:∀ {D:List Pt},D.Pairwise lt→∀ {i j:Nat},i < j→j < D.length→lt (at' D i) (at' D j)
 | [],_,_,_,_,h => absurd h (by simp)
 | d :: D,h,0,j+1,_,hj => (List.pairwise_cons.1 h).1 _ (at_mem (p:=D) (i:=j) (by simpa using hj))
 | d :: D,h,i+1,j+1,hij,hj => srt_at (List.pairwise_cons.1 h).2 (i:=i) (j:=j) (by omega) (by simpa using hj)
theorem nz_ne {v:Pt} (h:nz v):v ≠ (0,0):=fun e => by rw [e] at h;unfold nz at h;simp at h
theorem sub_plus (a b c e:Pt):sub (plus a b) (plus c e)=plus (sub a c) (sub b e):=by unfold sub plus;exact Prod.ext (by simp only;omega) (by simp only;omega)
theorem sub_of_plus {a b d:Pt} (h:b=plus a d):sub b a=d:=by rw [h];unfold sub plus;exact Prod.ext (by simp only;omega) (by simp only;omega)
theorem xp_sub_add (d a b c:Pt):xp d (sub a c)=xp d (sub a b)+xp d (sub b c):=by unfold xp sub;grind
theorem par_same {u v:Pt} (nu:nz u) (nv:nz v) (z:xp u v=0) (d:0 < dp u v):up u↔up v:=by
 have key:∀ {a b:Pt},nz b→xp a b=0→0 < dp a b→up a→up b:=fun {a b} nb z d ha => by
  by_cases ub:up b
  ·exact ub
  ·exfalso
   have hb:=down_neg nb ub
   have a0:=up_first ha
   have b0:=up_first hb
   have n1:(neg b).1 = -b.1:=rfl
   have n2:(neg b).2 = -b.2:=rfl
   unfold dp at d
   have z':a.1 * b.2=a.2 * b.1:=by unfold xp at z;omega
   by_cases z1:a.1=0
   ·have a2:=up_second ha z1
    rw [z1,Int.zero_mul] at z'
    have b1:b.1=0:=by
     rcases Int.mul_eq_zero.1 z'.symm with h | h
     ·omega
     ·exact h
    have b2:=up_second hb (by omega)
    rw [z1,b1] at d
    have:=Int.mul_pos a2 (show 0 < -b.2 by omega)
    rw [Int.mul_neg] at this
    omega
   ·have a1:0 < a.1:=by omega
    have m1:=Int.mul_nonneg a0 (show 0≤-b.1 by omega)
    rw [Int.mul_neg] at m1
    have m2:0 < a.1 * (a.2 * b.2):=by
     have:=Int.mul_pos a1 (show 0 < a.2 * b.2 by omega)
     exact this
    have e:a.1 * (a.2 * b.2)=a.2 * a.2 * b.1:=by
     rw [show a.1 * (a.2 * b.2)=a.2 * (a.1 * b.2) by grind,z']
     grind
    rw [e] at m2
    have:=Int.mul_nonneg (sq_nonneg a.2) (show 0≤-b.1 by omega)
    rw [Int.mul_neg] at this
    omega
 have z':xp v u=0:=by rw [xp_swap];omega
 exact ⟨key nv z d,key nu z' (by rw [dp_comm];exact d)⟩
theorem opp {u v:Pt} (nu:nz u) (nv:nz v) (z:xp u v=0) (n:¬ (up u↔up v)):dp u v < 0:=by
 have h0:=xp_dp (nz_ne nu) (nz_ne nv) z
 rcases Int.lt_or_gt_of_ne h0 with h | h
 ·exact h
 ·exact absurd (par_same nu nv z h) n
theorem lag_zero {u v z:Pt} (nu:nz u) (h1:xp u v=0) (h2:xp u z=0):xp v z=0:=by
 have e:=lag u v z
 rw [h1,h2,Int.mul_zero,Int.zero_mul,Int.sub_zero] at e
 have:=dd_pos (nz_ne nu)
 rcases Int.mul_eq_zero.1 e with h | h
 ·omega
 ·exact h
theorem lag_neg {u v z:Pt} (nu:nz u) (h1:xp u v=0) (d:dp u v < 0) (h:0≤xp v z):xp u z≤0:=by
 have e:=lag u v z
 rw [h1,Int.zero_mul,Int.sub_zero] at e
 have g:=Int.mul_nonneg (Int.le_of_lt (dd_pos (nz_ne nu))) h
 rw [e] at g
 rcases Int.lt_or_le 0 (xp u z) with k | k
 ·have:=Int.mul_neg_of_neg_of_pos d k
  omega
 ·exact k
structure Ring (l L D:List Pt):Prop where
 len:L.length=D.length
 three:3≤D.length
 next:∀ k,k < D.length→at' L ((k+1) % D.length)=plus (at' L k) (at' D k)
 left:∀ k,k < D.length→∀ y,y ∈ l→0≤xp (at' D k) (sub y (at' L k))
 mem:∀ k,k < D.length→at' L k ∈ l
 srt:∀ {i j:Nat},i < j→j < D.length→lt (at' D i) (at' D j)
 nzs:∀ k,k < D.length→nz (at' D k)
theorem Ring.side {l L D:List Pt} (R:Ring l L D) {k:Nat} (hk:k < D.length):sub (at' L ((k+1) % D.length)) (at' L k)=at' D k:=sub_of_plus (R.next k hk)
theorem Ring.half {l L D:List Pt} (R:Ring l L D) {e f:Nat} (he:e < D.length) (hf:f < D.length) (hne:e ≠ f) (z:xp (at' D e) (at' D f)=0):¬ (up (at' D e)↔up (at' D f)):=by
 intro s
 have z':xp (at' D f) (at' D e)=0:=by rw [xp_swap];omega
 rcases Nat.lt_or_gt_of_ne hne with h | h
 ·rcases R.srt h hf with ⟨u,d⟩ | ⟨_,x⟩
  ·exact d (s.1 u)
  ·omega
 ·rcases R.srt h he with ⟨u,d⟩ | ⟨_,x⟩
  ·exact d (s.2 u)
  ·omega
theorem Ring.flat {l L D:List Pt} (R:Ring l L D) {e f:Nat} (he:e < D.length) (hf:f < D.length) (hne:e ≠ f) (z:xp (at' D e) (at' D f)=0) (h:xp (at' D e) (sub (at' L e) (at' L f))=0):False:=by
 have ne:=R.nzs e he
 have nf:=R.nzs f hf
 have n:=R.half he hf hne z
 have d:=opp ne nf z n
 have all:∀ m,m < D.length→xp (at' D e) (sub (at' L m) (at' L e))=0:=fun m hm => by
  have h1:=R.left e he _ (R.mem m hm)
  have h2:=lag_neg ne z d (R.left f hf _ (R.mem m hm))
  have h3:=xp_sub_add (at' D e) (at' L m) (at' L e) (at' L f)
  omega
 have par:∀ m,m < D.length→xp (at' D e) (at' D m)=0:=fun m hm => by
  rw [← R.side hm]
  have h1:=all m hm
  have h2:=all _ (nx_lt (n:=D.length) (i:=m) (by omega))
  have h3:=xp_sub_add (at' D e) (at' L ((m+1) % D.length)) (at' L m) (at' L e)
  omega
 obtain ⟨m,hm,m1,m2⟩:∃ m,m < D.length∧m ≠ e∧m ≠ f:=by
  have:=R.three
  by_cases h0:0 ≠ e∧0 ≠ f
  ·exact ⟨0,by omega,h0.1,h0.2⟩
  ·by_cases h1:1 ≠ e∧1 ≠ f
   ·exact ⟨1,by omega,h1.1,h1.2⟩
   ·exact ⟨2,by omega,by omega,by omega⟩
 have k1:=R.half he hm (Ne.symm m1) (par m hm)
 have k2:=R.half hf hm (Ne.symm m2) (lag_zero ne z (par m hm))
 by_cases a:up (at' D e) <;> by_cases b:up (at' D f) <;> by_cases c:up (at' D m) <;> simp [a,b,c] at n k1 k2
theorem Ring.turn {l L D:List Pt} (R:Ring l L D) {i:Nat} (hi:i < D.length):0 < xp (at' D (pv D.length i)) (at' D i):=by
 have h3:=R.three
 have hv:pv D.length i < D.length:=pv_lt (by omega)
 have e:=R.next _ hv
 rw [pv_next hi] at e
 have e1:sub (at' L i) (at' L (pv D.length i))=at' D (pv D.length i):=sub_of_plus e
 have h1:=R.left _ hv _ (R.mem _ (nx_lt (n:=D.length) (i:=i) (by omega)))
 rw [xp_sub_add _ _ (at' L i),R.side hi,e1,xp_self] at h1
 rcases Int.lt_or_le 0 (xp (at' D (pv D.length i)) (at' D i)) with g | g
 ·exact g
 ·refine (R.flat hv hi (fun e => by
   have:=pv_next hi
   rw [e] at this
   exact nx_ne (by omega) hi this) (by omega) ?_).elim
  have:=xp_neg (at' D (pv D.length i)) (at' L (pv D.length i)) (at' L i)
  rw [e1,xp_self] at this
  omega
theorem Ring.ne {l L D:List Pt} (R:Ring l L D) {i j:Nat} (hi:i < D.length) (hj:j < D.length) (hne:i ≠ j):at' L i ≠ at' L j:=by
 intro e
 have h3:=R.three
 have key:∀ a b,a < D.length→b < D.length→at' L a=at' L b→0≤xp (at' D a) (at' D b):=fun a b ha hb e => by
  have h1:=R.left a ha _ (R.mem _ (nx_lt (n:=D.length) (i:=b) (by omega)))
  rw [e,R.side hb] at h1
  exact h1
 have a:=key i j hi hj e
 have b:=key j i hj hi e.symm
 have s:=xp_swap (at' D i) (at' D j)
 exact R.flat hi hj hne (by omega) (by rw [e];unfold xp sub;grind)
theorem ring_hull {l L D:List Pt} (R:Ring l L D) (h0:∀ y,y ∈ l→y=at' L 0∨ls (at' L 0) y):IsHull l L:=by
 have h3:=R.three
 have len:=R.len
 have ln:L.length=D.length:=len
 refine hull_of_sides (by omega) (fun x hx => ?_) ?_ ?_ ?_ ?_
 ·obtain ⟨k,hk,rfl⟩:=mem_at hx
  exact R.mem k (by omega)
 ·intro i j hi hj hne
  exact R.ne (by omega) (by omega) hne
 ·intro i hi y hy
  rw [ln,cr_xp,R.side (by omega)]
  exact R.left i (by omega) y hy
 ·intro i hi
  rw [ln,cr_sides,R.side (by omega)]
  have hv:pv D.length i < D.length:=pv_lt (by omega)
  have e:=R.next _ hv
  rw [pv_next (show i < D.length by omega)] at e
  rw [sub_of_plus e]
  exact R.turn (by omega)
 ·intro i h1 hi
  rcases h0 _ (R.mem i (by omega)) with e | e
  ·exact absurd e (R.ne (by omega) (by omega) (by omega))
  ·exact e
theorem pg_least {p:List Pt} (hp:Pg p) {x:Pt} (hx:x ∈ p):x=at' p 0∨ls (at' p 0) x:=by
 obtain ⟨i,hi,rfl⟩:=mem_at hx
 by_cases e:i=0
 ·exact Or.inl (by rw [e])
 ·exact Or.inr (hp.2.1 i (by omega) hi)
theorem sums_least {p q:List Pt} (hp:Pg p) (hq:Pg q) {y:Pt} (hy:y ∈ sums p q):y=plus (at' p 0) (at' q 0)∨ls (plus (at' p 0) (at' q 0)) y:=by
 obtain ⟨a,ha,b,hb,rfl⟩:=mem_sums.1 hy
 have h1:=pg_least hp ha
 have h2:=pg_least hq hb
 generalize at' p 0=u at h1
 generalize at' q 0=v at h2
 rcases a with ⟨a1,a2⟩
 rcases b with ⟨b1,b2⟩
 rcases u with ⟨u1,u2⟩
 rcases v with ⟨v1,v2⟩
 unfold ls plus at *
 simp only [Prod.mk.injEq] at *
 omega
theorem two_sum {p q:List Pt} (hp:Pg p) (hq:Pg q) (lp:p.length=2) (lq:q.length=2) (z:xp (sd p 0) (sd q 0)=0):IsHull (sums p q) [plus (at' p 0) (at' q 0),plus (at' p 1) (at' q 1)]:=by
 have up1:=hp.2.1 1 (by omega) (by omega)
 have uq1:=hq.2.1 1 (by omega) (by omega)
 have ep:sd p 0=sub (at' p 1) (at' p 0):=by unfold sd;rw [lp]
 have eq:sd q 0=sub (at' q 1) (at' q 0):=by unfold sd;rw [lq]
 rw [ep,eq] at z
 have mp:∀ x,x ∈ p→x=at' p 0∨x=at' p 1:=fun x hx => by
  obtain ⟨i,hi,rfl⟩:=mem_at hx
  rcases (show i=0∨i=1 by omega) with rfl | rfl
  ·exact Or.inl rfl
  ·exact Or.inr rfl
 have mq:∀ x,x ∈ q→x=at' q 0∨x=at' q 1:=fun x hx => by
  obtain ⟨i,hi,rfl⟩:=mem_at hx
  rcases (show i=0∨i=1 by omega) with rfl | rfl
  ·exact Or.inl rfl
  ·exact Or.inr rfl
 have p0:at' p 0 ∈ p:=at_mem (by omega)
 have p1:at' p 1 ∈ p:=at_mem (by omega)
 have q0:at' q 0 ∈ q:=at_mem (by omega)
 have q1:at' q 1 ∈ q:=at_mem (by omega)
 have hlen:[plus (at' p 0) (at' q 0),plus (at' p 1) (at' q 1)].length=2:=rfl
 refine ⟨⟨by rw [hlen];omega,fun i h1 h2 => ?_,fun h => absurd h (by rw [hlen];omega)⟩,fun x hx => ?_,fun x hx => ?_⟩
 ·rw [hlen] at h2
  obtain rfl:i=1:=by omega
  show ls (plus (at' p 0) (at' q 0)) (plus (at' p 1) (at' q 1))
  unfold ls plus at *
  simp only at *
  omega
 ·rcases List.mem_cons.1 hx with rfl | hx
  ·exact sums_mem p0 q0
  ·obtain rfl:=List.mem_singleton.1 hx
   exact sums_mem p1 q1
 ·obtain ⟨a,ha,b,hb,rfl⟩:=mem_sums.1 hx
  unfold Hs
  rw [if_neg (by rw [hlen];omega),if_pos hlen]
  show cr (plus (at' p 0) (at' q 0)) (plus (at' p 1) (at' q 1)) (plus a b)=0∧btw (plus (at' p 0) (at' q 0)) (plus (at' p 1) (at' q 1)) (plus a b)
  have ha:=mp a ha
  have hb:=mq b hb
  generalize at' p 0=A at *
  generalize at' p 1=B at *
  generalize at' q 0=C at *
  generalize at' q 1=E at *
  have zz:(B.1 - A.1) * (E.2 - C.2)=(B.2 - A.2) * (E.1 - C.1):=by unfold xp sub at z;simp only at z;omega
  have same:(0≤B.2 - A.2∧0≤E.2 - C.2)∨(B.2 - A.2≤0∧E.2 - C.2≤0):=by
   unfold ls at up1 uq1
   by_cases g1:B.2 - A.2 < 0
   ·by_cases g2:E.2 - C.2≤0
    ·omega
    ·exfalso
     have m1:=Int.mul_pos (show 0 < B.1 - A.1 by omega) (show 0 < E.2 - C.2 by omega)
     have m2:=Int.mul_nonneg (show 0≤-(B.2 - A.2) by omega) (show 0≤E.1 - C.1 by omega)
     rw [Int.neg_mul] at m2
     omega
   ·by_cases g2:E.2 - C.2 < 0
    ·by_cases g3:B.2 - A.2=0
     ·omega
     ·exfalso
      have m1:=Int.mul_pos (show 0 < B.2 - A.2 by omega) (show 0 < E.1 - C.1 by omega)
      have m2:=Int.mul_nonneg (show 0≤B.1 - A.1 by omega) (show 0≤-(E.2 - C.2) by omega)
      rw [Int.mul_neg] at m2
      omega
    ·omega
  have x1:0≤B.1 - A.1:=by unfold ls at up1;omega
  have x2:0≤E.1 - C.1:=by unfold ls at uq1;omega
  rcases ha with rfl | rfl <;> rcases hb with rfl | rfl <;> refine ⟨by unfold cr plus;grind,?_⟩ <;> unfold btw plus <;> simp only <;> omega
theorem merge_hull {p q:List Pt} (hp:Vl p) (hq:Vl q) (p2:2≤p.length) (q2:2≤q.length):IsHull (sums p q) (cs (plus (at' p 0) (at' q 0)) (mg (rs p 0 p.length) (rs q 0 q.length))):=by
 have G:=merged hp hq p2 q2 (p.length+q.length) p.length q.length 0 0 (Nat.le_refl _) (Nat.zero_add _) (Nat.zero_add _) (fun h => absurd h (by omega)) (fun h => absurd h (by omega))
 have ML:=mg_len (p.length+q.length) (rs p 0 p.length) (rs q 0 q.length) (by rw [rs_len,rs_len];exact Nat.le_refl _)
 rw [rs_len,rs_len] at ML
 obtain ⟨D,hD⟩:∃ D,mg (rs p 0 p.length) (rs q 0 q.length)=D:=⟨_,rfl⟩
 have e0:plus (ad p 0) (ad q 0)=plus (at' p 0) (at' q 0):=by unfold ad;rw [Nat.zero_mod,Nat.zero_mod]
 obtain ⟨_,srt,nzs,cor⟩:=G
 rw [e0] at cor
 rw [hD] at srt nzs cor ML ⊢
 by_cases h3:3≤D.length
 ·have R:Ring (sums p q) (cs (plus (at' p 0) (at' q 0)) D) D:=by
   refine ⟨cs_len _ _,h3,fun k hk => ?_,fun k hk y hy => ?_,fun k hk => ?_,fun {i j} h1 h2 => srt_at srt h1 h2,fun k hk => nzs _ (at_mem hk)⟩
   ·by_cases e:k+1 < D.length
    ·rw [Nat.mod_eq_of_lt e]
     exact cs_next D _ k e
    ·have ek:k=D.length - 1:=by omega
     rw [show k+1=D.length by omega,Nat.mod_self,ek,cor_last D _ cor (by omega)]
     cases D with
     | nil => simp at h3
     | cons d D => rfl
   ·obtain ⟨x,hx,z,hz,e,g1,g2⟩:=cor_at D _ cor k hk
    obtain ⟨a,ha,b,hb,rfl⟩:=mem_sums.1 hy
    rw [e,sub_plus,xp_plus_r]
    have:=g1 a ha
    have:=g2 b hb
    omega
   ·obtain ⟨x,hx,z,hz,e,_⟩:=cor_at D _ cor k hk
    rw [e]
    exact sums_mem hx hz
  refine ring_hull R (fun y hy => ?_)
  have e1:at' (cs (plus (at' p 0) (at' q 0)) D) 0=plus (at' p 0) (at' q 0):=by
   cases D with
   | nil => simp at h3
   | cons d D => rfl
  rw [e1]
  exact sums_least hp.pg hq.pg hy
 ·have lp:p.length=2:=by omega
  have lq:q.length=2:=by omega
  have ep:rs p 0 p.length=[sd p 0,sd p 1]:=by rw [lp];rfl
  have eq:rs q 0 q.length=[sd q 0,sd q 1]:=by rw [lq];rfl
  rw [ep,eq] at hD
  have z:xp (sd p 0) (sd q 0)=0:=by
   rcases Int.lt_trichotomy (xp (sd p 0) (sd q 0)) 0 with c | c | c
   ·exfalso
    rw [mg_gt c] at hD
    have:=mg_len 3 [sd p 0,sd p 1] [sd q 1] (by simp)
    rw [← hD] at h3
    simp only [List.length_cons,List.length_nil] at this h3
    omega
   ·exact c
   ·exfalso
    rw [mg_lt c] at hD
    have:=mg_len 3 [sd p 1] [sd q 0,sd q 1] (by simp)
    rw [← hD] at h3
    simp only [List.length_cons,List.length_nil] at this h3
    omega
  have T:=two_sum hp.pg hq.pg lp lq z
  have s1:sd p 1=sub (at' p 0) (at' p 1):=by unfold sd;rw [lp]
  have s2:sd q 1=sub (at' q 0) (at' q 1):=by unfold sd;rw [lq]
  have t1:sd p 0=sub (at' p 1) (at' p 0):=by unfold sd;rw [lp]
  have t2:sd q 0=sub (at' q 1) (at' q 0):=by unfold sd;rw [lq]
  have z2:xp (sd p 1) (sd q 1)=0:=by
   rw [s1,s2]
   rw [t1,t2] at z
   unfold xp sub at *
   grind
  have e2:D=[plus (sd p 0) (sd q 0),plus (sd p 1) (sd q 1)]:=by
   rw [← hD,mg_eq z,mg_eq z2,mg_nil_l]
  have e3:plus (plus (at' p 0) (at' q 0)) (plus (sd p 0) (sd q 0))=plus (at' p 1) (at' q 1):=by
   rw [t1,t2]
   unfold plus sub
   exact Prod.ext (by simp only;omega) (by simp only;omega)
  rw [e2]
  show IsHull _ [_,plus (plus (at' p 0) (at' q 0)) (plus (sd p 0) (sd q 0))]
  rw [e3]
  exact T
theorem plus_zero (x:Pt):plus x (0,0)=x:=by unfold plus;simp
theorem zero_plus (x:Pt):plus (0,0) x=x:=by unfold plus;simp
theorem xp_zero (x:Pt):xp x (0,0)=0:=by unfold xp;simp
theorem zero_xp (x:Pt):xp (0,0) x=0:=by unfold xp;simp
theorem rs_one {p:List Pt} (h:p.length=1):rs p 0 p.length=[(0,0)]:=by
 rw [h]
 show [sd p 0]=_
 unfold sd sub
 rw [h]
 simp
theorem cs_sides {p:List Pt} (z:Pt):∀ k i,i+k=p.length→cs (plus (at' p i) z) (rs p i k)=(p.drop i).map fun x => plus x z
 | 0,i,h => by
   rw [rs,List.drop_of_length_le (by omega)]
   rfl
 | k+1,i,h => by
   have hi:i < p.length:=by omega
   have e:at' p i=p[i]:=by unfold at';simp [hi]
   rw [rs,cs,List.drop_eq_getElem_cons hi,List.map_cons,← e]
   congr 1
   by_cases hk:k=0
   ·rw [hk,rs,List.drop_of_length_le (by omega)]
    rfl
   ·have hs:plus (plus (at' p i) z) (sd p i)=plus (at' p (i+1)) z:=by
     unfold sd
     rw [Nat.mod_eq_of_lt (show i+1 < p.length by omega)]
     unfold plus sub
     exact Prod.ext (by simp only;omega) (by simp only;omega)
    rw [hs]
    exact cs_sides z k (i+1) (by omega)
def msum (p q:List Pt):List Pt:=cs (plus (at' p 0) (at' q 0)) (mg (rs p 0 p.length) (rs q 0 q.length))
theorem one_list {p:List Pt} (h:p.length=1):p=[at' p 0]:=by
 cases p with
 | nil => cases h
 | cons x p =>
   cases p with
   | nil => rfl
   | cons y p => simp at h
theorem mg_zero_r {a:List Pt} (h:1≤a.length):mg a [(0,0)]=a:=by
 cases a with
 | nil => simp at h
 | cons x a => rw [mg_eq (xp_zero x),plus_zero,mg_nil_r]
theorem mg_zero_l {a:List Pt} (h:1≤a.length):mg [(0,0)] a=a:=by
 cases a with
 | nil => simp at h
 | cons x a => rw [mg_eq (zero_xp x),zero_plus,mg_nil_l]
theorem msum_hull {p q:List Pt} (hp:Vl p) (hq:Vl q):IsHull (sums p q) (msum p q):=by
 have lp:=hp.1.1
 have lq:=hq.1.1
 unfold msum
 by_cases q1:q.length=1
 ·have e:=shift_sum hp.pg (at' q 0)
  rw [← one_list q1] at e
  rw [rs_one q1,mg_zero_r (by rw [rs_len];exact lp),cs_sides _ _ 0 (Nat.zero_add _)]
  exact e
 ·by_cases p1:p.length=1
  ·have e:=sum_comm (shift_sum hq.pg (at' p 0))
   rw [← one_list p1] at e
   rw [rs_one p1,mg_zero_l (by rw [rs_len];exact lq),plus_comm,cs_sides _ _ 0 (Nat.zero_add _)]
   exact e
  ·exact merge_hull hp hq (by omega) (by omega)
end Mk
end Go.Proofs.YtbpgfenippiepaaGreatDoor
namespace Go.Proofs.YtbpgfenippiepaaGreatDoor
open Go.RowKit Go.Shelf Hl
namespace Mk
theorem row_nil {w:World} {g o:Nat} (h:g < w.heap.size):Row w g o []:=⟨h,fun i hi => absurd hi (by simp)⟩
theorem tail_row {w:World} {g o c oa ca:Nat} {x:Pt} {A:List Pt} (h:Row w g o (x :: A)) (t:TailOf o A.length c oa ca):Row w g oa A:=by
 rcases t.1 with h0 | rfl
 ·have:A=[]:=List.length_eq_zero_iff.1 h0
  subst this
  exact row_nil h.1
 ·exact row_tail h
def Pulls (A B:List Pt) (ga gb ca cb:Nat) (w:World) (e:Ending) (w':World):Prop:=∃ (s:Pt) (A' B':List Pt) (oa' ca' ob' cb':Nat),mg A B=s :: mg A' B'∧A'.length+B'.length < A.length+B.length ∧
 (Row w ga oa' A'∧A'.length≤ca'∧ca'≤ca∧∀ x,x ∈ A'→x ∈ A)∧(Row w gb ob' B'∧B'.length≤cb'∧cb'≤cb∧∀ x,x ∈ B'→x ∈ B) ∧
 e=.returned (.tuple #[.agg #[.int .i64 s.1,.int .i64 s.2],.slice (some ⟨ga,oa',none⟩) A'.length ca',.slice (some ⟨gb,ob',none⟩) B'.length cb'])∧Grew w w'
theorem pull_any (A B:List Pt) (ga oa ca gb ob cb:Nat) (w:World) (hA:Row w ga oa A) (hB:Row w gb ob B) (la:A.length≤ca) (lb:B.length≤cb) (ha:ca≤9223372036854775807) (hb:cb≤9223372036854775807) (wa:∀ x,x ∈ A→Wp x) (wb:∀ x,x ∈ B→Wp x) (hne:A ≠ []∨B ≠ []) :
  Calls Tryz.prog 174 #[.slice (some ⟨ga,oa,none⟩) A.length ca,.slice (some ⟨gb,ob,none⟩) B.length cb] w (Pulls A B ga gb ca cb w):=by
 cases A with
 | nil =>
   cases B with
   | nil => rcases hne with h | h <;> exact absurd rfl h
   | cons y B =>
     refine (pull_y y B.length gb ob cb ga oa ca w hB.1 (row_head hB) lb hb).mono ?_
     rintro e w' ⟨o',c',t,rfl,g⟩
     exact ⟨y,[],B,oa,ca,o',c',by rw [mg_nil_l,mg_nil_l],by simp,⟨hA,la,Nat.le_refl _,fun x h => h⟩,⟨tail_row hB t,t.2.1,t.2.2,fun x h => List.mem_cons_of_mem _ h⟩,rfl,g⟩
 | cons x A =>
   cases B with
   | nil =>
     refine (pull_x x A.length ga oa ca gb ob cb w hA.1 (row_head hA) la ha).mono ?_
     rintro e w' ⟨o',c',t,rfl,g⟩
     exact ⟨x,A,[],o',c',ob,cb,by rw [mg_nil_r,mg_nil_r],by simp,⟨tail_row hA t,t.2.1,t.2.2,fun x h => List.mem_cons_of_mem _ h⟩,⟨hB,lb,Nat.le_refl _,fun x h => h⟩,rfl,g⟩
   | cons y B =>
     have hx:=wa x (List.mem_cons_self ..)
     have hy:=wb y (List.mem_cons_self ..)
     rcases Int.lt_trichotomy (xp x y) 0 with h | h | h
     ·refine (pull_b x y A.length B.length ga oa ca gb ob cb w hx hy hA.1 hB.1 (row_head hA) (row_head hB) la lb ha hb h).mono ?_
      rintro e w' ⟨o',c',t,rfl,g⟩
      exact ⟨y,x :: A,B,oa,ca,o',c',mg_gt h,by simp,⟨hA,la,Nat.le_refl _,fun x h => h⟩,⟨tail_row hB t,t.2.1,t.2.2,fun x h => List.mem_cons_of_mem _ h⟩,rfl,g⟩
     ·refine (pull_ab x y A.length B.length ga oa ca gb ob cb w hx hy hA.1 hB.1 (row_head hA) (row_head hB) la lb ha hb h).mono ?_
      rintro e w' ⟨o1,c1,o2,c2,t1,t2,rfl,g⟩
      exact ⟨plus x y,A,B,o1,c1,o2,c2,mg_eq h,by simp;omega,⟨tail_row hA t1,t1.2.1,t1.2.2,fun x h => List.mem_cons_of_mem _ h⟩,⟨tail_row hB t2,t2.2.1,t2.2.2,fun x h => List.mem_cons_of_mem _ h⟩,rfl,g⟩
     ·refine (pull_a x y A.length B.length ga oa ca gb ob cb w hx hy hA.1 hB.1 (row_head hA) (row_head hB) la lb ha hb h).mono ?_
      rintro e w' ⟨o',c',t,rfl,g⟩
      exact ⟨x,A,y :: B,o',c',ob,cb,mg_lt h,by simp,⟨tail_row hA t,t.2.1,t.2.2,fun x h => List.mem_cons_of_mem _ h⟩,⟨hB,lb,Nat.le_refl _,fun x h => h⟩,rfl,g⟩
theorem rs_mem {p:List Pt}:∀ k i x,x ∈ rs p i k→∃ j,x=sd p j
 | 0,_,_,h => absurd h (by simp [rs])
 | k+1,i,x,h => by
   rcases List.mem_cons.1 h with rfl | h
   ·exact ⟨i,rfl⟩
   ·exact rs_mem k (i+1) x h
theorem rs_wp {p:List Pt} (hp:Plcs p) (n:Nat):∀ x,x ∈ rs p 0 n→Wp x:=fun x hx => by
 obtain ⟨j,rfl⟩:=rs_mem n 0 x hx
 have a:=at_plc hp j
 have b:=at_plc hp ((j+1) % p.length)
 unfold sd sub Wp
 unfold Plc at a b
 simp only
 omega
end Mk
end Go.Proofs.YtbpgfenippiepaaGreatDoor
