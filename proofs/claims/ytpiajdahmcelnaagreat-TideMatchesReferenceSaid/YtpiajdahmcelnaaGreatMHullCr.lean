/-
  The landed add and handOn: places are pushed on a chain, one by one.
-/
import Derived.Test.YtpiajdahmcelnaaGreatMHullLay
import Derived.Test.YtpiajdahmcelnaaGreatMHullCm
import Derived.Test.YtpiajdahmcelnaaGreatMHullCon
namespace Go.Proofs.YtpiajdahmcelnaaGreat
open Go.RowKit Go.Shelf
namespace Hl
theorem append_T {ops : Array Oper} {rest : List Oper} {o : Oper} {a : Act} {Q : Exit → Act → World → Prop} (w : World) (hgd : o.guard = none) (s x : Operand) (T : TypeId) (hT : Tryz.prog.underlying T = some (.slice 30))
    (ho : o.op = .call { callee := .builtin .append, args := #[s, x], argTypes := #[T, T] }) (B : Nat) (v : Value) (p q : List Pt) (wb wo c : Nat)
    (hs : a.eval s = v) (hown : Own B w v p) (hx : a.eval x = .slice (some ⟨wb, wo, none⟩) q.length c) (hr : Row w wb wo q) (hl : p.length + q.length ≤ 4000000) (hB : B ≤ w.heap.size)
    (h : ∀ v' w', Own B w' v' (p ++ q) → w.grownBy w' v.ownBlock → wpList Tryz.prog ops Q rest (a.put o.dst v') w') : wpList Tryz.prog ops Q (o :: rest) a w := by
  obtain ⟨i0, hi, hz0, hz1, hz2⟩ := info_parts info_pt
  refine wpList_append_own w hgd s x T ho B 30 i0 (.agg #[.int .i64 0, .int .i64 0]) 2 16 hT hi hz0 hz1 hz2 rfl (by decide) v p.length (cellsOf p) hs hown ⟨wb, wo, none⟩ q.length c (cellsOf q) hx (cellsOf_len q) (row_cells hr) (cells_one q) (by unfold maxLen; omega) (by omega) hB ?_
  intro v' w' h1 h2 _
  refine h v' w' ?_ h2
  unfold Own
  rw [cellsOf_append, List.length_append]
  exact h1
theorem Own.take {B : Nat} {w : World} {g cap : Nat} {p : List Pt} (h : Own B w (.slice (some ⟨g, 0, none⟩) p.length cap) p) (k : Nat) (hk : k ≤ p.length) : Own B w (.slice (some ⟨g, 0, none⟩) k cap) (p.take k) := by
  have h1 := own_at.1 ((own_at.2 h).take k)
  rwa [show (p.take k).length = k by simp; omega] at h1
theorem Own.block {B : Nat} {w : World} {v : Value} {p : List Pt} (h : Own B w v p) : ∀ k, v.ownBlock = some k → B ≤ k := fun k e => (World.ownsRow.lt h k e).1
theorem Own.keeps {B : Nat} {w w' : World} {v : Value} {p : List Pt} {row : Option Nat} (h : Own B w v p) (g : w.grownBy w' row) (hne : v.ownBlock = none ∨ v.ownBlock ≠ row) : Own B w' v p := World.ownsRow.kept h g hne

/-! ### What is pushed -/
def pops (x : Pt) : Nat → List Pt → List Pt
  | 0, S => S
  | n + 1, S => if 2 ≤ S.length ∧ cr (at' S (S.length - 2)) (at' S (S.length - 1)) x ≤ 0 then pops x n (S.take (S.length - 1)) else S
def pushP (x : Pt) (S : List Pt) : List Pt := pops x S.length S ++ [x]
theorem pushP_pop {x : Pt} {S : List Pt} (h2 : 2 ≤ S.length) (hc : cr (at' S (S.length - 2)) (at' S (S.length - 1)) x ≤ 0) : pushP x S = pushP x (S.take (S.length - 1)) := by
  unfold pushP
  congr 1
  have hl : (S.take (S.length - 1)).length = S.length - 1 := by simp
  rw [hl]
  obtain ⟨n, hn⟩ : ∃ n, S.length = n + 1 := ⟨S.length - 1, by omega⟩
  conv => lhs; rw [hn]
  unfold pops
  rw [if_pos ⟨h2, hc⟩, show S.length - 1 = n by omega]
  cases n <;> rfl
theorem pushP_stop {x : Pt} {S : List Pt} (h : 2 ≤ S.length → 0 < cr (at' S (S.length - 2)) (at' S (S.length - 1)) x) : pushP x S = S ++ [x] := by
  unfold pushP
  congr 1
  cases hn : S.length with
  | zero => rfl
  | succ n =>
    unfold pops
    rw [if_neg (show ¬ (2 ≤ S.length ∧ cr (at' S (S.length - 2)) (at' S (S.length - 1)) x ≤ 0) from fun hc => by have := h hc.1; omega)]
theorem pushP_len (x : Pt) : ∀ (n : Nat) (S : List Pt), S.length = n → (pushP x S).length ≤ n + 1 ∧ 1 ≤ (pushP x S).length ∧ at' (pushP x S) ((pushP x S).length - 1) = x := by
  intro n
  induction n with
  | zero =>
    intro S h
    rw [pushP_stop (x := x) (S := S) (fun h2 => by omega)]
    refine ⟨by rw [List.length_append, List.length_singleton]; omega, by rw [List.length_append, List.length_singleton]; omega, ?_⟩
    rw [List.length_append, List.length_singleton, Nat.add_sub_cancel, at_last]
  | succ n ih =>
    intro S h
    by_cases hc : 2 ≤ S.length ∧ cr (at' S (S.length - 2)) (at' S (S.length - 1)) x ≤ 0
    · rw [pushP_pop hc.1 hc.2]
      obtain ⟨a, b, c⟩ := ih (S.take (S.length - 1)) (by simp; omega)
      exact ⟨by omega, b, c⟩
    · rw [pushP_stop (x := x) (S := S) (fun h2 => by
        have : ¬ cr (at' S (S.length - 2)) (at' S (S.length - 1)) x ≤ 0 := fun hh => hc ⟨h2, hh⟩
        omega)]
      refine ⟨by rw [List.length_append, List.length_singleton]; omega, by rw [List.length_append, List.length_singleton]; omega, ?_⟩
      rw [List.length_append, List.length_singleton, Nat.add_sub_cancel, at_last]
theorem pushP_mem (x : Pt) : ∀ (n : Nat) (S : List Pt), S.length = n → ∀ y, y ∈ pushP x S → y ∈ S ∨ y = x := by
  intro n
  induction n with
  | zero =>
    intro S h y hy
    rw [pushP_stop (x := x) (S := S) (fun h2 => by omega)] at hy
    simpa using hy
  | succ n ih =>
    intro S h y hy
    by_cases hc : 2 ≤ S.length ∧ cr (at' S (S.length - 2)) (at' S (S.length - 1)) x ≤ 0
    · rw [pushP_pop hc.1 hc.2] at hy
      rcases ih (S.take (S.length - 1)) (by simp; omega) y hy with h | h
      · exact Or.inl (List.mem_of_mem_take h)
      · exact Or.inr h
    · rw [pushP_stop (x := x) (S := S) (fun h2 => by
        have : ¬ cr (at' S (S.length - 2)) (at' S (S.length - 1)) x ≤ 0 := fun hh => hc ⟨h2, hh⟩
        omega)] at hy
      simpa using hy
/-- A place behind all of a chain is pushed: a chain again. -/
theorem Pend.pushP {u v k : Int} {L : Pt → Prop} {x : Pt} : ∀ (n : Nat) (S : List Pt), S.length = n → Pend u v k L S x → Chain u v k (fun y => L y ∨ y = x) (pushP x S) := by
  intro n
  induction n with
  | zero => intro S h hp; have := hp.some'; omega
  | succ n ih =>
    intro S h hp
    by_cases hc : 2 ≤ S.length ∧ cr (at' S (S.length - 2)) (at' S (S.length - 1)) x ≤ 0
    · rw [pushP_pop hc.1 hc.2]
      exact ih _ (by simp; omega) (hp.pop hc.1 hc.2)
    · have hs : 2 ≤ S.length → 0 < cr (at' S (S.length - 2)) (at' S (S.length - 1)) x := fun h2 => by
        have : ¬ cr (at' S (S.length - 2)) (at' S (S.length - 1)) x ≤ 0 := fun hh => hc ⟨h2, hh⟩
        omega
      rw [pushP_stop hs]
      exact hp.push hs

theorem row_one {w : World} {x : Pt} {k : Nat} {T : TypeId} (h : w.heap.size = k) : Row (w.alloc (.cells #[.int .i64 x.1, .int .i64 x.2] T)) k 0 [x] := by
  subst h
  exact row_new [x] #[.int .i64 x.1, .int .i64 x.2] rfl w T
theorem row_oneD {w : World} {x : Pt} {k : Nat} {T : TypeId} (h : w.heap.size = k) : Row (w.alloc (.cells #[.int .i64 x.1, .int .i64 x.2] T)).drew k 0 [x] := (row_one h).grown ((Grew.refl _).drew)
def lenV : Value → Nat
  | .slice _ n _ => n
  | _ => 0
def AddSays (B C : Nat) (S : List Pt) (x : Pt) (w : World) (e : Ending) (w' : World) : Prop := e = .returned (.tuple #[]) ∧ ∃ v', Own B w' v' (pushP x S) ∧ Blk w' C #[v'] 95 ∧ Leaves B C w w'
theorem add_end {B C : Nat} {S S' : List Pt} {x : Pt} {w w' wr : World} {v v0 v' : Value} (own' : Own B w' v' S') (_gr' : wr.grownBy w' v.ownBlock) (KC : Blk w' C #[v0] 95) (LV : Leaves B C w w') (hCB : C < B) (hS : pushP x S = S') :
    AddSays B C S x w (.returned (.tuple #[])) (w'.setCell ⟨C, 0, none⟩ v') := by
  subst hS
  have hC := KC.lt
  have g := grownBy_setCell w' C 0 v'
  refine ⟨rfl, v', own'.keeps g (Or.inr (fun e => ?_)), KC.put0, ?_⟩
  · have := own'.block _ e
    omega
  · exact ⟨LV.os, LV.tape, LV.output, Nat.le_trans LV.size g.size, fun k h1 h2 => by rw [Below.heap_setCell _ _ _ _ h2]; exact LV.block k h1 h2⟩
set_option maxRecDepth 100000 in
set_option maxHeartbeats 4000000 in
theorem add_c (B C : Nat) (S : List Pt) (x : Pt) (v : Value) (w : World) (hown : Own B w v S) (hC : Blk w C #[v] 95) (hCB : C < B) (hB : B ≤ w.heap.size) (hS : Plcs S) (hx : Plc x) (hl : S.length ≤ 1000000) :
    Calls Tryz.prog 75 #[.pointer (some ⟨C, 0, none⟩), .agg #[.int .i64 x.1, .int .i64 x.2]] w (AddSays B C S x w) := by
  have HO := Lib.hid (hown.alloc (.cells #[.int .i64 x.1, .int .i64 x.2] 30))
  have HC := Lib.hid (hC.alloc (.cells #[.int .i64 x.1, .int .i64 x.2] 30))
  have HX := Lib.hid (Blk.new w #[.int .i64 x.1, .int .i64 x.2] 30)
  have HL : Hid (Leaves B C w (w.alloc (.cells #[.int .i64 x.1, .int .i64 x.2] 30))) := Lib.hid ((Leaves.refl B C w).grown (World.grownBy_alloc w _ none) hB (by simp))
  have PS := Lib.hid hS
  obtain ⟨sa, sc, rfl⟩ := hown.sl.shape
  obtain ⟨c0, c1⟩ := hC.one
  have lC : C < w.heap.size := by omega
  clear hown hC hS
  go_enter Tryz.func75, Tryz.ntmps75
  go_wp2_with fail
  go_loopw [4] (fun u wr => ∃ S0, Own B wr u S0 ∧ Hid (pushP x S0 = pushP x S) ∧ S0.length ≤ S.length ∧ Hid (∀ y, y ∈ S0 → Plc y) ∧ Hid (Blk wr w.heap.size #[.int .i64 x.1, .int .i64 x.2] 30 ∧ Blk wr C #[.slice sa S.length sc] 95 ∧ Leaves B C w wr)) (fun u _ => lenV u)
  case atStart => exact ⟨S, HO.out, Lib.hid rfl, Nat.le_refl _, Lib.hid (fun y hy => by
    obtain ⟨i, hi, e⟩ := mem_at hy
    rw [← e]; exact PS.out i hi), Lib.hid ⟨HX.out, HC.out, HL.out⟩⟩
  case round =>
    clear c0 c1
    obtain ⟨S0, hO, hP, hle, hpl, hB0⟩ := hrel
    have HO0 := Lib.hid hO
    obtain ⟨⟨x0, x1⟩, x2, x3⟩ := hB0.out.1.two
    have hz := hB0.out.2.2.size
    have lX := hB0.out.1.lt
    have HZ := Lib.hid hz
    have HZB : Hid (B ≤ wr.heap.size) := Lib.hid (by omega)
    have NE : Hid (some C ≠ Value.ownBlock u4) := Lib.hid (fun e => by have := hO.block _ e.symm; omega)
    have HLE : Hid (S0.length ≤ 1000000) := Lib.hid (by omega)
    have NB : Hid (∀ k, Value.ownBlock u4 = some k → B ≤ k) := Lib.hid hO.block
    by_cases h2 : 2 ≤ S0.length
    · obtain ⟨g, cap, rfl, hA⟩ := hO.at (fun e => by rw [e] at h2; simp at h2)
      obtain ⟨a0, a1⟩ := hA.cells (i := S0.length - 2) (by omega)
      obtain ⟨b0, b1⟩ := hA.cells (i := S0.length - 1) (by omega)
      have gl := hA.lt
      have cl : S0.length ≤ cap := hA.2.1
      have cm : cap ≤ 9223372036854775807 := hA.2.2.1
      have pa : Plc (at' S0 (S0.length - 2)) := hpl.out _ (at_mem (by omega))
      have pb : Plc (at' S0 (S0.length - 1)) := hpl.out _ (at_mem (by omega))
      obtain ⟨n, hn0⟩ : ∃ n, S0.length = n + 2 := ⟨S0.length - 2, by omega⟩
      obtain ⟨m, hm⟩ : ∃ m, S0.length = m := ⟨_, rfl⟩
      obtain ⟨k, hk⟩ : ∃ k, S0.length - 1 = k := ⟨_, rfl⟩
      have N1 : S0.length - 2 = n := by omega
      rw [N1] at a0 a1 pa
      rw [hk] at b0 b1 pb
      obtain ⟨z, hz0⟩ : ∃ z, cr (at' S0 n) (at' S0 k) x = z := ⟨_, rfl⟩
      have TC : Hid (∀ W, Calls Tryz.prog 92 #[.agg #[.int .i64 (at' S0 n).1, .int .i64 (at' S0 n).2], .agg #[.int .i64 (at' S0 k).1, .int .i64 (at' S0 k).2], .agg #[.int .i64 x.1, .int .i64 x.2]] W fun e w' => e = .returned (.int .i64 z) ∧ ((W.alloc (.cells #[.int .i64 (at' S0 n).1, .int .i64 (at' S0 n).2] 30)).alloc (.cells #[.int .i64 (at' S0 k).1, .int .i64 (at' S0 k).2] 30)).alloc (.cells #[.int .i64 x.1, .int .i64 x.2] 30) = w') := Lib.hid (fun W => by
        have h := turn_c (at' S0 n) (at' S0 k) x W pa pb hx
        rwa [hz0] at h)
      have HK := Lib.hid hk
      have HM := Lib.hid hm
      have POP : Hid (z ≤ 0 → pushP x (S0.take k) = pushP x S) := Lib.hid (fun h => by
        have := pushP_pop (x := x) (S := S0) h2 (by rw [N1, hk, hz0]; exact h)
        rw [hk] at this
        rw [← this]; exact hP.out)
      have STOP : Hid (0 < z → pushP x S = S0 ++ [x]) := Lib.hid (fun h => by
        rw [← hP.out]
        exact pushP_stop (fun _ => by rw [N1, hk, hz0]; exact h))
      have TAKE : Hid (Own B wr (.slice (some ⟨g, 0, none⟩) k cap) (S0.take k)) := Lib.hid (hO.take k (by omega))
      have i0 : (0 : Int) ≤ (n : Int) := by omega
      have i1 : (n : Int) < (m : Int) := by omega
      have i2 : (0 : Int) ≤ (k : Int) := by omega
      have i3 : (k : Int) < (m : Int) := by omega
      have i4 : (2 : Int) ≤ (m : Int) := by omega
      have i5 : IntKind.i64.wrap ((m : Int) - 2) = (n : Int) := by
        rw [IntWalk.i64_in _ ⟨by omega, by omega⟩]; omega
      have i6 : IntKind.i64.wrap ((m : Int) - 1) = (k : Int) := by
        rw [IntWalk.i64_in _ ⟨by omega, by omega⟩]; omega
      have i7 : (k : Int) ≤ (cap : Int) := by omega
      have i8 : k ≤ cap := by omega
      have i9 : k < m := by omega
      have HO0 : Hid (Own B wr (.slice (some ⟨g, 0, none⟩) m cap) S0) := Lib.hid (by rw [← hm]; exact hO)
      have lg_0 : g < wr.heap.size := by omega
      have lg_1 : g < wr.heap.size + 1 := by omega
      have lg_2 : g < wr.heap.size + 1 + 1 := by omega
      have lg_3 : g < wr.heap.size + 1 + 1 + 1 := by omega
      have lx_0 : w.heap.size < wr.heap.size := by omega
      have lx_1 : w.heap.size < wr.heap.size + 1 := by omega
      have lx_2 : w.heap.size < wr.heap.size + 1 + 1 := by omega
      have lx_3 : w.heap.size < wr.heap.size + 1 + 1 + 1 := by omega
      clear pa pb hz0 N1 hA h2 hn0 hk HO
      rw [hm] at hO NE NB hle ⊢
      clear hm hO
      by_cases zd : z ≤ 0
      · have zd' : ¬ 0 < z := by omega
        go_wp2_with fail
        go_region_held3 (fun w' => w'.cell? ⟨g, n * 2, none⟩ = some (.int .i64 (at' S0 n).1) ∧ w'.cell? ⟨g, n * 2 + 1, none⟩ = some (.int .i64 (at' S0 n).2) ∧ w'.cell? ⟨g, k * 2, none⟩ = some (.int .i64 (at' S0 k).1) ∧ w'.cell? ⟨g, k * 2 + 1, none⟩ = some (.int .i64 (at' S0 k).2) ∧ w'.cell? ⟨w.heap.size, 0, none⟩ = some (.int .i64 x.1) ∧ w'.cell? ⟨w.heap.size, 1, none⟩ = some (.int .i64 x.2)) (simp [go_sem, *])
          ((go_at_call 92; refine (TC.out _).mono ?_; rintro e w' ⟨rfl, rfl⟩))
        go_wp2_with fail
        have GW : Grew wr ((((wr.alloc (.cells #[.int .i64 (at' S0 n).1, .int .i64 (at' S0 n).2] 30)).alloc (.cells #[.int .i64 (at' S0 k).1, .int .i64 (at' S0 k).2] 30)).alloc (.cells #[.int .i64 x.1, .int .i64 x.2] 30)).drew) := by (repeat' (first | (with_reducible exact Grew.refl _) | (with_reducible assumption) | (with_reducible refine Grew.alloc ?_ _ _) | (with_reducible refine Grew.drew ?_) | (with_reducible refine Grew.drewN ?_ _) | (with_reducible refine Grew.setCell ?_ ?_ _) | go_size))
        exact ⟨⟨S0.take k, TAKE.out.grew GW, Lib.hid (POP.out zd), by rw [List.length_take]; omega, Lib.hid (fun y hy => hpl.out y (List.mem_of_mem_take hy)), Lib.hid ⟨hB0.out.1.grown GW, hB0.out.2.1.grown GW, hB0.out.2.2.grew GW HZB.out⟩⟩, by show k < m; omega⟩
      · have zd' : 0 < z := by omega
        go_wp2_with fail
        go_region_held3 (fun w' => w'.cell? ⟨g, n * 2, none⟩ = some (.int .i64 (at' S0 n).1) ∧ w'.cell? ⟨g, n * 2 + 1, none⟩ = some (.int .i64 (at' S0 n).2) ∧ w'.cell? ⟨g, k * 2, none⟩ = some (.int .i64 (at' S0 k).1) ∧ w'.cell? ⟨g, k * 2 + 1, none⟩ = some (.int .i64 (at' S0 k).2) ∧ w'.cell? ⟨w.heap.size, 0, none⟩ = some (.int .i64 x.1) ∧ w'.cell? ⟨w.heap.size, 1, none⟩ = some (.int .i64 x.2)) (simp [go_sem, *])
          ((go_at_call 92; refine (TC.out _).mono ?_; rintro e w' ⟨rfl, rfl⟩))
        go_wp2_with (at_builtin; go_must (refine append_T _ rfl _ _ 95 Tryz.underlying95 rfl B _ S0 [x] _ 0 1 rfl (Own.grew HO0.out (by (repeat' (first | (with_reducible exact Grew.refl _) | (with_reducible assumption) | (with_reducible refine Grew.alloc ?_ _ _) | (with_reducible refine Grew.drew ?_) | (with_reducible refine Grew.drewN ?_ _) | (with_reducible refine Grew.setCell ?_ ?_ _) | go_size)))) rfl (by first | exact row_one (by simp) | exact row_oneD (by simp)) (by have := HLE.out; simp; omega) (by have := HZB.out; simp; omega) ?_; intro v' w' own' gr'; obtain ⟨sa', sc', rfl⟩ := own'.sl.shape; obtain ⟨cC0, cC1⟩ := ((hB0.out.2.1.grown (show Grew wr _ by (repeat' (first | (with_reducible exact Grew.refl _) | (with_reducible assumption) | (with_reducible refine Grew.alloc ?_ _ _) | (with_reducible refine Grew.drew ?_) | (with_reducible refine Grew.drewN ?_ _) | (with_reducible refine Grew.setCell ?_ ?_ _) | go_size)))).kept gr' NE.out).one; have LV := ((hB0.out.2.2.grew (show Grew wr _ by (repeat' (first | (with_reducible exact Grew.refl _) | (with_reducible assumption) | (with_reducible refine Grew.alloc ?_ _ _) | (with_reducible refine Grew.drew ?_) | (with_reducible refine Grew.drewN ?_ _) | (with_reducible refine Grew.setCell ?_ ?_ _) | go_size))) HZB.out).grown gr' (by have := HZB.out; simp; omega) (fun k hk => Or.inl (NB.out k hk))); have KC := (hB0.out.2.1.grown (show Grew wr _ by (repeat' (first | (with_reducible exact Grew.refl _) | (with_reducible assumption) | (with_reducible refine Grew.alloc ?_ _ _) | (with_reducible refine Grew.drew ?_) | (with_reducible refine Grew.drewN ?_ _) | (with_reducible refine Grew.setCell ?_ ?_ _) | go_size)))).kept gr' NE.out))
        go_end0
        exact add_end (S' := S0 ++ [x]) (by rw [List.length_append, List.length_singleton] at own'; exact own') gr' KC LV hCB (STOP.out zd')
    · have h2' : ¬ (2 : Int) ≤ (S0.length : Int) := by omega
      have hd2 : decide ((2 : Int) ≤ (S0.length : Int)) = false := decide_eq_false h2'
      have STOP := Lib.hid (hP.out.symm.trans (pushP_stop (x := x) (S := S0) (fun h => absurd h h2)))
      obtain ⟨sa0, sc0, rfl⟩ := hO.sl.shape
      clear HO hO
      go_wp2_with fail
      refine wp_region_held_drew (S := (fun _ => True)) (by kernel_rfl) (by trivial) (fun hHeld => ?_)
      refine wpAnyH_take (i := 0) (oi := ⟨some 8, _, _, _, _, _⟩) (v := ?_) rfl (by kernel_rfl) (by kernel_rfl) (by kernel_rfl) (fun _ _ _ h => h) (Or.inl ⟨by rfl, ?_⟩) (by assumption) ?_
      rotate_left
      · intro w hSw; (try dsimp only at hSw); go_simp; (try simp only [hd2]); (try with_reducible rfl)
      try simp only [Act.put, List.setIfInBounds_toArray, List.set_cons_zero, List.set_cons_succ]
      refine wpAnyH_take (i := 1) (oi := ⟨some 9, _, _, _, _, _⟩) (v := ?_) rfl (by kernel_rfl) (by kernel_rfl) (by kernel_rfl) (fun _ _ _ h => h) (Or.inl ⟨by rfl, ?_⟩) (by assumption) ?_
      rotate_left
      · intro w hSw; (try dsimp only at hSw); go_simp; (try simp only [hd2]); (try with_reducible rfl)
      try simp only [Act.put, List.setIfInBounds_toArray, List.set_cons_zero, List.set_cons_succ]
      refine wpAnyH_take (i := 2) (oi := ⟨some 10, _, _, _, _, _⟩) (v := ?_) rfl (by kernel_rfl) (by kernel_rfl) (by kernel_rfl) (fun _ _ _ h => h) (Or.inl ⟨by rfl, ?_⟩) (by assumption) ?_
      rotate_left
      · intro w hSw; (try dsimp only at hSw); go_simp; (try simp only [hd2]); (try with_reducible rfl)
      try simp only [Act.put, List.setIfInBounds_toArray, List.set_cons_zero, List.set_cons_succ]
      refine wpAnyH_take (i := 3) (oi := ⟨some 11, _, _, _, _, _⟩) (v := ?_) rfl (by kernel_rfl) (by kernel_rfl) (by kernel_rfl) (fun _ _ _ h => h) (Or.inl ⟨by rfl, ?_⟩) (by assumption) ?_
      rotate_left
      · intro w hSw; (try dsimp only at hSw); go_simp; (try simp only [hd2]); (try with_reducible rfl)
      try simp only [Act.put, List.setIfInBounds_toArray, List.set_cons_zero, List.set_cons_succ]
      refine wpAnyH_take (i := 4) (oi := ⟨some 12, _, _, _, _, _⟩) (v := undef) rfl (by kernel_rfl) (by kernel_rfl) (by kernel_rfl) (fun _ _ _ h => h) (Or.inr ⟨by rfl, rfl⟩) (by assumption) ?_
      try simp only [Act.put, List.setIfInBounds_toArray, List.set_cons_zero, List.set_cons_succ]
      refine wpAnyH_take (i := 5) (oi := ⟨some 13, _, _, _, _, _⟩) (v := undef) rfl (by kernel_rfl) (by kernel_rfl) (by kernel_rfl) (fun _ _ _ h => h) (Or.inr ⟨by rfl, rfl⟩) (by assumption) ?_
      try simp only [Act.put, List.setIfInBounds_toArray, List.set_cons_zero, List.set_cons_succ]
      refine wpAnyH_take (i := 6) (oi := ⟨some 14, _, _, _, _, _⟩) (v := undef) rfl (by kernel_rfl) (by kernel_rfl) (by kernel_rfl) (fun _ _ _ h => h) (Or.inr ⟨by rfl, rfl⟩) (by assumption) ?_
      try simp only [Act.put, List.setIfInBounds_toArray, List.set_cons_zero, List.set_cons_succ]
      refine wpAnyH_take (i := 7) (oi := ⟨some 15, _, _, _, _, _⟩) (v := undef) rfl (by kernel_rfl) (by kernel_rfl) (by kernel_rfl) (fun _ _ _ h => h) (Or.inr ⟨by rfl, rfl⟩) (by assumption) ?_
      try simp only [Act.put, List.setIfInBounds_toArray, List.set_cons_zero, List.set_cons_succ]
      refine wpAnyH_take (i := 8) (oi := ⟨some 16, _, _, _, _, _⟩) (v := undef) rfl (by kernel_rfl) (by kernel_rfl) (by kernel_rfl) (fun _ _ _ h => h) (Or.inr ⟨by rfl, rfl⟩) (by assumption) ?_
      try simp only [Act.put, List.setIfInBounds_toArray, List.set_cons_zero, List.set_cons_succ]
      refine wpAnyH_take (i := 9) (oi := ⟨some 17, _, _, _, _, _⟩) (v := undef) rfl (by kernel_rfl) (by kernel_rfl) (by kernel_rfl) (fun _ _ _ h => h) (Or.inr ⟨by rfl, rfl⟩) (by assumption) ?_
      try simp only [Act.put, List.setIfInBounds_toArray, List.set_cons_zero, List.set_cons_succ]
      refine wpAnyH_take (i := 10) (oi := ⟨some 18, _, _, _, _, _⟩) (v := undef) rfl (by kernel_rfl) (by kernel_rfl) (by kernel_rfl) (fun _ _ _ h => h) (Or.inr ⟨by rfl, rfl⟩) (by assumption) ?_
      try simp only [Act.put, List.setIfInBounds_toArray, List.set_cons_zero, List.set_cons_succ]
      refine wpAnyH_take (i := 11) (oi := ⟨some 19, _, _, _, _, _⟩) (v := undef) rfl (by kernel_rfl) (by kernel_rfl) (by kernel_rfl) (fun _ _ _ h => h) (Or.inr ⟨by rfl, rfl⟩) (by assumption) ?_
      try simp only [Act.put, List.setIfInBounds_toArray, List.set_cons_zero, List.set_cons_succ]
      refine wpAnyH_take (i := 12) (oi := ⟨some 20, _, _, _, _, _⟩) (v := undef) rfl (by kernel_rfl) (by kernel_rfl) (by kernel_rfl) (fun _ _ _ h => h) (Or.inr ⟨by rfl, rfl⟩) (by assumption) ?_
      try simp only [Act.put, List.setIfInBounds_toArray, List.set_cons_zero, List.set_cons_succ]
      refine wpAnyH_take (i := 13) (oi := ⟨some 21, _, _, _, _, _⟩) (v := undef) rfl (by kernel_rfl) (by kernel_rfl) (by kernel_rfl) (fun _ _ _ h => h) (Or.inr ⟨by rfl, rfl⟩) (by assumption) ?_
      try simp only [Act.put, List.setIfInBounds_toArray, List.set_cons_zero, List.set_cons_succ]
      refine wpAnyH_take (i := 14) (oi := ⟨some 22, _, _, _, _, _⟩) (v := undef) rfl (by kernel_rfl) (by kernel_rfl) (by kernel_rfl) (fun _ _ _ h => h) (Or.inr ⟨by rfl, rfl⟩) (by assumption) ?_
      try simp only [Act.put, List.setIfInBounds_toArray, List.set_cons_zero, List.set_cons_succ]
      refine wpAnyH_take (i := 15) (oi := ⟨some 23, _, _, _, _, _⟩) (v := undef) rfl (by kernel_rfl) (by kernel_rfl) (by kernel_rfl) (fun _ _ _ h => h) (Or.inr ⟨by rfl, rfl⟩) (by assumption) ?_
      try simp only [Act.put, List.setIfInBounds_toArray, List.set_cons_zero, List.set_cons_succ]
      refine wpAnyH_take (i := 16) (oi := ⟨some 24, _, _, _, _, _⟩) (v := undef) rfl (by kernel_rfl) (by kernel_rfl) (by kernel_rfl) (fun _ _ _ h => h) (Or.inr ⟨by rfl, rfl⟩) (by assumption) ?_
      try simp only [Act.put, List.setIfInBounds_toArray, List.set_cons_zero, List.set_cons_succ]
      refine wpAnyH_take (i := 17) (oi := ⟨some 25, _, _, _, _, _⟩) (v := undef) rfl (by kernel_rfl) (by kernel_rfl) (by kernel_rfl) (fun _ _ _ h => h) (Or.inr ⟨by rfl, rfl⟩) (by assumption) ?_
      try simp only [Act.put, List.setIfInBounds_toArray, List.set_cons_zero, List.set_cons_succ]
      refine wpAnyH_take (i := 18) (oi := ⟨some 26, _, _, _, _, _⟩) (v := undef) rfl (by kernel_rfl) (by kernel_rfl) (by kernel_rfl) (fun _ _ _ h => h) (Or.inr ⟨by rfl, rfl⟩) (by assumption) ?_
      try simp only [Act.put, List.setIfInBounds_toArray, List.set_cons_zero, List.set_cons_succ]
      refine wpAnyH_take (i := 19) (oi := ⟨some 27, _, _, _, _, _⟩) (v := ?_) rfl (by kernel_rfl) (by kernel_rfl) (by kernel_rfl) (fun _ _ _ h => h) (Or.inl ⟨by rfl, ?_⟩) (by assumption) ?_
      rotate_left
      · intro w hSw; (try dsimp only at hSw); go_simp; (try simp only [hd2]); (try with_reducible rfl)
      try simp only [Act.put, List.setIfInBounds_toArray, List.set_cons_zero, List.set_cons_succ]
      refine wpAnyH_done (by kernel_rfl) ?_ _
      go_wp2_with (at_builtin; go_must (refine append_T _ rfl _ _ 95 Tryz.underlying95 rfl B _ S0 [x] _ 0 1 rfl (Own.grew HO0.out (by (repeat' (first | (with_reducible exact Grew.refl _) | (with_reducible assumption) | (with_reducible refine Grew.alloc ?_ _ _) | (with_reducible refine Grew.drew ?_) | (with_reducible refine Grew.drewN ?_ _) | (with_reducible refine Grew.setCell ?_ ?_ _) | go_size)))) rfl (by first | exact row_one (by simp) | exact row_oneD (by simp)) (by have := HLE.out; simp; omega) (by have := HZB.out; simp; omega) ?_; intro v' w' own' gr'; obtain ⟨sa', sc', rfl⟩ := own'.sl.shape; obtain ⟨cC0, cC1⟩ := ((hB0.out.2.1.grown (show Grew wr _ by (repeat' (first | (with_reducible exact Grew.refl _) | (with_reducible assumption) | (with_reducible refine Grew.alloc ?_ _ _) | (with_reducible refine Grew.drew ?_) | (with_reducible refine Grew.drewN ?_ _) | (with_reducible refine Grew.setCell ?_ ?_ _) | go_size)))).kept gr' NE.out).one; have LV := ((hB0.out.2.2.grew (show Grew wr _ by (repeat' (first | (with_reducible exact Grew.refl _) | (with_reducible assumption) | (with_reducible refine Grew.alloc ?_ _ _) | (with_reducible refine Grew.drew ?_) | (with_reducible refine Grew.drewN ?_ _) | (with_reducible refine Grew.setCell ?_ ?_ _) | go_size))) HZB.out).grown gr' (by have := HZB.out; simp; omega) (fun k hk => Or.inl (NB.out k hk))); have KC := (hB0.out.2.1.grown (show Grew wr _ by (repeat' (first | (with_reducible exact Grew.refl _) | (with_reducible assumption) | (with_reducible refine Grew.alloc ?_ _ _) | (with_reducible refine Grew.drew ?_) | (with_reducible refine Grew.drewN ?_ _) | (with_reducible refine Grew.setCell ?_ ?_ _) | go_size)))).kept gr' NE.out))
      go_end0
      exact add_end (S' := S0 ++ [x]) (by rw [List.length_append, List.length_singleton] at own'; exact own') gr' KC LV hCB STOP.out
end Hl
end Go.Proofs.YtpiajdahmcelnaaGreat
namespace Go.Proofs.YtpiajdahmcelnaaGreat
open Go.RowKit Go.Shelf
namespace Hl
/-- The chain of the first k places of q. -/
def cho (q : List Pt) : Nat → List Pt
  | 0 => []
  | k + 1 => pushP (at' q k) (cho q k)
theorem cho_len (q : List Pt) : ∀ k, (cho q k).length ≤ k
  | 0 => Nat.le_refl _
  | k + 1 => by
    have h := cho_len q k
    have := (pushP_len (at' q k) _ (cho q k) rfl).1
    unfold cho
    omega
theorem cho_mem (q : List Pt) : ∀ k, k ≤ q.length → ∀ y, y ∈ cho q k → y ∈ q
  | 0, _, y, h => by cases h
  | k + 1, hk, y, h => by
    rcases pushP_mem (at' q k) _ (cho q k) rfl y h with h | rfl
    · exact cho_mem q k (by omega) y h
    · exact at_mem (by omega)
theorem mem_plc {q : List Pt} (h : Plcs q) {y : Pt} (hy : y ∈ q) : Plc y := by
  obtain ⟨i, hi, e⟩ := mem_at hy
  rw [← e]; exact h i hi
theorem Leaves.row {B C b o : Nat} {w w' : World} {q : List Pt} (h : Leaves B C w w') (hb : b < B) (hc : b ≠ C) (hr : Row w b o q) : Row w' b o q := by
  have e := h.block b hb hc
  refine ⟨Nat.lt_of_lt_of_le hr.1 h.size, fun i hi => ?_⟩
  obtain ⟨a, c⟩ := hr.2 i hi
  unfold World.cell? at a c ⊢
  simp only [e]
  exact ⟨a, c⟩
def HandSays (B C : Nat) (q : List Pt) (w : World) (e : Ending) (w' : World) : Prop := e = .returned (.tuple #[]) ∧ ∃ v, Own B w' v (cho q q.length) ∧ Blk w' C #[v] 95 ∧ Leaves B C w w'
set_option maxRecDepth 100000 in
set_option maxHeartbeats 4000000 in
theorem hand_c (B C b o c : Nat) (q : List Pt) (w : World) (hr : Row w b o q) (hb : b < B) (hbC : b ≠ C) (hC : Blk w C #[.slice none 0 0] 95) (hCB : C < B) (hB : B ≤ w.heap.size) (hq : Plcs q) (hl : q.length ≤ 1000000) :
    Calls Tryz.prog 74 #[.slice (some ⟨b, o, none⟩) q.length c, .func (.func 75) #[.pointer (some ⟨C, 0, none⟩)] #[]] w (HandSays B C q w) := by
  have HR := Lib.hid hr
  have HC := Lib.hid hC
  have HQ := Lib.hid hq
  clear hr hC hq
  go_enter Tryz.func74, Tryz.ntmps74
  go_wp2_with fail
  go_loopw [8] (fun u wr => ∃ k : Nat, k ≤ q.length ∧ u = .int .i64 k ∧ Hid (∃ v, Own B wr v (cho q k) ∧ Blk wr C #[v] 95 ∧ Leaves B C w wr)) (fun i _ => q.length - (intOf i).toNat)
  case atStart => exact ⟨0, Nat.zero_le _, rfl, Lib.hid ⟨_, Own.nil _ _, HC.out, Leaves.refl _ _ _⟩⟩
  case round =>
    obtain ⟨k, hk, rfl, hR⟩ := hrel
    by_cases hlt : k < q.length
    · obtain ⟨q0, q1⟩ := (hR.out.elim fun _ h => h.2.2.row hb hbC HR.out).2 k hlt
      have i2 : (k : Int) < (q.length : Int) := by omega
      have hz := hR.out.elim fun _ h => h.2.2.size
      have AC : Hid (∀ W, Grew wr W → Calls Tryz.prog 75 #[.pointer (some ⟨C, 0, none⟩), .agg #[.int .i64 (at' q k).1, .int .i64 (at' q k).2]] W fun e w' => e = .returned (.tuple #[]) ∧ Hid (∃ v, Own B w' v (cho q (k + 1)) ∧ Blk w' C #[v] 95 ∧ Leaves B C w w')) := Lib.hid (fun W g => by
        obtain ⟨v, h1, h2, h3⟩ := hR.out
        have hg := g.size
        refine (add_c B C (cho q k) (at' q k) v W (h1.grew g) (h2.grown g) hCB (by omega) (plcs_of (fun y hy => mem_plc HQ.out (cho_mem q k hk y hy))) (HQ.out k hlt) (Nat.le_trans (cho_len q k) (by omega))).mono ?_
        rintro e w' ⟨he, v', k1, k2, k3⟩
        exact ⟨he, Lib.hid ⟨v', k1, k2, (h3.grew g (by omega)).trans k3⟩⟩)
      go_wp2_with (first | (go_at_call 75; refine (AC.out _ (by (repeat' (first | (with_reducible exact Grew.refl _) | (with_reducible assumption) | (with_reducible refine Grew.alloc ?_ _ _) | (with_reducible refine Grew.drew ?_) | (with_reducible refine Grew.drewN ?_ _) | (with_reducible refine Grew.setCell ?_ ?_ _) | go_size)))).mono ?_; rintro e w' ⟨rfl, hn⟩))
      exact ⟨⟨k + 1, by omega, by go_num, hn⟩, by simp [intOf]; omega⟩
    · obtain rfl : k = q.length := by omega
      go_wp2_with fail
      go_end0
      obtain ⟨v, h1, h2, h3⟩ := hR.out
      exact ⟨rfl, v, h1, h2, h3⟩
end Hl
end Go.Proofs.YtpiajdahmcelnaaGreat
