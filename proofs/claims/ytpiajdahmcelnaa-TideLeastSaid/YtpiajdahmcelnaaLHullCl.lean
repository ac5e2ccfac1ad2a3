/-
  The landed bounds and box.
-/
import Derived.Shelf.Abstract
import Derived.Deep.Cut
import Derived.Deep.CutRange
import Derived.Test.YtpiajdahmcelnaaLHullCa
import Derived.Test.YtpiajdahmcelnaaLHullBar
import Derived.Test.YtpiajdahmcelnaaLHullCon
namespace Go.Proofs.Ytpiajdahmcelnaa
open Go.RowKit Go.Shelf
namespace Hl
def MinOf (p : List Pt) (m : Pt → Int) (lo : Int) : Prop := (∃ x, x ∈ p ∧ m x = lo) ∧ ∀ x, x ∈ p → lo ≤ m x
def MaxOf (p : List Pt) (m : Pt → Int) (hi : Int) : Prop := (∃ x, x ∈ p ∧ m x = hi) ∧ ∀ x, x ∈ p → m x ≤ hi
def SpanSays (p : List Pt) (m : Pt → Int) (w : World) (e : Ending) (w' : World) : Prop := ∃ lo hi : Int, MinOf p m lo ∧ MaxOf p m hi ∧ e = .returned (.agg #[.int .i64 lo, .int .i64 hi]) ∧ Grew w w'
def mnC (x y : Int) : Int := if y < x then y else x
def mxC (x y : Int) : Int := if x < y then y else x
def rl (g : Nat → Int) (v : Int) : Nat → Int
  | 0 => v
  | k + 1 => mnC (rl g v k) (g k)
def rh (g : Nat → Int) (v : Int) : Nat → Int
  | 0 => v
  | k + 1 => mxC (rh g v k) (g k)
theorem rl_all (g : Nat → Int) (v : Int) : ∀ k, (rl g v k = v ∨ ∃ j, j < k ∧ g j = rl g v k) ∧ ∀ j, j < k → rl g v k ≤ g j
  | 0 => ⟨Or.inl rfl, fun j hj => by omega⟩
  | k + 1 => by
    obtain ⟨e, h⟩ := rl_all g v k
    have d : rl g v (k + 1) = mnC (rl g v k) (g k) := rfl
    rw [d]
    unfold mnC
    split
    · refine ⟨Or.inr ⟨k, by omega, rfl⟩, fun i hi => ?_⟩
      by_cases ei : i = k
      · rw [ei]; exact Int.le_refl _
      · have := h i (by omega); omega
    · refine ⟨e.imp id (fun ⟨j, hj, ej⟩ => ⟨j, by omega, ej⟩), fun i hi => ?_⟩
      by_cases ei : i = k
      · rw [ei]; omega
      · exact h i (by omega)
theorem rh_all (g : Nat → Int) (v : Int) : ∀ k, (rh g v k = v ∨ ∃ j, j < k ∧ g j = rh g v k) ∧ ∀ j, j < k → g j ≤ rh g v k
  | 0 => ⟨Or.inl rfl, fun j hj => by omega⟩
  | k + 1 => by
    obtain ⟨e, h⟩ := rh_all g v k
    have d : rh g v (k + 1) = mxC (rh g v k) (g k) := rfl
    rw [d]
    unfold mxC
    split
    · refine ⟨Or.inr ⟨k, by omega, rfl⟩, fun i hi => ?_⟩
      by_cases ei : i = k
      · rw [ei]; exact Int.le_refl _
      · have := h i (by omega); omega
    · refine ⟨e.imp id (fun ⟨j, hj, ej⟩ => ⟨j, by omega, ej⟩), fun i hi => ?_⟩
      by_cases ei : i = k
      · rw [ei]; omega
      · exact h i (by omega)
theorem rl_min (p : List Pt) (m : Pt → Int) (h1 : 1 ≤ p.length) : MinOf p m (rl (fun j => m (at' p j)) (m (at' p 0)) p.length) ∧ MaxOf p m (rh (fun j => m (at' p j)) (m (at' p 0)) p.length) := by
  obtain ⟨e, h⟩ := rl_all (fun j => m (at' p j)) (m (at' p 0)) p.length
  obtain ⟨e', h'⟩ := rh_all (fun j => m (at' p j)) (m (at' p 0)) p.length
  refine ⟨⟨?_, fun x hx => ?_⟩, ⟨?_, fun x hx => ?_⟩⟩
  · rcases e with e | ⟨j, hj, e⟩
    · exact ⟨_, at_mem (by omega), e.symm⟩
    · exact ⟨_, at_mem hj, e⟩
  · obtain ⟨j, hj, ej⟩ := mem_at hx
    rw [← ej]; exact h j hj
  · rcases e' with e | ⟨j, hj, e⟩
    · exact ⟨_, at_mem (by omega), e.symm⟩
    · exact ⟨_, at_mem hj, e⟩
  · obtain ⟨j, hj, ej⟩ := mem_at hx
    rw [← ej]; exact h' j hj
/-- A block of two integers. -/
def Two (w : World) (B : Nat) (x y : Int) : Prop := (B < w.heap.size ∧ w.cell? ⟨B, 0, none⟩ = some (.int .i64 x) ∧ w.cell? ⟨B, 1, none⟩ = some (.int .i64 y)) ∧ w.frozen? ⟨B, 0, none⟩ = false ∧ w.frozen? ⟨B, 1, none⟩ = false
theorem Two.grown {w w' : World} {B : Nat} {x y : Int} (h : Two w B x y) (g : Grew w w') : Two w' B x y := by
  obtain ⟨⟨h0, h1, h2⟩, h3, h4⟩ := h
  obtain ⟨c, f, z⟩ := laid g
  exact ⟨⟨by omega, (c _ _ h0).trans h1, (c _ _ h0).trans h2⟩, (f _ _ h0).trans h3, (f _ _ h0).trans h4⟩
theorem Two.new (w : World) (x y : Int) (t : TypeId) : Two (w.alloc (.cells #[.int .i64 x, .int .i64 y] t)) w.heap.size x y := by
  unfold Two
  simp [go_sem]

set_option maxRecDepth 100000 in
set_option maxHeartbeats 2000000 in
theorem bounds_c (g : Nat) (m : Pt → Int) (eg : ∀ args w, (callFunc g args).run Try.prog w = .ok (.enter g args) w) (hm : Measures g m) (p : List Pt) (b o c : Nat) (w : World) (hr : Row w b o p) (hp : Plcs p) (h1 : 1 ≤ p.length) (h2 : p.length ≤ 9223372036854775807) :
    Calls Try.prog 70 #[.slice (some ⟨b, o, none⟩) p.length c, .func (.func g) #[] #[]] w (SpanSays p m w) := by
  have HR := Lib.hid hr
  have M0 : Hid (∀ w', Calls Try.prog g #[.agg #[.int .i64 (at' p 0).1, .int .i64 (at' p 0).2]] w' fun e w'' => e = .returned (.int .i64 (m (at' p 0))) ∧ w'.alloc (.cells #[.int .i64 (at' p 0).1, .int .i64 (at' p 0).2] 30) = w'') := Lib.hid (fun w' => hm _ w' (hp 0 (by omega)))
  have MK : Hid (∀ k, k < p.length → ∀ w', Calls Try.prog g #[.agg #[.int .i64 (at' p k).1, .int .i64 (at' p k).2]] w' fun e w'' => e = .returned (.int .i64 (m (at' p k))) ∧ w'.alloc (.cells #[.int .i64 (at' p k).1, .int .i64 (at' p k).2] 30) = w'') := Lib.hid (fun k hk w' => hm _ w' (hp k hk))
  obtain ⟨s0, s1⟩ := hr.2 0 (by omega)
  rw [Nat.zero_mul, Nat.add_zero] at s0 s1
  have hb := hr.1
  have p0 : (0 : Int) < (p.length : Int) := by omega
  have p1 : 0 < p.length := by omega
  clear hr hp hm
  obtain ⟨v0, hv0⟩ : ∃ v0, m (at' p 0) = v0 := ⟨_, rfl⟩
  rw [hv0] at M0
  have n1 : ¬ b = w.heap.size + 1 := by omega
  have n2 : ¬ b = w.heap.size + 1 + 1 := by omega
  have n3 : ¬ b = w.heap.size + 1 + 1 + 1 := by omega
  have l1 : b < w.heap.size + 1 := by omega
  have l2 : b < w.heap.size + 1 + 1 := by omega
  have l3 : b < w.heap.size + 1 + 1 + 1 := by omega
  go_enter Try.func70, Try.ntmps70
  go_upto_region 1 with fail
  go_cut [5] from 8 to 18 (fun s5 wx => ∃ B, w.heap.size < B ∧ s5 = .pointer (some ⟨B, 0, none⟩) ∧ Two wx B v0 v0 ∧ Grew (w.alloc (.cells #[.int .i64 0, .int .i64 0] 23)) wx)
  case first =>
    go_region_held3 (fun w' => w'.cell? ⟨b, o, none⟩ = some (.int .i64 (at' p 0).1) ∧ w'.cell? ⟨b, o + 1, none⟩ = some (.int .i64 (at' p 0).2)) (simp [go_sem, *])
      (first | (go_at_fn g; refine (M0.out _).mono ?_; rintro e w' ⟨rfl, rfl⟩))
    all_goals (go_wp2_with fail; go_meet)
    all_goals exact ⟨_, by first | omega | (simp; omega), rfl, by unfold Two; simp [go_sem], by (repeat' (first | (with_reducible exact Grew.refl _) | (with_reducible assumption) | (with_reducible refine Grew.alloc ?_ _ _) | (with_reducible refine Grew.drew ?_) | (with_reducible refine Grew.drewN ?_ _) | (with_reducible refine Grew.setCell ?_ ?_ _) | go_size))⟩
  case rest =>
    obtain ⟨B, hB, rfl, hT, hG⟩ := hcut
    clear M0 s0 s1 n1 n2 n3 l1 l2 l3 hb
    have T4 := (Two.new w 0 0 23).grown hG
    go_wp2_with fail
    go_loopw [21] (fun i wr => ∃ k : Nat, k ≤ p.length ∧ i = .int .i64 k ∧ Two wr B (rl (fun j => m (at' p j)) v0 k) (rh (fun j => m (at' p j)) v0 k) ∧ Grew (w.alloc (.cells #[.int .i64 0, .int .i64 0] 23)) wr) (fun i _ => p.length - (intOf i).toNat)
    case atStart => exact ⟨0, Nat.zero_le _, rfl, hT, hG⟩
    case round =>
      clear hT hG T4
      obtain ⟨k, hk, rfl, hT, hG⟩ := hrel
      by_cases hlt : k < p.length
      · obtain ⟨q0, q1⟩ := (HR.out.grown (((Grew.refl w).alloc _ _).trans hG)).2 k hlt
        have i2 : (k : Int) < (p.length : Int) := by omega
        have MV := Lib.hid (MK.out k hlt)
        have T0 := Lib.hid hT
        have hz := hG.size
        rw [World.size_alloc] at hz
        obtain ⟨lo, hlo⟩ : ∃ lo, rl (fun j => m (at' p j)) v0 k = lo := ⟨_, rfl⟩
        obtain ⟨hi, hhi⟩ : ∃ hi, rh (fun j => m (at' p j)) v0 k = hi := ⟨_, rfl⟩
        obtain ⟨v, hv⟩ : ∃ v, m (at' p k) = v := ⟨_, rfl⟩
        have EL : Hid (rl (fun j => m (at' p j)) v0 (k + 1) = mnC lo v) := Lib.hid (by rw [← hlo, ← hv]; rfl)
        have EH : Hid (rh (fun j => m (at' p j)) v0 (k + 1) = mxC hi v) := Lib.hid (by rw [← hhi, ← hv]; rfl)
        rw [hlo, hhi] at hT
        rw [hv] at MV
        clear hlo hhi hv T0
        obtain ⟨⟨t0, t1, t2⟩, t3, t4⟩ := hT
        have nb : ¬ B = wr.heap.size := by omega
        have nb' : ¬ wr.heap.size = B := by omega
        have lb1 : B < wr.heap.size + 1 := by omega
        have lb2 : B < wr.heap.size + 1 + 1 := by omega
        by_cases c1 : v < lo <;> by_cases c2 : hi < v
        all_goals
          go_wp2_with fail
          refine Bar.begin_ (S := (fun w' => (w'.cell? ⟨B, 0, none⟩ = some (.int .i64 lo) ∧ w'.cell? ⟨B, 1, none⟩ = some (.int .i64 hi) ∧ w'.frozen? ⟨B, 0, none⟩ = false ∧ w'.frozen? ⟨B, 1, none⟩ = false) ∧ w'.cell? ⟨wr.heap.size, 0, none⟩ = some (.int .i64 (at' p k).1) ∧ w'.cell? ⟨wr.heap.size, 1, none⟩ = some (.int .i64 (at' p k).2))) 13 (by kernel_rfl) (by simp [go_sem, *]) (fun hHeld => ?_)
          refine Bar.Walk.takeY (i := 0) (oi := ⟨some 25, _, _, _, _, _⟩) (v := ?_) rfl (by kernel_rfl) (by kernel_rfl) (by kernel_rfl) rfl (fun _ _ _ h => h) (Or.inl ⟨by rfl, ?_⟩) (by assumption) ?_
          rotate_left
          · intro w; go_simp; (try with_reducible rfl)
          try simp only [Act.put, List.setIfInBounds_toArray, List.set_cons_zero, List.set_cons_succ]
          refine Bar.Walk.take [13] (i := 1) (oi := ⟨some 26, _, _, _, _, _⟩) (v := ?_) rfl (by kernel_rfl) (by kernel_rfl) (by kernel_rfl) (by kernel_rfl) (fun _ _ _ h => h) (Or.inl ⟨by rfl, ?_⟩) (by assumption) ?_
          rotate_left
          · intro w hSw; (try dsimp only at hSw); go_simp; (try with_reducible rfl)
          try simp only [Act.put, List.setIfInBounds_toArray, List.set_cons_zero, List.set_cons_succ]
          refine Bar.Walk.takeY (i := 2) (oi := ⟨some 27, _, _, _, _, _⟩) (v := ?_) rfl (by kernel_rfl) (by kernel_rfl) (by kernel_rfl) rfl (fun _ _ _ h => h) (Or.inl ⟨by rfl, ?_⟩) (by assumption) ?_
          rotate_left
          · intro w; go_simp; (try with_reducible rfl)
          try simp only [Act.put, List.setIfInBounds_toArray, List.set_cons_zero, List.set_cons_succ]
          refine Bar.Walk.take [13] (i := 3) (oi := ⟨some 28, _, _, _, _, _⟩) (v := ?_) rfl (by kernel_rfl) (by kernel_rfl) (by kernel_rfl) (by kernel_rfl) (fun _ _ _ h => h) (Or.inl ⟨by rfl, ?_⟩) (by assumption) ?_
          rotate_left
          · intro w hSw; (try dsimp only at hSw); go_simp; (try with_reducible rfl)
          try simp only [Act.put, List.setIfInBounds_toArray, List.set_cons_zero, List.set_cons_succ]
          refine Bar.Walk.takeY (i := 6) (oi := ⟨some 31, _, _, _, _, _⟩) (v := ?_) rfl (by kernel_rfl) (by kernel_rfl) (by kernel_rfl) rfl (fun _ _ _ h => h) (Or.inl ⟨by rfl, ?_⟩) (by assumption) ?_
          rotate_left
          · intro w; go_simp; (try with_reducible rfl)
          try simp only [Act.put, List.setIfInBounds_toArray, List.set_cons_zero, List.set_cons_succ]
          refine Bar.Walk.take [13] (i := 7) (oi := ⟨some 32, _, _, _, _, _⟩) (v := ?_) rfl (by kernel_rfl) (by kernel_rfl) (by kernel_rfl) (by kernel_rfl) (fun _ _ _ h => h) (Or.inl ⟨by rfl, ?_⟩) (by assumption) ?_
          rotate_left
          · intro w hSw; (try dsimp only at hSw); go_simp; (try with_reducible rfl)
          try simp only [Act.put, List.setIfInBounds_toArray, List.set_cons_zero, List.set_cons_succ]
          refine Bar.Walk.takeY (i := 8) (oi := ⟨some 33, _, _, _, _, _⟩) (v := ?_) rfl (by kernel_rfl) (by kernel_rfl) (by kernel_rfl) rfl (fun _ _ _ h => h) (Or.inl ⟨by rfl, ?_⟩) (by assumption) ?_
          rotate_left
          · intro w; go_simp; (try with_reducible rfl)
          try simp only [Act.put, List.setIfInBounds_toArray, List.set_cons_zero, List.set_cons_succ]
          refine Bar.Walk.take [10, 13] (i := 9) (oi := ⟨some 34, _, _, _, _, _⟩) (v := ?_) rfl (by kernel_rfl) (by kernel_rfl) (by kernel_rfl) (by kernel_rfl) (fun _ _ _ h => h) (Or.inl ⟨by rfl, ?_⟩) (by assumption) ?_
          rotate_left
          · intro w hSw; (try dsimp only at hSw); go_simp; (try with_reducible rfl)
          try simp only [Act.put, List.setIfInBounds_toArray, List.set_cons_zero, List.set_cons_succ]
          refine Bar.Walk.step (i := 4) (o := ⟨some 29, _, _, _, _, _⟩) (by kernel_rfl) rfl (fun K hK => ?_)
          go_simp
          refine (MV.out _).mono ?_
          rintro e w' ⟨rfl, rfl⟩
          go_wp2_with fail
          refine hK.out _ _ (by (try dsimp only); simp [go_sem, *]) (fun h1 => ?_)
          clear hK K hHeld
          have hHeld := h1
          clear h1
          try simp only [Act.put, List.setIfInBounds_toArray, List.set_cons_zero, List.set_cons_succ]
          refine Bar.Walk.takeY (i := 5) (oi := ⟨some 30, _, _, _, _, _⟩) (v := ?_) rfl (by kernel_rfl) (by kernel_rfl) (by kernel_rfl) rfl (fun _ _ _ h => h) (Or.inl ⟨by rfl, ?_⟩) (by assumption) ?_
          rotate_left
          · intro w; go_simp; (try with_reducible rfl)
          try simp only [Act.put, List.setIfInBounds_toArray, List.set_cons_zero, List.set_cons_succ]
          refine Bar.Walk.takeY (i := 12) (oi := ⟨some 37, _, _, _, _, _⟩) (v := ?_) rfl (by kernel_rfl) (by kernel_rfl) (by kernel_rfl) rfl (fun _ _ _ h => h) (Or.inl ⟨by rfl, ?_⟩) (by assumption) ?_
          rotate_left
          · intro w; go_simp; (try with_reducible rfl)
          try simp only [Act.put, List.setIfInBounds_toArray, List.set_cons_zero, List.set_cons_succ]
          refine Bar.Walk.step (i := 10) (o := ⟨some 35, _, _, _, _, _⟩) (by kernel_rfl) rfl (fun K hK => ?_)
          go_simp
          refine (MV.out _).mono ?_
          rintro e w' ⟨rfl, rfl⟩
          go_wp2_with fail
          refine hK.out _ _ (by (try dsimp only); simp [go_sem, *]) (fun h1 => ?_)
          clear hK K hHeld
          have hHeld := h1
          clear h1
          try simp only [Act.put, List.setIfInBounds_toArray, List.set_cons_zero, List.set_cons_succ]
          refine Bar.Walk.takeY (i := 11) (oi := ⟨some 36, _, _, _, _, _⟩) (v := ?_) rfl (by kernel_rfl) (by kernel_rfl) (by kernel_rfl) rfl (fun _ _ _ h => h) (Or.inl ⟨by rfl, ?_⟩) (by assumption) ?_
          rotate_left
          · intro w; go_simp; (try with_reducible rfl)
          try simp only [Act.put, List.setIfInBounds_toArray, List.set_cons_zero, List.set_cons_succ]
          refine Bar.Walk.pass (o := ⟨none, _, _, _, _, _⟩) (by kernel_rfl) rfl (by kernel_rfl) (fun K hK => ?_)
          go_simp
          refine hK.out _ _ ?_
          clear hK K hHeld
          try simp only [Act.put, List.setIfInBounds_toArray, List.set_cons_zero, List.set_cons_succ]
          refine wpAny_take (i := 14) (oi := ⟨some 38, _, _, _, _, _⟩) (v := ?_) rfl (by kernel_rfl) (by kernel_rfl) (by kernel_rfl) (fun _ _ _ h => h) (Or.inl ⟨by rfl, ?_⟩) ?_
          rotate_left
          · intro w; go_simp; (try with_reducible rfl)
          try simp only [Act.put, List.setIfInBounds_toArray, List.set_cons_zero, List.set_cons_succ]
          refine Bar.any_step (i := 15) (o := ⟨none, _, _, _, _, _⟩) (by kernel_rfl) rfl (fun K hK => ?_)
          go_simp
          refine hK.out _ _ ?_
          clear hK K
          try simp only [Act.put, List.setIfInBounds_toArray, List.set_cons_zero, List.set_cons_succ]
          refine wpAny_done (by kernel_rfl) ?_ _
          go_wp2_with fail
          go_roundw
          case rel => exact ⟨k + 1, by omega, by go_num, by
            rw [EL.out, EH.out]
            unfold Two mnC mxC
            first | (simp [go_sem, *]; done) | (simp [go_sem, *]; omega), by (repeat' (first | (with_reducible exact Grew.refl _) | (with_reducible assumption) | (with_reducible refine Grew.alloc ?_ _ _) | (with_reducible refine Grew.drew ?_) | (with_reducible refine Grew.drewN ?_ _) | (with_reducible refine Grew.setCell ?_ ?_ _) | go_size))⟩
          case measure => simp [intOf]; omega
      · obtain rfl : k = p.length := by omega
        obtain ⟨⟨t0, t1, t2⟩, t3, t4⟩ := hT
        obtain ⟨⟨r0, r1, r2⟩, r3, r4⟩ := (Two.new w 0 0 23).grown hG
        have GW : Grew w wr := ((Grew.refl w).alloc _ _).trans hG
        have nb : ¬ w.heap.size = B := by omega
        obtain ⟨MI, MA⟩ := rl_min p m h1
        rw [hv0] at MI MA
        have MI := Lib.hid MI
        have MA := Lib.hid MA
        generalize rl (fun j => m (at' p j)) v0 p.length = lo at *
        generalize rh (fun j => m (at' p j)) v0 p.length = hi at *
        go_wp2_with fail
        refine bodyPost_ret (v := .agg #[.int .i64 lo, .int .i64 hi]) (by simp [results, Try.results70, go_sem, *]) rfl ⟨lo, hi, MI.out, MA.out, rfl, by (repeat' (first | (with_reducible exact Grew.refl _) | (with_reducible assumption) | (with_reducible refine Grew.alloc ?_ _ _) | (with_reducible refine Grew.drew ?_) | (with_reducible refine Grew.drewN ?_ _) | (with_reducible refine Grew.setCell ?_ ?_ _) | go_size))⟩
end Hl
end Go.Proofs.Ytpiajdahmcelnaa
namespace Go.Proofs.Ytpiajdahmcelnaa
open Go.RowKit Go.Shelf
namespace Hl
theorem min_is {p : List Pt} {m : Pt → Int} {lo u v : Int} (h : MinOf p m lo) (e : ∀ x, m x = u * x.1 + v * x.2) : IsMin p u v lo := by
  obtain ⟨⟨x, hx, ex⟩, h2⟩ := h
  exact ⟨⟨x, hx, by rw [← e]; exact ex⟩, fun y hy => by rw [← e]; exact h2 y hy⟩
theorem max_is {p : List Pt} {m : Pt → Int} {hi u v : Int} (h : MaxOf p m hi) (e : ∀ x, -m x = u * x.1 + v * x.2) : IsMin p u v (-hi) := by
  obtain ⟨⟨x, hx, ex⟩, h2⟩ := h
  exact ⟨⟨x, hx, by rw [← e, ex]⟩, fun y hy => by rw [← e]; have := h2 y hy; omega⟩
def Box2Says (p : List Pt) (w : World) (e : Ending) (w' : World) : Prop := ∃ lo hi : Pt, IsBox p lo hi ∧ e = .returned (.tuple #[.agg #[.int .i64 lo.1, .int .i64 lo.2], .agg #[.int .i64 hi.1, .int .i64 hi.2]]) ∧ Grew w w'
set_option maxRecDepth 100000 in
set_option maxHeartbeats 2000000 in
theorem box_c (p : List Pt) (b o c : Nat) (w : World) (hr : Row w b o p) (hp : Plcs p) (h1 : 1 ≤ p.length) (h2 : p.length ≤ 9223372036854775807) :
    Calls Try.prog 46 #[.slice (some ⟨b, o, none⟩) p.length c] w (Box2Says p w) := by
  have HR := Lib.hid hr
  have BX : Hid (∀ W, Row W b o p → Calls Try.prog 70 #[.slice (some ⟨b, o, none⟩) p.length c, .func (.func 71) #[] #[]] W (SpanSays p (fun x => x.1) W)) := Lib.hid (fun W hW => bounds_c _ _ (enters_of Try.func71 (by kernel_rfl) rfl) measX p b o c W hW hp h1 h2)
  have BY : Hid (∀ W, Row W b o p → Calls Try.prog 70 #[.slice (some ⟨b, o, none⟩) p.length c, .func (.func 72) #[] #[]] W (SpanSays p (fun x => x.2) W)) := Lib.hid (fun W hW => bounds_c _ _ (enters_of Try.func72 (by kernel_rfl) rfl) measY p b o c W hW hp h1 h2)
  clear hr hp h1 h2
  have T2 := ((Two.new w 0 0 30).grown ((Grew.refl _).alloc #[.int .i64 0, .int .i64 0] 30))
  have T3 := Two.new (w.alloc (.cells #[.int .i64 0, .int .i64 0] 30)) 0 0 30
  have G0 : Grew w ((w.alloc (.cells #[.int .i64 0, .int .i64 0] 30)).alloc (.cells #[.int .i64 0, .int .i64 0] 30)) := ((Grew.refl w).alloc _ _).alloc _ _
  rw [World.size_alloc] at T3
  have T2 := Lib.hid T2
  have T3 := Lib.hid T3
  have G0 := Lib.hid G0
  go_enter Try.func46, Try.ntmps46
  go_wp2_with fail
  refine (BX.out _ (HR.out.grown G0.out)).mono ?_
  rintro e w1 ⟨xlo, xhi, mx, Mx, rfl, g1⟩
  have N4 := Lib.hid (Two.new w1 xlo xhi 23)
  have G1 := Lib.hid (G0.out.trans g1)
  have g1 := Lib.hid g1
  have MX := Lib.hid (And.intro mx Mx)
  clear mx Mx
  go_wp2_with fail
  refine (BY.out _ (HR.out.grown (G1.out.alloc _ _))).mono ?_
  rintro e w2 ⟨ylo, yhi, my, My, rfl, g2⟩
  have MY := Lib.hid (And.intro my My)
  clear my My
  obtain ⟨⟨b2, x0, x1⟩, f0, f1⟩ := T2.out.grown (g1.out.trans (((Grew.refl w1).alloc _ _).trans g2))
  obtain ⟨⟨b3, y0, y1⟩, f2, f3⟩ := T3.out.grown (g1.out.trans (((Grew.refl w1).alloc _ _).trans g2))
  obtain ⟨⟨b4, z0, z1⟩, f4, f5⟩ := N4.out.grown g2
  have GW : Grew w w2 := (G1.out.alloc _ _).trans g2
  have z1' := g1.out.size
  simp only [World.size_alloc] at z1'
  have n1 : ¬ w.heap.size = w1.heap.size := by omega
  have n2 : ¬ w.heap.size + 1 = w1.heap.size := by omega
  have n3 : ¬ w1.heap.size = w.heap.size := by omega
  have n4 : ¬ w1.heap.size = w.heap.size + 1 := by omega
  have n5 : ¬ w2.heap.size = w.heap.size := by omega
  have n6 : ¬ w2.heap.size = w.heap.size + 1 := by omega
  have n7 : ¬ w.heap.size = w2.heap.size := by omega
  have n8 : ¬ w.heap.size + 1 = w2.heap.size := by omega
  clear g2 g1 T2 T3 N4 G0 G1 BX BY z1'
  go_wp2_with fail
  go_region_held3 (fun w' => (w'.cell? ⟨w1.heap.size, 0, none⟩ = some (.int .i64 xlo) ∧ w'.cell? ⟨w1.heap.size, 1, none⟩ = some (.int .i64 xhi)) ∧ (w'.cell? ⟨w2.heap.size, 0, none⟩ = some (.int .i64 ylo) ∧ w'.cell? ⟨w2.heap.size, 1, none⟩ = some (.int .i64 yhi))) (simp [go_sem, *]) (fail)
  all_goals go_wp2_with fail
  all_goals refine bodyPost_ret (v := .tuple #[.agg #[.int .i64 xlo, .int .i64 ylo], .agg #[.int .i64 xhi, .int .i64 yhi]]) (by simp [results, Try.results46, go_sem, *]) rfl ⟨(xlo, ylo), (xhi, yhi), ⟨min_is MX.out.1 (fun x => by omega), max_is MX.out.2 (fun x => by omega), min_is MY.out.1 (fun x => by omega), max_is MY.out.2 (fun x => by omega)⟩, rfl, by (repeat' (first | (with_reducible exact Grew.refl _) | (with_reducible assumption) | (with_reducible refine Grew.alloc ?_ _ _) | (with_reducible refine Grew.drew ?_) | (with_reducible refine Grew.drewN ?_ _) | (with_reducible refine Grew.setCell ?_ ?_ _) | go_size))⟩
end Hl
end Go.Proofs.Ytpiajdahmcelnaa
