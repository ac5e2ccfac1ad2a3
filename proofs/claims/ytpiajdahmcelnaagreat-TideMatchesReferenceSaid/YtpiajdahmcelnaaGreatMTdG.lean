/-
  The landed package tide: what holds in the blocks of a rectangle, in some slots, as it is ranged over.
-/
import Derived.RangeFuncNested
import Derived.Test.YtpiajdahmcelnaaGreatMTdF
import Derived.Test.YtpiajdahmcelnaaGreatMHullCm
namespace Go.Proofs.YtpiajdahmcelnaaGreat
open Go.RowKit Hl
namespace Td
set_option maxRecDepth 100000

def fit (f : Fw) : Fw := if Bok f.k then f else f0
theorem fit_bok (f : Fw) : Bok (fit f).k := by
  unfold fit
  split
  · assumption
  · decide
theorem fit_is {f : Fw} (h : Bok f.k) : fit f = f := by unfold fit; rw [if_pos h]
def encF (f : Fw) : Array Value := #[.agg #[.int .i64 (fit f).x, .int .i64 (fit f).y, .int .i64 (fit f).s, .int .i64 (fit f).k.a, .int .i64 (fit f).k.b, .int .i64 (fit f).k.c, .int .i64 (fit f).k.d, .int .i64 (fit f).k.e, .int .i64 (fit f).k.f]]
/-- In the rows and columns of a rectangle. -/
def inR (Y Y' X X' : Int) (f : Fw) : Bool := decide (Y ≤ f.y ∧ f.y ≤ Y') && decide (X ≤ f.x ∧ f.x ≤ X')
def vis (Y Y' X X' : Int) (M : List Fw) : List Fw := M.filter (inR Y Y' X X')
theorem vis_yes {Y Y' X X' : Int} {M : List Fw} {k : Nat} (hk : k < M.length) (h : inR Y Y' X X' (ith M k) = true) : vis Y Y' X X' (M.take (k + 1)) = vis Y Y' X X' (M.take k) ++ [ith M k] := by
  unfold vis
  have e : M.take (k + 1) = M.take k ++ [ith M k] := by
    rw [List.take_add_one, ith_get hk]
    rfl
  rw [e, List.filter_append, List.filter_cons, if_pos h]
  rfl
theorem vis_no {Y Y' X X' : Int} {M : List Fw} {k : Nat} (hk : k < M.length) (h : inR Y Y' X X' (ith M k) = false) : vis Y Y' X X' (M.take (k + 1)) = vis Y Y' X X' (M.take k) := by
  unfold vis
  have e : M.take (k + 1) = M.take k ++ [ith M k] := by
    rw [List.take_add_one, ith_get hk]
    rfl
  rw [e, List.filter_append, List.filter_cons, if_neg (by rw [h]; decide)]
  simp
theorem vis_len (Y Y' X X' : Int) (M : List Fw) : (vis Y Y' X X' M).length ≤ M.length := List.length_filter_le _ _
def cntB (S Y X S' Y' X' : Int) : Int := (S' - S + 1) * (Y' - Y + 1) * (X' - X + 1)
def bl (r : Fw) (M : List Fw) (S Y X S' Y' X' : Int) : List Fw := vis Y Y' X X' M ++ (if 0 < cntB S Y X S' Y' X' - (vis Y Y' X X' M).length then [r] else [])
theorem grownBy_g {X Y : World} (g : Grew X Y) : X.grownBy Y none := ⟨g.os, g.tape, g.output, g.size, fun k hk _ => g.block k hk⟩
/-- Bounds that no product passes. -/
def Few6 (S Y X S' Y' X' : Int) : Prop := (-300000 ≤ S ∧ S ≤ S' ∧ S' ≤ 300000) ∧ (-60 ≤ Y ∧ Y ≤ Y' ∧ Y' ≤ 60) ∧ (-60 ≤ X ∧ X ≤ X' ∧ X' ≤ 60)
theorem few6_bd {S Y X S' Y' X' : Int} (h : Few6 S Y X S' Y' X') : (1 ≤ (S' - S + 1) * (Y' - Y + 1) ∧ (S' - S + 1) * (Y' - Y + 1) ≤ 100000000) ∧ (1 ≤ (S' - S + 1) * (Y' - Y + 1) * (X' - X + 1) ∧ (S' - S + 1) * (Y' - Y + 1) * (X' - X + 1) ≤ 100000000000) := by
  obtain ⟨h1, h2, h3⟩ := h
  have m : ∀ a b A B : Int, 1 ≤ a → a ≤ A → 1 ≤ b → b ≤ B → 1 ≤ a * b ∧ a * b ≤ A * B := by
    intro a b A B a1 a2 b1 b2
    have e1 := Int.mul_le_mul a2 b2 (by omega) (by omega)
    have e2 := Int.mul_le_mul a1 b1 (by omega) (by omega)
    omega
  have p := m (S' - S + 1) (Y' - Y + 1) 600001 121 (by omega) (by omega) (by omega) (by omega)
  have q := m ((S' - S + 1) * (Y' - Y + 1)) (X' - X + 1) 100000000 121 (by omega) (by omega) (by omega) (by omega)
  omega
/-- The cells that the iterator reads. -/
def Sees (W : World) (Bl Bf Bt : Nat) (t : Ed) (u : Value) (S Y X S' Y' X' : Int) : Prop := (W.cell? ⟨Bf, 0, none⟩ = some (.int .i64 S) ∧ W.cell? ⟨Bf, 1, none⟩ = some (.int .i64 Y) ∧ W.cell? ⟨Bf, 2, none⟩ = some (.int .i64 X)) ∧ (W.cell? ⟨Bl, 0, none⟩ = some (.int .i64 S') ∧ W.cell? ⟨Bl, 1, none⟩ = some (.int .i64 Y') ∧ W.cell? ⟨Bl, 2, none⟩ = some (.int .i64 X')) ∧ (W.cell? ⟨Bt, 0, none⟩ = some (.int .i64 t.v) ∧ W.cell? ⟨Bt, 1, none⟩ = some (.int .i64 t.z) ∧ W.cell? ⟨Bt, 2, none⟩ = some (.int .i64 t.n) ∧ W.cell? ⟨Bt, 3, none⟩ = some (.int .i64 t.r.x) ∧ W.cell? ⟨Bt, 4, none⟩ = some (.int .i64 t.r.y) ∧ W.cell? ⟨Bt, 5, none⟩ = some (.int .i64 t.r.s) ∧ W.cell? ⟨Bt, 6, none⟩ = some (.int .i64 t.r.k.a) ∧ W.cell? ⟨Bt, 7, none⟩ = some (.int .i64 t.r.k.b) ∧ W.cell? ⟨Bt, 8, none⟩ = some (.int .i64 t.r.k.c) ∧ W.cell? ⟨Bt, 9, none⟩ = some (.int .i64 t.r.k.d) ∧ W.cell? ⟨Bt, 10, none⟩ = some (.int .i64 t.r.k.e) ∧ W.cell? ⟨Bt, 11, none⟩ = some (.int .i64 t.r.k.f) ∧ W.cell? ⟨Bt, 12, none⟩ = some (u))
theorem Sees.grew {W w : World} {Bl Bf Bt : Nat} {t : Ed} {u : Value} {S Y X S' Y' X' : Int} (h : Sees W Bl Bf Bt t u S Y X S' Y' X') (g : Grew W w) : Sees w Bl Bf Bt t u S Y X S' Y' X' := by
  obtain ⟨⟨a0, a1, a2⟩, ⟨b0, b1, b2⟩, ⟨t0, t1, t2, t3, t4, t5, t6, t7, t8, t9, t10, t11, t12⟩⟩ := h
  have x1 := World.block_lt_of_cell? W _ a0
  have x2 := World.block_lt_of_cell? W _ b0
  have x3 := World.block_lt_of_cell? W _ t0
  exact ⟨⟨(g.cell x1).trans a0, (g.cell x1).trans a1, (g.cell x1).trans a2⟩, ⟨(g.cell x2).trans b0, (g.cell x2).trans b1, (g.cell x2).trans b2⟩, ⟨(g.cell x3).trans t0, (g.cell x3).trans t1, (g.cell x3).trans t2, (g.cell x3).trans t3, (g.cell x3).trans t4, (g.cell x3).trans t5, (g.cell x3).trans t6, (g.cell x3).trans t7, (g.cell x3).trans t8, (g.cell x3).trans t9, (g.cell x3).trans t10, (g.cell x3).trans t11, (g.cell x3).trans t12⟩⟩
theorem Sees.lt {W : World} {Bl Bf Bt : Nat} {t : Ed} {u : Value} {S Y X S' Y' X' : Int} (h : Sees W Bl Bf Bt t u S Y X S' Y' X') : Bl < W.heap.size ∧ Bf < W.heap.size ∧ Bt < W.heap.size :=
  ⟨World.block_lt_of_cell? W _ h.2.1.1, World.block_lt_of_cell? W _ h.1.1, World.block_lt_of_cell? W _ h.2.2.1⟩
theorem grew_below {a b c : World} (h : Grew a b) (k : Below a.heap.size b c) : Grew a c := Below.trans h k
set_option maxHeartbeats 16000000 in
theorem blocks1_in (n : Nat) (hn : 1 ≤ n) (q : Nat) (Bl Bf Bt : Nat) (t : Ed) (u : Value) (S Y X S' Y' X' : Int) (a z : Nat) (w0 : World) (J Jx : List Fw → World → Prop)
    (W : World) (hJ : AbidesFrom W.heap.size J)
    (hY : ∀ pre f W1, J pre W1 → pre.length < 4002 → YieldAt Fence.wide (n - 1) Tryz.prog q (encF f) W1 fun e W' =>
      (e = .returned (.bool true) ∧ J (pre ++ [f]) W' ∧ Below w0.heap.size W1 W') ∨ (e = .returned (.bool false) ∧ Jx (pre ++ [f]) W'))
    (hW : Grew w0 W) (hs : Rs w0 u t.l) (hc : Sees w0 Bl Bf Bt t u S Y X S' Y' X') (hl : t.l.length ≤ 4000) (hk : ∀ i, i < t.l.length → Bok (ith t.l i).k) (hr : Bok t.r.k)
    (ha : Cut1 t.l S Y X a) (hz : Cut2 t.l S' Y' X' z) (haz : a ≤ z) (hf : Few6 S Y X S' Y' X') (h0 : J [] W) :
    CallsIn Fence.wide n Tryz.prog 48 #[.func (.yield q) #[] #[], .pointer (some ⟨Bl, 0, none⟩), .pointer (some ⟨Bf, 0, none⟩), .pointer (some ⟨Bt, 0, none⟩)] W fun e W' => (∃ v, e = .returned v) ∧
      ((∃ ys, ys = bl t.r ((t.l.take z).drop a) S Y X S' Y' X' ∧ J ys W') ∨ (∃ pre, True ∧ Jx pre W')) := by
  have HY := Lib.hid hY
  have HJ := Lib.hid hJ
  have HC := Lib.hid hc
  have BT : Hid (∀ (W' : World), Grew w0 W' → CallsIn Fence.wide (n - 1) Tryz.prog 49 #[u, .agg #[.int .i64 S, .int .i64 Y, .int .i64 X], .agg #[.int .i64 S', .int .i64 Y', .int .i64 X']] W' fun e w' => ∃ v', e = .returned v' ∧ (∀ W0, Rs W0 u t.l → Rs W0 v' ((t.l.take z).drop a)) ∧ Grew W' w') := Lib.hid (fun W' g => callsIn_wide.2 (between_c t.l u S Y X S' Y' X' W' a z (hs.grew g) hl ha hz haz))
  have HS := Lib.hid hs
  obtain ⟨M, hM⟩ : ∃ M, (t.l.take z).drop a = M := ⟨_, rfl⟩
  have MB : Hid (∀ i, i < M.length → Bok (ith M i).k) := Lib.hid (fun i hi => by
    rw [← hM] at hi ⊢
    rw [List.length_drop, List.length_take] at hi
    rw [ith_drop, ith_take (by omega)]
    exact hk _ (by omega))
  have ML : M.length ≤ 4000 := by
    rw [← hM, List.length_drop, List.length_take]
    omega
  rw [hM] at BT ⊢
  have HR := Lib.hid hr
  obtain ⟨⟨p0, p1⟩, ⟨p2, p3⟩⟩ := few6_bd hf
  obtain ⟨⟨f0, f1, f2⟩, ⟨f3, f4, f5⟩, ⟨f6, f7, f8⟩⟩ := hf
  have HV : Hid (∀ k, k < M.length → (inR Y Y' X X' (ith M k) = true → vis Y Y' X X' (M.take (k + 1)) = vis Y Y' X X' (M.take k) ++ [ith M k]) ∧ (inR Y Y' X X' (ith M k) = false → vis Y Y' X X' (M.take (k + 1)) = vis Y Y' X X' (M.take k))) := Lib.hid (fun k hk => ⟨vis_yes hk, vis_no hk⟩)
  have HL : Hid (∀ k, (vis Y Y' X X' (M.take k)).length ≤ 4000) := Lib.hid (fun k => Nat.le_trans (vis_len _ _ _ _ _) (by rw [List.length_take]; omega))
  have HB : Hid (bl t.r M S Y X S' Y' X' = vis Y Y' X X' M ++ (if 0 < (S' - S + 1) * (Y' - Y + 1) * (X' - X + 1) - ((vis Y Y' X X' M).length : Int) then [t.r] else [])) := Lib.hid rfl
  rcases t with ⟨tv, tz, tn, ⟨rx, ry, rs, ⟨ra, rb, rc, rd, rp, rq⟩⟩, l⟩
  simp only at HS BT HC HR HB hl hk ⊢
  obtain ⟨⟨a0, a1, a2⟩, ⟨b0, b1, b2⟩, ⟨t0, t1, t2, t3, t4, t5, t6, t7, t8, t9, t10, t11, t12⟩⟩ := HC.out.grew hW
  obtain ⟨x1, x2, x3⟩ := (HC.out.grew hW).lt
  have HW := Lib.hid hW
  clear hY hJ hc hs hk hr ha hz haz hM hW
  simp only at t0 t1 t2 t3 t4 t5 t6 t7 t8 t9 t10 t11 t12
  refine callsIn_of_wp Tryz.func48 rfl trivial ?_ rfl
  simp only [Tryz.ntmps48, List.size_toArray, List.length_cons, List.length_nil, Nat.reduceAdd, Nat.reduceSub, Array.replicate_succ, Array.replicate_zero, List.push_toArray, List.append_toArray, List.nil_append, List.cons_append]
  gi_wp2_with fail
  refine ⟨trivial, (BT.out _ HW.out).mono ?_⟩
  rintro e w1 ⟨v', rfl, hv, g1⟩
  have HV2 := Lib.hid (hv w0 HS.out)
  have G1 := Lib.hid (HW.out.trans g1)
  have hJ1 : J [] w1 := HJ.out _ _ _ none h0 (grownBy_g g1) (fun r e => by cases e)
  obtain ⟨sa, sc, rfl, hsc⟩ := HV2.out.shape
  have HJ1 := Lib.hid hJ1
  clear hv g1 h0 hJ1 a0 a1 a2 b0 b1 b2 t0 t1 t2 t3 t4 t5 t6 t7 t8 t9 t10 t11 t12 x1 x2 x3 BT
  gi_wp2_with fail
  gi_loopw [5, 34] (fun o i wr => ∃ k : Nat, k ≤ M.length ∧ i = .int .i64 k ∧ o = .int .i64 ((S' - S + 1) * (Y' - Y + 1) * (X' - X + 1) - ((vis Y Y' X X' (M.take k)).length : Int)) ∧ Hid (J (vis Y Y' X X' (M.take k)) wr ∧ Grew w0 wr)) (fun _ i _ => M.length - (intOf i).toNat)
  case atStart => exact ⟨0, Nat.zero_le _, rfl, by simp [vis], Lib.hid ⟨by simpa [vis] using HJ1.out, G1.out⟩⟩
  case round =>
    clear HJ1 G1
    obtain ⟨k, hk, rfl, rfl, HK⟩ := hrel
    have k0 : (0 : Int) ≤ (k : Int) := by omega
    obtain ⟨N, hN⟩ : ∃ N : Nat, (vis Y Y' X X' (M.take k)).length = N := ⟨_, rfl⟩
    have hN4 : (N : Int) ≤ 4000 := by have := HL.out k; omega
    have hN0 : (0 : Int) ≤ (N : Int) := by omega
    rw [hN]
    have HN := Lib.hid hN
    clear hN
    obtain ⟨⟨a0, a1, a2⟩, ⟨b0, b1, b2⟩, ⟨t0, t1, t2, t3, t4, t5, t6, t7, t8, t9, t10, t11, t12⟩⟩ := HC.out.grew HK.out.2
    obtain ⟨x1, x2, x3⟩ := (HC.out.grew HK.out.2).lt
    simp only at t0 t1 t2 t3 t4 t5 t6 t7 t8 t9 t10 t11 t12
    by_cases hlt : k < M.length
    · have i1 : (k : Int) < (M.length : Int) := by omega
      obtain ⟨b, o, rfl, hr⟩ := HV2.out.row (by omega)
      obtain ⟨q0, q1, q2, q3, q4, q5, q6, q7, q8⟩ := (hr.grew HK.out.2).at hlt
      have x4 : b < wr.heap.size := World.block_lt_of_cell? wr _ q0
      have FB := MB.out k hlt
      have VY := Lib.hid (HV.out k hlt)
      obtain ⟨f, hf⟩ : ∃ f, ith M k = f := ⟨_, rfl⟩
      rw [hf] at q0 q1 q2 q3 q4 q5 q6 q7 q8 FB VY
      have C1 : Hid (∀ W', CallsIn Fence.wide (n - 1) Tryz.prog 22 #[.int .i64 f.y, .int .i64 Y, .int .i64 Y'] W' fun e w' => e = .returned (.bool (decide (Y ≤ f.y ∧ f.y ≤ Y'))) ∧ W' = w') := Lib.hid (fun W' => callsIn_wide.2 (isFrom_c f.y Y Y' W'))
      have C2 : Hid (∀ W', CallsIn Fence.wide (n - 1) Tryz.prog 22 #[.int .i64 f.x, .int .i64 X, .int .i64 X'] W' fun e w' => e = .returned (.bool (decide (X ≤ f.x ∧ f.x ≤ X'))) ∧ W' = w') := Lib.hid (fun W' => callsIn_wide.2 (isFrom_c f.x X X' W'))
      have IR : Hid (inR Y Y' X X' f = (decide (Y ≤ f.y ∧ f.y ≤ Y') && decide (X ≤ f.x ∧ f.x ≤ X'))) := Lib.hid rfl
      generalize decide (Y ≤ f.y ∧ f.y ≤ Y') = r1 at C1 IR
      generalize decide (X ≤ f.x ∧ f.x ≤ X') = r2 at C2 IR
      have ENC : Hid (encF f = #[.agg #[.int .i64 f.x, .int .i64 f.y, .int .i64 f.s, .int .i64 f.k.a, .int .i64 f.k.b, .int .i64 f.k.c, .int .i64 f.k.d, .int .i64 f.k.e, .int .i64 f.k.f]]) := Lib.hid (by unfold encF; rw [fit_is FB])
      have hJ2 : Hid (J (vis Y Y' X X' (M.take k)) (wr.alloc (.cells #[.int .i64 f.x, .int .i64 f.y, .int .i64 f.s, .int .i64 f.k.a, .int .i64 f.k.b, .int .i64 f.k.c, .int .i64 f.k.d, .int .i64 f.k.e, .int .i64 f.k.f] 25)) ∧ Grew w0 (wr.alloc (.cells #[.int .i64 f.x, .int .i64 f.y, .int .i64 f.s, .int .i64 f.k.a, .int .i64 f.k.b, .int .i64 f.k.c, .int .i64 f.k.d, .int .i64 f.k.e, .int .i64 f.k.f] 25))) := Lib.hid ⟨HJ.out _ _ _ none HK.out.1 (World.grownBy_alloc _ _ none) (fun r e => by cases e), HK.out.2.alloc _ _⟩
      clear hr hf FB
      gi_wp2_with fail
      refine ⟨trivial, (C1.out _).mono ?_⟩
      rintro e w2 ⟨rfl, rfl⟩
      cases r1
      · have VN := Lib.hid (VY.out.2 (by rw [IR.out]; rfl))
        gi_wp2_with fail
        refine ⟨trivial, ?_⟩
        gi_wp2_with fail
        go_roundw
        case rel => exact ⟨k + 1, by omega, by go_num, by rw [VN.out, HN.out], Lib.hid (by rw [VN.out]; exact hJ2.out)⟩
        case measure => simp [intOf]; omega
      · gi_wp2_with fail
        refine ⟨trivial, (C2.out _).mono ?_⟩
        rintro e w3 ⟨rfl, rfl⟩
        cases r2
        · have VN := Lib.hid (VY.out.2 (by rw [IR.out]; rfl))
          gi_wp2_with fail
          go_roundw
          case rel => exact ⟨k + 1, by omega, by go_num, by rw [VN.out, HN.out], Lib.hid (by rw [VN.out]; exact hJ2.out)⟩
          case measure => simp [intOf]; omega
        · have VS := Lib.hid (VY.out.1 (by rw [IR.out]; rfl))
          obtain ⟨fn, tmps, assign, body, hy, hR⟩ := HY.out _ f _ hJ2.out.1 (by rw [HN.out]; omega)
          have hR' := hR.mono (R' := fun e W' => ∃ r : Bool, e = .returned (.bool r) ∧ Hid ((r = true → J (vis Y Y' X X' (M.take (k + 1))) W' ∧ Grew w0 W') ∧ (r = false → Jx (vis Y Y' X X' (M.take (k + 1))) W'))) (by
            rintro e W' (⟨rfl, h1, h2⟩ | ⟨rfl, h1⟩)
            · exact ⟨true, rfl, Lib.hid ⟨fun _ => ⟨by rw [VS.out]; exact h1, grew_below hJ2.out.2 h2⟩, fun h => by cases h⟩⟩
            · exact ⟨false, rfl, Lib.hid ⟨fun h => (by cases h), fun _ => (by rw [VS.out]; exact h1)⟩⟩)
          have LS : Hid ((vis Y Y' X X' (M.take (k + 1))).length = N + 1) := Lib.hid (by rw [VS.out, List.length_append, HN.out]; rfl)
          clear hR hJ2 HK VS VY
          rw [ENC.out] at hy
          clear ENC q0 q1 q2 q3 q4 q5 q6 q7 q8 x4
          gi_wp2_with fail
          refine hR'.mono ?_
          rintro e W3 ⟨r, rfl, hjr⟩
          cases r
          · have F := Lib.hid (hjr.out.2 (by first | rfl | trivial))
            clear hjr
            gi_wp2_with fail
            refine bodyPost_ret (results_none rfl _ _ _) rfl ?_
            exact ⟨⟨_, rfl⟩, .inr ⟨_, trivial, F.out⟩⟩
          · have F := Lib.hid (hjr.out.1 (by first | rfl | trivial))
            clear hjr
            gi_wp2_with fail
            go_roundw
            case rel => exact ⟨k + 1, by omega, by go_num, by rw [LS.out]; go_num, F⟩
            case measure => simp [intOf]; omega
    · obtain rfl : k = M.length := by omega
      have TK : Hid (M.take M.length = M) := Lib.hid (List.take_length)
      rw [TK.out] at HN HK
      by_cases ho : 0 < (S' - S + 1) * (Y' - Y + 1) * (X' - X + 1) - (N : Int)
      · have LB : Hid (bl ⟨rx, ry, rs, ⟨ra, rb, rc, rd, rp, rq⟩⟩ M S Y X S' Y' X' = vis Y Y' X X' M ++ [⟨rx, ry, rs, ⟨ra, rb, rc, rd, rp, rq⟩⟩]) := Lib.hid (by rw [HB.out, if_pos (by rw [HN.out]; exact ho)])
        have ENC : Hid (encF ⟨rx, ry, rs, ⟨ra, rb, rc, rd, rp, rq⟩⟩ = #[.agg #[.int .i64 rx, .int .i64 ry, .int .i64 rs, .int .i64 ra, .int .i64 rb, .int .i64 rc, .int .i64 rd, .int .i64 rp, .int .i64 rq]]) := Lib.hid (by unfold encF; rw [fit_is HR.out])
        obtain ⟨fn, tmps, assign, body, hy, hR⟩ := HY.out _ ⟨rx, ry, rs, ⟨ra, rb, rc, rd, rp, rq⟩⟩ _ HK.out.1 (by rw [HN.out]; omega)
        have hR' := hR.mono (R' := fun e W' => ∃ r : Bool, e = .returned (.bool r) ∧ Hid ((r = true → J (bl ⟨rx, ry, rs, ⟨ra, rb, rc, rd, rp, rq⟩⟩ M S Y X S' Y' X') W') ∧ (r = false → Jx (bl ⟨rx, ry, rs, ⟨ra, rb, rc, rd, rp, rq⟩⟩ M S Y X S' Y' X') W'))) (by
          rintro e W' (⟨rfl, h1, h2⟩ | ⟨rfl, h1⟩)
          · exact ⟨true, rfl, Lib.hid ⟨fun _ => by rw [LB.out]; exact h1, fun h => by cases h⟩⟩
          · exact ⟨false, rfl, Lib.hid ⟨fun h => (by cases h), fun _ => (by rw [LB.out]; exact h1)⟩⟩)
        clear hR HK
        rw [ENC.out] at hy
        clear ENC
        gi_wp2_with fail
        refine hR'.mono ?_
        rintro e W3 ⟨r, rfl, hjr⟩
        cases r
        · have F := Lib.hid (hjr.out.2 (by first | rfl | trivial))
          clear hjr
          gi_wp2_with fail
          go_end0
          exact ⟨⟨_, rfl⟩, .inr ⟨_, trivial, F.out⟩⟩
        · have F := Lib.hid (hjr.out.1 (by first | rfl | trivial))
          clear hjr
          gi_wp2_with fail
          go_end0
          exact ⟨⟨_, rfl⟩, .inl ⟨_, rfl, F.out⟩⟩
      · have LB : Hid (bl ⟨rx, ry, rs, ⟨ra, rb, rc, rd, rp, rq⟩⟩ M S Y X S' Y' X' = vis Y Y' X X' M) := Lib.hid (by rw [HB.out, if_neg (by rw [HN.out]; exact ho), List.append_nil])
        gi_wp2_with fail
        go_end0
        exact ⟨⟨_, rfl⟩, .inl (by rw [LB.out]; exact HK.out.1)⟩
theorem blocks_stops (n : Nat) (hn : 1 ≤ n) (Bl Bf Bt : Nat) (t : Ed) (u : Value) (S Y X S' Y' X' : Int) (a z : Nat) (w : World)
    (hs : Rs w u t.l) (hc : Sees w Bl Bf Bt t u S Y X S' Y' X') (hl : t.l.length ≤ 4000) (hk : ∀ i, i < t.l.length → Bok (ith t.l i).k) (hr : Bok t.r.k)
    (ha : Cut1 t.l S Y X a) (hz : Cut2 t.l S' Y' X' z) (haz : a ≤ z) (hf : Few6 S Y X S' Y' X') :
    SeqStopsK Fence.wide n Tryz.prog 48 #[.pointer (some ⟨Bl, 0, none⟩), .pointer (some ⟨Bf, 0, none⟩), .pointer (some ⟨Bt, 0, none⟩)] encF (Below w.heap.size) (fun ys => ys = bl t.r ((t.l.take z).drop a) S Y X S' Y' X') (fun _ => True) 4002 w :=
  fun l J Jx W hW hJ _hJx hY h0 => blocks1_in n hn l Bl Bf Bt t u S Y X S' Y' X' a z w J Jx W hJ hY hW hs hc hl hk hr ha hz haz hf h0
end Td
end Go.Proofs.YtpiajdahmcelnaaGreat
