/-
  The landed package ray: what is a ray, a width, a vector; a ray by its number.
-/
import Derived.Test.YtcihkpjdjenbjaaDoorHullRef
import Derived.Test.YtcihkpjdjenbjaaDoorHullBar
import Derived.Test.YtcihkpjdjenbjaaDoorHullCm
import Derived.Test.YtcihkpjdjenbjaaDoorHullSame
namespace Go.Proofs.YtcihkpjdjenbjaaDoor
open Go.RowKit Hl
namespace Ry
set_option maxRecDepth 100000

theorem q0_bdQ : ∀ j, j < 17 → (-1000 ≤ (q0 j).1 ∧ (q0 j).1 ≤ 1000) ∧ (-1000 ≤ (q0 j).2 ∧ (q0 j).2 ≤ 1000) := by decide
theorem tn_bdQ (m : Nat) {x : Pt} (h : (-1000 ≤ x.1 ∧ x.1 ≤ 1000) ∧ (-1000 ≤ x.2 ∧ x.2 ≤ 1000)) : (-1000 ≤ (tn m x).1 ∧ (tn m x).1 ≤ 1000) ∧ (-1000 ≤ (tn m x).2 ∧ (tn m x).2 ≤ 1000) := by
  induction m with
  | zero => exact h
  | succ m ih =>
    show (-1000 ≤ -(tn m x).2 ∧ -(tn m x).2 ≤ 1000) ∧ (-1000 ≤ (tn m x).1 ∧ (tn m x).1 ≤ 1000)
    omega
/-- A vector. -/
def Vec (v : Pt) : Prop := ((-1000000 ≤ v.1 ∧ v.1 ≤ 1000000) ∧ (-1000000 ≤ v.2 ∧ v.2 ≤ 1000000)) ∧ v ≠ (0, 0)
theorem isRay_yes (k : Int) (h0 : 0 ≤ k) (h1 : k < 64) (w : World) : Calls Tryd.prog 24 #[.int .i64 k] w fun e w' => e = .returned (.bool true) ∧ w = w' := by
  go_enter Tryd.func24, Tryd.ntmps24
  go_wp2_with fail
  go_ret
  exact ⟨by first | rfl | (simp; omega), rfl⟩
theorem isRay_no (k : Int) (h : k < 0 ∨ 64 ≤ k) (w : World) : Calls Tryd.prog 24 #[.int .i64 k] w fun e w' => e = .returned (.bool false) ∧ w = w' := by
  by_cases h0 : k < 0
  · clear h
    go_enter Tryd.func24, Tryd.ntmps24
    go_wp2_with fail
    go_ret
    exact ⟨by first | rfl | (simp; omega), rfl⟩
  · have h1 : ¬ k < 64 := by omega
    clear h
    go_enter Tryd.func24, Tryd.ntmps24
    go_wp2_with fail
    go_ret
    exact ⟨by first | rfl | (simp; omega), rfl⟩
theorem isWidth_yes (k : Int) (h0 : 0 ≤ k) (h1 : k ≤ 31) (w : World) : Calls Tryd.prog 27 #[.int .i64 k] w fun e w' => e = .returned (.bool true) ∧ w = w' := by
  go_enter Tryd.func27, Tryd.ntmps27
  go_wp2_with fail
  go_ret
  exact ⟨by first | rfl | (simp; omega), rfl⟩
theorem isWidth_no (k : Int) (h : k < 0 ∨ 31 < k) (w : World) : Calls Tryd.prog 27 #[.int .i64 k] w fun e w' => e = .returned (.bool false) ∧ w = w' := by
  by_cases h0 : k < 0
  · clear h
    go_enter Tryd.func27, Tryd.ntmps27
    go_wp2_with fail
    go_ret
    exact ⟨by first | rfl | (simp; omega), rfl⟩
  · have h1 : ¬ k ≤ 31 := by omega
    clear h
    go_enter Tryd.func27, Tryd.ntmps27
    go_wp2_with fail
    go_ret
    exact ⟨by first | rfl | (simp; omega), rfl⟩
theorem isLength_yes (k : Int) (h0 : -1000000 ≤ k) (h1 : k ≤ 1000000) (w : World) : Calls Tryd.prog 49 #[.int .i64 k] w fun e w' => e = .returned (.bool true) ∧ w = w' := by
  go_enter Tryd.func49, Tryd.ntmps49
  go_wp2_with fail
  go_ret
  exact ⟨by first | rfl | (simp; omega), rfl⟩
theorem isLength_no (k : Int) (h : k < -1000000 ∨ 1000000 < k) (w : World) : Calls Tryd.prog 49 #[.int .i64 k] w fun e w' => e = .returned (.bool false) ∧ w = w' := by
  by_cases h0 : k < -1000000
  · clear h
    go_enter Tryd.func49, Tryd.ntmps49
    go_wp2_with fail
    go_ret
    exact ⟨by first | rfl | (simp; omega), rfl⟩
  · have h1 : ¬ k ≤ 1000000 := by omega
    clear h
    go_enter Tryd.func49, Tryd.ntmps49
    go_wp2_with fail
    go_ret
    exact ⟨by first | rfl | (simp; omega), rfl⟩
theorem isVector_yes (v : Pt) (w : World) (h : Vec v) : Calls Tryd.prog 28 #[.agg #[.int .i64 v.1, .int .i64 v.2]] w fun e w' => e = .returned (.bool true) ∧ Grew w w' := by
  obtain ⟨⟨⟨a0, a1⟩, b0, b1⟩, hn⟩ := h
  obtain ⟨x, y⟩ := v
  simp only at a0 a1 b0 b1 ⊢
  have L1 : Hid (∀ W, Calls Tryd.prog 49 #[.int .i64 x] W fun e w' => e = .returned (.bool true) ∧ W = w') := Lib.hid (fun W => isLength_yes x a0 a1 W)
  have L2 : Hid (∀ W, Calls Tryd.prog 49 #[.int .i64 y] W fun e w' => e = .returned (.bool true) ∧ W = w') := Lib.hid (fun W => isLength_yes y b0 b1 W)
  have G1 : Grew w (w.alloc (.cells #[.int .i64 x, .int .i64 y] 23)) := (Grew.refl w).alloc _ _
  by_cases e1 : x = 0
  · have e2 : ¬ y = 0 := fun e2 => hn (by rw [e1, e2])
    clear hn a0 a1 b0 b1
    subst e1
    go_enter Tryd.func28, Tryd.ntmps28
    go_wp2_with fail
    refine (L1.out _).mono ?_
    rintro e w' ⟨rfl, rfl⟩
    go_wp2_with fail
    refine (L2.out _).mono ?_
    rintro e w' ⟨rfl, rfl⟩
    go_wp2_with fail
    go_ret
    exact ⟨rfl, G1⟩
  · clear hn a0 a1 b0 b1
    go_enter Tryd.func28, Tryd.ntmps28
    go_wp2_with fail
    refine (L1.out _).mono ?_
    rintro e w' ⟨rfl, rfl⟩
    go_wp2_with fail
    refine (L2.out _).mono ?_
    rintro e w' ⟨rfl, rfl⟩
    go_wp2_with fail
    go_ret
    exact ⟨rfl, G1⟩
theorem isVector_no (v : Pt) (w : World) (h : ¬ Vec v) : Calls Tryd.prog 28 #[.agg #[.int .i64 v.1, .int .i64 v.2]] w fun e w' => e = .returned (.bool false) ∧ Grew w w' := by
  obtain ⟨x, y⟩ := v
  simp only
  have G1 : Grew w (w.alloc (.cells #[.int .i64 x, .int .i64 y] 23)) := (Grew.refl w).alloc _ _
  by_cases e0 : x = 0 ∧ y = 0
  · obtain ⟨rfl, rfl⟩ := e0
    clear h
    go_enter Tryd.func28, Tryd.ntmps28
    go_wp2_with fail
    go_ret
    exact ⟨rfl, G1⟩
  by_cases hx : -1000000 ≤ x ∧ x ≤ 1000000
  · have hy : y < -1000000 ∨ 1000000 < y := by
      by_cases hy : y < -1000000 ∨ 1000000 < y
      · exact hy
      · exact absurd ⟨⟨hx, by simp only; omega⟩, fun e => e0 ⟨congrArg Prod.fst e, congrArg Prod.snd e⟩⟩ h
    have L1 : Hid (∀ W, Calls Tryd.prog 49 #[.int .i64 x] W fun e w' => e = .returned (.bool true) ∧ W = w') := Lib.hid (fun W => isLength_yes x hx.1 hx.2 W)
    have L2 : Hid (∀ W, Calls Tryd.prog 49 #[.int .i64 y] W fun e w' => e = .returned (.bool false) ∧ W = w') := Lib.hid (fun W => isLength_no y hy W)
    have e2 : ¬ y = 0 := by omega
    by_cases e1 : x = 0
    · clear h e0 hx hy
      subst e1
      go_enter Tryd.func28, Tryd.ntmps28
      go_wp2_with fail
      refine (L1.out _).mono ?_
      rintro e w' ⟨rfl, rfl⟩
      go_wp2_with fail
      refine (L2.out _).mono ?_
      rintro e w' ⟨rfl, rfl⟩
      go_wp2_with fail
      go_ret
      exact ⟨rfl, G1⟩
    · clear h e0 hx hy
      go_enter Tryd.func28, Tryd.ntmps28
      go_wp2_with fail
      refine (L1.out _).mono ?_
      rintro e w' ⟨rfl, rfl⟩
      go_wp2_with fail
      refine (L2.out _).mono ?_
      rintro e w' ⟨rfl, rfl⟩
      go_wp2_with fail
      go_ret
      exact ⟨rfl, G1⟩
  · have L1 : Hid (∀ W, Calls Tryd.prog 49 #[.int .i64 x] W fun e w' => e = .returned (.bool false) ∧ W = w') := Lib.hid (fun W => isLength_no x (by omega) W)
    have e1 : ¬ x = 0 := by omega
    clear h e0 hx
    go_enter Tryd.func28, Tryd.ntmps28
    go_wp2_with fail
    refine (L1.out _).mono ?_
    rintro e w' ⟨rfl, rfl⟩
    go_wp2_with fail
    go_ret
    exact ⟨rfl, G1⟩
set_option maxHeartbeats 1000000 in
theorem direction_c (k : Nat) (w : World) (hT : Tq w) (hk : k < 128) : Calls Tryd.prog 25 #[.int .i64 k] w fun e w' => e = .returned (.agg #[.int .i64 (dir k).1, .int .i64 (dir k).2]) ∧ Grew w w' := by
  obtain ⟨m, hm⟩ : ∃ m, k / 16 = m := ⟨_, rfl⟩
  obtain ⟨j, hj⟩ : ∃ j, k % 16 = j := ⟨_, rfl⟩
  have ed : dir k = tn m (q0 j) := by unfold dir; rw [hm, hj]
  rw [ed]
  have j16 : j < 16 := by omega
  have m8 : m < 8 := by omega
  obtain ⟨c0, c1⟩ := hT.2 j j16
  have hg := hT.1
  obtain ⟨z, hz⟩ : ∃ z, q0 j = z := ⟨_, rfl⟩
  have BD : Hid (∀ t, (-1000 ≤ (tn t z).1 ∧ (tn t z).1 ≤ 1000) ∧ (-1000 ≤ (tn t z).2 ∧ (tn t z).2 ≤ 1000)) := Lib.hid (fun t => tn_bdQ t (by rw [← hz]; exact q0_bdQ j (by omega)))
  rw [hz] at c0 c1 ⊢
  have T1 : (k : Int).tmod 16 = (j : Int) := by rw [Int.tmod_eq_emod_of_nonneg (by omega)]; omega
  have T2 : (k : Int) % 16 = (j : Int) := by omega
  have T3 : (k : Int).tdiv 16 = (m : Int) := by rw [Int.tdiv_eq_ediv_of_nonneg (by omega)]; omega
  have T4 : (k : Int) / 16 = (m : Int) := by omega
  have i0 : (0 : Int) ≤ (j : Int) := by omega
  have i1 : (j : Int) < 16 := by omega
  have k0 : (0 : Int) ≤ (k : Int) := by omega
  have k1 : (k : Int) < 128 := by omega
  clear ed hm hj hz hT
  go_enter Tryd.func25, Tryd.ntmps25
  go_wp2_with fail
  have kA : Blk ((w.alloc (.cells #[.int .i64 0, .int .i64 0] 23)).alloc (.cells #[.int .i64 z.1, .int .i64 z.2] 23)) w.heap.size #[.int .i64 0, .int .i64 0] 23 := (Blk.new w _ _).alloc _
  have kB : Blk ((w.alloc (.cells #[.int .i64 0, .int .i64 0] 23)).alloc (.cells #[.int .i64 z.1, .int .i64 z.2] 23)) (w.heap.size + 1) #[.int .i64 z.1, .int .i64 z.2] 23 := by
    have h := Blk.new (w.alloc (.cells #[.int .i64 0, .int .i64 0] 23)) #[.int .i64 z.1, .int .i64 z.2] 23
    rwa [World.size_alloc] at h
  have G0 : Grew w ((w.alloc (.cells #[.int .i64 0, .int .i64 0] 23)).alloc (.cells #[.int .i64 z.1, .int .i64 z.2] 23)) := ((Grew.refl w).alloc _ _).alloc _ _
  clear c0 c1 hg
  go_loopw [10] (fun i wr => ∃ t : Nat, t ≤ m ∧ i = .int .i64 t ∧ Hid (Blk wr w.heap.size #[.int .i64 0, .int .i64 0] 23 ∧ Blk wr (w.heap.size + 1) #[.int .i64 (tn t z).1, .int .i64 (tn t z).2] 23 ∧ Grew w wr)) (fun i _ => m - (intOf i).toNat)
  case atStart => exact ⟨0, Nat.zero_le _, rfl, Lib.hid ⟨kA, kB, G0⟩⟩
  case round =>
    clear kA kB G0
    obtain ⟨t, ht, rfl, HH⟩ := hrel
    obtain ⟨⟨a0, a1⟩, a2, a3⟩ := HH.out.1.two
    obtain ⟨⟨b0, b1⟩, b2, b3⟩ := HH.out.2.1.two
    have lA := HH.out.1.lt
    have lB := HH.out.2.1.lt
    have t0 : (0 : Int) ≤ (t : Int) := by omega
    by_cases hlt : t < m
    · have BT := BD.out t
      have EN : Hid (tn (t + 1) z = (-(tn t z).2, (tn t z).1)) := Lib.hid rfl
      obtain ⟨u, hu⟩ : ∃ u, (tn t z).1 = u := ⟨_, rfl⟩
      obtain ⟨v, hv⟩ : ∃ v, (tn t z).2 = v := ⟨_, rfl⟩
      rw [hu] at b0 BT EN HH
      rw [hv] at b1 BT EN HH
      obtain ⟨⟨u0, u1⟩, v0, v1⟩ := BT
      clear hu hv
      have lt : (t : Int) < (m : Int) := by omega
      go_wp2_with fail
      go_roundw
      case rel =>
        refine ⟨t + 1, by omega, by go_num, Lib.hid ⟨?_, ?_, ?_⟩⟩
        · exact (HH.out.1.other (by omega) _).other (by omega) _
        · rw [EN.out]
          exact HH.out.2.1.put2
        · have G := HH.out.2.2
          exact (by (repeat' (first | (with_reducible exact Grew.refl _) | (with_reducible assumption) | (with_reducible refine Grew.alloc ?_ _ _) | (with_reducible refine Grew.drew ?_) | (with_reducible refine Grew.drewN ?_ _) | (with_reducible refine Grew.setCell ?_ ?_ _) | go_size)))
      case measure => simp [intOf]; omega
    · obtain rfl : t = m := by omega
      go_wp2_with fail
      have G := HH.out.2.2
      exact bodyPost_ret (v := .agg #[.int .i64 (tn t z).1, .int .i64 (tn t z).2]) (by simp [results, Tryd.results25, go_sem, *]) rfl ⟨rfl, (by (repeat' (first | (with_reducible exact Grew.refl _) | (with_reducible assumption) | (with_reducible refine Grew.alloc ?_ _ _) | (with_reducible refine Grew.drew ?_) | (with_reducible refine Grew.drewN ?_ _) | (with_reducible refine Grew.setCell ?_ ?_ _) | go_size)))⟩
/-- A ray by its number, and what is none. -/
theorem ray_ok (k : Nat) (w : World) (hT : Tq w) (hk : k < 64) : Calls Tryd.prog 10 #[.int .i64 k] w fun e w' => e = .returned (.tuple #[.agg #[.int .i64 (dir k).1, .int .i64 (dir k).2], .int .i64 0]) ∧ Grew w w' := by
  have G1 : Grew w (w.alloc (.cells #[.int .i64 0, .int .i64 0] 23)) := (Grew.refl w).alloc _ _
  have DC := Lib.hid (direction_c k _ (hT.grew G1) (by omega))
  have k0 : (0 : Int) ≤ (k : Int) := by omega
  have k1 : (k : Int) < 64 := by omega
  have kA := Lib.hid (Blk.new w #[.int .i64 0, .int .i64 0] 23)
  clear hT
  go_enter Tryd.func10, Tryd.ntmps10
  go_wp2_with fail
  refine (isRay_yes _ k0 k1 _).mono ?_
  rintro e w' ⟨rfl, rfl⟩
  go_wp2_with fail
  refine (DC.out).mono ?_
  rintro e w' ⟨rfl, g⟩
  have G2 := Lib.hid (G1.trans g)
  obtain ⟨⟨a0, a1⟩, a2, a3⟩ := (kA.out.grown g).two
  have lA := (kA.out.grown g).lt
  clear g G1
  go_wp2_with fail
  have G := G2.out
  exact bodyPost_ret (v := .tuple #[.agg #[.int .i64 (dir k).1, .int .i64 (dir k).2], .int .i64 0]) (by simp [results, Tryd.results10, go_sem, *]) rfl ⟨rfl, (by (repeat' (first | (with_reducible exact Grew.refl _) | (with_reducible assumption) | (with_reducible refine Grew.alloc ?_ _ _) | (with_reducible refine Grew.drew ?_) | (with_reducible refine Grew.drewN ?_ _) | (with_reducible refine Grew.setCell ?_ ?_ _) | go_size)))⟩
theorem ray_bad (k : Int) (w : World) (hk : ¬ (0 ≤ k ∧ k < 64)) : Calls Tryd.prog 10 #[.int .i64 k] w fun e w' => e = .returned (.tuple #[.agg #[.int .i64 0, .int .i64 0], .int .i64 1]) ∧ Grew w w' := by
  have H : Hid (k < 0 ∨ 64 ≤ k) := Lib.hid (by omega)
  clear hk
  go_enter Tryd.func10, Tryd.ntmps10
  go_wp2_with fail
  refine (isRay_no _ H.out _).mono ?_
  rintro e w' ⟨rfl, rfl⟩
  go_wp2_with fail
  exact bodyPost_ret (v := .tuple #[.agg #[.int .i64 0, .int .i64 0], .int .i64 1]) (by simp [results, Tryd.results10, go_sem]) rfl ⟨rfl, (by (repeat' (first | (with_reducible exact Grew.refl _) | (with_reducible assumption) | (with_reducible refine Grew.alloc ?_ _ _) | (with_reducible refine Grew.drew ?_) | (with_reducible refine Grew.drewN ?_ _) | (with_reducible refine Grew.setCell ?_ ?_ _) | go_size)))⟩
end Ry
end Go.Proofs.YtcihkpjdjenbjaaDoor
