/-
  The reference implementation of layer 9: the rays, the sides of a vector, and what lies between two rays.
-/
import Derived.Test.YtcihkpjdjenbjaaDoorRayLnA
import Derived.Test.YtcihkpjdjenbjaaDoorRaySec
import Derived.Test.YtcihkpjdjenbjaaDoorHullCon
namespace Go.Proofs.YtcihkpjdjenbjaaDoor
open Go.RowKit Hl
namespace Ry
set_option maxRecDepth 100000

def qF : List Pt := [(1000, 0), (995, 98), (981, 195), (957, 290), (924, 383), (882, 471), (831, 556), (773, 634), (707, 707), (634, 773), (556, 831), (471, 882), (383, 924), (290, 957), (195, 981), (98, 995)]
theorem qF_at : ∀ j, j < 16 → at' qF j = q0 j := by decide
theorem tn_four (m : Nat) (z : Pt) : tn (m + 4) z = tn m z := lf4 _
theorem tn_mod {d : Nat} (h : d < 8) (z : Pt) : tn d z = tn (d % 4) z := by
  by_cases e : d < 4
  · rw [Nat.mod_eq_of_lt e]
  · obtain ⟨m, rfl⟩ : ∃ m, d = m + 4 := ⟨d - 4, by omega⟩
    rw [tn_four, Nat.add_mod_right, Nat.mod_eq_of_lt (by omega)]
theorem first_r (w : World) : Calls Tryd.prog 48 #[] w fun e w' => ∃ g, e = .returned (.slice (some ⟨g, 0, none⟩) 16 16) ∧ Row w' g 0 qF ∧ Grew w w' := by
  go_enter Tryd.func48, Tryd.ntmps48
  go_wp2_with fail
  go_ret
  exact ⟨_, rfl, row_new qF _ rfl w _, (Grew.refl w).alloc _ _⟩
/-- A vector's coordinates, and a ray's. -/
def Nr (v : Pt) : Prop := (-1000000 ≤ v.1 ∧ v.1 ≤ 1000000) ∧ (-1000000 ≤ v.2 ∧ v.2 ≤ 1000000)
theorem turned_r (v : Pt) (w : World) (h : Nr v) : Calls Tryd.prog 20 #[.agg #[.int .i64 v.1, .int .i64 v.2]] w fun e w' => e = .returned (.agg #[.int .i64 (lf v).1, .int .i64 (lf v).2]) ∧ Grew w w' := by
  obtain ⟨x, y⟩ := v
  obtain ⟨⟨x0, x1⟩, y0, y1⟩ := h
  simp only at x0 x1 y0 y1 ⊢
  go_enter Tryd.func20, Tryd.ntmps20
  go_wp2_with fail
  exact bodyPost_ret (v := .agg #[.int .i64 (-y), .int .i64 x]) (by simp [results, Tryd.results20, go_sem]) rfl ⟨rfl, (by (repeat' (first | (with_reducible exact Grew.refl _) | (with_reducible assumption) | (with_reducible refine Grew.alloc ?_ _ _) | (with_reducible refine Grew.drew ?_) | (with_reducible refine Grew.drewN ?_ _) | (with_reducible refine Grew.setCell ?_ ?_ _) | go_size)))⟩
set_option maxHeartbeats 1000000 in
theorem at_r (k : Nat) (w : World) (hk : k < 128) : Calls Tryd.prog 26 #[.int .i64 k] w fun e w' => e = .returned (.agg #[.int .i64 (dir k).1, .int .i64 (dir k).2]) ∧ Grew w w' := by
  obtain ⟨d, hd⟩ : ∃ d, k / 16 = d := ⟨_, rfl⟩
  obtain ⟨m, hm⟩ : ∃ m, d % 4 = m := ⟨_, rfl⟩
  obtain ⟨j, hj⟩ : ∃ j, k % 16 = j := ⟨_, rfl⟩
  have ed : dir k = tn m (q0 j) := by unfold dir; rw [hd, hj, tn_mod (by omega), hm]
  rw [ed]
  have j16 : j < 16 := by omega
  have m4 : m < 4 := by omega
  have d8 : d < 8 := by omega
  obtain ⟨z, hz⟩ : ∃ z, q0 j = z := ⟨_, rfl⟩
  have BD : Hid (∀ t, (-1000 ≤ (tn t z).1 ∧ (tn t z).1 ≤ 1000) ∧ (-1000 ≤ (tn t z).2 ∧ (tn t z).2 ≤ 1000)) := Lib.hid (fun t => tn_bdQ t (by rw [← hz]; exact q0_bdQ j (by omega)))
  have QC : Hid (∀ W g, Row W g 0 qF → (W.cell? ⟨g, j * 2, none⟩ = some (.int .i64 z.1) ∧ W.cell? ⟨g, j * 2 + 1, none⟩ = some (.int .i64 z.2)) ∧ g < W.heap.size) := Lib.hid (fun W g hr => by
    have h := hr.2 j j16
    rw [Nat.zero_add, qF_at j j16, hz] at h
    exact ⟨h, hr.1⟩)
  rw [hz]
  have T1 : (k : Int).tmod 16 = (j : Int) := by rw [Int.tmod_eq_emod_of_nonneg (by omega)]; omega
  have T2 : (k : Int) % 16 = (j : Int) := by omega
  have T3 : (k : Int).tdiv 16 = (d : Int) := by rw [Int.tdiv_eq_ediv_of_nonneg (by omega)]; omega
  have T4 : (k : Int) / 16 = (d : Int) := by omega
  have T5 : (d : Int).tmod 4 = (m : Int) := by rw [Int.tmod_eq_emod_of_nonneg (by omega)]; omega
  have T6 : (d : Int) % 4 = (m : Int) := by omega
  have i0 : (0 : Int) ≤ (j : Int) := by omega
  have i1 : (j : Int) < 16 := by omega
  have k0 : (0 : Int) ≤ (k : Int) := by omega
  have k1 : (k : Int) < 128 := by omega
  have d0 : (0 : Int) ≤ (d : Int) := by omega
  have d1 : (d : Int) < 8 := by omega
  have TR := Lib.hid (fun t W => turned_r (tn t z) W (by have := BD.out t; unfold Nr; omega))
  clear ed hm hj hz hd
  go_enter Tryd.func26, Tryd.ntmps26
  go_wp2_with fail
  refine (first_r _).mono ?_
  rintro e w1 ⟨g, rfl, hr, g1⟩
  obtain ⟨⟨c0, c1⟩, hg⟩ := QC.out w1 g hr
  have kA := (Blk.new w #[.int .i64 0, .int .i64 0] 23).grown g1
  have G1 : Grew w w1 := Grew.trans ((Grew.refl w).alloc _ _) g1
  have sz := g1.size
  rw [World.size_alloc] at sz
  clear hr g1 QC
  go_wp2_with fail
  have kB := Blk.new w1 #[.int .i64 z.1, .int .i64 z.2] 23
  have kA := kA.alloc (.cells #[.int .i64 z.1, .int .i64 z.2] 23)
  have G2 : Grew w (w1.alloc (.cells #[.int .i64 z.1, .int .i64 z.2] 23)) := G1.alloc _ _
  clear c0 c1 hg
  go_loopw [4] (fun i wr => ∃ t : Nat, t ≤ m ∧ i = .int .i64 t ∧ Hid (Blk wr w.heap.size #[.int .i64 0, .int .i64 0] 23 ∧ Blk wr w1.heap.size #[.int .i64 (tn t z).1, .int .i64 (tn t z).2] 23 ∧ Grew w wr)) (fun i _ => m - (intOf i).toNat)
  case atStart => exact ⟨0, Nat.zero_le _, rfl, Lib.hid ⟨kA, kB, G2⟩⟩
  case round =>
    clear kA kB G2 G1
    obtain ⟨t, ht, rfl, HH⟩ := hrel
    obtain ⟨⟨b0, b1⟩, b2, b3⟩ := HH.out.2.1.two
    have lB := HH.out.2.1.lt
    have t0 : (0 : Int) ≤ (t : Int) := by omega
    by_cases hlt : t < m
    · have TT := Lib.hid (TR.out t)
      have EN : Hid (lf (tn t z) = tn (t + 1) z) := Lib.hid rfl
      generalize tn t z = x at b0 b1 TT EN HH
      have lt : (t : Int) < (m : Int) := by omega
      go_wp2_with fail
      refine (TT.out _).mono ?_
      rintro e w2 ⟨rfl, g2⟩
      have HH2 : Hid (Blk w2 w.heap.size #[.int .i64 0, .int .i64 0] 23 ∧ Blk w2 w1.heap.size #[.int .i64 x.1, .int .i64 x.2] 23 ∧ Grew w w2) := Lib.hid ⟨HH.out.1.grown g2, HH.out.2.1.grown g2, HH.out.2.2.trans g2⟩
      clear HH b0 b1 b2 b3 lB
      obtain ⟨⟨b0, b1⟩, b2, b3⟩ := HH2.out.2.1.two
      have lB := HH2.out.2.1.lt
      clear g2
      go_wp2_with fail
      go_roundw
      case rel =>
        refine ⟨t + 1, by omega, by go_num, Lib.hid ⟨?_, ?_, ?_⟩⟩
        · exact (HH2.out.1.other (by omega) _).other (by omega) _
        · rw [← EN.out]
          exact HH2.out.2.1.put2
        · have G := HH2.out.2.2
          exact (by (repeat' (first | (with_reducible exact Grew.refl _) | (with_reducible assumption) | (with_reducible refine Grew.alloc ?_ _ _) | (with_reducible refine Grew.drew ?_) | (with_reducible refine Grew.drewN ?_ _) | (with_reducible refine Grew.setCell ?_ ?_ _) | go_size)))
      case measure => simp [intOf]; omega
    · obtain rfl : t = m := by omega
      obtain ⟨⟨a0, a1⟩, a2, a3⟩ := HH.out.1.two
      have lA := HH.out.1.lt
      go_wp2_with fail
      have G := HH.out.2.2
      exact bodyPost_ret (v := .agg #[.int .i64 (tn t z).1, .int .i64 (tn t z).2]) (by simp [results, Tryd.results26, go_sem, *]) rfl ⟨rfl, (by (repeat' (first | (with_reducible exact Grew.refl _) | (with_reducible assumption) | (with_reducible refine Grew.alloc ?_ _ _) | (with_reducible refine Grew.drew ?_) | (with_reducible refine Grew.drewN ?_ _) | (with_reducible refine Grew.setCell ?_ ?_ _) | go_size)))⟩
theorem mul_in2 {p y : Int} (hp : -1000000 ≤ p ∧ p ≤ 1000000) (hy : -1000000 ≤ y ∧ y ≤ 1000000) : -1000000000000 ≤ p * y ∧ p * y ≤ 1000000000000 := by
  have a2 := Int.mul_nonneg (show 0 ≤ p + 1000000 by omega) (show 0 ≤ y + 1000000 by omega)
  have a3 := Int.mul_nonneg (show 0 ≤ 1000000 - p by omega) (show 0 ≤ 1000000 - y by omega)
  have a4 := Int.mul_nonneg (show 0 ≤ p + 1000000 by omega) (show 0 ≤ 1000000 - y by omega)
  have a5 := Int.mul_nonneg (show 0 ≤ 1000000 - p by omega) (show 0 ≤ y + 1000000 by omega)
  have e2 : (p + 1000000) * (y + 1000000) = p * y + 1000000 * p + 1000000 * y + 1000000000000 := by grind
  have e3 : (1000000 - p) * (1000000 - y) = 1000000000000 - 1000000 * y - 1000000 * p + p * y := by grind
  have e4 : (p + 1000000) * (1000000 - y) = 1000000 * p + 1000000000000 - p * y - 1000000 * y := by grind
  have e5 : (1000000 - p) * (y + 1000000) = 1000000 * y + 1000000000000 - p * y - 1000000 * p := by grind
  omega
theorem cross_9 (u v : Pt) (w : World) (hu : Nr u) (hv : Nr v) : Calls Tryd.prog 43 #[.agg #[.int .i64 u.1, .int .i64 u.2], .agg #[.int .i64 v.1, .int .i64 v.2]] w fun e w' => e = .returned (.int .i64 (xc u v)) ∧ Grew w w' := by
  have XC : Hid (u.1 * v.2 - u.2 * v.1 = xc u v) := Lib.hid rfl
  obtain ⟨m0, m1⟩ := mul_in2 hu.1 hv.2
  obtain ⟨n0, n1⟩ := mul_in2 hu.2 hv.1
  obtain ⟨p, q⟩ := u
  obtain ⟨x, y⟩ := v
  simp only at m0 m1 n0 n1 XC ⊢
  clear hu hv
  go_enter Tryd.func43, Tryd.ntmps43
  go_wp2_with fail
  go_ret
  exact ⟨by first | (rw [XC.out]; done) | (simp [XC.out]; done), (by (repeat' (first | (with_reducible exact Grew.refl _) | (with_reducible assumption) | (with_reducible refine Grew.alloc ?_ _ _) | (with_reducible refine Grew.drew ?_) | (with_reducible refine Grew.drewN ?_ _) | (with_reducible refine Grew.setCell ?_ ?_ _) | go_size)))⟩
theorem near_yes (k : Int) (h0 : -1000000 ≤ k) (h1 : k ≤ 1000000) (w : World) : Calls Tryd.prog 51 #[.int .i64 k] w fun e w' => e = .returned (.bool true) ∧ w = w' := by
  go_enter Tryd.func51, Tryd.ntmps51
  go_wp2_with fail
  go_ret
  exact ⟨by first | rfl | (simp; omega), rfl⟩
theorem near_no (k : Int) (h : k < -1000000 ∨ 1000000 < k) (w : World) : Calls Tryd.prog 51 #[.int .i64 k] w fun e w' => e = .returned (.bool false) ∧ w = w' := by
  by_cases h0 : k < -1000000
  · clear h
    go_enter Tryd.func51, Tryd.ntmps51
    go_wp2_with fail
    go_ret
    exact ⟨by first | rfl | (simp; omega), rfl⟩
  · have h1 : ¬ k ≤ 1000000 := by omega
    clear h
    go_enter Tryd.func51, Tryd.ntmps51
    go_wp2_with fail
    go_ret
    exact ⟨by first | rfl | (simp; omega), rfl⟩
theorem vector_yes (v : Pt) (w : World) (h : Vec v) : Calls Tryd.prog 32 #[.agg #[.int .i64 v.1, .int .i64 v.2]] w fun e w' => e = .returned (.bool true) ∧ Grew w w' := by
  obtain ⟨⟨⟨a0, a1⟩, b0, b1⟩, hn⟩ := h
  obtain ⟨x, y⟩ := v
  simp only at a0 a1 b0 b1 ⊢
  have L1 : Hid (∀ W, Calls Tryd.prog 51 #[.int .i64 x] W fun e w' => e = .returned (.bool true) ∧ W = w') := Lib.hid (fun W => near_yes x a0 a1 W)
  have L2 : Hid (∀ W, Calls Tryd.prog 51 #[.int .i64 y] W fun e w' => e = .returned (.bool true) ∧ W = w') := Lib.hid (fun W => near_yes y b0 b1 W)
  have G1 : Grew w (w.alloc (.cells #[.int .i64 x, .int .i64 y] 23)) := (Grew.refl w).alloc _ _
  by_cases e1 : x = 0
  · have e2 : ¬ y = 0 := fun e2 => hn (by rw [e1, e2])
    clear hn a0 a1 b0 b1
    subst e1
    go_enter Tryd.func32, Tryd.ntmps32
    go_wp2_with fail
    refine (L1.out _).mono ?_
    rintro e w' ⟨rfl, rfl⟩
    go_wp2_with fail
    refine (L2.out _).mono ?_
    rintro e w' ⟨rfl, rfl⟩
    go_wp2_with fail
    go_ret
    exact ⟨rfl, G1⟩
  · clear hn a0 a1 b0 b1
    go_enter Tryd.func32, Tryd.ntmps32
    go_wp2_with fail
    refine (L1.out _).mono ?_
    rintro e w' ⟨rfl, rfl⟩
    go_wp2_with fail
    refine (L2.out _).mono ?_
    rintro e w' ⟨rfl, rfl⟩
    go_wp2_with fail
    go_ret
    exact ⟨rfl, G1⟩
theorem vector_no (v : Pt) (w : World) (h : ¬ Vec v) : Calls Tryd.prog 32 #[.agg #[.int .i64 v.1, .int .i64 v.2]] w fun e w' => e = .returned (.bool false) ∧ Grew w w' := by
  obtain ⟨x, y⟩ := v
  simp only
  have G1 : Grew w (w.alloc (.cells #[.int .i64 x, .int .i64 y] 23)) := (Grew.refl w).alloc _ _
  by_cases hx : -1000000 ≤ x ∧ x ≤ 1000000
  · have L1 : Hid (∀ W, Calls Tryd.prog 51 #[.int .i64 x] W fun e w' => e = .returned (.bool true) ∧ W = w') := Lib.hid (fun W => near_yes x hx.1 hx.2 W)
    by_cases hy : -1000000 ≤ y ∧ y ≤ 1000000
    · have L2 : Hid (∀ W, Calls Tryd.prog 51 #[.int .i64 y] W fun e w' => e = .returned (.bool true) ∧ W = w') := Lib.hid (fun W => near_yes y hy.1 hy.2 W)
      have e1 : x = 0 ∧ y = 0 := by
        by_cases e : x = 0 ∧ y = 0
        · exact e
        · exact absurd ⟨⟨hx, hy⟩, fun e' => e ⟨congrArg Prod.fst e', congrArg Prod.snd e'⟩⟩ h
      obtain ⟨rfl, rfl⟩ := e1
      clear h hx hy
      go_enter Tryd.func32, Tryd.ntmps32
      go_wp2_with fail
      refine (L1.out _).mono ?_
      rintro e w' ⟨rfl, rfl⟩
      go_wp2_with fail
      refine (L2.out _).mono ?_
      rintro e w' ⟨rfl, rfl⟩
      go_wp2_with fail
      go_ret
      exact ⟨rfl, G1⟩
    · have L2 : Hid (∀ W, Calls Tryd.prog 51 #[.int .i64 y] W fun e w' => e = .returned (.bool false) ∧ W = w') := Lib.hid (fun W => near_no y (by omega) W)
      clear h hx hy
      go_enter Tryd.func32, Tryd.ntmps32
      go_wp2_with fail
      refine (L1.out _).mono ?_
      rintro e w' ⟨rfl, rfl⟩
      go_wp2_with fail
      refine (L2.out _).mono ?_
      rintro e w' ⟨rfl, rfl⟩
      go_wp2_with fail
      go_ret
      exact ⟨rfl, G1⟩
  · have L1 : Hid (∀ W, Calls Tryd.prog 51 #[.int .i64 x] W fun e w' => e = .returned (.bool false) ∧ W = w') := Lib.hid (fun W => near_no x (by omega) W)
    clear h hx
    go_enter Tryd.func32, Tryd.ntmps32
    go_wp2_with fail
    refine (L1.out _).mono ?_
    rintro e w' ⟨rfl, rfl⟩
    go_wp2_with fail
    go_ret
    exact ⟨rfl, G1⟩
theorem nr_dir (k : Nat) : Nr (dir k) := by
  have := dir_bd k
  unfold Nr
  omega
set_option maxHeartbeats 1000000 in
theorem on_r (k : Nat) (v : Pt) (w : World) (hk : k < 112) (hv : Nr v) : Calls Tryd.prog 33 #[.int .i64 k, .agg #[.int .i64 v.1, .int .i64 v.2]] w fun e w' => e = .returned (.bool (decide (On k v))) ∧ Grew w w' := by
  have ONE : Hid (On k v ↔ (xc (dir k) v = 0 ∧ 0 < dd (dir k) v)) := Lib.hid (by
    unfold On
    rw [sd_turned]
    constructor
    · rintro ⟨h1, h2⟩; exact ⟨h1, by omega⟩
    · rintro ⟨h1, h2⟩; exact ⟨h1, by omega⟩)
  have AC : Hid (∀ W, Calls Tryd.prog 26 #[.int .i64 k] W fun e w' => e = .returned (.agg #[.int .i64 (dir k).1, .int .i64 (dir k).2]) ∧ Grew W w') := Lib.hid (fun W => at_r k W (by omega))
  have CC : Hid (∀ W, Calls Tryd.prog 43 #[.agg #[.int .i64 (dir k).1, .int .i64 (dir k).2], .agg #[.int .i64 v.1, .int .i64 v.2]] W fun e w' => e = .returned (.int .i64 (xc (dir k) v)) ∧ Grew W w') := Lib.hid (fun W => cross_9 _ _ W (nr_dir k) hv)
  have kV := Lib.hid (Blk.new w #[.int .i64 v.1, .int .i64 v.2] 23)
  have G0 : Grew w (w.alloc (.cells #[.int .i64 v.1, .int .i64 v.2] 23)) := (Grew.refl w).alloc _ _
  obtain ⟨m0, m1⟩ := mul_in2 (nr_dir k).1 hv.1
  obtain ⟨n0, n1⟩ := mul_in2 (nr_dir k).2 hv.2
  have DD : Hid ((dir k).1 * v.1 + (dir k).2 * v.2 = dd (dir k) v) := Lib.hid rfl
  generalize xc (dir k) v = s at ONE CC
  generalize dir k = r at AC CC m0 m1 n0 n1 DD ONE
  obtain ⟨r1, r2⟩ := r
  obtain ⟨x, y⟩ := v
  simp only at AC CC m0 m1 n0 n1 DD kV G0 ⊢
  obtain ⟨a, ha⟩ : ∃ a, r1 * x = a := ⟨_, rfl⟩
  obtain ⟨b, hb⟩ : ∃ b, r2 * y = b := ⟨_, rfl⟩
  have W1 : IntKind.i64.wrap (r1 * x) = a := by rw [IntWalk.i64_in _ ⟨by omega, by omega⟩]; exact ha
  have DD : Hid (a + b = dd (r1, r2) (x, y)) := Lib.hid (by rw [← ha, ← hb]; exact DD.out)
  clear hv
  by_cases hs : s = 0
  · obtain ⟨r, hr⟩ : ∃ r, decide (On k (x, y)) = r := ⟨_, rfl⟩
    rw [hr]
    have FIN : Hid (decide (0 < a + b) = r) := Lib.hid (by
      rw [← hr]
      congr 1
      apply propext
      rw [ONE.out, ← DD.out]
      exact ⟨fun h => ⟨hs, h⟩, fun h => h.2⟩)
    clear hr ONE DD
    subst hs
    go_enter Tryd.func33, Tryd.ntmps33
    go_wp2_with fail
    refine (AC.out _).mono ?_
    rintro e w1 ⟨rfl, g1⟩
    have G1 := Grew.trans G0 g1
    have kV1 := kV.out.grown g1
    obtain ⟨⟨c0, c1⟩, _, _⟩ := kV1.two
    have lV := kV1.lt
    have lV1 : w.heap.size < w1.heap.size + 1 := by omega
    have kR := Lib.hid (Blk.new w1 #[.int .i64 r1, .int .i64 r2] 23)
    have kV2 := Lib.hid (kV1.alloc (.cells #[.int .i64 r1, .int .i64 r2] 23))
    have G2 := Lib.hid (G1.alloc #[.int .i64 r1, .int .i64 r2] 23)
    clear g1
    go_wp2_with fail
    refine (CC.out _).mono ?_
    rintro e w2 ⟨rfl, g2⟩
    have kR2 := kR.out.grown g2
    have kV3 := kV2.out.grown g2
    have G3 := Lib.hid (G2.out.trans g2)
    clear c0 c1 lV lV1 g2 kV1 G1
    obtain ⟨⟨c0, c1⟩, _, _⟩ := kV3.two
    obtain ⟨⟨f0, f1⟩, _, _⟩ := kR2.two
    have lV := kV3.lt
    have lR := kR2.lt
    go_wp2_with fail
    go_ret
    have G := G3.out
    exact ⟨by first | (simp [← FIN.out]; done) | (simp [← FIN.out]; done), (by (repeat' (first | (with_reducible exact Grew.refl _) | (with_reducible assumption) | (with_reducible refine Grew.alloc ?_ _ _) | (with_reducible refine Grew.drew ?_) | (with_reducible refine Grew.drewN ?_ _) | (with_reducible refine Grew.setCell ?_ ?_ _) | go_size)))⟩
  · have hs2 : (s == 0) = false := by rw [beq_eq_false_iff_ne]; exact hs
    rw [decide_eq_false (fun h => hs (ONE.out.1 h).1)]
    clear ONE DD
    go_enter Tryd.func33, Tryd.ntmps33
    go_wp2_with fail
    refine (AC.out _).mono ?_
    rintro e w1 ⟨rfl, g1⟩
    have G1 := Grew.trans G0 g1
    have kV1 := kV.out.grown g1
    obtain ⟨⟨c0, c1⟩, _, _⟩ := kV1.two
    have lV := kV1.lt
    have lV1 : w.heap.size < w1.heap.size + 1 := by omega
    have G2 := Lib.hid (G1.alloc #[.int .i64 r1, .int .i64 r2] 23)
    clear g1
    go_wp2_with fail
    refine (CC.out _).mono ?_
    rintro e w2 ⟨rfl, g2⟩
    have G := G2.out.trans g2
    clear c0 c1 lV lV1 g2 kV1 G1
    go_wp2_with fail
    go_ret
    exact ⟨by first | rfl | (simp; done), (by (repeat' (first | (with_reducible exact Grew.refl _) | (with_reducible assumption) | (with_reducible refine Grew.alloc ?_ _ _) | (with_reducible refine Grew.drew ?_) | (with_reducible refine Grew.drewN ?_ _) | (with_reducible refine Grew.setCell ?_ ?_ _) | go_size)))⟩
end Ry
end Go.Proofs.YtcihkpjdjenbjaaDoor
