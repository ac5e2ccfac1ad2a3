/-
  The landed package clock: nearest, isFrom, wrongBy, trueTime, limited, Valid, True.
-/
import Derived.Test.YtndabfpinkakbaaCkPlain
namespace Go.Proofs.Ytndabfpinkakbaa
open Go.RowKit Sn
namespace Ck
def cl (n lo hi : Int) : Int := if n < lo then lo else if hi < n then hi else n
theorem cl_iff {n lo hi : Int} (_h : lo ≤ hi) : cl n lo hi = n ↔ lo ≤ n ∧ n ≤ hi := by
  unfold cl
  split
  · omega
  · split <;> omega
theorem nearest_c (n lo hi : Int) (w : World) (h : lo ≤ hi) : Calls Try.prog 44 #[.int .i64 n, .int .i64 lo, .int .i64 hi] w fun e w' => e = .returned (.int .i64 (cl n lo hi)) ∧ w = w' := by
  by_cases p : n < lo
  · have H : Hid (cl n lo hi = lo) := Lib.hid (if_pos p)
    go_enter Try.func44, Try.ntmps44
    go_wp2_with fail
    go_ret
    exact ⟨by rw [H.out]; first | rfl | (simp; omega), rfl⟩
  · by_cases q : hi < n
    · have H : Hid (cl n lo hi = hi) := Lib.hid (by unfold cl; rw [if_neg p, if_pos q])
      go_enter Try.func44, Try.ntmps44
      go_wp2_with fail
      go_ret
      exact ⟨by rw [H.out]; first | rfl | (simp; omega), rfl⟩
    · have H : Hid (cl n lo hi = n) := Lib.hid (by unfold cl; rw [if_neg p, if_neg q])
      go_enter Try.func44, Try.ntmps44
      go_wp2_with fail
      go_ret
      exact ⟨by rw [H.out]; first | rfl | (simp; omega), rfl⟩
def fr (n lo hi : Int) : Bool := decide (lo ≤ n ∧ n ≤ hi)
theorem isFrom_c (n lo hi : Int) (w : World) : Calls Try.prog 25 #[.int .i64 n, .int .i64 lo, .int .i64 hi] w fun e w' => e = .returned (.bool (fr n lo hi)) ∧ w = w' := by
  by_cases p : lo ≤ n
  · by_cases q : n ≤ hi
    · have H : Hid (fr n lo hi = true) := Lib.hid (by unfold fr; simp [p, q])
      go_enter Try.func25, Try.ntmps25
      go_wp2_with fail
      go_ret
      exact ⟨by rw [H.out]; first | rfl | (simp; omega), rfl⟩
    · have H : Hid (fr n lo hi = false) := Lib.hid (by unfold fr; simp [q])
      go_enter Try.func25, Try.ntmps25
      go_wp2_with fail
      go_ret
      exact ⟨by rw [H.out]; first | rfl | (simp; omega), rfl⟩
  · have H : Hid (fr n lo hi = false) := Lib.hid (by unfold fr; simp [p])
    go_enter Try.func25, Try.ntmps25
    go_wp2_with fail
    go_ret
    exact ⟨by rw [H.out]; first | rfl | (simp; omega), rfl⟩
theorem wrongBy_c (a l h d r : Int) (w : World) (ha : Rd a) (hd : Df d) (hr : Rd r) : Calls Try.prog 41 #[.agg #[.int .i64 a, .int .i64 l, .int .i64 h, .int .i64 d], .int .i64 r] w fun e w' => e = .returned (.int .i64 (wg a d r)) ∧ Grown w w' := by
  obtain ⟨m0, m1⟩ := dd_bd ha hd hr
  obtain ⟨a0, a1⟩ := ha
  obtain ⟨r0, r1⟩ := hr
  obtain ⟨d0, d1⟩ := hd
  by_cases p : r - a < a - r
  · have e : ds a r = a - r := if_pos p
    have H : Hid (wg a d r = (d * (a - r) + 1000000 - 1) / 1000000) := Lib.hid (by unfold wg; rw [e]; omega)
    rw [e] at m0 m1
    clear e
    go_enter Try.func41, Try.ntmps41
    go_wp2_with fail
    go_ret
    exact ⟨by rw [H.out]; first | rfl | (simp; omega), by go_grown⟩
  · have e : ds a r = r - a := if_neg p
    have H : Hid (wg a d r = (d * (r - a) + 1000000 - 1) / 1000000) := Lib.hid (by unfold wg; rw [e]; omega)
    rw [e] at m0 m1
    clear e
    go_enter Try.func41, Try.ntmps41
    go_wp2_with fail
    go_ret
    exact ⟨by rw [H.out]; first | rfl | (simp; omega), by go_grown⟩
theorem trueTime_c (a l h d r : Int) (w : World) (hc : Cv a l h d) (hr : Rd r) : Calls Try.prog 26 #[.agg #[.int .i64 a, .int .i64 l, .int .i64 h, .int .i64 d], .int .i64 r] w fun e w' => e = .returned (.agg #[.int .i64 (tl a l d r), .int .i64 (th a h d r)]) ∧ Grown w w' := by
  have W1 := Lib.hid (wrongBy_c a l h d r · hc.1 hc.2.2 hr)
  obtain ⟨b0, b1⟩ := wg_bd hc.1 hc.2.2 hr
  have HV : Hid (Vd l h ∧ Vd (r - wg a d r) (r + wg a d r)) := Lib.hid (by
    obtain ⟨_, ⟨_, _, _⟩, _⟩ := hc
    obtain ⟨_, _⟩ := hr
    unfold Vd
    omega)
  have HS : Hid (Vd (l + (r - wg a d r)) (h + (r + wg a d r))) := Lib.hid (t_vd hc hr)
  have HE : Hid (tl a l d r = l + (r - wg a d r) ∧ th a h d r = h + (r + wg a d r)) := Lib.hid ⟨rfl, rfl⟩
  obtain ⟨r0, r1⟩ := hr
  clear hc
  obtain ⟨x, hx⟩ : ∃ x, wg a d r = x := ⟨_, rfl⟩
  rw [hx] at W1 b0 b1 HV HS HE
  clear hx
  go_enter Try.func26, Try.ntmps26
  go_wp2_with fail
  refine (W1.out _).mono ?_
  rintro e w1 ⟨rfl, g1⟩
  obtain ⟨c1, f1, z1⟩ := laid g1
  try simp at z1
  have G1 : Grown w w1 := Grown.trans (by go_grown) g1
  clear g1
  have z1_w0 : w.heap.size < w1.heap.size := by omega
  have z1_w1 : w.heap.size + 1 < w1.heap.size := by omega
  go_wp2_with fail
  refine (spAdd_ok _ _ _ _ _ HV.out HS.out).mono ?_
  rintro e w2 ⟨rfl, g2⟩
  obtain ⟨c2, f2, z2⟩ := laid g2
  try simp at z2
  have G2 : Grown w w2 := Grown.trans (by go_grown) g2
  clear g2
  have z2_w0 : w.heap.size < w2.heap.size := by omega
  have z2_w1 : w.heap.size + 1 < w2.heap.size := by omega
  go_wp2_with fail
  rw [HE.out.1, HE.out.2]
  exact bodyPost_ret (v := .agg #[.int .i64 (l + (r - x)), .int .i64 (h + (r + x))]) (by simp [results, Try.results26, go_sem, *]) rfl ⟨rfl, by go_grown⟩
set_option maxHeartbeats 1000000 in
theorem limited_c (a l h d x y : Int) (is : Bool) (e0 : Int) (w : World) (hm : ∀ W : World, Calls Try.prog 22 #[.agg #[.int .i64 l, .int .i64 h], .agg #[.int .i64 (-1000000), .int .i64 1000000]] W fun e w' => e = .returned (.tuple #[.agg #[.int .i64 x, .int .i64 y], .bool is, .int .i64 e0]) ∧ Grown W w') : Calls Try.prog 28 #[.agg #[.int .i64 a, .int .i64 l, .int .i64 h, .int .i64 d]] w fun e w' => e = .returned (.agg #[.int .i64 (cl a 0 1000000000), .int .i64 x, .int .i64 y, .int .i64 (cl d 0 1000)]) ∧ Grown w w' := by
  have HM := Lib.hid hm
  clear hm
  go_enter Try.func28, Try.ntmps28
  go_wp2_with fail
  refine (HM.out _).mono ?_
  rintro e w1 ⟨rfl, g1⟩
  obtain ⟨c1, f1, z1⟩ := laid g1
  try simp at z1
  have G1 : Grown w w1 := Grown.trans (by go_grown) g1
  clear g1
  have z1_w0 : w.heap.size < w1.heap.size := by omega
  have z1_w1 : w.heap.size + 1 < w1.heap.size := by omega
  go_wp2_with fail
  go_region_held3 (fun W => W.cell? ⟨w.heap.size, 0, none⟩ = some (.int .i64 a) ∧ W.cell? ⟨w.heap.size, 3, none⟩ = some (.int .i64 d) ∧ W.cell? ⟨w1.heap.size, 0, none⟩ = some (.int .i64 x) ∧ W.cell? ⟨w1.heap.size, 1, none⟩ = some (.int .i64 y)) (simp [go_sem, *])
    (first | (go_at_call 44; refine (nearest_c _ _ _ _ (by omega)).mono ?_; rintro e w2 ⟨rfl, rfl⟩))
  go_wp2_with fail
  exact bodyPost_ret (v := .agg #[.int .i64 (cl a 0 1000000000), .int .i64 x, .int .i64 y, .int .i64 (cl d 0 1000)]) (by simp [results, Try.results28, go_sem, *]) rfl ⟨rfl, by go_grown⟩
set_option maxHeartbeats 1000000 in
theorem valid_same (a l h d : Int) (w : World) (hx : ∀ W : World, Calls Try.prog 28 #[.agg #[.int .i64 a, .int .i64 l, .int .i64 h, .int .i64 d]] W fun e w' => e = .returned (.agg #[.int .i64 a, .int .i64 l, .int .i64 h, .int .i64 d]) ∧ Grown W w') : Calls Try.prog 13 #[.agg #[.int .i64 a, .int .i64 l, .int .i64 h, .int .i64 d]] w fun e w' => e = .returned (.bool true) ∧ Grown w w' := by
  have EX := Lib.hid hx
  clear hx
  go_enter Try.func13, Try.ntmps13
  go_wp2_with fail
  go_region_held3 (fun W => W.cell? ⟨w.heap.size, 0, none⟩ = some (.int .i64 a) ∧ W.cell? ⟨w.heap.size, 1, none⟩ = some (.int .i64 l) ∧ W.cell? ⟨w.heap.size, 2, none⟩ = some (.int .i64 h) ∧ W.cell? ⟨w.heap.size, 3, none⟩ = some (.int .i64 d)) (simp [go_sem, *])
    (first | (go_at_call 28; refine (EX.out _).mono ?_; rintro e w1 ⟨rfl, g1⟩; obtain ⟨c1, f1, z1⟩ := laid g1; (try simp at z1); (try simp only [World.size_drew, World.cell?_drew] at c1); have G1 : Grown w w1 := Grown.trans (by go_grown) g1; clear g1; have z1_0 : w.heap.size < w1.heap.size := (by omega)))
  go_wp2_with fail
  go_ret
  exact ⟨rfl, by go_grown⟩
set_option maxHeartbeats 1000000 in
theorem valid_not (a l h d p q r s : Int) (w : World) (hx : ∀ W : World, Calls Try.prog 28 #[.agg #[.int .i64 a, .int .i64 l, .int .i64 h, .int .i64 d]] W fun e w' => e = .returned (.agg #[.int .i64 p, .int .i64 q, .int .i64 r, .int .i64 s]) ∧ Grown W w') (hn : ¬ (p = a ∧ q = l ∧ r = h ∧ s = d)) : Calls Try.prog 13 #[.agg #[.int .i64 a, .int .i64 l, .int .i64 h, .int .i64 d]] w fun e w' => e = .returned (.bool false) ∧ Grown w w' := by
  by_cases k0 : p = a
  · subst k0
    by_cases k1 : q = l
    · subst k1
      by_cases k2 : r = h
      · subst k2
        have k3 : (d == s) = false := by
          have : ¬ d = s := fun e => hn ⟨rfl, rfl, rfl, e.symm⟩
          simpa using this
        clear hn
        have EX := Lib.hid hx
        clear hx
        go_enter Try.func13, Try.ntmps13
        go_wp2_with fail
        go_region_held3 (fun W => W.cell? ⟨w.heap.size, 0, none⟩ = some (.int .i64 p) ∧ W.cell? ⟨w.heap.size, 1, none⟩ = some (.int .i64 q) ∧ W.cell? ⟨w.heap.size, 2, none⟩ = some (.int .i64 r) ∧ W.cell? ⟨w.heap.size, 3, none⟩ = some (.int .i64 d)) (simp [go_sem, *])
          (first | (go_at_call 28; refine (EX.out _).mono ?_; rintro e w1 ⟨rfl, g1⟩; obtain ⟨c1, f1, z1⟩ := laid g1; (try simp at z1); (try simp only [World.size_drew, World.cell?_drew] at c1); have G1 : Grown w w1 := Grown.trans (by go_grown) g1; clear g1; have z1_0 : w.heap.size < w1.heap.size := (by omega)))
        go_wp2_with fail
        go_ret
        exact ⟨rfl, by go_grown⟩
      · have k3 : (h == r) = false := by
          have : ¬ h = r := fun e => k2 e.symm
          simpa using this
        clear hn k2
        have EX := Lib.hid hx
        clear hx
        go_enter Try.func13, Try.ntmps13
        go_wp2_with fail
        go_region_held3 (fun W => W.cell? ⟨w.heap.size, 0, none⟩ = some (.int .i64 p) ∧ W.cell? ⟨w.heap.size, 1, none⟩ = some (.int .i64 q) ∧ W.cell? ⟨w.heap.size, 2, none⟩ = some (.int .i64 h) ∧ W.cell? ⟨w.heap.size, 3, none⟩ = some (.int .i64 d)) (simp [go_sem, *])
          (first | (go_at_call 28; refine (EX.out _).mono ?_; rintro e w1 ⟨rfl, g1⟩; obtain ⟨c1, f1, z1⟩ := laid g1; (try simp at z1); (try simp only [World.size_drew, World.cell?_drew] at c1); have G1 : Grown w w1 := Grown.trans (by go_grown) g1; clear g1; have z1_0 : w.heap.size < w1.heap.size := (by omega)))
        go_wp2_with fail
        go_ret
        exact ⟨rfl, by go_grown⟩
    · have k3 : (l == q) = false := by
        have : ¬ l = q := fun e => k1 e.symm
        simpa using this
      clear hn k1
      have EX := Lib.hid hx
      clear hx
      go_enter Try.func13, Try.ntmps13
      go_wp2_with fail
      go_region_held3 (fun W => W.cell? ⟨w.heap.size, 0, none⟩ = some (.int .i64 p) ∧ W.cell? ⟨w.heap.size, 1, none⟩ = some (.int .i64 l) ∧ W.cell? ⟨w.heap.size, 2, none⟩ = some (.int .i64 h) ∧ W.cell? ⟨w.heap.size, 3, none⟩ = some (.int .i64 d)) (simp [go_sem, *])
        (first | (go_at_call 28; refine (EX.out _).mono ?_; rintro e w1 ⟨rfl, g1⟩; obtain ⟨c1, f1, z1⟩ := laid g1; (try simp at z1); (try simp only [World.size_drew, World.cell?_drew] at c1); have G1 : Grown w w1 := Grown.trans (by go_grown) g1; clear g1; have z1_0 : w.heap.size < w1.heap.size := (by omega)))
      go_wp2_with fail
      go_ret
      exact ⟨rfl, by go_grown⟩
  · have k3 : (a == p) = false := by
      have : ¬ a = p := fun e => k0 e.symm
      simpa using this
    clear hn k0
    have EX := Lib.hid hx
    clear hx
    go_enter Try.func13, Try.ntmps13
    go_wp2_with fail
    go_region_held3 (fun W => W.cell? ⟨w.heap.size, 0, none⟩ = some (.int .i64 a) ∧ W.cell? ⟨w.heap.size, 1, none⟩ = some (.int .i64 l) ∧ W.cell? ⟨w.heap.size, 2, none⟩ = some (.int .i64 h) ∧ W.cell? ⟨w.heap.size, 3, none⟩ = some (.int .i64 d)) (simp [go_sem, *])
      (first | (go_at_call 28; refine (EX.out _).mono ?_; rintro e w1 ⟨rfl, g1⟩; obtain ⟨c1, f1, z1⟩ := laid g1; (try simp at z1); (try simp only [World.size_drew, World.cell?_drew] at c1); have G1 : Grown w w1 := Grown.trans (by go_grown) g1; clear g1; have z1_0 : w.heap.size < w1.heap.size := (by omega)))
    go_wp2_with fail
    go_ret
    exact ⟨rfl, by go_grown⟩

theorem big : Vd (-1000000) 1000000 := ⟨by omega, by omega, by omega⟩
theorem valid_yes (a l h d : Int) (w : World) (hc : Cv a l h d) : Calls Try.prog 13 #[.agg #[.int .i64 a, .int .i64 l, .int .i64 h, .int .i64 d]] w fun e w' => e = .returned (.bool true) ∧ Grown w w' := by
  refine valid_same a l h d w (fun W => ?_)
  obtain ⟨ha, ⟨h0, h1, h2⟩, hd⟩ := hc
  have hv : Vd l h ∧ Vd (-1000000) 1000000 := ⟨⟨by omega, h1, by omega⟩, big⟩
  have e1 : mx l (-1000000) = l := by rw [mx_max]; omega
  have e2 : mn h 1000000 = h := by rw [mn_min]; omega
  have := limited_c a l h d l h true 0 W (fun W' => by
    have := spMeet_ok l h (-1000000) 1000000 W' hv (by rw [e1, e2]; exact h1)
    rwa [e1, e2] at this)
  rwa [(cl_iff (n := a) (by omega)).2 ha, (cl_iff (n := d) (by omega)).2 hd] at this
theorem valid_no (a l h d : Int) (w : World) (hc : ¬ Cv a l h d) : Calls Try.prog 13 #[.agg #[.int .i64 a, .int .i64 l, .int .i64 h, .int .i64 d]] w fun e w' => e = .returned (.bool false) ∧ Grown w w' := by
  by_cases hv : Vd l h
  · by_cases hm : mx l (-1000000) ≤ mn h 1000000
    · refine valid_not a l h d _ _ _ _ w (fun W => limited_c a l h d _ _ _ _ W (fun W' => spMeet_ok l h (-1000000) 1000000 W' ⟨hv, big⟩ hm)) ?_
      rintro ⟨e0, e1, e2, e3⟩
      rw [cl_iff (by omega)] at e0 e3
      rw [mx_max] at e1
      rw [mn_min] at e2
      exact hc ⟨e0, ⟨by omega, hv.2.1, by omega⟩, e3⟩
    · refine valid_not a l h d _ _ _ _ w (fun W => limited_c a l h d _ _ _ _ W (fun W' => spMeet_none l h (-1000000) 1000000 W' ⟨hv, big⟩ (by omega))) ?_
      rintro ⟨_, e1, e2, _⟩
      subst e1 e2
      exact hm (by decide)
  · refine valid_not a l h d _ _ _ _ w (fun W => limited_c a l h d _ _ _ _ W (fun W' => spMeet_bad l h (-1000000) 1000000 W' (fun t => hv t.1))) ?_
    rintro ⟨_, e1, e2, _⟩
    subst e1 e2
    exact hv (by decide)
theorem true_bad (a l h d r : Int) (w : World) (hn : ¬ (Cv a l h d ∧ Rd r)) : Calls Try.prog 11 #[.agg #[.int .i64 a, .int .i64 l, .int .i64 h, .int .i64 d], .int .i64 r] w fun e w' => e = .returned (.tuple #[.agg #[.int .i64 0, .int .i64 0], .int .i64 1]) ∧ Grown w w' := by
  by_cases hc : Cv a l h d
  · have V := Lib.hid (valid_yes a l h d · hc)
    have H : Hid (fr r 0 1000000000 = false) := Lib.hid (decide_eq_false (fun t => hn ⟨hc, t⟩))
    clear hn hc
    go_enter Try.func11, Try.ntmps11
    go_wp2_with fail
    refine (V.out _).mono ?_
    rintro e w1 ⟨rfl, g1⟩
    obtain ⟨c1, f1, z1⟩ := laid g1
    try simp at z1
    have G1 : Grown w w1 := Grown.trans (by go_grown) g1
    clear g1
    have z1_w0 : w.heap.size < w1.heap.size := by omega
    have z1_w1 : w.heap.size + 1 < w1.heap.size := by omega
    go_wp2_with fail
    refine (isFrom_c _ _ _ _).mono ?_
    rintro e w' ⟨rfl, rfl⟩
    rw [H.out]
    go_wp2_with fail
    exact bodyPost_ret (v := .tuple #[.agg #[.int .i64 0, .int .i64 0], .int .i64 1]) (by simp [results, Try.results11, go_sem, *]) rfl ⟨rfl, by go_grown⟩
  · have V := Lib.hid (valid_no a l h d · hc)
    clear hn hc
    go_enter Try.func11, Try.ntmps11
    go_wp2_with fail
    refine (V.out _).mono ?_
    rintro e w1 ⟨rfl, g1⟩
    obtain ⟨c1, f1, z1⟩ := laid g1
    try simp at z1
    have G1 : Grown w w1 := Grown.trans (by go_grown) g1
    clear g1
    have z1_w0 : w.heap.size < w1.heap.size := by omega
    have z1_w1 : w.heap.size + 1 < w1.heap.size := by omega
    go_wp2_with fail
    exact bodyPost_ret (v := .tuple #[.agg #[.int .i64 0, .int .i64 0], .int .i64 1]) (by simp [results, Try.results11, go_sem, *]) rfl ⟨rfl, by go_grown⟩
theorem true_ok (a l h d r : Int) (w : World) (hc : Cv a l h d) (hr : Rd r) : Calls Try.prog 11 #[.agg #[.int .i64 a, .int .i64 l, .int .i64 h, .int .i64 d], .int .i64 r] w fun e w' => e = .returned (.tuple #[.agg #[.int .i64 (tl a l d r), .int .i64 (th a h d r)], .int .i64 0]) ∧ Grown w w' := by
  have V := Lib.hid (valid_yes a l h d · hc)
  have T := Lib.hid (trueTime_c a l h d r · hc hr)
  have H : Hid (fr r 0 1000000000 = true) := Lib.hid (decide_eq_true hr)
  clear hc hr
  generalize tl a l d r = x at *
  generalize th a h d r = y at *
  go_enter Try.func11, Try.ntmps11
  go_wp2_with fail
  refine (V.out _).mono ?_
  rintro e w1 ⟨rfl, g1⟩
  obtain ⟨c1, f1, z1⟩ := laid g1
  try simp at z1
  have G1 : Grown w w1 := Grown.trans (by go_grown) g1
  clear g1
  have z1_w0 : w.heap.size < w1.heap.size := by omega
  have z1_w1 : w.heap.size + 1 < w1.heap.size := by omega
  go_wp2_with fail
  refine (isFrom_c _ _ _ _).mono ?_
  rintro e w' ⟨rfl, rfl⟩
  rw [H.out]
  go_wp2_with fail
  refine (T.out _).mono ?_
  rintro e w2 ⟨rfl, g2⟩
  obtain ⟨c2, f2, z2⟩ := laid g2
  try simp at z2
  have G2 : Grown w w2 := Grown.trans (by go_grown) g2
  clear g2
  have z2_w0 : w.heap.size < w2.heap.size := by omega
  have z2_w1 : w.heap.size + 1 < w2.heap.size := by omega
  go_wp2_with fail
  exact bodyPost_ret (v := .tuple #[.agg #[.int .i64 x, .int .i64 y], .int .i64 0]) (by simp [results, Try.results11, go_sem, *]) rfl ⟨rfl, by go_grown⟩
end Ck
end Go.Proofs.Ytndabfpinkakbaa
