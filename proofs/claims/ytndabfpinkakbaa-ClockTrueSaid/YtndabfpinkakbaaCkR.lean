/-
  The reference of layer 14: Time, Valid, Wrong, Of, True, first, last, Reading, Set.
-/
import Derived.Test.YtndabfpinkakbaaCkPlain
import Derived.Test.YtndabfpinkakbaaSpanRefB
import Derived.IntWalk
namespace Go.Proofs.Ytndabfpinkakbaa
open Go.RowKit Sn
namespace Ck
set_option maxRecDepth 100000
namespace R
def tm (n : Int) : Bool := decide (Rd n)
theorem time_c (n : Int) (w : World) : Calls Try.prog 19 #[.int .i64 n] w fun e w' => e = .returned (.bool (tm n)) ∧ w = w' := by
  by_cases p : 0 ≤ n
  · by_cases q : n ≤ 1000000000
    · have H : Hid (tm n = true) := Lib.hid (decide_eq_true ⟨p, q⟩)
      go_enter Try.func19, Try.ntmps19
      go_wp2_with fail
      go_ret
      exact ⟨by rw [H.out]; first | rfl | (simp; omega), rfl⟩
    · have H : Hid (tm n = false) := Lib.hid (decide_eq_false (fun t => q t.2))
      go_enter Try.func19, Try.ntmps19
      go_wp2_with fail
      go_ret
      exact ⟨by rw [H.out]; first | rfl | (simp; omega), rfl⟩
  · have H : Hid (tm n = false) := Lib.hid (decide_eq_false (fun t => p t.1))
    go_enter Try.func19, Try.ntmps19
    go_wp2_with fail
    go_ret
    exact ⟨by rw [H.out]; first | rfl | (simp; omega), rfl⟩
set_option maxHeartbeats 1000000 in
theorem valid_yes (a l h d : Int) (w : World) (hc : Cv a l h d) : Calls Try.prog 14 #[.agg #[.int .i64 a, .int .i64 l, .int .i64 h, .int .i64 d]] w fun e w' => e = .returned (.bool true) ∧ Grown w w' := by
  obtain ⟨ha, ⟨h0, h1, h2⟩, ⟨d0, d1⟩⟩ := hc
  have Q : Hid (Vd l h) := Lib.hid ⟨by omega, h1, by omega⟩
  have T : Hid (tm a = true) := Lib.hid (by unfold tm; simp [ha])
  clear ha
  go_enter Try.func14, Try.ntmps14
  go_wp2_with fail
  refine (refValid_yes _ _ _ Q.out).mono ?_
  rintro e w1 ⟨rfl, g1⟩
  obtain ⟨c1, f1, z1⟩ := laid g1
  try simp at z1
  have G1 : Grown w w1 := Grown.trans (by go_grown) g1
  clear g1
  have z1_w0 : w.heap.size < w1.heap.size := by omega
  go_wp2_with fail
  refine (time_c _ _).mono ?_
  rintro e w' ⟨rfl, rfl⟩
  rw [T.out]
  go_wp2_with fail
  go_ret
  exact ⟨by first | rfl | (simp; omega), by go_grown⟩
set_option maxHeartbeats 4000000 in
theorem valid_no (a l h d : Int) (w : World) (hc : ¬ Cv a l h d) : Calls Try.prog 14 #[.agg #[.int .i64 a, .int .i64 l, .int .i64 h, .int .i64 d]] w fun e w' => e = .returned (.bool false) ∧ Grown w w' := by
  by_cases hv : Vd l h
  · have Q := Lib.hid hv
    by_cases ha : Rd a
    · by_cases h0 : -1000000 ≤ l
      · by_cases h2 : h ≤ 1000000
        · by_cases d0 : 0 ≤ d
          · have d1 : 1000 < d := by
              by_cases d1 : d ≤ 1000
              · exact absurd ⟨ha, ⟨h0, hv.2.1, h2⟩, d0, d1⟩ hc
              · omega
            clear hc hv
            have T : Hid (tm a = true) := Lib.hid (by unfold tm; simp [ha])
            clear ha
            go_enter Try.func14, Try.ntmps14
            go_wp2_with fail
            refine (refValid_yes _ _ _ Q.out).mono ?_
            rintro e w1 ⟨rfl, g1⟩
            obtain ⟨c1, f1, z1⟩ := laid g1
            try simp at z1
            have G1 : Grown w w1 := Grown.trans (by go_grown) g1
            clear g1
            have z1_w0 : w.heap.size < w1.heap.size := by omega
            go_wp2_with fail
            refine (time_c _ _).mono ?_
            rintro e w' ⟨rfl, rfl⟩
            rw [T.out]
            go_wp2_with fail
            go_ret
            exact ⟨by first | rfl | (simp; omega), by go_grown⟩
          · clear hc hv
            have T : Hid (tm a = true) := Lib.hid (by unfold tm; simp [ha])
            clear ha
            go_enter Try.func14, Try.ntmps14
            go_wp2_with fail
            refine (refValid_yes _ _ _ Q.out).mono ?_
            rintro e w1 ⟨rfl, g1⟩
            obtain ⟨c1, f1, z1⟩ := laid g1
            try simp at z1
            have G1 : Grown w w1 := Grown.trans (by go_grown) g1
            clear g1
            have z1_w0 : w.heap.size < w1.heap.size := by omega
            go_wp2_with fail
            refine (time_c _ _).mono ?_
            rintro e w' ⟨rfl, rfl⟩
            rw [T.out]
            go_wp2_with fail
            go_ret
            exact ⟨by first | rfl | (simp; omega), by go_grown⟩
        · clear hc hv
          have T : Hid (tm a = true) := Lib.hid (by unfold tm; simp [ha])
          clear ha
          go_enter Try.func14, Try.ntmps14
          go_wp2_with fail
          refine (refValid_yes _ _ _ Q.out).mono ?_
          rintro e w1 ⟨rfl, g1⟩
          obtain ⟨c1, f1, z1⟩ := laid g1
          try simp at z1
          have G1 : Grown w w1 := Grown.trans (by go_grown) g1
          clear g1
          have z1_w0 : w.heap.size < w1.heap.size := by omega
          go_wp2_with fail
          refine (time_c _ _).mono ?_
          rintro e w' ⟨rfl, rfl⟩
          rw [T.out]
          go_wp2_with fail
          go_ret
          exact ⟨by first | rfl | (simp; omega), by go_grown⟩
      · clear hc hv
        have T : Hid (tm a = true) := Lib.hid (by unfold tm; simp [ha])
        clear ha
        go_enter Try.func14, Try.ntmps14
        go_wp2_with fail
        refine (refValid_yes _ _ _ Q.out).mono ?_
        rintro e w1 ⟨rfl, g1⟩
        obtain ⟨c1, f1, z1⟩ := laid g1
        try simp at z1
        have G1 : Grown w w1 := Grown.trans (by go_grown) g1
        clear g1
        have z1_w0 : w.heap.size < w1.heap.size := by omega
        go_wp2_with fail
        refine (time_c _ _).mono ?_
        rintro e w' ⟨rfl, rfl⟩
        rw [T.out]
        go_wp2_with fail
        go_ret
        exact ⟨by first | rfl | (simp; omega), by go_grown⟩
    · clear hc hv
      have T : Hid (tm a = false) := Lib.hid (by unfold tm; simp [ha])
      clear ha
      go_enter Try.func14, Try.ntmps14
      go_wp2_with fail
      refine (refValid_yes _ _ _ Q.out).mono ?_
      rintro e w1 ⟨rfl, g1⟩
      obtain ⟨c1, f1, z1⟩ := laid g1
      try simp at z1
      have G1 : Grown w w1 := Grown.trans (by go_grown) g1
      clear g1
      have z1_w0 : w.heap.size < w1.heap.size := by omega
      go_wp2_with fail
      refine (time_c _ _).mono ?_
      rintro e w' ⟨rfl, rfl⟩
      rw [T.out]
      go_wp2_with fail
      go_ret
      exact ⟨by first | rfl | (simp; omega), by go_grown⟩
  · have Q := Lib.hid hv
    by_cases ha : Rd a
    · clear hc hv
      have T : Hid (tm a = true) := Lib.hid (by unfold tm; simp [ha])
      clear ha
      go_enter Try.func14, Try.ntmps14
      go_wp2_with fail
      refine (refValid_no _ _ _ Q.out).mono ?_
      rintro e w1 ⟨rfl, g1⟩
      obtain ⟨c1, f1, z1⟩ := laid g1
      try simp at z1
      have G1 : Grown w w1 := Grown.trans (by go_grown) g1
      clear g1
      have z1_w0 : w.heap.size < w1.heap.size := by omega
      go_wp2_with fail
      refine (time_c _ _).mono ?_
      rintro e w' ⟨rfl, rfl⟩
      rw [T.out]
      go_wp2_with fail
      go_ret
      exact ⟨by first | rfl | (simp; omega), by go_grown⟩
    · clear hc hv
      have T : Hid (tm a = false) := Lib.hid (by unfold tm; simp [ha])
      clear ha
      go_enter Try.func14, Try.ntmps14
      go_wp2_with fail
      refine (refValid_no _ _ _ Q.out).mono ?_
      rintro e w1 ⟨rfl, g1⟩
      obtain ⟨c1, f1, z1⟩ := laid g1
      try simp at z1
      have G1 : Grown w w1 := Grown.trans (by go_grown) g1
      clear g1
      have z1_w0 : w.heap.size < w1.heap.size := by omega
      go_wp2_with fail
      refine (time_c _ _).mono ?_
      rintro e w' ⟨rfl, rfl⟩
      rw [T.out]
      go_wp2_with fail
      go_ret
      exact ⟨by first | rfl | (simp; omega), by go_grown⟩
/-! ### How far it goes wrong -/
theorem cutM {n : Int} (h : n < 0) : n.tdiv 1000000 = -((-n) / 1000000) ∧ n.tmod 1000000 = -((-n) % 1000000) := by
  constructor
  · rw [← Int.neg_neg n, Int.neg_tdiv, Int.tdiv_eq_ediv_of_nonneg (by omega), Int.neg_neg]
  · rw [← Int.neg_neg n, Int.neg_tmod, Int.tmod_eq_emod_of_nonneg (by omega), Int.neg_neg]
def fM (n : Int) : Int := n / 1000000
theorem floor_c (n : Int) (w : World) (h : -1000000000000000000 ≤ n ∧ n ≤ 1000000000000000000) : Calls Try.prog 50 #[.int .i64 n, .int .i64 1000000] w fun e w' => e = .returned (.int .i64 (fM n)) ∧ w = w' := by
  obtain ⟨h0, h1⟩ := h
  by_cases p : 0 ≤ n
  · have H : Hid (fM n = n / 1000000) := Lib.hid rfl
    have q : 0 ≤ n % 1000000 := by omega
    go_enter Try.func50, Try.ntmps50
    go_wp2_with fail
    go_ret
    exact ⟨by rw [H.out]; first | rfl | (simp; omega), rfl⟩
  · obtain ⟨e1, e2⟩ := cutM (show n < 0 by omega)
    have b1 : -1000000000000000000 ≤ n.tdiv 1000000 := by omega
    have b2 : n.tdiv 1000000 ≤ 0 := by omega
    by_cases q : n % 1000000 = 0
    · have H : Hid (fM n = n.tdiv 1000000) := Lib.hid (by unfold fM; omega)
      have t : 0 ≤ n.tmod 1000000 := by omega
      have p' : n < 0 := by omega
      clear e1 e2 p q
      go_enter Try.func50, Try.ntmps50
      go_wp2_with fail
      go_ret
      exact ⟨by rw [H.out]; first | rfl | (simp; omega), rfl⟩
    · have H : Hid (fM n = n.tdiv 1000000 - 1) := Lib.hid (by unfold fM; omega)
      have t : n.tmod 1000000 < 0 := by omega
      have p' : n < 0 := by omega
      clear e1 e2 p q
      go_enter Try.func50, Try.ntmps50
      go_wp2_with fail
      go_ret
      exact ⟨by rw [H.out]; first | rfl | (simp; omega), rfl⟩
theorem ceil_c (n : Int) (w : World) (h : 0 ≤ n ∧ n ≤ 1000000000000) : Calls Try.prog 49 #[.int .i64 n, .int .i64 1000000] w fun e w' => e = .returned (.int .i64 ((n + 999999) / 1000000)) ∧ w = w' := by
  have H : Hid (-1000000000000000000 ≤ -n ∧ -n ≤ 1000000000000000000) := Lib.hid (by omega)
  have E : Hid ((n + 999999) / 1000000 = -fM (-n)) := Lib.hid (by unfold fM; omega)
  have b1 : -1000000000000000000 ≤ fM (-n) := by unfold fM; omega
  have b2 : fM (-n) ≤ 1000000000000000000 := by unfold fM; omega
  obtain ⟨h0, h1⟩ := h
  rw [E.out]
  go_enter Try.func49, Try.ntmps49
  go_wp2_with fail
  refine (floor_c _ _ H.out).mono ?_
  rintro e w' ⟨rfl, rfl⟩
  go_wp2_with fail
  go_ret
  exact ⟨rfl, rfl⟩
theorem wrong_c (a l h d r : Int) (w : World) (ha : Rd a) (hd : Df d) (hr : Rd r) : Calls Try.prog 43 #[.agg #[.int .i64 a, .int .i64 l, .int .i64 h, .int .i64 d], .int .i64 r] w fun e w' => e = .returned (.int .i64 (wg a d r)) ∧ Grown w w' := by
  obtain ⟨m0, m1⟩ := dd_bd ha hd hr
  obtain ⟨a0, a1⟩ := ha
  obtain ⟨r0, r1⟩ := hr
  obtain ⟨d0, d1⟩ := hd
  by_cases p : r - a < a - r
  · have q : ds a r = a - r := if_pos p
    rw [q] at m0 m1
    have H : Hid (0 ≤ d * (a - r) ∧ d * (a - r) ≤ 1000000000000) := Lib.hid ⟨m0, m1⟩
    have E : Hid (wg a d r = (d * (a - r) + 999999) / 1000000) := Lib.hid (by unfold wg; rw [q])
    rw [E.out]
    clear q
    go_enter Try.func43, Try.ntmps43
    go_wp2_with fail
    refine (ceil_c _ _ H.out).mono ?_
    rintro e w' ⟨rfl, rfl⟩
    go_wp2_with fail
    go_ret
    exact ⟨rfl, by go_grown⟩
  · have q : ds a r = r - a := if_neg p
    rw [q] at m0 m1
    have H : Hid (0 ≤ d * (r - a) ∧ d * (r - a) ≤ 1000000000000) := Lib.hid ⟨m0, m1⟩
    have E : Hid (wg a d r = (d * (r - a) + 999999) / 1000000) := Lib.hid (by unfold wg; rw [q])
    rw [E.out]
    clear q
    go_enter Try.func43, Try.ntmps43
    go_wp2_with fail
    refine (ceil_c _ _ H.out).mono ?_
    rintro e w' ⟨rfl, rfl⟩
    go_wp2_with fail
    go_ret
    exact ⟨rfl, by go_grown⟩
theorem of_c (a l h d r : Int) (w : World) (hc : Cv a l h d) (hr : Rd r) : Calls Try.prog 27 #[.agg #[.int .i64 a, .int .i64 l, .int .i64 h, .int .i64 d], .int .i64 r] w fun e w' => e = .returned (.agg #[.int .i64 (tl a l d r), .int .i64 (th a h d r)]) ∧ Grown w w' := by
  have W1 := Lib.hid (wrong_c a l h d r · hc.1 hc.2.2 hr)
  obtain ⟨b0, b1⟩ := wg_bd hc.1 hc.2.2 hr
  have HE : Hid (tl a l d r = r + l - wg a d r ∧ th a h d r = r + h + wg a d r) := Lib.hid (by unfold tl th; omega)
  obtain ⟨r0, r1⟩ := hr
  obtain ⟨_, ⟨h0, h1, h2⟩, _⟩ := hc
  obtain ⟨x, hx⟩ : ∃ x, wg a d r = x := ⟨_, rfl⟩
  rw [hx] at W1 b0 b1 HE
  clear hx
  rw [HE.out.1, HE.out.2]
  go_enter Try.func27, Try.ntmps27
  go_wp2_with fail
  refine (W1.out _).mono ?_
  rintro e w1 ⟨rfl, g1⟩
  obtain ⟨c1, f1, z1⟩ := laid g1
  try simp at z1
  have G1 : Grown w w1 := Grown.trans (by go_grown) g1
  clear g1
  have z1_w0 : w.heap.size < w1.heap.size := by omega
  have z1_w1 : w.heap.size + 1 < w1.heap.size := by omega
  go_wp2_with fail
  exact bodyPost_ret (v := .agg #[.int .i64 (r + l - x), .int .i64 (r + h + x)]) (by simp [results, Try.results27, go_sem, *]) rfl ⟨rfl, by go_grown⟩
theorem true_bad (a l h d r : Int) (w : World) (hn : ¬ (Cv a l h d ∧ Rd r)) : Calls Try.prog 12 #[.agg #[.int .i64 a, .int .i64 l, .int .i64 h, .int .i64 d], .int .i64 r] w fun e w' => e = .returned (.tuple #[.agg #[.int .i64 0, .int .i64 0], .int .i64 1]) ∧ Grown w w' := by
  by_cases hc : Cv a l h d
  · have V := Lib.hid (valid_yes a l h d · hc)
    have H : Hid (tm r = false) := Lib.hid (decide_eq_false (fun t => hn ⟨hc, t⟩))
    clear hn hc
    go_enter Try.func12, Try.ntmps12
    go_wp2_with fail
    refine (V.out _).mono ?_
    rintro e w1 ⟨rfl, g1⟩
    obtain ⟨c1, f1, z1⟩ := laid g1
    try simp at z1
    have G1 : Grown w w1 := Grown.trans (by go_grown) g1
    clear g1
    have z1_w0 : w.heap.size < w1.heap.size := by omega
    have z1_w1 : w.heap.size + 1 < w1.heap.size := by omega
    go_wp2_with fail
    refine (time_c _ _).mono ?_
    rintro e w' ⟨rfl, rfl⟩
    rw [H.out]
    go_wp2_with fail
    exact bodyPost_ret (v := .tuple #[.agg #[.int .i64 0, .int .i64 0], .int .i64 1]) (by simp [results, Try.results12, go_sem, *]) rfl ⟨rfl, by go_grown⟩
  · have V := Lib.hid (valid_no a l h d · hc)
    clear hn hc
    go_enter Try.func12, Try.ntmps12
    go_wp2_with fail
    refine (V.out _).mono ?_
    rintro e w1 ⟨rfl, g1⟩
    obtain ⟨c1, f1, z1⟩ := laid g1
    try simp at z1
    have G1 : Grown w w1 := Grown.trans (by go_grown) g1
    clear g1
    have z1_w0 : w.heap.size < w1.heap.size := by omega
    have z1_w1 : w.heap.size + 1 < w1.heap.size := by omega
    go_wp2_with fail
    exact bodyPost_ret (v := .tuple #[.agg #[.int .i64 0, .int .i64 0], .int .i64 1]) (by simp [results, Try.results12, go_sem, *]) rfl ⟨rfl, by go_grown⟩
theorem true_ok (a l h d r : Int) (w : World) (hc : Cv a l h d) (hr : Rd r) : Calls Try.prog 12 #[.agg #[.int .i64 a, .int .i64 l, .int .i64 h, .int .i64 d], .int .i64 r] w fun e w' => e = .returned (.tuple #[.agg #[.int .i64 (tl a l d r), .int .i64 (th a h d r)], .int .i64 0]) ∧ Grown w w' := by
  have V := Lib.hid (valid_yes a l h d · hc)
  have T := Lib.hid (of_c a l h d r · hc hr)
  have H : Hid (tm r = true) := Lib.hid (decide_eq_true hr)
  clear hc hr
  generalize tl a l d r = x at *
  generalize th a h d r = y at *
  go_enter Try.func12, Try.ntmps12
  go_wp2_with fail
  refine (V.out _).mono ?_
  rintro e w1 ⟨rfl, g1⟩
  obtain ⟨c1, f1, z1⟩ := laid g1
  try simp at z1
  have G1 : Grown w w1 := Grown.trans (by go_grown) g1
  clear g1
  have z1_w0 : w.heap.size < w1.heap.size := by omega
  have z1_w1 : w.heap.size + 1 < w1.heap.size := by omega
  go_wp2_with fail
  refine (time_c _ _).mono ?_
  rintro e w' ⟨rfl, rfl⟩
  rw [H.out]
  go_wp2_with fail
  refine (T.out _).mono ?_
  rintro e w2 ⟨rfl, g2⟩
  obtain ⟨c2, f2, z2⟩ := laid g2
  try simp at z2
  have G2 : Grown w w2 := Grown.trans (by go_grown) g2
  clear g2
  have z2_w0 : w.heap.size < w2.heap.size := by omega
  have z2_w1 : w.heap.size + 1 < w2.heap.size := by omega
  go_wp2_with fail
  exact bodyPost_ret (v := .tuple #[.agg #[.int .i64 x, .int .i64 y], .int .i64 0]) (by simp [results, Try.results12, go_sem, *]) rfl ⟨rfl, by go_grown⟩
end R
end Ck
end Go.Proofs.Ytndabfpinkakbaa
