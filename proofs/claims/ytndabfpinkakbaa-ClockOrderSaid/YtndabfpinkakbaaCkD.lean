/-
  The landed package clock: Set.
-/
import Derived.Test.YtndabfpinkakbaaCkA
namespace Go.Proofs.Ytndabfpinkakbaa
open Go.RowKit Sn
namespace Ck
theorem m_vd {a l h d r x y : Int} (hc : Cv a l h d) (hr : Rd r) (hm : ml a l d r x ≤ mh a h d r y) : Vd (ml a l d r x) (mh a h d r y) ∧ Vd (ml a l d r x - r) (mh a h d r y - r) := by
  obtain ⟨t0, _, t2⟩ := t_bd hc hr
  obtain ⟨r0, r1⟩ := hr
  unfold ml mh at *
  rw [mx_max, mn_min] at *
  unfold Vd
  omega
set_option maxHeartbeats 1000000 in
theorem set_bad (a l h d r x y : Int) (w : World) (hn : ¬ (Cv a l h d ∧ Rd r ∧ Vd x y)) : Calls Try.prog 17 #[.agg #[.int .i64 a, .int .i64 l, .int .i64 h, .int .i64 d], .int .i64 r, .agg #[.int .i64 x, .int .i64 y]] w fun e w' => e = .returned (.tuple #[.agg #[.int .i64 0, .int .i64 0, .int .i64 0, .int .i64 0], .bool false, .int .i64 1]) ∧ Grown w w' := by
  by_cases hc : Cv a l h d ∧ Rd r
  · have T := Lib.hid (true_ok a l h d r · hc.1 hc.2)
    have M := Lib.hid (spMeet_bad (tl a l d r) (th a h d r) x y · (fun t => hn ⟨hc.1, hc.2, t.2⟩))
    clear hn hc
    generalize tl a l d r = p at *
    generalize th a h d r = q at *
    go_enter Try.func17, Try.ntmps17
    go_wp2_with fail
    refine (T.out _).mono ?_
    rintro e w1 ⟨rfl, g1⟩
    obtain ⟨c1, f1, z1⟩ := laid g1
    try simp at z1
    have G1 : Grown w w1 := Grown.trans (by go_grown) g1
    clear g1
    have z1_w0 : w.heap.size < w1.heap.size := by omega
    have z1_w1 : w.heap.size + 1 < w1.heap.size := by omega
    have z1_w2 : w.heap.size + 1 + 1 < w1.heap.size := by omega
    go_wp2_with fail
    refine (M.out _).mono ?_
    rintro e w2 ⟨rfl, g2⟩
    obtain ⟨c2, f2, z2⟩ := laid g2
    try simp at z2
    have G2 : Grown w w2 := Grown.trans (by go_grown) g2
    clear g2
    have z2_w0 : w.heap.size < w2.heap.size := by omega
    have z2_w1 : w.heap.size + 1 < w2.heap.size := by omega
    have z2_w2 : w.heap.size + 1 + 1 < w2.heap.size := by omega
    have z2_w10 : w1.heap.size < w2.heap.size := by omega
    go_wp2_with fail
    exact bodyPost_ret (v := .tuple #[.agg #[.int .i64 0, .int .i64 0, .int .i64 0, .int .i64 0], .bool false, .int .i64 1]) (by simp [results, Try.results17, go_sem, *]) rfl ⟨rfl, by go_grown⟩
  · have T := Lib.hid (true_bad a l h d r · hc)
    clear hn hc
    go_enter Try.func17, Try.ntmps17
    go_wp2_with fail
    refine (T.out _).mono ?_
    rintro e w1 ⟨rfl, g1⟩
    obtain ⟨c1, f1, z1⟩ := laid g1
    try simp at z1
    have G1 : Grown w w1 := Grown.trans (by go_grown) g1
    clear g1
    have z1_w0 : w.heap.size < w1.heap.size := by omega
    have z1_w1 : w.heap.size + 1 < w1.heap.size := by omega
    have z1_w2 : w.heap.size + 1 + 1 < w1.heap.size := by omega
    go_wp2_with fail
    exact bodyPost_ret (v := .tuple #[.agg #[.int .i64 0, .int .i64 0, .int .i64 0, .int .i64 0], .bool false, .int .i64 1]) (by simp [results, Try.results17, go_sem, *]) rfl ⟨rfl, by go_grown⟩
set_option maxHeartbeats 1000000 in
theorem set_apart (a l h d r x y : Int) (w : World) (hc : Cv a l h d) (hr : Rd r) (hv : Vd x y) (hm : mh a h d r y < ml a l d r x) : Calls Try.prog 17 #[.agg #[.int .i64 a, .int .i64 l, .int .i64 h, .int .i64 d], .int .i64 r, .agg #[.int .i64 x, .int .i64 y]] w fun e w' => e = .returned (.tuple #[.agg #[.int .i64 0, .int .i64 0, .int .i64 0, .int .i64 0], .bool false, .int .i64 0]) ∧ Grown w w' := by
  have T := Lib.hid (true_ok a l h d r · hc hr)
  have M := Lib.hid (spMeet_none (tl a l d r) (th a h d r) x y · ⟨t_vd hc hr, hv⟩ hm)
  clear hc hr hv hm
  generalize tl a l d r = p at *
  generalize th a h d r = q at *
  go_enter Try.func17, Try.ntmps17
  go_wp2_with fail
  refine (T.out _).mono ?_
  rintro e w1 ⟨rfl, g1⟩
  obtain ⟨c1, f1, z1⟩ := laid g1
  try simp at z1
  have G1 : Grown w w1 := Grown.trans (by go_grown) g1
  clear g1
  have z1_w0 : w.heap.size < w1.heap.size := by omega
  have z1_w1 : w.heap.size + 1 < w1.heap.size := by omega
  have z1_w2 : w.heap.size + 1 + 1 < w1.heap.size := by omega
  go_wp2_with fail
  refine (M.out _).mono ?_
  rintro e w2 ⟨rfl, g2⟩
  obtain ⟨c2, f2, z2⟩ := laid g2
  try simp at z2
  have G2 : Grown w w2 := Grown.trans (by go_grown) g2
  clear g2
  have z2_w0 : w.heap.size < w2.heap.size := by omega
  have z2_w1 : w.heap.size + 1 < w2.heap.size := by omega
  have z2_w2 : w.heap.size + 1 + 1 < w2.heap.size := by omega
  have z2_w10 : w1.heap.size < w2.heap.size := by omega
  go_wp2_with fail
  exact bodyPost_ret (v := .tuple #[.agg #[.int .i64 0, .int .i64 0, .int .i64 0, .int .i64 0], .bool false, .int .i64 0]) (by simp [results, Try.results17, go_sem, *]) rfl ⟨rfl, by go_grown⟩
set_option maxHeartbeats 1000000 in
theorem set_range (a l h d r x y : Int) (w : World) (hc : Cv a l h d) (hr : Rd r) (hv : Vd x y) (hm : ml a l d r x ≤ mh a h d r y) (ho : ¬ Of (ml a l d r x - r) (mh a h d r y - r)) : Calls Try.prog 17 #[.agg #[.int .i64 a, .int .i64 l, .int .i64 h, .int .i64 d], .int .i64 r, .agg #[.int .i64 x, .int .i64 y]] w fun e w' => e = .returned (.tuple #[.agg #[.int .i64 0, .int .i64 0, .int .i64 0, .int .i64 0], .bool false, .int .i64 3]) ∧ Grown w w' := by
  have T := Lib.hid (true_ok a l h d r · hc hr)
  have M := Lib.hid (spMeet_ok (tl a l d r) (th a h d r) x y · ⟨t_vd hc hr, hv⟩ hm)
  have RV : Vd r r := by
    obtain ⟨r0, r1⟩ := hr
    exact ⟨by omega, by omega, by omega⟩
  have SB := Lib.hid (spSub_ok (ml a l d r x) (mh a h d r y) r r · ⟨(m_vd hc hr hm).1, RV⟩ (m_vd hc hr hm).2)
  have V := Lib.hid (valid_no r (ml a l d r x - r) (mh a h d r y - r) d · (fun t => ho t.2.1))
  change Hid (∀ w, Calls _ _ #[.agg #[.int .i64 (tl a l d r), .int .i64 (th a h d r)], .agg #[.int .i64 x, .int .i64 y]] w fun e w' => e = .returned (.tuple #[.agg #[.int .i64 (ml a l d r x), .int .i64 (mh a h d r y)], .bool true, .int .i64 0]) ∧ Grown w w') at M
  clear hc hr hv hm ho RV
  generalize ml a l d r x = u at *
  generalize mh a h d r y = v at *
  generalize tl a l d r = p at *
  generalize th a h d r = q at *
  go_enter Try.func17, Try.ntmps17
  go_wp2_with fail
  refine (T.out _).mono ?_
  rintro e w1 ⟨rfl, g1⟩
  obtain ⟨c1, f1, z1⟩ := laid g1
  try simp at z1
  have G1 : Grown w w1 := Grown.trans (by go_grown) g1
  clear g1
  have z1_w0 : w.heap.size < w1.heap.size := by omega
  have z1_w1 : w.heap.size + 1 < w1.heap.size := by omega
  have z1_w2 : w.heap.size + 1 + 1 < w1.heap.size := by omega
  go_wp2_with fail
  refine (M.out _).mono ?_
  rintro e w2 ⟨rfl, g2⟩
  obtain ⟨c2, f2, z2⟩ := laid g2
  try simp at z2
  have G2 : Grown w w2 := Grown.trans (by go_grown) g2
  clear g2
  have z2_w0 : w.heap.size < w2.heap.size := by omega
  have z2_w1 : w.heap.size + 1 < w2.heap.size := by omega
  have z2_w2 : w.heap.size + 1 + 1 < w2.heap.size := by omega
  have z2_w10 : w1.heap.size < w2.heap.size := by omega
  go_wp2_with fail
  refine (SB.out _).mono ?_
  rintro e w3 ⟨rfl, g3⟩
  obtain ⟨c3, f3, z3⟩ := laid g3
  try simp at z3
  have G3 : Grown w w3 := Grown.trans (by go_grown) g3
  clear g3
  have z3_w0 : w.heap.size < w3.heap.size := by omega
  have z3_w1 : w.heap.size + 1 < w3.heap.size := by omega
  have z3_w2 : w.heap.size + 1 + 1 < w3.heap.size := by omega
  have z3_w10 : w1.heap.size < w3.heap.size := by omega
  have z3_w20 : w2.heap.size < w3.heap.size := by omega
  go_wp2_with fail
  refine (V.out _).mono ?_
  rintro e w4 ⟨rfl, g4⟩
  obtain ⟨c4, f4, z4⟩ := laid g4
  try simp at z4
  have G4 : Grown w w4 := Grown.trans (by go_grown) g4
  clear g4
  have z4_w0 : w.heap.size < w4.heap.size := by omega
  have z4_w1 : w.heap.size + 1 < w4.heap.size := by omega
  have z4_w2 : w.heap.size + 1 + 1 < w4.heap.size := by omega
  have z4_w10 : w1.heap.size < w4.heap.size := by omega
  have z4_w20 : w2.heap.size < w4.heap.size := by omega
  have z4_w30 : w3.heap.size < w4.heap.size := by omega
  have z4_w31 : w3.heap.size + 1 < w4.heap.size := by omega
  go_wp2_with fail
  exact bodyPost_ret (v := .tuple #[.agg #[.int .i64 0, .int .i64 0, .int .i64 0, .int .i64 0], .bool false, .int .i64 3]) (by simp [results, Try.results17, go_sem, *]) rfl ⟨rfl, by go_grown⟩
set_option maxHeartbeats 1000000 in
theorem set_ok (a l h d r x y : Int) (w : World) (hc : Cv a l h d) (hr : Rd r) (hv : Vd x y) (hm : ml a l d r x ≤ mh a h d r y) (ho : Of (ml a l d r x - r) (mh a h d r y - r)) : Calls Try.prog 17 #[.agg #[.int .i64 a, .int .i64 l, .int .i64 h, .int .i64 d], .int .i64 r, .agg #[.int .i64 x, .int .i64 y]] w fun e w' => e = .returned (.tuple #[.agg #[.int .i64 r, .int .i64 (ml a l d r x - r), .int .i64 (mh a h d r y - r), .int .i64 d], .bool true, .int .i64 0]) ∧ Grown w w' := by
  have T := Lib.hid (true_ok a l h d r · hc hr)
  have M := Lib.hid (spMeet_ok (tl a l d r) (th a h d r) x y · ⟨t_vd hc hr, hv⟩ hm)
  have RV : Vd r r := by
    obtain ⟨r0, r1⟩ := hr
    exact ⟨by omega, by omega, by omega⟩
  have SB := Lib.hid (spSub_ok (ml a l d r x) (mh a h d r y) r r · ⟨(m_vd hc hr hm).1, RV⟩ (m_vd hc hr hm).2)
  have V := Lib.hid (valid_yes r (ml a l d r x - r) (mh a h d r y - r) d · (⟨hr, ho, hc.2.2⟩))
  change Hid (∀ w, Calls _ _ #[.agg #[.int .i64 (tl a l d r), .int .i64 (th a h d r)], .agg #[.int .i64 x, .int .i64 y]] w fun e w' => e = .returned (.tuple #[.agg #[.int .i64 (ml a l d r x), .int .i64 (mh a h d r y)], .bool true, .int .i64 0]) ∧ Grown w w') at M
  clear hc hr hv hm ho RV
  generalize ml a l d r x = u at *
  generalize mh a h d r y = v at *
  generalize tl a l d r = p at *
  generalize th a h d r = q at *
  go_enter Try.func17, Try.ntmps17
  go_wp2_with fail
  refine (T.out _).mono ?_
  rintro e w1 ⟨rfl, g1⟩
  obtain ⟨c1, f1, z1⟩ := laid g1
  try simp at z1
  have G1 : Grown w w1 := Grown.trans (by go_grown) g1
  clear g1
  have z1_w0 : w.heap.size < w1.heap.size := by omega
  have z1_w1 : w.heap.size + 1 < w1.heap.size := by omega
  have z1_w2 : w.heap.size + 1 + 1 < w1.heap.size := by omega
  go_wp2_with fail
  refine (M.out _).mono ?_
  rintro e w2 ⟨rfl, g2⟩
  obtain ⟨c2, f2, z2⟩ := laid g2
  try simp at z2
  have G2 : Grown w w2 := Grown.trans (by go_grown) g2
  clear g2
  have z2_w0 : w.heap.size < w2.heap.size := by omega
  have z2_w1 : w.heap.size + 1 < w2.heap.size := by omega
  have z2_w2 : w.heap.size + 1 + 1 < w2.heap.size := by omega
  have z2_w10 : w1.heap.size < w2.heap.size := by omega
  go_wp2_with fail
  refine (SB.out _).mono ?_
  rintro e w3 ⟨rfl, g3⟩
  obtain ⟨c3, f3, z3⟩ := laid g3
  try simp at z3
  have G3 : Grown w w3 := Grown.trans (by go_grown) g3
  clear g3
  have z3_w0 : w.heap.size < w3.heap.size := by omega
  have z3_w1 : w.heap.size + 1 < w3.heap.size := by omega
  have z3_w2 : w.heap.size + 1 + 1 < w3.heap.size := by omega
  have z3_w10 : w1.heap.size < w3.heap.size := by omega
  have z3_w20 : w2.heap.size < w3.heap.size := by omega
  go_wp2_with fail
  refine (V.out _).mono ?_
  rintro e w4 ⟨rfl, g4⟩
  obtain ⟨c4, f4, z4⟩ := laid g4
  try simp at z4
  have G4 : Grown w w4 := Grown.trans (by go_grown) g4
  clear g4
  have z4_w0 : w.heap.size < w4.heap.size := by omega
  have z4_w1 : w.heap.size + 1 < w4.heap.size := by omega
  have z4_w2 : w.heap.size + 1 + 1 < w4.heap.size := by omega
  have z4_w10 : w1.heap.size < w4.heap.size := by omega
  have z4_w20 : w2.heap.size < w4.heap.size := by omega
  have z4_w30 : w3.heap.size < w4.heap.size := by omega
  have z4_w31 : w3.heap.size + 1 < w4.heap.size := by omega
  go_wp2_with fail
  exact bodyPost_ret (v := .tuple #[.agg #[.int .i64 r, .int .i64 (u - r), .int .i64 (v - r), .int .i64 d], .bool true, .int .i64 0]) (by simp [results, Try.results17, go_sem, *]) rfl ⟨rfl, by go_grown⟩
end Ck
end Go.Proofs.Ytndabfpinkakbaa
