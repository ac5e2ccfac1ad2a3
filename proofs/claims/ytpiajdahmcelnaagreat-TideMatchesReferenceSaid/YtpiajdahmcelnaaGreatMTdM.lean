/-
  The reference of layer 13: whether an edition is well-formed.
-/
import Derived.Test.YtpiajdahmcelnaaGreatMTdC
import Derived.Test.YtpiajdahmcelnaaGreatMHullCm
namespace Go.Proofs.YtpiajdahmcelnaaGreat
open Go.RowKit Hl
namespace Td
namespace R
set_option maxRecDepth 100000
theorem tAt {W : World} {B i : Nat} {cs : Array Value} {t : TypeId} {v : Value} (h : Blk W B cs t) (hi : cs[i]? = some v) : W.cell? ⟨B, i, none⟩ = some v := by
  simp [World.cell?, show W.heap[B]? = _ from h, hi]
set_option maxHeartbeats 16000000 in
theorem valid_c (t : Ed) (u : Value) (w : World) (hs : Rs w u t.l) (hl : t.l.length ≤ 9223372036854775807) :
    Calls Tryz.prog 9 #[tv t u] w fun e w' => e = .returned (.bool (decide (Tok t))) ∧ Grew w w' := by
  obtain ⟨r, hr0⟩ : ∃ r, decide (Tok t) = r := ⟨_, rfl⟩
  have HT : Hid (r = true ↔ Tok t) := Lib.hid (by rw [← hr0, decide_eq_true_eq])
  rw [hr0]
  clear hr0
  unfold tv
  have C1 := bounds_c t.r
  have C2 := Lib.hid (in_c t.v 1 1000000)
  have C3 := Lib.hid (in_c t.z 0 1000000000)
  have C4 := Lib.hid (in_c t.n 0 1000)
  unfold fv at C1
  have HS := Lib.hid hs
  obtain ⟨sa, sc, rfl, _⟩ := hs.shape
  clear hs
  rcases t with ⟨v, z, n, ⟨x, y, s, ⟨a, b, c, d, p, q⟩⟩, l⟩
  simp only at *
  have C1' := Lib.hid C1
  clear C1
  obtain ⟨r1, h1⟩ : ∃ r1, decide (Bok ⟨a, b, c, d, p, q⟩) = r1 := ⟨_, rfl⟩
  obtain ⟨r2, h2⟩ : ∃ r2, decide (1 ≤ v ∧ v ≤ 1000000) = r2 := ⟨_, rfl⟩
  obtain ⟨r3, h3⟩ : ∃ r3, decide (0 ≤ z ∧ z ≤ 1000000000) = r3 := ⟨_, rfl⟩
  obtain ⟨r4, h4⟩ : ∃ r4, decide (0 ≤ n ∧ n ≤ 1000) = r4 := ⟨_, rfl⟩
  rw [h1] at C1'
  rw [h2] at C2
  rw [h3] at C3
  rw [h4] at C4
  have H1 := Lib.hid h1
  have H2 := Lib.hid h2
  have H3 := Lib.hid h3
  have H4 := Lib.hid h4
  clear h1 h2 h3 h4
  have hl0 : (0 : Int) ≤ (l.length : Int) := by omega
  have hlL : (l.length : Int) ≤ 9223372036854775807 := by omega
  have TB : Hid (Blk (w.alloc (.cells #[.int .i64 v, .int .i64 z, .int .i64 n, .int .i64 x, .int .i64 y, .int .i64 s, .int .i64 a, .int .i64 b, .int .i64 c, .int .i64 d, .int .i64 p, .int .i64 q, .slice sa l.length sc] 28)) w.heap.size #[.int .i64 v, .int .i64 z, .int .i64 n, .int .i64 x, .int .i64 y, .int .i64 s, .int .i64 a, .int .i64 b, .int .i64 c, .int .i64 d, .int .i64 p, .int .i64 q, .slice sa l.length sc] 28) := Lib.hid (Blk.new w _ _)
  go_enter Tryz.func9, Tryz.ntmps9
  go_wp2_with fail
  refine (C1'.out _).mono ?_
  rintro e w1 ⟨rfl, g1⟩
  have TB1 := TB.out.grown g1
  have G1 : Grew w w1 := Grew.trans (by (repeat' (first | (with_reducible exact Grew.refl _) | (with_reducible assumption) | (with_reducible refine Grew.alloc ?_ _ _) | (with_reducible refine Grew.drew ?_) | (with_reducible refine Grew.drewN ?_ _) | (with_reducible refine Grew.setCell ?_ ?_ _) | go_size))) g1
  clear g1 TB
  have e0 := tAt TB1 (i := 0) rfl
  have e1 := tAt TB1 (i := 1) rfl
  have e2 := tAt TB1 (i := 2) rfl
  have e3 := tAt TB1 (i := 3) rfl
  have e4 := tAt TB1 (i := 4) rfl
  have e5 := tAt TB1 (i := 5) rfl
  have e6 := tAt TB1 (i := 6) rfl
  have e7 := tAt TB1 (i := 7) rfl
  have e8 := tAt TB1 (i := 8) rfl
  have e9 := tAt TB1 (i := 9) rfl
  have e10 := tAt TB1 (i := 10) rfl
  have e11 := tAt TB1 (i := 11) rfl
  have e12 := tAt TB1 (i := 12) rfl
  have zB := TB1.lt
  go_wp2_with fail
  refine (C2.out _).mono ?_
  rintro e w2 ⟨rfl, rfl⟩
  go_wp2_with fail
  refine (C3.out _).mono ?_
  rintro e w3 ⟨rfl, rfl⟩
  go_wp2_with fail
  refine (C4.out _).mono ?_
  rintro e w4 ⟨rfl, rfl⟩
  cases r1
  · go_wp2_with fail
    go_ret
    refine ⟨?_, (by (repeat' (first | (with_reducible exact Grew.refl _) | (with_reducible assumption) | (with_reducible refine Grew.alloc ?_ _ _) | (with_reducible refine Grew.drew ?_) | (with_reducible refine Grew.drewN ?_ _) | (with_reducible refine Grew.setCell ?_ ?_ _) | go_size)))⟩
    have : r = false := by
      rw [Bool.eq_false_iff]
      intro e
      have h := HT.out.1 e
      have h2 := h.2.2.2.1
      exact of_decide_eq_false H1.out h2
    rw [this]
    rfl
  · cases r2
    · go_wp2_with fail
      go_ret
      refine ⟨?_, (by (repeat' (first | (with_reducible exact Grew.refl _) | (with_reducible assumption) | (with_reducible refine Grew.alloc ?_ _ _) | (with_reducible refine Grew.drew ?_) | (with_reducible refine Grew.drewN ?_ _) | (with_reducible refine Grew.setCell ?_ ?_ _) | go_size)))⟩
      have : r = false := by
        rw [Bool.eq_false_iff]
        intro e
        have h := HT.out.1 e
        have h2 := h.1
        exact of_decide_eq_false H2.out h2
      rw [this]
      rfl
    · cases r3
      · go_wp2_with fail
        go_ret
        refine ⟨?_, (by (repeat' (first | (with_reducible exact Grew.refl _) | (with_reducible assumption) | (with_reducible refine Grew.alloc ?_ _ _) | (with_reducible refine Grew.drew ?_) | (with_reducible refine Grew.drewN ?_ _) | (with_reducible refine Grew.setCell ?_ ?_ _) | go_size)))⟩
        have : r = false := by
          rw [Bool.eq_false_iff]
          intro e
          have h := HT.out.1 e
          have h2 := h.2.1
          exact of_decide_eq_false H3.out h2
        rw [this]
        rfl
      · cases r4
        · go_wp2_with fail
          go_ret
          refine ⟨?_, (by (repeat' (first | (with_reducible exact Grew.refl _) | (with_reducible assumption) | (with_reducible refine Grew.alloc ?_ _ _) | (with_reducible refine Grew.drew ?_) | (with_reducible refine Grew.drewN ?_ _) | (with_reducible refine Grew.setCell ?_ ?_ _) | go_size)))⟩
          have : r = false := by
            rw [Bool.eq_false_iff]
            intro e
            have h := HT.out.1 e
            have h2 := h.2.2.1
            exact of_decide_eq_false H4.out h2
          rw [this]
          rfl
        · by_cases h5 : x = 0
          · subst h5
            by_cases h6 : y = 0
            · subst h6
              by_cases h7 : s = 0
              · subst h7
                by_cases h8 : l.length ≤ 4000
                · have HW : Hid (Bok ⟨a, b, c, d, p, q⟩ ∧ (1 ≤ v ∧ v ≤ 1000000) ∧ (0 ≤ z ∧ z ≤ 1000000000) ∧ (0 ≤ n ∧ n ≤ 1000)) := Lib.hid ⟨of_decide_eq_true H1.out, of_decide_eq_true H2.out, of_decide_eq_true H3.out, of_decide_eq_true H4.out⟩
                  obtain ⟨_, _, _, n0, n1⟩ := HW.out
                  have HL : Hid (l.length ≤ 4000) := Lib.hid h8
                  have HB : Hid (∀ W, Grew w1 W → (W.cell? ⟨w.heap.size, 2, none⟩ = some (.int .i64 n) ∧ W.cell? ⟨w.heap.size, 12, none⟩ = some (.slice sa l.length sc)) ∧ w.heap.size < W.heap.size) := Lib.hid (fun W g => ⟨⟨tAt (TB1.grown g) rfl, tAt (TB1.grown g) rfl⟩, (TB1.grown g).lt⟩)
                  have HR := Lib.hid G1
                  have hl4 : (l.length : Int) ≤ 4000 := by omega
                  clear TB1 C1' C2 C3 C4 h8
                  go_wp2_with fail
                  go_loopw [7] (fun i wr => ∃ k : Nat, k ≤ l.length ∧ i = .int .i64 k ∧ Grew w1 wr ∧ Hid (∀ j, j < k → Fok n (ith l j) ∧ (0 < j → Bf (ith l (j - 1)) (ith l j)))) (fun i _ => l.length - (intOf i).toNat)
                  case atStart => exact ⟨0, Nat.zero_le _, rfl, Grew.refl _, Lib.hid (fun j hj => by omega)⟩
                  case round =>
                    clear e0 e1 e2 e3 e4 e5 e6 e7 e8 e9 e10 e11 e12 zB
                    obtain ⟨k, hk, rfl, G, D⟩ := hrel
                    obtain ⟨⟨e2, e12⟩, zB⟩ := HB.out wr G
                    have i0 : (0 : Int) ≤ (k : Int) := by omega
                    by_cases hlt : k < l.length
                    · obtain ⟨b0, o, rfl, hr⟩ := HS.out.row (by show 0 < l.length; omega)
                      obtain ⟨q0, q1, q2, q3, q4, q5, q6, q7, q8⟩ := (hr.grew (HR.out.trans G)).at hlt
                      have i1 : (k : Int) < (l.length : Int) := by omega
                      have hb : b0 < wr.heap.size := World.block_lt_of_cell? wr _ q0
                      have C1 := bounds_c (ith l k)
                      have C2 := Lib.hid (in_c (ith l k).x (-50) 50)
                      have C3 := Lib.hid (in_c (ith l k).y (-50) 50)
                      obtain ⟨f, hf⟩ : ∃ f, ith l k = f := ⟨_, rfl⟩
                      have HE := Lib.hid hf
                      rw [hf] at q0 q1 q2 q3 q4 q5 q6 q7 q8 C1 C2 C3
                      clear hf
                      unfold fv at C1
                      have CB := Lib.hid C1
                      clear C1
                      have HF : Hid (Fok n f ↔ (decide (Bok f.k) = true ∧ decide (-50 ≤ f.x ∧ f.x ≤ 50) = true ∧ decide (-50 ≤ f.y ∧ f.y ≤ 50) = true ∧ 0 ≤ f.s ∧ f.s ≤ n - 1)) := Lib.hid (by simp only [decide_eq_true_eq]; rfl)
                      generalize decide (Bok f.k) = t1 at CB HF
                      generalize decide (-50 ≤ f.x ∧ f.x ≤ 50) = t2 at C2 HF
                      generalize decide (-50 ≤ f.y ∧ f.y ≤ 50) = t3 at C3 HF
                      have RB := Lib.hid (Blk.new wr #[.int .i64 f.x, .int .i64 f.y, .int .i64 f.s, .int .i64 f.k.a, .int .i64 f.k.b, .int .i64 f.k.c, .int .i64 f.k.d, .int .i64 f.k.e, .int .i64 f.k.f] 25)
                      go_wp2_with fail
                      refine (CB.out _).mono ?_
                      rintro e w2 ⟨rfl, g2⟩
                      have G2 : Grew w1 w2 := Grew.trans (by (repeat' (first | (with_reducible exact Grew.refl _) | (with_reducible assumption) | (with_reducible refine Grew.alloc ?_ _ _) | (with_reducible refine Grew.drew ?_) | (with_reducible refine Grew.drewN ?_ _) | (with_reducible refine Grew.setCell ?_ ?_ _) | go_size))) g2
                      have RB2 := RB.out.grown g2
                      have hb2 : b0 < w2.heap.size := by have := g2.size; simp at this; omega
                      have zF := RB2.lt
                      clear g2 RB q0 q1 q2 q3 q4 q5 q6 q7 q8 e2 e12
                      have m0 := tAt RB2 (i := 0) rfl
                      have m1 := tAt RB2 (i := 1) rfl
                      have m2 := tAt RB2 (i := 2) rfl
                      have m3 := tAt RB2 (i := 3) rfl
                      have m4 := tAt RB2 (i := 4) rfl
                      have m5 := tAt RB2 (i := 5) rfl
                      have m6 := tAt RB2 (i := 6) rfl
                      have m7 := tAt RB2 (i := 7) rfl
                      have m8 := tAt RB2 (i := 8) rfl
                      obtain ⟨⟨e2, e12⟩, zB2⟩ := HB.out w2 G2
                      go_wp2_with fail
                      refine (C2.out _).mono ?_
                      rintro e w3 ⟨rfl, rfl⟩
                      go_wp2_with fail
                      refine (C3.out _).mono ?_
                      rintro e w4 ⟨rfl, rfl⟩
                      cases t1
                      · go_wp2_with fail
                        go_ret
                        refine ⟨?_, HR.out.trans (by (repeat' (first | (with_reducible exact Grew.refl _) | (with_reducible assumption) | (with_reducible refine Grew.alloc ?_ _ _) | (with_reducible refine Grew.drew ?_) | (with_reducible refine Grew.drewN ?_ _) | (with_reducible refine Grew.setCell ?_ ?_ _) | go_size)))⟩
                        have : r = false := by
                          rw [Bool.eq_false_iff]
                          intro e
                          have h := (HT.out.1 e).2.2.2.2.2.2.1 k hlt
                          rw [HE.out] at h
                          have h2 := HF.out.1 h
                          cases h2.1
                        rw [this]
                        rfl
                      · cases t2
                        · go_wp2_with fail
                          go_ret
                          refine ⟨?_, HR.out.trans (by (repeat' (first | (with_reducible exact Grew.refl _) | (with_reducible assumption) | (with_reducible refine Grew.alloc ?_ _ _) | (with_reducible refine Grew.drew ?_) | (with_reducible refine Grew.drewN ?_ _) | (with_reducible refine Grew.setCell ?_ ?_ _) | go_size)))⟩
                          have : r = false := by
                            rw [Bool.eq_false_iff]
                            intro e
                            have h := (HT.out.1 e).2.2.2.2.2.2.1 k hlt
                            rw [HE.out] at h
                            have h2 := HF.out.1 h
                            cases h2.2.1
                          rw [this]
                          rfl
                        · cases t3
                          · go_wp2_with fail
                            go_ret
                            refine ⟨?_, HR.out.trans (by (repeat' (first | (with_reducible exact Grew.refl _) | (with_reducible assumption) | (with_reducible refine Grew.alloc ?_ _ _) | (with_reducible refine Grew.drew ?_) | (with_reducible refine Grew.drewN ?_ _) | (with_reducible refine Grew.setCell ?_ ?_ _) | go_size)))⟩
                            have : r = false := by
                              rw [Bool.eq_false_iff]
                              intro e
                              have h := (HT.out.1 e).2.2.2.2.2.2.1 k hlt
                              rw [HE.out] at h
                              have h2 := HF.out.1 h
                              cases h2.2.2.1
                            rw [this]
                            rfl
                          · by_cases s0 : 0 ≤ f.s
                            · by_cases s1 : n ≤ f.s
                              · go_wp2_with fail
                                go_ret
                                refine ⟨?_, HR.out.trans (by (repeat' (first | (with_reducible exact Grew.refl _) | (with_reducible assumption) | (with_reducible refine Grew.alloc ?_ _ _) | (with_reducible refine Grew.drew ?_) | (with_reducible refine Grew.drewN ?_ _) | (with_reducible refine Grew.setCell ?_ ?_ _) | go_size)))⟩
                                have : r = false := by
                                  rw [Bool.eq_false_iff]
                                  intro e
                                  have h := (HT.out.1 e).2.2.2.2.2.2.1 k hlt
                                  rw [HE.out] at h
                                  have h2 := HF.out.1 h
                                  exact absurd h2.2.2.2.2 (by omega)
                                rw [this]
                                rfl
                              · have HFT : Hid (Fok n f) := Lib.hid (HF.out.2 ⟨rfl, rfl, rfl, s0, by omega⟩)
                                cases k with
                                | zero =>
                                  go_wp2_with fail
                                  go_quiet (fail)
                                  go_wp2_with fail
                                  go_roundw
                                  case rel => exact ⟨1, by omega, by go_num, (by (repeat' (first | (with_reducible exact Grew.refl _) | (with_reducible assumption) | (with_reducible refine Grew.alloc ?_ _ _) | (with_reducible refine Grew.drew ?_) | (with_reducible refine Grew.drewN ?_ _) | (with_reducible refine Grew.setCell ?_ ?_ _) | go_size))), Lib.hid (fun j hj => by
                                    obtain rfl : j = 0 := by omega
                                    exact ⟨by rw [HE.out]; exact HFT.out, fun h => absurd h (Nat.lt_irrefl 0)⟩)⟩
                                  case measure => simp [intOf]; omega
                                | succ m =>
                                  obtain ⟨p0, p1, p2, p3, p4, p5, p6, p7, p8⟩ := (hr.grew (HR.out.trans G2)).at (i := m) (by omega)
                                  obtain ⟨g, hg⟩ : ∃ g, ith l m = g := ⟨_, rfl⟩
                                  rw [hg] at p0 p1 p2 p3 p4 p5 p6 p7 p8
                                  have HG := Lib.hid hg
                                  clear hg
                                  obtain ⟨r5, h5⟩ : ∃ r5, decide (Bf g f) = r5 := ⟨_, rfl⟩
                                  have H5 := Lib.hid h5
                                  clear h5
                                  have KS : Hid (∀ W W', (W.cell? ⟨w.heap.size, 12, none⟩ = some (.slice (some ⟨b0, o, none⟩) l.length sc) ∧ W.cell? ⟨wr.heap.size, 0, none⟩ = some (.int .i64 f.x) ∧ W.cell? ⟨wr.heap.size, 1, none⟩ = some (.int .i64 f.y) ∧ W.cell? ⟨wr.heap.size, 2, none⟩ = some (.int .i64 f.s) ∧ W.cell? ⟨wr.heap.size, 3, none⟩ = some (.int .i64 f.k.a) ∧ W.cell? ⟨wr.heap.size, 4, none⟩ = some (.int .i64 f.k.b) ∧ W.cell? ⟨wr.heap.size, 5, none⟩ = some (.int .i64 f.k.c) ∧ W.cell? ⟨wr.heap.size, 6, none⟩ = some (.int .i64 f.k.d) ∧ W.cell? ⟨wr.heap.size, 7, none⟩ = some (.int .i64 f.k.e) ∧ W.cell? ⟨wr.heap.size, 8, none⟩ = some (.int .i64 f.k.f) ∧ W.cell? ⟨b0, o + m * 9, none⟩ = some (.int .i64 g.x) ∧ W.cell? ⟨b0, o + m * 9 + 1, none⟩ = some (.int .i64 g.y) ∧ W.cell? ⟨b0, o + m * 9 + 2, none⟩ = some (.int .i64 g.s) ∧ W.cell? ⟨b0, o + m * 9 + 3, none⟩ = some (.int .i64 g.k.a) ∧ W.cell? ⟨b0, o + m * 9 + 4, none⟩ = some (.int .i64 g.k.b) ∧ W.cell? ⟨b0, o + m * 9 + 5, none⟩ = some (.int .i64 g.k.c) ∧ W.cell? ⟨b0, o + m * 9 + 6, none⟩ = some (.int .i64 g.k.d) ∧ W.cell? ⟨b0, o + m * 9 + 7, none⟩ = some (.int .i64 g.k.e) ∧ W.cell? ⟨b0, o + m * 9 + 8, none⟩ = some (.int .i64 g.k.f) ∧ Grew w2 W) → Grew W W' → (W'.cell? ⟨w.heap.size, 12, none⟩ = some (.slice (some ⟨b0, o, none⟩) l.length sc) ∧ W'.cell? ⟨wr.heap.size, 0, none⟩ = some (.int .i64 f.x) ∧ W'.cell? ⟨wr.heap.size, 1, none⟩ = some (.int .i64 f.y) ∧ W'.cell? ⟨wr.heap.size, 2, none⟩ = some (.int .i64 f.s) ∧ W'.cell? ⟨wr.heap.size, 3, none⟩ = some (.int .i64 f.k.a) ∧ W'.cell? ⟨wr.heap.size, 4, none⟩ = some (.int .i64 f.k.b) ∧ W'.cell? ⟨wr.heap.size, 5, none⟩ = some (.int .i64 f.k.c) ∧ W'.cell? ⟨wr.heap.size, 6, none⟩ = some (.int .i64 f.k.d) ∧ W'.cell? ⟨wr.heap.size, 7, none⟩ = some (.int .i64 f.k.e) ∧ W'.cell? ⟨wr.heap.size, 8, none⟩ = some (.int .i64 f.k.f) ∧ W'.cell? ⟨b0, o + m * 9, none⟩ = some (.int .i64 g.x) ∧ W'.cell? ⟨b0, o + m * 9 + 1, none⟩ = some (.int .i64 g.y) ∧ W'.cell? ⟨b0, o + m * 9 + 2, none⟩ = some (.int .i64 g.s) ∧ W'.cell? ⟨b0, o + m * 9 + 3, none⟩ = some (.int .i64 g.k.a) ∧ W'.cell? ⟨b0, o + m * 9 + 4, none⟩ = some (.int .i64 g.k.b) ∧ W'.cell? ⟨b0, o + m * 9 + 5, none⟩ = some (.int .i64 g.k.c) ∧ W'.cell? ⟨b0, o + m * 9 + 6, none⟩ = some (.int .i64 g.k.d) ∧ W'.cell? ⟨b0, o + m * 9 + 7, none⟩ = some (.int .i64 g.k.e) ∧ W'.cell? ⟨b0, o + m * 9 + 8, none⟩ = some (.int .i64 g.k.f) ∧ Grew w2 W')) := Lib.hid (by
                                    rintro W W' ⟨u0_, u1_, u2_, u3_, u4_, u5_, u6_, u7_, u8_, u9_, u10_, u11_, u12_, u13_, u14_, u15_, u16_, u17_, u18_, g0⟩ gg
                                    have x1 : w.heap.size < W.heap.size := Nat.lt_of_lt_of_le zB2 g0.size
                                    have x2 : wr.heap.size < W.heap.size := Nat.lt_of_lt_of_le zF g0.size
                                    have x3 : b0 < W.heap.size := Nat.lt_of_lt_of_le hb2 g0.size
                                    exact ⟨(gg.cell x1).trans u0_, (gg.cell x2).trans u1_, (gg.cell x2).trans u2_, (gg.cell x2).trans u3_, (gg.cell x2).trans u4_, (gg.cell x2).trans u5_, (gg.cell x2).trans u6_, (gg.cell x2).trans u7_, (gg.cell x2).trans u8_, (gg.cell x2).trans u9_, (gg.cell x3).trans u10_, (gg.cell x3).trans u11_, (gg.cell x3).trans u12_, (gg.cell x3).trans u13_, (gg.cell x3).trans u14_, (gg.cell x3).trans u15_, (gg.cell x3).trans u16_, (gg.cell x3).trans u17_, (gg.cell x3).trans u18_, g0.trans gg⟩)
                                  have KD : Hid (∀ W, (W.cell? ⟨w.heap.size, 12, none⟩ = some (.slice (some ⟨b0, o, none⟩) l.length sc) ∧ W.cell? ⟨wr.heap.size, 0, none⟩ = some (.int .i64 f.x) ∧ W.cell? ⟨wr.heap.size, 1, none⟩ = some (.int .i64 f.y) ∧ W.cell? ⟨wr.heap.size, 2, none⟩ = some (.int .i64 f.s) ∧ W.cell? ⟨wr.heap.size, 3, none⟩ = some (.int .i64 f.k.a) ∧ W.cell? ⟨wr.heap.size, 4, none⟩ = some (.int .i64 f.k.b) ∧ W.cell? ⟨wr.heap.size, 5, none⟩ = some (.int .i64 f.k.c) ∧ W.cell? ⟨wr.heap.size, 6, none⟩ = some (.int .i64 f.k.d) ∧ W.cell? ⟨wr.heap.size, 7, none⟩ = some (.int .i64 f.k.e) ∧ W.cell? ⟨wr.heap.size, 8, none⟩ = some (.int .i64 f.k.f) ∧ W.cell? ⟨b0, o + m * 9, none⟩ = some (.int .i64 g.x) ∧ W.cell? ⟨b0, o + m * 9 + 1, none⟩ = some (.int .i64 g.y) ∧ W.cell? ⟨b0, o + m * 9 + 2, none⟩ = some (.int .i64 g.s) ∧ W.cell? ⟨b0, o + m * 9 + 3, none⟩ = some (.int .i64 g.k.a) ∧ W.cell? ⟨b0, o + m * 9 + 4, none⟩ = some (.int .i64 g.k.b) ∧ W.cell? ⟨b0, o + m * 9 + 5, none⟩ = some (.int .i64 g.k.c) ∧ W.cell? ⟨b0, o + m * 9 + 6, none⟩ = some (.int .i64 g.k.d) ∧ W.cell? ⟨b0, o + m * 9 + 7, none⟩ = some (.int .i64 g.k.e) ∧ W.cell? ⟨b0, o + m * 9 + 8, none⟩ = some (.int .i64 g.k.f) ∧ Grew w2 W) → (W.drew.cell? ⟨w.heap.size, 12, none⟩ = some (.slice (some ⟨b0, o, none⟩) l.length sc) ∧ W.drew.cell? ⟨wr.heap.size, 0, none⟩ = some (.int .i64 f.x) ∧ W.drew.cell? ⟨wr.heap.size, 1, none⟩ = some (.int .i64 f.y) ∧ W.drew.cell? ⟨wr.heap.size, 2, none⟩ = some (.int .i64 f.s) ∧ W.drew.cell? ⟨wr.heap.size, 3, none⟩ = some (.int .i64 f.k.a) ∧ W.drew.cell? ⟨wr.heap.size, 4, none⟩ = some (.int .i64 f.k.b) ∧ W.drew.cell? ⟨wr.heap.size, 5, none⟩ = some (.int .i64 f.k.c) ∧ W.drew.cell? ⟨wr.heap.size, 6, none⟩ = some (.int .i64 f.k.d) ∧ W.drew.cell? ⟨wr.heap.size, 7, none⟩ = some (.int .i64 f.k.e) ∧ W.drew.cell? ⟨wr.heap.size, 8, none⟩ = some (.int .i64 f.k.f) ∧ W.drew.cell? ⟨b0, o + m * 9, none⟩ = some (.int .i64 g.x) ∧ W.drew.cell? ⟨b0, o + m * 9 + 1, none⟩ = some (.int .i64 g.y) ∧ W.drew.cell? ⟨b0, o + m * 9 + 2, none⟩ = some (.int .i64 g.s) ∧ W.drew.cell? ⟨b0, o + m * 9 + 3, none⟩ = some (.int .i64 g.k.a) ∧ W.drew.cell? ⟨b0, o + m * 9 + 4, none⟩ = some (.int .i64 g.k.b) ∧ W.drew.cell? ⟨b0, o + m * 9 + 5, none⟩ = some (.int .i64 g.k.c) ∧ W.drew.cell? ⟨b0, o + m * 9 + 6, none⟩ = some (.int .i64 g.k.d) ∧ W.drew.cell? ⟨b0, o + m * 9 + 7, none⟩ = some (.int .i64 g.k.e) ∧ W.drew.cell? ⟨b0, o + m * 9 + 8, none⟩ = some (.int .i64 g.k.f) ∧ Grew w2 W.drew)) := Lib.hid (fun W h => KS.out W _ h (Grew.refl W).drew)
                                  have Q3 : Hid (∀ W, (W.cell? ⟨w.heap.size, 12, none⟩ = some (.slice (some ⟨b0, o, none⟩) l.length sc) ∧ W.cell? ⟨wr.heap.size, 0, none⟩ = some (.int .i64 f.x) ∧ W.cell? ⟨wr.heap.size, 1, none⟩ = some (.int .i64 f.y) ∧ W.cell? ⟨wr.heap.size, 2, none⟩ = some (.int .i64 f.s) ∧ W.cell? ⟨wr.heap.size, 3, none⟩ = some (.int .i64 f.k.a) ∧ W.cell? ⟨wr.heap.size, 4, none⟩ = some (.int .i64 f.k.b) ∧ W.cell? ⟨wr.heap.size, 5, none⟩ = some (.int .i64 f.k.c) ∧ W.cell? ⟨wr.heap.size, 6, none⟩ = some (.int .i64 f.k.d) ∧ W.cell? ⟨wr.heap.size, 7, none⟩ = some (.int .i64 f.k.e) ∧ W.cell? ⟨wr.heap.size, 8, none⟩ = some (.int .i64 f.k.f) ∧ W.cell? ⟨b0, o + m * 9, none⟩ = some (.int .i64 g.x) ∧ W.cell? ⟨b0, o + m * 9 + 1, none⟩ = some (.int .i64 g.y) ∧ W.cell? ⟨b0, o + m * 9 + 2, none⟩ = some (.int .i64 g.s) ∧ W.cell? ⟨b0, o + m * 9 + 3, none⟩ = some (.int .i64 g.k.a) ∧ W.cell? ⟨b0, o + m * 9 + 4, none⟩ = some (.int .i64 g.k.b) ∧ W.cell? ⟨b0, o + m * 9 + 5, none⟩ = some (.int .i64 g.k.c) ∧ W.cell? ⟨b0, o + m * 9 + 6, none⟩ = some (.int .i64 g.k.d) ∧ W.cell? ⟨b0, o + m * 9 + 7, none⟩ = some (.int .i64 g.k.e) ∧ W.cell? ⟨b0, o + m * 9 + 8, none⟩ = some (.int .i64 g.k.f) ∧ Grew w2 W) → Calls Tryz.prog 27 #[.agg #[.int .i64 g.x, .int .i64 g.y, .int .i64 g.s, .int .i64 g.k.a, .int .i64 g.k.b, .int .i64 g.k.c, .int .i64 g.k.d, .int .i64 g.k.e, .int .i64 g.k.f], .agg #[.int .i64 f.x, .int .i64 f.y, .int .i64 f.s, .int .i64 f.k.a, .int .i64 f.k.b, .int .i64 f.k.c, .int .i64 f.k.d, .int .i64 f.k.e, .int .i64 f.k.f]] W fun e w' => e = .returned (.bool r5) ∧ (w'.cell? ⟨w.heap.size, 12, none⟩ = some (.slice (some ⟨b0, o, none⟩) l.length sc) ∧ w'.cell? ⟨wr.heap.size, 0, none⟩ = some (.int .i64 f.x) ∧ w'.cell? ⟨wr.heap.size, 1, none⟩ = some (.int .i64 f.y) ∧ w'.cell? ⟨wr.heap.size, 2, none⟩ = some (.int .i64 f.s) ∧ w'.cell? ⟨wr.heap.size, 3, none⟩ = some (.int .i64 f.k.a) ∧ w'.cell? ⟨wr.heap.size, 4, none⟩ = some (.int .i64 f.k.b) ∧ w'.cell? ⟨wr.heap.size, 5, none⟩ = some (.int .i64 f.k.c) ∧ w'.cell? ⟨wr.heap.size, 6, none⟩ = some (.int .i64 f.k.d) ∧ w'.cell? ⟨wr.heap.size, 7, none⟩ = some (.int .i64 f.k.e) ∧ w'.cell? ⟨wr.heap.size, 8, none⟩ = some (.int .i64 f.k.f) ∧ w'.cell? ⟨b0, o + m * 9, none⟩ = some (.int .i64 g.x) ∧ w'.cell? ⟨b0, o + m * 9 + 1, none⟩ = some (.int .i64 g.y) ∧ w'.cell? ⟨b0, o + m * 9 + 2, none⟩ = some (.int .i64 g.s) ∧ w'.cell? ⟨b0, o + m * 9 + 3, none⟩ = some (.int .i64 g.k.a) ∧ w'.cell? ⟨b0, o + m * 9 + 4, none⟩ = some (.int .i64 g.k.b) ∧ w'.cell? ⟨b0, o + m * 9 + 5, none⟩ = some (.int .i64 g.k.c) ∧ w'.cell? ⟨b0, o + m * 9 + 6, none⟩ = some (.int .i64 g.k.d) ∧ w'.cell? ⟨b0, o + m * 9 + 7, none⟩ = some (.int .i64 g.k.e) ∧ w'.cell? ⟨b0, o + m * 9 + 8, none⟩ = some (.int .i64 g.k.f) ∧ Grew w2 w')) := Lib.hid (fun W h => by
                                    refine (before_c g f W).mono ?_
                                    rintro e w' ⟨rfl, gg⟩
                                    exact ⟨by rw [← H5.out], KS.out _ _ h gg⟩)
                                  have S0 : w2.cell? ⟨w.heap.size, 12, none⟩ = some (.slice (some ⟨b0, o, none⟩) l.length sc) ∧ w2.cell? ⟨wr.heap.size, 0, none⟩ = some (.int .i64 f.x) ∧ w2.cell? ⟨wr.heap.size, 1, none⟩ = some (.int .i64 f.y) ∧ w2.cell? ⟨wr.heap.size, 2, none⟩ = some (.int .i64 f.s) ∧ w2.cell? ⟨wr.heap.size, 3, none⟩ = some (.int .i64 f.k.a) ∧ w2.cell? ⟨wr.heap.size, 4, none⟩ = some (.int .i64 f.k.b) ∧ w2.cell? ⟨wr.heap.size, 5, none⟩ = some (.int .i64 f.k.c) ∧ w2.cell? ⟨wr.heap.size, 6, none⟩ = some (.int .i64 f.k.d) ∧ w2.cell? ⟨wr.heap.size, 7, none⟩ = some (.int .i64 f.k.e) ∧ w2.cell? ⟨wr.heap.size, 8, none⟩ = some (.int .i64 f.k.f) ∧ w2.cell? ⟨b0, o + m * 9, none⟩ = some (.int .i64 g.x) ∧ w2.cell? ⟨b0, o + m * 9 + 1, none⟩ = some (.int .i64 g.y) ∧ w2.cell? ⟨b0, o + m * 9 + 2, none⟩ = some (.int .i64 g.s) ∧ w2.cell? ⟨b0, o + m * 9 + 3, none⟩ = some (.int .i64 g.k.a) ∧ w2.cell? ⟨b0, o + m * 9 + 4, none⟩ = some (.int .i64 g.k.b) ∧ w2.cell? ⟨b0, o + m * 9 + 5, none⟩ = some (.int .i64 g.k.c) ∧ w2.cell? ⟨b0, o + m * 9 + 6, none⟩ = some (.int .i64 g.k.d) ∧ w2.cell? ⟨b0, o + m * 9 + 7, none⟩ = some (.int .i64 g.k.e) ∧ w2.cell? ⟨b0, o + m * 9 + 8, none⟩ = some (.int .i64 g.k.f) ∧ Grew w2 w2 := ⟨e12, m0, m1, m2, m3, m4, m5, m6, m7, m8, p0, p1, p2, p3, p4, p5, p6, p7, p8, Grew.refl _⟩
                                  have j0 : (0 : Int) < ((m + 1 : Nat) : Int) := by omega
                                  have j2 : IntKind.i64.wrap (m : Int) = (m : Int) := by rw [IntKind.wrap_i64]; omega
                                  have j3 : IntKind.i64.wrap ((m : Int) + 1 - 1) = (m : Int) := by rw [IntKind.wrap_i64]; omega
                                  have j4 : IntKind.i64.wrap (((m + 1 : Nat) : Int) - 1) = (m : Int) := by rw [IntKind.wrap_i64]; omega
                                  have j5 : (0 : Int) ≤ (m : Int) := by omega
                                  have j6 : (m : Int) < (l.length : Int) := by omega
                                  clear KS RB2 CB C2 C3 HF
                                  go_wp2_with fail
                                  go_region_held3 (fun W => W.cell? ⟨w.heap.size, 12, none⟩ = some (.slice (some ⟨b0, o, none⟩) l.length sc) ∧ W.cell? ⟨wr.heap.size, 0, none⟩ = some (.int .i64 f.x) ∧ W.cell? ⟨wr.heap.size, 1, none⟩ = some (.int .i64 f.y) ∧ W.cell? ⟨wr.heap.size, 2, none⟩ = some (.int .i64 f.s) ∧ W.cell? ⟨wr.heap.size, 3, none⟩ = some (.int .i64 f.k.a) ∧ W.cell? ⟨wr.heap.size, 4, none⟩ = some (.int .i64 f.k.b) ∧ W.cell? ⟨wr.heap.size, 5, none⟩ = some (.int .i64 f.k.c) ∧ W.cell? ⟨wr.heap.size, 6, none⟩ = some (.int .i64 f.k.d) ∧ W.cell? ⟨wr.heap.size, 7, none⟩ = some (.int .i64 f.k.e) ∧ W.cell? ⟨wr.heap.size, 8, none⟩ = some (.int .i64 f.k.f) ∧ W.cell? ⟨b0, o + m * 9, none⟩ = some (.int .i64 g.x) ∧ W.cell? ⟨b0, o + m * 9 + 1, none⟩ = some (.int .i64 g.y) ∧ W.cell? ⟨b0, o + m * 9 + 2, none⟩ = some (.int .i64 g.s) ∧ W.cell? ⟨b0, o + m * 9 + 3, none⟩ = some (.int .i64 g.k.a) ∧ W.cell? ⟨b0, o + m * 9 + 4, none⟩ = some (.int .i64 g.k.b) ∧ W.cell? ⟨b0, o + m * 9 + 5, none⟩ = some (.int .i64 g.k.c) ∧ W.cell? ⟨b0, o + m * 9 + 6, none⟩ = some (.int .i64 g.k.d) ∧ W.cell? ⟨b0, o + m * 9 + 7, none⟩ = some (.int .i64 g.k.e) ∧ W.cell? ⟨b0, o + m * 9 + 8, none⟩ = some (.int .i64 g.k.f) ∧ Grew w2 W) (first | assumption | exact KD.out _ (by assumption)) (first
                                    | (go_at_call 27; refine (Q3.out _ (by assumption)).mono ?_; rintro e w5 ⟨rfl, S5⟩))
                                  have V5 : Grew w2 w5 := by obtain ⟨_, _, _, _, _, _, _, _, _, _, _, _, _, _, _, _, _, _, _, g0⟩ := S5; exact g0
                                  have G5 := Grew.trans G2 V5
                                  clear S5 V5
                                  cases r5
                                  · go_wp2_with fail
                                    go_ret
                                    refine ⟨?_, HR.out.trans (by (repeat' (first | (with_reducible exact Grew.refl _) | (with_reducible assumption) | (with_reducible refine Grew.alloc ?_ _ _) | (with_reducible refine Grew.drew ?_) | (with_reducible refine Grew.drewN ?_ _) | (with_reducible refine Grew.setCell ?_ ?_ _) | go_size)))⟩
                                    have : r = false := by
                                      rw [Bool.eq_false_iff]
                                      intro e
                                      have h := (HT.out.1 e).2.2.2.2.2.2.2 m hlt
                                      rw [HE.out, HG.out] at h
                                      exact of_decide_eq_false H5.out h
                                    rw [this]
                                    rfl
                                  · go_wp2_with fail
                                    go_roundw
                                    case rel => exact ⟨m + 1 + 1, by omega, by go_num, (by (repeat' (first | (with_reducible exact Grew.refl _) | (with_reducible assumption) | (with_reducible refine Grew.alloc ?_ _ _) | (with_reducible refine Grew.drew ?_) | (with_reducible refine Grew.drewN ?_ _) | (with_reducible refine Grew.setCell ?_ ?_ _) | go_size))), Lib.hid (fun j hj => by
                                      by_cases e : j = m + 1
                                      · subst e
                                        refine ⟨by rw [HE.out]; exact HFT.out, fun _ => ?_⟩
                                        rw [HE.out, show m + 1 - 1 = m by omega, HG.out]
                                        exact of_decide_eq_true H5.out
                                      · exact D.out j (by omega))⟩
                                    case measure => simp [intOf]; omega
                            · go_wp2_with fail
                              go_ret
                              refine ⟨?_, HR.out.trans (by (repeat' (first | (with_reducible exact Grew.refl _) | (with_reducible assumption) | (with_reducible refine Grew.alloc ?_ _ _) | (with_reducible refine Grew.drew ?_) | (with_reducible refine Grew.drewN ?_ _) | (with_reducible refine Grew.setCell ?_ ?_ _) | go_size)))⟩
                              have : r = false := by
                                rw [Bool.eq_false_iff]
                                intro e
                                have h := (HT.out.1 e).2.2.2.2.2.2.1 k hlt
                                rw [HE.out] at h
                                have h2 := HF.out.1 h
                                exact absurd h2.2.2.2.1 (by omega)
                              rw [this]
                              rfl
                    · have HT2 := Lib.hid (HT.out.2 ⟨HW.out.2.1, HW.out.2.2.1, HW.out.2.2.2, HW.out.1, ⟨rfl, rfl, rfl⟩, HL.out, (flok_iff n l).2 fun j hj => D.out j (by omega)⟩)
                      obtain rfl : k = l.length := by omega
                      go_wp2_with fail
                      go_ret
                      exact ⟨by rw [HT2.out]; rfl, HR.out.trans G⟩
                · have i8 : ¬ (l.length : Int) ≤ 4000 := by omega
                  go_wp2_with fail
                  go_ret
                  refine ⟨?_, (by (repeat' (first | (with_reducible exact Grew.refl _) | (with_reducible assumption) | (with_reducible refine Grew.alloc ?_ _ _) | (with_reducible refine Grew.drew ?_) | (with_reducible refine Grew.drewN ?_ _) | (with_reducible refine Grew.setCell ?_ ?_ _) | go_size)))⟩
                  have : r = false := by
                    rw [Bool.eq_false_iff]
                    intro e
                    have h := HT.out.1 e
                    exact absurd h.2.2.2.2.2.1 h8
                  rw [this]
                  rfl
              · have h7' : (s == 0) = false := by simp [h7]
                go_wp2_with fail
                go_ret
                refine ⟨?_, (by (repeat' (first | (with_reducible exact Grew.refl _) | (with_reducible assumption) | (with_reducible refine Grew.alloc ?_ _ _) | (with_reducible refine Grew.drew ?_) | (with_reducible refine Grew.drewN ?_ _) | (with_reducible refine Grew.setCell ?_ ?_ _) | go_size)))⟩
                have : r = false := by
                  rw [Bool.eq_false_iff]
                  intro e
                  have h := HT.out.1 e
                  exact absurd h.2.2.2.2.1.1 h7
                rw [this]
                rfl
            · have h6' : (y == 0) = false := by simp [h6]
              go_wp2_with fail
              go_ret
              refine ⟨?_, (by (repeat' (first | (with_reducible exact Grew.refl _) | (with_reducible assumption) | (with_reducible refine Grew.alloc ?_ _ _) | (with_reducible refine Grew.drew ?_) | (with_reducible refine Grew.drewN ?_ _) | (with_reducible refine Grew.setCell ?_ ?_ _) | go_size)))⟩
              have : r = false := by
                rw [Bool.eq_false_iff]
                intro e
                have h := HT.out.1 e
                exact absurd h.2.2.2.2.1.2.1 h6
              rw [this]
              rfl
          · have h5' : (x == 0) = false := by simp [h5]
            go_wp2_with fail
            go_ret
            refine ⟨?_, (by (repeat' (first | (with_reducible exact Grew.refl _) | (with_reducible assumption) | (with_reducible refine Grew.alloc ?_ _ _) | (with_reducible refine Grew.drew ?_) | (with_reducible refine Grew.drewN ?_ _) | (with_reducible refine Grew.setCell ?_ ?_ _) | go_size)))⟩
            have : r = false := by
              rw [Bool.eq_false_iff]
              intro e
              have h := HT.out.1 e
              exact absurd h.2.2.2.2.1.2.2 h5
            rw [this]
            rfl
end R
end Td
end Go.Proofs.YtpiajdahmcelnaaGreat
