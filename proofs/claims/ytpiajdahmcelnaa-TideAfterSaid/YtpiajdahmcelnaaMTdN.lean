/-
  The reference of layer 13: small functions; the helpers of the laws.
-/
import Derived.Laws.EntriesVeiled
import Derived.Test.YtpiajdahmcelnaaMTdM
import Derived.Test.YtpiajdahmcelnaaMTdD
import Derived.Test.YtpiajdahmcelnaaMExactPlain
namespace Go.Proofs.Ytpiajdahmcelnaa
open Go.RowKit Hl
namespace Td
namespace R
set_option maxRecDepth 100000
theorem within_c (a b c d : Int) (w : World) : Calls Try.prog 62 #[.agg #[.int .i64 a, .int .i64 b], .agg #[.int .i64 c, .int .i64 d]] w fun e w' => e = .returned (.bool (decide (c ≤ a ∧ b ≤ d))) ∧ Grew w w' := by
  by_cases h0 : c ≤ a
  · by_cases h1 : b ≤ d
    · rw [decide_eq_true (p := c ≤ a ∧ b ≤ d) (by omega)]
      go_enter Try.func62, Try.ntmps62
      go_wp2_with fail
      go_ret
      exact ⟨by first | rfl | (simp; omega), (by (repeat' (first | (with_reducible exact Grew.refl _) | (with_reducible assumption) | (with_reducible refine Grew.alloc ?_ _ _) | (with_reducible refine Grew.drew ?_) | (with_reducible refine Grew.drewN ?_ _) | (with_reducible refine Grew.setCell ?_ ?_ _) | go_size)))⟩
    · rw [decide_eq_false (p := c ≤ a ∧ b ≤ d) (by omega)]
      go_enter Try.func62, Try.ntmps62
      go_wp2_with fail
      go_ret
      exact ⟨by first | rfl | (simp; omega), (by (repeat' (first | (with_reducible exact Grew.refl _) | (with_reducible assumption) | (with_reducible refine Grew.alloc ?_ _ _) | (with_reducible refine Grew.drew ?_) | (with_reducible refine Grew.drewN ?_ _) | (with_reducible refine Grew.setCell ?_ ?_ _) | go_size)))⟩
  · by_cases h1 : b ≤ d
    · rw [decide_eq_false (p := c ≤ a ∧ b ≤ d) (by omega)]
      go_enter Try.func62, Try.ntmps62
      go_wp2_with fail
      go_ret
      exact ⟨by first | rfl | (simp; omega), (by (repeat' (first | (with_reducible exact Grew.refl _) | (with_reducible assumption) | (with_reducible refine Grew.alloc ?_ _ _) | (with_reducible refine Grew.drew ?_) | (with_reducible refine Grew.drewN ?_ _) | (with_reducible refine Grew.setCell ?_ ?_ _) | go_size)))⟩
    · rw [decide_eq_false (p := c ≤ a ∧ b ≤ d) (by omega)]
      go_enter Try.func62, Try.ntmps62
      go_wp2_with fail
      go_ret
      exact ⟨by first | rfl | (simp; omega), (by (repeat' (first | (with_reducible exact Grew.refl _) | (with_reducible assumption) | (with_reducible refine Grew.alloc ?_ _ _) | (with_reducible refine Grew.drew ?_) | (with_reducible refine Grew.drewN ?_ _) | (with_reducible refine Grew.setCell ?_ ?_ _) | go_size)))⟩
theorem spanIn_c (a b c d : Int) (w : World) : Calls Try.prog 39 #[.agg #[.int .i64 a, .int .i64 b], .agg #[.int .i64 c, .int .i64 d]] w fun e w' => e = .returned (.bool (decide (c ≤ a ∧ b ≤ d))) ∧ Grew w w' := by
  have C1 := Lib.hid (within_c a b c d)
  generalize decide (c ≤ a ∧ b ≤ d) = r at *
  go_enter Try.func39, Try.ntmps39
  go_wp2_with fail
  refine (C1.out _).mono ?_
  rintro e w1 ⟨rfl, g1⟩
  obtain ⟨c1, f1, z1⟩ := laid g1
  try simp at z1
  have G1 : Grew w w1 := Grew.trans (by (repeat' (first | (with_reducible exact Grew.refl _) | (with_reducible assumption) | (with_reducible refine Grew.alloc ?_ _ _) | (with_reducible refine Grew.drew ?_) | (with_reducible refine Grew.drewN ?_ _) | (with_reducible refine Grew.setCell ?_ ?_ _) | go_size))) g1
  clear g1
  have z1_0 : w.heap.size < w1.heap.size := by omega
  have z1_1 : w.heap.size + 1 < w1.heap.size := by omega
  go_wp2_with fail
  go_ret
  exact ⟨rfl, (by (repeat' (first | (with_reducible exact Grew.refl _) | (with_reducible assumption) | (with_reducible refine Grew.alloc ?_ _ _) | (with_reducible refine Grew.drew ?_) | (with_reducible refine Grew.drewN ?_ _) | (with_reducible refine Grew.setCell ?_ ?_ _) | go_size)))⟩
set_option maxHeartbeats 2000000 in
theorem flowIn_c (gx gy gs ga gb gc gd ge gf hx hy hs ha hb hc hd he hf : Int) (w : World) : Calls Try.prog 14 #[.agg #[.int .i64 gx, .int .i64 gy, .int .i64 gs, .int .i64 ga, .int .i64 gb, .int .i64 gc, .int .i64 gd, .int .i64 ge, .int .i64 gf], .agg #[.int .i64 hx, .int .i64 hy, .int .i64 hs, .int .i64 ha, .int .i64 hb, .int .i64 hc, .int .i64 hd, .int .i64 he, .int .i64 hf]] w fun e w' => e = .returned (.bool (decide (ha ≤ ga ∧ gb ≤ hb) && (decide (hc ≤ gc ∧ gd ≤ hd) && decide (he ≤ ge ∧ gf ≤ hf)))) ∧ Grew w w' := by
  have C1 := Lib.hid (spanIn_c ga gb ha hb)
  have C2 := Lib.hid (spanIn_c gc gd hc hd)
  have C3 := Lib.hid (spanIn_c ge gf he hf)
  generalize decide (ha ≤ ga ∧ gb ≤ hb) = r1 at *
  generalize decide (hc ≤ gc ∧ gd ≤ hd) = r2 at *
  generalize decide (he ≤ ge ∧ gf ≤ hf) = r3 at *
  go_enter Try.func14, Try.ntmps14
  go_wp2_with fail
  refine (C1.out _).mono ?_
  rintro e w1 ⟨rfl, g1⟩
  obtain ⟨c1, f1, z1⟩ := laid g1
  try simp at z1
  have G1 : Grew w w1 := Grew.trans (by (repeat' (first | (with_reducible exact Grew.refl _) | (with_reducible assumption) | (with_reducible refine Grew.alloc ?_ _ _) | (with_reducible refine Grew.drew ?_) | (with_reducible refine Grew.drewN ?_ _) | (with_reducible refine Grew.setCell ?_ ?_ _) | go_size))) g1
  clear g1
  have z1_0 : w.heap.size < w1.heap.size := by omega
  have z1_1 : w.heap.size + 1 < w1.heap.size := by omega
  go_wp2_with fail
  refine (C2.out _).mono ?_
  rintro e w2 ⟨rfl, g2⟩
  obtain ⟨c2, f2, z2⟩ := laid g2
  try simp at z2
  have G2 : Grew w w2 := Grew.trans (by (repeat' (first | (with_reducible exact Grew.refl _) | (with_reducible assumption) | (with_reducible refine Grew.alloc ?_ _ _) | (with_reducible refine Grew.drew ?_) | (with_reducible refine Grew.drewN ?_ _) | (with_reducible refine Grew.setCell ?_ ?_ _) | go_size))) g2
  clear g2
  have z2_0 : w.heap.size < w2.heap.size := by omega
  have z2_1 : w.heap.size + 1 < w2.heap.size := by omega
  cases r1
  · cases r2
    · go_wp2_with fail
      go_ret
      exact ⟨by first | rfl | (simp; done) | (simp; omega), (by (repeat' (first | (with_reducible exact Grew.refl _) | (with_reducible assumption) | (with_reducible refine Grew.alloc ?_ _ _) | (with_reducible refine Grew.drew ?_) | (with_reducible refine Grew.drewN ?_ _) | (with_reducible refine Grew.setCell ?_ ?_ _) | go_size)))⟩
    · go_wp2_with fail
      go_ret
      exact ⟨by first | rfl | (simp; done) | (simp; omega), (by (repeat' (first | (with_reducible exact Grew.refl _) | (with_reducible assumption) | (with_reducible refine Grew.alloc ?_ _ _) | (with_reducible refine Grew.drew ?_) | (with_reducible refine Grew.drewN ?_ _) | (with_reducible refine Grew.setCell ?_ ?_ _) | go_size)))⟩
  · cases r2
    · go_wp2_with fail
      go_ret
      exact ⟨by first | rfl | (simp; done) | (simp; omega), (by (repeat' (first | (with_reducible exact Grew.refl _) | (with_reducible assumption) | (with_reducible refine Grew.alloc ?_ _ _) | (with_reducible refine Grew.drew ?_) | (with_reducible refine Grew.drewN ?_ _) | (with_reducible refine Grew.setCell ?_ ?_ _) | go_size)))⟩
    · go_wp2_with fail
      refine (C3.out _).mono ?_
      rintro e w3 ⟨rfl, g3⟩
      obtain ⟨c3, f3, z3⟩ := laid g3
      try simp at z3
      have G3 : Grew w w3 := Grew.trans (by (repeat' (first | (with_reducible exact Grew.refl _) | (with_reducible assumption) | (with_reducible refine Grew.alloc ?_ _ _) | (with_reducible refine Grew.drew ?_) | (with_reducible refine Grew.drewN ?_ _) | (with_reducible refine Grew.setCell ?_ ?_ _) | go_size))) g3
      clear g3
      have z3_0 : w.heap.size < w3.heap.size := by omega
      have z3_1 : w.heap.size + 1 < w3.heap.size := by omega
      cases r3
      · go_wp2_with fail
        go_ret
        exact ⟨by first | rfl | (simp; done) | (simp; omega), (by (repeat' (first | (with_reducible exact Grew.refl _) | (with_reducible assumption) | (with_reducible refine Grew.alloc ?_ _ _) | (with_reducible refine Grew.drew ?_) | (with_reducible refine Grew.drewN ?_ _) | (with_reducible refine Grew.setCell ?_ ?_ _) | go_size)))⟩
      · go_wp2_with fail
        go_ret
        exact ⟨by first | rfl | (simp; done) | (simp; omega), (by (repeat' (first | (with_reducible exact Grew.refl _) | (with_reducible assumption) | (with_reducible refine Grew.alloc ?_ _ _) | (with_reducible refine Grew.drew ?_) | (with_reducible refine Grew.drewN ?_ _) | (with_reducible refine Grew.setCell ?_ ?_ _) | go_size)))⟩
def Few (l : Nat) (n : Int) (lo hi : Pt) (c d : Int) : Prop := l ≤ 40 ∧ n ≤ 1000 ∧ (Rec lo hi ∧ Tms c d → (hi.1 - lo.1) / 10000 ≤ 10 ∧ (hi.2 - lo.2) / 10000 ≤ 10 ∧ (d - c) / 3600 ≤ 20)
instance (l : Nat) (n : Int) (lo hi : Pt) (c d : Int) : Decidable (Few l n lo hi c d) := by unfold Few; infer_instance
theorem Few.two {l : Nat} {n : Int} {lo hi : Pt} {c d : Int} (h : Few l n lo hi c d) (k : Rec lo hi ∧ Tms c d) : (hi.1 - lo.1) / 10000 ≤ 10 ∧ (hi.2 - lo.2) / 10000 ≤ 10 ∧ (d - c) / 3600 ≤ 20 := h.2.2 k
theorem tdiv_pos {a b : Int} (h : 0 ≤ a) (_hb : 0 < b) : a.tdiv b = a / b := by rw [Int.tdiv_eq_ediv_of_nonneg h]
set_option maxHeartbeats 4000000 in
theorem few_c (t : Ed) (u : Value) (lo hi : Pt) (c d : Int) (w : World) (hs : Rs w u t.l) (hl : t.l.length ≤ 9223372036854775807) :
    Calls Try.prog 27 #[tv t u, .agg #[.int .i64 lo.1, .int .i64 lo.2], .agg #[.int .i64 hi.1, .int .i64 hi.2], .int .i64 c, .int .i64 d] w fun e w' => e = .returned (.bool (decide (Few t.l.length t.n lo hi c d))) ∧ Grew w w' := by
  have C1 := rectangle_c lo hi
  have C2 := time_c c d
  obtain ⟨sa, sc, rfl, _⟩ := hs.shape
  clear hs
  unfold tv
  rcases t with ⟨v, z, n, ⟨x, y, s, ⟨a, b, c', d', p, q⟩⟩, l⟩
  rcases lo with ⟨lx, ly⟩
  rcases hi with ⟨hx, hy⟩
  simp only at *
  obtain ⟨r, hr⟩ : ∃ r, decide (Few l.length n (lx, ly) (hx, hy) c d) = r := ⟨_, rfl⟩
  rw [hr]
  have HR := Lib.hid hr
  clear hr
  have hl0 : (0 : Int) ≤ (l.length : Int) := by omega
  have hlL : (l.length : Int) ≤ 9223372036854775807 := by omega
  by_cases h1 : Rec (lx, ly) (hx, hy)
  · by_cases h2 : 0 ≤ c ∧ c ≤ d ∧ d ≤ 1000000000
    · rw [decide_eq_true h1] at C1
      have C2' : ∀ W, Calls Try.prog 30 #[.int .i64 c, .int .i64 d] W fun e w' => e = .returned (.bool true) ∧ W = w' := fun W => by have h := C2 W; rwa [decide_eq_true (p := 0 ≤ c ∧ c ≤ d ∧ d ≤ 1000000000) h2] at h
      have CT := Lib.hid C2'
      clear C2'
      have CC := Lib.hid C1
      clear C1 C2
      go_enter Try.func27, Try.ntmps27
      go_wp2_with fail
      refine (CC.out _).mono ?_
      rintro e w1 ⟨rfl, g1⟩
      obtain ⟨c1, f1, z1⟩ := laid g1
      try simp at z1
      have G1 : Grew w w1 := Grew.trans (by (repeat' (first | (with_reducible exact Grew.refl _) | (with_reducible assumption) | (with_reducible refine Grew.alloc ?_ _ _) | (with_reducible refine Grew.drew ?_) | (with_reducible refine Grew.drewN ?_ _) | (with_reducible refine Grew.setCell ?_ ?_ _) | go_size))) g1
      clear g1
      have z1_0 : w.heap.size < w1.heap.size := by omega
      have z1_1 : w.heap.size + 1 < w1.heap.size := by omega
      have z1_2 : w.heap.size + 1 + 1 < w1.heap.size := by omega
      by_cases h3 : l.length ≤ 40
      · have i3 : (l.length : Int) ≤ 40 := by omega
        by_cases h4 : n ≤ 1000
        · have HM := Lib.hid h2
          have HR2 := Lib.hid h1
          obtain ⟨m0, m1, m2⟩ : 0 ≤ c ∧ c ≤ d ∧ d ≤ 1000000000 := h2
          obtain ⟨⟨⟨a0, a1⟩, ⟨a2, a3⟩⟩, ⟨⟨b0, b1⟩, ⟨b2, b3⟩⟩, o1, o2⟩ := h1
          simp only at a0 a1 a2 a3 b0 b1 b2 b3 o1 o2
          have e1 := tdiv_pos (a := hx - lx) (b := 10000) (by omega) (by decide)
          have e2 := tdiv_pos (a := hy - ly) (b := 10000) (by omega) (by decide)
          have e3 := tdiv_pos (a := d - c) (b := 3600) (by omega) (by decide)
          by_cases k1 : (hx - lx) / 10000 ≤ 10
          · by_cases k2 : (hy - ly) / 10000 ≤ 10
            · by_cases k3 : (d - c) / 3600 ≤ 20
              · go_wp2_with fail
                refine (CT.out _).mono ?_
                rintro e w2 ⟨rfl, rfl⟩
                go_wp2_with fail
                go_ret
                refine ⟨?_, (by (repeat' (first | (with_reducible exact Grew.refl _) | (with_reducible assumption) | (with_reducible refine Grew.alloc ?_ _ _) | (with_reducible refine Grew.drew ?_) | (with_reducible refine Grew.drewN ?_ _) | (with_reducible refine Grew.setCell ?_ ?_ _) | go_size)))⟩
                have : r = true := by
                  rw [← HR.out]
                  exact decide_eq_true ⟨h3, h4, fun _ => ⟨k1, k2, k3⟩⟩
                rw [this]
                try first | rfl | (simp [*]; done) | (simp; omega)
              · go_wp2_with fail
                refine (CT.out _).mono ?_
                rintro e w2 ⟨rfl, rfl⟩
                go_wp2_with fail
                go_ret
                refine ⟨?_, (by (repeat' (first | (with_reducible exact Grew.refl _) | (with_reducible assumption) | (with_reducible refine Grew.alloc ?_ _ _) | (with_reducible refine Grew.drew ?_) | (with_reducible refine Grew.drewN ?_ _) | (with_reducible refine Grew.setCell ?_ ?_ _) | go_size)))⟩
                have : r = false := by
                  rw [← HR.out]
                  exact decide_eq_false fun h => absurd (h.two ⟨HR2.out, HM.out⟩).2.2 (by first | omega | (simp only; omega))
                rw [this]
                try first | rfl | (simp [*]; done) | (simp; omega)
            · go_wp2_with fail
              refine (CT.out _).mono ?_
              rintro e w2 ⟨rfl, rfl⟩
              go_wp2_with fail
              go_ret
              refine ⟨?_, (by (repeat' (first | (with_reducible exact Grew.refl _) | (with_reducible assumption) | (with_reducible refine Grew.alloc ?_ _ _) | (with_reducible refine Grew.drew ?_) | (with_reducible refine Grew.drewN ?_ _) | (with_reducible refine Grew.setCell ?_ ?_ _) | go_size)))⟩
              have : r = false := by
                rw [← HR.out]
                exact decide_eq_false fun h => absurd (h.two ⟨HR2.out, HM.out⟩).2.1 (by first | omega | (simp only; omega))
              rw [this]
              try first | rfl | (simp [*]; done) | (simp; omega)
          · go_wp2_with fail
            refine (CT.out _).mono ?_
            rintro e w2 ⟨rfl, rfl⟩
            go_wp2_with fail
            go_ret
            refine ⟨?_, (by (repeat' (first | (with_reducible exact Grew.refl _) | (with_reducible assumption) | (with_reducible refine Grew.alloc ?_ _ _) | (with_reducible refine Grew.drew ?_) | (with_reducible refine Grew.drewN ?_ _) | (with_reducible refine Grew.setCell ?_ ?_ _) | go_size)))⟩
            have : r = false := by
              rw [← HR.out]
              exact decide_eq_false fun h => absurd (h.two ⟨HR2.out, HM.out⟩).1 (by first | omega | (simp only; omega))
            rw [this]
            try first | rfl | (simp [*]; done) | (simp; omega)
        · go_wp2_with fail
          go_ret
          refine ⟨?_, (by (repeat' (first | (with_reducible exact Grew.refl _) | (with_reducible assumption) | (with_reducible refine Grew.alloc ?_ _ _) | (with_reducible refine Grew.drew ?_) | (with_reducible refine Grew.drewN ?_ _) | (with_reducible refine Grew.setCell ?_ ?_ _) | go_size)))⟩
          have : r = false := by
            rw [← HR.out]
            exact decide_eq_false fun h => absurd h.2.1 (by omega)
          rw [this]
          try first | rfl | (simp [*]; done) | (simp; omega)
      · have i3 : ¬ (l.length : Int) ≤ 40 := by omega
        go_wp2_with fail
        go_ret
        refine ⟨?_, (by (repeat' (first | (with_reducible exact Grew.refl _) | (with_reducible assumption) | (with_reducible refine Grew.alloc ?_ _ _) | (with_reducible refine Grew.drew ?_) | (with_reducible refine Grew.drewN ?_ _) | (with_reducible refine Grew.setCell ?_ ?_ _) | go_size)))⟩
        have : r = false := by
          rw [← HR.out]
          exact decide_eq_false fun h => absurd h.1 (by omega)
        rw [this]
        try first | rfl | (simp [*]; done) | (simp; omega)
    · rw [decide_eq_true h1] at C1
      have C2' : ∀ W, Calls Try.prog 30 #[.int .i64 c, .int .i64 d] W fun e w' => e = .returned (.bool false) ∧ W = w' := fun W => by have h := C2 W; rwa [decide_eq_false (p := 0 ≤ c ∧ c ≤ d ∧ d ≤ 1000000000) h2] at h
      have CT := Lib.hid C2'
      clear C2'
      have CC := Lib.hid C1
      clear C1 C2
      go_enter Try.func27, Try.ntmps27
      go_wp2_with fail
      refine (CC.out _).mono ?_
      rintro e w1 ⟨rfl, g1⟩
      obtain ⟨c1, f1, z1⟩ := laid g1
      try simp at z1
      have G1 : Grew w w1 := Grew.trans (by (repeat' (first | (with_reducible exact Grew.refl _) | (with_reducible assumption) | (with_reducible refine Grew.alloc ?_ _ _) | (with_reducible refine Grew.drew ?_) | (with_reducible refine Grew.drewN ?_ _) | (with_reducible refine Grew.setCell ?_ ?_ _) | go_size))) g1
      clear g1
      have z1_0 : w.heap.size < w1.heap.size := by omega
      have z1_1 : w.heap.size + 1 < w1.heap.size := by omega
      have z1_2 : w.heap.size + 1 + 1 < w1.heap.size := by omega
      by_cases h3 : l.length ≤ 40
      · have i3 : (l.length : Int) ≤ 40 := by omega
        by_cases h4 : n ≤ 1000
        · go_wp2_with fail
          refine (CT.out _).mono ?_
          rintro e w2 ⟨rfl, rfl⟩
          go_wp2_with fail
          go_ret
          refine ⟨?_, (by (repeat' (first | (with_reducible exact Grew.refl _) | (with_reducible assumption) | (with_reducible refine Grew.alloc ?_ _ _) | (with_reducible refine Grew.drew ?_) | (with_reducible refine Grew.drewN ?_ _) | (with_reducible refine Grew.setCell ?_ ?_ _) | go_size)))⟩
          have : r = true := by
            rw [← HR.out]
            exact decide_eq_true ⟨h3, h4, fun h => absurd h.2 h2⟩
          rw [this]
          try first | rfl | (simp [*]; done) | (simp; omega)
        · go_wp2_with fail
          go_ret
          refine ⟨?_, (by (repeat' (first | (with_reducible exact Grew.refl _) | (with_reducible assumption) | (with_reducible refine Grew.alloc ?_ _ _) | (with_reducible refine Grew.drew ?_) | (with_reducible refine Grew.drewN ?_ _) | (with_reducible refine Grew.setCell ?_ ?_ _) | go_size)))⟩
          have : r = false := by
            rw [← HR.out]
            exact decide_eq_false fun h => absurd h.2.1 (by omega)
          rw [this]
          try first | rfl | (simp [*]; done) | (simp; omega)
      · have i3 : ¬ (l.length : Int) ≤ 40 := by omega
        go_wp2_with fail
        go_ret
        refine ⟨?_, (by (repeat' (first | (with_reducible exact Grew.refl _) | (with_reducible assumption) | (with_reducible refine Grew.alloc ?_ _ _) | (with_reducible refine Grew.drew ?_) | (with_reducible refine Grew.drewN ?_ _) | (with_reducible refine Grew.setCell ?_ ?_ _) | go_size)))⟩
        have : r = false := by
          rw [← HR.out]
          exact decide_eq_false fun h => absurd h.1 (by omega)
        rw [this]
        try first | rfl | (simp [*]; done) | (simp; omega)
  · rw [decide_eq_false h1] at C1
    have CC := Lib.hid C1
    clear C1 C2
    go_enter Try.func27, Try.ntmps27
    go_wp2_with fail
    refine (CC.out _).mono ?_
    rintro e w1 ⟨rfl, g1⟩
    obtain ⟨c1, f1, z1⟩ := laid g1
    try simp at z1
    have G1 : Grew w w1 := Grew.trans (by (repeat' (first | (with_reducible exact Grew.refl _) | (with_reducible assumption) | (with_reducible refine Grew.alloc ?_ _ _) | (with_reducible refine Grew.drew ?_) | (with_reducible refine Grew.drewN ?_ _) | (with_reducible refine Grew.setCell ?_ ?_ _) | go_size))) g1
    clear g1
    have z1_0 : w.heap.size < w1.heap.size := by omega
    have z1_1 : w.heap.size + 1 < w1.heap.size := by omega
    have z1_2 : w.heap.size + 1 + 1 < w1.heap.size := by omega
    by_cases h3 : l.length ≤ 40
    · have i3 : (l.length : Int) ≤ 40 := by omega
      by_cases h4 : n ≤ 1000
      · go_wp2_with fail
        go_wp2_with fail
        go_ret
        refine ⟨?_, (by (repeat' (first | (with_reducible exact Grew.refl _) | (with_reducible assumption) | (with_reducible refine Grew.alloc ?_ _ _) | (with_reducible refine Grew.drew ?_) | (with_reducible refine Grew.drewN ?_ _) | (with_reducible refine Grew.setCell ?_ ?_ _) | go_size)))⟩
        have : r = true := by
          rw [← HR.out]
          exact decide_eq_true ⟨h3, h4, fun h => absurd h.1 h1⟩
        rw [this]
        try first | rfl | (simp [*]; done) | (simp; omega)
      · go_wp2_with fail
        go_ret
        refine ⟨?_, (by (repeat' (first | (with_reducible exact Grew.refl _) | (with_reducible assumption) | (with_reducible refine Grew.alloc ?_ _ _) | (with_reducible refine Grew.drew ?_) | (with_reducible refine Grew.drewN ?_ _) | (with_reducible refine Grew.setCell ?_ ?_ _) | go_size)))⟩
        have : r = false := by
          rw [← HR.out]
          exact decide_eq_false fun h => absurd h.2.1 (by omega)
        rw [this]
        try first | rfl | (simp [*]; done) | (simp; omega)
    · have i3 : ¬ (l.length : Int) ≤ 40 := by omega
      go_wp2_with fail
      go_ret
      refine ⟨?_, (by (repeat' (first | (with_reducible exact Grew.refl _) | (with_reducible assumption) | (with_reducible refine Grew.alloc ?_ _ _) | (with_reducible refine Grew.drew ?_) | (with_reducible refine Grew.drewN ?_ _) | (with_reducible refine Grew.setCell ?_ ?_ _) | go_size)))⟩
      have : r = false := by
        rw [← HR.out]
        exact decide_eq_false fun h => absurd h.1 (by omega)
      rw [this]
      try first | rfl | (simp [*]; done) | (simp; omega)
end R
end Td
end Go.Proofs.Ytpiajdahmcelnaa
