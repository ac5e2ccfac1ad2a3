/-
  The reference of layer 13: small functions; the helpers of the laws.
-/
import Derived.Test.YtpiajdahmcelnaaGreatMTdM
import Derived.Test.YtpiajdahmcelnaaGreatMTdD
import Derived.Test.YtpiajdahmcelnaaGreatMExactPlain
namespace Go.Proofs.YtpiajdahmcelnaaGreat
open Go.RowKit Hl
namespace Td
namespace R
set_option maxRecDepth 100000
theorem block_c (n : Int) (w : World) (h : -1000000000 ≤ n ∧ n ≤ 1000000000) : Calls Tryz.prog 42 #[.int .i64 n] w fun e w' => e = .returned (.int .i64 (bk n)) ∧ w = w' := by
  have C1 : Hid (∀ W, Calls Tryz.prog 57 #[.int .i64 n, .int .i64 10000] W fun e w' => e = .returned (.int .i64 (bk n)) ∧ W = w') := Lib.hid (fun W => by
    have := Ex.down_any n 10000 W (by decide) (by omega)
    rwa [bk_fl] at this)
  generalize bk n = b at *
  go_enter Tryz.func42, Tryz.ntmps42
  go_wp2_with fail
  refine (C1.out _).mono ?_
  rintro e w1 ⟨rfl, rfl⟩
  go_wp2_with fail
  go_ret
  exact ⟨rfl, rfl⟩
theorem slot_c (t : Ed) (u : Value) (m : Int) (w : World) (hz : 0 ≤ t.z ∧ t.z ≤ 1000000000) (h : -1000000000 ≤ m ∧ m ≤ 2000000000) : Calls Tryz.prog 43 #[tv t u, .int .i64 m] w fun e w' => e = .returned (.int .i64 (sl t.z m)) ∧ Grew w w' := by
  have C1 : Hid (∀ W, Calls Tryz.prog 57 #[.int .i64 (m - t.z), .int .i64 3600] W fun e w' => e = .returned (.int .i64 (sl t.z m)) ∧ W = w') := Lib.hid (fun W => by
    have := Ex.down_any (m - t.z) 3600 W (by decide) (by omega)
    rwa [sl_fl] at this)
  generalize sl t.z m = b at *
  unfold tv
  obtain ⟨z0, z1⟩ := hz
  rcases t with ⟨v, z, n, ⟨x, y, s, ⟨a, b', c, d, p, q⟩⟩, l⟩
  simp only at *
  go_enter Tryz.func43, Tryz.ntmps43
  go_wp2_with fail
  refine (C1.out _).mono ?_
  rintro e w1 ⟨rfl, rfl⟩
  go_wp2_with fail
  go_ret
  exact ⟨rfl, (by (repeat' (first | (with_reducible exact Grew.refl _) | (with_reducible assumption) | (with_reducible refine Grew.alloc ?_ _ _) | (with_reducible refine Grew.drew ?_) | (with_reducible refine Grew.drewN ?_ _) | (with_reducible refine Grew.setCell ?_ ?_ _) | go_size)))⟩
def Few (l : Nat) (n : Int) (lo hi : Pt) (c d : Int) : Prop := l ≤ 40 ∧ n ≤ 1000 ∧ (Rec lo hi ∧ Tms c d → (hi.1 - lo.1) / 10000 ≤ 10 ∧ (hi.2 - lo.2) / 10000 ≤ 10 ∧ (d - c) / 3600 ≤ 20)
instance (l : Nat) (n : Int) (lo hi : Pt) (c d : Int) : Decidable (Few l n lo hi c d) := by unfold Few; infer_instance
theorem Few.two {l : Nat} {n : Int} {lo hi : Pt} {c d : Int} (h : Few l n lo hi c d) (k : Rec lo hi ∧ Tms c d) : (hi.1 - lo.1) / 10000 ≤ 10 ∧ (hi.2 - lo.2) / 10000 ≤ 10 ∧ (d - c) / 3600 ≤ 20 := h.2.2 k
theorem tdiv_pos {a b : Int} (h : 0 ≤ a) (_hb : 0 < b) : a.tdiv b = a / b := by rw [Int.tdiv_eq_ediv_of_nonneg h]
set_option maxHeartbeats 4000000 in
theorem few_c (t : Ed) (u : Value) (lo hi : Pt) (c d : Int) (w : World) (hs : Rs w u t.l) (hl : t.l.length ≤ 9223372036854775807) :
    Calls Tryz.prog 5 #[tv t u, .agg #[.int .i64 lo.1, .int .i64 lo.2], .agg #[.int .i64 hi.1, .int .i64 hi.2], .int .i64 c, .int .i64 d] w fun e w' => e = .returned (.bool (decide (Few t.l.length t.n lo hi c d))) ∧ Grew w w' := by
  have C1 := rectangle_c lo hi
  have C2 := time_c c d
  obtain ⟨sa, sc, rfl, _⟩ := hs.shape
  clear hs
  unfold tv
  rcases t with ⟨v, z, n, ⟨x, y, s, ⟨a, b, c', d', p, q⟩⟩, l⟩
  rcases lo with ⟨lx, ly⟩
  rcases hi with ⟨hx, hy⟩
  simp only at *
  obtain ⟨r, hr⟩ : ∃ r, decide (Few l.length n (lx, ly) (hx, hy) c d) = r := ⟨_, rfl⟩
  rw [hr]
  have HR := Lib.hid hr
  clear hr
  have hl0 : (0 : Int) ≤ (l.length : Int) := by omega
  have hlL : (l.length : Int) ≤ 9223372036854775807 := by omega
  by_cases h1 : Rec (lx, ly) (hx, hy)
  · by_cases h2 : 0 ≤ c ∧ c ≤ d ∧ d ≤ 1000000000
    · rw [decide_eq_true h1] at C1
      have C2' : ∀ W, Calls Tryz.prog 18 #[.int .i64 c, .int .i64 d] W fun e w' => e = .returned (.bool true) ∧ W = w' := fun W => by have h := C2 W; rwa [decide_eq_true (p := 0 ≤ c ∧ c ≤ d ∧ d ≤ 1000000000) h2] at h
      have CT := Lib.hid C2'
      clear C2'
      have CC := Lib.hid C1
      clear C1 C2
      go_enter Tryz.func5, Tryz.ntmps5
      go_wp2_with fail
      refine (CC.out _).mono ?_
      rintro e w1 ⟨rfl, g1⟩
      obtain ⟨c1, f1, z1⟩ := laid g1
      try simp at z1
      have G1 : Grew w w1 := Grew.trans (by (repeat' (first | (with_reducible exact Grew.refl _) | (with_reducible assumption) | (with_reducible refine Grew.alloc ?_ _ _) | (with_reducible refine Grew.drew ?_) | (with_reducible refine Grew.drewN ?_ _) | (with_reducible refine Grew.setCell ?_ ?_ _) | go_size))) g1
      clear g1
      have z1_0 : w.heap.size < w1.heap.size := by omega
      have z1_1 : w.heap.size + 1 < w1.heap.size := by omega
      have z1_2 : w.heap.size + 1 + 1 < w1.heap.size := by omega
      by_cases h3 : l.length ≤ 40
      · have i3 : (l.length : Int) ≤ 40 := by omega
        by_cases h4 : n ≤ 1000
        · have HM := Lib.hid h2
          have HR2 := Lib.hid h1
          obtain ⟨m0, m1, m2⟩ : 0 ≤ c ∧ c ≤ d ∧ d ≤ 1000000000 := h2
          obtain ⟨⟨⟨a0, a1⟩, ⟨a2, a3⟩⟩, ⟨⟨b0, b1⟩, ⟨b2, b3⟩⟩, o1, o2⟩ := h1
          simp only at a0 a1 a2 a3 b0 b1 b2 b3 o1 o2
          have e1 := tdiv_pos (a := hx - lx) (b := 10000) (by omega) (by decide)
          have e2 := tdiv_pos (a := hy - ly) (b := 10000) (by omega) (by decide)
          have e3 := tdiv_pos (a := d - c) (b := 3600) (by omega) (by decide)
          by_cases k1 : (hx - lx) / 10000 ≤ 10
          · by_cases k2 : (hy - ly) / 10000 ≤ 10
            · by_cases k3 : (d - c) / 3600 ≤ 20
              · go_wp2_with fail
                refine (CT.out _).mono ?_
                rintro e w2 ⟨rfl, rfl⟩
                go_wp2_with fail
                go_ret
                refine ⟨?_, (by (repeat' (first | (with_reducible exact Grew.refl _) | (with_reducible assumption) | (with_reducible refine Grew.alloc ?_ _ _) | (with_reducible refine Grew.drew ?_) | (with_reducible refine Grew.drewN ?_ _) | (with_reducible refine Grew.setCell ?_ ?_ _) | go_size)))⟩
                have : r = true := by
                  rw [← HR.out]
                  exact decide_eq_true ⟨h3, h4, fun _ => ⟨k1, k2, k3⟩⟩
                rw [this]
                try first | rfl | (simp [*]; done) | (simp; omega)
              · go_wp2_with fail
                refine (CT.out _).mono ?_
                rintro e w2 ⟨rfl, rfl⟩
                go_wp2_with fail
                go_ret
                refine ⟨?_, (by (repeat' (first | (with_reducible exact Grew.refl _) | (with_reducible assumption) | (with_reducible refine Grew.alloc ?_ _ _) | (with_reducible refine Grew.drew ?_) | (with_reducible refine Grew.drewN ?_ _) | (with_reducible refine Grew.setCell ?_ ?_ _) | go_size)))⟩
                have : r = false := by
                  rw [← HR.out]
                  exact decide_eq_false fun h => absurd (h.two ⟨HR2.out, HM.out⟩).2.2 (by first | omega | (simp only; omega))
                rw [this]
                try first | rfl | (simp [*]; done) | (simp; omega)
            · go_wp2_with fail
              refine (CT.out _).mono ?_
              rintro e w2 ⟨rfl, rfl⟩
              go_wp2_with fail
              go_ret
              refine ⟨?_, (by (repeat' (first | (with_reducible exact Grew.refl _) | (with_reducible assumption) | (with_reducible refine Grew.alloc ?_ _ _) | (with_reducible refine Grew.drew ?_) | (with_reducible refine Grew.drewN ?_ _) | (with_reducible refine Grew.setCell ?_ ?_ _) | go_size)))⟩
              have : r = false := by
                rw [← HR.out]
                exact decide_eq_false fun h => absurd (h.two ⟨HR2.out, HM.out⟩).2.1 (by first | omega | (simp only; omega))
              rw [this]
              try first | rfl | (simp [*]; done) | (simp; omega)
          · go_wp2_with fail
            refine (CT.out _).mono ?_
            rintro e w2 ⟨rfl, rfl⟩
            go_wp2_with fail
            go_ret
            refine ⟨?_, (by (repeat' (first | (with_reducible exact Grew.refl _) | (with_reducible assumption) | (with_reducible refine Grew.alloc ?_ _ _) | (with_reducible refine Grew.drew ?_) | (with_reducible refine Grew.drewN ?_ _) | (with_reducible refine Grew.setCell ?_ ?_ _) | go_size)))⟩
            have : r = false := by
              rw [← HR.out]
              exact decide_eq_false fun h => absurd (h.two ⟨HR2.out, HM.out⟩).1 (by first | omega | (simp only; omega))
            rw [this]
            try first | rfl | (simp [*]; done) | (simp; omega)
        · go_wp2_with fail
          go_ret
          refine ⟨?_, (by (repeat' (first | (with_reducible exact Grew.refl _) | (with_reducible assumption) | (with_reducible refine Grew.alloc ?_ _ _) | (with_reducible refine Grew.drew ?_) | (with_reducible refine Grew.drewN ?_ _) | (with_reducible refine Grew.setCell ?_ ?_ _) | go_size)))⟩
          have : r = false := by
            rw [← HR.out]
            exact decide_eq_false fun h => absurd h.2.1 (by omega)
          rw [this]
          try first | rfl | (simp [*]; done) | (simp; omega)
      · have i3 : ¬ (l.length : Int) ≤ 40 := by omega
        go_wp2_with fail
        go_ret
        refine ⟨?_, (by (repeat' (first | (with_reducible exact Grew.refl _) | (with_reducible assumption) | (with_reducible refine Grew.alloc ?_ _ _) | (with_reducible refine Grew.drew ?_) | (with_reducible refine Grew.drewN ?_ _) | (with_reducible refine Grew.setCell ?_ ?_ _) | go_size)))⟩
        have : r = false := by
          rw [← HR.out]
          exact decide_eq_false fun h => absurd h.1 (by omega)
        rw [this]
        try first | rfl | (simp [*]; done) | (simp; omega)
    · rw [decide_eq_true h1] at C1
      have C2' : ∀ W, Calls Tryz.prog 18 #[.int .i64 c, .int .i64 d] W fun e w' => e = .returned (.bool false) ∧ W = w' := fun W => by have h := C2 W; rwa [decide_eq_false (p := 0 ≤ c ∧ c ≤ d ∧ d ≤ 1000000000) h2] at h
      have CT := Lib.hid C2'
      clear C2'
      have CC := Lib.hid C1
      clear C1 C2
      go_enter Tryz.func5, Tryz.ntmps5
      go_wp2_with fail
      refine (CC.out _).mono ?_
      rintro e w1 ⟨rfl, g1⟩
      obtain ⟨c1, f1, z1⟩ := laid g1
      try simp at z1
      have G1 : Grew w w1 := Grew.trans (by (repeat' (first | (with_reducible exact Grew.refl _) | (with_reducible assumption) | (with_reducible refine Grew.alloc ?_ _ _) | (with_reducible refine Grew.drew ?_) | (with_reducible refine Grew.drewN ?_ _) | (with_reducible refine Grew.setCell ?_ ?_ _) | go_size))) g1
      clear g1
      have z1_0 : w.heap.size < w1.heap.size := by omega
      have z1_1 : w.heap.size + 1 < w1.heap.size := by omega
      have z1_2 : w.heap.size + 1 + 1 < w1.heap.size := by omega
      by_cases h3 : l.length ≤ 40
      · have i3 : (l.length : Int) ≤ 40 := by omega
        by_cases h4 : n ≤ 1000
        · go_wp2_with fail
          refine (CT.out _).mono ?_
          rintro e w2 ⟨rfl, rfl⟩
          go_wp2_with fail
          go_ret
          refine ⟨?_, (by (repeat' (first | (with_reducible exact Grew.refl _) | (with_reducible assumption) | (with_reducible refine Grew.alloc ?_ _ _) | (with_reducible refine Grew.drew ?_) | (with_reducible refine Grew.drewN ?_ _) | (with_reducible refine Grew.setCell ?_ ?_ _) | go_size)))⟩
          have : r = true := by
            rw [← HR.out]
            exact decide_eq_true ⟨h3, h4, fun h => absurd h.2 h2⟩
          rw [this]
          try first | rfl | (simp [*]; done) | (simp; omega)
        · go_wp2_with fail
          go_ret
          refine ⟨?_, (by (repeat' (first | (with_reducible exact Grew.refl _) | (with_reducible assumption) | (with_reducible refine Grew.alloc ?_ _ _) | (with_reducible refine Grew.drew ?_) | (with_reducible refine Grew.drewN ?_ _) | (with_reducible refine Grew.setCell ?_ ?_ _) | go_size)))⟩
          have : r = false := by
            rw [← HR.out]
            exact decide_eq_false fun h => absurd h.2.1 (by omega)
          rw [this]
          try first | rfl | (simp [*]; done) | (simp; omega)
      · have i3 : ¬ (l.length : Int) ≤ 40 := by omega
        go_wp2_with fail
        go_ret
        refine ⟨?_, (by (repeat' (first | (with_reducible exact Grew.refl _) | (with_reducible assumption) | (with_reducible refine Grew.alloc ?_ _ _) | (with_reducible refine Grew.drew ?_) | (with_reducible refine Grew.drewN ?_ _) | (with_reducible refine Grew.setCell ?_ ?_ _) | go_size)))⟩
        have : r = false := by
          rw [← HR.out]
          exact decide_eq_false fun h => absurd h.1 (by omega)
        rw [this]
        try first | rfl | (simp [*]; done) | (simp; omega)
  · rw [decide_eq_false h1] at C1
    have CC := Lib.hid C1
    clear C1 C2
    go_enter Tryz.func5, Tryz.ntmps5
    go_wp2_with fail
    refine (CC.out _).mono ?_
    rintro e w1 ⟨rfl, g1⟩
    obtain ⟨c1, f1, z1⟩ := laid g1
    try simp at z1
    have G1 : Grew w w1 := Grew.trans (by (repeat' (first | (with_reducible exact Grew.refl _) | (with_reducible assumption) | (with_reducible refine Grew.alloc ?_ _ _) | (with_reducible refine Grew.drew ?_) | (with_reducible refine Grew.drewN ?_ _) | (with_reducible refine Grew.setCell ?_ ?_ _) | go_size))) g1
    clear g1
    have z1_0 : w.heap.size < w1.heap.size := by omega
    have z1_1 : w.heap.size + 1 < w1.heap.size := by omega
    have z1_2 : w.heap.size + 1 + 1 < w1.heap.size := by omega
    by_cases h3 : l.length ≤ 40
    · have i3 : (l.length : Int) ≤ 40 := by omega
      by_cases h4 : n ≤ 1000
      · go_wp2_with fail
        go_wp2_with fail
        go_ret
        refine ⟨?_, (by (repeat' (first | (with_reducible exact Grew.refl _) | (with_reducible assumption) | (with_reducible refine Grew.alloc ?_ _ _) | (with_reducible refine Grew.drew ?_) | (with_reducible refine Grew.drewN ?_ _) | (with_reducible refine Grew.setCell ?_ ?_ _) | go_size)))⟩
        have : r = true := by
          rw [← HR.out]
          exact decide_eq_true ⟨h3, h4, fun h => absurd h.1 h1⟩
        rw [this]
        try first | rfl | (simp [*]; done) | (simp; omega)
      · go_wp2_with fail
        go_ret
        refine ⟨?_, (by (repeat' (first | (with_reducible exact Grew.refl _) | (with_reducible assumption) | (with_reducible refine Grew.alloc ?_ _ _) | (with_reducible refine Grew.drew ?_) | (with_reducible refine Grew.drewN ?_ _) | (with_reducible refine Grew.setCell ?_ ?_ _) | go_size)))⟩
        have : r = false := by
          rw [← HR.out]
          exact decide_eq_false fun h => absurd h.2.1 (by omega)
        rw [this]
        try first | rfl | (simp [*]; done) | (simp; omega)
    · have i3 : ¬ (l.length : Int) ≤ 40 := by omega
      go_wp2_with fail
      go_ret
      refine ⟨?_, (by (repeat' (first | (with_reducible exact Grew.refl _) | (with_reducible assumption) | (with_reducible refine Grew.alloc ?_ _ _) | (with_reducible refine Grew.drew ?_) | (with_reducible refine Grew.drewN ?_ _) | (with_reducible refine Grew.setCell ?_ ?_ _) | go_size)))⟩
      have : r = false := by
        rw [← HR.out]
        exact decide_eq_false fun h => absurd h.1 (by omega)
      rw [this]
      try first | rfl | (simp [*]; done) | (simp; omega)
end R
end Td
end Go.Proofs.YtpiajdahmcelnaaGreat
