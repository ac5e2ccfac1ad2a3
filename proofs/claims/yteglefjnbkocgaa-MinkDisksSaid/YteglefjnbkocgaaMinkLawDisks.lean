/-
  The law MinkDisks, under what packages hull and mink owe.
-/
import Derived.Test.YteglefjnbkocgaaMinkUse
namespace Go.Proofs.Yteglefjnbkocgaa
open Go.RowKit Hl
namespace Mk
theorem run_max4 (a b c d : Int) : ∃ M : Int, (∀ (ts : Array TypeId) (t : TypeId) (W : World), Sem.run Try.prog (Builtin.max_ ts t #[.int .i64 a, .int .i64 b, .int .i64 c, .int .i64 d]) W = .ok (.int .i64 M) W) ∧ ∀ n, n < M ↔ n < a ∨ n < b ∨ n < c ∨ n < d := by
  by_cases h1 : a < b
  · by_cases h2 : b < c
    · by_cases h3 : c < d
      · exact ⟨d, fun ts t W => by simp [Builtin.max_, Builtin.max2, h1, h2, h3], fun n => by omega⟩
      · exact ⟨c, fun ts t W => by simp [Builtin.max_, Builtin.max2, h1, h2, h3], fun n => by omega⟩
    · by_cases h3 : b < d
      · exact ⟨d, fun ts t W => by simp [Builtin.max_, Builtin.max2, h1, h2, h3], fun n => by omega⟩
      · exact ⟨b, fun ts t W => by simp [Builtin.max_, Builtin.max2, h1, h2, h3], fun n => by omega⟩
  · by_cases h2 : a < c
    · by_cases h3 : c < d
      · exact ⟨d, fun ts t W => by simp [Builtin.max_, Builtin.max2, h1, h2, h3], fun n => by omega⟩
      · exact ⟨c, fun ts t W => by simp [Builtin.max_, Builtin.max2, h1, h2, h3], fun n => by omega⟩
    · by_cases h3 : a < d
      · exact ⟨d, fun ts t W => by simp [Builtin.max_, Builtin.max2, h1, h2, h3], fun n => by omega⟩
      · exact ⟨a, fun ts t W => by simp [Builtin.max_, Builtin.max2, h1, h2, h3], fun n => by omega⟩
theorem sq_bd {a : Int} (h1 : -500000 ≤ a) (h2 : a ≤ 500000) : 0 ≤ a * a ∧ a * a ≤ 250000000000 := by
  refine ⟨sq_nonneg a, ?_⟩
  rcases Int.le_total 0 a with h | h
  · exact Int.le_trans (Int.mul_le_mul h2 h2 h (by decide)) (by decide)
  · have e : a * a = (-a) * (-a) := by rw [Int.neg_mul_neg]
    rw [e]
    exact Int.le_trans (Int.mul_le_mul (show -a ≤ 500000 by omega) (show -a ≤ 500000 by omega) (by omega) (by decide)) (by decide)
set_option maxRecDepth 100000 in
set_option maxHeartbeats 4000000 in
theorem disks_walk (K : Hl.Code) (F : Code) (n k j : Int) (x : Pt) (w : World) (n0 : 0 ≤ n) (n1 : n ≤ 65535) (k0 : 0 ≤ k) (k1 : k ≤ 65535) (j0 : 0 ≤ j) (j1 : j < 30000) (ej : k.tmod 30000 = j) : Calls Try.prog 9 #[.int .u16 n, .int .u16 k, .agg #[.int .i64 x.1, .int .i64 x.2]] w fun e w' => e = .returned (.bool true) ∧ Grew w w' := by
  have G0 : Grew (w.alloc (.cells #[.int .i64 x.1, .int .i64 x.2] 24)) (w.alloc (.cells #[.int .i64 x.1, .int .i64 x.2] 24)) := Grew.refl _
  go_enter Try.func9, Try.ntmps9
  go_wp2_with fail
  refine (head_true F _).mono ?_
  rintro e w1 ⟨rfl, g1⟩
  have D1 : Grew (w.alloc (.cells #[.int .i64 x.1, .int .i64 x.2] 24)) w1 := Grew.trans (by (repeat' (first | (with_reducible exact Grew.refl _) | (with_reducible assumption) | (with_reducible refine Grew.alloc ?_ _ _) | (with_reducible refine Grew.drew ?_) | (with_reducible refine Grew.drewN ?_ _) | (with_reducible refine Grew.setCell ?_ ?_ _) | go_size))) g1
  have G1 : Grew (w.alloc (.cells #[.int .i64 x.1, .int .i64 x.2] 24)) w1 := D1
  clear g1 D1 G0
  have x00 : w1.cell? ⟨w.heap.size, 0, none⟩ = some (.int .i64 x.1) := by rw [G1.cell (by simp only [World.size_alloc]; omega)]; simp [go_sem, *]
  have x01 : w1.cell? ⟨w.heap.size, 1, none⟩ = some (.int .i64 x.2) := by rw [G1.cell (by simp only [World.size_alloc]; omega)]; simp [go_sem, *]
  go_wp2_with fail
  refine (F.dsk n _).mono ?_
  rintro e w2 ⟨v1, e1, p, i1, rfl, s1, g2⟩
  have D2 : Grew w1 w2 := Grew.trans (by (repeat' (first | (with_reducible exact Grew.refl _) | (with_reducible assumption) | (with_reducible refine Grew.alloc ?_ _ _) | (with_reducible refine Grew.drew ?_) | (with_reducible refine Grew.drewN ?_ _) | (with_reducible refine Grew.setCell ?_ ?_ _) | go_size))) g2
  have G2 : Grew (w.alloc (.cells #[.int .i64 x.1, .int .i64 x.2] 24)) w2 := Grew.trans G1 D2
  clear g2 D2 G1
  clear x00 x01
  have x00 : w2.cell? ⟨w.heap.size, 0, none⟩ = some (.int .i64 x.1) := by rw [G2.cell (by simp only [World.size_alloc]; omega)]; simp [go_sem, *]
  have x01 : w2.cell? ⟨w.heap.size, 1, none⟩ = some (.int .i64 x.2) := by rw [G2.cell (by simp only [World.size_alloc]; omega)]; simp [go_sem, *]
  have A2 := Lib.hid s1
  clear s1
  obtain ⟨rfl, vp, hp⟩ := dsk_good n0 (by omega) i1
  have VP := Lib.hid vp
  have HP := Lib.hid hp
  have I1 := Lib.hid i1
  clear vp hp i1
  go_wp2_with fail
  refine (F.dsk j _).mono ?_
  rintro e w3 ⟨v2, e2, q, i2, rfl, s2, g3⟩
  have D3 : Grew w2 w3 := Grew.trans (by (repeat' (first | (with_reducible exact Grew.refl _) | (with_reducible assumption) | (with_reducible refine Grew.alloc ?_ _ _) | (with_reducible refine Grew.drew ?_) | (with_reducible refine Grew.drewN ?_ _) | (with_reducible refine Grew.setCell ?_ ?_ _) | go_size))) g3
  have G3 : Grew (w.alloc (.cells #[.int .i64 x.1, .int .i64 x.2] 24)) w3 := Grew.trans G2 D3
  have A3 := Lib.hid (A2.out.grown D3)
  clear A2
  clear g3 D3 G2
  clear x00 x01
  have x00 : w3.cell? ⟨w.heap.size, 0, none⟩ = some (.int .i64 x.1) := by rw [G3.cell (by simp only [World.size_alloc]; omega)]; simp [go_sem, *]
  have x01 : w3.cell? ⟨w.heap.size, 1, none⟩ = some (.int .i64 x.2) := by rw [G3.cell (by simp only [World.size_alloc]; omega)]; simp [go_sem, *]
  have B3 := Lib.hid s2
  clear s2
  obtain ⟨rfl, vq, hq⟩ := dsk_good j0 (by omega) i2
  have VQ := Lib.hid vq
  have I2 := Lib.hid i2
  clear vq hq i2
  go_wp2_with fail
  refine (F.sum p q _ _ _ A3.out B3.out (by have := VP.out.1.2; omega) (by have := VQ.out.1.2; omega)).mono ?_
  rintro e w4 ⟨v3, e3, s, i3, rfl, s3, g4⟩
  have D4 : Grew w3 w4 := Grew.trans (by (repeat' (first | (with_reducible exact Grew.refl _) | (with_reducible assumption) | (with_reducible refine Grew.alloc ?_ _ _) | (with_reducible refine Grew.drew ?_) | (with_reducible refine Grew.drewN ?_ _) | (with_reducible refine Grew.setCell ?_ ?_ _) | go_size))) g4
  have G4 : Grew (w.alloc (.cells #[.int .i64 x.1, .int .i64 x.2] 24)) w4 := Grew.trans G3 D4
  have A4 := Lib.hid (A3.out.grown D4)
  have B4 := Lib.hid (B3.out.grown D4)
  clear A3 B3
  clear g4 D4 G3
  clear x00 x01
  have x00 : w4.cell? ⟨w.heap.size, 0, none⟩ = some (.int .i64 x.1) := by rw [G4.cell (by simp only [World.size_alloc]; omega)]; simp [go_sem, *]
  have x01 : w4.cell? ⟨w.heap.size, 1, none⟩ = some (.int .i64 x.2) := by rw [G4.cell (by simp only [World.size_alloc]; omega)]; simp [go_sem, *]
  have S4 := Lib.hid s3
  clear s3
  clear B4
  go_wp2_with fail
  refine (F.dsk (n + j) _).mono ?_
  rintro e w5 ⟨v4, e4, d, i4, rfl, s4, g5⟩
  have D5 : Grew w4 w5 := Grew.trans (by (repeat' (first | (with_reducible exact Grew.refl _) | (with_reducible assumption) | (with_reducible refine Grew.alloc ?_ _ _) | (with_reducible refine Grew.drew ?_) | (with_reducible refine Grew.drewN ?_ _) | (with_reducible refine Grew.setCell ?_ ?_ _) | go_size))) g5
  have G5 : Grew (w.alloc (.cells #[.int .i64 x.1, .int .i64 x.2] 24)) w5 := Grew.trans G4 D5
  have A5 := Lib.hid (A4.out.grown D5)
  have S5 := Lib.hid (S4.out.grown D5)
  clear A4 S4
  clear g5 D5 G4
  clear x00 x01
  have x00 : w5.cell? ⟨w.heap.size, 0, none⟩ = some (.int .i64 x.1) := by rw [G5.cell (by simp only [World.size_alloc]; omega)]; simp [go_sem, *]
  have x01 : w5.cell? ⟨w.heap.size, 1, none⟩ = some (.int .i64 x.2) := by rw [G5.cell (by simp only [World.size_alloc]; omega)]; simp [go_sem, *]
  have C5 := Lib.hid s4
  clear s4
  obtain ⟨rfl, vd, hd⟩ := dsk_good (by omega) (by omega) i4
  have VD := Lib.hid vd
  obtain ⟨rfl, vs, hh⟩ := dsk_sum n0 j0 (by omega) I1.out I2.out i4 i3
  have VS := Lib.hid vs
  have HH := Lib.hid hh
  clear vd hd vs hh i4 i3 I1 I2 VQ
  have d1 : 1 ≤ d.length := VD.out.1.1
  have d2 : d.length ≤ 64 := VD.out.1.2
  obtain ⟨b, o, c, rfl, hr⟩ := C5.out.row (fun e => by rw [e] at d1; cases d1)
  have R5 := Lib.hid hr
  clear hr C5
  go_wp2_with fail
  refine (valid_yes K p _ _ A5.out VP.out).mono ?_
  rintro e w6 ⟨rfl, g6⟩
  have D6 : Grew w5 w6 := Grew.trans (by (repeat' (first | (with_reducible exact Grew.refl _) | (with_reducible assumption) | (with_reducible refine Grew.alloc ?_ _ _) | (with_reducible refine Grew.drew ?_) | (with_reducible refine Grew.drewN ?_ _) | (with_reducible refine Grew.setCell ?_ ?_ _) | go_size))) g6
  have G6 : Grew (w.alloc (.cells #[.int .i64 x.1, .int .i64 x.2] 24)) w6 := Grew.trans G5 D6
  have A6 := Lib.hid (A5.out.grown D6)
  have S6 := Lib.hid (S5.out.grown D6)
  have R6 := Lib.hid (R5.out.grown D6)
  clear A5 S5 R5
  clear g6 D6 G5
  clear x00 x01
  have x00 : w6.cell? ⟨w.heap.size, 0, none⟩ = some (.int .i64 x.1) := by rw [G6.cell (by simp only [World.size_alloc]; omega)]; simp [go_sem, *]
  have x01 : w6.cell? ⟨w.heap.size, 1, none⟩ = some (.int .i64 x.2) := by rw [G6.cell (by simp only [World.size_alloc]; omega)]; simp [go_sem, *]
  go_wp2_with fail
  go_loopw [7, 75] (fun u i wr => ∃ m : Nat, m ≤ d.length ∧ u = .bool true ∧ i = .int .i64 m ∧ Grew w6 wr) (fun _ i _ => d.length - (intOf i).toNat)
  case atStart => exact ⟨0, Nat.zero_le _, rfl, rfl, Grew.refl _⟩
  case round =>
    obtain ⟨m, hm, rfl, rfl, G⟩ := hrel
    have x00 : wr.cell? ⟨w.heap.size, 0, none⟩ = some (.int .i64 x.1) := by rw [G.cell (by have := G6.size; simp only [World.size_alloc] at this; omega)]; exact x00
    have x01 : wr.cell? ⟨w.heap.size, 1, none⟩ = some (.int .i64 x.2) := by rw [G.cell (by have := G6.size; simp only [World.size_alloc] at this; omega)]; exact x01
    by_cases hlt : m < d.length
    · obtain ⟨q0, q1⟩ := (R6.out.grown G).2 m hlt
      have hb := (R6.out.grown G).1
      have HY : Hid (Hs s (at' d m)) := Lib.hid (HH.out _ (at_mem hlt))
      have PY : Hid (Plc (at' d m)) := Lib.hid (VD.out.2.1 m hlt)
      have SS := Lib.hid (S6.out.grown G)
      have i0 : (0 : Int) ≤ (m : Int) := by omega
      have i1 : (m : Int) < (d.length : Int) := by omega
      go_wp2_with fail
      refine (has_yes K s (at' d m) _ _ (SS.out.grown (by (repeat' (first | (with_reducible exact Grew.refl _) | (with_reducible assumption) | (with_reducible refine Grew.alloc ?_ _ _) | (with_reducible refine Grew.drew ?_) | (with_reducible refine Grew.drewN ?_ _) | (with_reducible refine Grew.setCell ?_ ?_ _) | go_size)))) VS.out PY.out HY.out).mono ?_
      rintro e w7 ⟨rfl, g7⟩
      have G7 : Grew w6 w7 := Grew.trans (by (repeat' (first | (with_reducible exact Grew.refl _) | (with_reducible assumption) | (with_reducible refine Grew.alloc ?_ _ _) | (with_reducible refine Grew.drew ?_) | (with_reducible refine Grew.drewN ?_ _) | (with_reducible refine Grew.setCell ?_ ?_ _) | go_size))) g7
      clear g7
      go_wp2_with fail
      go_roundw
      case rel => exact ⟨m + 1, by omega, rfl, by go_num, G7⟩
      case measure => simp [intOf]; omega
    · have GW : Grew (w.alloc (.cells #[.int .i64 x.1, .int .i64 x.2] 24)) wr := Grew.trans G6 G
      have AA := Lib.hid (A6.out.grown G)
      by_cases hx : Plc x
      · have X := Lib.hid hx
        go_wp2_with fail
        refine (rplace_yes x _ X.out).mono ?_
        rintro e w8 ⟨rfl, g8⟩
        have y00 : w8.cell? ⟨w.heap.size, 0, none⟩ = some (.int .i64 x.1) := by rw [g8.cell (by have := GW.size; simp only [World.size_alloc] at this; omega)]; exact x00
        have y01 : w8.cell? ⟨w.heap.size, 1, none⟩ = some (.int .i64 x.2) := by rw [g8.cell (by have := GW.size; simp only [World.size_alloc] at this; omega)]; exact x01
        clear x00 x01
        go_wp2_with fail
        refine (K.has_ok p x _ _ (AA.out.grown g8) VP.out X.out).mono ?_
        rintro e w9 ⟨r, rfl, hr, g9⟩
        have x00 : w9.cell? ⟨w.heap.size, 0, none⟩ = some (.int .i64 x.1) := by rw [g9.cell (by have := (Grew.trans GW g8).size; simp only [World.size_alloc] at this; omega)]; exact y00
        have x01 : w9.cell? ⟨w.heap.size, 1, none⟩ = some (.int .i64 x.2) := by rw [g9.cell (by have := (Grew.trans GW g8).size; simp only [World.size_alloc] at this; omega)]; exact y01
        clear y00 y01
        have G9 : Grew w w9 := Grew.trans (Grew.trans (Grew.trans (by (repeat' (first | (with_reducible exact Grew.refl _) | (with_reducible assumption) | (with_reducible refine Grew.alloc ?_ _ _) | (with_reducible refine Grew.drew ?_) | (with_reducible refine Grew.drewN ?_ _) | (with_reducible refine Grew.setCell ?_ ?_ _) | go_size))) GW) g8) g9
        obtain ⟨nr, fa⟩ := dsk_in n0 HP.out x
        obtain ⟨⟨a1, a2⟩, a3, a4⟩ := X.out
        have m1 : 0 ≤ x.1 * x.1 ∧ x.1 * x.1 ≤ 250000000000 := sq_bd a1 a2
        have m2 : 0 ≤ x.2 * x.2 ∧ x.2 * x.2 ≤ 250000000000 := sq_bd a3 a4
        have m3 : 0 ≤ n * n ∧ n * n ≤ 250000000000 := sq_bd (by omega) (by omega)
        clear hx g8 g9 GW G
        obtain ⟨M, HM, hM⟩ := run_max4 x.1 (-x.1) x.2 (-x.2)
        have HN : ∀ W, Sem.run Try.prog (Builtin.max_ #[3, 3, 3, 3] 3 #[.int .i64 x.1, .int .i64 (-x.1), .int .i64 x.2, .int .i64 (-x.2)]) W = .ok (.int .i64 M) W := HM _ _
        clear HM
        by_cases hn : x.1 * x.1 + x.2 * x.2 ≤ n * n
        · obtain rfl : r = true := hr.2 (nr hn)
          have := fa (hr.1 rfl)
          have hf : M ≤ n := by
            by_cases t : n < M
            · rcases (hM n).1 t with t | t | t | t <;> omega
            · omega
          clear nr fa hr hM
          go_wp2_with fail
          go_ret
          exact ⟨rfl, G9⟩
        · have hn' : n * n < x.1 * x.1 + x.2 * x.2 := by omega
          clear hn
          by_cases hf : n < M
          · obtain rfl : r = false := by
              cases r
              · rfl
              · have := fa (hr.1 rfl)
                rcases (hM n).1 hf with t | t | t | t <;> omega
            clear nr fa hr hM
            go_wp2_with fail
            go_ret
            exact ⟨rfl, G9⟩
          · have hf' : M ≤ n := by omega
            clear nr fa hr hM hf
            cases r
            · go_wp2_with fail
              go_ret
              exact ⟨rfl, G9⟩
            · go_wp2_with fail
              go_ret
              exact ⟨rfl, G9⟩
      · have X := Lib.hid hx
        go_wp2_with fail
        refine (rplace_no x _ X.out).mono ?_
        rintro e w8 ⟨rfl, g8⟩
        go_wp2_with fail
        go_ret
        exact ⟨rfl, Grew.trans (Grew.trans (by (repeat' (first | (with_reducible exact Grew.refl _) | (with_reducible assumption) | (with_reducible refine Grew.alloc ?_ _ _) | (with_reducible refine Grew.drew ?_) | (with_reducible refine Grew.drewN ?_ _) | (with_reducible refine Grew.setCell ?_ ?_ _) | go_size))) GW) g8⟩
theorem disks_true (K : Hl.Code) (F : Code) (n k : Int) (x : Pt) (w : World) (n0 : 0 ≤ n) (n1 : n ≤ 65535) (k0 : 0 ≤ k) (k1 : k ≤ 65535) : Calls Try.prog 9 #[.int .u16 n, .int .u16 k, .agg #[.int .i64 x.1, .int .i64 x.2]] w fun e w' => e = .returned (.bool true) ∧ Grew w w' :=
  disks_walk K F n k (k.tmod 30000) x w n0 n1 k0 k1 (Int.tmod_nonneg _ k0) (Int.tmod_lt_of_pos _ (by decide)) rfl
end Mk
end Go.Proofs.Yteglefjnbkocgaa
