/-
  The landed package tide: whether an edition is well-formed, places, rectangles, the block of a place in the slot of a time.
-/
import Derived.Test.YtpiajdahmcelnaaGreatMTdB
import Derived.Test.YtpiajdahmcelnaaGreatMHullRef
namespace Go.Proofs.YtpiajdahmcelnaaGreat
open Go.RowKit Hl
namespace Td
set_option maxRecDepth 100000

/-- An edition as a value. -/
def tv (t : Ed) (u : Value) : Value := .agg #[.int .i64 t.v, .int .i64 t.z, .int .i64 t.n, .int .i64 t.r.x, .int .i64 t.r.y, .int .i64 t.r.s, .int .i64 t.r.k.a, .int .i64 t.r.k.b, .int .i64 t.r.k.c, .int .i64 t.r.k.d, .int .i64 t.r.k.e, .int .i64 t.r.k.f, u]
theorem areFlows_c (l : List Fw) (n : Int) (v : Value) (w : World) (hs : Rs w v l) (hl : l.length ≤ 4000) (hn : 0 ≤ n ∧ n ≤ 1000) :
    Calls Tryz.prog 25 #[v, .int .i64 n] w fun e w' => e = .returned (.bool (decide (Flok n l))) ∧ Grew w w' := by
  obtain ⟨a, c, rfl, hc⟩ := hs.shape
  by_cases h0 : l.length = 0
  · have e : l = [] := List.eq_nil_of_length_eq_zero h0
    subst e
    rw [decide_eq_true (show Flok n [] from ⟨fun i hi => absurd hi (Nat.not_lt_zero i), fun i hi => absurd hi (Nat.not_lt_zero _)⟩)]
    refine (areFlows_nil n a c w).mono ?_
    rintro e w' ⟨rfl, rfl⟩
    exact ⟨rfl, Grew.refl _⟩
  · obtain ⟨b, o, rfl, hr⟩ := hs.row (by omega)
    exact areFlows_row l n b o c w hr hl hn
theorem tok_and (t : Ed) : decide (Tok t) = (decide (1 ≤ t.v ∧ t.v ≤ 1000000) && (decide (0 ≤ t.z ∧ t.z ≤ 1000000000) && (decide (0 ≤ t.n ∧ t.n ≤ 1000) && (decide (Bok t.r.k) && (decide (t.r.s = 0 ∧ t.r.y = 0 ∧ t.r.x = 0) && (decide (t.l.length ≤ 4000) && decide (Flok t.n t.l))))))) := by
  rw [Bool.eq_iff_iff]
  simp only [Bool.and_eq_true, decide_eq_true_eq]
  rfl
set_option maxHeartbeats 8000000 in
theorem valid_c (t : Ed) (u : Value) (w : World) (hs : Rs w u t.l) (hl : t.l.length ≤ 9223372036854775807) :
    Calls Tryz.prog 8 #[tv t u] w fun e w' => e = .returned (.bool (decide (Tok t))) ∧ Grew w w' := by
  rw [tok_and]
  unfold tv
  have C1 := Lib.hid (isFrom_c t.v 1 1000000)
  have C2 := Lib.hid (isFrom_c t.z 0 1000000000)
  have C3 := isFrom_c t.n 0 1000
  have C4 := hasBounds_c t.r
  have C5 := spotOf_c t.r
  have C6 : Hid (∀ W, Grew w W → (0 ≤ t.n ∧ t.n ≤ 1000) → t.l.length ≤ 4000 → Calls Tryz.prog 25 #[u, .int .i64 t.n] W fun e w' => e = .returned (.bool (decide (Flok t.n t.l))) ∧ Grew W w') := Lib.hid (fun W g h1 h2 => areFlows_c t.l t.n u W (hs.grew g) h2 h1)
  unfold fv at C4 C5
  obtain ⟨sa, sc, rfl, _⟩ := hs.shape
  clear hs
  rcases t with ⟨v, z, n, ⟨x, y, s, ⟨a, b, c, d, p, q⟩⟩, l⟩
  simp only at *
  obtain ⟨r3, h3⟩ : ∃ r3, decide (0 ≤ n ∧ n ≤ 1000) = r3 := ⟨_, rfl⟩
  rw [h3] at C3
  rw [h3]
  have H3 := Lib.hid h3
  clear h3
  have C3' := Lib.hid C3
  have C4' := Lib.hid C4
  have C5' := Lib.hid C5
  clear C3 C4 C5
  generalize decide (1 ≤ v ∧ v ≤ 1000000) = r1 at *
  generalize decide (0 ≤ z ∧ z ≤ 1000000000) = r2 at *
  generalize decide (Bok ⟨a, b, c, d, p, q⟩) = r4 at *
  generalize decide (Flok n l) = r7 at *
  obtain ⟨r5, h5⟩ : ∃ r5, decide (s = 0 ∧ y = 0 ∧ x = 0) = r5 := ⟨_, rfl⟩
  obtain ⟨r6, h6⟩ : ∃ r6, decide (l.length ≤ 4000) = r6 := ⟨_, rfl⟩
  rw [h5, h6]
  have H5 := Lib.hid h5
  have H6 := Lib.hid h6
  clear h5 h6
  have hl0 : (0 : Int) ≤ (l.length : Int) := by omega
  go_enter Tryz.func8, Tryz.ntmps8
  go_wp2_with fail
  refine (C1.out _).mono ?_
  rintro e w1 ⟨rfl, rfl⟩
  cases r1
  · go_wp2_with fail
    go_ret
    exact ⟨by first | rfl | (simp; done) | (simp; omega), (by (repeat' (first | (with_reducible exact Grew.refl _) | (with_reducible assumption) | (with_reducible refine Grew.alloc ?_ _ _) | (with_reducible refine Grew.drew ?_) | (with_reducible refine Grew.drewN ?_ _) | (with_reducible refine Grew.setCell ?_ ?_ _) | go_size)))⟩
  · go_wp2_with fail
    refine (C2.out _).mono ?_
    rintro e w2 ⟨rfl, rfl⟩
    cases r2
    · go_wp2_with fail
      go_ret
      exact ⟨by first | rfl | (simp; done) | (simp; omega), (by (repeat' (first | (with_reducible exact Grew.refl _) | (with_reducible assumption) | (with_reducible refine Grew.alloc ?_ _ _) | (with_reducible refine Grew.drew ?_) | (with_reducible refine Grew.drewN ?_ _) | (with_reducible refine Grew.setCell ?_ ?_ _) | go_size)))⟩
    · go_wp2_with fail
      refine (C3'.out _).mono ?_
      rintro e w3 ⟨rfl, rfl⟩
      cases r3
      · go_wp2_with fail
        go_ret
        exact ⟨by first | rfl | (simp; done) | (simp; omega), (by (repeat' (first | (with_reducible exact Grew.refl _) | (with_reducible assumption) | (with_reducible refine Grew.alloc ?_ _ _) | (with_reducible refine Grew.drew ?_) | (with_reducible refine Grew.drewN ?_ _) | (with_reducible refine Grew.setCell ?_ ?_ _) | go_size)))⟩
      · go_wp2_with fail
        refine (C4'.out _).mono ?_
        rintro e w4 ⟨rfl, g4⟩
        obtain ⟨c4, f4, z4⟩ := laid g4
        try simp at z4
        have G4 : Grew w w4 := Grew.trans (by (repeat' (first | (with_reducible exact Grew.refl _) | (with_reducible assumption) | (with_reducible refine Grew.alloc ?_ _ _) | (with_reducible refine Grew.drew ?_) | (with_reducible refine Grew.drewN ?_ _) | (with_reducible refine Grew.setCell ?_ ?_ _) | go_size))) g4
        clear g4
        have z4_0 : w.heap.size < w4.heap.size := by omega
        cases r4
        · go_wp2_with fail
          go_ret
          exact ⟨by first | rfl | (simp; done) | (simp; omega), (by (repeat' (first | (with_reducible exact Grew.refl _) | (with_reducible assumption) | (with_reducible refine Grew.alloc ?_ _ _) | (with_reducible refine Grew.drew ?_) | (with_reducible refine Grew.drewN ?_ _) | (with_reducible refine Grew.setCell ?_ ?_ _) | go_size)))⟩
        · go_wp2_with fail
          refine (C5'.out _).mono ?_
          rintro e w5 ⟨rfl, g5⟩
          obtain ⟨c5, f5, z5⟩ := laid g5
          try simp at z5
          have G5 : Grew w w5 := Grew.trans (by (repeat' (first | (with_reducible exact Grew.refl _) | (with_reducible assumption) | (with_reducible refine Grew.alloc ?_ _ _) | (with_reducible refine Grew.drew ?_) | (with_reducible refine Grew.drewN ?_ _) | (with_reducible refine Grew.setCell ?_ ?_ _) | go_size))) g5
          clear g5
          have z5_0 : w.heap.size < w5.heap.size := by omega
          by_cases e1 : s = 0
          · subst e1
            by_cases e2 : y = 0
            · subst e2
              by_cases e3 : x = 0
              · subst e3
                by_cases h6 : l.length ≤ 4000
                · have HL := Lib.hid h6
                  obtain rfl : r6 = true := by rw [← H6.out]; exact decide_eq_true h6
                  obtain rfl : r5 = true := by rw [← H5.out]; rfl
                  have i6 : (l.length : Int) ≤ 4000 := by omega
                  have C7 := Lib.hid (C6.out w5 G5 (of_decide_eq_true H3.out) h6)
                  clear h6 C6
                  generalize l.length = N at *
                  go_wp2_with fail
                  refine (C7.out).mono ?_
                  rintro e w6 ⟨rfl, g6⟩
                  obtain ⟨c6, f6, z6⟩ := laid g6
                  try simp at z6
                  have G6 : Grew w w6 := Grew.trans (by (repeat' (first | (with_reducible exact Grew.refl _) | (with_reducible assumption) | (with_reducible refine Grew.alloc ?_ _ _) | (with_reducible refine Grew.drew ?_) | (with_reducible refine Grew.drewN ?_ _) | (with_reducible refine Grew.setCell ?_ ?_ _) | go_size))) g6
                  clear g6
                  have z6_0 : w.heap.size < w6.heap.size := by omega
                  go_wp2_with fail
                  go_ret
                  exact ⟨by first | rfl | (simp; done) | (cases r7 <;> rfl), (by (repeat' (first | (with_reducible exact Grew.refl _) | (with_reducible assumption) | (with_reducible refine Grew.alloc ?_ _ _) | (with_reducible refine Grew.drew ?_) | (with_reducible refine Grew.drewN ?_ _) | (with_reducible refine Grew.setCell ?_ ?_ _) | go_size)))⟩
                · obtain rfl : r6 = false := by rw [← H6.out]; exact decide_eq_false h6
                  obtain rfl : r5 = true := by rw [← H5.out]; rfl
                  have i6 : ¬ (l.length : Int) ≤ 4000 := by omega
                  clear h6 C6
                  generalize l.length = N at *
                  go_wp2_with fail
                  go_ret
                  exact ⟨by first | rfl | (simp; done) | (simp; omega), (by (repeat' (first | (with_reducible exact Grew.refl _) | (with_reducible assumption) | (with_reducible refine Grew.alloc ?_ _ _) | (with_reducible refine Grew.drew ?_) | (with_reducible refine Grew.drewN ?_ _) | (with_reducible refine Grew.setCell ?_ ?_ _) | go_size)))⟩
              · have e3' : (x == 0) = false := by simp [e3]
                obtain rfl : r5 = false := by rw [← H5.out]; exact decide_eq_false (fun h => e3 h.2.2)
                go_wp2_with fail
                go_ret
                exact ⟨by first | rfl | (simp; done) | (simp; omega), (by (repeat' (first | (with_reducible exact Grew.refl _) | (with_reducible assumption) | (with_reducible refine Grew.alloc ?_ _ _) | (with_reducible refine Grew.drew ?_) | (with_reducible refine Grew.drewN ?_ _) | (with_reducible refine Grew.setCell ?_ ?_ _) | go_size)))⟩
            · have e2' : (y == 0) = false := by simp [e2]
              obtain rfl : r5 = false := by rw [← H5.out]; exact decide_eq_false (fun h => e2 h.2.1)
              go_wp2_with fail
              go_ret
              exact ⟨by first | rfl | (simp; done) | (simp; omega), (by (repeat' (first | (with_reducible exact Grew.refl _) | (with_reducible assumption) | (with_reducible refine Grew.alloc ?_ _ _) | (with_reducible refine Grew.drew ?_) | (with_reducible refine Grew.drewN ?_ _) | (with_reducible refine Grew.setCell ?_ ?_ _) | go_size)))⟩
          · have e1' : (s == 0) = false := by simp [e1]
            obtain rfl : r5 = false := by rw [← H5.out]; exact decide_eq_false (fun h => e1 h.1)
            go_wp2_with fail
            go_ret
            exact ⟨by first | rfl | (simp; done) | (simp; omega), (by (repeat' (first | (with_reducible exact Grew.refl _) | (with_reducible assumption) | (with_reducible refine Grew.alloc ?_ _ _) | (with_reducible refine Grew.drew ?_) | (with_reducible refine Grew.drewN ?_ _) | (with_reducible refine Grew.setCell ?_ ?_ _) | go_size)))⟩
theorem vl_one (x : Pt) : Vl [x] ↔ Plc x := by
  refine ⟨fun h => h.2.1 0 (by simp), fun h => ⟨⟨by simp, by simp⟩, fun i hi => ?_, fun i h1 h2 => ?_, fun h => absurd h (by simp)⟩⟩
  · obtain rfl : i = 0 := by have : i < 1 := hi; omega
    exact h
  · have : i < 1 := h2
    omega
theorem row_one' {w : World} {x : Pt} {k : Nat} {T : TypeId} (h : w.heap.size = k) : Hl.Row (w.alloc (.cells #[.int .i64 x.1, .int .i64 x.2] T)) k 0 [x] := by
  subst h
  exact row_new [x] _ rfl w T
theorem isPlace_c (K : Hl.Code) (x : Pt) (w : World) : Calls Tryz.prog 47 #[.agg #[.int .i64 x.1, .int .i64 x.2]] w fun e w' => e = .returned (.bool (decide (Plc x))) ∧ Grew w w' := by
  obtain ⟨r, hr⟩ : ∃ r, decide (Plc x) = r := ⟨_, rfl⟩
  have KV : Hid (∀ W b c, Hl.Row W b 0 [x] → Calls Tryz.prog 62 #[.slice (some ⟨b, 0, none⟩) 1 c] W fun e w' => e = .returned (.bool r) ∧ Grew W w') := Lib.hid (fun W b c hw => (K.valid [x] _ W (Or.inr ⟨b, 0, c, rfl, hw⟩) (by simp)).mono (by
    rintro e w' ⟨q, rfl, hq, g⟩
    refine ⟨?_, g⟩
    have : q = r := by rw [Bool.eq_iff_iff, ← hr, decide_eq_true_eq, hq]; exact vl_one x
    rw [this]))
  rw [hr]
  have RN : Hid (Hl.Row ((w.alloc (.cells #[.int .i64 x.1, .int .i64 x.2] 30)).alloc (.cells #[.int .i64 x.1, .int .i64 x.2] 30)) (w.heap.size + 1) 0 [x]) := Lib.hid (row_one' (by simp))
  clear K hr
  go_enter Tryz.func47, Tryz.ntmps47
  go_wp2_with fail
  refine (KV.out _ _ _ RN.out).mono ?_
  rintro e w1 ⟨rfl, g1⟩
  have G1 : Grew w w1 := Grew.trans (((Grew.refl w).alloc _ _).alloc _ _) g1
  clear g1
  go_wp2_with fail
  go_ret
  exact ⟨rfl, G1⟩
end Td
end Go.Proofs.YtpiajdahmcelnaaGreat
