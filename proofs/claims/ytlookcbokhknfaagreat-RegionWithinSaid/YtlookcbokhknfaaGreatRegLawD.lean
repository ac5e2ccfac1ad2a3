/-
  The law RegionWithin, under what packages region and hull owe.
-/
import Derived.Test.YtlookcbokhknfaaGreatRegU
import Derived.Test.YtlookcbokhknfaaGreatRegLawA
import Derived.Test.YtlookcbokhknfaaGreatRegB
namespace Go.Proofs.YtlookcbokhknfaaGreat
open Go.RowKit Go.Shelf Hl
namespace Rg
open Ct (Hf WF ov)
theorem gen_world {P : Program} {c : Go.Code} {Q : Exit → Act → World → Prop} {a : Act} {W : World} (F : World → Prop) (h : F W) (k : ∀ W2, F W2 → c.wp P Q a W2) : c.wp P Q a W := k W h
theorem bk4 {W : World} {B : Nat} {x y z u : Value} {t : TypeId} (h : Blk W B #[x, y, z, u] t) : (W.cell? ⟨B, 0, none⟩ = some x ∧ W.cell? ⟨B, 1, none⟩ = some y ∧ W.cell? ⟨B, 2, none⟩ = some z ∧ W.cell? ⟨B, 3, none⟩ = some u) ∧ W.frozen? ⟨B, 0, none⟩ = false ∧ W.frozen? ⟨B, 1, none⟩ = false ∧ W.frozen? ⟨B, 2, none⟩ = false ∧ W.frozen? ⟨B, 3, none⟩ = false := by simp [World.cell?, World.frozen?, show W.heap[B]? = _ from h]
set_option maxRecDepth 100000 in
theorem all_four (W : World) : (Op.equalIn 10000 56 (.agg #[.bool true, .bool true, .bool true, .bool true]) (.agg #[.bool true, .bool true, .bool true, .bool true])).run Tryz.prog W = .ok true W := by kernel_rfl
/-- What the flags of four edges say of the corners that were seen. -/
def Fl (S : Pt → Prop) (lo hi : Pt) (a b c d : Bool) : Prop := ∀ y, S y → (y.1 = lo.1 → a = true) ∧ (y.1 = hi.1 → b = true) ∧ (y.2 = lo.2 → c = true) ∧ (y.2 = hi.2 → d = true)
theorem Fl.step {S S' : Pt → Prop} {lo hi z : Pt} {a b c d : Bool} (h : Fl S lo hi a b c d) (hs : ∀ y, S' y → S y ∨ y = z) : Fl S' lo hi (a || z.1 == lo.1) (b || z.1 == hi.1) (c || z.2 == lo.2) (d || z.2 == hi.2) := fun y hy => by
  rcases hs y hy with h1 | rfl
  · obtain ⟨h1, h2, h3, h4⟩ := h y h1
    exact ⟨fun e => by rw [h1 e]; rfl, fun e => by rw [h2 e]; rfl, fun e => by rw [h3 e]; rfl, fun e => by rw [h4 e]; rfl⟩
  · exact ⟨fun e => by simp [e], fun e => by simp [e], fun e => by simp [e], fun e => by simp [e]⟩
def Seen (L : Rgn) (i k : Nat) (y : Pt) : Prop := (∃ j, j < i ∧ y ∈ nth L j) ∨ ∃ m, m < k ∧ y = at' (nth L i) m
theorem seen_next {L : Rgn} {i k : Nat} : ∀ y, Seen L i (k + 1) y → Seen L i k y ∨ y = at' (nth L i) k := by
  rintro y (h | ⟨m, hm, e⟩)
  · exact Or.inl (Or.inl h)
  · by_cases c : m = k
    · subst c
      exact Or.inr e
    · exact Or.inl (Or.inr ⟨m, by omega, e⟩)
theorem seen_row {L : Rgn} {i : Nat} : ∀ y, Seen L (i + 1) 0 y → Seen L i (nth L i).length y := by
  rintro y (⟨j, hj, h⟩ | ⟨m, hm, _⟩)
  · by_cases c : j = i
    · subst c
      obtain ⟨n, hn, e⟩ := mem_at h
      exact Or.inr ⟨n, hn, e.symm⟩
    · exact Or.inl ⟨j, by omega, h⟩
  · omega
theorem Fl.sub {S S' : Pt → Prop} {lo hi : Pt} {a b c d : Bool} (h : Fl S lo hi a b c d) (hs : ∀ y, S' y → S y) : Fl S' lo hi a b c d := fun y hy => h y (hs y hy)
theorem fl_all {L : Rgn} {lo hi : Pt} {a b c d : Bool} (h : Fl (Seen L L.length 0) lo hi a b c d) (hb : IsBox L.flatten lo hi) : a = true ∧ b = true ∧ c = true ∧ d = true := by
  have s : ∀ y, y ∈ L.flatten → Seen L L.length 0 y := fun y hy => by
    obtain ⟨p, hp, hy⟩ := List.mem_flatten.1 hy
    obtain ⟨i, hi, rfl⟩ := mem_nth hp
    exact Or.inl ⟨i, hi, hy⟩
  obtain ⟨⟨y1, g1, e1⟩, _⟩ := hb.1
  obtain ⟨⟨y2, g2, e2⟩, _⟩ := hb.2.1
  obtain ⟨⟨y3, g3, e3⟩, _⟩ := hb.2.2.1
  obtain ⟨⟨y4, g4, e4⟩, _⟩ := hb.2.2.2
  exact ⟨(h y1 (s _ g1)).1 (by omega), (h y2 (s _ g2)).2.1 (by omega), (h y3 (s _ g3)).2.2.1 (by omega), (h y4 (s _ g4)).2.2.2 (by omega)⟩
theorem box_bx {L : Rgn} {lo hi x : Pt} (hL : AllV L) (hb : IsBox L.flatten lo hi) (hx : InR L x) : Bx lo.1 hi.1 lo.2 hi.2 x := inBx_has hL (fun p hp y hy => by
  have hm : y ∈ L.flatten := List.mem_flatten.2 ⟨p, hp, hy⟩
  have a := hb.1.2 y hm
  have b := hb.2.1.2 y hm
  have c := hb.2.2.1.2 y hm
  have d := hb.2.2.2.2 y hm
  unfold Bx
  omega) hx
theorem box_in {L : Rgn} {lo hi x : Pt} {ok : Bool} {k : Int} (hL : VlR L) (h : BoxP L lo hi ok k) : k = 0 ∧ ok = decide ((0 : Int) < (L.length : Int)) ∧ (InR L x → ok = true ∧ Bx lo.1 hi.1 lo.2 hi.2 x) ∧ (ok = true → IsBox L.flatten lo hi) := by
  rcases h with ⟨n, _⟩ | ⟨_, rfl, rfl, rfl, rfl, rfl⟩ | ⟨_, hn, hb, rfl, rfl⟩
  · exact absurd hL n
  · exact ⟨rfl, rfl, fun ⟨_, hp, _⟩ => (by cases hp), fun e => (by cases e)⟩
  · refine ⟨rfl, (decide_eq_true ?_).symm, fun h => ⟨rfl, box_bx hL.2 hb h⟩, fun _ => hb⟩
    have := List.length_pos_iff.2 hn
    omega
set_option maxRecDepth 100000 in
set_option maxHeartbeats 4000000 in
theorem within_true (K : Code) (H : Hl.Code) (L : Rgn) (p : List Pt) (x : Pt) (v u : Value) (w : World) (hs : Rl w v L) (hu : Sl w u p) (hp : p.length ≤ 9223372036854775807) : Calls Tryz.prog 9 #[v, u, .agg #[.int .i64 x.1, .int .i64 x.2]] w fun e w' => e = .returned (.bool true) ∧ Grew w w' := by
  have LL : Hid (L.length ≤ 9223372036854775807) := Lib.hid hs.2.1
  have R := Lib.hid hs
  have Q := Lib.hid hu
  have LP := Lib.hid hp
  have hmx : Tryz.prog.follows .mixedOrders = true := by kernel_rfl
  obtain ⟨va, vc, U, ev, hU, hSl, hRr⟩ := rl_fun hs
  obtain ⟨nl, en⟩ : ∃ nl, nl = L.length := ⟨_, rfl⟩
  rw [← en] at ev hSl hRr
  subst ev
  have EN := Lib.hid en
  replace LL : Hid (nl ≤ 9223372036854775807) := Lib.hid (by rw [en]; exact LL.out)
  clear en
  obtain ⟨ua, uc, rfl⟩ := hu.shape
  have RR : Hid (∀ i W, i < nl → Grew w W → ∃ b o, va = some ⟨b, o, none⟩ ∧ b < W.heap.size ∧ W.cell? ⟨b, o + i, none⟩ = some (U i)) := Lib.hid (fun i W hi g => by
    obtain ⟨b, o, e, hb, z⟩ := hRr i hi
    exact ⟨b, o, e, Nat.lt_of_lt_of_le hb.1 g.size, (Grew.cell g hb.1).trans z⟩)
  have RW : Hid (∀ i, i < nl → Vl (nth L i) → ∃ b o c, U i = .slice (some ⟨b, o, none⟩) (nth L i).length c ∧ Row w b o (nth L i)) := Lib.hid (fun i hi hv => (hSl i hi).row (fun e => by
    have := hv.1.1
    rw [e] at this
    exact absurd this (by simp)))
  clear hs hu hp hU hSl hRr
  have BK00 := Lib.hid ((Blk.new (w) #[.int .i64 x.1, .int .i64 x.2] 27))
  have GW0 : Grew w (w.alloc (.cells #[.int .i64 x.1, .int .i64 x.2] 27)) := (by (repeat' (first | (with_reducible exact Grew.refl _) | (with_reducible assumption) | (with_reducible refine Grew.alloc ?_ _ _) | (with_reducible refine Grew.drew ?_) | (with_reducible refine Grew.drewN ?_ _) | (with_reducible refine Grew.setCell ?_ ?_ _) | go_size)))
  have G0 : Grew (w.alloc (.cells #[.int .i64 x.1, .int .i64 x.2] 27)) (w.alloc (.cells #[.int .i64 x.1, .int .i64 x.2] 27)) := Grew.refl _
  have R0 := Lib.hid (R.out.grown (w' := (w.alloc (.cells #[.int .i64 x.1, .int .i64 x.2] 27))) (by (repeat' (first | (with_reducible exact Grew.refl _) | (with_reducible assumption) | (with_reducible refine Grew.alloc ?_ _ _) | (with_reducible refine Grew.drew ?_) | (with_reducible refine Grew.drewN ?_ _) | (with_reducible refine Grew.setCell ?_ ?_ _) | go_size))))
  have Q0 := Lib.hid (Q.out.grown (w' := (w.alloc (.cells #[.int .i64 x.1, .int .i64 x.2] 27))) (by (repeat' (first | (with_reducible exact Grew.refl _) | (with_reducible assumption) | (with_reducible refine Grew.alloc ?_ _ _) | (with_reducible refine Grew.drew ?_) | (with_reducible refine Grew.drewN ?_ _) | (with_reducible refine Grew.setCell ?_ ?_ _) | go_size))))
  go_enter Tryz.func9, Tryz.ntmps9
  go_wp2_with fail
  refine (head_true K _).mono ?_
  rintro e w1 ⟨rfl, g1⟩
  have D1 : Grew (w.alloc (.cells #[.int .i64 x.1, .int .i64 x.2] 27)) w1 := Grew.trans (by (repeat' (first | (with_reducible exact Grew.refl _) | (with_reducible assumption) | (with_reducible refine Grew.alloc ?_ _ _) | (with_reducible refine Grew.drew ?_) | (with_reducible refine Grew.drewN ?_ _) | (with_reducible refine Grew.setCell ?_ ?_ _) | go_size))) g1
  have G1 : Grew (w.alloc (.cells #[.int .i64 x.1, .int .i64 x.2] 27)) w1 := Grew.trans G0 D1
  have R1 := Lib.hid (R0.out.grown D1)
  have Q1 := Lib.hid (Q0.out.grown D1)
  have BK01 := Lib.hid (BK00.out.grown D1)
  clear R0 Q0 BK00
  clear g1 D1 G0
  obtain ⟨x00, x01⟩ := blk_two BK01.out
  go_wp2_with fail
  refine (usable_c L [] _ _ _ R1.out (Rl.nil _ none 0)).mono ?_
  rintro e w2 ⟨r2, rfl, h2, g2⟩
  have D2 : Grew w1 w2 := Grew.trans (by (repeat' (first | (with_reducible exact Grew.refl _) | (with_reducible assumption) | (with_reducible refine Grew.alloc ?_ _ _) | (with_reducible refine Grew.drew ?_) | (with_reducible refine Grew.drewN ?_ _) | (with_reducible refine Grew.setCell ?_ ?_ _) | go_size))) g2
  have G2 : Grew (w.alloc (.cells #[.int .i64 x.1, .int .i64 x.2] 27)) w2 := Grew.trans G1 D2
  have R2 := Lib.hid (R1.out.grown D2)
  have Q2 := Lib.hid (Q1.out.grown D2)
  have BK02 := Lib.hid (BK01.out.grown D2)
  clear R1 Q1 BK01
  clear g2 D2 G1
  clear x00 x01
  obtain ⟨x00, x01⟩ := blk_two BK02.out
  cases r2
  · clear h2
    go_wp2_with fail
    go_ret
    exact ⟨rfl, GW0.trans G2⟩
  have VL := Lib.hid ((h2 rfl).1)
  clear h2
  by_cases h80 : (80 : Int) < (p.length : Int)
  · go_wp2_with fail
    go_ret
    exact ⟨rfl, GW0.trans G2⟩
  go_wp2_with fail
  refine (place_t x _).mono ?_
  rintro e w3 ⟨r3, rfl, h3, g3⟩
  have D3 : Grew w2 w3 := Grew.trans (by (repeat' (first | (with_reducible exact Grew.refl _) | (with_reducible assumption) | (with_reducible refine Grew.alloc ?_ _ _) | (with_reducible refine Grew.drew ?_) | (with_reducible refine Grew.drewN ?_ _) | (with_reducible refine Grew.setCell ?_ ?_ _) | go_size))) g3
  have G3 : Grew (w.alloc (.cells #[.int .i64 x.1, .int .i64 x.2] 27)) w3 := Grew.trans G2 D3
  have R3 := Lib.hid (R2.out.grown D3)
  have Q3 := Lib.hid (Q2.out.grown D3)
  have BK03 := Lib.hid (BK02.out.grown D3)
  clear R2 Q2 BK02
  clear g3 D3 G2
  clear x00 x01
  obtain ⟨x00, x01⟩ := blk_two BK03.out
  cases r3
  · clear h3
    go_wp2_with fail
    go_ret
    exact ⟨rfl, GW0.trans G3⟩
  have X := Lib.hid (h3.1 rfl)
  clear h3
  go_wp2_with fail
  refine (K.box L _ _ R3.out).mono ?_
  rintro e w4 ⟨lo, hi, ok, k4, i4, rfl, g4⟩
  have D4 : Grew w3 w4 := Grew.trans (by (repeat' (first | (with_reducible exact Grew.refl _) | (with_reducible assumption) | (with_reducible refine Grew.alloc ?_ _ _) | (with_reducible refine Grew.drew ?_) | (with_reducible refine Grew.drewN ?_ _) | (with_reducible refine Grew.setCell ?_ ?_ _) | go_size))) g4
  have G4 : Grew (w.alloc (.cells #[.int .i64 x.1, .int .i64 x.2] 27)) w4 := Grew.trans G3 D4
  have R4 := Lib.hid (R3.out.grown D4)
  have Q4 := Lib.hid (Q3.out.grown D4)
  have BK04 := Lib.hid (BK03.out.grown D4)
  clear R3 Q3 BK03
  clear g4 D4 G3
  clear x00 x01
  obtain ⟨x00, x01⟩ := blk_two BK04.out
  obtain ⟨rfl, eok, e4a, e4b⟩ := box_in (x := x) VL.out i4
  rw [← EN.out] at eok
  have HIN := Lib.hid e4a
  have HBX := Lib.hid e4b
  clear i4 e4a e4b
  cases ok
  · have d1 : ¬ (0 : Int) < (nl : Int) := of_decide_eq_false eok.symm
    have d2 : ¬ 0 < nl := by omega
    clear eok
    have sb0 : w.heap.size < w4.heap.size := BK04.out.lt
    have sb1 : w.heap.size < w4.heap.size + 1 := by omega
    have sb2 : w.heap.size < w4.heap.size + 1 + 1 := by omega
    go_wp2_with fail
    refine (in_c L x _ _ (R4.out.grown (by (repeat' (first | (with_reducible exact Grew.refl _) | (with_reducible assumption) | (with_reducible refine Grew.alloc ?_ _ _) | (with_reducible refine Grew.drew ?_) | (with_reducible refine Grew.drewN ?_ _) | (with_reducible refine Grew.setCell ?_ ?_ _) | go_size)))) VL.out.2 X.out).mono ?_
    rintro e w5 ⟨i5, rfl, h5, g5⟩
    have H5 := Lib.hid h5
    clear h5
    have BL : Hid (Blk w5 (w4.heap.size) #[.int .i64 lo.1, .int .i64 lo.2] 27 ∧ Blk w5 (w4.heap.size + 1) #[.int .i64 hi.1, .int .i64 hi.2] 27) := Lib.hid (by
      refine ⟨Blk.grown ?_ g5, Blk.grown ?_ g5⟩
      · exact (Blk.new w4 _ _).alloc _
      · have h := Blk.new (w4.alloc (.cells #[.int .i64 lo.1, .int .i64 lo.2] 27)) #[.int .i64 hi.1, .int .i64 hi.2] 27
        rw [World.size_alloc] at h
        exact h)
    have D5 : Grew w4 w5 := Grew.trans (by (repeat' (first | (with_reducible exact Grew.refl _) | (with_reducible assumption) | (with_reducible refine Grew.alloc ?_ _ _) | (with_reducible refine Grew.drew ?_) | (with_reducible refine Grew.drewN ?_ _) | (with_reducible refine Grew.setCell ?_ ?_ _) | go_size))) g5
    have G5 : Grew (w.alloc (.cells #[.int .i64 x.1, .int .i64 x.2] 27)) w5 := Grew.trans G4 D5
    have R5 := Lib.hid (R4.out.grown D5)
    have Q5 := Lib.hid (Q4.out.grown D5)
    have BK05 := Lib.hid (BK04.out.grown D5)
    clear R4 Q4 BK04
    clear g5 D5 G4
    clear x00 x01
    obtain ⟨x00, x01⟩ := blk_two BK05.out
    have BL5 := Lib.hid BL.out.1
    have BH5 := Lib.hid BL.out.2
    clear BL
    obtain ⟨y0, y1⟩ := blk_two BL5.out
    obtain ⟨z0, z1⟩ := blk_two BH5.out
    cases i5
    · clear H5
      go_wp2_with fail
      refine (K.within L p _ _ _ R5.out Q5.out LP.out).mono ?_
      rintro e w6 ⟨i6, k6, j6, rfl, g6⟩
      have D6 : Grew w5 w6 := Grew.trans (by (repeat' (first | (with_reducible exact Grew.refl _) | (with_reducible assumption) | (with_reducible refine Grew.alloc ?_ _ _) | (with_reducible refine Grew.drew ?_) | (with_reducible refine Grew.drewN ?_ _) | (with_reducible refine Grew.setCell ?_ ?_ _) | go_size))) g6
      have G6 : Grew (w.alloc (.cells #[.int .i64 x.1, .int .i64 x.2] 27)) w6 := Grew.trans G5 D6
      have R6 := Lib.hid (R5.out.grown D6)
      have Q6 := Lib.hid (Q5.out.grown D6)
      have BK06 := Lib.hid (BK05.out.grown D6)
      have BL6 := Lib.hid (BL5.out.grown D6)
      have BH6 := Lib.hid (BH5.out.grown D6)
      clear R5 Q5 BK05 BL5 BH5
      clear g6 D6 G5
      clear x00 x01
      obtain ⟨x00, x01⟩ := blk_two BK06.out
      clear y0 y1 z0 z1
      rcases j6 with ⟨_, rfl, rfl⟩ | ⟨vp, h6, rfl⟩
      · go_wp2_with fail
        go_ret
        exact ⟨rfl, GW0.trans G6⟩
      have VP := Lib.hid vp.2
      have H6 := Lib.hid h6
      clear vp h6
      go_wp2_with fail
      refine (H.has_ok p x _ _ Q6.out VP.out X.out).mono ?_
      rintro e w7 ⟨i7, rfl, h7, g7⟩
      have D7 : Grew w6 w7 := Grew.trans (by (repeat' (first | (with_reducible exact Grew.refl _) | (with_reducible assumption) | (with_reducible refine Grew.alloc ?_ _ _) | (with_reducible refine Grew.drew ?_) | (with_reducible refine Grew.drewN ?_ _) | (with_reducible refine Grew.setCell ?_ ?_ _) | go_size))) g7
      have G7 : Grew (w.alloc (.cells #[.int .i64 x.1, .int .i64 x.2] 27)) w7 := Grew.trans G6 D7
      have R7 := Lib.hid (R6.out.grown D7)
      have Q7 := Lib.hid (Q6.out.grown D7)
      have BK07 := Lib.hid (BK06.out.grown D7)
      have BL7 := Lib.hid (BL6.out.grown D7)
      have BH7 := Lib.hid (BH6.out.grown D7)
      clear R6 Q6 BK06 BL6 BH6
      clear g7 D7 G6
      clear x00 x01
      obtain ⟨x00, x01⟩ := blk_two BK07.out
      have H7 := Lib.hid h7
      clear h7
      clear H6 H7
      go_wp2_with fail
      go_loopw [19, 21, 115] (fun _ _ i wr => ∃ (n : Nat) (a b c d : Bool), n ≤ nl ∧ i = .int .i64 n ∧ Grew w7 wr ∧ Blk wr w7.heap.size #[.bool a, .bool b, .bool c, .bool d] 56 ∧ Hid (Fl (Seen L n 0) lo hi a b c d)) (fun _ _ i _ => nl - (intOf i).toNat)
      case atStart => exact ⟨0, false, false, false, false, Nat.zero_le _, rfl, (by (repeat' (first | (with_reducible exact Grew.refl _) | (with_reducible assumption) | (with_reducible refine Grew.alloc ?_ _ _) | (with_reducible refine Grew.drew ?_) | (with_reducible refine Grew.drewN ?_ _) | (with_reducible refine Grew.setCell ?_ ?_ _) | go_size))), Blk.new w7 _ _, Lib.hid (by
        rintro y (⟨j, hj, _⟩ | ⟨m, hm, _⟩) <;> omega)⟩
      case round =>
        obtain ⟨n, a, b, c, d, hn, rfl, GV, HE, HF⟩ := hrel
        have hz := LL.out
        by_cases hlt : n < nl
        · exact absurd (show 0 < nl by omega) d2
        obtain rfl : n = nl := by omega
        have EQ4 := all_four
        obtain ⟨⟨f0, f1, f2, f3⟩, _⟩ := bk4 HE
        clear HE HF
        cases i6
        · go_wp2_with fail
          go_ret
          exact ⟨rfl, GW0.trans (Grew.trans G7 GV)⟩
        go_wp2_with fail
        go_ret
        exact ⟨rfl, GW0.trans (Grew.trans G7 GV)⟩
    obtain ⟨e0, ⟨b0, b1⟩, b2, b3⟩ := HIN.out (H5.out.1 rfl)
    have I5 : Hid (InR L x) := Lib.hid (H5.out.1 rfl)
    clear H5
    exact absurd e0 (by decide)
  have d1 : (0 : Int) < (nl : Int) := of_decide_eq_true eok.symm
  have d2 : 0 < nl := by omega
  clear eok
  have sb0 : w.heap.size < w4.heap.size := BK04.out.lt
  have sb1 : w.heap.size < w4.heap.size + 1 := by omega
  have sb2 : w.heap.size < w4.heap.size + 1 + 1 := by omega
  go_wp2_with fail
  refine (in_c L x _ _ (R4.out.grown (by (repeat' (first | (with_reducible exact Grew.refl _) | (with_reducible assumption) | (with_reducible refine Grew.alloc ?_ _ _) | (with_reducible refine Grew.drew ?_) | (with_reducible refine Grew.drewN ?_ _) | (with_reducible refine Grew.setCell ?_ ?_ _) | go_size)))) VL.out.2 X.out).mono ?_
  rintro e w5 ⟨i5, rfl, h5, g5⟩
  have H5 := Lib.hid h5
  clear h5
  have BL : Hid (Blk w5 (w4.heap.size) #[.int .i64 lo.1, .int .i64 lo.2] 27 ∧ Blk w5 (w4.heap.size + 1) #[.int .i64 hi.1, .int .i64 hi.2] 27) := Lib.hid (by
    refine ⟨Blk.grown ?_ g5, Blk.grown ?_ g5⟩
    · exact (Blk.new w4 _ _).alloc _
    · have h := Blk.new (w4.alloc (.cells #[.int .i64 lo.1, .int .i64 lo.2] 27)) #[.int .i64 hi.1, .int .i64 hi.2] 27
      rw [World.size_alloc] at h
      exact h)
  have D5 : Grew w4 w5 := Grew.trans (by (repeat' (first | (with_reducible exact Grew.refl _) | (with_reducible assumption) | (with_reducible refine Grew.alloc ?_ _ _) | (with_reducible refine Grew.drew ?_) | (with_reducible refine Grew.drewN ?_ _) | (with_reducible refine Grew.setCell ?_ ?_ _) | go_size))) g5
  have G5 : Grew (w.alloc (.cells #[.int .i64 x.1, .int .i64 x.2] 27)) w5 := Grew.trans G4 D5
  have R5 := Lib.hid (R4.out.grown D5)
  have Q5 := Lib.hid (Q4.out.grown D5)
  have BK05 := Lib.hid (BK04.out.grown D5)
  clear R4 Q4 BK04
  clear g5 D5 G4
  clear x00 x01
  obtain ⟨x00, x01⟩ := blk_two BK05.out
  have BL5 := Lib.hid BL.out.1
  have BH5 := Lib.hid BL.out.2
  clear BL
  obtain ⟨y0, y1⟩ := blk_two BL5.out
  obtain ⟨z0, z1⟩ := blk_two BH5.out
  cases i5
  · clear H5
    go_wp2_with fail
    refine (K.within L p _ _ _ R5.out Q5.out LP.out).mono ?_
    rintro e w6 ⟨i6, k6, j6, rfl, g6⟩
    have D6 : Grew w5 w6 := Grew.trans (by (repeat' (first | (with_reducible exact Grew.refl _) | (with_reducible assumption) | (with_reducible refine Grew.alloc ?_ _ _) | (with_reducible refine Grew.drew ?_) | (with_reducible refine Grew.drewN ?_ _) | (with_reducible refine Grew.setCell ?_ ?_ _) | go_size))) g6
    have G6 : Grew (w.alloc (.cells #[.int .i64 x.1, .int .i64 x.2] 27)) w6 := Grew.trans G5 D6
    have R6 := Lib.hid (R5.out.grown D6)
    have Q6 := Lib.hid (Q5.out.grown D6)
    have BK06 := Lib.hid (BK05.out.grown D6)
    have BL6 := Lib.hid (BL5.out.grown D6)
    have BH6 := Lib.hid (BH5.out.grown D6)
    clear R5 Q5 BK05 BL5 BH5
    clear g6 D6 G5
    clear x00 x01
    obtain ⟨x00, x01⟩ := blk_two BK06.out
    clear y0 y1 z0 z1
    rcases j6 with ⟨_, rfl, rfl⟩ | ⟨vp, h6, rfl⟩
    · go_wp2_with fail
      go_ret
      exact ⟨rfl, GW0.trans G6⟩
    have VP := Lib.hid vp.2
    have H6 := Lib.hid h6
    clear vp h6
    go_wp2_with fail
    refine (H.has_ok p x _ _ Q6.out VP.out X.out).mono ?_
    rintro e w7 ⟨i7, rfl, h7, g7⟩
    have D7 : Grew w6 w7 := Grew.trans (by (repeat' (first | (with_reducible exact Grew.refl _) | (with_reducible assumption) | (with_reducible refine Grew.alloc ?_ _ _) | (with_reducible refine Grew.drew ?_) | (with_reducible refine Grew.drewN ?_ _) | (with_reducible refine Grew.setCell ?_ ?_ _) | go_size))) g7
    have G7 : Grew (w.alloc (.cells #[.int .i64 x.1, .int .i64 x.2] 27)) w7 := Grew.trans G6 D7
    have R7 := Lib.hid (R6.out.grown D7)
    have Q7 := Lib.hid (Q6.out.grown D7)
    have BK07 := Lib.hid (BK06.out.grown D7)
    have BL7 := Lib.hid (BL6.out.grown D7)
    have BH7 := Lib.hid (BH6.out.grown D7)
    clear R6 Q6 BK06 BL6 BH6
    clear g7 D7 G6
    clear x00 x01
    obtain ⟨x00, x01⟩ := blk_two BK07.out
    have H7 := Lib.hid h7
    clear h7
    clear H6 H7
    go_wp2_with fail
    go_loopw [19, 21, 115] (fun _ _ i wr => ∃ (n : Nat) (a b c d : Bool), n ≤ nl ∧ i = .int .i64 n ∧ Grew w7 wr ∧ Blk wr w7.heap.size #[.bool a, .bool b, .bool c, .bool d] 56 ∧ Hid (Fl (Seen L n 0) lo hi a b c d)) (fun _ _ i _ => nl - (intOf i).toNat)
    case atStart => exact ⟨0, false, false, false, false, Nat.zero_le _, rfl, (by (repeat' (first | (with_reducible exact Grew.refl _) | (with_reducible assumption) | (with_reducible refine Grew.alloc ?_ _ _) | (with_reducible refine Grew.drew ?_) | (with_reducible refine Grew.drewN ?_ _) | (with_reducible refine Grew.setCell ?_ ?_ _) | go_size))), Blk.new w7 _ _, Lib.hid (by
      rintro y (⟨j, hj, _⟩ | ⟨m, hm, _⟩) <;> omega)⟩
    case round =>
      obtain ⟨n, a, b, c, d, hn, rfl, GV, HE, HF⟩ := hrel
      have hz := LL.out
      by_cases hlt : n < nl
      · obtain ⟨ub, uo, rfl, hub, z0⟩ := RR.out n _ hlt (Grew.trans GW0 (Grew.trans G7 GV))
        have hv := VL.out.2 _ (nth_mem (show n < L.length by have := EN.out; omega))
        obtain ⟨qb, qo, qc, eu, hrow⟩ := RW.out n hlt hv
        have HROW0 := Lib.hid hrow
        have hnl : (nth L n).length ≤ 80 := Nat.le_trans hv.1.2 (by omega)
        clear hrow hv
        rw [eu] at z0
        have i0 : (0 : Int) ≤ (n : Int) := by omega
        have i1 : (n : Int) < (nl : Int) := by omega
        obtain ⟨V1, hV1⟩ : ∃ V1, V1 = wr := ⟨wr, rfl⟩
        subst hV1
        go_wp2_with fail
        go_loopw [21, 121] (fun _ i wz => ∃ (m : Nat) (a' b' c' d' : Bool), m ≤ (nth L n).length ∧ i = .int .i64 m ∧ Grew w7 wz ∧ Blk wz w7.heap.size #[.bool a', .bool b', .bool c', .bool d'] 56 ∧ Hid (Fl (Seen L n m) lo hi a' b' c' d')) (fun _ i _ => (nth L n).length - (intOf i).toNat)
        case atStart => exact ⟨0, a, b, c, d, Nat.zero_le _, rfl, GV, HE, HF⟩
        case round =>
          clear HE HF
          obtain ⟨m, a', b', c', d', hm, rfl, GZ, HE, HF⟩ := hrel
          by_cases hlm : m < (nth L n).length
          · have GA := Grew.trans GW0 (Grew.trans G7 GZ)
            obtain ⟨q0, q1⟩ := (HROW0.out.grown GA).2 m hlm
            have j0 : (0 : Int) ≤ (m : Int) := by omega
            have j1 : (m : Int) < ((nth L n).length : Int) := by omega
            obtain ⟨px, py, epx⟩ : ∃ px py, at' (nth L n) m = (px, py) := ⟨_, _, rfl⟩
            rw [epx] at q0 q1
            simp only at q0 q1
            have BLz := BL7.out.grown GZ
            have BHz := BH7.out.grown GZ
            go_wp2_with fail
            refine gen_world (fun W2 => Blk W2 wr.heap.size #[.int .i64 px, .int .i64 py] 27 ∧ Blk W2 w7.heap.size #[.bool a', .bool b', .bool c', .bool d'] 56 ∧ Blk W2 (w4.heap.size) #[.int .i64 lo.1, .int .i64 lo.2] 27 ∧ Blk W2 (w4.heap.size + 1) #[.int .i64 hi.1, .int .i64 hi.2] 27 ∧ Grew w7 W2) ⟨?_, ?_, ?_, ?_, ?_⟩ ?_
            · exact Blk.new wr _ _
            · exact HE.alloc _
            · exact BLz.alloc _
            · exact BHz.alloc _
            · exact (by (repeat' (first | (with_reducible exact Grew.refl _) | (with_reducible assumption) | (with_reducible refine Grew.alloc ?_ _ _) | (with_reducible refine Grew.drew ?_) | (with_reducible refine Grew.drewN ?_ _) | (with_reducible refine Grew.setCell ?_ ?_ _) | go_size)))
            have o1 := HE.lt
            have o2 := BL7.out.lt
            have o3 := BH7.out.lt
            have n1 : ¬ wr.heap.size = w7.heap.size := by omega
            have n2 : ¬ w4.heap.size = w7.heap.size := by omega
            have n3 : ¬ w4.heap.size + 1 = w7.heap.size := by omega
            clear q0 q1 HE BLz BHz z0 x00 x01
            rintro W2 ⟨C2, E2, L2, H2, G2⟩
            have ne1 := E2.lt
            have ne2 := L2.lt
            have ne3 := H2.lt
            have ne4 := C2.lt
            obtain ⟨c0, c1⟩ := blk_two C2
            obtain ⟨l0, l1⟩ := blk_two L2
            obtain ⟨h0, h1⟩ := blk_two H2
            obtain ⟨⟨f0, f1, f2, f3⟩, f4, f5, f6, f7⟩ := bk4 E2
            obtain ⟨ea, hea⟩ : ∃ ea, ea = (a' || px == lo.1) := ⟨_, rfl⟩
            obtain ⟨eb, heb⟩ : ∃ eb, eb = (b' || px == hi.1) := ⟨_, rfl⟩
            obtain ⟨ec, hec⟩ : ∃ ec, ec = (c' || py == lo.2) := ⟨_, rfl⟩
            obtain ⟨ed, hed⟩ : ∃ ed, ed = (d' || py == hi.2) := ⟨_, rfl⟩
            have FN : Hid (Fl (Seen L n (m + 1)) lo hi ea eb ec ed) := Lib.hid (by
              rw [hea, heb, hec, hed]
              exact HF.out.step (z := (px, py)) (fun y hy => by have := seen_next y hy; rwa [epx] at this))
            have HEA := Lib.hid hea
            have HEB := Lib.hid heb
            have HEC := Lib.hid hec
            have HED := Lib.hid hed
            clear hea heb hec hed HF epx
            have KC := Lib.hid C2
            have KE := Lib.hid E2
            have KL := Lib.hid L2
            have KH := Lib.hid H2
            clear C2 E2 L2 H2
            go_cut [] from 125 to 144 (fun W3 => (Blk W3 wr.heap.size #[.int .i64 px, .int .i64 py] 27 ∧ Blk W3 w7.heap.size #[.bool ea, .bool eb, .bool c', .bool d'] 56 ∧ Blk W3 (w4.heap.size) #[.int .i64 lo.1, .int .i64 lo.2] 27 ∧ Blk W3 (w4.heap.size + 1) #[.int .i64 hi.1, .int .i64 hi.2] 27 ∧ Grew w7 W3))
            case first =>
              cases a' <;> cases b'
              all_goals go_region_o
              all_goals (go_wp2_with fail; go_meet)
              all_goals exact ⟨(KC.out.other n1 _).other n1 _, (by rw [HEA.out, HEB.out]; exact (KE.out.set (o := 0) _).set (o := 1) _), (KL.out.other n2 _).other n2 _, (KH.out.other n3 _).other n3 _, (by (repeat' (first | (with_reducible exact Grew.refl _) | (with_reducible assumption) | (with_reducible refine Grew.alloc ?_ _ _) | (with_reducible refine Grew.drew ?_) | (with_reducible refine Grew.drewN ?_ _) | (with_reducible refine Grew.setCell ?_ ?_ _) | go_size)))⟩
            case rest =>
              obtain ⟨C2, E2, L2, H2, G3⟩ := hcut
              clear KC KE KL KH c0 c1 l0 l1 h0 h1 f0 f1 f2 f3 f4 f5 f6 f7 G2 HEA HEB ne1 ne2 ne3 ne4
              have ne1 := E2.lt
              have ne2 := L2.lt
              have ne3 := H2.lt
              have ne4 := C2.lt
              obtain ⟨c0, c1⟩ := blk_two C2
              obtain ⟨l0, l1⟩ := blk_two L2
              obtain ⟨h0, h1⟩ := blk_two H2
              obtain ⟨⟨f0, f1, f2, f3⟩, f4, f5, f6, f7⟩ := bk4 E2
              have KE := Lib.hid E2
              clear C2 E2 L2 H2
              go_wp2_with fail
              cases c' <;> cases d'
              all_goals go_region_o
              all_goals go_wp2_with fail
              all_goals refine ⟨⟨m + 1, ea, eb, ec, ed, by omega, by go_num, (by (repeat' (first | (with_reducible exact Grew.refl _) | (with_reducible assumption) | (with_reducible refine Grew.alloc ?_ _ _) | (with_reducible refine Grew.drew ?_) | (with_reducible refine Grew.drewN ?_ _) | (with_reducible refine Grew.setCell ?_ ?_ _) | go_size))), (by rw [HEC.out, HED.out]; exact (KE.out.set (o := 2) _).set (o := 3) _), FN⟩, by simp [intOf]; omega⟩
          obtain rfl : m = (nth L n).length := by omega
          go_wp2_with fail
          exact ⟨⟨n + 1, a', b', c', d', by omega, by go_num, GZ, HE, Lib.hid (HF.out.sub seen_row)⟩, by simp [intOf]; omega⟩
      obtain rfl : n = nl := by omega
      obtain ⟨rfl, rfl, rfl, rfl⟩ := fl_all (by have h := HF.out; rw [EN.out] at h; exact h) (HBX.out (by first | exact trivial | rfl))
      have EQ4 := all_four
      obtain ⟨⟨f0, f1, f2, f3⟩, _⟩ := bk4 HE
      clear HE HF
      cases i6
      · go_wp2_with fail
        go_ret
        exact ⟨rfl, GW0.trans (Grew.trans G7 GV)⟩
      go_wp2_with fail
      go_ret
      exact ⟨rfl, GW0.trans (Grew.trans G7 GV)⟩
  obtain ⟨e0, ⟨b0, b1⟩, b2, b3⟩ := HIN.out (H5.out.1 rfl)
  have I5 : Hid (InR L x) := Lib.hid (H5.out.1 rfl)
  clear H5
  clear e0
  go_wp2_with fail
  refine (K.within L p _ _ _ R5.out Q5.out LP.out).mono ?_
  rintro e w6 ⟨i6, k6, j6, rfl, g6⟩
  have D6 : Grew w5 w6 := Grew.trans (by (repeat' (first | (with_reducible exact Grew.refl _) | (with_reducible assumption) | (with_reducible refine Grew.alloc ?_ _ _) | (with_reducible refine Grew.drew ?_) | (with_reducible refine Grew.drewN ?_ _) | (with_reducible refine Grew.setCell ?_ ?_ _) | go_size))) g6
  have G6 : Grew (w.alloc (.cells #[.int .i64 x.1, .int .i64 x.2] 27)) w6 := Grew.trans G5 D6
  have R6 := Lib.hid (R5.out.grown D6)
  have Q6 := Lib.hid (Q5.out.grown D6)
  have BK06 := Lib.hid (BK05.out.grown D6)
  have BL6 := Lib.hid (BL5.out.grown D6)
  have BH6 := Lib.hid (BH5.out.grown D6)
  clear R5 Q5 BK05 BL5 BH5
  clear g6 D6 G5
  clear x00 x01
  obtain ⟨x00, x01⟩ := blk_two BK06.out
  clear y0 y1 z0 z1
  rcases j6 with ⟨_, rfl, rfl⟩ | ⟨vp, h6, rfl⟩
  · go_wp2_with fail
    go_ret
    exact ⟨rfl, GW0.trans G6⟩
  have VP := Lib.hid vp.2
  have H6 := Lib.hid h6
  clear vp h6
  go_wp2_with fail
  refine (H.has_ok p x _ _ Q6.out VP.out X.out).mono ?_
  rintro e w7 ⟨i7, rfl, h7, g7⟩
  have D7 : Grew w6 w7 := Grew.trans (by (repeat' (first | (with_reducible exact Grew.refl _) | (with_reducible assumption) | (with_reducible refine Grew.alloc ?_ _ _) | (with_reducible refine Grew.drew ?_) | (with_reducible refine Grew.drewN ?_ _) | (with_reducible refine Grew.setCell ?_ ?_ _) | go_size))) g7
  have G7 : Grew (w.alloc (.cells #[.int .i64 x.1, .int .i64 x.2] 27)) w7 := Grew.trans G6 D7
  have R7 := Lib.hid (R6.out.grown D7)
  have Q7 := Lib.hid (Q6.out.grown D7)
  have BK07 := Lib.hid (BK06.out.grown D7)
  have BL7 := Lib.hid (BL6.out.grown D7)
  have BH7 := Lib.hid (BH6.out.grown D7)
  clear R6 Q6 BK06 BL6 BH6
  clear g7 D7 G6
  clear x00 x01
  obtain ⟨x00, x01⟩ := blk_two BK07.out
  have H7 := Lib.hid h7
  clear h7
  have PASS : Hid (i6 = true → i7 = true) := Lib.hid (fun b => H7.out.2 (by
    obtain ⟨q, hq, hx⟩ := I5.out
    exact lies_has (VL.out.2 q hq).pg VP.out.pg (H6.out.1 b q hq) hx))
  clear H6 H7 I5
  go_wp2_with fail
  go_loopw [19, 21, 115] (fun _ _ i wr => ∃ (n : Nat) (a b c d : Bool), n ≤ nl ∧ i = .int .i64 n ∧ Grew w7 wr ∧ Blk wr w7.heap.size #[.bool a, .bool b, .bool c, .bool d] 56 ∧ Hid (Fl (Seen L n 0) lo hi a b c d)) (fun _ _ i _ => nl - (intOf i).toNat)
  case atStart => exact ⟨0, false, false, false, false, Nat.zero_le _, rfl, (by (repeat' (first | (with_reducible exact Grew.refl _) | (with_reducible assumption) | (with_reducible refine Grew.alloc ?_ _ _) | (with_reducible refine Grew.drew ?_) | (with_reducible refine Grew.drewN ?_ _) | (with_reducible refine Grew.setCell ?_ ?_ _) | go_size))), Blk.new w7 _ _, Lib.hid (by
    rintro y (⟨j, hj, _⟩ | ⟨m, hm, _⟩) <;> omega)⟩
  case round =>
    obtain ⟨n, a, b, c, d, hn, rfl, GV, HE, HF⟩ := hrel
    have hz := LL.out
    by_cases hlt : n < nl
    · obtain ⟨ub, uo, rfl, hub, z0⟩ := RR.out n _ hlt (Grew.trans GW0 (Grew.trans G7 GV))
      have hv := VL.out.2 _ (nth_mem (show n < L.length by have := EN.out; omega))
      obtain ⟨qb, qo, qc, eu, hrow⟩ := RW.out n hlt hv
      have HROW0 := Lib.hid hrow
      have hnl : (nth L n).length ≤ 80 := Nat.le_trans hv.1.2 (by omega)
      clear hrow hv
      rw [eu] at z0
      have i0 : (0 : Int) ≤ (n : Int) := by omega
      have i1 : (n : Int) < (nl : Int) := by omega
      obtain ⟨V1, hV1⟩ : ∃ V1, V1 = wr := ⟨wr, rfl⟩
      subst hV1
      go_wp2_with fail
      go_loopw [21, 121] (fun _ i wz => ∃ (m : Nat) (a' b' c' d' : Bool), m ≤ (nth L n).length ∧ i = .int .i64 m ∧ Grew w7 wz ∧ Blk wz w7.heap.size #[.bool a', .bool b', .bool c', .bool d'] 56 ∧ Hid (Fl (Seen L n m) lo hi a' b' c' d')) (fun _ i _ => (nth L n).length - (intOf i).toNat)
      case atStart => exact ⟨0, a, b, c, d, Nat.zero_le _, rfl, GV, HE, HF⟩
      case round =>
        clear HE HF
        obtain ⟨m, a', b', c', d', hm, rfl, GZ, HE, HF⟩ := hrel
        by_cases hlm : m < (nth L n).length
        · have GA := Grew.trans GW0 (Grew.trans G7 GZ)
          obtain ⟨q0, q1⟩ := (HROW0.out.grown GA).2 m hlm
          have j0 : (0 : Int) ≤ (m : Int) := by omega
          have j1 : (m : Int) < ((nth L n).length : Int) := by omega
          obtain ⟨px, py, epx⟩ : ∃ px py, at' (nth L n) m = (px, py) := ⟨_, _, rfl⟩
          rw [epx] at q0 q1
          simp only at q0 q1
          have BLz := BL7.out.grown GZ
          have BHz := BH7.out.grown GZ
          go_wp2_with fail
          refine gen_world (fun W2 => Blk W2 wr.heap.size #[.int .i64 px, .int .i64 py] 27 ∧ Blk W2 w7.heap.size #[.bool a', .bool b', .bool c', .bool d'] 56 ∧ Blk W2 (w4.heap.size) #[.int .i64 lo.1, .int .i64 lo.2] 27 ∧ Blk W2 (w4.heap.size + 1) #[.int .i64 hi.1, .int .i64 hi.2] 27 ∧ Grew w7 W2) ⟨?_, ?_, ?_, ?_, ?_⟩ ?_
          · exact Blk.new wr _ _
          · exact HE.alloc _
          · exact BLz.alloc _
          · exact BHz.alloc _
          · exact (by (repeat' (first | (with_reducible exact Grew.refl _) | (with_reducible assumption) | (with_reducible refine Grew.alloc ?_ _ _) | (with_reducible refine Grew.drew ?_) | (with_reducible refine Grew.drewN ?_ _) | (with_reducible refine Grew.setCell ?_ ?_ _) | go_size)))
          have o1 := HE.lt
          have o2 := BL7.out.lt
          have o3 := BH7.out.lt
          have n1 : ¬ wr.heap.size = w7.heap.size := by omega
          have n2 : ¬ w4.heap.size = w7.heap.size := by omega
          have n3 : ¬ w4.heap.size + 1 = w7.heap.size := by omega
          clear q0 q1 HE BLz BHz z0 x00 x01
          rintro W2 ⟨C2, E2, L2, H2, G2⟩
          have ne1 := E2.lt
          have ne2 := L2.lt
          have ne3 := H2.lt
          have ne4 := C2.lt
          obtain ⟨c0, c1⟩ := blk_two C2
          obtain ⟨l0, l1⟩ := blk_two L2
          obtain ⟨h0, h1⟩ := blk_two H2
          obtain ⟨⟨f0, f1, f2, f3⟩, f4, f5, f6, f7⟩ := bk4 E2
          obtain ⟨ea, hea⟩ : ∃ ea, ea = (a' || px == lo.1) := ⟨_, rfl⟩
          obtain ⟨eb, heb⟩ : ∃ eb, eb = (b' || px == hi.1) := ⟨_, rfl⟩
          obtain ⟨ec, hec⟩ : ∃ ec, ec = (c' || py == lo.2) := ⟨_, rfl⟩
          obtain ⟨ed, hed⟩ : ∃ ed, ed = (d' || py == hi.2) := ⟨_, rfl⟩
          have FN : Hid (Fl (Seen L n (m + 1)) lo hi ea eb ec ed) := Lib.hid (by
            rw [hea, heb, hec, hed]
            exact HF.out.step (z := (px, py)) (fun y hy => by have := seen_next y hy; rwa [epx] at this))
          have HEA := Lib.hid hea
          have HEB := Lib.hid heb
          have HEC := Lib.hid hec
          have HED := Lib.hid hed
          clear hea heb hec hed HF epx
          have KC := Lib.hid C2
          have KE := Lib.hid E2
          have KL := Lib.hid L2
          have KH := Lib.hid H2
          clear C2 E2 L2 H2
          go_cut [] from 125 to 144 (fun W3 => (Blk W3 wr.heap.size #[.int .i64 px, .int .i64 py] 27 ∧ Blk W3 w7.heap.size #[.bool ea, .bool eb, .bool c', .bool d'] 56 ∧ Blk W3 (w4.heap.size) #[.int .i64 lo.1, .int .i64 lo.2] 27 ∧ Blk W3 (w4.heap.size + 1) #[.int .i64 hi.1, .int .i64 hi.2] 27 ∧ Grew w7 W3))
          case first =>
            cases a' <;> cases b'
            all_goals go_region_o
            all_goals (go_wp2_with fail; go_meet)
            all_goals exact ⟨(KC.out.other n1 _).other n1 _, (by rw [HEA.out, HEB.out]; exact (KE.out.set (o := 0) _).set (o := 1) _), (KL.out.other n2 _).other n2 _, (KH.out.other n3 _).other n3 _, (by (repeat' (first | (with_reducible exact Grew.refl _) | (with_reducible assumption) | (with_reducible refine Grew.alloc ?_ _ _) | (with_reducible refine Grew.drew ?_) | (with_reducible refine Grew.drewN ?_ _) | (with_reducible refine Grew.setCell ?_ ?_ _) | go_size)))⟩
          case rest =>
            obtain ⟨C2, E2, L2, H2, G3⟩ := hcut
            clear KC KE KL KH c0 c1 l0 l1 h0 h1 f0 f1 f2 f3 f4 f5 f6 f7 G2 HEA HEB ne1 ne2 ne3 ne4
            have ne1 := E2.lt
            have ne2 := L2.lt
            have ne3 := H2.lt
            have ne4 := C2.lt
            obtain ⟨c0, c1⟩ := blk_two C2
            obtain ⟨l0, l1⟩ := blk_two L2
            obtain ⟨h0, h1⟩ := blk_two H2
            obtain ⟨⟨f0, f1, f2, f3⟩, f4, f5, f6, f7⟩ := bk4 E2
            have KE := Lib.hid E2
            clear C2 E2 L2 H2
            go_wp2_with fail
            cases c' <;> cases d'
            all_goals go_region_o
            all_goals go_wp2_with fail
            all_goals refine ⟨⟨m + 1, ea, eb, ec, ed, by omega, by go_num, (by (repeat' (first | (with_reducible exact Grew.refl _) | (with_reducible assumption) | (with_reducible refine Grew.alloc ?_ _ _) | (with_reducible refine Grew.drew ?_) | (with_reducible refine Grew.drewN ?_ _) | (with_reducible refine Grew.setCell ?_ ?_ _) | go_size))), (by rw [HEC.out, HED.out]; exact (KE.out.set (o := 2) _).set (o := 3) _), FN⟩, by simp [intOf]; omega⟩
        obtain rfl : m = (nth L n).length := by omega
        go_wp2_with fail
        exact ⟨⟨n + 1, a', b', c', d', by omega, by go_num, GZ, HE, Lib.hid (HF.out.sub seen_row)⟩, by simp [intOf]; omega⟩
    obtain rfl : n = nl := by omega
    obtain ⟨rfl, rfl, rfl, rfl⟩ := fl_all (by have h := HF.out; rw [EN.out] at h; exact h) (HBX.out (by first | exact trivial | rfl))
    have EQ4 := all_four
    obtain ⟨⟨f0, f1, f2, f3⟩, _⟩ := bk4 HE
    clear HE HF
    cases i6
    · go_wp2_with fail
      go_ret
      exact ⟨rfl, GW0.trans (Grew.trans G7 GV)⟩
    obtain rfl : i7 = true := PASS.out rfl
    go_wp2_with fail
    go_ret
    exact ⟨rfl, GW0.trans (Grew.trans G7 GV)⟩
end Rg
end Go.Proofs.YtlookcbokhknfaaGreat
