/-
  All corners of points, one after the other.
-/
import Derived.Test.YtpiajdahmcelnaaGreatMHullNxt
import Derived.Test.YtpiajdahmcelnaaGreatMHullOwn
namespace Go.Proofs.YtpiajdahmcelnaaGreat
open Go.RowKit
namespace Hl
theorem own_one {B : Nat} (w : World) (x : Pt) (hB : B ≤ w.heap.size) : Own B (w.alloc (.cells #[.int .i64 x.1, .int .i64 x.2] 30)) (.slice (some ⟨w.heap.size, 0, none⟩) 1 1) [x] :=
  ⟨rfl, Or.inr ⟨w.heap.size, 1, #[.int .i64 x.1, .int .i64 x.2], rfl, hB, heap_alloc_new w _, Nat.le_refl _, by unfold maxLen; omega, rfl, rfl⟩⟩
/-- The slice's own block lies before this one. -/
def Fore (v : Value) (n : Nat) : Prop := ∀ g, v.ownBlock = some g → g < n
theorem Fore.ne {v : Value} {n : Nat} (h : Fore v n) : some n ≠ v.ownBlock := fun e => by have := h n e.symm; omega
theorem Own.ne {B : Nat} {w : World} {v : Value} {p : List Pt} (h : Own B w v p) {g : Nat} (hg : g < B) : some g ≠ v.ownBlock := fun e => by have := (World.ownsRow.lt h _ e.symm).1; omega
theorem Own.set {B : Nat} {w : World} {v : Value} {p : List Pt} (h : Own B w v p) {a : Addr} (hne : some a.block ≠ v.ownBlock) (x : Value) : Own B (w.setCell a x) v p :=
  World.ownsRow.kept h (row := some a.block) ⟨rfl, rfl, rfl, by simp [World.setCell], fun k _ hk => Below.heap_setCell w a x k (fun e => hk (by rw [e]))⟩ (Or.inr (fun e => hne e.symm))
theorem append_one {ops : Array Oper} {rest : List Oper} {o : Oper} {a : Act} {Q : Exit → Act → World → Prop} (w : World) (hgd : o.guard = none) (s x : Operand)
    (ho : o.op = .call { callee := .builtin .append, args := #[s, x], argTypes := #[38, 38] }) (B : Nat) (v : Value) (p : List Pt) (y : Pt) (wb c : Nat)
    (hs : a.eval s = v) (hown : Own B w v p) (hx : a.eval x = .slice (some ⟨wb, 0, none⟩) 1 c) (hr : Row w wb 0 [y]) (hl : p.length ≤ 4000000) (hB : B ≤ w.heap.size)
    (h : ∀ v' w', Own B w' v' (p ++ [y]) → (∀ W : World, W.heap.size ≤ B → Grew W w → Grew W w') → Fore v' w'.heap.size → w.heap.size ≤ w'.heap.size → (∀ b, b < w.heap.size → some b ≠ v.ownBlock → ∀ i, w'.cell? ⟨b, i, none⟩ = w.cell? ⟨b, i, none⟩ ∧ w'.frozen? ⟨b, i, none⟩ = w.frozen? ⟨b, i, none⟩) → wpList Tryz.prog ops Q rest (a.put o.dst v') w') : wpList Tryz.prog ops Q (o :: rest) a w := by
  obtain ⟨i0, hi, hz0, hz1, hz2⟩ := info_parts info_pt
  refine wpList_append_own w hgd s x 38 ho B 30 i0 (.agg #[.int .i64 0, .int .i64 0]) 2 16 Tryz.underlying38 hi hz0 hz1 hz2 rfl (by decide) v p.length (cellsOf p) hs hown ⟨wb, 0, none⟩ 1 c (cellsOf [y]) hx rfl (row_cells hr) (cells_one [y]) (by unfold maxLen; omega) (by omega) hB ?_
  intro v' w' h1 h2 _
  refine h v' w' ?_ (fun W hW g => Grew.grown g h2 (fun k hk => Nat.le_trans hW (World.ownsRow.lt hown k hk).1)) (fun g hg => (World.ownsRow.lt h1 g hg).2) h2.size (fun b hb hne i => ⟨World.cell?_of_block (a := ⟨b, i, none⟩) (h2.block b hb hne), World.frozen?_of_block (a := ⟨b, i, none⟩) (h2.block b hb hne)⟩)
  unfold Own
  rw [cellsOf_append, List.length_append]
  exact h1
def lenS : Value → Nat
  | .slice _ n _ => n
  | _ => 0
theorem Own.len {B : Nat} {w : World} {v : Value} {p : List Pt} (h : Own B w v p) : lenS v = p.length := by
  obtain ⟨a, c, e⟩ := h.sl.shape
  rw [e]; rfl
/-- What has been collected: the first k corners; the first one has not come again. -/
def IsPre (f : Pt) (l : List Pt) (k : Nat) (po : List Pt) : Prop := po.length = k ∧ 1 ≤ k ∧ (∀ i, i < k → at' po i = X f l i) ∧ ∀ i, 1 ≤ i → i < k → X f l i ≠ f
theorem IsPre.one (f : Pt) (l : List Pt) : IsPre f l 1 [f] := ⟨rfl, Nat.le_refl _, fun i hi => by
  obtain rfl : i = 0 := by omega
  rfl, fun i h1 h2 => by omega⟩
theorem IsPre.more {f : Pt} {l : List Pt} {k : Nat} {po : List Pt} (h : IsPre f l k po) (hne : X f l k ≠ f) : IsPre f l (k + 1) (po ++ [X f l k]) := by
  obtain ⟨h1, h2, h3, h4⟩ := h
  refine ⟨by simp [h1], by omega, fun i hi => ?_, fun i hi1 hi => ?_⟩
  · by_cases e : i = k
    · have := at_last po (X f l k)
      rw [h1] at this
      rw [e]; exact this
    · rw [at_append (by omega)]; exact h3 i (by omega)
  · by_cases e : i = k
    · rw [e]; exact hne
    · exact h4 i hi1 (by omega)
theorem IsPre.few {f : Pt} {l : List Pt} {k : Nat} {po : List Pt} (h : IsPre f l k po) (hf : f ∈ l) (h0 : ∀ z, z ∈ l → z ≠ f → ls f z) (hk : X f l k ≠ f) : k + 1 ≤ l.length := by
  have hne : ∃ z, z ∈ l ∧ z ≠ f := by
    by_cases hh : ∃ z, z ∈ l ∧ z ≠ f
    · exact hh
    · exfalso
      have all : ∀ z, z ∈ l → z = f := fun z hz => by
        by_cases e : z = f
        · exact e
        · exact absurd ⟨z, hz, e⟩ hh
      have x1 : ∀ i, X f l i = f := by
        intro i
        induction i with
        | zero => rfl
        | succ i ih =>
          have e : X f l (i + 1) = NX (X f l i) l := rfl
          rw [e, ih]
          rcases best_all (f := f) (l := l) 0 0 0 (fun z hz hzf => absurd (all z hz) hzf) with ⟨a, _⟩ | ⟨a, b, _⟩
          · exact a
          · exact all _ b
      exact hk (x1 k)
  exact X_few hf h0 hne (k := k + 1) (fun i h1 h2 => by
    by_cases e : i = k
    · rw [e]; exact hk
    · exact h.2.2.2 i h1 (by omega))
theorem IsPre.hull {f : Pt} {l : List Pt} {k : Nat} {po : List Pt} (h : IsPre f l k po) (hf : f ∈ l) (h0 : ∀ z, z ∈ l → z ≠ f → ls f z) (hk : X f l k = f) : IsHull l po := by
  by_cases hne : ∃ z, z ∈ l ∧ z ≠ f
  · exact X_hull hf h0 hne h.2.1 h.2.2.2 hk h.1 h.2.2.1
  · have all : ∀ z, z ∈ l → z = f := fun z hz => by
      by_cases e : z = f
      · exact e
      · exact absurd ⟨z, hz, e⟩ hne
    have x1 : X f l 1 = f := by
      have e : X f l 1 = NX f l := rfl
      rw [e]
      rcases best_all (f := f) (l := l) 0 0 0 (fun z hz hzf => absurd (all z hz) hzf) with ⟨a, _⟩ | ⟨_, b, _⟩
      · exact a
      · exact all _ b
    have k1 : k = 1 := by
      by_cases e : 1 < k
      · exact absurd x1 (h.2.2.2 1 (Nat.le_refl _) e)
      · have := h.2.1; omega
    subst k1
    have e0 : at' po 0 = f := h.2.2.1 0 (by omega)
    refine ⟨⟨by have := h.1; omega, fun i h1 h2 => by have := h.1; omega, fun h2 => by have := h.1; omega⟩, fun x hx => ?_, fun y hy => (hs1 h.1).2 (e0.trans (all y hy).symm)⟩
    obtain ⟨i, hi, e⟩ := mem_at hx
    obtain rfl : i = 0 := by have := h.1; omega
    rw [← e, e0]; exact hf
theorem X_plc {f : Pt} {l : List Pt} (hf : Pw f) (hl : Pws l) : ∀ k, Pw (X f l k)
  | 0 => hf
  | k + 1 => by
    have e : X f l (k + 1) = NX (X f l k) l := rfl
    rw [e]
    exact IsFX.plc (k := l.length) (X_plc hf hl k) hl (by unfold IsFX NX; rw [List.take_length]) (Nat.le_refl _)
def AroundSays (l : List Pt) (w : World) (e : Ending) (w' : World) : Prop := ∃ v q, IsHull l q ∧ e = .returned v ∧ Sl w' v q ∧ Grew w w'
set_option maxRecDepth 100000 in
set_option maxHeartbeats 4000000 in
theorem around_w (l : List Pt) (b o c : Nat) (w : World) (hr : Row w b o l) (h1 : 1 ≤ l.length) (h2 : l.length ≤ 4000000) (hl : Pws l) : Calls Tryz.prog 40 #[.slice (some ⟨b, o, none⟩) l.length c] w (AroundSays l w) := by
  have HR := Lib.hid hr
  have PL := Lib.hid hl
  have L1 := Lib.hid h1
  have L2 : Hid (l.length ≤ 9223372036854775807) := Lib.hid (by omega)
  have n0 : ((l.length : Int) == 0) = false := by rw [beq_eq_false_iff_ne]; omega
  clear hr hl h1
  go_enter Tryz.func40, Tryz.ntmps40
  go_wp2_with fail
  refine (least_any l b o c _ HR.out L1.out L2.out).mono ?_
  rintro e w1 ⟨f, rfl, ⟨hf, hmin⟩, G1⟩
  have HF := Lib.hid hf
  have HM := Lib.hid hmin
  have PF : Hid (Pw f) := Lib.hid (by
    obtain ⟨j, hj, e⟩ := mem_at hf
    rw [← e]; exact PL.out j hj)
  clear hf hmin n0
  go_wp2_with fail
  refine (next_any l f b o c _ (HR.out.grown (Grew.trans G1 (by (repeat' (first | (with_reducible exact Grew.refl _) | (with_reducible assumption) | (with_reducible refine Grew.alloc ?_ _ _) | (with_reducible refine Grew.drew ?_) | (with_reducible refine Grew.drewN ?_ _) | (with_reducible refine Grew.setCell ?_ ?_ _) | go_size))))) PL.out PF.out L2.out).mono ?_
  rintro e w2 ⟨rfl, g2⟩
  have own2 : Own (w1.heap.size + 1) w2 (.slice (some ⟨w1.heap.size + 1, 0, none⟩) 1 1) [f] := by
    have t := Own.grew (own_one (B := w1.heap.size + 1) (w1.alloc (.cells #[.int .i64 f.1, .int .i64 f.2] 30)) f (by simp)) g2
    rwa [World.size_alloc] at t
  obtain ⟨c2, f2, z2⟩ := laid g2
  try simp at z2
  have R2 : Grew w1 w2 := Grew.trans (by (repeat' (first | (with_reducible exact Grew.refl _) | (with_reducible assumption) | (with_reducible refine Grew.alloc ?_ _ _) | (with_reducible refine Grew.drew ?_) | (with_reducible refine Grew.drewN ?_ _) | (with_reducible refine Grew.setCell ?_ ?_ _) | go_size))) g2
  clear g2
  have b0 : w1.heap.size < w2.heap.size := by omega
  have b1 : w1.heap.size + 1 < w2.heap.size := by omega
  go_wp2_with fail
  go_loopw [4, 5] (fun s4 t5 wr => ∃ (k : Nat) (po : List Pt) (xb : Nat), t5 = .pointer (some ⟨xb, 0, none⟩) ∧ xb < wr.heap.size ∧ w1.heap.size + 1 < wr.heap.size ∧ w1.heap.size < xb ∧ Grew w1 wr ∧ (wr.cell? ⟨w1.heap.size, 0, none⟩ = some (.int .i64 f.1) ∧ wr.cell? ⟨w1.heap.size, 1, none⟩ = some (.int .i64 f.2)) ∧ (wr.cell? ⟨xb, 0, none⟩ = some (.int .i64 (X f l k).1) ∧ wr.cell? ⟨xb, 1, none⟩ = some (.int .i64 (X f l k).2)) ∧ (wr.frozen? ⟨xb, 0, none⟩ = false ∧ wr.frozen? ⟨xb, 1, none⟩ = false) ∧ Own (w1.heap.size + 1) wr s4 po ∧ Fore s4 xb ∧ IsPre f l k po) (fun s4 _ _ => l.length + 1 - lenS s4)
  case atStart => exact ⟨1, [f], w2.heap.size, rfl, by simp, by simp; omega, by omega, by (repeat' (first | (with_reducible exact Grew.refl _) | (with_reducible assumption) | (with_reducible refine Grew.alloc ?_ _ _) | (with_reducible refine Grew.drew ?_) | (with_reducible refine Grew.drewN ?_ _) | (with_reducible refine Grew.setCell ?_ ?_ _) | go_size)), ⟨by simp [go_sem, *], by simp [go_sem, *]⟩, ⟨by simp [go_sem]; rfl, by simp [go_sem]; rfl⟩, ⟨by simp [go_sem], by simp [go_sem]⟩, own2.alloc _, (fun g hg => by have e : w1.heap.size + 1 = g := Option.some.inj hg; omega), IsPre.one f l⟩
  case round =>
    clear own2 c2 f2 z2 R2 b0 b1
    obtain ⟨k, po, xb, rfl, hxb, hw1, hx1, G, ⟨a0, a1⟩, ⟨x0, x1⟩, ⟨z0, z1⟩, OW, FO, IP⟩ := hrel
    have yb : w1.heap.size < wr.heap.size := by omega
    have PX : Hid (Pw (X f l k)) := Lib.hid (X_plc PF.out PL.out k)
    obtain ⟨m, hm⟩ : ∃ m, X f l k = m := ⟨_, rfl⟩
    rw [hm] at x0 x1 PX
    by_cases he : m = f
    · have hull := IP.hull HF.out HM.out (hm.trans he)
      have HU := Lib.hid hull
      have q1 : (m.1 == f.1) = true := by rw [beq_iff_eq, he]
      have q2 : (m.2 == f.2) = true := by rw [beq_iff_eq, he]
      clear hull hm he
      go_wp2_with fail
      go_ret
      exact ⟨_, po, HU.out, rfl, OW.sl, Grew.trans G1 G⟩
    · have IP' := IP.more (by rw [hm]; exact he)
      have few := IP.few HF.out HM.out (by rw [hm]; exact he)
      rw [hm] at IP'
      have plen : po.length ≤ 4000000 := by have := IP.1; omega
      have nx1 := Fore.ne FO
      have nx2 := Own.ne OW (show w1.heap.size < w1.heap.size + 1 by omega)
      have NN := Lib.hid (And.intro nx1 nx2)
      have HMX := Lib.hid hm
      have q : (m.1 == f.1) = false ∨ ((m.1 == f.1) = true ∧ (m.2 == f.2) = false) := by
        by_cases e1 : m.1 = f.1
        · right
          exact ⟨by rw [beq_iff_eq]; exact e1, by rw [beq_eq_false_iff_ne]; exact fun e2 => he (Prod.ext e1 e2)⟩
        · left
          rw [beq_eq_false_iff_ne]; exact e1
      have FEW := Lib.hid few
      have PLN := Lib.hid plen
      have IPH := Lib.hid IP
      clear hm he nx1 nx2 few plen IP
      rcases q with q1 | ⟨q1, q2⟩
      all_goals
        go_wp2_with (at_builtin; refine append_one _ rfl _ _ rfl (w1.heap.size + 1) _ po m wr.heap.size 1 rfl (OW.alloc _) rfl (row_new [m] _ rfl _ _) PLN.out (by simp; omega) ?_; intro v' w' own' gr' fo' sz' cv'; have G' : Grew w1 w' := gr' w1 (by omega) (by (repeat' (first | (with_reducible exact Grew.refl _) | (with_reducible assumption) | (with_reducible refine Grew.alloc ?_ _ _) | (with_reducible refine Grew.drew ?_) | (with_reducible refine Grew.drewN ?_ _) | (with_reducible refine Grew.setCell ?_ ?_ _) | go_size))); clear gr'; have d0 := cv' xb (by simp; omega) NN.out.1 0; have d1 := cv' xb (by simp; omega) NN.out.1 1; have d2 := cv' w1.heap.size (by simp; omega) NN.out.2 0; have d3 := cv' w1.heap.size (by simp; omega) NN.out.2 1; clear cv'; have y0 : w'.cell? ⟨xb, 0, none⟩ = some (.int .i64 m.1) := d0.1.trans (by simp [go_sem, x0, hxb]); have y1 : w'.cell? ⟨xb, 1, none⟩ = some (.int .i64 m.2) := d1.1.trans (by simp [go_sem, x1, hxb]); have y2 : w'.cell? ⟨w1.heap.size, 0, none⟩ = some (.int .i64 f.1) := d2.1.trans (by simp [go_sem, a0, yb]); have y3 : w'.cell? ⟨w1.heap.size, 1, none⟩ = some (.int .i64 f.2) := d3.1.trans (by simp [go_sem, a1, yb]); have sz2 : w1.heap.size + 1 < w'.heap.size := (by simp at sz'; omega); have sz3 : w1.heap.size < w'.heap.size := (by omega); clear d0 d1 d2 d3)
        refine (next_any l m b o c _ (HR.out.grown (Grew.trans G1 (by (repeat' (first | (with_reducible exact Grew.refl _) | (with_reducible assumption) | (with_reducible refine Grew.alloc ?_ _ _) | (with_reducible refine Grew.drew ?_) | (with_reducible refine Grew.drewN ?_ _) | (with_reducible refine Grew.setCell ?_ ?_ _) | go_size))))) PL.out PX.out L2.out).mono ?_
        rintro e w3 ⟨rfl, g3⟩
        obtain ⟨c3, f3, z3⟩ := laid g3
        try simp at z3
        have G3 : Grew w1 w3 := Grew.trans (by (repeat' (first | (with_reducible exact Grew.refl _) | (with_reducible assumption) | (with_reducible refine Grew.alloc ?_ _ _) | (with_reducible refine Grew.drew ?_) | (with_reducible refine Grew.drewN ?_ _) | (with_reducible refine Grew.setCell ?_ ?_ _) | go_size))) g3
        have own3 := (own'.alloc _).grew g3
        clear g3
        have b3 : w'.heap.size < w3.heap.size := by omega
        have b4 : w1.heap.size < w3.heap.size := by omega
        go_wp2_with fail
        go_roundw
        case rel => exact ⟨k + 1, po ++ [m], w'.heap.size, rfl, by simp; omega, by simp; omega, by omega, by (repeat' (first | (with_reducible exact Grew.refl _) | (with_reducible assumption) | (with_reducible refine Grew.alloc ?_ _ _) | (with_reducible refine Grew.drew ?_) | (with_reducible refine Grew.drewN ?_ _) | (with_reducible refine Grew.setCell ?_ ?_ _) | go_size)), ⟨by simp [go_sem, *], by simp [go_sem, *]⟩, ⟨by simp [go_sem, *]; rw [← HMX.out]; rfl, by simp [go_sem, *]; rw [← HMX.out]; rfl⟩, ⟨by simp [go_sem, *], by simp [go_sem, *]⟩, (own3.set (Fore.ne fo') _).set (Fore.ne fo') _, fo', IP'⟩
        case measure => (have e1 := Own.len own'; have e2 := Own.len OW; have e3 := IPH.out.1; have e4 := FEW.out; rw [List.length_append] at e1; simp at e1 e2 ⊢; omega)
theorem around_any (l : List Pt) (b o c : Nat) (w : World) (hr : Row w b o l) (h1 : 1 ≤ l.length) (h2 : l.length ≤ 4000000) (hl : Plcs l) : Calls Tryz.prog 40 #[.slice (some ⟨b, o, none⟩) l.length c] w (AroundSays l w) := around_w l b o c w hr h1 h2 hl.pws
end Hl
end Go.Proofs.YtpiajdahmcelnaaGreat
