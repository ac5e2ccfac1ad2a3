/-
  The landed Sum.
  The landed changed, Shift and Mirror.
  The landed Disk; what package mink owes is paid.
-/
import Derived.Test.YteglefjnbkocgaaMinkLnF
import Derived.Test.YteglefjnbkocgaaMinkOct
import Derived.Test.YteglefjnbkocgaaHullCk
import Derived.Shelf.Abstract
import Derived.Test.YteglefjnbkocgaaMinkLay
import Derived.Test.YteglefjnbkocgaaMinkHead
namespace Go.Proofs.Yteglefjnbkocgaa
open Go.RowKit Go.Shelf Hl
namespace Mk
def PlacedSays (s : List Pt) (v : Value) (w : World) (e : Ending) (w' : World) : Prop := (Vl s ∧ e = .returned (.tuple #[v, .int .i64 0]) ∧ Grew w w') ∨ (¬ Vl s ∧ Empty 3 w e w')
theorem placed_c (s : List Pt) (v : Value) (w : World) (hs : Sl w v s) (hl : s.length ≤ 9223372036854775807) : Calls Try.prog 29 #[v] w (PlacedSays s v w) := by
  have HS := Lib.hid hs
  have HL := Lib.hid hl
  clear hs hl
  by_cases hv : Vl s
  · have V := Lib.hid hv
    clear hv
    go_enter Try.func29, Try.ntmps29
    go_wp2_with fail
    refine ((Hl.landed.valid s v _ HS.out HL.out).mono fun _ _ t => t.to V.out).mono ?_
    rintro e w1 ⟨rfl, G1⟩
    go_wp2_with fail
    go_ret2
    exact Or.inl ⟨V.out, rfl, G1⟩
  · have V := Lib.hid hv
    clear hv
    go_enter Try.func29, Try.ntmps29
    go_wp2_with fail
    refine ((Hl.landed.valid s v _ HS.out HL.out).mono fun _ _ t => t.un V.out).mono ?_
    rintro e w1 ⟨rfl, G1⟩
    go_wp2_with fail
    go_ret2
    exact Or.inr ⟨V.out, _, rfl, Or.inl ⟨rfl, none, 0, rfl⟩, G1⟩
theorem sum_bad_c (p q : List Pt) (v u : Value) (w : World) (hs : Sl w v p) (hs2 : Sl w u q) (h1 : p.length ≤ 9223372036854775807) (h2 : q.length ≤ 9223372036854775807) (h : ¬ (Vl p ∧ Vl q)) : Calls Try.prog 12 #[v, u] w (Empty 1 w) := by
  have HS := Lib.hid hs
  have HS2 := Lib.hid hs2
  have L1 := Lib.hid h1
  have L2 := Lib.hid h2
  by_cases hv : Vl p
  · have V := Lib.hid hv
    have V2 : Hid (¬ Vl q) := Lib.hid (fun g => h ⟨hv, g⟩)
    clear hs hs2 h1 h2 h hv
    go_enter Try.func12, Try.ntmps12
    go_wp2_with fail
    refine ((Hl.landed.valid p v _ HS.out L1.out).mono fun _ _ t => t.to V.out).mono ?_
    rintro e w1 ⟨rfl, G1⟩
    go_wp2_with fail
    refine ((Hl.landed.valid q u _ (HS2.out.grown G1) L2.out).mono fun _ _ t => t.un V2.out).mono ?_
    rintro e w2 ⟨rfl, G2⟩
    go_wp2_with fail
    go_ret2
    exact ⟨_, rfl, Or.inl ⟨rfl, none, 0, rfl⟩, Grew.trans G1 G2⟩
  · have V := Lib.hid hv
    clear hs hs2 h1 h2 h hv
    go_enter Try.func12, Try.ntmps12
    go_wp2_with fail
    refine ((Hl.landed.valid p v _ HS.out L1.out).mono fun _ _ t => t.un V.out).mono ?_
    rintro e w1 ⟨rfl, G1⟩
    go_wp2_with fail
    go_ret2
    exact ⟨_, rfl, Or.inl ⟨rfl, none, 0, rfl⟩, G1⟩
/-- sum at two valid polygons: a list of the call's own. -/
theorem sum_any (p q : List Pt) (v u : Value) (w : World) (hs : Sl w v p) (hs2 : Sl w u q) (vp : Vl p) (vq : Vl q) :
    Calls Try.prog 28 #[v, u] w fun e w' => ∃ g cap, e = .returned (.slice (some ⟨g, 0, none⟩) (msum p q).length cap) ∧ Sl w' (.slice (some ⟨g, 0, none⟩) (msum p q).length cap) (msum p q) ∧ Grew w w' := by
  have n0 : 1 ≤ p.length := vp.1.1
  have n1 : 1 ≤ q.length := vq.1.1
  obtain ⟨b, o, c, rfl, hr⟩ := hs.row (fun e => by rw [e] at n0; cases n0)
  obtain ⟨b', o', c', rfl, hr'⟩ := hs2.row (fun e => by rw [e] at n1; cases n1)
  refine (sum_c b o c b' o' c' p q vp vq w hr hr').mono ?_
  rintro e w' ⟨v, rfl, ho, g⟩
  obtain ⟨g0, cap, rfl, ha⟩ := ho.at (fun e => by have := (msum_hull vp vq).1.1; rw [e] at this; cases this)
  exact ⟨g0, cap, rfl, ho.sl, g⟩
theorem msum_len {p q : List Pt} (vp : Vl p) (vq : Vl q) : (msum p q).length ≤ 128 := sum_few vp vq (msum_hull vp vq)
def SmallSays (s : List Pt) (w : World) (e : Ending) (w' : World) : Prop := (¬ Plcs s ∧ Empty 3 w e w') ∨ (Plcs s ∧ ∃ v, e = .returned (.tuple #[v, .int .i64 0]) ∧ Sl w' v s ∧ Grew w w')
theorem sum_small_c (p q : List Pt) (v u : Value) (w : World) (hs : Sl w v p) (hs2 : Sl w u q) (vp : Vl p) (vq : Vl q) (h64 : (msum p q).length ≤ 64) : Calls Try.prog 12 #[v, u] w (SmallSays (msum p q) w) := by
  have HS := Lib.hid hs
  have HS2 := Lib.hid hs2
  have VP := Lib.hid vp
  have VQ := Lib.hid vq
  have L1 : Hid (p.length ≤ 9223372036854775807) := Lib.hid (by have := vp.1.2; omega)
  have L2 : Hid (q.length ≤ 9223372036854775807) := Lib.hid (by have := vq.1.2; omega)
  have HM := Lib.hid (msum_hull vp vq)
  have SA := Lib.hid (fun V (h1 : Sl V v p) (h2 : Sl V u q) => sum_any p q v u V h1 h2 vp vq)
  obtain ⟨s, hms⟩ : ∃ s, msum p q = s := ⟨_, rfl⟩
  rw [hms] at h64 HM SA ⊢
  obtain ⟨m, hm⟩ : ∃ m, s.length = m := ⟨_, rfl⟩
  have SL : Hid (s.length = m ∧ s.length ≤ 64) := Lib.hid ⟨hm, h64⟩
  have m64 : (m : Int) ≤ 64 := by omega
  rw [hm] at SA
  clear hs hs2 vp vq hms hm h64
  go_enter Try.func12, Try.ntmps12
  go_wp2_with fail
  refine ((Hl.landed.valid p v _ HS.out L1.out).mono fun _ _ t => t.to VP.out).mono ?_
  rintro e w1 ⟨rfl, G1⟩
  go_wp2_with fail
  refine ((Hl.landed.valid q u _ (HS2.out.grown G1) L2.out).mono fun _ _ t => t.to VQ.out).mono ?_
  rintro e w2 ⟨rfl, g2⟩
  have G2 := Grew.trans G1 g2
  clear G1 g2
  go_wp2_with fail
  refine (SA.out _ (HS.out.grown G2) (HS2.out.grown G2)).mono ?_
  rintro e w3 ⟨g, cap, rfl, sl, g3⟩
  have G3 := Grew.trans G2 g3
  have S3 := Lib.hid sl
  clear G2 g3 sl
  go_wp2_with fail
  refine (placed_c s _ _ S3.out (by have := SL.out; omega)).mono ?_
  rintro e w4 (⟨hv, rfl, g4⟩ | ⟨hv, v4, rfl, sl4, g4⟩)
  · have VV := Lib.hid hv
    have S4 := Lib.hid (S3.out.grown g4)
    clear hv
    go_wp2_with fail
    go_ret2
    exact Or.inr ⟨VV.out.2.1, _, rfl, S4.out, Grew.trans G3 g4⟩
  · have VV := Lib.hid hv
    have S4 := Lib.hid sl4
    clear hv sl4
    go_wp2_with fail
    go_ret2
    exact Or.inl ⟨fun h => VV.out (vl_hull HM.out SL.out.2 h), _, rfl, S4.out, Grew.trans G3 g4⟩
theorem sum_ok_c (p q : List Pt) (v u : Value) (w : World) (hs : Sl w v p) (hs2 : Sl w u q) (vp : Vl p) (vq : Vl q) : Calls Try.prog 12 #[v, u] w (SumSays p q w) := by
  by_cases h64 : (msum p q).length ≤ 64
  · refine (sum_small_c p q v u w hs hs2 vp vq h64).mono ?_
    rintro e w' (⟨h, k⟩ | ⟨h, v', rfl, s, g⟩)
    · exact ⟨_, msum_hull vp vq, Or.inl ⟨h, k⟩⟩
    · exact ⟨_, msum_hull vp vq, Or.inr ⟨h, v', _, Or.inl ⟨h64, rfl⟩, rfl, s, g⟩⟩
  · have HS := Lib.hid hs
    have HS2 := Lib.hid hs2
    have VP := Lib.hid vp
    have VQ := Lib.hid vq
    have L1 : Hid (p.length ≤ 9223372036854775807) := Lib.hid (by have := vp.1.2; omega)
    have L2 : Hid (q.length ≤ 9223372036854775807) := Lib.hid (by have := vq.1.2; omega)
    have SA := Lib.hid (fun V (h1 : Sl V v p) (h2 : Sl V u q) => sum_any p q v u V h1 h2 vp vq)
    have FIN : Hid (∀ p8 q8 e w1 w', IsOct p p8 → IsOct q q8 → SmallSays (msum p8 q8) w1 e w' → Grew w w1 → SumSays p q w e w') := Lib.hid (fun p8 q8 e w1 w' h8 k8 hsm g1 => by
      have ho := oct_sum h8 k8 (msum_hull vp vq) (msum_hull (oct_facts vp h8).1 (oct_facts vq k8).1)
      rcases hsm with ⟨h, v', rfl, s, g⟩ | ⟨h, v', rfl, s, g⟩
      · exact ⟨_, msum_hull vp vq, Or.inl ⟨fun h' => h ((oct_plcs ho).1 h'), v', rfl, s, Grew.trans g1 g⟩⟩
      · exact ⟨_, msum_hull vp vq, Or.inr ⟨(oct_plcs ho).2 h, v', _, Or.inr ⟨by omega, ho⟩, rfl, s, Grew.trans g1 g⟩⟩)
    have S8 : Hid (∀ p8 q8 V v8 u8, IsOct p p8 → IsOct q q8 → Sl V v8 p8 → Sl V u8 q8 → Calls Try.prog 12 #[v8, u8] V (SmallSays (msum p8 q8) V)) := Lib.hid (fun p8 q8 V v8 u8 h8 k8 h1 h2 => by
      have f1 := oct_facts vp h8
      have f2 := oct_facts vq k8
      refine sum_small_c p8 q8 v8 u8 V h1 h2 f1.1 f2.1 ?_
      have := sum_count f1.1.pg f2.1.pg (msum_hull f1.1 f2.1)
      have := f1.2.1
      have := f2.2.1
      omega)
    obtain ⟨m, hm⟩ : ∃ m, (msum p q).length = m := ⟨_, rfl⟩
    have m64 : (64 : Int) < (m : Int) := by omega
    rw [hm] at SA
    clear hs hs2 vp vq hm h64
    go_enter Try.func12, Try.ntmps12
    go_wp2_with fail
    refine ((Hl.landed.valid p v _ HS.out L1.out).mono fun _ _ t => t.to VP.out).mono ?_
    rintro e w1 ⟨rfl, G1⟩
    go_wp2_with fail
    refine ((Hl.landed.valid q u _ (HS2.out.grown G1) L2.out).mono fun _ _ t => t.to VQ.out).mono ?_
    rintro e w2 ⟨rfl, g2⟩
    have G2 := Grew.trans G1 g2
    clear G1 g2
    go_wp2_with fail
    refine (SA.out _ (HS.out.grown G2) (HS2.out.grown G2)).mono ?_
    rintro e w3 ⟨g, cap, rfl, _, g3⟩
    have G3 := Grew.trans G2 g3
    clear G2 g3
    go_wp2_with fail
    refine (Hl.landed.eight_ok p v _ (HS.out.grown G3) VP.out).mono ?_
    rintro e w4 ⟨p8, v8, h8, rfl, sl4, g4⟩
    have H8 := Lib.hid h8
    have G4 := Grew.trans G3 g4
    have S4 := Lib.hid sl4
    clear h8 G3 g4 sl4
    go_wp2_with fail
    refine (Hl.landed.eight_ok q u _ (HS2.out.grown G4) VQ.out).mono ?_
    rintro e w5 ⟨q8, u8, k8, rfl, sl5, g5⟩
    have K8 := Lib.hid k8
    have G5 := Grew.trans G4 g5
    have S5 := Lib.hid sl5
    have S4' := Lib.hid (S4.out.grown g5)
    clear k8 G4 g5 sl5 S4
    go_wp2_with fail
    refine (S8.out p8 q8 _ v8 u8 H8.out K8.out S4'.out S5.out).mono ?_
    rintro e w6 hsm
    have HF := Lib.hid (FIN.out p8 q8 e _ w6 H8.out K8.out hsm G5)
    rcases hsm with ⟨h, v', rfl, s, g⟩ | ⟨h, v', rfl, s, g⟩
    all_goals
      clear h s g
      go_wp2_with fail
      go_ret2
      exact HF.out
end Mk
end Go.Proofs.Yteglefjnbkocgaa
namespace Go.Proofs.Yteglefjnbkocgaa
open Go.RowKit Go.Shelf Hl
attribute [local go_sem] Oper.semAt_some
namespace Mk
theorem map_end {p out : List Pt} {h : Pt → Pt} (hl : out.length = p.length) (he : ∀ j, j < p.length → at' out j = h (at' p j)) : out = p.map h := by
  refine List.ext_getElem (by simp [hl]) fun i h1 h2 => ?_
  have hi : i < p.length := by simpa using h2
  have := he i hi
  unfold at' at this
  simp [h1, hi] at this
  simpa using this
theorem at_set {p : List Pt} {i j : Nat} {x : Pt} (hi : i < p.length) : at' (p.set i x) j = if i = j then x else at' p j := by
  by_cases e : i = j
  · subst e
    unfold at'
    simp [List.getD, hi]
  · unfold at'
    simp [List.getD, e]
set_option maxRecDepth 100000 in
set_option maxHeartbeats 4000000 in
theorem changed_c (gf : Nat) (lb : Array Value) (eg : ∀ args X, (callFunc gf args).run Try.prog X = .ok (.enter gf args) X) (h : Pt → Pt) (p : List Pt) (b o c : Nat) (w : World) (hr : Row w b o p) (h1 : 1 ≤ p.length) (h64 : p.length ≤ 64)
    (hc : ∀ x X, x ∈ p → Grew w X → Calls Try.prog gf (#[.agg #[.int .i64 x.1, .int .i64 x.2]] ++ lb) X fun e Y => e = .returned (.agg #[.int .i64 (h x).1, .int .i64 (h x).2]) ∧ Grew X Y) :
    Calls Try.prog 34 #[.slice (some ⟨b, o, none⟩) p.length c, .func (.func gf) #[] lb] w fun e w' => ∃ v, e = .returned v ∧ Sl w' v (p.map h) ∧ Grew w w' := by
  have HR := Lib.hid hr
  have CH := Lib.hid hc
  have CL := Lib.hid (clone_c p b o c w hr (by omega))
  have hb := hr.1
  obtain ⟨n, hn⟩ : ∃ n, p.length = n := ⟨_, rfl⟩
  have HN : Hid (p.length = n ∧ 1 ≤ n ∧ n ≤ 64) := Lib.hid ⟨hn, by omega, by omega⟩
  rw [hn] at CL ⊢
  clear hr hc hn h1 h64
  go_enter Try.func34, Try.ntmps34
  go_wp2_with fail
  refine CL.out.mono ?_
  rintro e w1 ⟨v, rfl, ow, G1⟩
  obtain ⟨g, cap, rfl, oa⟩ := ow.at (fun e => by have := HN.out; rw [e] at this; simp at this; omega)
  have O1 := Lib.hid oa
  rw [HN.out.1]
  clear CL ow oa
  go_wp2_with fail
  go_loopw [12] (fun i wr => ∃ (k : Nat) (out : List Pt), k ≤ n ∧ i = .int .i64 k ∧ Hid (OwnAt w.heap.size wr g cap out ∧ out.length = n ∧ (∀ j, j < k → at' out j = h (at' p j)) ∧ (∀ j, k ≤ j → j < n → at' out j = at' p j) ∧ Grew w wr)) (fun i _ => n - (intOf i).toNat)
  case atStart => exact ⟨0, p, Nat.zero_le _, rfl, Lib.hid ⟨O1.out, HN.out.1, fun j hj => absurd hj (Nat.not_lt_zero _), fun j _ _ => rfl, G1⟩⟩
  case round =>
    obtain ⟨k, out, hk, rfl, HO⟩ := hrel
    by_cases hlt : k < n
    · have klt : k < p.length := by rw [HN.out.1]; exact hlt
      have kout : Hid (k < out.length) := Lib.hid (by rw [HO.out.2.1]; exact hlt)
      obtain ⟨x, hx⟩ : ∃ x, at' p k = x := ⟨_, rfl⟩
      have HX := Lib.hid hx
      have hxm : x ∈ p := by rw [← hx]; exact at_mem klt
      obtain ⟨q0, q1⟩ := (HR.out.grown HO.out.2.2.2.2).2 k klt
      rw [hx] at q0 q1
      have i0 : (0 : Int) ≤ (k : Int) := by omega
      have i1 : (k : Int) < (n : Int) := by omega
      have bw : b < wr.heap.size := by have := HO.out.2.2.2.2.size; omega
      have bw1 : b < wr.heap.size + 1 := by omega
      have hl1 : (k : Int) + 1 ≤ 64 := by have := HN.out; omega
      have CX := Lib.hid (CH.out x (wr.alloc (.cells #[.int .i64 x.1, .int .i64 x.2] 24)) hxm (HO.out.2.2.2.2.alloc _ _))
      obtain ⟨y, hy⟩ : ∃ y, h x = y := ⟨_, rfl⟩
      have HY := Lib.hid hy
      rw [hy] at CX
      clear hx hy klt hxm
      go_wp2_with (go_at_fn gf; refine CX.out.mono ?_; rintro e w2 ⟨rfl, g2⟩; have GX : Hid (Grew wr w2) := Lib.hid (Grew.trans ((Grew.refl wr).alloc _ _) g2); have HO2 := Lib.hid (HO.out.1.grew GX.out); obtain ⟨e0, e1⟩ := HO2.out.cells kout.out; have f0 := HO2.out.frozen (k * 2); have f1 := HO2.out.frozen (k * 2 + 1); clear g2)
      go_roundw
      case rel =>
        refine ⟨k + 1, out.set k y, by omega, by go_num, Lib.hid ⟨HO2.out.set kout.out y, by rw [List.length_set]; exact HO.out.2.1, fun j hj => ?_, fun j h1 h2 => ?_, ((HO.out.2.2.2.2.trans GX.out).setCell HO2.out.1 _).setCell HO2.out.1 _⟩⟩
        · rw [at_set kout.out]
          by_cases ej : k = j
          · subst ej
            rw [if_pos rfl, HX.out, HY.out]
          · rw [if_neg ej]
            exact HO.out.2.2.1 j (by omega)
        · rw [at_set kout.out, if_neg (by omega)]
          exact HO.out.2.2.2.1 j (by omega) h2
      case measure => simp [intOf]; omega
    · obtain rfl : k = n := by omega
      go_wp2_with fail
      go_ret
      have em := map_end (h := h) (HO.out.2.1.trans HN.out.1.symm) (fun j hj => HO.out.2.2.1 j (by rw [← HN.out.1]; exact hj))
      refine ⟨_, rfl, ?_, HO.out.2.2.2.2⟩
      rw [← em, ← HO.out.2.1]
      exact Sl.of HO.out.1.row
theorem shift1_c (x z : Pt) (B : Nat) (w : World) (hx : Wp x) (hz : Wp z) (hB : B < w.heap.size) (h0 : w.cell? ⟨B, 0, none⟩ = some (.int .i64 z.1) ∧ w.cell? ⟨B, 1, none⟩ = some (.int .i64 z.2)) :
    Calls Try.prog 35 #[.agg #[.int .i64 x.1, .int .i64 x.2], .pointer (some ⟨B, 0, none⟩)] w fun e w' => e = .returned (.agg #[.int .i64 (plus x z).1, .int .i64 (plus x z).2]) ∧ Grew w w' := by
  have PL := Lib.hid (fun X => plus_m x z X hx hz)
  obtain ⟨c0, c1⟩ := h0
  obtain ⟨s, hs⟩ : ∃ s, plus x z = s := ⟨_, rfl⟩
  rw [hs] at PL ⊢
  have b1 : B < w.heap.size + 1 := by omega
  have b2 : B < w.heap.size + 1 + 1 := by omega
  clear hx hz hs
  go_enter Try.func35, Try.ntmps35
  go_wp2_with (refine (PL.out _).mono ?_; rintro e w' ⟨rfl, rfl⟩)
  refine bodyPost_ret (v := .agg #[.int .i64 s.1, .int .i64 s.2]) (by simp [results, Try.results35, go_sem]) rfl ⟨rfl, ?_⟩
  repeat' (first | (with_reducible exact Grew.refl _) | (with_reducible refine Grew.alloc ?_ _ _) | (with_reducible refine Grew.setCell ?_ ?_ _) | go_size)
theorem mirror1_c (x : Pt) (w : World) (hx : Wp x) :
    Calls Try.prog 39 #[.agg #[.int .i64 x.1, .int .i64 x.2]] w fun e w' => e = .returned (.agg #[.int .i64 (neg x).1, .int .i64 (neg x).2]) ∧ Grew w w' := by
  rcases x with ⟨a, b⟩
  obtain ⟨⟨p0, p1⟩, p2, p3⟩ := hx
  simp only at p0 p1 p2 p3
  have W1 : IntKind.i64.wrap (-a) = -a := IntWalk.i64_in _ ⟨by omega, by omega⟩
  have W2 : IntKind.i64.wrap (-b) = -b := IntWalk.i64_in _ ⟨by omega, by omega⟩
  go_enter Try.func39, Try.ntmps39
  go_wp2_with fail
  refine bodyPost_ret (v := .agg #[.int .i64 (-a), .int .i64 (-b)]) (by simp [results, Try.results39, go_sem]) rfl ⟨rfl, ?_⟩
  repeat' (first | (with_reducible exact Grew.refl _) | (with_reducible refine Grew.alloc ?_ _ _) | (with_reducible refine Grew.setCell ?_ ?_ _) | go_size)
theorem plc_wp {x : Pt} (h : Plc x) : Wp x := by
  unfold Wp
  unfold Plc at h
  omega
theorem one_iff {z : Pt} : Vl [z] ↔ Plc z := ⟨fun h => h.2.1 0 (by simp), one_vl⟩
theorem mir_bad_c (p : List Pt) (v : Value) (w : World) (hs : Sl w v p) (h2 : p.length ≤ 9223372036854775807) (hv : ¬ Vl p) : Calls Try.prog 17 #[v] w (Empty 1 w) := by
  have V := Lib.hid hv
  have HS := Lib.hid hs
  have L2 := Lib.hid h2
  clear hs hv h2
  go_enter Try.func17, Try.ntmps17
  go_wp2_with fail
  refine ((Hl.landed.valid p v _ HS.out L2.out).mono fun _ _ t => t.un V.out).mono ?_
  rintro e w1 ⟨rfl, G1⟩
  go_wp2_with fail
  go_ret2
  exact ⟨_, rfl, Or.inl ⟨rfl, none, 0, rfl⟩, G1⟩
theorem mir_ok_c (p : List Pt) (v : Value) (w : World) (hs : Sl w v p) (vp : Vl p) : Calls Try.prog 17 #[v] w (MirSays p w) := by
  have n0 : 1 ≤ p.length := vp.1.1
  obtain ⟨b, o, c, rfl, hr⟩ := hs.row (fun e => by rw [e] at n0; cases n0)
  have HS := Lib.hid hs
  have VP := Lib.hid vp
  have L1 : Hid (p.length ≤ 9223372036854775807) := Lib.hid (by have := vp.1.2; omega)
  have eg : ∀ args X, (callFunc 39 args).run Try.prog X = .ok (.enter 39 args) X := enters_of Try.func39 (by kernel_rfl) rfl
  have CH := Lib.hid (fun X (g : Grew w X) => changed_c 39 #[] eg neg p b o c X (hr.grown g) vp.1.1 vp.1.2 (fun x Y hx _ => mirror1_c x Y (plc_wp (plc_mem vp.2.1 hx))))
  have ML : Hid (Plcs (mirror p) ∧ (mirror p).length ≤ 64 ∧ mirror p ≠ []) := Lib.hid (by
    refine ⟨fun i hi => ?_, by unfold mirror; rw [List.length_map]; exact vp.1.2, fun e => by unfold mirror at e; rw [List.map_eq_nil_iff] at e; rw [e] at n0; cases n0⟩
    have hm := mem_mirror.1 (at_mem hi)
    have := neg_plc (plc_mem vp.2.1 hm)
    rwa [neg_neg] at this)
  clear hs vp hr n0 eg
  go_enter Try.func17, Try.ntmps17
  go_wp2_with fail
  refine ((Hl.landed.valid p _ _ HS.out L1.out).mono fun _ _ t => t.to VP.out).mono ?_
  rintro e w1 ⟨rfl, G1⟩
  go_wp2_with fail
  refine (CH.out _ G1).mono ?_
  rintro e w2 ⟨v2, rfl, sl2, g2⟩
  have S2 : Hid (Sl w2 v2 (mirror p)) := Lib.hid sl2
  have G2 := Grew.trans G1 g2
  clear sl2 g2 G1
  go_wp2_with fail
  refine (Hl.landed.hull_ok (mirror p) v2 _ S2.out (by have := ML.out; omega) ML.out.2.2 ML.out.1).mono ?_
  rintro e w3 ⟨m, hm, h⟩
  have HM := Lib.hid hm
  rcases h with ⟨hl, v3, rfl, sl3, g3⟩ | ⟨hl, v3, rfl, sl3, g3⟩
  · have S3 := Lib.hid sl3
    clear hm sl3
    go_wp2_with fail
    go_ret2
    exact ⟨_, m, HM.out, rfl, S3.out, Grew.trans G2 g3⟩
  · exfalso
    have := hull_le hm
    have := ML.out.2.1
    omega
theorem shift_bad_c (p : List Pt) (z : Pt) (v : Value) (w : World) (hs : Sl w v p) (h1 : p.length ≤ 9223372036854775807) (h : ¬ (Vl p ∧ Plc z)) : Calls Try.prog 15 #[v, .agg #[.int .i64 z.1, .int .i64 z.2]] w (Empty 1 w) := by
  have HS := Lib.hid hs
  have L1 := Lib.hid h1
  have g0 : Grew w (w.alloc (.cells #[.int .i64 z.1, .int .i64 z.2] 24)) := (Grew.refl w).alloc _ _
  by_cases hv : Vl p
  · have V := Lib.hid hv
    have V2 : Hid (¬ Vl [z]) := Lib.hid (fun g => h ⟨hv, one_iff.1 g⟩)
    clear hs h1 h hv
    go_enter Try.func15, Try.ntmps15
    go_wp2_with fail
    refine ((Hl.landed.valid p v _ (HS.out.grown g0) L1.out).mono fun _ _ t => t.to V.out).mono ?_
    rintro e w1 ⟨rfl, G1⟩
    obtain ⟨c1, f1, z1⟩ := laid G1
    try simp at z1
    have k0 : w1.cell? ⟨w.heap.size, 0, none⟩ = some (.int .i64 z.1) := by simp [go_sem, *]
    have k1 : w1.cell? ⟨w.heap.size, 1, none⟩ = some (.int .i64 z.2) := by simp [go_sem, *]
    clear c1 f1
    go_wp2_with fail
    refine ((Hl.landed.valid [z] _ _ (Sl.of (row_new [z] #[.int .i64 z.1, .int .i64 z.2] rfl w1 24)) (by simp)).mono fun _ _ t => t.un V2.out).mono ?_
    rintro e w2 ⟨rfl, g2⟩
    go_wp2_with fail
    go_ret2
    exact ⟨_, rfl, Or.inl ⟨rfl, none, 0, rfl⟩, Grew.trans (Grew.trans g0 G1) (Grew.trans ((Grew.refl w1).alloc _ _) g2)⟩
  · have V := Lib.hid hv
    clear hs h1 h hv
    go_enter Try.func15, Try.ntmps15
    go_wp2_with fail
    refine ((Hl.landed.valid p v _ (HS.out.grown g0) L1.out).mono fun _ _ t => t.un V.out).mono ?_
    rintro e w1 ⟨rfl, G1⟩
    go_wp2_with fail
    go_ret2
    exact ⟨_, rfl, Or.inl ⟨rfl, none, 0, rfl⟩, Grew.trans g0 G1⟩
theorem shift_vl {p : List Pt} (vp : Vl p) (z : Pt) : Vl (shift p z) ↔ Plcs (shift p z) := ⟨fun h => h.2.1, fun h => vl_of (shift_pg vp.pg z) (by rw [shift_len]; exact vp.1.2) h⟩
theorem shift_ok_c (p : List Pt) (z : Pt) (v : Value) (w : World) (hs : Sl w v p) (vp : Vl p) (hz : Plc z) : Calls Try.prog 15 #[v, .agg #[.int .i64 z.1, .int .i64 z.2]] w (ShiftSays p z w) := by
  have n0 : 1 ≤ p.length := vp.1.1
  obtain ⟨b, o, c, rfl, hr⟩ := hs.row (fun e => by rw [e] at n0; cases n0)
  have HS := Lib.hid hs
  have VP := Lib.hid vp
  have VZ : Hid (Vl [z]) := Lib.hid (one_iff.2 hz)
  have L1 : Hid (p.length ≤ 9223372036854775807) := Lib.hid (by have := vp.1.2; omega)
  have g0 : Grew w (w.alloc (.cells #[.int .i64 z.1, .int .i64 z.2] 24)) := (Grew.refl w).alloc _ _
  have eg : ∀ args X, (callFunc 35 args).run Try.prog X = .ok (.enter 35 args) X := enters_of Try.func35 (by kernel_rfl) rfl
  have CH := Lib.hid (fun X (g : Grew w X) (hB : w.heap.size < X.heap.size) (hc : X.cell? ⟨w.heap.size, 0, none⟩ = some (.int .i64 z.1) ∧ X.cell? ⟨w.heap.size, 1, none⟩ = some (.int .i64 z.2)) =>
    changed_c 35 #[.pointer (some ⟨w.heap.size, 0, none⟩)] eg (fun x => plus x z) p b o c X (hr.grown g) vp.1.1 vp.1.2 (fun x Y hx gY => shift1_c x z w.heap.size Y (plc_wp (plc_mem vp.2.1 hx)) (plc_wp hz) (Nat.lt_of_lt_of_le hB gY.size) ⟨(gY.cell hB).trans hc.1, (gY.cell hB).trans hc.2⟩))
  have SV : Hid (Vl (shift p z) ↔ Plcs (shift p z)) := Lib.hid (shift_vl vp z)
  have SLn : Hid ((shift p z).length ≤ 9223372036854775807) := Lib.hid (by rw [shift_len]; exact L1.out)
  clear hs vp hr n0 eg hz
  go_enter Try.func15, Try.ntmps15
  go_wp2_with fail
  refine ((Hl.landed.valid p _ _ (HS.out.grown g0) L1.out).mono fun _ _ t => t.to VP.out).mono ?_
  rintro e w1 ⟨rfl, G1⟩
  obtain ⟨c1, f1, z1⟩ := laid G1
  try simp at z1
  have k0 : w1.cell? ⟨w.heap.size, 0, none⟩ = some (.int .i64 z.1) := by simp [go_sem, *]
  have k1 : w1.cell? ⟨w.heap.size, 1, none⟩ = some (.int .i64 z.2) := by simp [go_sem, *]
  have GW := Grew.trans g0 G1
  clear c1 f1 G1
  go_wp2_with fail
  refine ((Hl.landed.valid [z] _ _ (Sl.of (row_new [z] #[.int .i64 z.1, .int .i64 z.2] rfl w1 24)) (by simp)).mono fun _ _ t => t.to VZ.out).mono ?_
  rintro e w2 ⟨rfl, g2⟩
  have g12 : Grew w1 w2 := Grew.trans ((Grew.refl w1).alloc _ _) g2
  have G2 := Grew.trans GW g12
  have y0 : w2.cell? ⟨w.heap.size, 0, none⟩ = some (.int .i64 z.1) := (g12.cell (by omega)).trans k0
  have y1 : w2.cell? ⟨w.heap.size, 1, none⟩ = some (.int .i64 z.2) := (g12.cell (by omega)).trans k1
  have hB2 : w.heap.size < w2.heap.size := by have := g12.size; omega
  clear g2 g12 k0 k1 GW z1 g0
  go_wp2_with fail
  refine (CH.out _ G2 hB2 ⟨y0, y1⟩).mono ?_
  rintro e w3 ⟨v3, rfl, sl3, g3⟩
  have S3 : Hid (Sl w3 v3 (shift p z)) := Lib.hid sl3
  have G3 := Grew.trans G2 g3
  clear sl3 g3 G2 y0 y1
  go_wp2_with fail
  refine (placed_c (shift p z) v3 _ S3.out SLn.out).mono ?_
  rintro e w4 (⟨hv, rfl, g4⟩ | ⟨hv, v4, rfl, sl4, g4⟩)
  · have VV := Lib.hid (SV.out.1 hv)
    have S4 := Lib.hid (S3.out.grown g4)
    clear hv
    go_wp2_with fail
    go_ret2
    exact Or.inr ⟨VV.out, _, rfl, S4.out, Grew.trans G3 g4⟩
  · have VV := Lib.hid (fun h => hv (SV.out.2 h))
    have S4 := Lib.hid sl4
    clear hv sl4
    go_wp2_with fail
    go_ret2
    exact Or.inl ⟨VV.out, _, rfl, S4.out, Grew.trans G3 g4⟩
end Mk
end Go.Proofs.Yteglefjnbkocgaa
namespace Go.Proofs.Yteglefjnbkocgaa
open Go.RowKit Go.Shelf Hl
attribute [local go_sem] Oper.semAt_some
namespace Mk
theorem disk1_c (n m : Int) (B : Nat) (w : World) (h0 : 0 ≤ n) (h1 : n ≤ 100000) (m0 : 0 ≤ m) (m1 : m ≤ 200000) (hc : w.cell? ⟨B, 0, none⟩ = some (.int .i64 n)) :
    Calls Try.prog 42 #[.int .i64 m, .pointer (some ⟨B, 0, none⟩)] w fun e w' => e = .returned (.bool (decide (2 * n * n ≤ m * m))) ∧ w = w' := by
  have q1 : 0 ≤ m * m ∧ m * m ≤ 40000000000 := ⟨Int.mul_nonneg m0 m0, by
    have := Int.mul_le_mul m1 m1 m0 (by omega : (0 : Int) ≤ 200000)
    omega⟩
  have q2 : 0 ≤ 2 * n * n ∧ 2 * n * n ≤ 20000000000 := ⟨Int.mul_nonneg (by omega) h0, by
    have := Int.mul_le_mul (show 2 * n ≤ 200000 by omega) h1 h0 (by omega : (0 : Int) ≤ 200000)
    omega⟩
  obtain ⟨q10, q11⟩ := q1
  obtain ⟨q20, q21⟩ := q2
  go_enter Try.func42, Try.ntmps42
  go_wp2_with fail
  go_ret
  exact ⟨rfl, rfl⟩
theorem least_root (k : Nat) : ∀ N : Nat, 2 * k * k ≤ N * N → ∃ m, m ≤ N ∧ 2 * k * k ≤ m * m ∧ ∀ j, j < m → j * j < 2 * k * k
  | 0, h => ⟨0, Nat.le_refl _, h, fun j hj => absurd hj (Nat.not_lt_zero _)⟩
  | N + 1, h => by
    by_cases g : 2 * k * k ≤ N * N
    · obtain ⟨m, h1, h2, h3⟩ := least_root k N g
      exact ⟨m, by omega, h2, h3⟩
    · exact ⟨N + 1, Nat.le_refl _, h, fun j hj => by
        have := Nat.mul_le_mul (show j ≤ N by omega) (show j ≤ N by omega)
        omega⟩
def dl8 (n k : Int) : List Pt := [(n, k), (k, n), (-k, n), (-n, k), (-n, -k), (-k, -n), (k, -n), (n, -k)]
theorem dl8_mem (n m : Int) (x : Pt) : x ∈ dl8 n (m - n) ↔ x ∈ diskL n m := by
  rcases x with ⟨a, b⟩
  simp only [dl8, diskL, octL, List.mem_cons, List.not_mem_nil, or_false, Prod.mk.injEq]
  constructor
  · rintro (⟨h, g⟩ | ⟨h, g⟩ | ⟨h, g⟩ | ⟨h, g⟩ | ⟨h, g⟩ | ⟨h, g⟩ | ⟨h, g⟩ | ⟨h, g⟩)
    · exact Or.inr (Or.inl ⟨by omega, by omega⟩)
    · exact Or.inr (Or.inr (Or.inl ⟨by omega, by omega⟩))
    · exact Or.inr (Or.inr (Or.inr (Or.inl ⟨by omega, by omega⟩)))
    · exact Or.inr (Or.inr (Or.inr (Or.inr (Or.inl ⟨by omega, by omega⟩))))
    · exact Or.inr (Or.inr (Or.inr (Or.inr (Or.inr (Or.inl ⟨by omega, by omega⟩)))))
    · exact Or.inr (Or.inr (Or.inr (Or.inr (Or.inr (Or.inr (Or.inl ⟨by omega, by omega⟩))))))
    · exact Or.inr (Or.inr (Or.inr (Or.inr (Or.inr (Or.inr (Or.inr ⟨by omega, by omega⟩))))))
    · exact Or.inl ⟨by omega, by omega⟩
  · rintro (⟨h, g⟩ | ⟨h, g⟩ | ⟨h, g⟩ | ⟨h, g⟩ | ⟨h, g⟩ | ⟨h, g⟩ | ⟨h, g⟩ | ⟨h, g⟩)
    · exact Or.inr (Or.inr (Or.inr (Or.inr (Or.inr (Or.inr (Or.inr ⟨by omega, by omega⟩))))))
    · exact Or.inl ⟨by omega, by omega⟩
    · exact Or.inr (Or.inl ⟨by omega, by omega⟩)
    · exact Or.inr (Or.inr (Or.inl ⟨by omega, by omega⟩))
    · exact Or.inr (Or.inr (Or.inr (Or.inl ⟨by omega, by omega⟩)))
    · exact Or.inr (Or.inr (Or.inr (Or.inr (Or.inl ⟨by omega, by omega⟩))))
    · exact Or.inr (Or.inr (Or.inr (Or.inr (Or.inr (Or.inl ⟨by omega, by omega⟩)))))
    · exact Or.inr (Or.inr (Or.inr (Or.inr (Or.inr (Or.inr (Or.inl ⟨by omega, by omega⟩))))))
theorem disk_bad_c (n : Int) (w : World) (h : ¬ (0 ≤ n ∧ n ≤ 100000)) : Calls Try.prog 19 #[.int .i64 n] w (Empty 1 w) := by
  have g0 : Grew w (w.alloc (.cells #[.int .i64 n] 3)) := (Grew.refl w).alloc _ _
  by_cases h0 : n < 0
  · clear h
    go_enter Try.func19, Try.ntmps19
    go_wp2_with fail
    go_ret2
    exact ⟨_, rfl, Or.inl ⟨rfl, none, 0, rfl⟩, g0⟩
  · have h1 : 100000 < n := by omega
    clear h
    go_enter Try.func19, Try.ntmps19
    go_wp2_with fail
    go_ret2
    exact ⟨_, rfl, Or.inl ⟨rfl, none, 0, rfl⟩, g0⟩
theorem search_c (n : Int) (h0 : 0 ≤ n) (h1 : n ≤ 100000) : ∃ m : Int, Wd n m ∧ ∀ (B : Nat) (w : World), B < w.heap.size → w.cell? ⟨B, 0, none⟩ = some (.int .i64 n) →
    Calls Try.prog 41 #[.int .i64 (2 * n), .func (.func 42) #[] #[.pointer (some ⟨B, 0, none⟩)]] w fun e w' => e = .returned (.int .i64 m) ∧ Grew w w' := by
  obtain ⟨k, rfl⟩ : ∃ k : Nat, n = k := ⟨n.toNat, by omega⟩
  have hk : k ≤ 100000 := by omega
  obtain ⟨m, m1, m2, m3⟩ := least_root k (2 * k) (by
    have : 2 * k * (2 * k) = 2 * k * k + 2 * k * k := by grind
    omega)
  have cast1 : ∀ i : Nat, (2 * (k : Int) * (k : Int) ≤ (i : Int) * (i : Int)) ↔ 2 * k * k ≤ i * i := fun i => by
    rw [show (2 * (k : Int) * (k : Int)) = ((2 * k * k : Nat) : Int) by simp, show ((i : Int) * (i : Int)) = ((i * i : Nat) : Int) by simp, Int.ofNat_le]
  refine ⟨m, ⟨by omega, (cast1 m).2 m2, fun j j0 hj => ?_⟩, fun B w hB hc => ?_⟩
  · obtain ⟨i, rfl⟩ : ∃ i : Nat, j = i := ⟨j.toNat, by omega⟩
    by_cases g : m ≤ i
    · omega
    · have := m3 i (by omega)
      have := (cast1 i).1 hj
      omega
  · have eg : ∀ args X, (callFunc 42 args).run Try.prog X = .ok (.enter 42 args) X := enters_of Try.func42 (by kernel_rfl) rfl
    have h := Any.sort_Search (P := Try.prog) (ρ := searchL_ren) searchL 42 #[.pointer (some ⟨B, 0, none⟩)] (2 * k) (fun i => decide (2 * k * k ≤ i * i)) w eg (by omega)
      (fun q os i hi => (disk1_c k i B _ (by omega) (by omega) (by omega) (by omega) (cell_grown hB hc q os)).mono fun e w' h => ⟨h.1.trans (by rw [decide_eq_decide.2 (cast1 i)]), 0, #[], by rw [← h.2, Go.Sort.grow_empty]; rfl⟩)
      (fun a b hab hb ha => by
        simp only [decide_eq_true_eq] at ha ⊢
        exact Nat.le_trans ha (Nat.mul_le_mul hab hab))
    have cnt : (List.range (2 * k)).countP (fun i => !decide (2 * k * k ≤ i * i)) = m := by
      have hr : ∀ t, t < 2 * k → (List.range (2 * k))[t]! = t := fun t ht => by rw [getElem!_pos _ t (by simpa using ht)]; simp
      refine Lib.countP_boundary _ (List.range (2 * k)) m (by simpa using m1) (fun t ht => ?_) (fun t h3 h4 => ?_)
      · rw [hr t (by omega)]
        have := m3 t ht
        simp
        omega
      · rw [hr t (by simpa using h4)]
        have := Nat.mul_le_mul h3 h3
        simp
        omega
    rw [cnt] at h
    have e2 : ((2 * k : Nat) : Int) = 2 * (k : Int) := by simp
    rw [e2] at h
    refine Calls.mono h ?_
    rintro e w' ⟨rfl, q, os, rfl⟩
    exact ⟨rfl, below_grown_sl w.heap.size w q os (Nat.le_refl _)⟩
set_option maxRecDepth 100000 in
set_option maxHeartbeats 4000000 in
theorem disk_ok_c (n : Int) (w : World) (h0 : 0 ≤ n) (h1 : n ≤ 100000) : Calls Try.prog 19 #[.int .i64 n] w (DiskSays n w) := by
  obtain ⟨m, hm, hs⟩ := search_c n h0 h1
  have SE := Lib.hid hs
  have HM := Lib.hid hm
  obtain ⟨r1, r2⟩ := wd_range h0 hm
  have g0 : Grew w (w.alloc (.cells #[.int .i64 n] 3)) := (Grew.refl w).alloc _ _
  have PL : Hid (Plcs (dl8 n (m - n))) := Lib.hid (fun i hi => by
    have := at_mem hi
    generalize at' (dl8 n (m - n)) i = y at this
    simp only [dl8, List.mem_cons, List.not_mem_nil, or_false] at this
    unfold Plc
    rcases this with rfl | rfl | rfl | rfl | rfl | rfl | rfl | rfl <;> simp only <;> omega)
  obtain ⟨k, hk⟩ : ∃ k, m - n = k := ⟨_, rfl⟩
  have HK := Lib.hid hk
  rw [hk] at PL
  have WK : IntKind.i64.wrap (m - n) = k := by rw [← hk]; exact IntWalk.i64_in _ ⟨by omega, by omega⟩
  have k0 : 0 ≤ k := by omega
  have k1 : k ≤ 100000 := by omega
  have W1 : IntKind.i64.wrap (-n) = -n := IntWalk.i64_in _ ⟨by omega, by omega⟩
  have W2 : IntKind.i64.wrap (-k) = -k := IntWalk.i64_in _ ⟨by omega, by omega⟩
  clear hs hm
  go_enter Try.func19, Try.ntmps19
  go_wp2_with fail
  refine (SE.out w.heap.size _ (by simp) (by simp [go_sem])).mono ?_
  rintro e w1 ⟨rfl, g1⟩
  have G1 := Grew.trans g0 g1
  have y0 : w1.cell? ⟨w.heap.size, 0, none⟩ = some (.int .i64 n) := (g1.cell (by simp)).trans (by simp [go_sem])
  clear g1
  go_wp2_with fail
  refine (Hl.landed.hull_ok (dl8 n k) _ _ (Sl.of (row_new (dl8 n k) _ rfl w1 24)) (by simp [dl8]) (by simp [dl8]) PL.out).mono ?_
  rintro e w2 ⟨d, hd, h⟩
  have hd' : IsHull (diskL n m) d := hull_congr hd (fun x => by rw [← HK.out]; exact dl8_mem n m x)
  rcases h with ⟨hl, v3, rfl, sl3, g3⟩ | ⟨hl, v3, rfl, sl3, g3⟩
  · have S3 := Lib.hid sl3
    have HD := Lib.hid hd'
    clear hd hd' sl3
    go_wp2_with fail
    go_ret2
    exact ⟨_, m, d, HM.out, HD.out, rfl, S3.out, Grew.trans G1 (Grew.trans ((Grew.refl w1).alloc _ _) g3)⟩
  · exfalso
    have := hull_le hd'
    simp [diskL, octL] at this
    omega
theorem landed : Code where
  sum_bad := sum_bad_c
  sum_ok := sum_ok_c
  shift_bad := shift_bad_c
  shift_ok := shift_ok_c
  mir_bad := mir_bad_c
  mir_ok := mir_ok_c
  disk_bad := disk_bad_c
  disk_ok := disk_ok_c
end Mk
end Go.Proofs.Yteglefjnbkocgaa
