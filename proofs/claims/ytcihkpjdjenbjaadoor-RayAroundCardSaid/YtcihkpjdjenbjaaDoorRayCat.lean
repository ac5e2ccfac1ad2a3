/-
  The library Grow and Concat at two lists of points.
-/
import Derived.Test.YtcihkpjdjenbjaaDoorHullCu
namespace Go.Proofs.YtcihkpjdjenbjaaDoor
open Go.RowKit Go.Shelf Hl
namespace Ry
def growQ_ren : Go.Shelf.Ren := ⟨fun | 4 => 52 | n => n, fun | 22 => 34 | 25 => 23 | 3 => 3 | 4 => 4 | 9 => 9 | 20 => 20 | 0 => 0 | 2 => 3 | n => n, fun | n => n⟩
theorem growQ : Go.Proofs.Lays8.n4 Tryd.prog growQ_ren := {
  mixed := by kernel_rfl
  f4 := ⟨Tryd.f52.name, by decide, Tryd.func52.trans (congrArg some (by kernel_rfl))⟩
  t0 := Tryd.underlying0
  a0 := Tryd.isAgg0
  z0 := Tryd.sizeOf0
  v0 := Tryd.zeroValue0
  t3 := Tryd.underlying3
  a3 := Tryd.isAgg3
  z3 := Tryd.sizeOf3
  v3 := Tryd.zeroValue3
  t4 := Tryd.underlying4
  a4 := Tryd.isAgg4
  z4 := Tryd.sizeOf4
  v4 := Tryd.zeroValue4
  t9 := Tryd.underlying9
  a9 := Tryd.isAgg9
  z9 := Tryd.sizeOf9
  v9 := Tryd.zeroValue9
  t20 := Tryd.underlying20
  a20 := Tryd.isAgg20
  z20 := Tryd.sizeOf20
  v20 := Tryd.zeroValue20
  t22 := Tryd.underlying34
  a22 := Tryd.isAgg34
  z22 := Tryd.sizeOf34
  v22 := Tryd.zeroValue34 }
theorem grow_any (N : Nat) (w : World) (hN : N ≤ 4000000) :
    Calls Tryd.prog 52 #[.slice none 0 0, .int .i64 N] w fun e w' => ∃ sa sc, e = .returned (.slice sa 0 sc) ∧ Hl.Own w.heap.size w' (.slice sa 0 sc) [] ∧ Grew w w' := by
  by_cases h0 : N = 0
  · subst h0
    clear hN
    go_enter Tryd.func52, Tryd.ntmps52
    go_wp2_with fail
    go_ret
    exact ⟨none, 0, rfl, Own.nil _ _, Grew.refl _⟩
  · obtain ⟨i0, hi, hz0, hz1, hz2⟩ := info_parts info_pt
    have h := Any8.slices_Grow_grow growQ i0 (.agg #[.int .i64 0, .int .i64 0]) hi hz0 (by omega) none 0 0 N [] w (Nat.le_refl _) (by omega) (by rw [hz2]; omega) (by omega) (by simp) (fun _ => rfl) (fun a h => by cases h)
    refine h.mono ?_
    rintro e w' ⟨rfl, rfl⟩
    have hG := grownCap_ge w (0 + N) 0 23
    have hM := grownCap_le_maxLen w (0 + N) 0 23 (by unfold maxLen; omega)
    have hz : (growQ_ren.t 25) = 23 := rfl
    rw [hz]
    refine ⟨_, _, rfl, own_at.1 ⟨Nat.le_refl _, Nat.zero_le _, hM, _, new_block _ _ _, ?_, fun i hi => absurd hi (Nat.not_lt_zero _)⟩, ((Grew.refl w).drew).alloc _ _⟩
    rw [Array.size_append, Array.size_append, size_zeroCells, size_zeroCells]
    show 0 + (0 + N - 0) * 2 + (grownCap w (0 + N) 0 23 - (0 + N)) * 2 = _
    omega
set_option maxRecDepth 100000 in
set_option maxHeartbeats 4000000 in
theorem concat_pts (b g1 g2 c1 c2 : Nat) (S T : List Pt) (w : World) (hb : Blk w b #[.slice (some ⟨g1, 0, none⟩) S.length c1, .slice (some ⟨g2, 0, none⟩) T.length c2] 34) (hS : Row w g1 0 S) (hT : Row w g2 0 T)
    (h1 : 1 ≤ S.length) (h2 : S.length ≤ 1000000) (h3 : T.length ≤ 1000000) :
    Calls Tryd.prog 34 #[.slice (some ⟨b, 0, none⟩) 2 2] w fun e w' => ∃ v, e = .returned v ∧ Hl.Own w.heap.size w' v (S ++ T) ∧ Grew w w' := by
  have HS := Lib.hid hS
  have HT := Lib.hid hT
  have HB := Lib.hid hb
  obtain ⟨⟨x0, x1⟩, _, _⟩ := hb.two
  have GC : Hid (∀ W, Grew w W → Calls Tryd.prog 52 #[.slice none 0 0, .int .i64 ((S.length : Int) + (T.length : Int))] W fun e w' => ∃ sa sc, e = .returned (.slice sa 0 sc) ∧ Hid (Hl.Own w.heap.size w' (.slice sa 0 sc) [] ∧ Grew w w')) := Lib.hid (fun W g => by
    have h := grow_any (S.length + T.length) W (by omega)
    rw [Int.natCast_add] at h
    refine h.mono ?_
    rintro e w' ⟨sa, sc, he, ho, hg⟩
    exact ⟨sa, sc, he, Lib.hid ⟨ho.mono g.size, g.trans hg⟩⟩)
  have W1 : IntKind.i64.wrap (S.length : Int) = (S.length : Int) := IntWalk.i64_in _ ⟨by omega, by omega⟩
  have W2 : IntKind.i64.wrap ((S.length : Int) + (T.length : Int)) = (S.length : Int) + (T.length : Int) := IntWalk.i64_in _ ⟨by omega, by omega⟩
  have n1 : ¬ ((S.length : Int) < 0) := by omega
  have n2 : ¬ ((S.length : Int) + (T.length : Int) < 0) := by omega
  clear hb hS hT
  go_enter Tryd.func34, Tryd.ntmps34
  go_wp2_with fail
  go_loopw [3, 11] (fun s i wr => w = wr ∧ ((i = .int .i64 0 ∧ s = .int .i64 0) ∨ (i = .int .i64 1 ∧ s = .int .i64 S.length) ∨ (i = .int .i64 2 ∧ s = .int .i64 ((S.length : Int) + (T.length : Int))))) (fun _ i _ => 2 - (intOf i).toNat)
  case atStart => exact ⟨rfl, Or.inl ⟨rfl, rfl⟩⟩
  case round =>
    obtain ⟨rfl, hk⟩ := hrel
    rcases hk with ⟨rfl, rfl⟩ | ⟨rfl, rfl⟩ | ⟨rfl, rfl⟩
    · go_wp2_with fail
      exact ⟨⟨trivial, Or.inr (Or.inl ⟨rfl, rfl⟩)⟩, by simp [intOf]⟩
    · go_wp2_with fail
      exact ⟨⟨trivial, Or.inr (Or.inr ⟨rfl, rfl⟩)⟩, by simp [intOf]⟩
    · go_wp2_with (first | (go_at_call 52; refine (GC.out _ (Grew.refl _)).mono ?_; rintro e w' ⟨sa, sc, rfl, hn⟩))
      clear x0 x1
      go_loopw [6, 27] (fun v i wz => ((i = .int .i64 0 ∧ Hl.Own w.heap.size wz v []) ∨ (i = .int .i64 1 ∧ Hl.Own w.heap.size wz v S) ∨ (i = .int .i64 2 ∧ Hl.Own w.heap.size wz v (S ++ T))) ∧ Grew w wz) (fun _ i _ => 2 - (intOf i).toNat)
      case atStart => exact ⟨Or.inl ⟨rfl, hn.out.1⟩, hn.out.2⟩
      case round =>
        clear hn GC
        obtain ⟨hk, hG⟩ := hrel
        have HG := Lib.hid hG
        obtain ⟨⟨x0, x1⟩, y0, y1⟩ := (HB.out.grown hG).two
        clear hG
        rcases hk with ⟨rfl, hO⟩ | ⟨rfl, hO⟩ | ⟨rfl, hO⟩
        · obtain ⟨oa, oc, rfl⟩ := hO.sl.shape
          have HO := Lib.hid hO
          clear hO
          go_wp2_with (at_builtin; go_must (refine append_T _ rfl _ _ 34 Tryd.underlying34 rfl w.heap.size _ ([]) (S) _ 0 _ rfl HO.out rfl (HS.out.grown HG.out) (by simp; omega) HG.out.size ?_; intro v' w' own' gr'; have GG' := Lib.hid (HG.out.grown gr' (fun k hk => HO.out.block k hk)); have OWN' := Lib.hid own'; obtain ⟨sa', sc', rfl⟩ := own'.sl.shape; clear own' gr'))
          exact ⟨⟨Or.inr (Or.inl ⟨rfl, OWN'.out⟩), GG'.out⟩, by simp [intOf]⟩
        · obtain ⟨oa, oc, rfl⟩ := hO.sl.shape
          have HO := Lib.hid hO
          clear hO
          go_wp2_with (at_builtin; go_must (refine append_T _ rfl _ _ 34 Tryd.underlying34 rfl w.heap.size _ (S) (T) _ 0 _ rfl HO.out rfl (HT.out.grown HG.out) (by omega) HG.out.size ?_; intro v' w' own' gr'; have GG' := Lib.hid (HG.out.grown gr' (fun k hk => HO.out.block k hk)); have OWN' := Lib.hid own'; obtain ⟨sa', sc', rfl⟩ := own'.sl.shape; clear own' gr'))
          exact ⟨⟨Or.inr (Or.inr ⟨rfl, by have h := OWN'.out; rwa [List.length_append] at h⟩), GG'.out⟩, by simp [intOf]⟩
        · obtain ⟨oa, oc, rfl⟩ := hO.sl.shape
          have HO := Lib.hid hO
          clear hO
          go_wp2_with fail
          go_ret
          exact ⟨_, rfl, HO.out, HG.out⟩
end Ry
end Go.Proofs.YtcihkpjdjenbjaaDoor
