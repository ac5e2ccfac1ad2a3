/-
  The library Grow at a nil chain, Reverse at points, Concat at two chains.
-/
import Derived.Test.YtpiajdahmcelnaaGreatMHullLay
import Derived.Test.YtpiajdahmcelnaaGreatMHullSame
import Derived.Test.YtpiajdahmcelnaaGreatMHullCr
namespace Go.Proofs.YtpiajdahmcelnaaGreat
open Go.RowKit Go.Shelf Go.Sort
namespace Hl
theorem new_block (w : World) (cs : Array Value) (t : TypeId) : (w.drew.alloc (.cells cs t)).heap[w.heap.size]? = some (.cells cs t (0, 0)) := by
  show (w.heap.push _)[w.heap.size]? = _
  rw [Array.getElem?_push_size]
theorem grow_c (N : Nat) (w : World) (h1 : 1 ≤ N) (hN : N ≤ 4000000) :
    Calls Tryz.prog 93 #[.slice none 0 0, .int .i64 N] w fun e w' => ∃ sa sc, e = .returned (.slice sa 0 sc) ∧ Own w.heap.size w' (.slice sa 0 sc) [] ∧ Grew w w' := by
  obtain ⟨i0, hi, hz0, hz1, hz2⟩ := info_parts info_pt
  have h := Any8.slices_Grow_grow growP i0 (.agg #[.int .i64 0, .int .i64 0]) hi hz0 (by omega) none 0 0 N [] w (Nat.le_refl _) (by omega) (by rw [hz2]; omega) (by omega) (by simp) (fun _ => rfl) (fun a h => by cases h)
  refine h.mono ?_
  rintro e w' ⟨rfl, rfl⟩
  have hG := grownCap_ge w (0 + N) 0 30
  have hM := grownCap_le_maxLen w (0 + N) 0 30 (by unfold maxLen; omega)
  have hz : (growP_ren.t 25) = 30 := rfl
  rw [hz]
  refine ⟨_, _, rfl, own_at.1 ⟨Nat.le_refl _, Nat.zero_le _, hM, _, new_block _ _ _, ?_, fun i hi => absurd hi (Nat.not_lt_zero _)⟩, ((Grew.refl w).drew).alloc _ _⟩
  rw [Array.size_append, Array.size_append, size_zeroCells, size_zeroCells]
  show 0 + (0 + N - 0) * 2 + (grownCap w (0 + N) 0 30 - (0 + N)) * 2 = _
  omega
theorem rev_c (l : List Pt) (B g cap : Nat) (w : World) (ho : OwnAt B w g cap l) (hl : l.length ≤ 4000000) :
    Calls Tryz.prog 76 #[.slice (some ⟨g, 0, none⟩) l.length cap] w fun e w' => e = .returned (.tuple #[]) ∧ OwnAt B w' g cap l.reverse ∧ w.grownBy w' (some g) := by
  have hH : HoldsK encP 2 w g 0 l.toArray := by
    unfold HoldsK
    rw [flat_cells]
    exact ho.holds
  have h := AnyQ.slices_Reverse reverseP 2 (fun w => Tryz.isAgg30 w) (fun w => Tryz.sizeOf30 w) encP (fun _ => rfl) (fun x v hv => by simp [encP] at hv; rcases hv with rfl | rfl <;> rfl) g 0 cap l.toArray w hH (by simp; omega)
  refine h.mono ?_
  rintro e w' ⟨rfl, n, rfl⟩
  refine ⟨rfl, ?_, ?_⟩
  · have := ho.put (n := n) (os := #[]) (q := l.reverse) List.length_reverse
    unfold putRowK
    rw [flat_cells]
    simpa using this
  · have := grownBy_put w g n #[] (cellsOf l.reverse).toArray
    unfold putRowK
    rw [flat_cells]
    simpa using this
end Hl
end Go.Proofs.YtpiajdahmcelnaaGreat
namespace Go.Proofs.YtpiajdahmcelnaaGreat
open Go.RowKit Go.Shelf
namespace Hl
theorem Own.mono {B B' : Nat} {w : World} {v : Value} {p : List Pt} (h : Own B w v p) (hb : B' ≤ B) : Own B' w v p := by
  refine ⟨h.1, ?_⟩
  rcases h.2 with h | ⟨g, cap, cur, e, h1, h2⟩
  · exact Or.inl h
  · exact Or.inr ⟨g, cap, cur, e, Nat.le_trans hb h1, h2⟩
set_option maxRecDepth 100000 in
set_option maxHeartbeats 4000000 in
theorem concat_c (b g1 g2 c1 c2 : Nat) (S T : List Pt) (w : World) (hb : Blk w b #[.slice (some ⟨g1, 0, none⟩) S.length c1, .slice (some ⟨g2, 0, none⟩) T.length c2] 95) (hS : Row w g1 0 S) (hT : Row w g2 0 T)
    (h1 : 1 ≤ S.length) (h2 : S.length ≤ 1000000) (h3 : T.length ≤ 1000000) :
    Calls Tryz.prog 77 #[.slice (some ⟨b, 0, none⟩) 2 2] w fun e w' => ∃ v, e = .returned v ∧ Own w.heap.size w' v (S ++ T) ∧ Grew w w' := by
  have HS := Lib.hid hS
  have HT := Lib.hid hT
  have HB := Lib.hid hb
  obtain ⟨⟨x0, x1⟩, _, _⟩ := hb.two
  have GC : Hid (∀ W, Grew w W → Calls Tryz.prog 93 #[.slice none 0 0, .int .i64 ((S.length : Int) + (T.length : Int))] W fun e w' => ∃ sa sc, e = .returned (.slice sa 0 sc) ∧ Hid (Own w.heap.size w' (.slice sa 0 sc) [] ∧ Grew w w')) := Lib.hid (fun W g => by
    have h := grow_c (S.length + T.length) W (by omega) (by omega)
    rw [Int.natCast_add] at h
    refine h.mono ?_
    rintro e w' ⟨sa, sc, he, ho, hg⟩
    exact ⟨sa, sc, he, Lib.hid ⟨ho.mono g.size, g.trans hg⟩⟩)
  have W1 : IntKind.i64.wrap (S.length : Int) = (S.length : Int) := IntWalk.i64_in _ ⟨by omega, by omega⟩
  have W2 : IntKind.i64.wrap ((S.length : Int) + (T.length : Int)) = (S.length : Int) + (T.length : Int) := IntWalk.i64_in _ ⟨by omega, by omega⟩
  have n1 : ¬ ((S.length : Int) < 0) := by omega
  have n2 : ¬ ((S.length : Int) + (T.length : Int) < 0) := by omega
  clear hb hS hT
  go_enter Tryz.func77, Tryz.ntmps77
  go_wp2_with fail
  go_loopw [3, 11] (fun s i wr => w = wr ∧ ((i = .int .i64 0 ∧ s = .int .i64 0) ∨ (i = .int .i64 1 ∧ s = .int .i64 S.length) ∨ (i = .int .i64 2 ∧ s = .int .i64 ((S.length : Int) + (T.length : Int))))) (fun _ i _ => 2 - (intOf i).toNat)
  case atStart => exact ⟨rfl, Or.inl ⟨rfl, rfl⟩⟩
  case round =>
    obtain ⟨rfl, hk⟩ := hrel
    rcases hk with ⟨rfl, rfl⟩ | ⟨rfl, rfl⟩ | ⟨rfl, rfl⟩
    · go_wp2_with fail
      exact ⟨⟨trivial, Or.inr (Or.inl ⟨rfl, rfl⟩)⟩, by simp [intOf]⟩
    · go_wp2_with fail
      exact ⟨⟨trivial, Or.inr (Or.inr ⟨rfl, rfl⟩)⟩, by simp [intOf]⟩
    · go_wp2_with (first | (go_at_call 93; refine (GC.out _ (Grew.refl _)).mono ?_; rintro e w' ⟨sa, sc, rfl, hn⟩))
      clear x0 x1
      go_loopw [6, 27] (fun v i wz => ((i = .int .i64 0 ∧ Own w.heap.size wz v []) ∨ (i = .int .i64 1 ∧ Own w.heap.size wz v S) ∨ (i = .int .i64 2 ∧ Own w.heap.size wz v (S ++ T))) ∧ Grew w wz) (fun _ i _ => 2 - (intOf i).toNat)
      case atStart => exact ⟨Or.inl ⟨rfl, hn.out.1⟩, hn.out.2⟩
      case round =>
        clear hn GC
        obtain ⟨hk, hG⟩ := hrel
        have HG := Lib.hid hG
        obtain ⟨⟨x0, x1⟩, y0, y1⟩ := (HB.out.grown hG).two
        clear hG
        rcases hk with ⟨rfl, hO⟩ | ⟨rfl, hO⟩ | ⟨rfl, hO⟩
        · obtain ⟨oa, oc, rfl⟩ := hO.sl.shape
          have HO := Lib.hid hO
          clear hO
          go_wp2_with (at_builtin; go_must (refine append_T _ rfl _ _ 95 Tryz.underlying95 rfl w.heap.size _ ([]) (S) _ 0 _ rfl HO.out rfl (HS.out.grown HG.out) (by simp; omega) HG.out.size ?_; intro v' w' own' gr'; have GG' := Lib.hid (HG.out.grown gr' (fun k hk => HO.out.block k hk)); have OWN' := Lib.hid own'; obtain ⟨sa', sc', rfl⟩ := own'.sl.shape; clear own' gr'))
          exact ⟨⟨Or.inr (Or.inl ⟨rfl, OWN'.out⟩), GG'.out⟩, by simp [intOf]⟩
        · obtain ⟨oa, oc, rfl⟩ := hO.sl.shape
          have HO := Lib.hid hO
          clear hO
          go_wp2_with (at_builtin; go_must (refine append_T _ rfl _ _ 95 Tryz.underlying95 rfl w.heap.size _ (S) (T) _ 0 _ rfl HO.out rfl (HT.out.grown HG.out) (by omega) HG.out.size ?_; intro v' w' own' gr'; have GG' := Lib.hid (HG.out.grown gr' (fun k hk => HO.out.block k hk)); have OWN' := Lib.hid own'; obtain ⟨sa', sc', rfl⟩ := own'.sl.shape; clear own' gr'))
          exact ⟨⟨Or.inr (Or.inr ⟨rfl, by have h := OWN'.out; rwa [List.length_append] at h⟩), GG'.out⟩, by simp [intOf]⟩
        · obtain ⟨oa, oc, rfl⟩ := hO.sl.shape
          have HO := Lib.hid hO
          clear hO
          go_wp2_with fail
          go_ret
          exact ⟨_, rfl, HO.out, HG.out⟩
end Hl
end Go.Proofs.YtpiajdahmcelnaaGreat
