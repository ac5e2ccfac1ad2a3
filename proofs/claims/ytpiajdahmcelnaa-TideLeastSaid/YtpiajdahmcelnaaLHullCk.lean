/-
  The landed Hull, Box and Eight; Has and Area at what is no polygon; all contracts of the landed package, in one.
-/
import Derived.Test.YtpiajdahmcelnaaLHullOwn
import Derived.Test.YtpiajdahmcelnaaLHullCs
import Derived.Test.YtpiajdahmcelnaaLHullCv
import Derived.Test.YtpiajdahmcelnaaLHullCd
import Derived.Test.YtpiajdahmcelnaaLHullCg
import Derived.Test.YtpiajdahmcelnaaLHullCon
namespace Go.Proofs.Ytpiajdahmcelnaa
open Go.RowKit Go.Shelf
namespace Hl
theorem sl_nil (w : World) (a : Option Addr) (c : Nat) : Sl w (.slice a 0 c) [] := Or.inl ⟨rfl, a, c, rfl⟩
set_option maxRecDepth 100000 in
set_option maxHeartbeats 4000000 in
theorem hullc_big (l : List Pt) (v : Value) (w : World) (hs : Sl w v l) (h : l.length ≤ 9223372036854775807) (hb : 4000 < l.length) : Calls Try.prog 43 #[v] w (Empty 2 w) := by
  obtain ⟨a, c, rfl⟩ := hs.shape
  have h1 : ((l.length : Int) > 4000) := by omega
  clear hs
  go_enter Try.func43, Try.ntmps43
  go_wp2_with fail
  go_ret2
  exact ⟨_, rfl, sl_nil _ _ _, Grew.refl _⟩
set_option maxRecDepth 100000 in
set_option maxHeartbeats 4000000 in
theorem hullc_bad (l : List Pt) (v : Value) (w : World) (hs : Sl w v l) (h : l.length ≤ 4000) (hb : l = [] ∨ ¬ Plcs l) : Calls Try.prog 43 #[v] w (Empty 1 w) := by
  rcases hs with ⟨rfl, a, c, rfl⟩ | ⟨b, o, c, rfl, hr⟩
  · clear h hb
    go_enter Try.func43, Try.ntmps43
    go_wp2_with fail
    go_ret2
    exact ⟨_, rfl, sl_nil _ _ _, Grew.refl _⟩
  · by_cases h0 : l = []
    · subst h0
      clear h hb hr
      go_enter Try.func43, Try.ntmps43
      go_wp2_with fail
      go_ret2
      exact ⟨_, rfl, sl_nil _ _ _, Grew.refl _⟩
    · have hn : ¬ ((l.length : Int) = 0) := fun e => h0 (List.length_eq_zero_iff.1 (by omega))
      have h1 : ¬ ((l.length : Int) > 4000) := by omega
      have PC : Hid (Calls Try.prog 65 #[.slice (some ⟨b, o, none⟩) l.length c] w fun e w' => e = .returned (.bool false) ∧ Hid (Grew w w')) := Lib.hid ((places_c l b o c w hr (by omega)).mono (by
        rintro e w' ⟨r, rfl, hr, g⟩
        cases r
        · exact ⟨rfl, Lib.hid g⟩
        · exact (hb.elim h0 (fun hb => hb (hr.1 rfl))).elim))
      have hn2 : ((l.length : Int) == 0) = false := beq_eq_false_iff_ne.2 hn
      generalize l.length = n at *
      clear hb h0 hr
      go_enter Try.func43, Try.ntmps43
      go_wp2_with (first | (go_at_call 65; refine PC.out.mono ?_; rintro e w' ⟨rfl, hg⟩))
      go_ret2
      exact ⟨_, rfl, sl_nil _ _ _, hg.out⟩
set_option maxRecDepth 100000 in
set_option maxHeartbeats 4000000 in
theorem hullc_new (l : List Pt) (v : Value) (w : World) (hs : Sl w v l) (h : l.length ≤ 4000) (h0 : l ≠ []) (hp : Plcs l) : Calls Try.prog 43 #[v] w (HullNew l w) := by
  rcases hs with ⟨rfl, a, c, rfl⟩ | ⟨b, o, c, rfl, hr⟩
  · exact absurd rfl h0
  · have hn : ¬ ((l.length : Int) = 0) := fun e => h0 (List.length_eq_zero_iff.1 (by omega))
    have h1 : ¬ ((l.length : Int) > 4000) := by omega
    have PC : Hid (Calls Try.prog 65 #[.slice (some ⟨b, o, none⟩) l.length c] w fun e w' => e = .returned (.bool true) ∧ Hid (Grew w w')) := Lib.hid ((places_c l b o c w hr (by omega)).mono (by
      rintro e w' ⟨r, rfl, hr, g⟩
      rw [hr.2 hp]
      exact ⟨rfl, Lib.hid g⟩))
    have CC : Hid (∀ W, Grew w W → Calls Try.prog 66 #[.slice (some ⟨b, o, none⟩) l.length c] W fun e w' => ∃ sa n sc, e = .returned (.slice sa n sc) ∧ Hid (∃ q, IsHull l q ∧ q.length = n ∧ SlN w w' (.slice sa n sc) q ∧ Grew w w')) := Lib.hid (fun W g => (corners_c l b o c W (hr.grown g) hp (by omega) (by omega)).mono (by
      rintro e w' ⟨v, q, rfl, hq, ho, g'⟩
      obtain ⟨sa, sc, rfl⟩ := ho.sl.shape
      exact ⟨sa, _, sc, rfl, Lib.hid ⟨q, hq, rfl, ⟨ho.less g.size⟩, g.trans g'⟩⟩))
    have hn2 : ((l.length : Int) == 0) = false := beq_eq_false_iff_ne.2 hn
    obtain ⟨m, hm⟩ : ∃ m, l.length = m := ⟨_, rfl⟩
    rw [hm] at hn hn2 h1 PC CC ⊢
    clear h0 hr hp hm h
    go_enter Try.func43, Try.ntmps43
    go_wp2_with (first | (go_at_call 65; refine PC.out.mono ?_; rintro e w' ⟨rfl, hg⟩) | (go_at_call 66; refine (CC.out _ hg.out).mono ?_; rintro e w' ⟨sa, n, sc, rfl, hh⟩))
    all_goals go_ret2
    all_goals (obtain ⟨q, hq, rfl, hsl, g⟩ := hh.out)
    · exact ⟨q, hq, Or.inr ⟨by omega, _, rfl, sl_nil _ _ _, g⟩⟩
    · exact ⟨q, hq, Or.inl ⟨by omega, _, rfl, hsl, g⟩⟩
theorem hullc_ok (l : List Pt) (v : Value) (w : World) (hs : Sl w v l) (h : l.length ≤ 4000) (h0 : l ≠ []) (hp : Plcs l) : Calls Try.prog 43 #[v] w (HullSays l w) := (hullc_new l v w hs h h0 hp).mono fun _ _ h => h.says
end Hl
end Go.Proofs.Ytpiajdahmcelnaa
namespace Go.Proofs.Ytpiajdahmcelnaa
open Go.RowKit Go.Shelf
namespace Hl
theorem novalid {p : List Pt} {v : Value} {w : World} (hs : Sl w v p) (hl : p.length ≤ 9223372036854775807) (hv : ¬ Vl p) (n : Nat) (W : World) (g : Grew w W) : CallsIn Fence.wide n Try.prog 44 #[v] W fun e w' => e = .returned (.bool false) ∧ Grew W w' :=
  callsIn_wide.2 ((valid_c p v W (hs.grown g) hl).mono (by
    rintro e w' ⟨r, rfl, h, g⟩
    cases r
    · exact ⟨rfl, g⟩
    · exact absurd (h.1 rfl) hv))
theorem isvalid {p : List Pt} {v : Value} {w : World} (hs : Sl w v p) (hl : p.length ≤ 9223372036854775807) (hv : Vl p) (n : Nat) (W : World) (g : Grew w W) : CallsIn Fence.wide n Try.prog 44 #[v] W fun e w' => e = .returned (.bool true) ∧ Grew W w' :=
  callsIn_wide.2 ((valid_c p v W (hs.grown g) hl).mono (by
    rintro e w' ⟨r, rfl, h, g⟩
    rw [h.2 hv]
    exact ⟨rfl, g⟩))
set_option maxRecDepth 100000 in
set_option maxHeartbeats 4000000 in
theorem hasc_bad (p : List Pt) (x : Pt) (v : Value) (w : World) (hs : Sl w v p) (hl : p.length ≤ 9223372036854775807) (hb : ¬ (Vl p ∧ Plc x)) : Calls Try.prog 22 #[v, .agg #[.int .i64 x.1, .int .i64 x.2]] w fun e w' => e = .returned (.tuple #[.bool false, .int .i64 1]) ∧ Grew w w' := by
  obtain ⟨sa, sc, hsh⟩ := hs.shape
  have HS := Lib.hid hs
  have HSH := Lib.hid hsh
  have G0 : Grew w (((w.alloc (.cells #[.int .i64 x.1, .int .i64 x.2] 30)).alloc (.cells #[.bool false] 4)).alloc (.cells #[.int .i64 0] 34)) := (((Grew.refl w).alloc _ _).alloc _ _).alloc _ _
  have XB : Blk (((w.alloc (.cells #[.int .i64 x.1, .int .i64 x.2] 30)).alloc (.cells #[.bool false] 4)).alloc (.cells #[.int .i64 0] 34)) w.heap.size #[.int .i64 x.1, .int .i64 x.2] 30 := ((Blk.new w _ _).alloc _).alloc _
  have RB : Blk (((w.alloc (.cells #[.int .i64 x.1, .int .i64 x.2] 30)).alloc (.cells #[.bool false] 4)).alloc (.cells #[.int .i64 0] 34)) (w.heap.size + 1) #[.bool false] 4 := by
    have h := (Blk.new (w.alloc (.cells #[.int .i64 x.1, .int .i64 x.2] 30)) #[.bool false] 4).alloc (.cells #[.int .i64 0] 34)
    rwa [World.size_alloc] at h
  have RE : Blk (((w.alloc (.cells #[.int .i64 x.1, .int .i64 x.2] 30)).alloc (.cells #[.bool false] 4)).alloc (.cells #[.int .i64 0] 34)) (w.heap.size + 1 + 1) #[.int .i64 0] 34 := by
    have h := Blk.new ((w.alloc (.cells #[.int .i64 x.1, .int .i64 x.2] 30)).alloc (.cells #[.bool false] 4)) #[.int .i64 0] 34
    rwa [World.size_alloc, World.size_alloc] at h
  have XB := Lib.hid XB
  have RB := Lib.hid RB
  have RE := Lib.hid RE
  have G0 := Lib.hid G0
  by_cases hv : Vl p
  · have VC := Lib.hid (isvalid hs hl hv)
    have PC : Hid (∀ n W, CallsIn Fence.wide n Try.prog 45 #[.agg #[.int .i64 x.1, .int .i64 x.2]] W fun e w' => e = .returned (.bool false) ∧ W.alloc (.cells #[.int .i64 x.1, .int .i64 x.2] 30) = w') := Lib.hid (fun n W => callsIn_wide.2 (by
      have h := place_c x W
      rwa [decide_eq_false (fun hx => hb ⟨hv, hx⟩)] at h))
    clear hs hb hv hsh
    refine (callsIn_wide (n := 5)).1 ?_
    refine callsIn_of_wp_marks Try.func22 rfl trivial ?_ rfl
    simp only [Try.ntmps22, List.size_toArray, List.length_cons, List.length_nil, Nat.reduceAdd, Nat.reduceSub, Array.replicate_succ, Array.replicate_zero, List.push_toArray, List.append_toArray, List.nil_append, List.cons_append]
    gi_wp2_with fail
    refine ⟨trivial, (VC.out _ _ G0.out).mono ?_⟩
    rintro e w1 ⟨rfl, g1⟩
    have GW : Grew w w1 := G0.out.trans g1
    have kB := RB.out.grown g1
    have kE := RE.out.grown g1
    obtain ⟨⟨x0, x1⟩, x2, x3⟩ := (XB.out.grown g1).two
    obtain ⟨r0, r1⟩ := kB.one
    obtain ⟨e0, e1⟩ := kE.one
    have lB := kB.lt
    have lE := kE.lt
    clear g1
    gi_wp2_with fail
    refine ⟨trivial, (PC.out _ _).mono ?_⟩
    rintro e w2 ⟨rfl, rfl⟩
    gi_wp2_with fail
    exact ⟨.tuple #[.bool false, .int .i64 1], by simp [results, Try.results22, go_sem, *], rfl, by (repeat' (first | (with_reducible exact Grew.refl _) | (with_reducible assumption) | (with_reducible refine Grew.alloc ?_ _ _) | (with_reducible refine Grew.drew ?_) | (with_reducible refine Grew.drewN ?_ _) | (with_reducible refine Grew.setCell ?_ ?_ _) | go_size))⟩
  · have VC := Lib.hid (novalid hs hl hv)
    clear hs hb hv hsh
    refine (callsIn_wide (n := 5)).1 ?_
    refine callsIn_of_wp_marks Try.func22 rfl trivial ?_ rfl
    simp only [Try.ntmps22, List.size_toArray, List.length_cons, List.length_nil, Nat.reduceAdd, Nat.reduceSub, Array.replicate_succ, Array.replicate_zero, List.push_toArray, List.append_toArray, List.nil_append, List.cons_append]
    gi_wp2_with fail
    refine ⟨trivial, (VC.out _ _ G0.out).mono ?_⟩
    rintro e w1 ⟨rfl, g1⟩
    have GW : Grew w w1 := G0.out.trans g1
    have kB := RB.out.grown g1
    have kE := RE.out.grown g1
    obtain ⟨⟨x0, x1⟩, x2, x3⟩ := (XB.out.grown g1).two
    obtain ⟨r0, r1⟩ := kB.one
    obtain ⟨e0, e1⟩ := kE.one
    have lB := kB.lt
    have lE := kE.lt
    clear g1
    gi_wp2_with fail
    refine ⟨trivial, ?_⟩
    gi_wp2_with fail
    exact ⟨.tuple #[.bool false, .int .i64 1], by simp [results, Try.results22, go_sem, *], rfl, by (repeat' (first | (with_reducible exact Grew.refl _) | (with_reducible assumption) | (with_reducible refine Grew.alloc ?_ _ _) | (with_reducible refine Grew.drew ?_) | (with_reducible refine Grew.drewN ?_ _) | (with_reducible refine Grew.setCell ?_ ?_ _) | go_size))⟩
end Hl
end Go.Proofs.Ytpiajdahmcelnaa
namespace Go.Proofs.Ytpiajdahmcelnaa
open Go.RowKit Go.Shelf
namespace Hl
set_option maxRecDepth 100000 in
set_option maxHeartbeats 4000000 in
theorem boxc_bad (p : List Pt) (v : Value) (w : World) (hs : Sl w v p) (hl : p.length ≤ 9223372036854775807) (hv : ¬ Vl p) : Calls Try.prog 23 #[v] w fun e w' => e = .returned (.tuple #[.agg #[.int .i64 ((0, 0) : Pt).1, .int .i64 ((0, 0) : Pt).2], .agg #[.int .i64 ((0, 0) : Pt).1, .int .i64 ((0, 0) : Pt).2], .int .i64 1]) ∧ Grew w w' := by
  have VC : Hid (∀ W, Grew w W → Calls Try.prog 44 #[v] W fun e w' => e = .returned (.bool false) ∧ Grew W w') := Lib.hid (fun W g => (callsIn_wide (n := 0)).1 (novalid hs hl hv 0 W g))
  have T1 := ((Two.new w 0 0 30).grown ((Grew.refl _).alloc #[.int .i64 0, .int .i64 0] 30))
  have T2 := Two.new (w.alloc (.cells #[.int .i64 0, .int .i64 0] 30)) 0 0 30
  rw [World.size_alloc] at T2
  clear hs hv
  go_enter Try.func23, Try.ntmps23
  go_wp2_with fail
  refine (VC.out _ (by (repeat' (first | (with_reducible exact Grew.refl _) | (with_reducible assumption) | (with_reducible refine Grew.alloc ?_ _ _) | (with_reducible refine Grew.drew ?_) | (with_reducible refine Grew.drewN ?_ _) | (with_reducible refine Grew.setCell ?_ ?_ _) | go_size)))).mono ?_
  rintro e w1 ⟨rfl, g1⟩
  have G0 : Grew w w1 := (((Grew.refl w).alloc _ _).alloc _ _).trans g1
  obtain ⟨⟨x0, x1, x2⟩, x3, x4⟩ := T1.grown g1
  obtain ⟨⟨y0, y1, y2⟩, y3, y4⟩ := T2.grown g1
  clear T1 T2 g1
  go_wp2_with fail
  refine bodyPost_ret (v := .tuple #[.agg #[.int .i64 ((0, 0) : Pt).1, .int .i64 ((0, 0) : Pt).2], .agg #[.int .i64 ((0, 0) : Pt).1, .int .i64 ((0, 0) : Pt).2], .int .i64 1]) (by simp [results, Try.results23, go_sem, *]) rfl ⟨rfl, by (repeat' (first | (with_reducible exact Grew.refl _) | (with_reducible assumption) | (with_reducible refine Grew.alloc ?_ _ _) | (with_reducible refine Grew.drew ?_) | (with_reducible refine Grew.drewN ?_ _) | (with_reducible refine Grew.setCell ?_ ?_ _) | go_size))⟩
set_option maxRecDepth 100000 in
set_option maxHeartbeats 4000000 in
theorem boxc_ok (p : List Pt) (v : Value) (w : World) (hs : Sl w v p) (hv : Vl p) : Calls Try.prog 23 #[v] w (BoxSays p w) := by
  have h1 : 1 ≤ p.length := hv.1.1
  have h64 : p.length ≤ 64 := hv.1.2
  rcases hs with ⟨rfl, a, c, rfl⟩ | ⟨b, o, c, rfl, hr⟩
  · exact absurd h1 (by simp)
  have VC : Hid (∀ W, Grew w W → Calls Try.prog 44 #[.slice (some ⟨b, o, none⟩) p.length c] W fun e w' => e = .returned (.bool true) ∧ Grew W w') := Lib.hid (fun W g => (callsIn_wide (n := 0)).1 (isvalid (w := w) (Or.inr ⟨b, o, c, rfl, hr⟩) (by omega) hv 0 W g))
  have BC : Hid (∀ W, Grew w W → Calls Try.prog 46 #[.slice (some ⟨b, o, none⟩) p.length c] W (Box2Says p W)) := Lib.hid (fun W g => box_c p b o c W (hr.grown g) hv.2.1 hv.1.1 (by omega))
  have T1 := ((Two.new w 0 0 30).grown ((Grew.refl _).alloc #[.int .i64 0, .int .i64 0] 30))
  have T2 := Two.new (w.alloc (.cells #[.int .i64 0, .int .i64 0] 30)) 0 0 30
  rw [World.size_alloc] at T2
  clear hr hv
  go_enter Try.func23, Try.ntmps23
  go_wp2_with fail
  refine (VC.out _ (by (repeat' (first | (with_reducible exact Grew.refl _) | (with_reducible assumption) | (with_reducible refine Grew.alloc ?_ _ _) | (with_reducible refine Grew.drew ?_) | (with_reducible refine Grew.drewN ?_ _) | (with_reducible refine Grew.setCell ?_ ?_ _) | go_size)))).mono ?_
  rintro e w1 ⟨rfl, g1⟩
  have G0 : Grew w w1 := (((Grew.refl w).alloc _ _).alloc _ _).trans g1
  have T1 := T1.grown g1
  have T2 := T2.grown g1
  clear VC g1
  go_wp2_with fail
  refine (BC.out _ G0).mono ?_
  rintro e w2 ⟨lo, hi, hb, rfl, g2⟩
  have G0 : Grew w w2 := G0.trans g2
  obtain ⟨⟨x0, x1, x2⟩, x3, x4⟩ := T1.grown g2
  obtain ⟨⟨y0, y1, y2⟩, y3, y4⟩ := T2.grown g2
  have HB := Lib.hid hb
  clear T1 T2 g2 BC hb
  have n1 : ¬ w.heap.size = w.heap.size + 1 := by omega
  have n2 : ¬ w.heap.size + 1 = w.heap.size := by omega
  go_wp2_with fail
  have GW : Grew w ((((w2.setCell ⟨w.heap.size, 0, none⟩ (.int .i64 lo.1)).setCell ⟨w.heap.size, 1, none⟩ (.int .i64 lo.2)).setCell ⟨w.heap.size + 1, 0, none⟩ (.int .i64 hi.1)).setCell ⟨w.heap.size + 1, 1, none⟩ (.int .i64 hi.2)) := by (repeat' (first | (with_reducible exact Grew.refl _) | (with_reducible assumption) | (with_reducible refine Grew.alloc ?_ _ _) | (with_reducible refine Grew.drew ?_) | (with_reducible refine Grew.drewN ?_ _) | (with_reducible refine Grew.setCell ?_ ?_ _) | go_size))
  have FW : ((((((w2.setCell ⟨w.heap.size, 0, none⟩ (.int .i64 lo.1)).setCell ⟨w.heap.size, 1, none⟩ (.int .i64 lo.2)).setCell ⟨w.heap.size + 1, 0, none⟩ (.int .i64 hi.1)).setCell ⟨w.heap.size + 1, 1, none⟩ (.int .i64 hi.2)).cell? ⟨w.heap.size, 0, none⟩ = some (.int .i64 lo.1) ∧ ((((w2.setCell ⟨w.heap.size, 0, none⟩ (.int .i64 lo.1)).setCell ⟨w.heap.size, 1, none⟩ (.int .i64 lo.2)).setCell ⟨w.heap.size + 1, 0, none⟩ (.int .i64 hi.1)).setCell ⟨w.heap.size + 1, 1, none⟩ (.int .i64 hi.2)).frozen? ⟨w.heap.size, 0, none⟩ = false) ∧ (((((w2.setCell ⟨w.heap.size, 0, none⟩ (.int .i64 lo.1)).setCell ⟨w.heap.size, 1, none⟩ (.int .i64 lo.2)).setCell ⟨w.heap.size + 1, 0, none⟩ (.int .i64 hi.1)).setCell ⟨w.heap.size + 1, 1, none⟩ (.int .i64 hi.2)).cell? ⟨w.heap.size, 1, none⟩ = some (.int .i64 lo.2) ∧ ((((w2.setCell ⟨w.heap.size, 0, none⟩ (.int .i64 lo.1)).setCell ⟨w.heap.size, 1, none⟩ (.int .i64 lo.2)).setCell ⟨w.heap.size + 1, 0, none⟩ (.int .i64 hi.1)).setCell ⟨w.heap.size + 1, 1, none⟩ (.int .i64 hi.2)).frozen? ⟨w.heap.size, 1, none⟩ = false)) ∧ ((((((w2.setCell ⟨w.heap.size, 0, none⟩ (.int .i64 lo.1)).setCell ⟨w.heap.size, 1, none⟩ (.int .i64 lo.2)).setCell ⟨w.heap.size + 1, 0, none⟩ (.int .i64 hi.1)).setCell ⟨w.heap.size + 1, 1, none⟩ (.int .i64 hi.2)).cell? ⟨w.heap.size + 1, 0, none⟩ = some (.int .i64 hi.1) ∧ ((((w2.setCell ⟨w.heap.size, 0, none⟩ (.int .i64 lo.1)).setCell ⟨w.heap.size, 1, none⟩ (.int .i64 lo.2)).setCell ⟨w.heap.size + 1, 0, none⟩ (.int .i64 hi.1)).setCell ⟨w.heap.size + 1, 1, none⟩ (.int .i64 hi.2)).frozen? ⟨w.heap.size + 1, 0, none⟩ = false) ∧ (((((w2.setCell ⟨w.heap.size, 0, none⟩ (.int .i64 lo.1)).setCell ⟨w.heap.size, 1, none⟩ (.int .i64 lo.2)).setCell ⟨w.heap.size + 1, 0, none⟩ (.int .i64 hi.1)).setCell ⟨w.heap.size + 1, 1, none⟩ (.int .i64 hi.2)).cell? ⟨w.heap.size + 1, 1, none⟩ = some (.int .i64 hi.2) ∧ ((((w2.setCell ⟨w.heap.size, 0, none⟩ (.int .i64 lo.1)).setCell ⟨w.heap.size, 1, none⟩ (.int .i64 lo.2)).setCell ⟨w.heap.size + 1, 0, none⟩ (.int .i64 hi.1)).setCell ⟨w.heap.size + 1, 1, none⟩ (.int .i64 hi.2)).frozen? ⟨w.heap.size + 1, 1, none⟩ = false)) := by simp [go_sem, *]
  generalize (((w2.setCell ⟨w.heap.size, 0, none⟩ (.int .i64 lo.1)).setCell ⟨w.heap.size, 1, none⟩ (.int .i64 lo.2)).setCell ⟨w.heap.size + 1, 0, none⟩ (.int .i64 hi.1)).setCell ⟨w.heap.size + 1, 1, none⟩ (.int .i64 hi.2) = W3 at GW FW ⊢
  clear x0 x1 x2 x3 x4 y0 y1 y2 y3 y4 G0
  obtain ⟨⟨⟨x0, f0⟩, x1, f1⟩, ⟨y0, g0⟩, y1, g1⟩ := FW
  go_region_held3 (fun w' => ((w'.cell? ⟨w.heap.size, 0, none⟩ = some (.int .i64 lo.1) ∧ w'.frozen? ⟨w.heap.size, 0, none⟩ = false) ∧ (w'.cell? ⟨w.heap.size, 1, none⟩ = some (.int .i64 lo.2) ∧ w'.frozen? ⟨w.heap.size, 1, none⟩ = false)) ∧ ((w'.cell? ⟨w.heap.size + 1, 0, none⟩ = some (.int .i64 hi.1) ∧ w'.frozen? ⟨w.heap.size + 1, 0, none⟩ = false) ∧ (w'.cell? ⟨w.heap.size + 1, 1, none⟩ = some (.int .i64 hi.2) ∧ w'.frozen? ⟨w.heap.size + 1, 1, none⟩ = false))) (simp [go_sem, *]) (fail)
  all_goals go_wp2_with fail
  all_goals refine bodyPost_ret (v := .tuple #[.agg #[.int .i64 lo.1, .int .i64 lo.2], .agg #[.int .i64 hi.1, .int .i64 hi.2], .int .i64 0]) (by simp [results, Try.results23, go_sem, *]) rfl ⟨lo, hi, HB.out, rfl, by (repeat' (first | (with_reducible exact Grew.refl _) | (with_reducible assumption) | (with_reducible refine Grew.alloc ?_ _ _) | (with_reducible refine Grew.drew ?_) | (with_reducible refine Grew.drewN ?_ _) | (with_reducible refine Grew.setCell ?_ ?_ _) | go_size))⟩
end Hl
end Go.Proofs.Ytpiajdahmcelnaa
namespace Go.Proofs.Ytpiajdahmcelnaa
open Go.RowKit Go.Shelf
end Go.Proofs.Ytpiajdahmcelnaa
namespace Go.Proofs.Ytpiajdahmcelnaa
open Go.RowKit Go.Shelf
namespace Hl
theorem landed : Code where
  valid := valid_c
  has_ok p x v w hs hv hx := by
    rcases hs with ⟨rfl, a, c, rfl⟩ | ⟨b, o, c, rfl, hr⟩
    · exact absurd hv.1.1 (by simp)
    · exact has_c p x b o c w hr hv hx
  has_bad := hasc_bad
  hull_big := hullc_big
  hull_bad := hullc_bad
  hull_ok := hullc_ok
  box_ok := boxc_ok
  box_bad := boxc_bad
end Hl
end Go.Proofs.Ytpiajdahmcelnaa
