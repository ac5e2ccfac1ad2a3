/-
  Plain geometry: the places in their order, pushed one by one, and back again, make the hull.
  The landed corners.
  The landed bounds and box.
  The landed Area.
  The landed Hull, Box and Eight; Has and Area at what is no polygon; all contracts of the landed package, in one.
-/
import Derived.Test.YtpiajdahmcelnaaGreatMHullCr
import Derived.Test.YtpiajdahmcelnaaGreatMHullCe
import Derived.Test.YtpiajdahmcelnaaGreatMHullTwo
import Derived.Test.YtpiajdahmcelnaaGreatMHullRef
import Derived.Test.YtpiajdahmcelnaaGreatMHullCu
import Derived.Test.YtpiajdahmcelnaaGreatMHullCp
import Derived.Shelf.Abstract
import Derived.Deep.Cut
import Derived.Deep.CutRange
import Derived.Test.YtpiajdahmcelnaaGreatMHullSame
import Derived.Test.YtpiajdahmcelnaaGreatMHullBar
import Derived.Test.YtpiajdahmcelnaaGreatMHullCon
import Derived.Test.YtpiajdahmcelnaaGreatMHullCv
import Derived.Test.YtpiajdahmcelnaaGreatMHullOwn
namespace Go.Proofs.YtpiajdahmcelnaaGreat
open Go.RowKit Go.Shelf
namespace Hl
theorem cho_chain (u v k : Int) (q : List Pt) (hinc : ∀ i j, i < j → j < q.length → af u v k (at' q i) < af u v k (at' q j)) : ∀ n, 1 ≤ n → n ≤ q.length → Chain u v k (fun y => ∃ j, j < n ∧ at' q j = y) (cho q n) ∧ at' (cho q n) ((cho q n).length - 1) = at' q (n - 1) := by
  intro n
  induction n with
  | zero => intro h; omega
  | succ n ih =>
    intro _ hn
    have hlast : at' (cho q (n + 1)) ((cho q (n + 1)).length - 1) = at' q (n + 1 - 1) := (pushP_len (at' q n) _ (cho q n) rfl).2.2
    refine ⟨?_, hlast⟩
    by_cases h0 : n = 0
    · subst h0
      have e : cho q (0 + 1) = [at' q 0] := rfl
      have ef : (fun y => ∃ j, j < 0 + 1 ∧ at' q j = y) = (fun y => y = at' q 0) := funext fun y => propext ⟨fun ⟨j, hj, e⟩ => by
        obtain rfl : j = 0 := by omega
        exact e.symm, fun h => ⟨0, by omega, h.symm⟩⟩
      rw [e, ef]
      exact Chain.one
    · obtain ⟨hc, hl⟩ := ih (by omega) (by omega)
      have ef : (fun y => ∃ j, j < n + 1 ∧ at' q j = y) = (fun y => (∃ j, j < n ∧ at' q j = y) ∨ y = at' q n) := funext fun y => propext ⟨fun ⟨j, hj, e⟩ => by
        by_cases ej : j = n
        · subst ej; exact Or.inr e.symm
        · exact Or.inl ⟨j, by omega, e⟩, fun h => by
        rcases h with ⟨j, hj, e⟩ | h
        · exact ⟨j, by omega, e⟩
        · exact ⟨n, by omega, h.symm⟩⟩
      rw [ef]
      refine Pend.pushP _ (cho q n) rfl (hc.pend ?_ ?_)
      · rintro y ⟨j, hj, rfl⟩
        exact hinc j n hj (by omega)
      · rintro y ⟨j, hj, rfl⟩ hle
        rw [hl] at hle ⊢
        by_cases ej : j = n - 1
        · rw [ej]
        · have := hinc j (n - 1) (by omega) (by omega)
          omega
theorem cho_all (u v k : Int) (q : List Pt) (hinc : ∀ i j, i < j → j < q.length → af u v k (at' q i) < af u v k (at' q j)) (h2 : 2 ≤ q.length) :
    Chain u v k (fun y => y ∈ q) (cho q q.length) ∧ at' (cho q q.length) ((cho q q.length).length - 1) = at' q (q.length - 1) ∧ at' (cho q q.length) 0 = at' q 0 ∧ 2 ≤ (cho q q.length).length := by
  obtain ⟨hc, hl⟩ := cho_chain u v k q hinc q.length (by omega) (Nat.le_refl _)
  have ef : (fun y => ∃ j, j < q.length ∧ at' q j = y) = (fun y => y ∈ q) := funext fun y => propext ⟨fun ⟨j, hj, e⟩ => by rw [← e]; exact at_mem hj, fun h => mem_at h⟩
  rw [ef] at hc
  have h0 : at' (cho q q.length) 0 = at' q 0 := by
    obtain ⟨j, hj, e⟩ := mem_at (hc.mem 0 hc.some')
    by_cases ej : j = 0
    · rw [← e, ej]
    · have h1 := hc.low _ (at_mem (show 0 < q.length by omega))
      have h3 := hinc 0 j (by omega) hj
      rw [e] at h3
      omega
  refine ⟨hc, hl, h0, ?_⟩
  have hs := hc.some'
  by_cases h1 : (cho q q.length).length = 1
  · rw [h1, Nat.sub_self, h0] at hl
    have := hinc 0 (q.length - 1) (by omega) (by omega)
    rw [hl] at this
    omega
  · omega
theorem at_rev {q : List Pt} {i : Nat} (h : i < q.length) : at' q.reverse i = at' q (q.length - 1 - i) := by
  unfold at'
  rw [List.getD_eq_getElem?_getD, List.getD_eq_getElem?_getD, List.getElem?_reverse h]
theorem corners_hull {l q : List Pt} (hp : Plcs q) (hs : ∀ i, i + 1 < q.length → ls (at' q i) (at' q (i + 1))) (h2 : 2 ≤ q.length) (hm : ∀ x, x ∈ q ↔ x ∈ l) :
    2 ≤ (cho q q.length).length ∧ 2 ≤ (cho q.reverse q.reverse.length).length ∧ IsHull l ((cho q q.length).take ((cho q q.length).length - 1) ++ (cho q.reverse q.reverse.length).take ((cho q.reverse q.reverse.length).length - 1)) := by
  have inc : ∀ i j, i < j → j < q.length → af 1000001 1 0 (at' q i) < af 1000001 1 0 (at' q j) := inc_all (fun i hi => (ls_steep (hp i (by omega)) (hp (i + 1) hi)).1 (hs i hi))
  obtain ⟨a1, a2, a3, a4⟩ := cho_all 1000001 1 0 q inc h2
  have hrl : q.reverse.length = q.length := List.length_reverse
  obtain ⟨b1, b2, b3, b4⟩ := cho_all (-1000001) (-1) (-0) q.reverse (fun i j hij hj => by
    rw [hrl] at hj
    rw [neg_af, neg_af, at_rev hj, at_rev (by omega)]
    have := inc (q.length - 1 - j) (q.length - 1 - i) (by omega) (by omega)
    omega) (by omega)
  have ef : (fun y => y ∈ q.reverse) = (fun y => y ∈ q) := funext fun y => propext List.mem_reverse
  rw [ef] at b1
  refine ⟨a4, b4, ?_⟩
  obtain ⟨g1, g2, g3⟩ := two_chains a1 b1 a4 b4 (by rw [a2, b3, at_rev (by omega)]; rfl) (by rw [b2, a3, hrl, at_rev (by omega)]; congr 1; omega)
    (fun y z hy hz h => by
      obtain ⟨i, hi, rfl⟩ := mem_at hy
      obtain ⟨j, hj, rfl⟩ := mem_at hz
      exact (ls_steep (hp i hi) (hp j hj)).2 h)
  exact ⟨g1, fun x hx => (hm x).1 (g2 x hx), fun x hx => g3 x ((hm x).2 hx)⟩
theorem one_hull {l q : List Pt} (h1 : q.length = 1) (hm : ∀ x, x ∈ q ↔ x ∈ l) : IsHull l q :=
  ⟨⟨by omega, fun i h h' => by omega, fun h => by omega⟩, fun x hx => (hm x).1 hx, fun x hx => (hs1 h1).2 (by
    obtain ⟨i, hi, e⟩ := mem_at ((hm x).2 hx)
    obtain rfl : i = 0 := by omega
    exact e)⟩
end Hl
end Go.Proofs.YtpiajdahmcelnaaGreat
namespace Go.Proofs.YtpiajdahmcelnaaGreat
open Go.RowKit Go.Shelf
namespace Hl
theorem Leaves.ownAt {B C D g cap : Nat} {w w' : World} {p : List Pt} (h : Leaves B C w w') (ho : OwnAt D w g cap p) (hg : g < B) (hc : g ≠ C) : OwnAt D w' g cap p := by
  obtain ⟨h1, h2, h3, cur, h4, h5, h6⟩ := ho
  exact ⟨h1, h2, h3, cur, (h.block g hg hc).trans h4, h5, h6⟩
theorem Blk.newD (w : World) (cs : Array Value) (t : TypeId) : Blk (w.alloc (.cells cs t)).drew w.heap.size cs t := Blk.new w cs t
def CornSays (l : List Pt) (w : World) (e : Ending) (w' : World) : Prop := ∃ v q, e = .returned v ∧ IsHull l q ∧ Own w.heap.size w' v q ∧ Grew w w'
set_option maxRecDepth 100000 in
set_option maxHeartbeats 4000000 in
theorem corners_c (l : List Pt) (b o c : Nat) (w : World) (hr : Row w b o l) (hp : Plcs l) (h1 : 1 ≤ l.length) (hl : l.length ≤ 1000000) :
    Calls Tryz.prog 56 #[.slice (some ⟨b, o, none⟩) l.length c] w (CornSays l w) := by
  have SC := Lib.hid (sorted_c l b o c w hr hp h1 (by omega))
  have PL := Lib.hid hp
  clear hr hp
  go_enter Tryz.func56, Tryz.ntmps56
  go_wp2_with fail
  refine SC.out.mono ?_
  rintro e w1 ⟨g, cap, q, rfl, ho, q1, ql, hmem, hls, hgr⟩
  have PQ : Hid (Plcs q) := Lib.hid (plcs_of (fun x hx => mem_plc PL.out ((hmem x).1 hx)))
  have MEM := Lib.hid hmem
  have LS := Lib.hid hls
  have HO := Lib.hid ho
  have HG := Lib.hid hgr
  have gl := ho.lt
  have gw := ho.1
  have hz1 := hgr.size
  clear SC hmem hls ho hgr
  by_cases hq : q.length = 1
  · rw [hq]
    go_wp2_with fail
    go_ret
    exact ⟨_, q, rfl, one_hull hq MEM.out, by have := own_at.1 HO.out; rwa [hq] at this, HG.out⟩
  · have hq' : ¬ ((q.length : Int) = 1) := by omega
    have C0 : Hid (Blk ((w1.alloc (.cells #[.slice none 0 0] 95)).alloc (.cells #[.slice none 0 0] 95)) w1.heap.size #[.slice none 0 0] 95) := Lib.hid ((Blk.new w1 _ _).alloc _)
    have C1 : Hid (Blk ((w1.alloc (.cells #[.slice none 0 0] 95)).alloc (.cells #[.slice none 0 0] 95)) (w1.heap.size + 1) #[.slice none 0 0] 95) := Lib.hid (by
      have h := Blk.new (w1.alloc (.cells #[.slice none 0 0] 95)) #[.slice none 0 0] 95
      rwa [World.size_alloc] at h)
    have GW : Hid (Grew w1 ((w1.alloc (.cells #[.slice none 0 0] 95)).alloc (.cells #[.slice none 0 0] 95))) := Lib.hid (((Grew.refl w1).alloc _ _).alloc _ _)
    have hsz : ((w1.alloc (.cells #[.slice none 0 0] 95)).alloc (.cells #[.slice none 0 0] 95)).heap.size = w1.heap.size + 1 + 1 := by simp
    have HA := Lib.hid (hand_c (w1.heap.size + 1 + 1) w1.heap.size g 0 cap q ((w1.alloc (.cells #[.slice none 0 0] 95)).alloc (.cells #[.slice none 0 0] 95)) (HO.out.row.grown GW.out) (by omega) (by omega) C0.out (by omega) (by omega) PQ.out (by omega))
    go_wp2_with fail
    refine HA.out.mono ?_
    rintro e w2 ⟨rfl, v1, o1, b1, lv1⟩
    have A2 : Hid (OwnAt w.heap.size w2 g cap q) := Lib.hid (lv1.ownAt (HO.out.grew GW.out) (by omega) (by omega))
    have O1 := Lib.hid o1
    have B1 := Lib.hid b1
    have B2 : Hid (Blk w2 (w1.heap.size + 1) #[.slice none 0 0] 95) := Lib.hid (lv1.blk C1.out (by omega) (by omega))
    have G2 : Hid (Grew w w2) := Lib.hid (lv1.toGrew (HG.out.trans GW.out) (by omega) (by omega))
    have hz2 := lv1.size
    rw [hsz] at hz2
    clear HA C0 C1 GW HO HG o1 b1 lv1 hsz
    go_wp2_with fail
    refine (rev_c q w.heap.size g cap w2 A2.out (by omega)).mono ?_
    rintro e w3 ⟨rfl, o3, g3⟩
    have A3 := Lib.hid o3
    have O3 : Hid (Own (w1.heap.size + 1 + 1) w3 v1 (cho q q.length)) := Lib.hid (O1.out.keeps g3 (Or.inr (fun e => by have := O1.out.block _ e; omega)))
    have B3 : Hid (Blk w3 w1.heap.size #[v1] 95) := Lib.hid (B1.out.kept g3 (fun e => by cases e; omega))
    have D3 : Hid (Blk w3 (w1.heap.size + 1) #[.slice none 0 0] 95) := Lib.hid (B2.out.kept g3 (fun e => by cases e; omega))
    have G3 : Hid (Grew w w3) := Lib.hid (G2.out.grown g3 (fun k hk => by cases hk; exact gw))
    have hz3 := g3.size
    clear A2 O1 B1 B2 G2 o3 g3
    have hrl : q.reverse.length = q.length := List.length_reverse
    have HA := Lib.hid (hand_c w3.heap.size (w1.heap.size + 1) g 0 cap q.reverse w3 A3.out.row (by omega) (by omega) D3.out (by omega) (Nat.le_refl _) (plcs_of (fun x hx => mem_plc PQ.out (List.mem_reverse.1 hx))) (by omega))
    rw [hrl] at HA
    go_wp2_with fail
    refine HA.out.mono ?_
    rintro e w4 ⟨rfl, v2, o4, b4, lv4⟩
    rw [hrl] at o4
    have hz4 := lv4.size
    obtain ⟨s2, t2, HUL⟩ := corners_hull PQ.out LS.out (by omega) MEM.out
    rw [hrl] at t2 HUL
    have HUL := Lib.hid HUL
    have ne1 : cho q q.length ≠ [] := fun e => by rw [e] at s2; simp at s2
    have ne2 : cho q.reverse q.length ≠ [] := fun e => by rw [e] at t2; simp at t2
    have ls := cho_len q q.length
    have lt := cho_len q.reverse q.length
    generalize cho q q.length = S at *
    generalize cho q.reverse q.length = T at *
    obtain ⟨g1, c1, rfl, a1⟩ := O3.out.at ne1
    obtain ⟨g2, c2, rfl, a2⟩ := o4.at ne2
    have a1 := lv4.ownAt a1 a1.lt (by have := a1.1; omega)
    have B4 := lv4.blk B3.out (by omega) (by omega)
    have G4 := lv4.toGrew G3.out (by omega) (by omega)
    have R1 := Lib.hid (a1.take (S.length - 1)).row
    have R2 := Lib.hid (a2.take (T.length - 1)).row
    obtain ⟨m, hm⟩ : ∃ m, S.length = m := ⟨_, rfl⟩
    obtain ⟨n, hn⟩ : ∃ n, T.length = n := ⟨_, rfl⟩
    obtain ⟨k, hk⟩ : ∃ k, S.length - 1 = k := ⟨_, rfl⟩
    obtain ⟨j, hj⟩ : ∃ j, T.length - 1 = j := ⟨_, rfl⟩
    rw [hk] at R1 HUL
    rw [hj] at R2 HUL
    have e1 : (S.take k).length = k := by rw [List.length_take]; omega
    have e2 : (T.take j).length = j := by rw [List.length_take]; omega
    have CC : Hid (∀ W x, Grew w4 W → Blk W x #[.slice (some ⟨g1, 0, none⟩) k c1, .slice (some ⟨g2, 0, none⟩) j c2] 95 → Calls Tryz.prog 77 #[.slice (some ⟨x, 0, none⟩) 2 2] W fun e w' => ∃ v, e = .returned v ∧ Hid (CornSays l w (.returned v) w' ∧ Grew w4 w')) := Lib.hid (fun W x g hb => by
      have h := concat_c x g1 g2 c1 c2 (S.take k) (T.take j) W (by rw [e1, e2]; exact hb) (R1.out.grown g) (R2.out.grown g) (by omega) (by omega) (by omega)
      refine h.mono ?_
      rintro e w' ⟨v, rfl, h1, h2⟩
      exact ⟨v, rfl, Lib.hid ⟨⟨v, _, rfl, HUL.out, h1.mono (G4.trans g).size, (G4.trans g).trans h2⟩, g.trans h2⟩⟩)
    have i1 : (0 : Int) ≤ (k : Int) := by omega
    have i2 : (0 : Int) ≤ (j : Int) := by omega
    have i3 : IntKind.i64.wrap ((m : Int) - 1) = (k : Int) := by
      rw [IntWalk.i64_in _ ⟨by omega, by omega⟩]; omega
    have i4 : IntKind.i64.wrap ((n : Int) - 1) = (j : Int) := by
      rw [IntWalk.i64_in _ ⟨by omega, by omega⟩]; omega
    have cm1 : S.length ≤ c1 := a1.2.1
    have cm2 : T.length ≤ c2 := a2.2.1
    have i5 : (k : Int) ≤ (c1 : Int) := by omega
    have i6 : (j : Int) ≤ (c2 : Int) := by omega
    have i7 : k ≤ c1 := by omega
    have i8 : j ≤ c2 := by omega
    rw [hm] at B4
    rw [hn] at b4
    obtain ⟨x0, x1⟩ := B4.one
    obtain ⟨y0, y1⟩ := b4.one
    have lB4 := B4.lt
    have lb4 := b4.lt
    have l0 : w1.heap.size < w4.heap.size + 1 := by omega
    have l1 : w1.heap.size + 1 < w4.heap.size + 1 := by omega
    clear HUL R1 R2 PL PQ MEM LS HA A3 O3 B3 D3 G3 o4 lv4 a1 a2 e1 e2
    go_wp2_with fail
    go_region_held3 (fun w' => w'.cell? ⟨w1.heap.size, 0, none⟩ = some (.slice (some ⟨g1, 0, none⟩) m c1) ∧ w'.cell? ⟨w1.heap.size + 1, 0, none⟩ = some (.slice (some ⟨g2, 0, none⟩) n c2)) (simp [go_sem, *])
      ((go_at_call 77; refine (CC.out _ _ (by (repeat' (first | (with_reducible exact Grew.refl _) | (with_reducible assumption) | (with_reducible refine Grew.alloc ?_ _ _) | (with_reducible refine Grew.drew ?_) | (with_reducible refine Grew.drewN ?_ _) | (with_reducible refine Grew.setCell ?_ ?_ _) | go_size))) (Blk.newD _ _ _)).mono ?_; rintro e w' ⟨v, rfl, hfin⟩; have z0 := (hfin.out.2.cell (b := w1.heap.size) (o := 0) lB4).trans x0; have z1 := (hfin.out.2.cell (b := w1.heap.size + 1) (o := 0) lb4).trans y0))
    go_wp2_with fail
    go_ret
    exact hfin.out.1
end Hl
end Go.Proofs.YtpiajdahmcelnaaGreat
namespace Go.Proofs.YtpiajdahmcelnaaGreat
open Go.RowKit Go.Shelf
namespace Hl
/-- A block of two integers. -/
def Two (w : World) (B : Nat) (x y : Int) : Prop := (B < w.heap.size ∧ w.cell? ⟨B, 0, none⟩ = some (.int .i64 x) ∧ w.cell? ⟨B, 1, none⟩ = some (.int .i64 y)) ∧ w.frozen? ⟨B, 0, none⟩ = false ∧ w.frozen? ⟨B, 1, none⟩ = false
theorem Two.grown {w w' : World} {B : Nat} {x y : Int} (h : Two w B x y) (g : Grew w w') : Two w' B x y := by
  obtain ⟨⟨h0, h1, h2⟩, h3, h4⟩ := h
  obtain ⟨c, f, z⟩ := laid g
  exact ⟨⟨by omega, (c _ _ h0).trans h1, (c _ _ h0).trans h2⟩, (f _ _ h0).trans h3, (f _ _ h0).trans h4⟩
theorem Two.new (w : World) (x y : Int) (t : TypeId) : Two (w.alloc (.cells #[.int .i64 x, .int .i64 y] t)) w.heap.size x y := by
  unfold Two
  simp [go_sem]

end Hl
end Go.Proofs.YtpiajdahmcelnaaGreat
namespace Go.Proofs.YtpiajdahmcelnaaGreat
open Go.RowKit Go.Shelf
end Go.Proofs.YtpiajdahmcelnaaGreat
namespace Go.Proofs.YtpiajdahmcelnaaGreat
open Go.RowKit Go.Shelf
attribute [local go_sem] Oper.semAt_some
namespace Hl
theorem Kept.drew {b B : Nat} {X Y : World} (h : Kept b B X Y) : Kept b B X Y.drew := h

end Hl
end Go.Proofs.YtpiajdahmcelnaaGreat
namespace Go.Proofs.YtpiajdahmcelnaaGreat
open Go.RowKit Go.Shelf
namespace Hl
theorem sl_nil (w : World) (a : Option Addr) (c : Nat) : Sl w (.slice a 0 c) [] := Or.inl ⟨rfl, a, c, rfl⟩
set_option maxRecDepth 100000 in
set_option maxHeartbeats 4000000 in
theorem hullc_big (l : List Pt) (v : Value) (w : World) (hs : Sl w v l) (h : l.length ≤ 9223372036854775807) (hb : 4000 < l.length) : Calls Tryz.prog 38 #[v] w (Empty 2 w) := by
  obtain ⟨a, c, rfl⟩ := hs.shape
  have h1 : ((l.length : Int) > 4000) := by omega
  clear hs
  go_enter Tryz.func38, Tryz.ntmps38
  go_wp2_with fail
  go_ret2
  exact ⟨_, rfl, sl_nil _ _ _, Grew.refl _⟩
set_option maxRecDepth 100000 in
set_option maxHeartbeats 4000000 in
theorem hullc_bad (l : List Pt) (v : Value) (w : World) (hs : Sl w v l) (h : l.length ≤ 4000) (hb : l = [] ∨ ¬ Plcs l) : Calls Tryz.prog 38 #[v] w (Empty 1 w) := by
  rcases hs with ⟨rfl, a, c, rfl⟩ | ⟨b, o, c, rfl, hr⟩
  · clear h hb
    go_enter Tryz.func38, Tryz.ntmps38
    go_wp2_with fail
    go_ret2
    exact ⟨_, rfl, sl_nil _ _ _, Grew.refl _⟩
  · by_cases h0 : l = []
    · subst h0
      clear h hb hr
      go_enter Tryz.func38, Tryz.ntmps38
      go_wp2_with fail
      go_ret2
      exact ⟨_, rfl, sl_nil _ _ _, Grew.refl _⟩
    · have hn : ¬ ((l.length : Int) = 0) := fun e => h0 (List.length_eq_zero_iff.1 (by omega))
      have h1 : ¬ ((l.length : Int) > 4000) := by omega
      have PC : Hid (Calls Tryz.prog 55 #[.slice (some ⟨b, o, none⟩) l.length c] w fun e w' => e = .returned (.bool false) ∧ Hid (Grew w w')) := Lib.hid ((places_c l b o c w hr (by omega)).mono (by
        rintro e w' ⟨r, rfl, hr, g⟩
        cases r
        · exact ⟨rfl, Lib.hid g⟩
        · exact (hb.elim h0 (fun hb => hb (hr.1 rfl))).elim))
      have hn2 : ((l.length : Int) == 0) = false := beq_eq_false_iff_ne.2 hn
      generalize l.length = n at *
      clear hb h0 hr
      go_enter Tryz.func38, Tryz.ntmps38
      go_wp2_with (first | (go_at_call 55; refine PC.out.mono ?_; rintro e w' ⟨rfl, hg⟩))
      go_ret2
      exact ⟨_, rfl, sl_nil _ _ _, hg.out⟩
set_option maxRecDepth 100000 in
set_option maxHeartbeats 4000000 in
theorem hullc_new (l : List Pt) (v : Value) (w : World) (hs : Sl w v l) (h : l.length ≤ 4000) (h0 : l ≠ []) (hp : Plcs l) : Calls Tryz.prog 38 #[v] w (HullNew l w) := by
  rcases hs with ⟨rfl, a, c, rfl⟩ | ⟨b, o, c, rfl, hr⟩
  · exact absurd rfl h0
  · have hn : ¬ ((l.length : Int) = 0) := fun e => h0 (List.length_eq_zero_iff.1 (by omega))
    have h1 : ¬ ((l.length : Int) > 4000) := by omega
    have PC : Hid (Calls Tryz.prog 55 #[.slice (some ⟨b, o, none⟩) l.length c] w fun e w' => e = .returned (.bool true) ∧ Hid (Grew w w')) := Lib.hid ((places_c l b o c w hr (by omega)).mono (by
      rintro e w' ⟨r, rfl, hr, g⟩
      rw [hr.2 hp]
      exact ⟨rfl, Lib.hid g⟩))
    have CC : Hid (∀ W, Grew w W → Calls Tryz.prog 56 #[.slice (some ⟨b, o, none⟩) l.length c] W fun e w' => ∃ sa n sc, e = .returned (.slice sa n sc) ∧ Hid (∃ q, IsHull l q ∧ q.length = n ∧ SlN w w' (.slice sa n sc) q ∧ Grew w w')) := Lib.hid (fun W g => (corners_c l b o c W (hr.grown g) hp (by omega) (by omega)).mono (by
      rintro e w' ⟨v, q, rfl, hq, ho, g'⟩
      obtain ⟨sa, sc, rfl⟩ := ho.sl.shape
      exact ⟨sa, _, sc, rfl, Lib.hid ⟨q, hq, rfl, ⟨ho.less g.size⟩, g.trans g'⟩⟩))
    have hn2 : ((l.length : Int) == 0) = false := beq_eq_false_iff_ne.2 hn
    obtain ⟨m, hm⟩ : ∃ m, l.length = m := ⟨_, rfl⟩
    rw [hm] at hn hn2 h1 PC CC ⊢
    clear h0 hr hp hm h
    go_enter Tryz.func38, Tryz.ntmps38
    go_wp2_with (first | (go_at_call 55; refine PC.out.mono ?_; rintro e w' ⟨rfl, hg⟩) | (go_at_call 56; refine (CC.out _ hg.out).mono ?_; rintro e w' ⟨sa, n, sc, rfl, hh⟩))
    all_goals go_ret2
    all_goals (obtain ⟨q, hq, rfl, hsl, g⟩ := hh.out)
    · exact ⟨q, hq, Or.inr ⟨by omega, _, rfl, sl_nil _ _ _, g⟩⟩
    · exact ⟨q, hq, Or.inl ⟨by omega, _, rfl, hsl, g⟩⟩
theorem hullc_ok (l : List Pt) (v : Value) (w : World) (hs : Sl w v l) (h : l.length ≤ 4000) (h0 : l ≠ []) (hp : Plcs l) : Calls Tryz.prog 38 #[v] w (HullSays l w) := (hullc_new l v w hs h h0 hp).mono fun _ _ h => h.says
end Hl
end Go.Proofs.YtpiajdahmcelnaaGreat
namespace Go.Proofs.YtpiajdahmcelnaaGreat
open Go.RowKit Go.Shelf
end Go.Proofs.YtpiajdahmcelnaaGreat
namespace Go.Proofs.YtpiajdahmcelnaaGreat
open Go.RowKit Go.Shelf
end Go.Proofs.YtpiajdahmcelnaaGreat
namespace Go.Proofs.YtpiajdahmcelnaaGreat
open Go.RowKit Go.Shelf
end Go.Proofs.YtpiajdahmcelnaaGreat
namespace Go.Proofs.YtpiajdahmcelnaaGreat
open Go.RowKit Go.Shelf
namespace Hl
theorem landed : Code where
  valid := valid_c
  hull_big := hullc_big
  hull_bad := hullc_bad
  hull_ok := hullc_ok
end Hl
end Go.Proofs.YtpiajdahmcelnaaGreat
