/-
  The landed corners.
-/
import Derived.Test.YtcihkpjdjenbjaaDoorHullCu
import Derived.Test.YtcihkpjdjenbjaaDoorHullCs
import Derived.Test.YtcihkpjdjenbjaaDoorHullCp
namespace Go.Proofs.YtcihkpjdjenbjaaDoor
open Go.RowKit Go.Shelf
namespace Hl
theorem Leaves.toGrew {B C : Nat} {w W w' : World} (h : Leaves B C W w') (g : Grew w W) (hB : w.heap.size ≤ B) (hC : w.heap.size ≤ C) : Grew w w' :=
  ⟨h.os.trans g.os, h.tape.trans g.tape, h.output.trans g.output, Nat.le_trans g.size h.size, fun k hk => (h.block k (by omega) (by omega)).trans (g.block k hk)⟩
theorem Leaves.ownAt {B C D g cap : Nat} {w w' : World} {p : List Pt} (h : Leaves B C w w') (ho : OwnAt D w g cap p) (hg : g < B) (hc : g ≠ C) : OwnAt D w' g cap p := by
  obtain ⟨h1, h2, h3, cur, h4, h5, h6⟩ := ho
  exact ⟨h1, h2, h3, cur, (h.block g hg hc).trans h4, h5, h6⟩
theorem Leaves.blk {B C b : Nat} {w w' : World} {cs : Array Value} {t : TypeId} (h : Leaves B C w w') (hb : Blk w b cs t) (hg : b < B) (hc : b ≠ C) : Blk w' b cs t := (h.block b hg hc).trans hb
theorem Blk.newD (w : World) (cs : Array Value) (t : TypeId) : Blk (w.alloc (.cells cs t)).drew w.heap.size cs t := Blk.new w cs t
def CornSays (l : List Pt) (w : World) (e : Ending) (w' : World) : Prop := ∃ v q, e = .returned v ∧ IsHull l q ∧ Own w.heap.size w' v q ∧ Grew w w'
set_option maxRecDepth 100000 in
set_option maxHeartbeats 4000000 in
theorem corners_c (l : List Pt) (b o c : Nat) (w : World) (hr : Row w b o l) (hp : Plcs l) (h1 : 1 ≤ l.length) (hl : l.length ≤ 1000000) :
    Calls Tryd.prog 55 #[.slice (some ⟨b, o, none⟩) l.length c] w (CornSays l w) := by
  have SC := Lib.hid (sorted_c l b o c w hr hp h1 (by omega))
  have PL := Lib.hid hp
  clear hr hp
  go_enter Tryd.func55, Tryd.ntmps55
  go_wp2_with fail
  refine SC.out.mono ?_
  rintro e w1 ⟨g, cap, q, rfl, ho, q1, ql, hmem, hls, hgr⟩
  have PQ : Hid (Plcs q) := Lib.hid (plcs_of (fun x hx => mem_plc PL.out ((hmem x).1 hx)))
  have MEM := Lib.hid hmem
  have LS := Lib.hid hls
  have HO := Lib.hid ho
  have HG := Lib.hid hgr
  have gl := ho.lt
  have gw := ho.1
  have hz1 := hgr.size
  clear SC hmem hls ho hgr
  by_cases hq : q.length = 1
  · rw [hq]
    go_wp2_with fail
    go_ret
    exact ⟨_, q, rfl, one_hull hq MEM.out, by have := own_at.1 HO.out; rwa [hq] at this, HG.out⟩
  · have hq' : ¬ ((q.length : Int) = 1) := by omega
    have C0 : Hid (Blk ((w1.alloc (.cells #[.slice none 0 0] 91)).alloc (.cells #[.slice none 0 0] 91)) w1.heap.size #[.slice none 0 0] 91) := Lib.hid ((Blk.new w1 _ _).alloc _)
    have C1 : Hid (Blk ((w1.alloc (.cells #[.slice none 0 0] 91)).alloc (.cells #[.slice none 0 0] 91)) (w1.heap.size + 1) #[.slice none 0 0] 91) := Lib.hid (by
      have h := Blk.new (w1.alloc (.cells #[.slice none 0 0] 91)) #[.slice none 0 0] 91
      rwa [World.size_alloc] at h)
    have GW : Hid (Grew w1 ((w1.alloc (.cells #[.slice none 0 0] 91)).alloc (.cells #[.slice none 0 0] 91))) := Lib.hid (((Grew.refl w1).alloc _ _).alloc _ _)
    have hsz : ((w1.alloc (.cells #[.slice none 0 0] 91)).alloc (.cells #[.slice none 0 0] 91)).heap.size = w1.heap.size + 1 + 1 := by simp
    have HA := Lib.hid (hand_c (w1.heap.size + 1 + 1) w1.heap.size g 0 cap q ((w1.alloc (.cells #[.slice none 0 0] 91)).alloc (.cells #[.slice none 0 0] 91)) (HO.out.row.grown GW.out) (by omega) (by omega) C0.out (by omega) (by omega) PQ.out (by omega))
    go_wp2_with fail
    refine HA.out.mono ?_
    rintro e w2 ⟨rfl, v1, o1, b1, lv1⟩
    have A2 : Hid (OwnAt w.heap.size w2 g cap q) := Lib.hid (lv1.ownAt (HO.out.grew GW.out) (by omega) (by omega))
    have O1 := Lib.hid o1
    have B1 := Lib.hid b1
    have B2 : Hid (Blk w2 (w1.heap.size + 1) #[.slice none 0 0] 91) := Lib.hid (lv1.blk C1.out (by omega) (by omega))
    have G2 : Hid (Grew w w2) := Lib.hid (lv1.toGrew (HG.out.trans GW.out) (by omega) (by omega))
    have hz2 := lv1.size
    rw [hsz] at hz2
    clear HA C0 C1 GW HO HG o1 b1 lv1 hsz
    go_wp2_with fail
    refine (rev_c q w.heap.size g cap w2 A2.out (by omega)).mono ?_
    rintro e w3 ⟨rfl, o3, g3⟩
    have A3 := Lib.hid o3
    have O3 : Hid (Own (w1.heap.size + 1 + 1) w3 v1 (cho q q.length)) := Lib.hid (O1.out.keeps g3 (Or.inr (fun e => by have := O1.out.block _ e; omega)))
    have B3 : Hid (Blk w3 w1.heap.size #[v1] 91) := Lib.hid (B1.out.kept g3 (fun e => by cases e; omega))
    have D3 : Hid (Blk w3 (w1.heap.size + 1) #[.slice none 0 0] 91) := Lib.hid (B2.out.kept g3 (fun e => by cases e; omega))
    have G3 : Hid (Grew w w3) := Lib.hid (G2.out.grown g3 (fun k hk => by cases hk; exact gw))
    have hz3 := g3.size
    clear A2 O1 B1 B2 G2 o3 g3
    have hrl : q.reverse.length = q.length := List.length_reverse
    have HA := Lib.hid (hand_c w3.heap.size (w1.heap.size + 1) g 0 cap q.reverse w3 A3.out.row (by omega) (by omega) D3.out (by omega) (Nat.le_refl _) (plcs_of (fun x hx => mem_plc PQ.out (List.mem_reverse.1 hx))) (by omega))
    rw [hrl] at HA
    go_wp2_with fail
    refine HA.out.mono ?_
    rintro e w4 ⟨rfl, v2, o4, b4, lv4⟩
    rw [hrl] at o4
    have hz4 := lv4.size
    obtain ⟨s2, t2, HUL⟩ := corners_hull PQ.out LS.out (by omega) MEM.out
    rw [hrl] at t2 HUL
    have HUL := Lib.hid HUL
    have ne1 : cho q q.length ≠ [] := fun e => by rw [e] at s2; simp at s2
    have ne2 : cho q.reverse q.length ≠ [] := fun e => by rw [e] at t2; simp at t2
    have ls := cho_len q q.length
    have lt := cho_len q.reverse q.length
    generalize cho q q.length = S at *
    generalize cho q.reverse q.length = T at *
    obtain ⟨g1, c1, rfl, a1⟩ := O3.out.at ne1
    obtain ⟨g2, c2, rfl, a2⟩ := o4.at ne2
    have a1 := lv4.ownAt a1 a1.lt (by have := a1.1; omega)
    have B4 := lv4.blk B3.out (by omega) (by omega)
    have G4 := lv4.toGrew G3.out (by omega) (by omega)
    have R1 := Lib.hid (a1.take (S.length - 1)).row
    have R2 := Lib.hid (a2.take (T.length - 1)).row
    obtain ⟨m, hm⟩ : ∃ m, S.length = m := ⟨_, rfl⟩
    obtain ⟨n, hn⟩ : ∃ n, T.length = n := ⟨_, rfl⟩
    obtain ⟨k, hk⟩ : ∃ k, S.length - 1 = k := ⟨_, rfl⟩
    obtain ⟨j, hj⟩ : ∃ j, T.length - 1 = j := ⟨_, rfl⟩
    rw [hk] at R1 HUL
    rw [hj] at R2 HUL
    have e1 : (S.take k).length = k := by rw [List.length_take]; omega
    have e2 : (T.take j).length = j := by rw [List.length_take]; omega
    have CC : Hid (∀ W x, Grew w4 W → Blk W x #[.slice (some ⟨g1, 0, none⟩) k c1, .slice (some ⟨g2, 0, none⟩) j c2] 91 → Calls Tryd.prog 73 #[.slice (some ⟨x, 0, none⟩) 2 2] W fun e w' => ∃ v, e = .returned v ∧ Hid (CornSays l w (.returned v) w' ∧ Grew w4 w')) := Lib.hid (fun W x g hb => by
      have h := concat_c x g1 g2 c1 c2 (S.take k) (T.take j) W (by rw [e1, e2]; exact hb) (R1.out.grown g) (R2.out.grown g) (by omega) (by omega) (by omega)
      refine h.mono ?_
      rintro e w' ⟨v, rfl, h1, h2⟩
      exact ⟨v, rfl, Lib.hid ⟨⟨v, _, rfl, HUL.out, h1.mono (G4.trans g).size, (G4.trans g).trans h2⟩, g.trans h2⟩⟩)
    have i1 : (0 : Int) ≤ (k : Int) := by omega
    have i2 : (0 : Int) ≤ (j : Int) := by omega
    have i3 : IntKind.i64.wrap ((m : Int) - 1) = (k : Int) := by
      rw [IntWalk.i64_in _ ⟨by omega, by omega⟩]; omega
    have i4 : IntKind.i64.wrap ((n : Int) - 1) = (j : Int) := by
      rw [IntWalk.i64_in _ ⟨by omega, by omega⟩]; omega
    have cm1 : S.length ≤ c1 := a1.2.1
    have cm2 : T.length ≤ c2 := a2.2.1
    have i5 : (k : Int) ≤ (c1 : Int) := by omega
    have i6 : (j : Int) ≤ (c2 : Int) := by omega
    have i7 : k ≤ c1 := by omega
    have i8 : j ≤ c2 := by omega
    rw [hm] at B4
    rw [hn] at b4
    obtain ⟨x0, x1⟩ := B4.one
    obtain ⟨y0, y1⟩ := b4.one
    have lB4 := B4.lt
    have lb4 := b4.lt
    have l0 : w1.heap.size < w4.heap.size + 1 := by omega
    have l1 : w1.heap.size + 1 < w4.heap.size + 1 := by omega
    clear HUL R1 R2 PL PQ MEM LS HA A3 O3 B3 D3 G3 o4 lv4 a1 a2 e1 e2
    go_wp2_with fail
    go_region_held3 (fun w' => w'.cell? ⟨w1.heap.size, 0, none⟩ = some (.slice (some ⟨g1, 0, none⟩) m c1) ∧ w'.cell? ⟨w1.heap.size + 1, 0, none⟩ = some (.slice (some ⟨g2, 0, none⟩) n c2)) (simp [go_sem, *])
      ((go_at_call 73; refine (CC.out _ _ (by (repeat' (first | (with_reducible exact Grew.refl _) | (with_reducible assumption) | (with_reducible refine Grew.alloc ?_ _ _) | (with_reducible refine Grew.drew ?_) | (with_reducible refine Grew.drewN ?_ _) | (with_reducible refine Grew.setCell ?_ ?_ _) | go_size))) (Blk.newD _ _ _)).mono ?_; rintro e w' ⟨v, rfl, hfin⟩; have z0 := (hfin.out.2.cell (b := w1.heap.size) (o := 0) lB4).trans x0; have z1 := (hfin.out.2.cell (b := w1.heap.size + 1) (o := 0) lb4).trans y0))
    go_wp2_with fail
    go_ret
    exact hfin.out.1
end Hl
end Go.Proofs.YtcihkpjdjenbjaaDoor
