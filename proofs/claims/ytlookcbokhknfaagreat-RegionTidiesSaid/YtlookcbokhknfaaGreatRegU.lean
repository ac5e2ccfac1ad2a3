/-
  In of the reference of layer 7.
  Valid of the reference of layer 7.
  Few of the reference of layer 7; usable.
  usable of the statements about layer 7.
  Rectangle of the reference of layer 7.
  What the laws of stage 7 call.
  rectangles of the statements about layer 7.
-/
import Derived.Test.YtlookcbokhknfaaGreatRegCon
import Derived.Test.YtlookcbokhknfaaGreatHullIn
import Derived.Test.YtlookcbokhknfaaGreatHullLay
import Derived.Test.YtlookcbokhknfaaGreatHullSl
import Derived.Test.YtlookcbokhknfaaGreatRegHead
import Derived.Test.YtlookcbokhknfaaGreatHullWrap
namespace Go.Proofs.YtlookcbokhknfaaGreat
open Go.RowKit Go.Shelf Hl
namespace Rg
set_option maxRecDepth 100000 in
set_option maxHeartbeats 4000000 in
theorem in_c (L : Rgn) (x : Pt) (v : Value) (w : World) (hs : Rl w v L) (hL : AllV L) (hx : Plc x) : Calls Tryz.prog 34 #[v, .agg #[.int .i64 x.1, .int .i64 x.2]] w (Tells (InR L x) w) := by
  have LL := Lib.hid hs.2.1
  obtain ⟨a, c, U, rfl, hU, hSl, hRr⟩ := rl_fun hs
  have SC : Hid (∀ i W, i < L.length → Grew w W → Calls Tryz.prog 79 #[U i, .agg #[.int .i64 x.1, .int .i64 x.2]] W (Tells (Hs (nth L i) x) W)) := Lib.hid (fun i W hi g => by
    have hv := hL _ (nth_mem hi)
    obtain ⟨b, o, c', e, hr⟩ := ((hSl i hi).grown g).row (fun e => by
      have := hv.1.1
      rw [e] at this
      exact absurd this (by simp))
    rw [e]
    exact inside_any (nth L i) x b o c' W hr hv.2.1 hx hv.1.1 (by have := hv.1.2; omega))
  have RR : Hid (∀ i W, i < L.length → Grew w W → ∃ b o, a = some ⟨b, o, none⟩ ∧ b < W.heap.size ∧ W.cell? ⟨b, o + i, none⟩ = some (U i)) := Lib.hid (fun i W hi g => by
    obtain ⟨b, o, e, hb, z⟩ := hRr i hi
    exact ⟨b, o, e, Nat.lt_of_lt_of_le hb.1 g.size, (Grew.cell g hb.1).trans z⟩)
  have NY : Hid (∀ i, i < L.length → Hs (nth L i) x → InR L x) := Lib.hid (fun i hi h => ⟨_, nth_mem hi, h⟩)
  have NN : Hid ((∀ i, i < L.length → ¬ Hs (nth L i) x) → ¬ InR L x) := Lib.hid (fun h ⟨p, hp, k⟩ => by
    obtain ⟨i, hi, rfl⟩ := mem_nth hp
    exact h i hi k)
  have B0 := Lib.hid (Blk.new w #[.int .i64 x.1, .int .i64 x.2] 27)
  have G0 : Grew w (w.alloc (.cells #[.int .i64 x.1, .int .i64 x.2] 27)) := (Grew.refl w).alloc _ _
  clear hs hU hSl hRr hL hx
  go_enter Tryz.func34, Tryz.ntmps34
  go_wp2_with fail
  go_loopw [5, 6] (fun i _ wr => ∃ k : Nat, k ≤ L.length ∧ i = .int .i64 k ∧ Grew (w.alloc (.cells #[.int .i64 x.1, .int .i64 x.2] 27)) wr ∧ Hid (∀ j, j < k → ¬ Hs (nth L j) x)) (fun i _ _ => L.length - (intOf i).toNat)
  case atStart => exact ⟨0, Nat.zero_le _, rfl, Grew.refl _, Lib.hid (fun j hj => by omega)⟩
  case round =>
    obtain ⟨k, hk, rfl, G', D⟩ := hrel
    have G := Grew.trans G0 G'
    have hz := LL.out
    by_cases hlt : k < L.length
    · obtain ⟨b, o, rfl, hb, z0⟩ := RR.out k _ hlt G
      have BW := Lib.hid (B0.out.grown G')
      obtain ⟨x0, x1⟩ := blk_two BW.out
      have i0 : (0 : Int) ≤ (k : Int) := by omega
      have i1 : (k : Int) < (L.length : Int) := by omega
      have CC := Lib.hid (fun W g => SC.out k W hlt (Grew.trans G g))
      go_wp2_with fail
      go_region_held3 (fun w' => w'.cell? ⟨b, o + k, none⟩ = some (U k) ∧ w'.cell? ⟨w.heap.size, 0, none⟩ = some (.int .i64 x.1) ∧ w'.cell? ⟨w.heap.size, 1, none⟩ = some (.int .i64 x.2)) (simp [go_sem, *])
        (first | (go_at_call 79; refine (CC.out _ (by (repeat' (first | (with_reducible exact Grew.refl _) | (with_reducible assumption) | (with_reducible refine Grew.alloc ?_ _ _) | (with_reducible refine Grew.drew ?_) | (with_reducible refine Grew.drewN ?_ _) | (with_reducible refine Grew.setCell ?_ ?_ _) | go_size)))).mono ?_; rintro e w1 ⟨r, rfl, hr, g1⟩; have GX : Grew wr w1 := Grew.trans (by (repeat' (first | (with_reducible exact Grew.refl _) | (with_reducible assumption) | (with_reducible refine Grew.alloc ?_ _ _) | (with_reducible refine Grew.drew ?_) | (with_reducible refine Grew.drewN ?_ _) | (with_reducible refine Grew.setCell ?_ ?_ _) | go_size))) g1; have y0 := (Grew.cell (o := o + k) GX hb).trans z0; obtain ⟨y1, y2⟩ := blk_two (BW.out.grown GX)))
      have G1 : Grew w w1 := Grew.trans G GX
      have G1' := Grew.trans G' GX
      cases r
      · have F : Hid (¬ Hs (nth L k) x) := Lib.hid (fun e => by
          have := hr.2 e
          cases this)
        clear hr g1
        go_wp2_with fail
        go_roundw
        case rel => exact ⟨k + 1, by omega, by go_num, G1', Lib.hid (fun j hj => by
          by_cases e : j = k
          · rw [e]; exact F.out
          · exact D.out j (by omega))⟩
        case measure => simp [intOf]; omega
      · have F := Lib.hid (NY.out k hlt (hr.1 rfl))
        clear hr g1
        go_wp2_with fail
        go_ret
        exact Tells.yes F.out rfl G1
    · obtain rfl : k = L.length := by omega
      have F := Lib.hid (NN.out D.out)
      go_wp2_with fail
      go_ret
      exact Tells.no F.out rfl G
end Rg
end Go.Proofs.YtlookcbokhknfaaGreat
namespace Go.Proofs.YtlookcbokhknfaaGreat
open Go.RowKit Go.Shelf Hl
namespace Rg
set_option maxRecDepth 100000 in
set_option maxHeartbeats 4000000 in
theorem polygons_r (L : Rgn) (v : Value) (w : World) (hs : Rl w v L) : Calls Tryz.prog 50 #[v] w (Tells (AllV L) w) := by
  have hB := hs.2
  have LL := Lib.hid hB.1
  obtain ⟨a, c, U, rfl, hU, hSl, hRr⟩ := rl_fun hs
  have SC : Hid (∀ i W, i < L.length → Grew w W → Calls Tryz.prog 66 #[U i] W (Tells (Vl (nth L i)) W)) := Lib.hid (fun i W hi g => rvalid_any (nth L i) (U i) W ((hSl i hi).grown g) (hB.2 _ (nth_mem hi)))
  have RR : Hid (∀ i W, i < L.length → Grew w W → ∃ b o, a = some ⟨b, o, none⟩ ∧ b < W.heap.size ∧ W.cell? ⟨b, o + i, none⟩ = some (U i)) := Lib.hid (fun i W hi g => by
    obtain ⟨b, o, e, hb, z⟩ := hRr i hi
    exact ⟨b, o, e, Nat.lt_of_lt_of_le hb.1 g.size, (Grew.cell g hb.1).trans z⟩)
  have NN : Hid ((∀ i, i < L.length → Vl (nth L i)) → AllV L) := Lib.hid (fun h p hp => by
    obtain ⟨i, hi, rfl⟩ := mem_nth hp
    exact h i hi)
  have NY : Hid (∀ i, i < L.length → ¬ Vl (nth L i) → ¬ AllV L) := Lib.hid (fun i hi h k => h (k _ (nth_mem hi)))
  clear hs hU hSl hRr hB
  go_enter Tryz.func50, Tryz.ntmps50
  go_wp2_with fail
  go_loopw [3, 4] (fun i _ wr => ∃ k : Nat, k ≤ L.length ∧ i = .int .i64 k ∧ Grew w wr ∧ Hid (∀ j, j < k → Vl (nth L j))) (fun i _ _ => L.length - (intOf i).toNat)
  case atStart => exact ⟨0, Nat.zero_le _, rfl, Grew.refl _, Lib.hid (fun j hj => by omega)⟩
  case round =>
    obtain ⟨k, hk, rfl, G, D⟩ := hrel
    have hz := LL.out
    by_cases hlt : k < L.length
    · obtain ⟨b, o, rfl, hb, z0⟩ := RR.out k _ hlt G
      have i0 : (0 : Int) ≤ (k : Int) := by omega
      have i1 : (k : Int) < (L.length : Int) := by omega
      have CC := Lib.hid (SC.out k _ hlt G)
      go_wp2_with fail
      refine CC.out.mono ?_
      rintro e w1 ⟨r, rfl, hr, g1⟩
      have G1 : Grew w w1 := Grew.trans G g1
      cases r
      · have F := Lib.hid (NY.out k hlt (fun e => by
          have := hr.2 e
          cases this))
        clear hr g1
        go_wp2_with fail
        go_ret
        exact Tells.no F.out rfl G1
      · have F := Lib.hid (hr.1 rfl)
        clear hr g1
        go_wp2_with fail
        go_roundw
        case rel => exact ⟨k + 1, by omega, by go_num, G1, Lib.hid (fun j hj => by
          by_cases e : j = k
          · rw [e]; exact F.out
          · exact D.out j (by omega))⟩
        case measure => simp [intOf]; omega
    · obtain rfl : k = L.length := by omega
      have F := Lib.hid (NN.out D.out)
      go_wp2_with fail
      go_ret
      exact Tells.yes F.out rfl G
theorem rref_valid (L : Rgn) (v : Value) (w : World) (hs : Rl w v L) : Calls Tryz.prog 15 #[v] w (Tells (VlR L) w) := by
  have PC := Lib.hid (polygons_r L v w hs)
  obtain ⟨a, c, rfl⟩ := hs.shape
  clear hs
  by_cases h : L.length ≤ 32
  · have hz : (L.length : Int) ≤ 32 := by omega
    have HL := Lib.hid h
    go_enter Tryz.func15, Tryz.ntmps15
    go_wp2_with fail
    refine PC.out.mono ?_
    rintro e w1 ⟨r, rfl, hr, g1⟩
    have F : Hid (r = true ↔ VlR L) := Lib.hid ⟨fun e => ⟨HL.out, hr.1 e⟩, fun k => hr.2 k.2⟩
    clear hr
    go_wp2_with fail
    go_ret
    exact ⟨r, rfl, F.out, g1⟩
  · have hz : ¬ (L.length : Int) ≤ 32 := by omega
    have F : Hid (¬ VlR L) := Lib.hid (fun k => h k.1)
    go_enter Tryz.func15, Tryz.ntmps15
    go_wp2_with fail
    go_ret
    exact Tells.no F.out rfl (Grew.refl _)
end Rg
end Go.Proofs.YtlookcbokhknfaaGreat
namespace Go.Proofs.YtlookcbokhknfaaGreat
open Go.RowKit Go.Shelf Hl
namespace Rg
def FewSays (L : Rgn) (w : World) (e : Ending) (w' : World) : Prop := ∃ r, e = .returned (.bool r) ∧ (r = true → L.length ≤ 40) ∧ Grew w w'
set_option maxRecDepth 100000 in
set_option maxHeartbeats 4000000 in
theorem few_r (L : Rgn) (v : Value) (w : World) (hs : Rl w v L) : Calls Tryz.prog 11 #[v] w (FewSays L w) := by
  have LL := Lib.hid hs.2.1
  obtain ⟨a, c, U, rfl, hU, hSl, hRr⟩ := rl_fun hs
  have RR : Hid (∀ i W, i < L.length → Grew w W → ∃ b o n a' c', a = some ⟨b, o, none⟩ ∧ b < W.heap.size ∧ W.cell? ⟨b, o + i, none⟩ = some (.slice a' n c')) := Lib.hid (fun i W hi g => by
    obtain ⟨b, o, e, hb, z⟩ := hRr i hi
    obtain ⟨a', n, c', e'⟩ := hU i
    exact ⟨b, o, n, a', c', e, Nat.lt_of_lt_of_le hb.1 g.size, (Grew.cell g hb.1).trans (by rw [z, e'])⟩)
  clear hs hU hSl hRr
  go_enter Tryz.func11, Tryz.ntmps11
  go_wp2_with fail
  go_loopw [3, 4] (fun s i wr => ∃ (k : Nat) (z : Int), k ≤ L.length ∧ k ≤ 41 ∧ i = .int .i64 k ∧ s = .int .i64 z ∧ Grew w wr) (fun _ i _ => L.length - (intOf i).toNat)
  case atStart => exact ⟨0, 0, Nat.zero_le _, by omega, rfl, rfl, Grew.refl _⟩
  case round =>
    obtain ⟨k, z, hk, hk2, rfl, rfl, G⟩ := hrel
    have hz := LL.out
    by_cases hlt : k < L.length
    · have i1 : (k : Int) < (L.length : Int) := by omega
      by_cases h41 : k < 41
      · obtain ⟨b, o, n, a', c', rfl, hb, z0⟩ := RR.out k _ hlt G
        have i0 : (0 : Int) ≤ (k : Int) := by omega
        have i2 : (k : Int) < 41 := by omega
        go_wp2_with fail
        go_roundw
        case rel => exact ⟨k + 1, _, by omega, by omega, by go_num, rfl, G⟩
        case measure => simp [intOf]; omega
      · have i2 : ¬ (k : Int) < 41 := by omega
        have j1 : ¬ (L.length : Int) ≤ 40 := by omega
        go_wp2_with fail
        go_ret
        exact ⟨_, rfl, fun h => by (first | cases h | omega), G⟩
    · obtain rfl : k = L.length := by omega
      by_cases h40 : L.length ≤ 40
      · have j1 : (L.length : Int) ≤ 40 := by omega
        by_cases h300 : z ≤ 300
        · go_wp2_with fail
          go_ret
          exact ⟨_, rfl, fun _ => h40, G⟩
        · go_wp2_with fail
          go_ret
          exact ⟨_, rfl, fun _ => h40, G⟩
      · have j1 : ¬ (L.length : Int) ≤ 40 := by omega
        go_wp2_with fail
        go_ret
        exact ⟨_, rfl, fun h => by (first | cases h | omega), G⟩
end Rg
end Go.Proofs.YtlookcbokhknfaaGreat
namespace Go.Proofs.YtlookcbokhknfaaGreat
open Go.RowKit Go.Shelf Hl
namespace Rg
def UseSays (L M : Rgn) (w : World) (e : Ending) (w' : World) : Prop := ∃ r, e = .returned (.bool r) ∧ (r = true → VlR L ∧ VlR M) ∧ Grew w w'
set_option maxRecDepth 100000 in
set_option maxHeartbeats 4000000 in
theorem usable_c (L M : Rgn) (v u : Value) (w : World) (hs : Rl w v L) (hs2 : Rl w u M) : Calls Tryz.prog 36 #[v, u] w (UseSays L M w) := by
  have F1 : Hid (∀ W, Grew w W → Calls Tryz.prog 11 #[v] W (FewSays L W)) := Lib.hid (fun W g => few_r L v W (hs.grown g))
  have F2 : Hid (∀ W, Grew w W → Calls Tryz.prog 11 #[u] W (FewSays M W)) := Lib.hid (fun W g => few_r M u W (hs2.grown g))
  have V1 : Hid (∀ W, Grew w W → Calls Tryz.prog 15 #[v] W (Tells (VlR L) W)) := Lib.hid (fun W g => rref_valid L v W (hs.grown g))
  have V2 : Hid (∀ W, Grew w W → Calls Tryz.prog 15 #[u] W (Tells (VlR M) W)) := Lib.hid (fun W g => rref_valid M u W (hs2.grown g))
  obtain ⟨a, c, rfl⟩ := hs.shape
  obtain ⟨a2, c2, rfl⟩ := hs2.shape
  clear hs hs2
  go_enter Tryz.func36, Tryz.ntmps36
  go_wp2_with fail
  refine (F1.out _ (Grew.refl _)).mono ?_
  rintro e w1 ⟨r1, rfl, h1, g1⟩
  cases r1
  · clear h1
    go_wp2_with fail
    go_ret
    exact ⟨_, rfl, fun h => absurd h (by decide), g1⟩
  · have L1 : L.length ≤ 40 := h1 rfl
    clear h1
    go_wp2_with fail
    refine (F2.out _ g1).mono ?_
    rintro e w2 ⟨r2, rfl, h2, g2⟩
    have G2 := Grew.trans g1 g2
    clear g1 g2
    cases r2
    · clear h2
      go_wp2_with fail
      go_ret
      exact ⟨_, rfl, fun h => absurd h (by decide), G2⟩
    · have L2 : M.length ≤ 40 := h2 rfl
      clear h2
      have hm : L.length * M.length ≤ 40 * 40 := Nat.mul_le_mul L1 L2
      have W0 : IntKind.i64.wrap ((L.length : Int) * (M.length : Int)) = (L.length : Int) * (M.length : Int) := IntWalk.i64_in _ (by
        have : ((L.length : Int) * (M.length : Int)) = ((L.length * M.length : Nat) : Int) := by simp
        rw [this]
        exact ⟨by omega, by omega⟩)
      clear hm L1 L2
      by_cases h100 : (L.length : Int) * (M.length : Int) ≤ 100
      · go_wp2_with fail
        refine (V1.out _ G2).mono ?_
        rintro e w3 ⟨r3, rfl, h3, g3⟩
        have G3 := Grew.trans G2 g3
        clear g3 G2
        cases r3
        · clear h3
          go_wp2_with fail
          go_ret
          exact ⟨_, rfl, fun h => absurd h (by decide), G3⟩
        · have A1 := Lib.hid (h3.1 rfl)
          clear h3
          go_wp2_with fail
          refine (V2.out _ G3).mono ?_
          rintro e w4 ⟨r4, rfl, h4, g4⟩
          have G4 := Grew.trans G3 g4
          have H4 : Hid (r4 = true → VlR M) := Lib.hid (h4.1)
          clear h4 g4 G3
          go_wp2_with fail
          go_ret
          exact ⟨r4, rfl, fun h => ⟨A1.out, H4.out h⟩, G4⟩
      · go_wp2_with fail
        go_ret
        exact ⟨_, rfl, fun h => absurd h (by decide), G2⟩
end Rg
end Go.Proofs.YtlookcbokhknfaaGreat
namespace Go.Proofs.YtlookcbokhknfaaGreat
open Go.RowKit Go.Shelf Hl
namespace Rg
set_option maxRecDepth 100000 in
set_option maxHeartbeats 4000000 in
theorem rectangle_r (lo hi : Pt) (w : World) : Calls Tryz.prog 41 #[.agg #[.int .i64 lo.1, .int .i64 lo.2], .agg #[.int .i64 hi.1, .int .i64 hi.2]] w (Tells (Rect lo hi) w) := by
  have PC : ∀ x, Plc x → Hid (∀ W, Calls Tryz.prog 33 #[.agg #[.int .i64 x.1, .int .i64 x.2]] W fun e w' => e = .returned (.bool true) ∧ Grew W w') := fun x h => Lib.hid (fun W => place_yes x.1 x.2 W h)
  have PN : ∀ x, ¬ Plc x → Hid (∀ W, Calls Tryz.prog 33 #[.agg #[.int .i64 x.1, .int .i64 x.2]] W fun e w' => e = .returned (.bool false) ∧ Grew W w') := fun x h => Lib.hid (fun W => place_no x.1 x.2 W h)
  have B0 := Lib.hid ((Blk.new w #[.int .i64 lo.1, .int .i64 lo.2] 27).grown ((Grew.refl _).alloc #[.int .i64 hi.1, .int .i64 hi.2] 27))
  have B1 := Lib.hid (Blk.new (w.alloc (.cells #[.int .i64 lo.1, .int .i64 lo.2] 27)) #[.int .i64 hi.1, .int .i64 hi.2] 27)
  rw [World.size_alloc] at B1
  by_cases hlo : Plc lo
  · have P0 := PC lo hlo
    by_cases hhi : Plc hi
    · have P1 := PC hi hhi
      by_cases hx : lo.1 ≤ hi.1
      · by_cases hy : lo.2 ≤ hi.2
        · have F := Lib.hid (show Rect lo hi from ⟨⟨hlo, hhi⟩, hx, hy⟩)
          clear PC PN hlo hhi
          go_enter Tryz.func41, Tryz.ntmps41
          go_wp2_with fail
          refine (P0.out _).mono ?_
          rintro e w1 ⟨rfl, g1⟩
          obtain ⟨x0, x1⟩ := blk_two (B0.out.grown g1)
          obtain ⟨y0, y1⟩ := blk_two (B1.out.grown g1)
          go_wp2_with fail
          refine (P1.out _).mono ?_
          rintro e w2 ⟨rfl, g2⟩
          obtain ⟨z0, z1⟩ := blk_two (B0.out.grown (g1.trans g2))
          obtain ⟨u0, u1⟩ := blk_two (B1.out.grown (g1.trans g2))
          clear x0 x1 y0 y1
          go_wp2_with fail
          go_ret
          exact Tells.yes F.out (by first | rfl | simp [hx, hy]) (Grew.trans (((Grew.refl w).alloc _ _).alloc _ _) (g1.trans g2))
        · have F := Lib.hid (show ¬ Rect lo hi from fun h => hy h.2.2)
          clear PC PN hlo hhi
          go_enter Tryz.func41, Tryz.ntmps41
          go_wp2_with fail
          refine (P0.out _).mono ?_
          rintro e w1 ⟨rfl, g1⟩
          obtain ⟨x0, x1⟩ := blk_two (B0.out.grown g1)
          obtain ⟨y0, y1⟩ := blk_two (B1.out.grown g1)
          go_wp2_with fail
          refine (P1.out _).mono ?_
          rintro e w2 ⟨rfl, g2⟩
          obtain ⟨z0, z1⟩ := blk_two (B0.out.grown (g1.trans g2))
          obtain ⟨u0, u1⟩ := blk_two (B1.out.grown (g1.trans g2))
          clear x0 x1 y0 y1
          go_wp2_with fail
          go_ret
          exact Tells.no F.out (by first | rfl | simp [hy]) (Grew.trans (((Grew.refl w).alloc _ _).alloc _ _) (g1.trans g2))
      · have F := Lib.hid (show ¬ Rect lo hi from fun h => hx h.2.1)
        clear PC PN hlo hhi
        go_enter Tryz.func41, Tryz.ntmps41
        go_wp2_with fail
        refine (P0.out _).mono ?_
        rintro e w1 ⟨rfl, g1⟩
        obtain ⟨x0, x1⟩ := blk_two (B0.out.grown g1)
        obtain ⟨y0, y1⟩ := blk_two (B1.out.grown g1)
        go_wp2_with fail
        refine (P1.out _).mono ?_
        rintro e w2 ⟨rfl, g2⟩
        obtain ⟨z0, z1⟩ := blk_two (B0.out.grown (g1.trans g2))
        obtain ⟨u0, u1⟩ := blk_two (B1.out.grown (g1.trans g2))
        clear x0 x1 y0 y1
        go_wp2_with fail
        go_ret
        exact Tells.no F.out (by first | rfl | simp [hx]) (Grew.trans (((Grew.refl w).alloc _ _).alloc _ _) (g1.trans g2))
    · have P1 := PN hi hhi
      have F := Lib.hid (show ¬ Rect lo hi from fun h => hhi h.1.2)
      clear PC PN hlo hhi
      go_enter Tryz.func41, Tryz.ntmps41
      go_wp2_with fail
      refine (P0.out _).mono ?_
      rintro e w1 ⟨rfl, g1⟩
      obtain ⟨x0, x1⟩ := blk_two (B0.out.grown g1)
      obtain ⟨y0, y1⟩ := blk_two (B1.out.grown g1)
      go_wp2_with fail
      refine (P1.out _).mono ?_
      rintro e w2 ⟨rfl, g2⟩
      obtain ⟨z0, z1⟩ := blk_two (B0.out.grown (g1.trans g2))
      obtain ⟨u0, u1⟩ := blk_two (B1.out.grown (g1.trans g2))
      clear x0 x1 y0 y1
      go_wp2_with fail
      go_ret
      exact Tells.no F.out rfl (Grew.trans (((Grew.refl w).alloc _ _).alloc _ _) (g1.trans g2))
  · have P0 := PN lo hlo
    have F := Lib.hid (show ¬ Rect lo hi from fun h => hlo h.1.1)
    by_cases hhi : Plc hi
    · have P1 := PC hi hhi
      clear PC PN hlo hhi
      go_enter Tryz.func41, Tryz.ntmps41
      go_wp2_with fail
      refine (P0.out _).mono ?_
      rintro e w1 ⟨rfl, g1⟩
      obtain ⟨x0, x1⟩ := blk_two (B0.out.grown g1)
      obtain ⟨y0, y1⟩ := blk_two (B1.out.grown g1)
      go_wp2_with fail
      refine (P1.out _).mono ?_
      rintro e w2 ⟨rfl, g2⟩
      obtain ⟨z0, z1⟩ := blk_two (B0.out.grown (g1.trans g2))
      obtain ⟨u0, u1⟩ := blk_two (B1.out.grown (g1.trans g2))
      clear x0 x1 y0 y1
      go_wp2_with fail
      go_ret
      exact Tells.no F.out rfl (Grew.trans (((Grew.refl w).alloc _ _).alloc _ _) (g1.trans g2))
    · have P1 := PN hi hhi
      clear PC PN hlo hhi
      go_enter Tryz.func41, Tryz.ntmps41
      go_wp2_with fail
      refine (P0.out _).mono ?_
      rintro e w1 ⟨rfl, g1⟩
      obtain ⟨x0, x1⟩ := blk_two (B0.out.grown g1)
      obtain ⟨y0, y1⟩ := blk_two (B1.out.grown g1)
      go_wp2_with fail
      refine (P1.out _).mono ?_
      rintro e w2 ⟨rfl, g2⟩
      obtain ⟨z0, z1⟩ := blk_two (B0.out.grown (g1.trans g2))
      obtain ⟨u0, u1⟩ := blk_two (B1.out.grown (g1.trans g2))
      clear x0 x1 y0 y1
      go_wp2_with fail
      go_ret
      exact Tells.no F.out rfl (Grew.trans (((Grew.refl w).alloc _ _).alloc _ _) (g1.trans g2))
end Rg
end Go.Proofs.YtlookcbokhknfaaGreat
namespace Go.Proofs.YtlookcbokhknfaaGreat
open Go.RowKit Go.Shelf Hl
namespace Rg
open Ct (Hf WF ov)
theorem blk_three {W : World} {B : Nat} {x y z : Value} {t : TypeId} (h : Blk W B #[x, y, z] t) : W.cell? ⟨B, 0, none⟩ = some x ∧ W.cell? ⟨B, 1, none⟩ = some y ∧ W.cell? ⟨B, 2, none⟩ = some z := by simp [World.cell?, show W.heap[B]? = _ from h]
theorem place_t (x : Pt) (w : World) : Calls Tryz.prog 33 #[.agg #[.int .i64 x.1, .int .i64 x.2]] w (Tells (Plc x) w) :=
  (place_x x w).mono fun _ _ h => ⟨_, h.1, decide_eq_true_iff, h.2⟩
theorem half_t (h : Hf) (w : World) : Calls Tryz.prog 37 #[.agg #[.int .i64 h.1, .int .i64 h.2.1, .int .i64 h.2.2]] w (Tells (WF h) w) :=
  (Ct.half_c h w).mono fun _ _ h => ⟨_, h.1, decide_eq_true_iff, h.2⟩
theorem over_t (h : Hf) (x : Pt) (w : World) (hh : WF h) (hx : Plc x) : Calls Tryz.prog 38 #[.agg #[.int .i64 h.1, .int .i64 h.2.1, .int .i64 h.2.2], .agg #[.int .i64 x.1, .int .i64 x.2]] w fun e w' => e = .returned (.int .i64 (ov h x)) ∧ Grew w w' :=
  (Ct.over_r h x w hh hx).mono fun _ _ h => by
    obtain ⟨h, rfl⟩ := h
    exact ⟨h, ((Grew.refl w).alloc _ _).alloc _ _⟩
def HhP (p : List Pt) (x : Pt) (r : Bool) (k : Int) : Prop := (¬ (Vl p ∧ Plc x) ∧ r = false ∧ k = 1) ∨ ((Vl p ∧ Plc x) ∧ (r = true ↔ Hs p x) ∧ k = 0)
theorem hhas_c (H : Hl.Code) (p : List Pt) (x : Pt) (v : Value) (w : World) (hs : Sl w v p) (hl : p.length ≤ 9223372036854775807) : Calls Tryz.prog 39 #[v, .agg #[.int .i64 x.1, .int .i64 x.2]] w (AnsB (HhP p x) w) := by
  by_cases h : Vl p ∧ Plc x
  · exact (H.has_ok p x v w hs h.1 h.2).mono fun _ _ ⟨r, e, hr, g⟩ => ⟨r, 0, Or.inr ⟨h, hr, rfl⟩, e, g⟩
  · exact (H.has_bad p x v w hs hl h).mono fun _ _ ⟨e, g⟩ => ⟨false, 1, Or.inl ⟨h, rfl, rfl⟩, e, g⟩
def HasO (L : Rgn) (x : Pt) (w : World) (e : Ending) (w' : World) : Prop := ∃ r, e = .returned (.tuple #[.bool r, .int .i64 0]) ∧ (r = true ↔ InR L x) ∧ Grew w w'
theorem has_ok (K : Code) (L : Rgn) (x : Pt) (v : Value) (w : World) (hs : Rl w v L) (hL : VlR L) (hx : Plc x) : Calls Tryz.prog 12 #[v, .agg #[.int .i64 x.1, .int .i64 x.2]] w (HasO L x w) :=
  (K.has L x v w hs).mono fun _ _ h => by
    obtain ⟨r, k, h, e, g⟩ := h
    rcases h with ⟨n, _⟩ | ⟨_, h, rfl⟩
    · exact absurd ⟨hL, hx⟩ n
    · exact ⟨r, e, h, g⟩
theorem has_yes (K : Code) (L : Rgn) (x : Pt) (v : Value) (w : World) (hs : Rl w v L) (hL : VlR L) (hx : InR L x) : Calls Tryz.prog 12 #[v, .agg #[.int .i64 x.1, .int .i64 x.2]] w fun e w' => e = .returned (.tuple #[.bool true, .int .i64 0]) ∧ Grew w w' :=
  (has_ok K L x v w hs hL (inR_plc hL.2 hx)).mono fun _ _ h => by
    obtain ⟨r, e, h, g⟩ := h
    obtain rfl := h.2 hx
    exact ⟨e, g⟩
/-- A region that was made of polygons with a property. -/
def MadeO (C : Rgn → Prop) (w : World) (e : Ending) (w' : World) : Prop := ∃ v r, (∃ c, C c ∧ TidyIs c r) ∧ e = .returned (.tuple #[v, .int .i64 0]) ∧ Rl w' v r ∧ Grew w w'
theorem made_ok {B : Prop} {C : Rgn → Prop} {w : World} {e : Ending} {w' : World} (hB : B) (h : AnsR (Made B C) w e w') : MadeO C w e w' := by
  obtain ⟨v, k, r, h, rfl, s, g⟩ := h
  rcases h with ⟨n, _⟩ | ⟨_, rfl, h⟩
  · exact absurd hB n
  · exact ⟨v, r, h, rfl, s, g⟩
theorem rl_nat {w : World} {v : Value} {L : Rgn} (h : Rl w v L) : ∃ a n c, v = .slice a n c ∧ n = L.length := by
  obtain ⟨a, c, e⟩ := h.shape
  exact ⟨a, _, c, e, rfl⟩
theorem len_wrap {a b : Nat} (h : a ≤ 32) (k : b ≤ 32) : IntKind.i64.wrap ((a : Int) + (b : Int)) = (a : Int) + (b : Int) := IntWalk.i64_in _ ⟨by omega, by omega⟩
end Rg
end Go.Proofs.YtlookcbokhknfaaGreat
namespace Go.Proofs.YtlookcbokhknfaaGreat
open Go.RowKit Go.Shelf Hl
namespace Rg
open Ct (Hf WF ov)
def AllRect (L : Rgn) : Prop := ∀ p, p ∈ L → ∃ a b : Pt, a.1 ≤ b.1 ∧ a.2 ≤ b.2 ∧ p = rectL a b
theorem isBox_le {p : List Pt} {lo hi : Pt} (h : IsBox p lo hi) : lo.1 ≤ hi.1 ∧ lo.2 ≤ hi.2 := by
  obtain ⟨⟨x, hx, e⟩, _⟩ := h.1
  have a := h.2.1.2 x hx
  obtain ⟨⟨y, hy, e'⟩, _⟩ := h.2.2.1
  have b := h.2.2.2.2 y hy
  exact ⟨by omega, by omega⟩
def RecSays (L : Rgn) (w : World) (e : Ending) (w' : World) : Prop := ∃ r, e = .returned (.bool r) ∧ (r = true → AllRect L) ∧ Grew w w'
theorem RecSays.no {L : Rgn} {w w' : World} (g : Grew w w') : RecSays L w (.returned (.bool false)) w' := ⟨_, rfl, fun h => (by cases h), g⟩
set_option maxRecDepth 100000 in
set_option maxHeartbeats 4000000 in
theorem rectangles_c (H : Hl.Code) (L : Rgn) (v : Value) (w : World) (hs : Rl w v L) (hL : AllV L) : Calls Tryz.prog 42 #[v] w (RecSays L w) := by
  have LL := Lib.hid hs.2.1
  obtain ⟨a, c, U, rfl, hU, hSl, hRr⟩ := rl_fun hs
  have BC : Hid (∀ i W, i < L.length → Grew w W → Calls Tryz.prog 86 #[U i] W (BoxSays (nth L i) W)) := Lib.hid (fun i W hi g => H.box_ok (nth L i) (U i) W ((hSl i hi).grown g) (hL _ (nth_mem hi)))
  have SC : Hid (∀ i W q u, i < L.length → Grew w W → Sl W u q → Calls Tryz.prog 44 #[U i, u] W (Tells (nth L i = q) W)) := Lib.hid (fun i W q u hi g hu => same_any (nth L i) q (U i) u W ((hSl i hi).grown g) hu (by have := (hL _ (nth_mem hi)).1.2; omega))
  have RR : Hid (∀ i W, i < L.length → Grew w W → ∃ b o, a = some ⟨b, o, none⟩ ∧ b < W.heap.size ∧ W.cell? ⟨b, o + i, none⟩ = some (U i)) := Lib.hid (fun i W hi g => by
    obtain ⟨b, o, e, hb, z⟩ := hRr i hi
    exact ⟨b, o, e, Nat.lt_of_lt_of_le hb.1 g.size, (Grew.cell g hb.1).trans z⟩)
  have NN : Hid ((∀ i, i < L.length → ∃ a b : Pt, a.1 ≤ b.1 ∧ a.2 ≤ b.2 ∧ nth L i = rectL a b) → AllRect L) := Lib.hid (fun h p hp => by
    obtain ⟨i, hi, rfl⟩ := mem_nth hp
    exact h i hi)
  have LB := Lib.hid lbox_c
  clear hs hU hSl hRr hL
  go_enter Tryz.func42, Tryz.ntmps42
  go_wp2_with fail
  go_loopw [2, 4, 5, 6, 7, 10] (fun _ _ _ _ _ i wr => ∃ k : Nat, k ≤ L.length ∧ i = .int .i64 k ∧ Grew w wr ∧ Hid (∀ j, j < k → ∃ a b : Pt, a.1 ≤ b.1 ∧ a.2 ≤ b.2 ∧ nth L j = rectL a b)) (fun _ _ _ _ _ i _ => L.length - (intOf i).toNat)
  case atStart => exact ⟨0, Nat.zero_le _, rfl, Grew.refl _, Lib.hid (fun j hj => by omega)⟩
  case round =>
    obtain ⟨k, hk, rfl, G, D⟩ := hrel
    have hz := LL.out
    by_cases hlt : k < L.length
    · obtain ⟨b, o, rfl, hb, z0⟩ := RR.out k _ hlt G
      have i0 : (0 : Int) ≤ (k : Int) := by omega
      have i1 : (k : Int) < (L.length : Int) := by omega
      have CC := Lib.hid (BC.out k _ hlt G)
      have CS := Lib.hid (fun W q u g => SC.out k W q u hlt (Grew.trans G g))
      go_wp2_with fail
      refine CC.out.mono ?_
      rintro e w1 ⟨lo, hi, hb0, rfl, g1⟩
      have HB := Lib.hid hb0
      have G1 := Grew.trans G g1
      clear hb0 CC
      by_cases h1 : lo.1 = hi.1
      · go_wp2_with fail
        go_ret
        exact RecSays.no (Grew.trans G1 (by (repeat' (first | (with_reducible exact Grew.refl _) | (with_reducible assumption) | (with_reducible refine Grew.alloc ?_ _ _) | (with_reducible refine Grew.drew ?_) | (with_reducible refine Grew.drewN ?_ _) | (with_reducible refine Grew.setCell ?_ ?_ _) | go_size))))
      · by_cases h2 : lo.2 = hi.2
        · go_wp2_with fail
          go_ret
          exact RecSays.no (Grew.trans G1 (by (repeat' (first | (with_reducible exact Grew.refl _) | (with_reducible assumption) | (with_reducible refine Grew.alloc ?_ _ _) | (with_reducible refine Grew.drew ?_) | (with_reducible refine Grew.drewN ?_ _) | (with_reducible refine Grew.setCell ?_ ?_ _) | go_size))))
        · have h3 : (lo.1 == hi.1) = false := by simpa using h1
          have h4 : (lo.2 == hi.2) = false := by simpa using h2
          go_wp2_with fail
          refine (LB.out lo hi _).mono ?_
          rintro e w2 ⟨vb, rfl, s2, g2⟩
          have D2 : Grew w1 w2 := Grew.trans (by (repeat' (first | (with_reducible exact Grew.refl _) | (with_reducible assumption) | (with_reducible refine Grew.alloc ?_ _ _) | (with_reducible refine Grew.drew ?_) | (with_reducible refine Grew.drewN ?_ _) | (with_reducible refine Grew.setCell ?_ ?_ _) | go_size))) g2
          have G2 := Grew.trans G1 D2
          clear g2
          go_wp2_with fail
          refine (CS.out _ _ _ (Grew.trans g1 D2) s2).mono ?_
          rintro e w3 ⟨r, rfl, hr, g3⟩
          have G3 := Grew.trans G2 g3
          cases r
          · clear hr
            go_wp2_with fail
            go_ret
            exact RecSays.no G3
          · have F := Lib.hid (hr.1 rfl)
            clear hr
            go_wp2_with fail
            refine ⟨⟨k + 1, by omega, by go_num, G3, Lib.hid (fun j hj => ?_)⟩, by simp [intOf]; omega⟩
            by_cases e : j = k
            · rw [e]
              exact ⟨lo, hi, (isBox_le HB.out).1, (isBox_le HB.out).2, F.out⟩
            · exact D.out j (by omega)
    · obtain rfl : k = L.length := by omega
      have F := Lib.hid (NN.out D.out)
      go_wp2_with fail
      go_ret
      exact ⟨_, rfl, fun _ => F.out, G⟩
end Rg
end Go.Proofs.YtlookcbokhknfaaGreat
