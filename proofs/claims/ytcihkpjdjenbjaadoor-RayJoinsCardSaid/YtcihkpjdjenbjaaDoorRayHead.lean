/-
  The law's examples of layer 9 hold, of a package ray that pays what it owes; a place out of 32 bits.
-/
import Derived.Test.YtcihkpjdjenbjaaDoorRayCon
import Derived.Test.YtcihkpjdjenbjaaDoorHullSame
import Derived.Test.YtcihkpjdjenbjaaDoorHullSm
namespace Go.Proofs.YtcihkpjdjenbjaaDoor
open Go.RowKit Hl Ex
namespace Ry
set_option maxRecDepth 100000

theorem kf_is {v : Pt} {k : Nat} (f : Fd v k) (hv : v ≠ (0, 0)) : kf v = k := f.one (kf_fd hv)
theorem ex_of1 : kf (5, 4) = 6 := kf_is ⟨by decide, by decide, by decide⟩ (by decide)
theorem ex_of2 : kf (0, -3) = 48 := kf_is ⟨by decide, by decide, by decide⟩ (by decide)
theorem ex_sec {q : List Pt} (h : IsHull (secL 0 0 0 998) q) : q = [(0, 0), (1000, 0)] := by
  refine hull_unique h ⟨⟨by decide, fun i h1 h2 => ?_, fun h => absurd h (by decide)⟩, fun x hx => ?_, fun x hx => ?_⟩
  · obtain rfl : i = 1 := by have h2 : i < 2 := h2; omega
    exact Or.inl (by decide)
  · have e : secL 0 0 0 998 = [(0, 0), (0, 0), (0, 0), (0, 0), (0, 0), (0, 0), (0, 0), (0, 0), (1000, 0), (1000, 0), (1000, 0), (1000, 0)] := by decide
    rw [e]
    simp only [List.mem_cons, List.mem_nil_iff, or_false] at hx ⊢
    rcases hx with rfl | rfl <;> simp
  · have e : secL 0 0 0 998 = [(0, 0), (0, 0), (0, 0), (0, 0), (0, 0), (0, 0), (0, 0), (0, 0), (1000, 0), (1000, 0), (1000, 0), (1000, 0)] := by decide
    rw [e] at hx
    have hx : x = (0, 0) ∨ x = (1000, 0) := by
      simp only [List.mem_cons, List.mem_nil_iff, or_false] at hx
      rcases hx with h | h | h | h | h | h | h | h | h | h | h | h <;> simp [h]
    refine (hs2 rfl).2 ?_
    rcases hx with rfl | rfl
    · exact ⟨by decide, by unfold btw; decide⟩
    · exact ⟨by decide, by unfold btw; decide⟩
set_option maxHeartbeats 4000000 in
theorem head_true {T : World → Prop} (F : Code T) (w : World) (hT : T w) : Calls Tryd.prog 9 #[] w fun e w' => e = .returned (.bool true) ∧ Grew w w' := by
  have TK := Lib.hid (fun W (g : Grew w W) => F.keep w W g hT)
  have C1 : Hid (∀ W, Grew w W → Calls Tryd.prog 10 #[.int .i64 16] W fun e w' => e = .returned (.tuple #[.agg #[.int .i64 0, .int .i64 1000], .int .i64 0]) ∧ Grew W w') := Lib.hid (fun W g => F.fns.ray 16 W (TK.out W g) (by decide))
  have C2 : Hid (∀ W, Grew w W → Calls Tryd.prog 12 #[.int .i64 8, .int .i64 0, .agg #[.int .i64 5, .int .i64 5]] W fun e w' => e = .returned (.tuple #[.bool true, .int .i64 0]) ∧ Grew W w') := Lib.hid (fun W g => by
    have h := F.fns.bet 8 0 (5, 5) W (TK.out W g) (by decide) (by decide) ⟨by decide, by decide⟩
    unfold BetIs at h
    rwa [decide_eq_true (show Lies 8 0 (5, 5) by decide)] at h)
  have C3 : Hid (∀ W, Grew w W → Calls Tryd.prog 12 #[.int .i64 7, .int .i64 2, .agg #[.int .i64 5, .int .i64 5]] W fun e w' => e = .returned (.tuple #[.bool true, .int .i64 0]) ∧ Grew W w') := Lib.hid (fun W g => by
    have h := F.fns.bet 7 2 (5, 5) W (TK.out W g) (by decide) (by decide) ⟨by decide, by decide⟩
    unfold BetIs at h
    rwa [decide_eq_true (show Lies 7 2 (5, 5) by decide)] at h)
  have C4 : Hid (∀ W, Grew w W → Calls Tryd.prog 12 #[.int .i64 8, .int .i64 0, .agg #[.int .i64 (-5), .int .i64 (-5)]] W fun e w' => e = .returned (.tuple #[.bool false, .int .i64 0]) ∧ Grew W w') := Lib.hid (fun W g => by
    have h := F.fns.bet 8 0 (-5, -5) W (TK.out W g) (by decide) (by decide) ⟨by decide, by decide⟩
    unfold BetIs at h
    rwa [decide_eq_false (show ¬ Lies 8 0 (-5, -5) by decide)] at h)
  have C5 : Hid (∀ W, Grew w W → Calls Tryd.prog 14 #[.agg #[.int .i64 5, .int .i64 4]] W fun e w' => e = .returned (.tuple #[.int .i64 6, .bool false, .int .i64 0]) ∧ Grew W w') := Lib.hid (fun W g => by
    have h := F.fns.ofv (5, 4) W (TK.out W g) ⟨by decide, by decide⟩
    unfold OfIs at h
    rwa [ex_of1, decide_eq_false (show ¬ On 6 (5, 4) by decide)] at h)
  have C6 : Hid (∀ W, Grew w W → Calls Tryd.prog 14 #[.agg #[.int .i64 0, .int .i64 (-3)]] W fun e w' => e = .returned (.tuple #[.int .i64 48, .bool true, .int .i64 0]) ∧ Grew W w') := Lib.hid (fun W g => by
    have h := F.fns.ofv (0, -3) W (TK.out W g) ⟨by decide, by decide⟩
    unfold OfIs at h
    rwa [ex_of2, decide_eq_true (show On 48 (0, -3) by decide)] at h)
  have C7 : Hid (∀ W, Grew w W → Calls Tryd.prog 16 #[.int .i64 0, .int .i64 0, .agg #[.int .i64 0, .int .i64 998]] W fun e w' => ∃ v, e = .returned (.tuple #[v, .int .i64 0]) ∧ Sl w' v [(0, 0), (1000, 0)] ∧ Grew W w') := Lib.hid (fun W g => by
    have h := F.fns.sec 0 0 0 998 W (TK.out W g) (by decide) (by decide) ⟨by decide, by decide, by decide⟩
    refine h.mono ?_
    rintro e w' ⟨q, v, hq, _, rfl, hs, g'⟩
    rw [ex_sec hq] at hs
    exact ⟨v, rfl, hs, g'⟩)
  have C8 : Hid (∀ W, Calls Tryd.prog 10 #[.int .i64 64] W fun e w' => e = .returned (.tuple #[.agg #[.int .i64 0, .int .i64 0], .int .i64 1]) ∧ Grew W w') := Lib.hid (fun W => F.fns.ray_bad 64 W (by decide))
  have C9 : Hid (∀ W, Calls Tryd.prog 12 #[.int .i64 0, .int .i64 32, .agg #[.int .i64 1, .int .i64 0]] W fun e w' => e = .returned (.tuple #[.bool false, .int .i64 1]) ∧ Grew W w') := Lib.hid (fun W => F.fns.bet_bad 0 32 (1, 0) W (fun h => absurd h.2.1.2 (by decide)))
  have C10 : Hid (∀ W, Calls Tryd.prog 14 #[.agg #[.int .i64 0, .int .i64 0]] W fun e w' => e = .returned (.tuple #[.int .i64 0, .bool false, .int .i64 1]) ∧ Grew W w') := Lib.hid (fun W => F.fns.ofv_bad (0, 0) W (fun h => h.2 rfl))
  clear TK hT F
  go_enter Tryd.func9, Tryd.ntmps9
  go_wp2_with fail
  refine (C1.out _ (Grew.refl _)).mono ?_
  rintro e w1 ⟨rfl, G1⟩
  have kA := Lib.hid (Blk.new w1 #[.int .i64 0, .int .i64 1000] 23)
  have G2 := Lib.hid (G1.alloc #[.int .i64 0, .int .i64 1000] 23)
  clear G1
  go_wp2_with fail
  refine (C2.out _ G2.out).mono ?_
  rintro e w2 ⟨rfl, g⟩
  have GG := Lib.hid g
  have G := Lib.hid (G2.out.trans g)
  clear g G2
  go_wp2_with fail
  refine (C3.out _ G.out).mono ?_
  rintro e w3 ⟨rfl, g⟩
  have GG := Lib.hid (GG.out.trans g)
  have G := Lib.hid (G.out.trans g)
  clear g
  go_wp2_with fail
  refine (C4.out _ G.out).mono ?_
  rintro e w3 ⟨rfl, g⟩
  have GG := Lib.hid (GG.out.trans g)
  have G := Lib.hid (G.out.trans g)
  clear g
  go_wp2_with fail
  refine (C5.out _ G.out).mono ?_
  rintro e w3 ⟨rfl, g⟩
  have GG := Lib.hid (GG.out.trans g)
  have G := Lib.hid (G.out.trans g)
  clear g
  go_wp2_with fail
  refine (C6.out _ G.out).mono ?_
  rintro e w3 ⟨rfl, g⟩
  have GG := Lib.hid (GG.out.trans g)
  have G := Lib.hid (G.out.trans g)
  clear g
  go_wp2_with fail
  refine (C7.out _ G.out).mono ?_
  rintro e w3 ⟨v7, rfl, s7, g⟩
  have GG := Lib.hid (GG.out.trans g)
  have G := Lib.hid (G.out.trans g)
  have S7 := Lib.hid s7
  obtain ⟨a7, c7, rfl⟩ := s7.shape
  clear g s7
  go_wp2_with fail
  refine (C8.out _).mono ?_
  rintro e w8 ⟨rfl, g⟩
  have GG := Lib.hid ((GG.out.trans g).alloc #[.int .i64 0, .int .i64 0] 23)
  have S7 := Lib.hid (S7.out.grown (g.alloc #[.int .i64 0, .int .i64 0] 23))
  have G := Lib.hid ((G.out.trans g).alloc #[.int .i64 0, .int .i64 0] 23)
  clear g
  go_wp2_with fail
  refine (C9.out _).mono ?_
  rintro e w9 ⟨rfl, g⟩
  have GG := Lib.hid (GG.out.trans g)
  have S7 := Lib.hid (S7.out.grown g)
  have G := Lib.hid (G.out.trans g)
  clear g
  go_wp2_with fail
  refine (C10.out _).mono ?_
  rintro e w10 ⟨rfl, g⟩
  have kA := kA.out.grown (GG.out.trans g)
  have S7 := Lib.hid (S7.out.grown (g.alloc #[.int .i64 0, .int .i64 0, .int .i64 1000, .int .i64 0] 23))
  have G := Lib.hid (G.out.trans g)
  obtain ⟨⟨a0, a1⟩, _, _⟩ := kA.two
  have lA := kA.lt
  clear g GG
  have RN := Lib.hid (row_new [(0, 0), (1000, 0)] #[.int .i64 0, .int .i64 0, .int .i64 1000, .int .i64 0] rfl w10 23)
  go_wp2_with fail
  refine (same_any [(0, 0), (1000, 0)] [(0, 0), (1000, 0)] _ _ _ S7.out (Or.inr ⟨_, 0, 2, rfl, RN.out⟩) (by decide)).mono ?_
  rintro e w11 t11
  obtain ⟨rfl, g⟩ := t11.to rfl
  have G := G.out
  go_wp2_with fail
  go_ret
  exact ⟨rfl, Grew.trans (G.alloc _ _) g⟩
/-- A vector that 32 bits say. -/
def plv (x y : Int) : Pt := if x = 30000 ∧ y = 30000 then (1, 0) else (x - 30000, y - 30000)
theorem plv_vec {x y : Int} (hx : 0 ≤ x ∧ x ≤ 65535) (hy : 0 ≤ y ∧ y ≤ 65535) : Vec (plv x y) := by
  unfold plv
  split
  · exact ⟨by decide, by decide⟩
  · refine ⟨by simp only; omega, fun e => ?_⟩
    have e1 := congrArg Prod.fst e
    have e2 := congrArg Prod.snd e
    simp only at e1 e2
    omega
theorem plv_small {x y : Int} (hx : 0 ≤ x ∧ x ≤ 65535) (hy : 0 ≤ y ∧ y ≤ 65535) : (-40000 ≤ (plv x y).1 ∧ (plv x y).1 ≤ 40000) ∧ (-40000 ≤ (plv x y).2 ∧ (plv x y).2 ≤ 40000) := by
  unfold plv
  split
  · decide
  · simp only; omega
theorem place_9 (x y : Int) (w : World) (hx : 0 ≤ x ∧ x ≤ 65535) (hy : 0 ≤ y ∧ y ≤ 65535) : Calls Tryd.prog 19 #[.int .u16 x, .int .u16 y] w fun e w' => e = .returned (.agg #[.int .i64 (plv x y).1, .int .i64 (plv x y).2]) ∧ Grew w w' := by
  obtain ⟨x0, x1⟩ := hx
  obtain ⟨y0, y1⟩ := hy
  by_cases h : x = 30000 ∧ y = 30000
  · have E : Hid (plv x y = (1, 0)) := Lib.hid (if_pos h)
    rw [E.out]
    obtain ⟨rfl, rfl⟩ := h
    go_enter Tryd.func19, Tryd.ntmps19
    go_wp2_with fail
    exact bodyPost_ret (v := .agg #[.int .i64 1, .int .i64 0]) (by simp [results, Tryd.results19, go_sem]) rfl ⟨rfl, (by (repeat' (first | (with_reducible exact Grew.refl _) | (with_reducible assumption) | (with_reducible refine Grew.alloc ?_ _ _) | (with_reducible refine Grew.drew ?_) | (with_reducible refine Grew.drewN ?_ _) | (with_reducible refine Grew.setCell ?_ ?_ _) | go_size)))⟩
  · have E : Hid (plv x y = (x - 30000, y - 30000)) := Lib.hid (if_neg h)
    rw [E.out]
    simp only
    by_cases h1 : x = 30000
    · have h2 : ¬ y - 30000 = 0 := by omega
      subst h1
      clear h
      go_enter Tryd.func19, Tryd.ntmps19
      go_wp2_with fail
      exact bodyPost_ret (v := .agg #[.int .i64 0, .int .i64 (y - 30000)]) (by simp [results, Tryd.results19, go_sem]) rfl ⟨rfl, (by (repeat' (first | (with_reducible exact Grew.refl _) | (with_reducible assumption) | (with_reducible refine Grew.alloc ?_ _ _) | (with_reducible refine Grew.drew ?_) | (with_reducible refine Grew.drewN ?_ _) | (with_reducible refine Grew.setCell ?_ ?_ _) | go_size)))⟩
    · have h2 : ¬ x - 30000 = 0 := by omega
      clear h
      go_enter Tryd.func19, Tryd.ntmps19
      go_wp2_with fail
      exact bodyPost_ret (v := .agg #[.int .i64 (x - 30000), .int .i64 (y - 30000)]) (by simp [results, Tryd.results19, go_sem]) rfl ⟨rfl, (by (repeat' (first | (with_reducible exact Grew.refl _) | (with_reducible assumption) | (with_reducible refine Grew.alloc ?_ _ _) | (with_reducible refine Grew.drew ?_) | (with_reducible refine Grew.drewN ?_ _) | (with_reducible refine Grew.setCell ?_ ?_ _) | go_size)))⟩
end Ry
end Go.Proofs.YtcihkpjdjenbjaaDoor
