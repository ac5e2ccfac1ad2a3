/-
  The landed Valid.
-/
import Derived.Test.YtpiajdahmcelnaaGreatMHullCf
namespace Go.Proofs.YtpiajdahmcelnaaGreat
open Go.RowKit Go.Shelf
namespace Hl
theorem vl_one {p : List Pt} (h : p.length = 1) (hp : Plcs p) : Vl p := ⟨⟨by omega, by omega⟩, hp, fun i h1 h2 => by omega, fun h => by omega⟩
theorem vl_two {p : List Pt} (h : p.length = 2) (hp : Plcs p) : Vl p ↔ ls (at' p 0) (at' p 1) :=
  ⟨fun hv => hv.2.2.1 1 (Nat.le_refl _) (by omega), fun hl => ⟨⟨by omega, by omega⟩, hp, fun i h1 h2 => by
    obtain rfl : i = 1 := by omega
    exact hl, fun h => by omega⟩⟩
theorem vl_three {p : List Pt} (h3 : 3 ≤ p.length) (h64 : p.length ≤ 64) (hp : Plcs p) : Vl p ↔ Goes p :=
  ⟨fun hv => cvx_goes h3 hp hv.2.2.1 (hv.2.2.2 (by omega)), fun hg => ⟨⟨by omega, h64⟩, hp, (goes_cvx h3 hp hg).1, fun _ => (goes_cvx h3 hp hg).2⟩⟩

set_option maxRecDepth 100000 in
set_option maxHeartbeats 2000000 in
theorem valid_c (p : List Pt) (v : Value) (w : World) (hs : Sl w v p) (hl : p.length ≤ 9223372036854775807) : Calls Tryz.prog 62 #[v] w (Tells (Vl p) w) := by
  by_cases h0 : p.length = 0
  · have H : Hid (¬ Vl p) := Lib.hid (fun h => by have := h.1.1; omega)
    obtain ⟨a, c, rfl⟩ := hs.shape
    rw [h0]
    clear hs h0
    go_enter Tryz.func62, Tryz.ntmps62
    go_wp2_with fail
    go_ret
    exact Tells.no H.out rfl (Grew.refl _)
  · obtain ⟨b, o, c, rfl, hr⟩ := hs.resolve_left (fun h => h0 (by rw [h.1]; rfl))
    by_cases h64 : 64 < p.length
    · have H : Hid (¬ Vl p) := Lib.hid (fun h => by have := h.1.2; omega)
      have nz : ((p.length : Int) == 0) = false := by rw [beq_eq_false_iff_ne]; omega
      clear hr hs
      go_enter Tryz.func62, Tryz.ntmps62
      go_wp2_with fail
      go_ret
      exact Tells.no H.out rfl (Grew.refl _)
    · have L64 : p.length ≤ 64 := by omega
      have nz : ((p.length : Int) == 0) = false := by rw [beq_eq_false_iff_ne]; omega
      have PA := Lib.hid (places_c p b o c w hr hl)
      have HR := Lib.hid hr
      clear hr hs h64
      by_cases hp : Plcs p
      · have PA : Hid (Calls Tryz.prog 55 #[.slice (some ⟨b, o, none⟩) p.length c] w fun e w' => e = .returned (.bool true) ∧ Grew w w') := Lib.hid (PA.out.mono (by
          rintro e w' ⟨r, rfl, hr, g⟩
          rw [hr.2 hp]
          exact ⟨rfl, g⟩))
        by_cases e1 : p.length = 1
        · have H := Lib.hid (vl_one e1 hp)
          clear hp
          rw [e1] at PA ⊢
          go_enter Tryz.func62, Tryz.ntmps62
          go_wp2_with fail
          refine PA.out.mono ?_
          rintro e w1 ⟨rfl, g1⟩
          go_wp2_with fail
          refine wp_region_held_drew (S := (fun _ => True)) (by kernel_rfl) (by trivial) (fun hHeld => ?_)
          refine wpAnyH_take (i := 0) (oi := ⟨some 19, _, _, _, _, _⟩) (v := ?_) rfl (by kernel_rfl) (by kernel_rfl) (by kernel_rfl) (fun _ _ _ h => h) (Or.inl ⟨by rfl, ?_⟩) (by assumption) ?_
          rotate_left
          · intro w hSw; (try dsimp only at hSw); go_simp; (try with_reducible rfl)
          try simp only [Act.put, List.setIfInBounds_toArray, List.set_cons_zero, List.set_cons_succ]
          refine wpAnyH_take (i := 1) (oi := ⟨some 20, _, _, _, _, _⟩) (v := ?_) rfl (by kernel_rfl) (by kernel_rfl) (by kernel_rfl) (fun _ _ _ h => h) (Or.inl ⟨by rfl, ?_⟩) (by assumption) ?_
          rotate_left
          · intro w hSw; (try dsimp only at hSw); go_simp; (try with_reducible rfl)
          try simp only [Act.put, List.setIfInBounds_toArray, List.set_cons_zero, List.set_cons_succ]
          refine wpAnyH_take (i := 2) (oi := ⟨some 21, _, _, _, _, _⟩) (v := ?_) rfl (by kernel_rfl) (by kernel_rfl) (by kernel_rfl) (fun _ _ _ h => h) (Or.inl ⟨by rfl, ?_⟩) (by assumption) ?_
          rotate_left
          · intro w hSw; (try dsimp only at hSw); go_simp; (try with_reducible rfl)
          try simp only [Act.put, List.setIfInBounds_toArray, List.set_cons_zero, List.set_cons_succ]
          refine wpAnyH_take (i := 3) (oi := ⟨some 22, _, _, _, _, _⟩) (v := ?_) rfl (by kernel_rfl) (by kernel_rfl) (by kernel_rfl) (fun _ _ _ h => h) (Or.inl ⟨by rfl, ?_⟩) (by assumption) ?_
          rotate_left
          · intro w hSw; (try dsimp only at hSw); go_simp; (try with_reducible rfl)
          try simp only [Act.put, List.setIfInBounds_toArray, List.set_cons_zero, List.set_cons_succ]
          refine wpAnyH_take (i := 4) (oi := ⟨some 23, _, _, _, _, _⟩) (v := undef) rfl (by kernel_rfl) (by kernel_rfl) (by kernel_rfl) (fun _ _ _ h => h) (Or.inr ⟨by rfl, rfl⟩) (by assumption) ?_
          try simp only [Act.put, List.setIfInBounds_toArray, List.set_cons_zero, List.set_cons_succ]
          refine wpAnyH_take (i := 5) (oi := ⟨some 24, _, _, _, _, _⟩) (v := undef) rfl (by kernel_rfl) (by kernel_rfl) (by kernel_rfl) (fun _ _ _ h => h) (Or.inr ⟨by rfl, rfl⟩) (by assumption) ?_
          try simp only [Act.put, List.setIfInBounds_toArray, List.set_cons_zero, List.set_cons_succ]
          refine wpAnyH_take (i := 6) (oi := ⟨some 25, _, _, _, _, _⟩) (v := undef) rfl (by kernel_rfl) (by kernel_rfl) (by kernel_rfl) (fun _ _ _ h => h) (Or.inr ⟨by rfl, rfl⟩) (by assumption) ?_
          try simp only [Act.put, List.setIfInBounds_toArray, List.set_cons_zero, List.set_cons_succ]
          refine wpAnyH_take (i := 7) (oi := ⟨some 26, _, _, _, _, _⟩) (v := undef) rfl (by kernel_rfl) (by kernel_rfl) (by kernel_rfl) (fun _ _ _ h => h) (Or.inr ⟨by rfl, rfl⟩) (by assumption) ?_
          try simp only [Act.put, List.setIfInBounds_toArray, List.set_cons_zero, List.set_cons_succ]
          refine wpAnyH_take (i := 8) (oi := ⟨some 27, _, _, _, _, _⟩) (v := undef) rfl (by kernel_rfl) (by kernel_rfl) (by kernel_rfl) (fun _ _ _ h => h) (Or.inr ⟨by rfl, rfl⟩) (by assumption) ?_
          try simp only [Act.put, List.setIfInBounds_toArray, List.set_cons_zero, List.set_cons_succ]
          refine wpAnyH_take (i := 9) (oi := ⟨some 28, _, _, _, _, _⟩) (v := undef) rfl (by kernel_rfl) (by kernel_rfl) (by kernel_rfl) (fun _ _ _ h => h) (Or.inr ⟨by rfl, rfl⟩) (by assumption) ?_
          try simp only [Act.put, List.setIfInBounds_toArray, List.set_cons_zero, List.set_cons_succ]
          refine wpAnyH_take (i := 10) (oi := ⟨some 29, _, _, _, _, _⟩) (v := undef) rfl (by kernel_rfl) (by kernel_rfl) (by kernel_rfl) (fun _ _ _ h => h) (Or.inr ⟨by rfl, rfl⟩) (by assumption) ?_
          try simp only [Act.put, List.setIfInBounds_toArray, List.set_cons_zero, List.set_cons_succ]
          refine wpAnyH_take (i := 11) (oi := ⟨some 30, _, _, _, _, _⟩) (v := ?_) rfl (by kernel_rfl) (by kernel_rfl) (by kernel_rfl) (fun _ _ _ h => h) (Or.inl ⟨by rfl, ?_⟩) (by assumption) ?_
          rotate_left
          · intro w hSw; (try dsimp only at hSw); go_simp; (try with_reducible rfl)
          try simp only [Act.put, List.setIfInBounds_toArray, List.set_cons_zero, List.set_cons_succ]
          refine wpAnyH_take (i := 12) (oi := ⟨some 2, _, _, _, _, _⟩) (v := ?_) rfl (by kernel_rfl) (by kernel_rfl) (by kernel_rfl) (fun _ _ _ h => h) (Or.inl ⟨by rfl, ?_⟩) (by assumption) ?_
          rotate_left
          · intro w hSw; (try dsimp only at hSw); go_simp; (try with_reducible rfl)
          try simp only [Act.put, List.setIfInBounds_toArray, List.set_cons_zero, List.set_cons_succ]
          refine wpAnyH_done (by kernel_rfl) ?_ _
          go_wp2_with fail
          go_ret
          exact Tells.yes H.out rfl g1.drew
        · by_cases e2 : p.length = 2
          · have H := Lib.hid (vl_two e2 hp)
            have LC : Hid (∀ w, Calls Tryz.prog 81 #[.agg #[.int .i64 (at' p 0).1, .int .i64 (at' p 0).2], .agg #[.int .i64 (at' p 1).1, .int .i64 (at' p 1).2]] w fun e w' => e = .returned (.bool (decide (ls (at' p 0) (at' p 1)))) ∧ (w.alloc (.cells #[.int .i64 (at' p 0).1, .int .i64 (at' p 0).2] 30)).alloc (.cells #[.int .i64 (at' p 1).1, .int .i64 (at' p 1).2] 30) = w') := Lib.hid (fun w => less_c _ _ w)
            generalize hq : decide (ls (at' p 0) (at' p 1)) = q at LC
            have HQ : Hid (q = true ↔ Vl p) := Lib.hid (by rw [H.out, ← hq, decide_eq_true_eq])
            clear hp hq
            have HR2 : Hid (∀ W, Grew w W → ((W.cell? ⟨b, o, none⟩ = some (.int .i64 (at' p 0).1) ∧ W.cell? ⟨b, o + 1, none⟩ = some (.int .i64 (at' p 0).2)) ∧ W.cell? ⟨b, o + 2, none⟩ = some (.int .i64 (at' p 1).1) ∧ W.cell? ⟨b, o + 2 + 1, none⟩ = some (.int .i64 (at' p 1).2)) ∧ b < W.heap.size) := Lib.hid (fun W g => by
              have h0 := (HR.out.grown g).2 0 (by omega)
              have h1 := (HR.out.grown g).2 1 (by omega)
              rw [Nat.zero_mul, Nat.add_zero] at h0
              rw [Nat.one_mul] at h1
              exact ⟨⟨h0, h1⟩, (HR.out.grown g).1⟩)
            rw [e2] at PA ⊢
            clear H
            go_enter Tryz.func62, Tryz.ntmps62
            go_wp2_with fail
            refine PA.out.mono ?_
            rintro e w1 ⟨rfl, g1⟩
            obtain ⟨⟨⟨c0, c1⟩, c2, c3⟩, hb⟩ := HR2.out w1 g1
            have hb1 : b < w1.heap.size + 1 := by omega
            go_wp2_with fail
            refine wp_region_held_drew (S := (fun w' => (w'.cell? ⟨b, o, none⟩ = some (.int .i64 (at' p 0).1) ∧ w'.cell? ⟨b, o + 1, none⟩ = some (.int .i64 (at' p 0).2)) ∧ w'.cell? ⟨b, o + 2, none⟩ = some (.int .i64 (at' p 1).1) ∧ w'.cell? ⟨b, o + 2 + 1, none⟩ = some (.int .i64 (at' p 1).2))) (by kernel_rfl) (by simp [go_sem, *]) (fun hHeld => ?_)
            refine wpAnyH_take (i := 0) (oi := ⟨some 19, _, _, _, _, _⟩) (v := ?_) rfl (by kernel_rfl) (by kernel_rfl) (by kernel_rfl) (fun _ _ _ h => h) (Or.inl ⟨by rfl, ?_⟩) (by assumption) ?_
            rotate_left
            · intro w hSw; (try dsimp only at hSw); go_simp; (try with_reducible rfl)
            try simp only [Act.put, List.setIfInBounds_toArray, List.set_cons_zero, List.set_cons_succ]
            refine wpAnyH_take (i := 1) (oi := ⟨some 20, _, _, _, _, _⟩) (v := ?_) rfl (by kernel_rfl) (by kernel_rfl) (by kernel_rfl) (fun _ _ _ h => h) (Or.inl ⟨by rfl, ?_⟩) (by assumption) ?_
            rotate_left
            · intro w hSw; (try dsimp only at hSw); go_simp; (try with_reducible rfl)
            try simp only [Act.put, List.setIfInBounds_toArray, List.set_cons_zero, List.set_cons_succ]
            refine wpAnyH_take (i := 2) (oi := ⟨some 21, _, _, _, _, _⟩) (v := ?_) rfl (by kernel_rfl) (by kernel_rfl) (by kernel_rfl) (fun _ _ _ h => h) (Or.inl ⟨by rfl, ?_⟩) (by assumption) ?_
            rotate_left
            · intro w hSw; (try dsimp only at hSw); go_simp; (try with_reducible rfl)
            try simp only [Act.put, List.setIfInBounds_toArray, List.set_cons_zero, List.set_cons_succ]
            refine wpAnyH_take (i := 3) (oi := ⟨some 22, _, _, _, _, _⟩) (v := ?_) rfl (by kernel_rfl) (by kernel_rfl) (by kernel_rfl) (fun _ _ _ h => h) (Or.inl ⟨by rfl, ?_⟩) (by assumption) ?_
            rotate_left
            · intro w hSw; (try dsimp only at hSw); go_simp; (try with_reducible rfl)
            try simp only [Act.put, List.setIfInBounds_toArray, List.set_cons_zero, List.set_cons_succ]
            refine wpAnyH_take (i := 4) (oi := ⟨some 23, _, _, _, _, _⟩) (v := ?_) rfl (by kernel_rfl) (by kernel_rfl) (by kernel_rfl) (fun _ _ _ h => h) (Or.inl ⟨by rfl, ?_⟩) (by assumption) ?_
            rotate_left
            · intro w hSw; (try dsimp only at hSw); go_simp; (try with_reducible rfl)
            try simp only [Act.put, List.setIfInBounds_toArray, List.set_cons_zero, List.set_cons_succ]
            refine wpAnyH_take (i := 5) (oi := ⟨some 24, _, _, _, _, _⟩) (v := ?_) rfl (by kernel_rfl) (by kernel_rfl) (by kernel_rfl) (fun _ _ _ h => h) (Or.inl ⟨by rfl, ?_⟩) (by assumption) ?_
            rotate_left
            · intro w hSw; (try dsimp only at hSw); go_simp; (try with_reducible rfl)
            try simp only [Act.put, List.setIfInBounds_toArray, List.set_cons_zero, List.set_cons_succ]
            refine wpAnyH_take (i := 6) (oi := ⟨some 25, _, _, _, _, _⟩) (v := ?_) rfl (by kernel_rfl) (by kernel_rfl) (by kernel_rfl) (fun _ _ _ h => h) (Or.inl ⟨by rfl, ?_⟩) (by assumption) ?_
            rotate_left
            · intro w hSw; (try dsimp only at hSw); go_simp; (try with_reducible rfl)
            try simp only [Act.put, List.setIfInBounds_toArray, List.set_cons_zero, List.set_cons_succ]
            refine wpAnyH_take (i := 7) (oi := ⟨some 26, _, _, _, _, _⟩) (v := ?_) rfl (by kernel_rfl) (by kernel_rfl) (by kernel_rfl) (fun _ _ _ h => h) (Or.inl ⟨by rfl, ?_⟩) (by assumption) ?_
            rotate_left
            · intro w hSw; (try dsimp only at hSw); go_simp; (try with_reducible rfl)
            try simp only [Act.put, List.setIfInBounds_toArray, List.set_cons_zero, List.set_cons_succ]
            refine wpAnyH_take (i := 8) (oi := ⟨some 27, _, _, _, _, _⟩) (v := ?_) rfl (by kernel_rfl) (by kernel_rfl) (by kernel_rfl) (fun _ _ _ h => h) (Or.inl ⟨by rfl, ?_⟩) (by assumption) ?_
            rotate_left
            · intro w hSw; (try dsimp only at hSw); go_simp; (try with_reducible rfl)
            try simp only [Act.put, List.setIfInBounds_toArray, List.set_cons_zero, List.set_cons_succ]
            refine wpAnyH_take (i := 9) (oi := ⟨some 28, _, _, _, _, _⟩) (v := ?_) rfl (by kernel_rfl) (by kernel_rfl) (by kernel_rfl) (fun _ _ _ h => h) (Or.inl ⟨by rfl, ?_⟩) (by assumption) ?_
            rotate_left
            · intro w hSw; (try dsimp only at hSw); go_simp; (try with_reducible rfl)
            try simp only [Act.put, List.setIfInBounds_toArray, List.set_cons_zero, List.set_cons_succ]
            refine wpAnyH_ready (rs := [10]) (by kernel_rfl) (by simp) ?_
            refine AllReadyH.cons (o := ⟨some 29, _, _, _, _, _⟩) rfl (fun K hK => ?_) AllReadyH.nil
            go_simp
            refine (LC.out _).mono ?_
            rintro e w' ⟨rfl, rfl⟩
            go_wp2_with fail
            refine hK.out _ _ (by (try dsimp only); simp [go_sem, *]) (fun h1 => ?_)
            clear hK K hHeld
            have hHeld := h1
            clear h1
            try simp only [Act.put, List.setIfInBounds_toArray, List.set_cons_zero, List.set_cons_succ]
            refine wpAnyH_take (i := 11) (oi := ⟨some 30, _, _, _, _, _⟩) (v := ?_) rfl (by kernel_rfl) (by kernel_rfl) (by kernel_rfl) (fun _ _ _ h => h) (Or.inl ⟨by rfl, ?_⟩) (by assumption) ?_
            rotate_left
            · intro w hSw; (try dsimp only at hSw); go_simp; (try with_reducible rfl)
            try simp only [Act.put, List.setIfInBounds_toArray, List.set_cons_zero, List.set_cons_succ]
            refine wpAnyH_take (i := 12) (oi := ⟨some 2, _, _, _, _, _⟩) (v := ?_) rfl (by kernel_rfl) (by kernel_rfl) (by kernel_rfl) (fun _ _ _ h => h) (Or.inl ⟨by rfl, ?_⟩) (by assumption) ?_
            rotate_left
            · intro w hSw; (try dsimp only at hSw); go_simp; (try with_reducible rfl)
            try simp only [Act.put, List.setIfInBounds_toArray, List.set_cons_zero, List.set_cons_succ]
            refine wpAnyH_done (by kernel_rfl) ?_ _
            go_wp2_with fail
            go_ret
            exact ⟨q, rfl, HQ.out, by (repeat' (first | (with_reducible exact Grew.refl _) | (with_reducible assumption) | (with_reducible refine Grew.alloc ?_ _ _) | (with_reducible refine Grew.drew ?_) | (with_reducible refine Grew.drewN ?_ _) | (with_reducible refine Grew.setCell ?_ ?_ _) | go_size))⟩
          · have H := Lib.hid (vl_three (show 3 ≤ p.length by omega) L64 hp)
            have GC : Hid (∀ W, Grew w W → Calls Tryz.prog 82 #[.slice (some ⟨b, o, none⟩) p.length c] W (Tells (Goes p) W)) := Lib.hid (fun W g => goes_c p b o c W (HR.out.grown g) hp (by omega) (by omega))
            have n2 : ¬ p.length ≤ 2 := by omega
            clear hp
            go_enter Tryz.func62, Tryz.ntmps62
            go_wp2_with fail
            refine PA.out.mono ?_
            rintro e w1 ⟨rfl, g1⟩
            go_wp2_with fail
            refine (GC.out _ g1).mono ?_
            rintro e w2 ⟨r, rfl, hr, g2⟩
            have HG := Lib.hid hr
            clear hr
            go_wp2_with fail
            go_ret
            exact ⟨r, rfl, HG.out.trans H.out.symm, g1.trans g2⟩
      · have H : Hid (¬ Vl p) := Lib.hid (fun h => hp h.2.1)
        have PA : Hid (Calls Tryz.prog 55 #[.slice (some ⟨b, o, none⟩) p.length c] w fun e w' => e = .returned (.bool false) ∧ Grew w w') := Lib.hid (PA.out.mono (by
          rintro e w' ⟨r, rfl, hr, g⟩
          cases r
          · exact ⟨rfl, g⟩
          · exact absurd (hr.1 rfl) hp))
        clear hp
        go_enter Tryz.func62, Tryz.ntmps62
        go_wp2_with fail
        refine PA.out.mono ?_
        rintro e w1 ⟨rfl, g1⟩
        go_wp2_with fail
        go_ret
        exact Tells.no H.out rfl g1
end Hl
end Go.Proofs.YtpiajdahmcelnaaGreat
