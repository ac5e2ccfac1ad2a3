/-
  The law CutKeeps, under what packages hull and cut owe.
-/
import Derived.Test.YtmijlfbmmegfbaaCutLm
namespace Go.Proofs.Ytmijlfbmmegfbaa
open Go.RowKit Hl
namespace Ct
def ab (n : Int) : Int := if 0 ≤ n then n else -n
theorem ab_le (n : Int) : n ≤ ab n ∧ -n ≤ ab n := by unfold ab; split <;> omega
theorem abs_c (n : Int) (W : World) (h : -1000000 ≤ n ∧ n ≤ 1000000) : Calls Try.prog 14 #[.int .i64 n] W fun e w' => e = .returned (.int .i64 (ab n)) ∧ W = w' := by
  obtain ⟨h0, h1⟩ := h
  go_enter Try.func14, Try.ntmps14
  go_wp2_with fail
  all_goals
    go_ret
    first
      | exact ⟨congrArg (fun r => Ending.returned (.int .i64 r)) (show -n = ab n by unfold ab; split <;> omega), rfl⟩
      | exact ⟨congrArg (fun r => Ending.returned (.int .i64 r)) (show n = ab n by unfold ab; split <;> omega), rfl⟩
/-- A frame is not farther from the edge than one step in X and one in Y. -/
theorem left_over {p : List Pt} {h : Hf} {y : Pt} (hy : LeftS p h y) : ov h y ≤ ab h.1 + ab h.2.1 := by
  have a1 := ab_le h.1
  have a2 := ab_le h.2.1
  rcases hy with ⟨i, hi, rfl, g⟩ | ⟨i, hi, m, n, ⟨hm, hn, hw⟩, ⟨d1, d2⟩, d3, d4⟩
  · omega
  · generalize at' p i = a at *
    generalize at' p ((i + 1) % p.length) = b at *
    have z : m * ov h a + n * ov h b = 0 := by
      rcases hw with ⟨e1, e2⟩ | ⟨e1, e2⟩ <;> (rw [e1, e2]; grind)
    have e : (m + n) * ov h y = h.1 * (y.1 * (m + n) - (m * a.1 + n * b.1)) + h.2.1 * (y.2 * (m + n) - (m * a.2 + n * b.2)) + (m * ov h a + n * ov h b) := by unfold ov; grind
    rw [z] at e
    generalize y.1 * (m + n) - (m * a.1 + n * b.1) = u at *
    generalize y.2 * (m + n) - (m * a.2 + n * b.2) = v at *
    have bd : ∀ A G N U : Int, A ≤ G → -A ≤ G → -N < U → U < N → A * U ≤ G * N := by
      intro A G N U k1 k2 k3 k4
      have q1 := Int.mul_nonneg (show 0 ≤ G - A by omega) (show 0 ≤ N + U by omega)
      have q2 := Int.mul_nonneg (show 0 ≤ G + A by omega) (show 0 ≤ N - U by omega)
      have e1 : (G - A) * (N + U) + (G + A) * (N - U) = 2 * (G * N) - 2 * (A * U) := by grind
      omega
    have b1 := bd h.1 (ab h.1) (m + n) u a1.1 a1.2 d1 d2
    have b2 := bd h.2.1 (ab h.2.1) (m + n) v a2.1 a2.2 d3 d4
    have e3 : (m + n) * (ab h.1 + ab h.2.1) = ab h.1 * (m + n) + ab h.2.1 * (m + n) := by grind
    exact Int.le_of_mul_le_mul_left (show (m + n) * ov h y ≤ (m + n) * (ab h.1 + ab h.2.1) by omega) (by omega)
theorem left_box {p : List Pt} (hp : Pg p) {lo hi : Pt} (b : IsBox p lo hi) {h : Hf} {y : Pt} (hy : LeftS p h y) : (lo.1 ≤ y.1 ∧ y.1 ≤ hi.1) ∧ lo.2 ≤ y.2 ∧ y.2 ≤ hi.2 := by
  rcases hy with ⟨i, hi', rfl, _⟩ | ⟨i, hi', g⟩
  · have a := box_has hp b (hs_corner hp hi')
    omega
  · exact frame_box hp b hi' g
set_option maxRecDepth 100000 in
set_option maxHeartbeats 16000000 in
theorem keeps_walk (C : Code) (p m : List Pt) (h : Hf) (x : Pt) (b o c : Nat) (w : World) (sm h1 h2 : Bool) (ee : Int) (hsome : Got3 sm h1 h2) (hee : Err3 ee h1 h2) (hwf : WF h) (h50 : (p.length : Int) ≤ 50) (hml : m.length ≤ 64) (hm0 : if sm = true then 0 < m.length else m = [])
    (CC : Hid (∀ W, Grew w W → Calls Try.prog 10 #[.slice (some ⟨b, o, none⟩) p.length c, .agg #[.int .i64 h.1, .int .i64 h.2.1, .int .i64 h.2.2]] W fun e w1 => ∃ vl, e = .returned (.tuple #[vl, .bool sm, .int .i64 0]) ∧ Hid (Sl w1 vl m) ∧ Grew W w1))
    (BP : Hid (∀ W, Grew w W → Calls Try.prog 11 #[.slice (some ⟨b, o, none⟩) p.length c] W fun e w' => ∃ lo hi : Pt, e = .returned (.tuple #[.agg #[.int .i64 lo.1, .int .i64 lo.2], .agg #[.int .i64 hi.1, .int .i64 hi.2], .int .i64 0]) ∧ Hid (∀ k, k < m.length → (lo.1 ≤ (at' m k).1 ∧ (at' m k).1 ≤ hi.1) ∧ lo.2 ≤ (at' m k).2 ∧ (at' m k).2 ≤ hi.2) ∧ Grew W w'))
    (VM : Hid (sm = true → ∀ W vl, Sl W vl m → Calls Try.prog 12 #[vl] W fun e w' => e = .returned (.bool true) ∧ Grew W w'))
    (QV : Hid (∀ k, k < m.length → ov h (at' m k) ≤ ab h.1 + ab h.2.1))
    (OV : Hid (∀ k W, k < m.length → Calls Try.prog 13 #[.agg #[.int .i64 h.1, .int .i64 h.2.1, .int .i64 h.2.2], .agg #[.int .i64 (at' m k).1, .int .i64 (at' m k).2]] W fun e w' => e = .returned (.int .i64 (ov h (at' m k))) ∧ (W.alloc (.cells #[.int .i64 h.1, .int .i64 h.2.1, .int .i64 h.2.2] 24)).alloc (.cells #[.int .i64 (at' m k).1, .int .i64 (at' m k).2] 26) = w'))
    (HP : Hid (∀ W, Grew w W → Calls Try.prog 15 #[.slice (some ⟨b, o, none⟩) p.length c, .agg #[.int .i64 x.1, .int .i64 x.2]] W fun e w' => e = .returned (.tuple #[.bool h1, .int .i64 ee]) ∧ Grew W w'))
    (HI : Hid (∀ W, Grew w W → Calls Try.prog 16 #[.agg #[.int .i64 h.1, .int .i64 h.2.1, .int .i64 h.2.2], .agg #[.int .i64 x.1, .int .i64 x.2]] W fun e w' => e = .returned (.tuple #[.bool h2, .int .i64 ee]) ∧ Grew W w'))
    (HM : Hid (Both2 h1 h2 → ∀ W vl, Grew w W → Sl W vl m → Calls Try.prog 15 #[vl, .agg #[.int .i64 x.1, .int .i64 x.2]] W fun e w' => e = .returned (.tuple #[.bool true, .int .i64 0]) ∧ Grew W w')) :
    Calls Try.prog 3 #[.slice (some ⟨b, o, none⟩) p.length c, .agg #[.int .i64 h.1, .int .i64 h.2.1, .int .i64 h.2.2], .agg #[.int .i64 x.1, .int .i64 x.2]] w fun e w' => e = .returned (.bool true) ∧ Grew w w' := by
  have SO := Lib.hid hsome
  have EE := Lib.hid hee
  have ABS : Hid (∀ (n : Int) (W : World), (-1000000 ≤ n ∧ n ≤ 1000000) → Calls Try.prog 14 #[.int .i64 n] W fun e w' => e = .returned (.int .i64 (ab n)) ∧ W = w') := Lib.hid abs_c
  have BA : Hid (-1000000 ≤ h.1 ∧ h.1 ≤ 1000000) := Lib.hid hwf.1.1
  have BB : Hid (-1000000 ≤ h.2.1 ∧ h.2.1 ≤ 1000000) := Lib.hid hwf.1.2.1
  have W64 : IntKind.i64.wrap (ab h.1 + ab h.2.1) = ab h.1 + ab h.2.1 := by
    have := hwf.1
    refine IntWalk.i64_in _ ⟨?_, ?_⟩ <;> (unfold ab; split <;> split <;> omega)
  have HH := Lib.hid (((Blk.new w #[.int .i64 h.1, .int .i64 h.2.1, .int .i64 h.2.2] 24)).alloc (.cells #[.int .i64 x.1, .int .i64 x.2] 26))
  have HX := Lib.hid (by have g := Blk.new (w.alloc (.cells #[.int .i64 h.1, .int .i64 h.2.1, .int .i64 h.2.2] 24)) #[.int .i64 x.1, .int .i64 x.2] 26; rw [World.size_alloc] at g; exact g)
  have MZ := Lib.hid hm0
  clear hsome hee hwf hm0
  go_enter Try.func3, Try.ntmps3
  go_wp2_with fail
  refine (head_true C _).mono ?_
  rintro e v1 ⟨rfl, g1⟩
  have G1 : Grew w v1 := Grew.trans (((Grew.refl _).alloc _ _).alloc _ _) g1
  have HH := Lib.hid (HH.out.grown g1)
  have HX := Lib.hid (HX.out.grown g1)
  obtain ⟨h0, h0', h0''⟩ := blk3 HH.out
  have lh := HH.out.lt
  clear g1
  go_wp2_with fail
  refine (CC.out _ G1).mono ?_
  rintro e v2 ⟨vl, rfl, SL, g2⟩
  have G2 : Grew w v2 := Grew.trans G1 g2
  have HH := Lib.hid (HH.out.grown g2)
  have HX := Lib.hid (HX.out.grown g2)
  obtain ⟨ma, mc, rfl⟩ := SL.out.shape
  clear g2 G1 CC h0 h0' h0'' lh
  go_wp2_with fail
  refine (BP.out _ G2).mono ?_
  rintro e v5 ⟨lo, hi, rfl, WN, g5⟩
  have G5 : Grew w v5 := Grew.trans G2 g5
  have XL := Lib.hid ((Blk.new v5 #[.int .i64 lo.1, .int .i64 lo.2] 26).alloc (.cells #[.int .i64 hi.1, .int .i64 hi.2] 26))
  have XH := Lib.hid (show Blk ((v5.alloc (.cells #[.int .i64 lo.1, .int .i64 lo.2] 26)).alloc (.cells #[.int .i64 hi.1, .int .i64 hi.2] 26)) (v5.heap.size + 1) #[.int .i64 hi.1, .int .i64 hi.2] 26 from by have g := Blk.new (v5.alloc (.cells #[.int .i64 lo.1, .int .i64 lo.2] 26)) #[.int .i64 hi.1, .int .i64 hi.2] 26; rw [World.size_alloc] at g; exact g)
  have D := Lib.hid (show Grew v5 ((v5.alloc (.cells #[.int .i64 lo.1, .int .i64 lo.2] 26)).alloc (.cells #[.int .i64 hi.1, .int .i64 hi.2] 26)) from ((Grew.refl _).alloc _ _).alloc _ _)
  have HH := Lib.hid ((HH.out.grown g5).grown D.out)
  have HX := Lib.hid ((HX.out.grown g5).grown D.out)
  have SL := Lib.hid ((SL.out.grown g5).grown D.out)
  have G5 := Grew.trans G5 D.out
  clear g5 G2 BP D
  cases sm
  · have MZ1 : ¬ ((m.length : Int) > 0) := by rw [show m = [] from MZ.out]; decide
    go_wp2_with fail
    go_loopw [7, 75] (fun u i wr => ∃ k : Nat, k ≤ m.length ∧ u = .bool true ∧ i = .int .i64 k ∧ Grew w wr ∧ Hid (Sl wr (.slice ma m.length mc) m ∧ (Blk wr w.heap.size #[.int .i64 h.1, .int .i64 h.2.1, .int .i64 h.2.2] 24 ∧ Blk wr (w.heap.size + 1) #[.int .i64 x.1, .int .i64 x.2] 26) ∧ Blk wr v5.heap.size #[.int .i64 lo.1, .int .i64 lo.2] 26 ∧ Blk wr (v5.heap.size + 1) #[.int .i64 hi.1, .int .i64 hi.2] 26)) (fun _ i _ => m.length - (intOf i).toNat)
    case atStart => exact ⟨0, Nat.zero_le _, rfl, rfl, G5, Lib.hid ⟨SL.out, ⟨HH.out, HX.out⟩, XL.out, XH.out⟩⟩
    case round =>
      clear G5 SL HX HH XL XH
      obtain ⟨k, hk, rfl, rfl, G, HW⟩ := hrel
      by_cases hlt : k < m.length
      · exact absurd hlt (by rw [show m = [] from MZ.out]; exact Nat.not_lt_zero _)
      · obtain rfl : k = m.length := by omega
        obtain ⟨x0, x1⟩ := blk2 HW.out.2.1.2
        have lx := HW.out.2.1.2.lt
        go_wp2_with fail
        refine (HP.out _ G).mono ?_
        rintro e v6 ⟨rfl, g6⟩
        have G6 : Grew w v6 := Grew.trans G g6
        have HV := Lib.hid (And.intro (HW.out.1.grown g6) (And.intro (HW.out.2.1.1.grown g6) (HW.out.2.1.2.grown g6)))
        clear g6 G x0 x1 lx HW OV ABS
        obtain ⟨x0, x1⟩ := blk2 HV.out.2.2
        obtain ⟨a0, a1, a2⟩ := blk3 HV.out.2.1
        have lx := HV.out.2.2.lt
        have la := HV.out.2.1.lt
        go_wp2_with fail
        refine (HI.out _ G6).mono ?_
        rintro e v7 ⟨rfl, g7⟩
        have G7 : Grew w v7 := Grew.trans G6 g7
        have HY := Lib.hid (And.intro (HV.out.1.grown g7) (HV.out.2.2.grown g7))
        clear g7 G6 x0 x1 lx a0 a1 a2 la HV HP HI
        obtain ⟨x0, x1⟩ := blk2 HY.out.2
        have lx := HY.out.2.lt
        rcases EE.out with rfl | ⟨rfl, rfl, rfl⟩
        · cases h1
          · go_wp2_with fail
            go_ret
            exact ⟨rfl, G7⟩
          · cases h2
            · go_wp2_with fail
              go_ret
              exact ⟨rfl, G7⟩
            · exact absurd ((show Got3 false true true from SO.out) rfl rfl) (by decide)
        · go_wp2_with fail
          go_ret
          exact ⟨rfl, G7⟩
  · have MZ1 : 0 < m.length := MZ.out
    have MZ2 : (m.length : Int) > 0 := by omega
    have VM1 := Lib.hid (VM.out rfl)
    clear VM MZ
    go_wp2_with fail
    refine (VM1.out _ _ SL.out).mono ?_
    rintro e v6 ⟨rfl, g6⟩
    have G6 := Grew.trans G5 g6
    have HH := Lib.hid (HH.out.grown g6)
    have HX := Lib.hid (HX.out.grown g6)
    have SL := Lib.hid (SL.out.grown g6)
    have XL := Lib.hid (XL.out.grown g6)
    have XH := Lib.hid (XH.out.grown g6)
    clear g6 G5
    go_wp2_with fail
    go_loopw [7, 75] (fun u i wr => ∃ k : Nat, k ≤ m.length ∧ u = .bool true ∧ i = .int .i64 k ∧ Grew w wr ∧ Hid (Sl wr (.slice ma m.length mc) m ∧ (Blk wr w.heap.size #[.int .i64 h.1, .int .i64 h.2.1, .int .i64 h.2.2] 24 ∧ Blk wr (w.heap.size + 1) #[.int .i64 x.1, .int .i64 x.2] 26) ∧ Blk wr v5.heap.size #[.int .i64 lo.1, .int .i64 lo.2] 26 ∧ Blk wr (v5.heap.size + 1) #[.int .i64 hi.1, .int .i64 hi.2] 26)) (fun _ i _ => m.length - (intOf i).toNat)
    case atStart => exact ⟨0, Nat.zero_le _, rfl, rfl, G6, Lib.hid ⟨SL.out, ⟨HH.out, HX.out⟩, XL.out, XH.out⟩⟩
    case round =>
      clear G6 SL HX HH XL XH
      obtain ⟨k, hk, rfl, rfl, G, HW⟩ := hrel
      by_cases hlt : k < m.length
      · obtain ⟨mb, mo, rfl, row⟩ := sl_some HW.out.1 (by omega)
        obtain ⟨q0, q1⟩ := row.2 k hlt
        obtain ⟨⟨n0, n1⟩, n2, n3⟩ := WN.out k hlt
        obtain ⟨a0, a1, a2⟩ := blk3 HW.out.2.1.1
        obtain ⟨l0, l1⟩ := blk2 HW.out.2.2.1
        obtain ⟨u0, u1⟩ := blk2 HW.out.2.2.2
        have la := HW.out.2.1.1.lt
        have ll := HW.out.2.2.1.lt
        have lu := HW.out.2.2.2.lt
        have la1 : w.heap.size < wr.heap.size + 1 := by omega
        have la2 : w.heap.size < wr.heap.size + 1 + 1 := by omega
        have la3 : w.heap.size < wr.heap.size + 1 + 1 + 1 := by omega
        have ll1 : v5.heap.size < wr.heap.size + 1 := by omega
        have ll2 : v5.heap.size < wr.heap.size + 1 + 1 := by omega
        have ll3 : v5.heap.size < wr.heap.size + 1 + 1 + 1 := by omega
        have lu1 : v5.heap.size + 1 < wr.heap.size + 1 := by omega
        have lu2 : v5.heap.size + 1 < wr.heap.size + 1 + 1 := by omega
        have lu3 : v5.heap.size + 1 < wr.heap.size + 1 + 1 + 1 := by omega
        have OVk := Lib.hid (fun W => OV.out k W hlt)
        have QVk := QV.out k hlt
        have i0 : (0 : Int) ≤ (k : Int) := by omega
        have i1 : (k : Int) < (m.length : Int) := by omega
        clear row
        go_wp2_with fail
        go_region_held3 (fun w' => (w'.cell? ⟨w.heap.size, 0, none⟩ = some (.int .i64 h.1) ∧ w'.cell? ⟨w.heap.size, 1, none⟩ = some (.int .i64 h.2.1) ∧ w'.cell? ⟨w.heap.size, 2, none⟩ = some (.int .i64 h.2.2)) ∧ (w'.cell? ⟨v5.heap.size, 0, none⟩ = some (.int .i64 lo.1) ∧ w'.cell? ⟨v5.heap.size, 1, none⟩ = some (.int .i64 lo.2)) ∧ (w'.cell? ⟨v5.heap.size + 1, 0, none⟩ = some (.int .i64 hi.1) ∧ w'.cell? ⟨v5.heap.size + 1, 1, none⟩ = some (.int .i64 hi.2)) ∧ (w'.cell? ⟨wr.heap.size, 0, none⟩ = some (.int .i64 (at' m k).1) ∧ w'.cell? ⟨wr.heap.size, 1, none⟩ = some (.int .i64 (at' m k).2))) (first | (simp only [World.cell?_drew]; simp [go_sem, *]) | simp [go_sem, *])
          (first | (go_at_call 13; refine (OVk.out _).mono ?_; rintro e w' ⟨rfl, rfl⟩) | (go_at_call 14; refine (ABS.out _ _ (by first | exact BA.out | exact BB.out)).mono ?_; rintro e w' ⟨rfl, rfl⟩))
        go_wp2_with fail
        go_roundw
        case rel => exact ⟨k + 1, by omega, by simp, by go_num, (by (repeat' (first | (with_reducible exact Grew.refl _) | (with_reducible assumption) | (with_reducible refine Grew.alloc ?_ _ _) | (with_reducible refine Grew.drew ?_) | (with_reducible refine Grew.drewN ?_ _) | (with_reducible refine Grew.setCell ?_ ?_ _) | go_size))), Lib.hid (have D : Grew wr _ := (by (repeat' (first | (with_reducible exact Grew.refl _) | (with_reducible assumption) | (with_reducible refine Grew.alloc ?_ _ _) | (with_reducible refine Grew.drew ?_) | (with_reducible refine Grew.drewN ?_ _) | (with_reducible refine Grew.setCell ?_ ?_ _) | go_size))); ⟨HW.out.1.grown D, ⟨HW.out.2.1.1.grown D, HW.out.2.1.2.grown D⟩, HW.out.2.2.1.grown D, HW.out.2.2.2.grown D⟩)⟩
        case measure => simp [intOf]; omega
      · obtain rfl : k = m.length := by omega
        obtain ⟨x0, x1⟩ := blk2 HW.out.2.1.2
        have lx := HW.out.2.1.2.lt
        go_wp2_with fail
        refine (HP.out _ G).mono ?_
        rintro e v6 ⟨rfl, g6⟩
        have G6 : Grew w v6 := Grew.trans G g6
        have HV := Lib.hid (And.intro (HW.out.1.grown g6) (And.intro (HW.out.2.1.1.grown g6) (HW.out.2.1.2.grown g6)))
        clear g6 G x0 x1 lx HW OV ABS
        obtain ⟨x0, x1⟩ := blk2 HV.out.2.2
        obtain ⟨a0, a1, a2⟩ := blk3 HV.out.2.1
        have lx := HV.out.2.2.lt
        have la := HV.out.2.1.lt
        go_wp2_with fail
        refine (HI.out _ G6).mono ?_
        rintro e v7 ⟨rfl, g7⟩
        have G7 : Grew w v7 := Grew.trans G6 g7
        have HY := Lib.hid (And.intro (HV.out.1.grown g7) (HV.out.2.2.grown g7))
        clear g7 G6 x0 x1 lx a0 a1 a2 la HV HP HI
        obtain ⟨x0, x1⟩ := blk2 HY.out.2
        have lx := HY.out.2.lt
        rcases EE.out with rfl | ⟨rfl, rfl, rfl⟩
        · cases h1
          · go_wp2_with fail
            go_ret
            exact ⟨rfl, G7⟩
          · cases h2
            · go_wp2_with fail
              go_ret
              exact ⟨rfl, G7⟩
            · have HM1 := Lib.hid (HM.out ⟨rfl, rfl⟩)
              clear HM
              go_wp2_with fail
              refine (HM1.out _ _ G7 HY.out.1).mono ?_
              rintro e v8 ⟨rfl, g8⟩
              have G8 : Grew w v8 := Grew.trans G7 g8
              clear g8 G7 x0 x1 lx HY HM1
              go_wp2_with fail
              go_ret
              exact ⟨rfl, G8⟩
        · go_wp2_with fail
          go_ret
          exact ⟨rfl, G7⟩
set_option maxRecDepth 100000 in
theorem keeps_big (C : Code) (p : List Pt) (h : Hf) (x : Pt) (sa : Option Addr) (sc : Nat) (w : World) (h50 : (p.length : Int) > 50) :
    Calls Try.prog 3 #[.slice sa p.length sc, .agg #[.int .i64 h.1, .int .i64 h.2.1, .int .i64 h.2.2], .agg #[.int .i64 x.1, .int .i64 x.2]] w fun e w' => e = .returned (.bool true) ∧ Grew w w' := by
  generalize p.length = n at *
  have HH := Lib.hid (((Blk.new w #[.int .i64 h.1, .int .i64 h.2.1, .int .i64 h.2.2] 24)).alloc (.cells #[.int .i64 x.1, .int .i64 x.2] 26))
  go_enter Try.func3, Try.ntmps3
  go_wp2_with fail
  refine (head_true C _).mono ?_
  rintro e v1 ⟨rfl, g1⟩
  have G1 : Grew w v1 := Grew.trans (((Grew.refl _).alloc _ _).alloc _ _) g1
  have HH := Lib.hid (HH.out.grown g1)
  obtain ⟨h0, h0', h0''⟩ := blk3 HH.out
  have lh := HH.out.lt
  clear g1
  go_wp2_with fail
  go_ret
  exact ⟨rfl, G1⟩
set_option maxRecDepth 100000 in
theorem keeps_bad (C : Code) (p : List Pt) (h : Hf) (x : Pt) (sa : Option Addr) (sc : Nat) (w : World) (h50 : ¬ (p.length : Int) > 50)
    (CC : Hid (∀ W, Grew w W → Calls Try.prog 10 #[.slice sa p.length sc, .agg #[.int .i64 h.1, .int .i64 h.2.1, .int .i64 h.2.2]] W fun e w1 => ∃ a c, e = .returned (.tuple #[.slice a 0 c, .bool false, .int .i64 1]) ∧ Grew W w1)) :
    Calls Try.prog 3 #[.slice sa p.length sc, .agg #[.int .i64 h.1, .int .i64 h.2.1, .int .i64 h.2.2], .agg #[.int .i64 x.1, .int .i64 x.2]] w fun e w' => e = .returned (.bool true) ∧ Grew w w' := by
  generalize p.length = n at *
  have HH := Lib.hid (((Blk.new w #[.int .i64 h.1, .int .i64 h.2.1, .int .i64 h.2.2] 24)).alloc (.cells #[.int .i64 x.1, .int .i64 x.2] 26))
  go_enter Try.func3, Try.ntmps3
  go_wp2_with fail
  refine (head_true C _).mono ?_
  rintro e v1 ⟨rfl, g1⟩
  have G1 : Grew w v1 := Grew.trans (((Grew.refl _).alloc _ _).alloc _ _) g1
  have HH := Lib.hid (HH.out.grown g1)
  obtain ⟨h0, h0', h0''⟩ := blk3 HH.out
  have lh := HH.out.lt
  clear g1
  go_wp2_with fail
  refine (CC.out _ G1).mono ?_
  rintro e v2 ⟨a, c, rfl, g2⟩
  have G2 : Grew w v2 := Grew.trans G1 g2
  clear g2 G1
  go_wp2_with fail
  go_ret
  exact ⟨rfl, G2⟩
set_option maxRecDepth 100000 in
theorem keeps_none (C : Code) (p : List Pt) (h : Hf) (x : Pt) (sa : Option Addr) (sc : Nat) (w : World) (h50 : ¬ (p.length : Int) > 50)
    (CC : Hid (∀ W, Grew w W → Calls Try.prog 10 #[.slice sa p.length sc, .agg #[.int .i64 h.1, .int .i64 h.2.1, .int .i64 h.2.2]] W fun _ _ => False)) :
    Calls Try.prog 3 #[.slice sa p.length sc, .agg #[.int .i64 h.1, .int .i64 h.2.1, .int .i64 h.2.2], .agg #[.int .i64 x.1, .int .i64 x.2]] w fun e w' => e = .returned (.bool true) ∧ Grew w w' := by
  generalize p.length = n at *
  have HH := Lib.hid (((Blk.new w #[.int .i64 h.1, .int .i64 h.2.1, .int .i64 h.2.2] 24)).alloc (.cells #[.int .i64 x.1, .int .i64 x.2] 26))
  go_enter Try.func3, Try.ntmps3
  go_wp2_with fail
  refine (head_true C _).mono ?_
  rintro e v1 ⟨rfl, g1⟩
  have G1 : Grew w v1 := Grew.trans (((Grew.refl _).alloc _ _).alloc _ _) g1
  have HH := Lib.hid (HH.out.grown g1)
  obtain ⟨h0, h0', h0''⟩ := blk3 HH.out
  have lh := HH.out.lt
  clear g1
  go_wp2_with fail
  refine (CC.out _ G1).mono ?_
  exact fun _ _ h => h.elim
theorem keeps_fine (K : Hl.Code) (C : Code) (p m : List Pt) (h : Hf) (x : Pt) (b o c : Nat) (w : World) (sm : Bool) (hr : Row w b o p) (hp : Vl p) (hh : WF h) (h50 : p.length ≤ 50) (hm : m.length ≤ 64)
    (hsm : sm = true → Vl m) (hm0 : if sm = true then 0 < m.length else m = [])
    (hS : ∀ k, k < m.length → LeftS p h (at' m k))
    (hsome : Hs p x → ov h x ≤ 0 → sm = true ∧ (Plc x → Hs m x))
    (CC : Hid (∀ W, Grew w W → Calls Try.prog 10 #[.slice (some ⟨b, o, none⟩) p.length c, .agg #[.int .i64 h.1, .int .i64 h.2.1, .int .i64 h.2.2]] W fun e w1 => ∃ vl, e = .returned (.tuple #[vl, .bool sm, .int .i64 0]) ∧ Hid (Sl w1 vl m) ∧ Grew W w1)) :
    Calls Try.prog 3 #[.slice (some ⟨b, o, none⟩) p.length c, .agg #[.int .i64 h.1, .int .i64 h.2.1, .int .i64 h.2.2], .agg #[.int .i64 x.1, .int .i64 x.2]] w fun e w' => e = .returned (.bool true) ∧ Grew w w' := by
  have hs : ∀ W, Grew w W → Sl W (.slice (some ⟨b, o, none⟩) p.length c) p := fun W g => Or.inr ⟨b, o, c, rfl, hr.grown g⟩
  have BP : Hid (∀ W, Grew w W → Calls Try.prog 11 #[.slice (some ⟨b, o, none⟩) p.length c] W fun e w' => ∃ lo hi : Pt, e = .returned (.tuple #[.agg #[.int .i64 lo.1, .int .i64 lo.2], .agg #[.int .i64 hi.1, .int .i64 hi.2], .int .i64 0]) ∧ Hid (∀ k, k < m.length → (lo.1 ≤ (at' m k).1 ∧ (at' m k).1 ≤ hi.1) ∧ lo.2 ≤ (at' m k).2 ∧ (at' m k).2 ≤ hi.2) ∧ Grew W w') := Lib.hid fun W g => (K.box_ok p _ W (hs W g) hp).mono (by
    rintro e w' ⟨lo, hi, hb, he, g⟩
    exact ⟨lo, hi, he, Lib.hid (fun k hk => left_box hp.pg hb (hS k hk)), g⟩)
  have VM : Hid (sm = true → ∀ W vl, Sl W vl m → Calls Try.prog 12 #[vl] W fun e w' => e = .returned (.bool true) ∧ Grew W w') := Lib.hid fun e W vl s => (K.valid m vl W s (by omega)).mono fun _ _ t => t.to (hsm e)
  have OV := Lib.hid (fun k W (hk : k < m.length) => over_c h (at' m k) W hh (left_plc2 hp.2.1 (hS k hk)))
  have QV : Hid (∀ k, k < m.length → ov h (at' m k) ≤ ab h.1 + ab h.2.1) := Lib.hid fun k hk => left_over (hS k hk)
  have i50 : (p.length : Int) ≤ 50 := by omega
  by_cases px : Plc x
  · obtain ⟨h1, e1⟩ : ∃ a : Bool, a = true ↔ Hs p x := by
      by_cases h : Hs p x
      · exact ⟨true, by simp [h]⟩
      · exact ⟨false, by simp [h]⟩
    obtain ⟨h2, e2⟩ : ∃ a : Bool, a = true ↔ ov h x ≤ 0 := by
      by_cases g : ov h x ≤ 0
      · exact ⟨true, by simp [g]⟩
      · exact ⟨false, by simp [g]⟩
    refine keeps_walk C p m h x b o c w sm h1 h2 0 (fun a b => (hsome (e1.1 a) (e2.1 b)).1) (Or.inl rfl) hh i50 hm hm0 CC BP VM QV OV (Lib.hid fun W g => (K.has_ok p x _ W (hs W g) hp px).mono ?_) (Lib.hid fun W g => (C.in_ok h x W hh px).mono ?_) (Lib.hid fun ⟨a, b⟩ W vl g s => (K.has_ok m x _ W s (hsm (hsome (e1.1 a) (e2.1 b)).1) px).mono ?_)
    · rintro e w' ⟨r, rfl, h, g⟩
      have : r = h1 := by rw [Bool.eq_iff_iff, h, e1]
      rw [this]
      exact ⟨rfl, g⟩
    · rintro e w' ⟨r, rfl, h, g⟩
      have : r = h2 := by rw [Bool.eq_iff_iff, h, e2]
      rw [this]
      exact ⟨rfl, g⟩
    · rintro e w' ⟨r, rfl, h, g⟩
      rw [h.2 ((hsome (e1.1 a) (e2.1 b)).2 px)]
      exact ⟨rfl, g⟩
  · exact keeps_walk C p m h x b o c w sm false false 1 (fun a => by cases a) (Or.inr ⟨rfl, rfl, rfl⟩) hh i50 hm hm0 CC BP VM QV OV (Lib.hid fun W g => (K.has_bad p x _ W (hs W g) (by omega) (fun h => px h.2)).mono (by
      rintro e w' ⟨rfl, g⟩
      exact ⟨rfl, g⟩)) (Lib.hid fun W g => (C.in_bad h x W (fun h => px h.2)).mono (by
      rintro e w' ⟨rfl, g⟩
      exact ⟨rfl, g⟩)) (Lib.hid fun h => by cases h.1)
theorem keeps_true (K : Hl.Code) (C : Code) (p : List Pt) (h : Hf) (x : Pt) (v : Value) (w : World) (hs : Sl w v p) (hm : p.length ≤ 9223372036854775807) : Calls Try.prog 3 #[v, .agg #[.int .i64 h.1, .int .i64 h.2.1, .int .i64 h.2.2], .agg #[.int .i64 x.1, .int .i64 x.2]] w fun e w' => e = .returned (.bool true) ∧ Grew w w' := by
  obtain ⟨sa, sc, rfl⟩ := hs.shape
  by_cases h50 : p.length ≤ 50
  · have n50 : ¬ (p.length : Int) > 50 := by omega
    by_cases ok : Vl p ∧ WF h
    · obtain ⟨hp, hh⟩ := ok
      by_cases ex : ∃ y, LeftS p h y
      · by_cases pq : ∃ m, Poly (LeftS p h) m
        · obtain ⟨m, hm1⟩ := pq
          have pl : ∀ y, LeftS p h y → Plc y := fun y hy => left_plc2 hp.2.1 hy
          have hv := hm1.vl pl
          have hl := leftL_len hp.pg h
          obtain ⟨b, o, rfl, hr⟩ := sl_some hs (by have := hp.1.1; omega)
          refine keeps_fine K C p m h x b o sc w true hr hp hh h50 hv.1.2 (fun _ => hv) (by rw [if_pos rfl]; have := hv.1.1; omega) (fun k hk => hm1.small (leftL p h) (fun y hy => (mem_leftL p h y).2 hy) (by omega) _ (at_mem hk)) (fun a b => ⟨rfl, fun _ => left_has hp hm1 a b⟩) (Lib.hid fun W g => (C.cut_ok p h _ W (hs.grown g) hp hh).mono ?_)
          rintro e w' (⟨q', v', hq', rfl, hs', g'⟩ | ⟨hn, _⟩)
          · obtain rfl := poly_one hq' hm1
            exact ⟨v', rfl, Lib.hid hs', g'⟩
          · exact absurd ex hn
        · refine keeps_none C p h x sa sc w n50 (Lib.hid fun W g => (C.cut_ok p h _ W (hs.grown g) hp hh).mono ?_)
          rintro e w' (⟨q', v', hq', _⟩ | ⟨hn, _⟩)
          · exact pq ⟨q', hq'⟩
          · exact hn ex
      · obtain ⟨b, o, rfl, hr⟩ := sl_some hs (by have := hp.1.1; omega)
        refine keeps_fine K C p [] h x b o sc w false hr hp hh h50 (by decide) (fun e => by cases e) (by rw [if_neg (by decide)]) (fun k hk => absurd hk (Nat.not_lt_zero _)) (fun a b => ?_) (Lib.hid fun W g => (C.cut_ok p h _ W (hs.grown g) hp hh).mono ?_)
        · obtain ⟨y, hy, _⟩ := clip_least hp.pg a b 0 0 0
          exact absurd ⟨y, hy⟩ ex
        · rintro e w' (⟨q', v', hq', _⟩ | ⟨hn, v', rfl, hs', g'⟩)
          · exact absurd hq'.some ex
          · exact ⟨v', rfl, Lib.hid hs', g'⟩
    · refine keeps_bad C p h x sa sc w n50 (Lib.hid fun W g => (C.cut_bad p h _ W (hs.grown g) hm ok).mono ?_)
      rintro e w' ⟨v, rfl, hv, g⟩
      obtain ⟨a, c, rfl⟩ := hv.shape
      exact ⟨a, c, rfl, g⟩
  · exact keeps_big C p h x sa sc w (by omega)
end Ct
end Go.Proofs.Ytmijlfbmmegfbaa
