/-
  The law CodecMatchesReference, under what package codec owes.
-/
import Derived.Test.YtljmdpjjieoedaaDoorCodHead
namespace Go.Proofs.YtljmdpjjieoedaaDoor
open Go.RowKit Wd
namespace Co
set_option maxRecDepth 100000

def BytesAns (k : List UInt8) (n : Int) (w : World) (e : Ending) (w' : World) : Prop := ∃ u, e = .returned (.tuple #[u, .int .i64 n]) ∧ Bs w' u k ∧ Grew w w'
def IntsAns (l : List Int) (n : Int) (w : World) (e : Ending) (w' : World) : Prop := ∃ u, e = .returned (.tuple #[u, .int .i64 n]) ∧ Is w' u l ∧ Grew w w'
def ListsAns (L : List (List Int)) (m n : Int) (w : World) (e : Ending) (w' : World) : Prop := ∃ u, e = .returned (.tuple #[u, .int .i64 m, .int .i64 n]) ∧ Ls w' u L ∧ Grew w w'
theorem put_fix {T : World → Prop} (l : List Int) : ∃ k n, ∀ {fp fg ff fs : Nat}, Fns T fp fg ff fs → ∀ v w, T w → Is w v l → Calls Tryd.prog fp #[v] w (BytesAns k n w) := by
  by_cases h : l.length ≤ 4000
  · exact ⟨lb l, 0, fun F v w hT hs => (F.put l v w hT hs h).mono fun e w' ⟨u, he, ho, g⟩ => ⟨u, he, own_bs ho, g⟩⟩
  · exact ⟨[], 2, fun F v w hT hs => (F.putL l v w hT hs (by omega)).mono fun e w' ⟨he, g⟩ => ⟨_, he, Bs.nil _ _ _, g⟩⟩
theorem frame_fix {T : World → Prop} (l : List Int) : ∃ k n, ∀ {fp fg ff fs : Nat}, Fns T fp fg ff fs → ∀ v w, T w → Is w v l → Calls Tryd.prog ff #[v] w (BytesAns k n w) := by
  by_cases h : l.length ≤ 4000
  · exact ⟨fr l, 0, fun F v w hT hs => (F.frame l v w hT hs h).mono fun e w' ⟨u, he, ho, g⟩ => ⟨u, he, own_bs ho, g⟩⟩
  · exact ⟨[], 2, fun F v w hT hs => (F.frameL l v w hT hs (by omega)).mono fun e w' ⟨he, g⟩ => ⟨_, he, Bs.nil _ _ _, g⟩⟩
theorem get_fix {T : World → Prop} (bs : List UInt8) (hl : bs.length ≤ 1000000) : ∃ l n, l.length ≤ 4000 ∧ ∀ {fp fg ff fs : Nat}, Fns T fp fg ff fs → ∀ v w, T w → Bs w v bs → Calls Tryd.prog fg #[v] w (IntsAns l n w) := by
  rcases list_ex bs with ⟨l, lo, hb⟩ | nl
  · exact ⟨l, 0, lo.1, fun F v w hT hx => (F.get bs v w hT hx hl).mono fun e w' h => h.yes lo hb⟩
  · exact ⟨[], 7, by decide, fun F v w hT hx => (F.get bs v w hT hx hl).mono fun e w' h => by
      obtain ⟨he, g⟩ := h.no nl
      exact ⟨_, he, Is.nil _ _ _, g⟩⟩
theorem frames_fix {T : World → Prop} (bs : List UInt8) : ∃ L m n, L.length ≤ 1000000 ∧ (∀ x, x ∈ L → x.length ≤ 1000000) ∧ ∀ {fp fg ff fs : Nat}, Fns T fp fg ff fs → ∀ v w, T w → Bs w v bs → Calls Tryd.prog fs #[v] w (ListsAns L m n w) := by
  by_cases h : bs.length ≤ 200000
  · obtain ⟨L, r, hL, hr, hb⟩ := frames_ex bs.length bs (Nat.le_refl _)
    refine ⟨L, _, 0, ?_, fun x hx => by have := (hL x hx).1; omega, fun F v w hT hx => (F.frames bs v w hT hx h).mono fun e w' h => h.are hL hr hb⟩
    have := congrArg List.length hb
    rw [List.length_append] at this
    have := fl_len L
    omega
  · exact ⟨[], 0, 2, by decide, fun x hx => (by cases hx), fun F v w hT hx => (F.framesL bs v w hT hx (by omega)).mono fun e w' ⟨he, g⟩ => ⟨_, he, Ls.nil _ _ _, g⟩⟩
theorem same_b (k : List UInt8) (v u : Value) (w : World) (hv : Bs w v k) (hu : Bs w u k) : Calls Tryd.prog 12 #[v, u] w fun e w' => e = .returned (.bool true) ∧ w' = w := by
  have := r_bytes_same k k v u w hv hu
  rwa [decide_eq_true (rfl : k = k)] at this
theorem same_i (k : List Int) (v u : Value) (w : World) (hv : Is w v k) (hu : Is w u k) (hk : k.length ≤ 1000000) : Calls Tryd.prog 17 #[v, u] w fun e w' => e = .returned (.bool true) ∧ Grew w w' := by
  have := r_ints_same k k v u w hv hu hk
  rwa [decide_eq_true (rfl : k = k)] at this
theorem same_l (k : List (List Int)) (v u : Value) (w : World) (hv : Ls w v k) (hu : Ls w u k) (hk : k.length ≤ 1000000) (hs : ∀ x, x ∈ k → x.length ≤ 1000000) : Calls Tryd.prog 20 #[v, u] w fun e w' => e = .returned (.bool true) ∧ Grew w w' := by
  have := r_lists_same k k v u w hv hu hk hs
  rwa [decide_eq_true (rfl : k = k)] at this
set_option maxHeartbeats 8000000 in
theorem matches_true {T : World → Prop} (K : Code T) (l : List Int) (bs : List UInt8) (v u : Value) (w : World) (hT : T w) (hv : Is w v l) (hu : Bs w u bs) (_hl : l.length ≤ 9223372036854775807) (_hb : bs.length ≤ 9223372036854775807) : Calls Tryd.prog 3 #[v, u] w fun e w' => e = .returned (.bool true) ∧ Grew w w' := by
  have HD := Lib.hid (head_true K w hT)
  obtain ⟨a, c, rfl, _⟩ := hv.shape
  obtain ⟨a2, c2, rfl, _⟩ := hu.shape
  obtain ⟨kp, np, PF⟩ := put_fix (T := T) l
  obtain ⟨kf, nf, FF⟩ := frame_fix (T := T) l
  obtain ⟨L, mm, nn, LL1, LL2, SF⟩ := frames_fix (T := T) bs
  have P1 := Lib.hid (fun W (g : Grew w W) => PF K.fns _ W (K.keep _ _ g hT) (hv.grew g))
  have P2 := Lib.hid (fun W (g : Grew w W) => PF (ref T) _ W (K.keep _ _ g hT) (hv.grew g))
  have F1 := Lib.hid (fun W (g : Grew w W) => FF K.fns _ W (K.keep _ _ g hT) (hv.grew g))
  have F2 := Lib.hid (fun W (g : Grew w W) => FF (ref T) _ W (K.keep _ _ g hT) (hv.grew g))
  have S1 := Lib.hid (fun W (g : Grew w W) => SF K.fns _ W (K.keep _ _ g hT) (hu.grew g))
  have S2 := Lib.hid (fun W (g : Grew w W) => SF (ref T) _ W (K.keep _ _ g hT) (hu.grew g))
  have SB := Lib.hid (fun k v u W hv hu => same_b k v u W hv hu)
  have SL := Lib.hid (fun v u W hv hu => same_l L v u W hv hu LL1 LL2)
  clear PF FF SF LL1 LL2
  by_cases a1 : l.length ≤ 300
  · have c1 : ¬ (300 : Int) < (l.length : Int) := by omega
    clear a1
    by_cases b1 : bs.length ≤ 3000
    · have d1 : ¬ (3000 : Int) < (bs.length : Int) := by omega
      have d2 : (bs.length : Int) ≤ 3000 := by omega
      obtain ⟨gl, gn, GL1, GF⟩ := get_fix (T := T) bs (by omega)
      have G1 := Lib.hid (fun W (g : Grew w W) => GF K.fns _ W (K.keep _ _ g hT) (hu.grew g))
      have G2 := Lib.hid (fun W (g : Grew w W) => GF (ref T) _ W (K.keep _ _ g hT) (hu.grew g))
      have SI := Lib.hid (fun v u W hv hu => same_i gl v u W hv hu (by omega))
      clear GF GL1 K hT hv hu
      clear b1
      go_enter Tryd.func3, Tryd.ntmps3
      go_wp2_with fail
      refine (HD.out).mono ?_
      rintro e w1 ⟨rfl, g1⟩
      go_wp2_with fail
      refine (P1.out _ g1).mono ?_
      rintro e w2 ⟨x1, rfl, b1, h2⟩
      have g2 := Grew.trans g1 h2
      have B1 := Lib.hid b1
      clear b1 h2 g1
      go_wp2_with fail
      refine (P2.out _ g2).mono ?_
      rintro e w3 ⟨x2, rfl, b2, h3⟩
      have g3 := Grew.trans g2 h3
      have B1 := Lib.hid (B1.out.grew h3)
      have B2 := Lib.hid b2
      clear b2 h3 g2
      go_wp2_with fail
      refine (SB.out _ _ _ _ B1.out B2.out).mono ?_
      rintro e w4 ⟨rfl, rfl⟩
      clear B1 B2
      go_wp2_with fail
      refine (F1.out _ g3).mono ?_
      rintro e w5 ⟨x5, rfl, b1, h5⟩
      have g5 := Grew.trans g3 h5
      have B1 := Lib.hid b1
      clear b1 h5 g3
      go_wp2_with fail
      refine (F2.out _ g5).mono ?_
      rintro e w6 ⟨x6, rfl, b2, h6⟩
      have g6 := Grew.trans g5 h6
      have B1 := Lib.hid (B1.out.grew h6)
      have B2 := Lib.hid b2
      clear b2 h6 g5
      go_wp2_with fail
      refine (SB.out _ _ _ _ B1.out B2.out).mono ?_
      rintro e w7 ⟨rfl, rfl⟩
      clear B1 B2
      go_wp2_with fail
      refine (G1.out _ g6).mono ?_
      rintro e w8 ⟨x8, rfl, b1, h8⟩
      have g8 := Grew.trans g6 h8
      have B1 := Lib.hid b1
      clear b1 h8 g6
      go_wp2_with fail
      refine (G2.out _ g8).mono ?_
      rintro e w9 ⟨x9, rfl, b2, h9⟩
      have g9 := Grew.trans g8 h9
      have B1 := Lib.hid (B1.out.grew h9)
      have B2 := Lib.hid b2
      clear b2 h9 g8
      go_wp2_with fail
      refine (SI.out _ _ _ B1.out B2.out).mono ?_
      rintro e w10 ⟨rfl, h10⟩
      have g6 := Grew.trans g9 h10
      clear B1 B2 h10 g9
      go_wp2_with fail
      refine (S1.out _ g6).mono ?_
      rintro e w11 ⟨x11, rfl, b1, h11⟩
      have g11 := Grew.trans g6 h11
      have B1 := Lib.hid b1
      clear b1 h11 g6
      go_wp2_with fail
      refine (S2.out _ g11).mono ?_
      rintro e w12 ⟨x12, rfl, b2, h12⟩
      have g12 := Grew.trans g11 h12
      have B1 := Lib.hid (B1.out.grew h12)
      have B2 := Lib.hid b2
      clear b2 h12 g11
      go_wp2_with fail
      refine (SL.out _ _ _ B1.out B2.out).mono ?_
      rintro e w13 ⟨rfl, h13⟩
      have g13 := Grew.trans g12 h13
      clear B1 B2 h13 g12
      go_wp2_with fail
      go_ret
      exact ⟨by simp, g13⟩
    · have d1 : (3000 : Int) < (bs.length : Int) := by omega
      have d4 : ¬ (bs.length : Int) ≤ 3000 := by omega
      clear K hT hv hu
      by_cases b2 : bs.length ≤ 200000
      · have d3 : (bs.length : Int) ≤ 200000 := by omega
        clear b1 b2
        go_enter Tryd.func3, Tryd.ntmps3
        go_wp2_with fail
        refine (HD.out).mono ?_
        rintro e w1 ⟨rfl, g1⟩
        go_wp2_with fail
        go_ret
        exact ⟨by simp, g1⟩
      · have d3 : ¬ (bs.length : Int) ≤ 200000 := by omega
        clear b1 b2
        go_enter Tryd.func3, Tryd.ntmps3
        go_wp2_with fail
        refine (HD.out).mono ?_
        rintro e w1 ⟨rfl, g1⟩
        go_wp2_with fail
        refine (P1.out _ g1).mono ?_
        rintro e w2 ⟨x1, rfl, b1, h2⟩
        have g2 := Grew.trans g1 h2
        have B1 := Lib.hid b1
        clear b1 h2 g1
        go_wp2_with fail
        refine (P2.out _ g2).mono ?_
        rintro e w3 ⟨x2, rfl, b2, h3⟩
        have g3 := Grew.trans g2 h3
        have B1 := Lib.hid (B1.out.grew h3)
        have B2 := Lib.hid b2
        clear b2 h3 g2
        go_wp2_with fail
        refine (SB.out _ _ _ _ B1.out B2.out).mono ?_
        rintro e w4 ⟨rfl, rfl⟩
        clear B1 B2
        go_wp2_with fail
        refine (F1.out _ g3).mono ?_
        rintro e w5 ⟨x5, rfl, b1, h5⟩
        have g5 := Grew.trans g3 h5
        have B1 := Lib.hid b1
        clear b1 h5 g3
        go_wp2_with fail
        refine (F2.out _ g5).mono ?_
        rintro e w6 ⟨x6, rfl, b2, h6⟩
        have g6 := Grew.trans g5 h6
        have B1 := Lib.hid (B1.out.grew h6)
        have B2 := Lib.hid b2
        clear b2 h6 g5
        go_wp2_with fail
        refine (SB.out _ _ _ _ B1.out B2.out).mono ?_
        rintro e w7 ⟨rfl, rfl⟩
        clear B1 B2
        go_wp2_with fail
        refine (S1.out _ g6).mono ?_
        rintro e w11 ⟨x11, rfl, b1, h11⟩
        have g11 := Grew.trans g6 h11
        have B1 := Lib.hid b1
        clear b1 h11 g6
        go_wp2_with fail
        refine (S2.out _ g11).mono ?_
        rintro e w12 ⟨x12, rfl, b2, h12⟩
        have g12 := Grew.trans g11 h12
        have B1 := Lib.hid (B1.out.grew h12)
        have B2 := Lib.hid b2
        clear b2 h12 g11
        go_wp2_with fail
        refine (SL.out _ _ _ B1.out B2.out).mono ?_
        rintro e w13 ⟨rfl, h13⟩
        have g13 := Grew.trans g12 h13
        clear B1 B2 h13 g12
        go_wp2_with fail
        go_ret
        exact ⟨by simp, g13⟩
  · have c1 : (300 : Int) < (l.length : Int) := by omega
    by_cases a2 : l.length ≤ 4000
    · have c2 : (l.length : Int) ≤ 4000 := by omega
      clear a1 a2 K hT hv hu
      go_enter Tryd.func3, Tryd.ntmps3
      go_wp2_with fail
      refine (HD.out).mono ?_
      rintro e w1 ⟨rfl, g1⟩
      go_wp2_with fail
      go_ret
      exact ⟨by simp, g1⟩
    · have c2 : ¬ (l.length : Int) ≤ 4000 := by omega
      clear a1 a2
      by_cases b1 : bs.length ≤ 3000
      · have d1 : ¬ (3000 : Int) < (bs.length : Int) := by omega
        have d2 : (bs.length : Int) ≤ 3000 := by omega
        obtain ⟨gl, gn, GL1, GF⟩ := get_fix (T := T) bs (by omega)
        have G1 := Lib.hid (fun W (g : Grew w W) => GF K.fns _ W (K.keep _ _ g hT) (hu.grew g))
        have G2 := Lib.hid (fun W (g : Grew w W) => GF (ref T) _ W (K.keep _ _ g hT) (hu.grew g))
        have SI := Lib.hid (fun v u W hv hu => same_i gl v u W hv hu (by omega))
        clear GF GL1 K hT hv hu
        clear b1
        go_enter Tryd.func3, Tryd.ntmps3
        go_wp2_with fail
        refine (HD.out).mono ?_
        rintro e w1 ⟨rfl, g1⟩
        go_wp2_with fail
        refine (P1.out _ g1).mono ?_
        rintro e w2 ⟨x1, rfl, b1, h2⟩
        have g2 := Grew.trans g1 h2
        have B1 := Lib.hid b1
        clear b1 h2 g1
        go_wp2_with fail
        refine (P2.out _ g2).mono ?_
        rintro e w3 ⟨x2, rfl, b2, h3⟩
        have g3 := Grew.trans g2 h3
        have B1 := Lib.hid (B1.out.grew h3)
        have B2 := Lib.hid b2
        clear b2 h3 g2
        go_wp2_with fail
        refine (SB.out _ _ _ _ B1.out B2.out).mono ?_
        rintro e w4 ⟨rfl, rfl⟩
        clear B1 B2
        go_wp2_with fail
        refine (F1.out _ g3).mono ?_
        rintro e w5 ⟨x5, rfl, b1, h5⟩
        have g5 := Grew.trans g3 h5
        have B1 := Lib.hid b1
        clear b1 h5 g3
        go_wp2_with fail
        refine (F2.out _ g5).mono ?_
        rintro e w6 ⟨x6, rfl, b2, h6⟩
        have g6 := Grew.trans g5 h6
        have B1 := Lib.hid (B1.out.grew h6)
        have B2 := Lib.hid b2
        clear b2 h6 g5
        go_wp2_with fail
        refine (SB.out _ _ _ _ B1.out B2.out).mono ?_
        rintro e w7 ⟨rfl, rfl⟩
        clear B1 B2
        go_wp2_with fail
        refine (G1.out _ g6).mono ?_
        rintro e w8 ⟨x8, rfl, b1, h8⟩
        have g8 := Grew.trans g6 h8
        have B1 := Lib.hid b1
        clear b1 h8 g6
        go_wp2_with fail
        refine (G2.out _ g8).mono ?_
        rintro e w9 ⟨x9, rfl, b2, h9⟩
        have g9 := Grew.trans g8 h9
        have B1 := Lib.hid (B1.out.grew h9)
        have B2 := Lib.hid b2
        clear b2 h9 g8
        go_wp2_with fail
        refine (SI.out _ _ _ B1.out B2.out).mono ?_
        rintro e w10 ⟨rfl, h10⟩
        have g6 := Grew.trans g9 h10
        clear B1 B2 h10 g9
        go_wp2_with fail
        refine (S1.out _ g6).mono ?_
        rintro e w11 ⟨x11, rfl, b1, h11⟩
        have g11 := Grew.trans g6 h11
        have B1 := Lib.hid b1
        clear b1 h11 g6
        go_wp2_with fail
        refine (S2.out _ g11).mono ?_
        rintro e w12 ⟨x12, rfl, b2, h12⟩
        have g12 := Grew.trans g11 h12
        have B1 := Lib.hid (B1.out.grew h12)
        have B2 := Lib.hid b2
        clear b2 h12 g11
        go_wp2_with fail
        refine (SL.out _ _ _ B1.out B2.out).mono ?_
        rintro e w13 ⟨rfl, h13⟩
        have g13 := Grew.trans g12 h13
        clear B1 B2 h13 g12
        go_wp2_with fail
        go_ret
        exact ⟨by simp, g13⟩
      · have d1 : (3000 : Int) < (bs.length : Int) := by omega
        have d4 : ¬ (bs.length : Int) ≤ 3000 := by omega
        clear K hT hv hu
        by_cases b2 : bs.length ≤ 200000
        · have d3 : (bs.length : Int) ≤ 200000 := by omega
          clear b1 b2
          go_enter Tryd.func3, Tryd.ntmps3
          go_wp2_with fail
          refine (HD.out).mono ?_
          rintro e w1 ⟨rfl, g1⟩
          go_wp2_with fail
          go_ret
          exact ⟨by simp, g1⟩
        · have d3 : ¬ (bs.length : Int) ≤ 200000 := by omega
          clear b1 b2
          go_enter Tryd.func3, Tryd.ntmps3
          go_wp2_with fail
          refine (HD.out).mono ?_
          rintro e w1 ⟨rfl, g1⟩
          go_wp2_with fail
          refine (P1.out _ g1).mono ?_
          rintro e w2 ⟨x1, rfl, b1, h2⟩
          have g2 := Grew.trans g1 h2
          have B1 := Lib.hid b1
          clear b1 h2 g1
          go_wp2_with fail
          refine (P2.out _ g2).mono ?_
          rintro e w3 ⟨x2, rfl, b2, h3⟩
          have g3 := Grew.trans g2 h3
          have B1 := Lib.hid (B1.out.grew h3)
          have B2 := Lib.hid b2
          clear b2 h3 g2
          go_wp2_with fail
          refine (SB.out _ _ _ _ B1.out B2.out).mono ?_
          rintro e w4 ⟨rfl, rfl⟩
          clear B1 B2
          go_wp2_with fail
          refine (F1.out _ g3).mono ?_
          rintro e w5 ⟨x5, rfl, b1, h5⟩
          have g5 := Grew.trans g3 h5
          have B1 := Lib.hid b1
          clear b1 h5 g3
          go_wp2_with fail
          refine (F2.out _ g5).mono ?_
          rintro e w6 ⟨x6, rfl, b2, h6⟩
          have g6 := Grew.trans g5 h6
          have B1 := Lib.hid (B1.out.grew h6)
          have B2 := Lib.hid b2
          clear b2 h6 g5
          go_wp2_with fail
          refine (SB.out _ _ _ _ B1.out B2.out).mono ?_
          rintro e w7 ⟨rfl, rfl⟩
          clear B1 B2
          go_wp2_with fail
          refine (S1.out _ g6).mono ?_
          rintro e w11 ⟨x11, rfl, b1, h11⟩
          have g11 := Grew.trans g6 h11
          have B1 := Lib.hid b1
          clear b1 h11 g6
          go_wp2_with fail
          refine (S2.out _ g11).mono ?_
          rintro e w12 ⟨x12, rfl, b2, h12⟩
          have g12 := Grew.trans g11 h12
          have B1 := Lib.hid (B1.out.grew h12)
          have B2 := Lib.hid b2
          clear b2 h12 g11
          go_wp2_with fail
          refine (SL.out _ _ _ B1.out B2.out).mono ?_
          rintro e w13 ⟨rfl, h13⟩
          have g13 := Grew.trans g12 h13
          clear B1 B2 h13 g12
          go_wp2_with fail
          go_ret
          exact ⟨by simp, g13⟩
end Co
end Go.Proofs.YtljmdpjjieoedaaDoor
