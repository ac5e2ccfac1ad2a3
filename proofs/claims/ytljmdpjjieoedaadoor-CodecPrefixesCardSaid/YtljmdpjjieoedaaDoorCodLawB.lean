/-
  The laws CodecBack and CodecPrefixes, under what package codec owes.
-/
import Derived.Test.YtljmdpjjieoedaaDoorCodLawA
namespace Go.Proofs.YtljmdpjjieoedaaDoor
open Go.RowKit Wd
namespace Co
set_option maxRecDepth 100000

def PutYes (l : List Int) (w : World) (e : Ending) (w' : World) : Prop := ∃ u, e = .returned (.tuple #[u, .int .i64 0]) ∧ Bs w' u (lb l) ∧ Grew w w'
set_option maxHeartbeats 8000000 in
theorem back_true {T : World → Prop} (K : Code T) (l : List Int) (bs : List UInt8) (v u : Value) (w : World) (hT : T w) (hv : Is w v l) (hu : Bs w u bs) (_hl : l.length ≤ 9223372036854775807) (_hb : bs.length ≤ 9223372036854775807) : Calls Tryd.prog 4 #[v, u] w fun e w' => e = .returned (.bool true) ∧ Grew w w' := by
  have HD := Lib.hid (head_true K w hT)
  obtain ⟨a, c, rfl, _⟩ := hv.shape
  obtain ⟨a2, c2, rfl, _⟩ := hu.shape
  by_cases a1 : l.length ≤ 300
  · have c1 : ¬ (300 : Int) < (l.length : Int) := by omega
    by_cases b1 : bs.length ≤ 3000
    · have d1 : ¬ (3000 : Int) < (bs.length : Int) := by omega
      have LO : Lok l := ⟨by omega, hv.2⟩
      have HV := Lib.hid (fun W (g : Grew w W) => hv.grew g)
      have HU := Lib.hid (fun W (g : Grew w W) => hu.grew g)
      have P1 : Hid (∀ W, Grew w W → Calls Tryd.prog 10 #[.slice a l.length c] W (PutYes l W)) := Lib.hid (fun W g => (K.fns.put l _ W (K.keep _ _ g hT) (hv.grew g) LO.1).mono fun e w' ⟨u, he, ho, g⟩ => ⟨u, he, own_bs ho, g⟩)
      have G1 : Hid (∀ u W, Grew w W → Bs W u (lb l) → Calls Tryd.prog 15 #[u] W (GetYes l W)) := Lib.hid (fun u W g hx => (K.fns.get _ u W (K.keep _ _ g hT) hx (by have := lb_len LO; omega)).mono fun e w' h => h.yes LO rfl)
      have SI := Lib.hid (fun v u W hv hu => same_i l v u W hv hu (by omega))
      have SB := Lib.hid (fun k v u W hv hu => same_b k v u W hv hu)
      rcases list_ex bs with ⟨k, ko, hb⟩ | nl
      · have G2 : Hid (∀ W, Grew w W → Calls Tryd.prog 15 #[.slice a2 bs.length c2] W (GetYes k W)) := Lib.hid (fun W g => (K.fns.get _ _ W (K.keep _ _ g hT) (hu.grew g) (by omega)).mono fun e w' h => h.yes ko hb)
        have P2 : Hid (∀ u W, Grew w W → Is W u k → Calls Tryd.prog 10 #[u] W (PutYes k W)) := Lib.hid (fun u W g hx => (K.fns.put k u W (K.keep _ _ g hT) hx ko.1).mono fun e w' ⟨u, he, ho, g⟩ => ⟨u, he, own_bs ho, g⟩)
        have HB := Lib.hid hb
        clear LO K hT hv hu a1 b1 hb ko
        go_enter Tryd.func4, Tryd.ntmps4
        go_wp2_with fail
        refine (HD.out).mono ?_
        rintro e w1 ⟨rfl, g1⟩
        go_wp2_with fail
        refine (P1.out _ g1).mono ?_
        rintro e w2 ⟨x2, rfl, b2, h2⟩
        have g2 := Grew.trans g1 h2
        have B2 := Lib.hid b2
        clear b2 h2 g1 P1
        go_wp2_with fail
        refine (G1.out _ _ g2 B2.out).mono ?_
        rintro e w3 ⟨x3, rfl, b3, h3⟩
        have g3 := Grew.trans g2 h3
        have B3 := Lib.hid b3
        clear b3 h3 g2 G1 B2
        go_wp2_with fail
        refine (SI.out _ _ _ (HV.out _ g3) B3.out).mono ?_
        rintro e w4 ⟨rfl, h4⟩
        have g4 := Grew.trans g3 h4
        clear h4 g3 B3 SI
        go_wp2_with fail
        refine (G2.out _ g4).mono ?_
        rintro e w5 ⟨x5, rfl, b5, h5⟩
        have g5 := Grew.trans g4 h5
        have B5 := Lib.hid b5
        clear b5 h5 g4 G2
        go_wp2_with fail
        refine (P2.out _ _ g5 B5.out).mono ?_
        rintro e w6 ⟨x6, rfl, b6, h6⟩
        have g6 := Grew.trans g5 h6
        have B6 := Lib.hid b6
        clear b6 h6 g5 P2 B5
        go_wp2_with fail
        refine (SB.out _ _ _ _ (HU.out _ g6) (by rw [HB.out]; exact B6.out)).mono ?_
        rintro e w7 ⟨rfl, rfl⟩
        go_wp2_with fail
        go_ret
        exact ⟨by simp, g6⟩
      · have G2 : Hid (∀ W, Grew w W → Calls Tryd.prog 15 #[.slice a2 bs.length c2] W (GetNo W)) := Lib.hid (fun W g => (K.fns.get _ _ W (K.keep _ _ g hT) (hu.grew g) (by omega)).mono fun e w' h => h.no nl)
        clear LO K hT hv hu a1 b1 nl
        go_enter Tryd.func4, Tryd.ntmps4
        go_wp2_with fail
        refine (HD.out).mono ?_
        rintro e w1 ⟨rfl, g1⟩
        go_wp2_with fail
        refine (P1.out _ g1).mono ?_
        rintro e w2 ⟨x2, rfl, b2, h2⟩
        have g2 := Grew.trans g1 h2
        have B2 := Lib.hid b2
        clear b2 h2 g1 P1
        go_wp2_with fail
        refine (G1.out _ _ g2 B2.out).mono ?_
        rintro e w3 ⟨x3, rfl, b3, h3⟩
        have g3 := Grew.trans g2 h3
        have B3 := Lib.hid b3
        clear b3 h3 g2 G1 B2
        go_wp2_with fail
        refine (SI.out _ _ _ (HV.out _ g3) B3.out).mono ?_
        rintro e w4 ⟨rfl, h4⟩
        have g4 := Grew.trans g3 h4
        clear h4 g3 B3 SI
        go_wp2_with fail
        refine (G2.out _ g4).mono ?_
        rintro e w5 ⟨rfl, h5⟩
        have g5 := Grew.trans g4 h5
        clear h5 g4 G2
        go_wp2_with fail
        go_ret
        exact ⟨by simp, g5⟩
    · have d1 : (3000 : Int) < (bs.length : Int) := by omega
      clear K hT hv hu a1 b1
      go_enter Tryd.func4, Tryd.ntmps4
      go_wp2_with fail
      refine (HD.out).mono ?_
      rintro e w1 ⟨rfl, g1⟩
      go_wp2_with fail
      go_ret
      exact ⟨by simp, g1⟩
  · have c1 : (300 : Int) < (l.length : Int) := by omega
    clear K hT hv hu a1
    go_enter Tryd.func4, Tryd.ntmps4
    go_wp2_with fail
    refine (HD.out).mono ?_
    rintro e w1 ⟨rfl, g1⟩
    go_wp2_with fail
    go_ret
    exact ⟨by simp, g1⟩
theorem no_behind {l : List Int} {r : List UInt8} (h : r ≠ []) : NoL (lb l ++ r) := no_more h
theorem no_before {l : List Int} {j : Nat} (h : j < (lb l).length) : NoL ((lb l).take j) := fun m _ e => by
  have h1 : lb l ++ [] = lb m ++ (lb l).drop j := by rw [← e, List.take_append_drop, List.append_nil]
  have h2 := congrArg List.length (lb_free h1).2
  rw [List.length_nil, List.length_drop] at h2
  omega
set_option maxHeartbeats 8000000 in
theorem prefixes_true {T : World → Prop} (K : Code T) (l : List Int) (bs : List UInt8) (p : Nat) (v u : Value) (w : World) (hT : T w) (hv : Is w v l) (hu : Bs w u bs) (_hl : l.length ≤ 9223372036854775807) (_hb : bs.length ≤ 9223372036854775807) (hp : p ≤ 65535) : Calls Tryd.prog 8 #[v, u, .int .u16 p] w fun e w' => e = .returned (.bool true) ∧ Grew w w' := by
  have HD := Lib.hid (head_true K w hT)
  obtain ⟨a, c, rfl, _⟩ := hv.shape
  obtain ⟨a2, c2, rfl, _⟩ := hu.shape
  by_cases a1 : l.length ≤ 300
  · have c1 : ¬ (300 : Int) < (l.length : Int) := by omega
    by_cases b0 : bs.length = 0
    · have d0 : ((bs.length : Int) == 0) = true := by rw [beq_iff_eq]; omega
      clear K hT hv hu a1 b0
      go_enter Tryd.func8, Tryd.ntmps8
      go_wp2_with fail
      refine (HD.out).mono ?_
      rintro e w1 ⟨rfl, g1⟩
      go_wp2_with fail
      go_ret
      exact ⟨by simp, g1⟩
    · by_cases b1 : bs.length ≤ 300
      · have d0 : ((bs.length : Int) == 0) = false := by rw [beq_eq_false_iff_ne]; omega
        have d1 : ¬ (300 : Int) < (bs.length : Int) := by omega
        have LO : Lok l := ⟨by omega, hv.2⟩
        have HU := Lib.hid (fun W (g : Grew w W) => hu.grew g)
        have P1 : Hid (∀ W, Grew w W → Calls Tryd.prog 10 #[.slice a l.length c] W (PutYes l W)) := Lib.hid (fun W g => (K.fns.put l _ W (K.keep _ _ g hT) (hv.grew g) LO.1).mono fun e w' ⟨u, he, ho, g⟩ => ⟨u, he, own_bs ho, g⟩)
        have G1 : Hid (∀ u W, Grew w W → Bs W u (lb l ++ bs) → Calls Tryd.prog 15 #[u] W (GetNo W)) := Lib.hid (fun u W g hx => (K.fns.get _ u W (K.keep _ _ g hT) hx (by have := lb_len LO; rw [List.length_append]; omega)).mono fun e w' h => h.no (no_behind (fun e => b0 (by rw [e]; rfl))))
        have G2 : Hid (∀ u W j, Grew w W → j < (lb l).length → Bs W u ((lb l).take j) → Calls Tryd.prog 15 #[u] W (GetNo W)) := Lib.hid (fun u W j g hj hx => (K.fns.get _ u W (K.keep _ _ g hT) hx (by have := lb_len LO; rw [List.length_take]; omega)).mono fun e w' h => h.no (no_before hj))
        obtain ⟨n, hn0⟩ : ∃ n, n = (lb l).length := ⟨_, rfl⟩
        have n1 : 0 < n := by rw [hn0]; exact lb_pos l
        have n2 : n ≤ 40002 := by rw [hn0]; have := lb_len LO; have := LO.1; omega
        have nz : ((n : Int) == 0) = false := by rw [beq_eq_false_iff_ne]; omega
        have HN := Lib.hid hn0
        clear LO K hT hv hu a1 b1 hn0
        go_enter Tryd.func8, Tryd.ntmps8
        go_wp2_with fail
        refine (HD.out).mono ?_
        rintro e w1 ⟨rfl, g1⟩
        go_wp2_with fail
        refine (P1.out _ g1).mono ?_
        rintro e w2 ⟨x2, rfl, b2, h2⟩
        have g2 := Grew.trans g1 h2
        have B2 := Lib.hid b2
        obtain ⟨xa, xc, rfl, hxc⟩ := b2.shape
        rw [← HN.out] at B2 hxc
        rw [← HN.out]
        clear b2 h2 g1 P1
        have g2H := Lib.hid g2
        go_wp2_with (at_builtin; first | (refine wpl_bytes _ rfl _ _ rfl w2.heap.size _ _ [] (lb l) rfl (by exact made_bw w2 (Nat.le_refl _)) rfl (by exact B2.out.grew ((Grew.refl _).alloc _ _)) (by rw [← HN.out, List.length_nil]; omega) (by rw [World.size_alloc]; omega) ?_; intro v4 w4 own4 gr4; have OW4 := Lib.hid own4; have G4 : Grew w2 w4 := Grew.grown ((Grew.refl w2).alloc _ _) gr4 (fun k hk => (Dg.Bw.lt (made_bw w2 (Nat.le_refl _)) k hk).1); clear own4 gr4) | (refine wpl_bytes _ rfl _ _ rfl w2.heap.size _ _ ([] ++ lb l) bs rfl (by exact OW4.out) rfl (by exact HU.out _ (Grew.trans g2H.out G4)) (by rw [List.nil_append, ← HN.out]; omega) (by have := G4.size; omega) ?_; intro v5 w5 own5 gr5; have OW5 := Lib.hid own5; have G5 : Grew w2 w5 := Grew.grown G4 gr5 (fun k hk => (Dg.Bw.lt OW4.out k hk).1); clear own5 gr5))
        refine (G1.out _ _ (Grew.trans g2 G5) (own_bs OW5.out)).mono ?_
        rintro e w6 ⟨rfl, h6⟩
        have g6 := Grew.trans (Grew.trans g2 G5) h6
        have B6 := Lib.hid ((B2.out.grew G5).grew h6)
        clear B2 h6 G5 g2 OW5 OW4 G4 G1 g2H
        obtain ⟨j, hj0⟩ : ∃ j, j = p % n := ⟨_, rfl⟩
        have jn : j < n := by rw [hj0]; exact Nat.mod_lt _ n1
        have JE : (p : Int) % (n : Int) = (j : Int) := by rw [hj0]; omega
        have j0 : (j : Int) ≤ (xc : Int) := by omega
        have xz : ¬ xc = 0 := by omega
        have T6 := B6.out.sliced (l := 0) (k := j) (m := xc) (Nat.zero_le _) (by rw [← HN.out]; omega) (by omega)
        rw [if_neg xz, Nat.sub_zero, Nat.sub_zero, List.drop_zero] at T6
        obtain ⟨xb, xo, rfl, _, _⟩ := B6.out.row (by rw [← HN.out]; exact n1)
        rw [Option.map_some, Nat.zero_mul, add_off, Nat.add_zero] at T6
        have G3 := Lib.hid (G2.out _ _ j g6 (by rw [← HN.out]; exact jn) T6)
        have JN := Lib.hid jn
        clear hj0 T6 B6 G2 jn
        go_wp2_with fail
        refine (G3.out).mono ?_
        rintro e w7 ⟨rfl, h7⟩
        have g7 := Grew.trans g6 h7
        clear h7 g6 G3
        go_wp2_with fail
        go_ret
        exact ⟨by simp, g7⟩
      · have d0 : ((bs.length : Int) == 0) = false := by rw [beq_eq_false_iff_ne]; omega
        have d1 : (300 : Int) < (bs.length : Int) := by omega
        clear K hT hv hu a1 b1 b0
        go_enter Tryd.func8, Tryd.ntmps8
        go_wp2_with fail
        refine (HD.out).mono ?_
        rintro e w1 ⟨rfl, g1⟩
        go_wp2_with fail
        go_ret
        exact ⟨by simp, g1⟩
  · have c1 : (300 : Int) < (l.length : Int) := by omega
    clear K hT hv hu a1
    go_enter Tryd.func8, Tryd.ntmps8
    go_wp2_with fail
    refine (HD.out).mono ?_
    rintro e w1 ⟨rfl, g1⟩
    go_wp2_with fail
    go_ret
    exact ⟨by simp, g1⟩
end Co
end Go.Proofs.YtljmdpjjieoedaaDoor
