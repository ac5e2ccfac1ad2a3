/-
  Under what package ray owes: the law RayAround returns true.
-/
import Derived.Test.YtcihkpjdjenbjaaDoorRayLawB
namespace Go.Proofs.YtcihkpjdjenbjaaDoor
open Go.RowKit Hl Ex
namespace Ry
set_option maxRecDepth 100000

/-- What lies on a ray alone: that which is found, if the vector lies on it. -/
theorem lies_zero {v : Pt} (hv : v ≠ (0, 0)) {j : Nat} (hj : j < 64) : Lies j 0 v ↔ (j = kf v ∧ On (kf v) v) := by
  have f := kf_fd hv
  have hk := f.lt
  rw [f.lies_iff hj (by decide), f.on_self]
  constructor
  · rintro (h | ⟨h1, h2⟩)
    · omega
    · exact ⟨by omega, h2⟩
  · rintro ⟨h1, h2⟩
    exact Or.inr ⟨by omega, h2⟩
theorem lies_one {v : Pt} (hv : v ≠ (0, 0)) {j : Nat} (hj : j < 64) : Lies j 1 v ↔ (j = kf v ∨ ((j + 1) % 64 = kf v ∧ On (kf v) v)) := by
  have f := kf_fd hv
  have hk := f.lt
  rw [f.lies_iff hj (by decide), f.on_self]
  constructor
  · rintro (h | ⟨h1, h2⟩)
    · exact Or.inl (by omega)
    · exact Or.inr ⟨by omega, h2⟩
  · rintro (h | ⟨h1, h2⟩)
    · exact Or.inl (by omega)
    · exact Or.inr ⟨by omega, h2⟩
theorem lies_any {v : Pt} (hv : v ≠ (0, 0)) {a n : Nat} (ha : a < 64) (hn : n ≤ 31) : Lies a n v ↔ ((kf v + 64 - a) % 64 < n ∨ ((kf v + 64 - a) % 64 = n ∧ On (kf v) v)) := by
  rw [(kf_fd hv).lies_iff ha hn, (kf_fd hv).on_self]
set_option maxHeartbeats 8000000 in
theorem around_true {T : World → Prop} (F : Code T) (x y f m : Int) (w : World) (hT : T w) (hx : 0 ≤ x ∧ x ≤ 65535) (hy : 0 ≤ y ∧ y ≤ 65535) (hf : 0 ≤ f ∧ f ≤ 255) (hm : 0 ≤ m ∧ m ≤ 255) : Calls Tryd.prog 4 #[.int .u16 x, .int .u16 y, .int .u8 f, .int .u8 m] w fun e w' => e = .returned (.bool true) ∧ Grew w w' := by
  have TK := Lib.hid (fun W (g : Grew w W) => F.keep w W g hT)
  have HC := Lib.hid (fun W g => head_true F W (TK.out W g))
  have x0 := hx.1
  have x1 := hx.2
  have y0 := hy.1
  have y1 := hy.2
  have PC := Lib.hid (fun W => place_9 x y W hx hy)
  have VV := plv_vec hx hy
  have VS := plv_small hx hy
  generalize plv x y = v at PC VV VS
  obtain ⟨f0, f1⟩ := hf
  obtain ⟨m0, m1⟩ := hm
  obtain ⟨a, ha⟩ : ∃ a : Nat, f % 64 = (a : Int) := ⟨(f % 64).toNat, by omega⟩
  have ta : f.tmod 64 = (a : Int) := by rw [Int.tmod_eq_emod_of_nonneg (by omega)]; exact ha
  obtain ⟨n, hn⟩ : ∃ n : Nat, m % 32 = (n : Int) := ⟨(m % 32).toNat, by omega⟩
  have tn : m.tmod 32 = (n : Int) := by rw [Int.tmod_eq_emod_of_nonneg (by omega)]; exact hn
  have a64 : a < 64 := by omega
  have n31 : n ≤ 31 := by omega
  have O1 := Lib.hid (fun W g => F.fns.ofv v W (TK.out W g) VV)
  have K64 := (kf_fd VV.2).lt
  have L1 : Hid (∀ j, j < 64 → (Lies j 1 v ↔ (j = kf v ∨ ((j + 1) % 64 = kf v ∧ On (kf v) v)))) := Lib.hid (fun j hj => lies_one VV.2 hj)
  have L0 : Hid (∀ j, j < 64 → (Lies j 0 v ↔ (j = kf v ∧ On (kf v) v))) := Lib.hid (fun j hj => lies_zero VV.2 hj)
  have LA := Lib.hid (lies_any VV.2 a64 n31)
  have B1 := Lib.hid (fun (j : Nat) (hj : j < 64) W g => F.fns.bet j 1 v W (TK.out W g) hj (by decide) VV)
  have B0 := Lib.hid (fun (j : Nat) (hj : j < 64) W g => F.fns.bet j 0 v W (TK.out W g) hj (by decide) VV)
  have BA := Lib.hid (fun W g => F.fns.bet a n v W (TK.out W g) a64 n31 VV)
  unfold BetIs at B1 B0 BA
  unfold OfIs at O1
  obtain ⟨o, ho⟩ : ∃ o : Bool, decide (On (kf v) v) = o := ⟨_, rfl⟩
  have HO : Hid (On (kf v) v ↔ o = true) := Lib.hid (by rw [← ho, decide_eq_true_iff])
  rw [ho] at O1
  clear ho
  generalize kf v = k at O1 K64 L1 L0 LA HO
  obtain ⟨d, hd⟩ : ∃ d : Nat, (k + 64 - a) % 64 = d := ⟨_, rfl⟩
  have EA : Hid (decide (Lies a n v) = (decide (d < n) || (decide (d = n) && o))) := Lib.hid (by
    rw [show (decide (d < n) || (decide (d = n) && o)) = decide (d < n ∨ (d = n ∧ o = true)) by rw [Bool.decide_or, Bool.decide_and]; simp]
    exact dec_congr (by rw [LA.out, HO.out, hd]))
  have s3 : ((k : Int) - (a : Int) + 64) % 64 = (d : Int) := by omega
  have s4 : ((k : Int) - (a : Int) + 64).tmod 64 = (d : Int) := by rw [Int.tmod_eq_emod_of_nonneg (by omega)]; exact s3
  have k0 : (0 : Int) ≤ (k : Int) := by omega
  have k1 : (k : Int) < 64 := by omega
  have k2 : ¬ (k : Int) < 0 := by omega
  have a0 : (0 : Int) ≤ (a : Int) := by omega
  have a1 : (a : Int) < 64 := by omega
  generalize decide (Lies a n v) = ra at BA EA
  have KL : Hid (k < 64) := Lib.hid K64
  clear TK hT F VV VS LA hx hy hd
  go_enter Tryd.func4, Tryd.ntmps4
  go_wp2_with fail
  refine (HC.out _ (Grew.refl _)).mono ?_
  rintro e w1 ⟨rfl, G1⟩
  go_wp2_with fail
  refine (PC.out _).mono ?_
  rintro e w2 ⟨rfl, g⟩
  have G2 := Lib.hid ((G1.trans g).alloc #[.int .i64 v.1, .int .i64 v.2] 23)
  have kV := Lib.hid (Blk.new w2 #[.int .i64 v.1, .int .i64 v.2] 23)
  clear g G1
  obtain ⟨⟨c0, c1⟩, _, _⟩ := kV.out.two
  have lV := kV.out.lt
  go_wp2_with fail
  refine (O1.out _ G2.out).mono ?_
  rintro e w3 ⟨rfl, g⟩
  have G2 := Lib.hid (G2.out.trans g)
  have kV := kV.out.grown g
  have G3 := G2.out
  clear g c0 c1 lV G2
  go_wp2_with fail
  go_loopw [9, 14, 15, 16, 17, 18, 19, 45] (fun up fd i5 i6 i7 i8 i9 i wr => ∃ t : Nat, t ≤ 64 ∧ i = .int .i64 t ∧ up = .bool true ∧ fd = .int .i64 ((if k < t then 1 else 0 : Nat) : Int) ∧ Hid (Blk wr w2.heap.size #[.int .i64 v.1, .int .i64 v.2] 23 ∧ Grew w wr)) (fun _ _ _ _ _ _ _ i _ => 64 - (intOf i).toNat)
  case atStart => exact ⟨0, by omega, rfl, rfl, by simp, Lib.hid ⟨kV, G3⟩⟩
  case round =>
    clear kV G3
    obtain ⟨t, ht, rfl, rfl, rfl, HH⟩ := hrel
    obtain ⟨⟨c0, c1⟩, _, _⟩ := HH.out.1.two
    have lV := HH.out.1.lt
    have t0 : (0 : Int) ≤ (t : Int) := by omega
    by_cases hlt : t < 64
    · have t1 : (t : Int) < 64 := by omega
      obtain ⟨t', ht'⟩ : ∃ t' : Nat, (t + 1) % 64 = t' := ⟨_, rfl⟩
      have s5 : ((t : Int) + 1) % 64 = (t' : Int) := by omega
      have s6 : ((t : Int) + 1).tmod 64 = (t' : Int) := by rw [Int.tmod_eq_emod_of_nonneg (by omega)]; exact s5
      have C1 := Lib.hid (B1.out t hlt)
      have C0 := Lib.hid (B0.out t' (by omega))
      have LT := L1.out t hlt
      have LZ := L0.out t' (by omega)
      rw [ht', HO.out] at LT
      rw [HO.out] at LZ
      obtain ⟨c, hc⟩ : ∃ c : Nat, (if k < t then 1 else 0 : Nat) = c := ⟨_, rfl⟩
      obtain ⟨c', hc'⟩ : ∃ c' : Nat, (if k < t + 1 then 1 else 0 : Nat) = c' := ⟨_, rfl⟩
      have cb : c ≤ 1 := by rw [← hc]; split <;> omega
      have c0' : (0 : Int) ≤ (c : Int) := by omega
      have c1' : (c : Int) ≤ 1 := by omega
      rw [hc] at ⊢
      by_cases e1 : t = k
      · have e2 : ¬ t' = k := by omega
        rw [decide_eq_true (LT.2 (Or.inl e1))] at C1
        rw [decide_eq_false (fun h => e2 (LZ.1 h).1)] at C0
        have ec : (c : Int) + 1 = (c' : Int) := by
          have h1 : c = 0 := by rw [← hc]; exact if_neg (by omega)
          have h2 : c' = 1 := by rw [← hc']; exact if_pos (by omega)
          omega
        have E2 : Hid (c' = (if k < t + 1 then 1 else 0 : Nat)) := Lib.hid hc'.symm
        have e3 : ¬ (t' : Int) = (k : Int) := by omega
        have e4 : ((t' : Int) == (k : Int)) = false := by rw [beq_eq_false_iff_ne]; exact e3
        subst e1
        clear LT LZ hc hc' ht' e2 cb
        go_wp2_with fail
        refine (C1.out _ HH.out.2).mono ?_
        rintro e w3 ⟨rfl, g⟩
        have H2 := Lib.hid (And.intro (HH.out.1.grown g) (HH.out.2.trans g))
        clear g c0 c1 lV
        obtain ⟨⟨c0, c1⟩, _, _⟩ := H2.out.1.two
        have lV := H2.out.1.lt
        go_wp2_with fail
        refine (C0.out _ H2.out.2).mono ?_
        rintro e w4 ⟨rfl, g⟩
        have H3 := Lib.hid (And.intro (H2.out.1.grown g) (H2.out.2.trans g))
        clear g c0 c1 lV
        cases o
        all_goals
          go_wp2_with fail
          go_roundw
          case rel => exact ⟨t + 1, by omega, by go_num, rfl, by first | rw [← E2.out] | (rw [← E2.out, ← ec]; done) | (simp [← E2.out, ec]; done), H3⟩
          case measure => simp [intOf]; omega
      · have ec : c = c' := by
          rw [← hc, ← hc']
          by_cases h : k < t
          · rw [if_pos h, if_pos (by omega)]
          · rw [if_neg h, if_neg (by omega)]
        subst ec
        have E2 : Hid (c = (if k < t + 1 then 1 else 0 : Nat)) := Lib.hid hc'.symm
        by_cases e2 : t' = k
        · have e5 : decide (Lies t 1 v) = o := by
            by_cases h : o = true
            · rw [h]; exact decide_eq_true (LT.2 (Or.inr ⟨e2, h⟩))
            · rw [Bool.not_eq_true] at h
              rw [h]
              exact decide_eq_false (fun hl => by
                rcases LT.1 hl with h1 | h1
                · exact e1 h1
                · rw [h] at h1; cases h1.2)
          have e6 : decide (Lies t' 0 v) = o := by
            by_cases h : o = true
            · rw [h]; exact decide_eq_true (LZ.2 ⟨e2, h⟩)
            · rw [Bool.not_eq_true] at h
              rw [h]
              exact decide_eq_false (fun hl => by rw [h] at LZ; cases (LZ.1 hl).2)
          rw [e5] at C1
          rw [e6] at C0
          subst e2
          clear LT LZ hc hc' ht' e5 e6 cb
          go_wp2_with fail
          refine (C1.out _ HH.out.2).mono ?_
          rintro e w3 ⟨rfl, g⟩
          have H2 := Lib.hid (And.intro (HH.out.1.grown g) (HH.out.2.trans g))
          clear g c0 c1 lV
          obtain ⟨⟨c0, c1⟩, _, _⟩ := H2.out.1.two
          have lV := H2.out.1.lt
          go_wp2_with fail
          refine (C0.out _ H2.out.2).mono ?_
          rintro e w4 ⟨rfl, g⟩
          have H3 := Lib.hid (And.intro (H2.out.1.grown g) (H2.out.2.trans g))
          clear g c0 c1 lV
          cases o
          all_goals
            go_wp2_with fail
            go_roundw
            case rel => exact ⟨t + 1, by omega, by go_num, rfl, by first | rw [← E2.out] | (simp [← E2.out]; done), H3⟩
            case measure => simp [intOf]; omega
        · have e5 : ¬ Lies t 1 v := fun hl => by
            rcases LT.1 hl with h1 | h1
            · exact e1 h1
            · exact e2 h1.1
          rw [decide_eq_false e5] at C1
          rw [decide_eq_false (fun h => e2 (LZ.1 h).1)] at C0
          have e3 : ¬ (t' : Int) = (k : Int) := by omega
          have e4 : ((t' : Int) == (k : Int)) = false := by rw [beq_eq_false_iff_ne]; exact e3
          clear LT LZ hc hc' ht' e5 e2 cb
          go_wp2_with fail
          refine (C1.out _ HH.out.2).mono ?_
          rintro e w3 ⟨rfl, g⟩
          have H2 := Lib.hid (And.intro (HH.out.1.grown g) (HH.out.2.trans g))
          clear g c0 c1 lV
          obtain ⟨⟨c0, c1⟩, _, _⟩ := H2.out.1.two
          have lV := H2.out.1.lt
          go_wp2_with fail
          refine (C0.out _ H2.out.2).mono ?_
          rintro e w4 ⟨rfl, g⟩
          have H3 := Lib.hid (And.intro (H2.out.1.grown g) (H2.out.2.trans g))
          clear g c0 c1 lV
          cases o
          all_goals
            go_wp2_with fail
            go_roundw
            case rel => exact ⟨t + 1, by omega, by go_num, rfl, by first | rw [← E2.out] | (simp [← E2.out]; done), H3⟩
            case measure => simp [intOf]; omega
    · obtain rfl : t = 64 := by omega
      rw [if_pos KL.out]
      clear B1 B0 L1 L0 HO hlt
      have dn : (d : Int) < (n : Int) ∨ (d : Int) = (n : Int) ∨ ((n : Int) < (d : Int)) := by omega
      have n0 : (0 : Int) ≤ (n : Int) := by omega
      have n1 : (n : Int) ≤ 31 := by omega
      rcases dn with dn | dn | dn
      · have E : ra = true := by rw [EA.out, decide_eq_true (show d < n by omega)]; rfl
        subst E
        clear EA
        go_wp2_with fail
        refine (BA.out _ HH.out.2).mono ?_
        rintro e w3 ⟨rfl, g⟩
        have G := HH.out.2.trans g
        clear g c0 c1 lV
        go_wp2_with fail
        go_ret
        exact ⟨by first | rfl | (simp; omega), G⟩
      · have E : ra = o := by rw [EA.out, decide_eq_false (show ¬ d < n by omega), decide_eq_true (show d = n by omega)]; simp
        subst E
        obtain rfl : d = n := by omega
        clear EA
        go_wp2_with fail
        refine (BA.out _ HH.out.2).mono ?_
        rintro e w3 ⟨rfl, g⟩
        have G := HH.out.2.trans g
        clear g c0 c1 lV
        go_wp2_with fail
        go_ret
        exact ⟨by first | rfl | (simp; omega), G⟩
      · have E : ra = false := by rw [EA.out, decide_eq_false (show ¬ d < n by omega), decide_eq_false (show ¬ d = n by omega)]; rfl
        subst E
        have e7 : ¬ (d : Int) < (n : Int) := by omega
        have e8 : ((d : Int) == (n : Int)) = false := by rw [beq_eq_false_iff_ne]; omega
        have e9 : ¬ (d : Int) = (n : Int) := by omega
        clear EA
        go_wp2_with fail
        refine (BA.out _ HH.out.2).mono ?_
        rintro e w3 ⟨rfl, g⟩
        have G := HH.out.2.trans g
        clear g c0 c1 lV
        go_wp2_with fail
        go_ret
        exact ⟨by first | rfl | (simp; omega), G⟩
end Ry
end Go.Proofs.YtcihkpjdjenbjaaDoor
