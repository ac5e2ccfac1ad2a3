/-
  Under what package ray owes: the laws RayTurns and RayJoins return true.
-/
import Derived.Test.YtcihkpjdjenbjaaDoorRayLawA
namespace Go.Proofs.YtcihkpjdjenbjaaDoor
open Go.RowKit Hl Ex
namespace Ry
set_option maxRecDepth 100000

theorem Fd.on_self {v : Pt} {k : Nat} (f : Fd v k) : On k v ↔ sd k v = 0 := by
  have := f.lt
  rw [f.on_iff (by omega)]
  exact ⟨fun h => h.2, fun h => ⟨by omega, h⟩⟩
theorem Fd.sd_lf_eq {v : Pt} {k : Nat} (f : Fd v k) : sd ((k + 16) % 64) (Ry.lf v) = sd k v := by
  have := f.lt
  rw [sd_mod _ (by omega), sd_lf]
theorem turns_lies {v : Pt} (hv : v ≠ (0, 0)) {a n : Nat} (ha : a < 64) (hn : n ≤ 31) : Lies ((a + 16) % 64) n (lf v) ↔ Lies a n v := by
  obtain ⟨k, f⟩ := found hv
  have hk := f.lt
  rw [f.lf.lies_iff (Nat.mod_lt _ (by decide)) hn, f.lies_iff ha hn, f.sd_lf_eq]
  have e : ((k + 16) % 64 + 64 - (a + 16) % 64) % 64 = (k + 64 - a) % 64 := by omega
  rw [e]
theorem lf_ne {v : Pt} (hv : v ≠ (0, 0)) : lf v ≠ (0, 0) := fun e => by
  unfold lf at e
  have e1 := congrArg Prod.fst e
  have e2 := congrArg Prod.snd e
  simp only at e1 e2
  exact hv (Prod.ext e2 (by simp only; omega))
theorem turns_kf {v : Pt} (hv : v ≠ (0, 0)) : kf (lf v) = (kf v + 16) % 64 := kf_is (kf_fd hv).lf (lf_ne hv)
theorem turns_on {v : Pt} (hv : v ≠ (0, 0)) : On (kf (lf v)) (lf v) ↔ On (kf v) v := by
  rw [turns_kf hv, (kf_fd hv).lf.on_self, (kf_fd hv).on_self, (kf_fd hv).sd_lf_eq]
theorem joins_lies {v : Pt} (hv : v ≠ (0, 0)) {a n m : Nat} (ha : a < 64) (hn : n + m ≤ 31) : Lies a (n + m) v ↔ (Lies a n v ∨ Lies ((a + n) % 64) m v) := by
  obtain ⟨k, f⟩ := found hv
  have hk := f.lt
  rw [f.lies_iff ha hn, f.lies_iff ha (by omega), f.lies_iff (Nat.mod_lt _ (by decide)) (by omega)]
  have e : (k + 64 - (a + n) % 64) % 64 = ((k + 64 - a) % 64 + 64 - n) % 64 := by omega
  rw [e]
  have hm := Nat.mod_lt (k + 64 - a) (show 0 < 64 by decide)
  generalize (k + 64 - a) % 64 = d at *
  by_cases z : sd k v = 0
  · simp only [z, and_true]
    by_cases h : n ≤ d
    · rw [show (d + 64 - n) % 64 = d - n by omega]; omega
    · rw [show (d + 64 - n) % 64 = d + 64 - n by omega]; omega
  · simp only [z, and_false, or_false]
    by_cases h : n ≤ d
    · rw [show (d + 64 - n) % 64 = d - n by omega]; omega
    · rw [show (d + 64 - n) % 64 = d + 64 - n by omega]; omega
theorem dec_congr {p q : Prop} [Decidable p] [Decidable q] (h : p ↔ q) : decide p = decide q := by
  by_cases hp : p
  · rw [decide_eq_true hp, decide_eq_true (h.1 hp)]
  · rw [decide_eq_false hp, decide_eq_false (fun hq => hp (h.2 hq))]
set_option maxHeartbeats 4000000 in
theorem turns_true {T : World → Prop} (F : Code T) (x y f m : Int) (w : World) (hT : T w) (hx : 0 ≤ x ∧ x ≤ 65535) (hy : 0 ≤ y ∧ y ≤ 65535) (hf : 0 ≤ f ∧ f ≤ 255) (hm : 0 ≤ m ∧ m ≤ 255) : Calls Tryd.prog 5 #[.int .u16 x, .int .u16 y, .int .u8 f, .int .u8 m] w fun e w' => e = .returned (.bool true) ∧ Grew w w' := by
  have TK := Lib.hid (fun W (g : Grew w W) => F.keep w W g hT)
  have HC := Lib.hid (fun W g => head_true F W (TK.out W g))
  have x0 := hx.1
  have x1 := hx.2
  have y0 := hy.1
  have y1 := hy.2
  have PC := Lib.hid (fun W => place_9 x y W hx hy)
  have VV := plv_vec hx hy
  have VS := plv_small hx hy
  generalize plv x y = v at PC VV VS
  obtain ⟨f0, f1⟩ := hf
  obtain ⟨m0, m1⟩ := hm
  obtain ⟨a, ha⟩ : ∃ a : Nat, f % 64 = (a : Int) := ⟨(f % 64).toNat, by omega⟩
  have ta : f.tmod 64 = (a : Int) := by rw [Int.tmod_eq_emod_of_nonneg (by omega)]; exact ha
  obtain ⟨n, hn⟩ : ∃ n : Nat, m % 32 = (n : Int) := ⟨(m % 32).toNat, by omega⟩
  have tn : m.tmod 32 = (n : Int) := by rw [Int.tmod_eq_emod_of_nonneg (by omega)]; exact hn
  have a64 : a < 64 := by omega
  have n31 : n ≤ 31 := by omega
  obtain ⟨a', ha'⟩ : ∃ a' : Nat, (a + 16) % 64 = a' := ⟨_, rfl⟩
  have s1 : ((a : Int) + 16) % 64 = (a' : Int) := by omega
  have s2 : ((a : Int) + 16).tmod 64 = (a' : Int) := by rw [Int.tmod_eq_emod_of_nonneg (by omega)]; exact s1
  have TC := Lib.hid (fun W => turned_r v W (by have := VS; unfold Nr; omega))
  have VL : Vec (lf v) := ⟨by have := VS; unfold lf; simp only; omega, lf_ne VV.2⟩
  have B1 := Lib.hid (fun W g => F.fns.bet a n v W (TK.out W g) a64 n31 VV)
  have B2 := Lib.hid (fun W g => F.fns.bet a' n (lf v) W (TK.out W g) (by omega) n31 VL)
  have O1 := Lib.hid (fun W g => F.fns.ofv v W (TK.out W g) VV)
  have O2 := Lib.hid (fun W g => F.fns.ofv (lf v) W (TK.out W g) VL)
  have E1 : decide (Lies a' n (lf v)) = decide (Lies a n v) := dec_congr (by rw [← ha']; exact turns_lies VV.2 a64 n31)
  have E2 : decide (On (kf (lf v)) (lf v)) = decide (On (kf v) v) := dec_congr (turns_on VV.2)
  have E3 := turns_kf VV.2
  have K64 := (kf_fd VV.2).lt
  unfold BetIs at B1 B2
  unfold OfIs at O1 O2
  rw [E1] at B2
  rw [E2, E3] at O2
  generalize decide (Lies a n v) = b at B1 B2
  generalize decide (On (kf v) v) = r at O1 O2
  generalize kf v = k at O1 O2 K64
  obtain ⟨k', hk'⟩ : ∃ k' : Nat, (k + 16) % 64 = k' := ⟨_, rfl⟩
  have s3 : ((k : Int) + 16) % 64 = (k' : Int) := by omega
  have s4 : ((k : Int) + 16).tmod 64 = (k' : Int) := by rw [Int.tmod_eq_emod_of_nonneg (by omega)]; exact s3
  rw [hk'] at O2
  have k0 : (0 : Int) ≤ (k : Int) := by omega
  have k1 : (k : Int) < 64 := by omega
  have a0 : (0 : Int) ≤ (a : Int) := by omega
  have a1 : (a : Int) < 64 := by omega
  generalize lf v = u at TC B2 O2
  clear TK hT F E1 E2 E3 hk' ha' VV VL VS K64 hx hy
  go_enter Tryd.func5, Tryd.ntmps5
  go_wp2_with fail
  refine (HC.out _ (Grew.refl _)).mono ?_
  rintro e w1 ⟨rfl, G1⟩
  go_wp2_with fail
  refine (PC.out _).mono ?_
  rintro e w2 ⟨rfl, g⟩
  have G2 := Lib.hid ((G1.trans g).alloc #[.int .i64 v.1, .int .i64 v.2] 23)
  have kV := Lib.hid (Blk.new w2 #[.int .i64 v.1, .int .i64 v.2] 23)
  clear g G1
  obtain ⟨⟨c0, c1⟩, _, _⟩ := kV.out.two
  have lV := kV.out.lt
  go_wp2_with fail
  refine (TC.out _).mono ?_
  rintro e w3 ⟨rfl, g⟩
  have G2 := Lib.hid ((G2.out.trans g).alloc #[.int .i64 u.1, .int .i64 u.2] 23)
  have kV := Lib.hid ((kV.out.grown g).alloc (.cells #[.int .i64 u.1, .int .i64 u.2] 23))
  have kU := Lib.hid (Blk.new w3 #[.int .i64 u.1, .int .i64 u.2] 23)
  clear g c0 c1 lV
  obtain ⟨⟨c0, c1⟩, _, _⟩ := kV.out.two
  have lV := kV.out.lt
  go_wp2_with fail
  refine (B1.out _ G2.out).mono ?_
  rintro e w3 ⟨rfl, g⟩
  have G2 := Lib.hid (G2.out.trans g)
  have kV := Lib.hid (kV.out.grown g)
  have kU := Lib.hid (kU.out.grown g)
  clear g
  clear c0 c1 lV
  obtain ⟨⟨c0, c1⟩, _, _⟩ := kU.out.two
  have lV := kU.out.lt
  go_wp2_with fail
  refine (B2.out _ G2.out).mono ?_
  rintro e w3 ⟨rfl, g⟩
  have G2 := Lib.hid (G2.out.trans g)
  have kV := Lib.hid (kV.out.grown g)
  have kU := Lib.hid (kU.out.grown g)
  clear g
  clear c0 c1 lV
  obtain ⟨⟨c0, c1⟩, _, _⟩ := kV.out.two
  have lV := kV.out.lt
  go_wp2_with fail
  refine (O1.out _ G2.out).mono ?_
  rintro e w3 ⟨rfl, g⟩
  have G2 := Lib.hid (G2.out.trans g)
  have kV := Lib.hid (kV.out.grown g)
  have kU := Lib.hid (kU.out.grown g)
  clear g
  clear c0 c1 lV
  obtain ⟨⟨c0, c1⟩, _, _⟩ := kU.out.two
  have lV := kU.out.lt
  go_wp2_with fail
  refine (O2.out _ G2.out).mono ?_
  rintro e w3 ⟨rfl, g⟩
  have G2 := Lib.hid (G2.out.trans g)
  go_wp2_with fail
  go_ret
  exact ⟨rfl, G2.out⟩
set_option maxHeartbeats 4000000 in
theorem joins_true {T : World → Prop} (F : Code T) (x y f p q : Int) (w : World) (hT : T w) (hx : 0 ≤ x ∧ x ≤ 65535) (hy : 0 ≤ y ∧ y ≤ 65535) (hf : 0 ≤ f ∧ f ≤ 255) (hp : 0 ≤ p ∧ p ≤ 255) (hq : 0 ≤ q ∧ q ≤ 255) : Calls Tryd.prog 6 #[.int .u16 x, .int .u16 y, .int .u8 f, .int .u8 p, .int .u8 q] w fun e w' => e = .returned (.bool true) ∧ Grew w w' := by
  have TK := Lib.hid (fun W (g : Grew w W) => F.keep w W g hT)
  have HC := Lib.hid (fun W g => head_true F W (TK.out W g))
  have x0 := hx.1
  have x1 := hx.2
  have y0 := hy.1
  have y1 := hy.2
  have PC := Lib.hid (fun W => place_9 x y W hx hy)
  have VV := plv_vec hx hy
  have VS := plv_small hx hy
  generalize plv x y = v at PC VV VS
  obtain ⟨f0, f1⟩ := hf
  obtain ⟨p0, p1⟩ := hp
  obtain ⟨q0, q1⟩ := hq
  obtain ⟨a, ha⟩ : ∃ a : Nat, f % 64 = (a : Int) := ⟨(f % 64).toNat, by omega⟩
  have ta : f.tmod 64 = (a : Int) := by rw [Int.tmod_eq_emod_of_nonneg (by omega)]; exact ha
  obtain ⟨n, hn⟩ : ∃ n : Nat, p % 32 = (n : Int) := ⟨(p % 32).toNat, by omega⟩
  have tn : p.tmod 32 = (n : Int) := by rw [Int.tmod_eq_emod_of_nonneg (by omega)]; exact hn
  have a64 : a < 64 := by omega
  have n31 : n ≤ 31 := by omega
  obtain ⟨d, hd⟩ : ∃ d : Nat, (32 : Int) - (n : Int) = (d : Int) := ⟨32 - n, by omega⟩
  have d0 : (d : Int) ≠ 0 := by omega
  have d1 : ((d : Int) == 0) = false := by rw [beq_eq_false_iff_ne]; exact d0
  have d2 : ¬ d = 0 := by omega
  obtain ⟨m, hm⟩ : ∃ m : Nat, q % (d : Int) = (m : Int) := ⟨(q % (d : Int)).toNat, by have := Int.emod_nonneg q d0; omega⟩
  have tm : q.tmod (d : Int) = (m : Int) := by rw [Int.tmod_eq_emod_of_nonneg (by omega)]; exact hm
  have mlt : (m : Int) < (d : Int) := by rw [← hm]; exact Int.emod_lt_of_pos q (by omega)
  obtain ⟨a', ha'⟩ : ∃ a' : Nat, (a + n) % 64 = a' := ⟨_, rfl⟩
  have s1 : ((a : Int) + (n : Int)) % 64 = (a' : Int) := by omega
  have s2 : ((a : Int) + (n : Int)).tmod 64 = (a' : Int) := by rw [Int.tmod_eq_emod_of_nonneg (by omega)]; exact s1
  have B1 := Lib.hid (fun W g => F.fns.bet a n v W (TK.out W g) a64 n31 VV)
  have B2 := Lib.hid (fun W g => F.fns.bet a' m v W (TK.out W g) (by omega) (by omega) VV)
  have B3 : Hid (∀ W, Grew w W → Calls Tryd.prog 12 #[.int .i64 a, .int .i64 ((n : Int) + (m : Int)), .agg #[.int .i64 v.1, .int .i64 v.2]] W (BetIs a (n + m) v W)) := Lib.hid (fun W g => by
    have h := F.fns.bet a (n + m) v W (TK.out W g) a64 (by omega) VV
    rwa [Int.natCast_add] at h)
  have E1 : Hid (decide (Lies a (n + m) v) = (decide (Lies a n v) || decide (Lies a' m v))) := Lib.hid (by
    rw [← ha', ← Bool.decide_or]
    exact dec_congr (joins_lies VV.2 a64 (by omega)))
  unfold BetIs at B1 B2 B3
  generalize decide (Lies a n v) = r1 at B1 E1
  generalize decide (Lies a' m v) = r2 at B2 E1
  generalize decide (Lies a (n + m) v) = r3 at B3 E1
  have m0 : (0 : Int) ≤ (m : Int) := by omega
  have m1 : (m : Int) ≤ 31 := by omega
  have a0 : (0 : Int) ≤ (a : Int) := by omega
  have a1 : (a : Int) < 64 := by omega
  have n0 : (0 : Int) ≤ (n : Int) := by omega
  have n1 : (n : Int) ≤ 31 := by omega
  clear TK hT F ha' VV VS hx hy mlt
  go_enter Tryd.func6, Tryd.ntmps6
  go_wp2_with fail
  refine (HC.out _ (Grew.refl _)).mono ?_
  rintro e w1 ⟨rfl, G1⟩
  go_wp2_with fail
  refine (PC.out _).mono ?_
  rintro e w2 ⟨rfl, g⟩
  have G2 := Lib.hid ((G1.trans g).alloc #[.int .i64 v.1, .int .i64 v.2] 23)
  have kV := Lib.hid (Blk.new w2 #[.int .i64 v.1, .int .i64 v.2] 23)
  clear g G1
  obtain ⟨⟨c0, c1⟩, _, _⟩ := kV.out.two
  have lV := kV.out.lt
  go_wp2_with fail
  refine (B1.out _ G2.out).mono ?_
  rintro e w3 ⟨rfl, g⟩
  have G2 := Lib.hid (G2.out.trans g)
  have kV := Lib.hid (kV.out.grown g)
  clear g
  clear c0 c1 lV
  obtain ⟨⟨c0, c1⟩, _, _⟩ := kV.out.two
  have lV := kV.out.lt
  go_wp2_with fail
  refine (B2.out _ G2.out).mono ?_
  rintro e w3 ⟨rfl, g⟩
  have G2 := Lib.hid (G2.out.trans g)
  have kV := Lib.hid (kV.out.grown g)
  clear g
  clear c0 c1 lV
  obtain ⟨⟨c0, c1⟩, _, _⟩ := kV.out.two
  have lV := kV.out.lt
  go_wp2_with fail
  refine (B3.out _ G2.out).mono ?_
  rintro e w3 ⟨rfl, g⟩
  have G2 := Lib.hid (G2.out.trans g)
  obtain rfl := E1.out
  clear E1 g c0 c1 lV
  cases r1 <;> cases r2
  all_goals
    go_wp2_with fail
    go_ret
    exact ⟨rfl, G2.out⟩
end Ry
end Go.Proofs.YtcihkpjdjenbjaaDoor
