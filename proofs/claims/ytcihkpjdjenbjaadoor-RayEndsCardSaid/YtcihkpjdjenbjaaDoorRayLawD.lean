/-
  Under what the packages ray and hull owe: the law RaySectors returns true.
-/
import Derived.Test.YtcihkpjdjenbjaaDoorRayLawA
import Derived.Test.YtcihkpjdjenbjaaDoorHullSm
namespace Go.Proofs.YtcihkpjdjenbjaaDoor
open Go.RowKit Hl Ex
namespace Ry
set_option maxRecDepth 100000

theorem vl_sec {a n : Nat} {lo hi : Int} {q : List Pt} (h0 : 0 ≤ lo) (h1 : lo ≤ hi) (h2 : hi ≤ 100000) (h : IsHull (secL a n lo hi) q) (h64 : q.length ≤ 64) : Vl q := vl_of h.1 h64 (hull_plcs h (secL_plcs h0 h1 h2))
theorem sqb {a b : Int} (h : -b ≤ a) (h' : a ≤ b) : 0 ≤ a * a ∧ a * a ≤ b * b := by
  refine ⟨sq0 a, ?_⟩
  rw [← Int.natAbs_mul_self, ← Int.natAbs_mul_self (a := b)]
  have h1 : a.natAbs ≤ b.natAbs := by omega
  have h2 : a.natAbs * a.natAbs ≤ b.natAbs * b.natAbs := Nat.mul_le_mul h1 h1
  omega
set_option maxHeartbeats 8000000 in
theorem sectors_true {T : World → Prop} (F : Code T) (K : Hl.Code) (f m x y lo more : Int) (w : World) (hT : T w) (hf : 0 ≤ f ∧ f ≤ 255) (hm : 0 ≤ m ∧ m ≤ 255) (hx : 0 ≤ x ∧ x ≤ 65535) (hy : 0 ≤ y ∧ y ≤ 65535) (hlo : 0 ≤ lo ∧ lo ≤ 65535) (hmo : 0 ≤ more ∧ more ≤ 65535) : Calls Tryd.prog 7 #[.int .u8 f, .int .u8 m, .int .u16 x, .int .u16 y, .int .u16 lo, .int .u16 more] w fun e w' => e = .returned (.bool true) ∧ Grew w w' := by
  have TK := Lib.hid (fun W (g : Grew w W) => F.keep w W g hT)
  have HC := Lib.hid (fun W g => head_true F W (TK.out W g))
  have x0 := hx.1
  have x1 := hx.2
  have y0 := hy.1
  have y1 := hy.2
  have PC := Lib.hid (fun W => place_9 x y W hx hy)
  have VV := plv_vec hx hy
  have VS := plv_small hx hy
  generalize plv x y = v at PC VV VS
  obtain ⟨f0, f1⟩ := hf
  obtain ⟨m0, m1⟩ := hm
  obtain ⟨lo0, lo1⟩ := hlo
  obtain ⟨mo0, mo1⟩ := hmo
  obtain ⟨a, ha⟩ : ∃ a : Nat, f % 64 = (a : Int) := ⟨(f % 64).toNat, by omega⟩
  have ta : f.tmod 64 = (a : Int) := by rw [Int.tmod_eq_emod_of_nonneg (by omega)]; exact ha
  obtain ⟨n, hn⟩ : ∃ n : Nat, m % 32 = (n : Int) := ⟨(m % 32).toNat, by omega⟩
  have tn : m.tmod 32 = (n : Int) := by rw [Int.tmod_eq_emod_of_nonneg (by omega)]; exact hn
  have a64 : a < 64 := by omega
  have n31 : n ≤ 31 := by omega
  obtain ⟨l, hl⟩ : ∃ l : Int, lo % 60000 = l := ⟨_, rfl⟩
  have tl : lo.tmod 60000 = l := by rw [Int.tmod_eq_emod_of_nonneg (by omega)]; exact hl
  obtain ⟨u, hu⟩ : ∃ u : Int, more % 40000 = u := ⟨_, rfl⟩
  have tu : more.tmod 40000 = u := by rw [Int.tmod_eq_emod_of_nonneg (by omega)]; exact hu
  have l0 : 0 ≤ l := by omega
  have l1 : l ≤ 59999 := by omega
  have u0 : 0 ≤ u := by omega
  have u1 : u ≤ 39999 := by omega
  have S1 := Lib.hid (fun W g => F.fns.sec a n l (l + u) W (TK.out W g) a64 n31 ⟨l0, by omega, by omega⟩)
  have LR := Lib.hid (fun W => lies_r a n v W a64 n31 (by have := VS; unfold Nr; omega))
  have PV : Hid (Plc v) := Lib.hid (by have := VS; unfold Plc; omega)
  have YV := Lib.hid (fun q (hq : IsHull (secL a n l (l + u)) q) (h64 : q.length ≤ 64) => vl_sec l0 (by omega) (by omega) hq h64)
  have YH := Lib.hid (fun q (hq : IsHull (secL a n l (l + u)) q) => sec_has a64 n31 l0 (by omega) hq VV.2)
  obtain ⟨p0, p1⟩ := sqb (a := v.1) (b := 40000) (by have := VS; omega) (by have := VS; omega)
  obtain ⟨p2, p3⟩ := sqb (a := v.2) (b := 40000) (by have := VS; omega) (by have := VS; omega)
  obtain ⟨p4, p5⟩ := sqb (a := l) (b := 60000) (by omega) (by omega)
  obtain ⟨p6, p7⟩ := sqb (a := l + u) (b := 100000) (by omega) (by omega)
  obtain ⟨r, hr⟩ : ∃ r : Bool, decide (Lies a n v) = r := ⟨_, rfl⟩
  have HR : Hid (r = true → Lies a n v) := Lib.hid (fun h => of_decide_eq_true (hr.trans h))
  rw [hr] at LR
  clear TK hT F VV VS hr
  have a0 : (0 : Int) ≤ (a : Int) := by omega
  have a1 : (a : Int) < 64 := by omega
  have n0 : (0 : Int) ≤ (n : Int) := by omega
  have n1 : (n : Int) ≤ 31 := by omega
  have KC := Lib.hid K
  clear K hx hy
  go_enter Tryd.func7, Tryd.ntmps7
  go_wp2_with fail
  refine (HC.out _ (Grew.refl _)).mono ?_
  rintro e w1 ⟨rfl, G1⟩
  go_wp2_with fail
  refine (PC.out _).mono ?_
  rintro e w2 ⟨rfl, g⟩
  have G2 := Lib.hid ((G1.trans g).alloc #[.int .i64 v.1, .int .i64 v.2] 23)
  have kV := Lib.hid (Blk.new w2 #[.int .i64 v.1, .int .i64 v.2] 23)
  clear g G1
  have kV := Lib.hid (kV.out.alloc (.cells #[.int .i64 l, .int .i64 (l + u)] 25))
  have kD := Lib.hid (show Blk ((w2.alloc (.cells #[.int .i64 v.1, .int .i64 v.2] 23)).alloc (.cells #[.int .i64 l, .int .i64 (l + u)] 25)) (w2.heap.size + 1) #[.int .i64 l, .int .i64 (l + u)] 25 from blk_newS (by simp))
  have G2 := Lib.hid (G2.out.alloc #[.int .i64 l, .int .i64 (l + u)] 25)
  go_wp2_with fail
  refine (S1.out _ G2.out).mono ?_
  rintro e w3 ⟨q, vq, hq, h64, rfl, hs, g⟩
  have G2 := Lib.hid (G2.out.trans g)
  have kV := Lib.hid (kV.out.grown g)
  have kD := Lib.hid (kD.out.grown g)
  have HV : Hid (Vl q) := Lib.hid (YV.out q hq h64)
  have HS := Lib.hid hs
  have YQ := Lib.hid (YH.out q hq)
  have Q64 := Lib.hid h64
  clear g hs hq h64 YV YH S1
  go_wp2_with fail
  refine (KC.out.valid q vq _ HS.out (by have := Q64.out; omega)).mono ?_
  rintro e w4 hv
  obtain ⟨rfl, g⟩ := hv.to HV.out
  have G2 := Lib.hid (G2.out.trans g)
  have kV := Lib.hid (kV.out.grown g)
  have kD := Lib.hid (kD.out.grown g)
  have HS := Lib.hid (HS.out.grown g)
  clear g hv
  obtain ⟨⟨c0, c1⟩, _, _⟩ := kV.out.two
  have lV := kV.out.lt
  go_wp2_with fail
  refine (LR.out _).mono ?_
  rintro e w5 ⟨rfl, g⟩
  have G2 := Lib.hid (G2.out.trans g)
  have kV := Lib.hid (kV.out.grown g)
  have kD := Lib.hid (kD.out.grown g)
  have HS := Lib.hid (HS.out.grown g)
  clear g c0 c1 lV
  obtain ⟨⟨d0, d1⟩, _, _⟩ := kD.out.two
  have lD := kD.out.lt
  obtain ⟨⟨c0, c1⟩, _, _⟩ := kV.out.two
  have lV := kV.out.lt
  cases r
  · go_wp2_with fail
    go_ret
    exact ⟨rfl, G2.out⟩
  · by_cases e1 : v.1 * v.1 + v.2 * v.2 < l * l
    · go_wp2_with fail
      go_ret
      exact ⟨rfl, G2.out⟩
    · by_cases e2 : (l + u) * (l + u) < v.1 * v.1 + v.2 * v.2
      · go_wp2_with fail
        go_ret
        exact ⟨rfl, G2.out⟩
      · have HX := Lib.hid (YQ.out (HR.out rfl) (show l * l ≤ v.1 * v.1 + v.2 * v.2 by omega) (show v.1 * v.1 + v.2 * v.2 ≤ (l + u) * (l + u) by omega))
        go_wp2_with fail
        refine (has_yes KC.out q v vq _ HS.out HV.out PV.out HX.out).mono ?_
        rintro e w6 ⟨rfl, g⟩
        have G2 := Lib.hid (G2.out.trans g)
        clear g
        go_wp2_with fail
        go_ret
        exact ⟨rfl, G2.out⟩
end Ry
end Go.Proofs.YtcihkpjdjenbjaaDoor
