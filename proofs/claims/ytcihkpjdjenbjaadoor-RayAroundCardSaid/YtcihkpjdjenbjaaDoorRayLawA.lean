/-
  Under what package ray owes: the law RayMatchesReference returns true.
-/
import Derived.Test.YtcihkpjdjenbjaaDoorRayHead
namespace Go.Proofs.YtcihkpjdjenbjaaDoor
open Go.RowKit Hl Ex
namespace Ry
set_option maxRecDepth 100000

def OkR (k : Int) : Prop := 0 ≤ k ∧ k < 64
def OkB (a n : Int) (v : Pt) : Prop := (0 ≤ a ∧ a < 64) ∧ (0 ≤ n ∧ n ≤ 31) ∧ Vec v
def OkS (a n lo hi : Int) : Prop := (0 ≤ a ∧ a < 64) ∧ (0 ≤ n ∧ n ≤ 31) ∧ Dst lo hi
instance (k : Int) : Decidable (OkR k) := by unfold OkR; infer_instance
instance (v : Pt) : Decidable (Vec v) := by unfold Vec; infer_instance
instance (a n : Int) (v : Pt) : Decidable (OkB a n v) := by unfold OkB; infer_instance
def ryX (k : Int) : Pt := if OkR k then dir k.toNat else (0, 0)
def ryE (k : Int) : Int := if OkR k then 0 else 1
def btB (a n : Int) (v : Pt) : Bool := if OkB a n v then decide (Lies a.toNat n.toNat v) else false
def btE (a n : Int) (v : Pt) : Int := if OkB a n v then 0 else 1
noncomputable def ofK (v : Pt) : Int := if Vec v then (kf v : Int) else 0
noncomputable def ofB (v : Pt) : Bool := if Vec v then decide (On (kf v) v) else false
def ofE (v : Pt) : Int := if Vec v then 0 else 1
def SecP (a n lo hi : Int) (k : Int) (l : List Pt) : Prop := (OkS a n lo hi ∧ k = 0 ∧ IsHull (secL a.toNat n.toNat lo hi) l ∧ l.length ≤ 64) ∨ (¬ OkS a n lo hi ∧ k = 1 ∧ l = [])
theorem SecP.one {a n lo hi k k' : Int} {l l' : List Pt} (h : SecP a n lo hi k l) (h' : SecP a n lo hi k' l') : k = k' ∧ l = l' := by
  rcases h with ⟨h1, h2, h3, _⟩ | ⟨h1, h2, h3⟩ <;> rcases h' with ⟨g1, g2, g3, _⟩ | ⟨g1, g2, g3⟩
  · exact ⟨by omega, hull_unique h3 g3⟩
  · exact absurd h1 g1
  · exact absurd g1 h1
  · exact ⟨by omega, by rw [h3, g3]⟩
theorem SecP.few {a n lo hi k : Int} {l : List Pt} (h : SecP a n lo hi k l) : l.length ≤ 64 := by
  rcases h with ⟨_, _, _, h⟩ | ⟨_, _, h⟩
  · exact h
  · rw [h]; decide
variable {T : World → Prop} {fr fb fo fs : Nat}
theorem Fns.rayA (F : Fns T fr fb fo fs) (k : Int) (w : World) (hT : T w) : Calls Tryd.prog fr #[.int .i64 k] w fun e w' => e = .returned (.tuple #[.agg #[.int .i64 (ryX k).1, .int .i64 (ryX k).2], .int .i64 (ryE k)]) ∧ Grew w w' := by
  unfold ryX ryE
  by_cases h : OkR k
  · rw [if_pos h, if_pos h]
    have g := F.ray k.toNat w hT (by unfold OkR at h; omega)
    rwa [show ((k.toNat : Nat) : Int) = k by unfold OkR at h; omega] at g
  · rw [if_neg h, if_neg h]
    exact F.ray_bad k w h
theorem Fns.betA (F : Fns T fr fb fo fs) (a n : Int) (v : Pt) (w : World) (hT : T w) : Calls Tryd.prog fb #[.int .i64 a, .int .i64 n, .agg #[.int .i64 v.1, .int .i64 v.2]] w fun e w' => e = .returned (.tuple #[.bool (btB a n v), .int .i64 (btE a n v)]) ∧ Grew w w' := by
  unfold btB btE
  by_cases h : OkB a n v
  · rw [if_pos h, if_pos h]
    obtain ⟨h1, h2, h3⟩ := h
    have g := F.bet a.toNat n.toNat v w hT (by omega) (by omega) h3
    rwa [show ((a.toNat : Nat) : Int) = a by omega, show ((n.toNat : Nat) : Int) = n by omega] at g
  · rw [if_neg h, if_neg h]
    exact F.bet_bad a n v w h
theorem Fns.ofA (F : Fns T fr fb fo fs) (v : Pt) (w : World) (hT : T w) : Calls Tryd.prog fo #[.agg #[.int .i64 v.1, .int .i64 v.2]] w fun e w' => e = .returned (.tuple #[.int .i64 (ofK v), .bool (ofB v), .int .i64 (ofE v)]) ∧ Grew w w' := by
  unfold ofK ofB ofE
  by_cases h : Vec v
  · rw [if_pos h, if_pos h, if_pos h]
    exact F.ofv v w hT h
  · rw [if_neg h, if_neg h, if_neg h]
    exact F.ofv_bad v w h
def SecAns (a n lo hi : Int) (w : World) (e : Ending) (w' : World) : Prop := ∃ v l k, SecP a n lo hi k l ∧ e = .returned (.tuple #[v, .int .i64 k]) ∧ Sl w' v l ∧ Grew w w'
theorem Fns.secA (F : Fns T fr fb fo fs) (a n lo hi : Int) (w : World) (hT : T w) : Calls Tryd.prog fs #[.int .i64 a, .int .i64 n, .agg #[.int .i64 lo, .int .i64 hi]] w (SecAns a n lo hi w) := by
  by_cases h : OkS a n lo hi
  · have hh := h
    obtain ⟨h1, h2, h3⟩ := h
    have g := F.sec a.toNat n.toNat lo hi w hT (by omega) (by omega) h3
    rw [show ((a.toNat : Nat) : Int) = a by omega, show ((n.toNat : Nat) : Int) = n by omega] at g
    refine g.mono ?_
    rintro e w' ⟨q, v, hq, h64, rfl, hs, g'⟩
    exact ⟨v, q, 0, Or.inl ⟨hh, rfl, hq, h64⟩, rfl, hs, g'⟩
  · refine (F.sec_bad a n lo hi w h).mono ?_
    rintro e w' ⟨v, rfl, hs, g'⟩
    exact ⟨v, [], 1, Or.inr ⟨h, rfl, rfl⟩, rfl, hs, g'⟩
set_option maxHeartbeats 4000000 in
theorem match_true (F : Code T) (a n : Int) (v : Pt) (lo hi : Int) (w : World) (hT : T w) : Calls Tryd.prog 3 #[.int .i64 a, .int .i64 n, .agg #[.int .i64 v.1, .int .i64 v.2], .agg #[.int .i64 lo, .int .i64 hi]] w fun e w' => e = .returned (.bool true) ∧ Grew w w' := by
  have TK := Lib.hid (fun W (g : Grew w W) => F.keep w W g hT)
  have RR := ref T
  have HC := Lib.hid (fun W g => head_true F W (TK.out W g))
  have R1 := Lib.hid (fun W g => F.fns.rayA a W (TK.out W g))
  have R2 := Lib.hid (fun W g => RR.rayA a W (TK.out W g))
  have B1 := Lib.hid (fun W g => F.fns.betA a n v W (TK.out W g))
  have B2 := Lib.hid (fun W g => RR.betA a n v W (TK.out W g))
  have O1 := Lib.hid (fun W g => F.fns.ofA v W (TK.out W g))
  have O2 := Lib.hid (fun W g => RR.ofA v W (TK.out W g))
  have S1 := Lib.hid (fun W g => F.fns.secA a n lo hi W (TK.out W g))
  have S2 := Lib.hid (fun W g => RR.secA a n lo hi W (TK.out W g))
  generalize ryX a = x at R1 R2
  generalize ryE a = xe at R1 R2
  generalize btB a n v = b at B1 B2
  generalize btE a n v = be at B1 B2
  generalize ofK v = o at O1 O2
  generalize ofB v = ob at O1 O2
  generalize ofE v = oe at O1 O2
  have kV := Lib.hid ((Blk.new w #[.int .i64 v.1, .int .i64 v.2] 23).alloc (.cells #[.int .i64 lo, .int .i64 hi] 25))
  have kD := Lib.hid (show Blk ((w.alloc (.cells #[.int .i64 v.1, .int .i64 v.2] 23)).alloc (.cells #[.int .i64 lo, .int .i64 hi] 25)) (w.heap.size + 1) #[.int .i64 lo, .int .i64 hi] 25 from blk_newS (by simp))
  have G0 : Grew w ((w.alloc (.cells #[.int .i64 v.1, .int .i64 v.2] 23)).alloc (.cells #[.int .i64 lo, .int .i64 hi] 25)) := ((Grew.refl w).alloc _ _).alloc _ _
  clear TK RR hT F
  go_enter Tryd.func3, Tryd.ntmps3
  go_wp2_with fail
  refine (HC.out _ G0).mono ?_
  rintro e w1 ⟨rfl, g⟩
  have G := Lib.hid (G0.trans g)
  have kV := Lib.hid (kV.out.grown g)
  have kD := Lib.hid (kD.out.grown g)
  clear g G0
  go_wp2_with fail
  refine (R1.out _ G.out).mono ?_
  rintro e w2 ⟨rfl, g⟩
  have G := Lib.hid ((G.out.trans g).alloc #[.int .i64 x.1, .int .i64 x.2] 23)
  have kV := Lib.hid ((kV.out.grown g).alloc (.cells #[.int .i64 x.1, .int .i64 x.2] 23))
  have kD := Lib.hid ((kD.out.grown g).alloc (.cells #[.int .i64 x.1, .int .i64 x.2] 23))
  have kX := Lib.hid (Blk.new w2 #[.int .i64 x.1, .int .i64 x.2] 23)
  clear g
  go_wp2_with fail
  refine (R2.out _ G.out).mono ?_
  rintro e w3 ⟨rfl, g⟩
  have G := Lib.hid ((G.out.trans g).alloc #[.int .i64 x.1, .int .i64 x.2] 23)
  have kV := Lib.hid ((kV.out.grown g).alloc (.cells #[.int .i64 x.1, .int .i64 x.2] 23))
  have kD := Lib.hid ((kD.out.grown g).alloc (.cells #[.int .i64 x.1, .int .i64 x.2] 23))
  have kX := (kX.out.grown g)
  obtain ⟨⟨x0, x1⟩, _, _⟩ := kX.two
  have lX := kX.lt
  have lX1 : w2.heap.size < w3.heap.size + 1 := by omega
  obtain ⟨⟨v0, v1⟩, _, _⟩ := kV.out.two
  have lV := kV.out.lt
  clear g
  go_wp2_with fail
  refine (B1.out _ G.out).mono ?_
  rintro e w4 ⟨rfl, g⟩
  have G := Lib.hid (G.out.trans g)
  have kV := Lib.hid (kV.out.grown g)
  have kD := Lib.hid (kD.out.grown g)
  clear g x0 x1 lX lX1 v0 v1 lV kX
  obtain ⟨⟨v0, v1⟩, _, _⟩ := kV.out.two
  have lV := kV.out.lt
  go_wp2_with fail
  refine (B2.out _ G.out).mono ?_
  rintro e w5 ⟨rfl, g⟩
  have G := Lib.hid (G.out.trans g)
  have kV := Lib.hid (kV.out.grown g)
  have kD := Lib.hid (kD.out.grown g)
  clear g v0 v1 lV
  obtain ⟨⟨v0, v1⟩, _, _⟩ := kV.out.two
  have lV := kV.out.lt
  go_wp2_with fail
  refine (O1.out _ G.out).mono ?_
  rintro e w6 ⟨rfl, g⟩
  have G := Lib.hid (G.out.trans g)
  have kV := Lib.hid (kV.out.grown g)
  have kD := Lib.hid (kD.out.grown g)
  clear g v0 v1 lV
  obtain ⟨⟨v0, v1⟩, _, _⟩ := kV.out.two
  have lV := kV.out.lt
  go_wp2_with fail
  refine (O2.out _ G.out).mono ?_
  rintro e w7 ⟨rfl, g⟩
  have G := Lib.hid (G.out.trans g)
  have kD := Lib.hid (kD.out.grown g)
  clear g v0 v1 lV kV
  obtain ⟨⟨v0, v1⟩, _, _⟩ := kD.out.two
  have lV := kD.out.lt
  go_wp2_with fail
  refine (S1.out _ G.out).mono ?_
  rintro e w8 ⟨u, l, k, hp, rfl, hs, g⟩
  have G := Lib.hid (G.out.trans g)
  have kD := Lib.hid (kD.out.grown g)
  have HP := Lib.hid hp
  have HS := Lib.hid hs
  clear g v0 v1 lV hp hs
  obtain ⟨⟨v0, v1⟩, _, _⟩ := kD.out.two
  have lV := kD.out.lt
  go_wp2_with fail
  refine (S2.out _ G.out).mono ?_
  rintro e w9 ⟨u', l', k', hp', rfl, hs', g⟩
  obtain ⟨rfl, rfl⟩ := HP.out.one hp'
  have SA := Lib.hid (same_any l l u u' w9 (HS.out.grown g) hs' (by have := HP.out.few; omega))
  have G := Lib.hid (G.out.trans g)
  clear g v0 v1 lV hp' hs' HS HP
  go_wp2_with fail
  refine SA.out.mono ?_
  rintro e w10 t
  obtain ⟨rfl, g⟩ := t.to (by first | trivial | rfl)
  have G := G.out.trans g
  go_wp2_with fail
  go_ret
  exact ⟨rfl, G⟩
end Ry
end Go.Proofs.YtcihkpjdjenbjaaDoor
