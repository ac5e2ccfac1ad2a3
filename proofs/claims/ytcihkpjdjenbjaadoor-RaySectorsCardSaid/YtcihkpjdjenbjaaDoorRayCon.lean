/-
  What package ray owes; the landed package and the reference pay it.
-/
import Derived.Test.YtcihkpjdjenbjaaDoorRayRefC
import Derived.Test.YtcihkpjdjenbjaaDoorHullCg
namespace Go.Proofs.YtcihkpjdjenbjaaDoor
open Go.RowKit Hl
namespace Ry
def RayIs (k : Nat) (w : World) (e : Ending) (w' : World) : Prop := e = .returned (.tuple #[.agg #[.int .i64 (dir k).1, .int .i64 (dir k).2], .int .i64 0]) ∧ Grew w w'
def RayNo (w : World) (e : Ending) (w' : World) : Prop := e = .returned (.tuple #[.agg #[.int .i64 0, .int .i64 0], .int .i64 1]) ∧ Grew w w'
def BetIs (a n : Nat) (v : Pt) (w : World) (e : Ending) (w' : World) : Prop := e = .returned (.tuple #[.bool (decide (Lies a n v)), .int .i64 0]) ∧ Grew w w'
def BetNo (w : World) (e : Ending) (w' : World) : Prop := e = .returned (.tuple #[.bool false, .int .i64 1]) ∧ Grew w w'
def OfIs (v : Pt) (w : World) (e : Ending) (w' : World) : Prop := e = .returned (.tuple #[.int .i64 (kf v), .bool (decide (On (kf v) v)), .int .i64 0]) ∧ Grew w w'
def OfNo (w : World) (e : Ending) (w' : World) : Prop := e = .returned (.tuple #[.int .i64 0, .bool false, .int .i64 1]) ∧ Grew w w'
/-- What the four functions owe, in worlds that meet T. -/
structure Fns (T : World → Prop) (fr fb fo fs : Nat) : Prop where
  ray : ∀ (k : Nat) (w : World), T w → k < 64 → Calls Tryd.prog fr #[.int .i64 k] w (RayIs k w)
  ray_bad : ∀ (k : Int) (w : World), ¬ (0 ≤ k ∧ k < 64) → Calls Tryd.prog fr #[.int .i64 k] w (RayNo w)
  bet : ∀ (a n : Nat) (v : Pt) (w : World), T w → a < 64 → n ≤ 31 → Vec v → Calls Tryd.prog fb #[.int .i64 a, .int .i64 n, .agg #[.int .i64 v.1, .int .i64 v.2]] w (BetIs a n v w)
  bet_bad : ∀ (a n : Int) (v : Pt) (w : World), ¬ ((0 ≤ a ∧ a < 64) ∧ (0 ≤ n ∧ n ≤ 31) ∧ Vec v) → Calls Tryd.prog fb #[.int .i64 a, .int .i64 n, .agg #[.int .i64 v.1, .int .i64 v.2]] w (BetNo w)
  ofv : ∀ (v : Pt) (w : World), T w → Vec v → Calls Tryd.prog fo #[.agg #[.int .i64 v.1, .int .i64 v.2]] w (OfIs v w)
  ofv_bad : ∀ (v : Pt) (w : World), ¬ Vec v → Calls Tryd.prog fo #[.agg #[.int .i64 v.1, .int .i64 v.2]] w (OfNo w)
  sec : ∀ (a n : Nat) (lo hi : Int) (w : World), T w → a < 64 → n ≤ 31 → Dst lo hi → Calls Tryd.prog fs #[.int .i64 a, .int .i64 n, .agg #[.int .i64 lo, .int .i64 hi]] w (SecSays a n lo hi w)
  sec_bad : ∀ (a n lo hi : Int) (w : World), ¬ ((0 ≤ a ∧ a < 64) ∧ (0 ≤ n ∧ n ≤ 31) ∧ Dst lo hi) → Calls Tryd.prog fs #[.int .i64 a, .int .i64 n, .agg #[.int .i64 lo, .int .i64 hi]] w (Empty 1 w)
/-- What package ray owes. -/
structure Code (T : World → Prop) : Prop where
  keep : ∀ W w, Grew W w → T W → T w
  fns : Fns T 10 12 14 16
theorem SecNew.says {a n : Nat} {lo hi : Int} {w : World} {e : Ending} {w' : World} (h : SecNew a n lo hi w e w') : SecSays a n lo hi w e w' := by
  obtain ⟨q, v, h1, h2, h3, h4, h5⟩ := h
  exact ⟨q, v, h1, h2, h3, h4.sl, h5⟩
theorem landed : Code Tq :=
  ⟨fun _ _ g h => h.grew g, ⟨fun k w hT hk => ray_ok k w hT hk, fun k w hk => ray_bad k w hk, fun a n v w hT ha hn hv => between_ok a n v w hT ha hn hv, fun a n v w h => between_bad a n v w h, fun v w hT hv => of_ok v w hT hv, fun v w h => of_bad v w h, fun a n lo hi w hT ha hn hd => (sector_ok Hl.hullc_new a n lo hi w hT ha hn hd.1 hd.2.1 hd.2.2).mono fun _ _ h => h.says, fun a n lo hi w h => sector_bad a n lo hi w h⟩⟩
theorem ref (T : World → Prop) : Fns T 11 13 15 17 :=
  ⟨fun k w _ hk => r_ray_ok k w hk, fun k w hk => r_ray_bad k w hk, fun a n v w _ ha hn hv => r_between_ok a n v w ha hn hv, fun a n v w h => r_between_bad a n v w h, fun v w _ hv => r_of_ok v w hv, fun v w h => r_of_bad v w h, fun a n lo hi w _ ha hn hd => r_sector_ok a n lo hi w ha hn hd, fun a n lo hi w h => r_sector_bad a n lo hi w h⟩
#print axioms landed
end Ry
end Go.Proofs.YtcihkpjdjenbjaaDoor
