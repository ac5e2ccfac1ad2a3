/-
  Small contracts in the form that the laws' walks take.
  The reference's Bounds.
-/
import Derived.Test.YtcihkpjdjenbjaaDoorHullCon
import Derived.Test.YtcihkpjdjenbjaaDoorHullAro
namespace Go.Proofs.YtcihkpjdjenbjaaDoor
open Go.RowKit
namespace Hl

theorem has_yes (K : Code) (p : List Pt) (x : Pt) (v : Value) (w : World) (hs : Sl w v p) (hp : Vl p) (hx : Plc x) (h : Hs p x) : Calls Tryd.prog 23 #[v, .agg #[.int .i64 x.1, .int .i64 x.2]] w fun e w' => e = .returned (.tuple #[.bool true, .int .i64 0]) ∧ Grew w w' := by
  refine (K.has_ok p x v w hs hp hx).mono ?_
  rintro e w1 ⟨r, rfl, hr, g⟩
  rw [hr.2 h]
  exact ⟨rfl, g⟩
end Hl
end Go.Proofs.YtcihkpjdjenbjaaDoor
namespace Go.Proofs.YtcihkpjdjenbjaaDoor
open Go.RowKit
namespace Hl
def mnI (x y : Int) : Int := if y < x then y else x
def bl (g : Nat → Int) : Nat → Int
  | 0 => g 0
  | k + 1 => mnI (bl g k) (g (k + 1))
end Hl
end Go.Proofs.YtcihkpjdjenbjaaDoor
