/-
  The laws of layer 13: what is usable, a place inside, the way between.
-/
import Derived.Test.YtpiajdahmcelnaaGreatMTdN
import Derived.Test.YtpiajdahmcelnaaGreatMTdO
namespace Go.Proofs.YtpiajdahmcelnaaGreat
open Go.RowKit Hl
namespace Td
set_option maxRecDepth 100000
def Usb (t : Ed) (lo hi : Pt) (c d : Int) : Prop := R.Few t.l.length t.n lo hi c d ∧ Tok t ∧ Rec lo hi ∧ Tms c d
instance (t : Ed) (lo hi : Pt) (c d : Int) : Decidable (Usb t lo hi c d) := by unfold Usb; infer_instance
theorem Usb.ok {t : Ed} {lo hi : Pt} {c d : Int} (h : Usb t lo hi c d) : BOk t lo hi c d := h.2
theorem bk_mono {a b : Int} (h : a ≤ b) : bk a ≤ bk b := by unfold bk; omega
theorem sl_mono {z a b : Int} (h : a ≤ b) : sl z a ≤ sl z b := by unfold sl; omega
end Td
end Go.Proofs.YtpiajdahmcelnaaGreat
