/-
  No cell of these rows narrows 'for every input' (looked for: loops, veiled, ifaces, maps, wideKeys, modest, calm, conditions, laid).
  DERIVED. THE GIVEN ROWS OF THIS SEAT. 7 by the template 'for every input the law returns true; each argument reads behind the call as it read before'; 0 by the template 'total and deterministic' (their statements: YteglefjnbkocgaaTotals.lean).
  GIVEN WITH THE SEED: the statements are not yours to turn. If you find one false, say at which input.
  Laid BY PROGRAM, IN A SANDBOX (cutbox-rows.mjs): the forced cells as the released guide's own fill.sh prints them over the translation 24fc5c8651b767f1… (all of the seat's roots in one cut). By AI agents, Wed Nov 11 2026. No macro, syntax, notation, axiom, sorry.
-/
import Derived.Test.YteglefjnbkocgaaChecked
import GoSem.Claim
import GoSem.ClaimJoined
import GoSem.ClaimMapViews
import Derived.JoinedTies
import Derived.KernelRfl
namespace Go.Proofs.Yteglefjnbkocgaa
/- THE CELL 'sum', in the pinned program and in every row, IS THE sha256 OF THE DUMP (.gsa) THAT YteglefjnbkocgaaProg.lean LOADS. Nothing in Lean hashes anything: it is a label: what it is worth is what the hold of that sum in a sandbox is worth. -/
noncomputable def Try.pinned : Pinned := { name := "yteglefjnbkocgaa", sum := "24fc5c8651b767f12383344c89876342797fcedfaa9220ec2e6d3bdd27ff73ad", checked := Try.checked }
namespace Rows
def none {H : Type} : Left H := { results := [], args := [] }

/-- 'landfalllaw06.MinkMatchesReference': WHATEVER THE INPUT: true; the input reads as it did. -/
def minkMatchesReferenceSpec : ChangeSpec := { name := "minkMatchesReference", fn := fun _ => fun
  | [d1, d2, d3, d4] => { results := [.lit (.bool true)], args := [d1, d2, d3, d4] }
  | _ => none }
def minkMatchesReferenceRow : OpenClaim := { program := "yteglefjnbkocgaa", sum := "24fc5c8651b767f12383344c89876342797fcedfaa9220ec2e6d3bdd27ff73ad", func := "landfall/landfalllaw06.MinkMatchesReference", spec := "minkMatchesReference", unfollowed := true, recurses := true, apart := false }
def MinkMatchesReferenceSaid : Prop := minkMatchesReferenceRow.holds Try.pinned (OpenSpec.ofChange minkMatchesReferenceSpec)

/-- ITS FALSE NEIGHBOUR: 'it returns false'. Refute it at one input. -/
def minkMatchesReferenceWrong : ChangeSpec := { name := "minkMatchesReference", fn := fun _ => fun
  | [d1, d2, d3, d4] => { results := [.lit (.bool false)], args := [d1, d2, d3, d4] }
  | _ => none }
def MinkMatchesReferenceWrongFalsely : Prop := minkMatchesReferenceRow.holds Try.pinned (OpenSpec.ofChange minkMatchesReferenceWrong)

/-- 'landfalllaw06.MinkSums': WHATEVER THE INPUT: true; the input reads as it did. -/
def minkSumsSpec : ChangeSpec := { name := "minkSums", fn := fun _ => fun
  | [d1, d2, d3, d4] => { results := [.lit (.bool true)], args := [d1, d2, d3, d4] }
  | _ => none }
def minkSumsRow : OpenClaim := { program := "yteglefjnbkocgaa", sum := "24fc5c8651b767f12383344c89876342797fcedfaa9220ec2e6d3bdd27ff73ad", func := "landfall/landfalllaw06.MinkSums", spec := "minkSums", unfollowed := true, recurses := true, apart := false }
def MinkSumsSaid : Prop := minkSumsRow.holds Try.pinned (OpenSpec.ofChange minkSumsSpec)

/-- ITS FALSE NEIGHBOUR: 'it returns false'. Refute it at one input. -/
def minkSumsWrong : ChangeSpec := { name := "minkSums", fn := fun _ => fun
  | [d1, d2, d3, d4] => { results := [.lit (.bool false)], args := [d1, d2, d3, d4] }
  | _ => none }
def MinkSumsWrongFalsely : Prop := minkSumsRow.holds Try.pinned (OpenSpec.ofChange minkSumsWrong)

/-- 'landfalllaw06.MinkReaches': WHATEVER THE INPUT: true; the input reads as it did. -/
def minkReachesSpec : ChangeSpec := { name := "minkReaches", fn := fun _ => fun
  | [d1, d2, d3, d4] => { results := [.lit (.bool true)], args := [d1, d2, d3, d4] }
  | _ => none }
def minkReachesRow : OpenClaim := { program := "yteglefjnbkocgaa", sum := "24fc5c8651b767f12383344c89876342797fcedfaa9220ec2e6d3bdd27ff73ad", func := "landfall/landfalllaw06.MinkReaches", spec := "minkReaches", unfollowed := true, recurses := true, apart := false }
def MinkReachesSaid : Prop := minkReachesRow.holds Try.pinned (OpenSpec.ofChange minkReachesSpec)

/-- ITS FALSE NEIGHBOUR: 'it returns false'. Refute it at one input. -/
def minkReachesWrong : ChangeSpec := { name := "minkReaches", fn := fun _ => fun
  | [d1, d2, d3, d4] => { results := [.lit (.bool false)], args := [d1, d2, d3, d4] }
  | _ => none }
def MinkReachesWrongFalsely : Prop := minkReachesRow.holds Try.pinned (OpenSpec.ofChange minkReachesWrong)

/-- 'landfalllaw06.MinkOrder': WHATEVER THE INPUT: true; the input reads as it did. -/
def minkOrderSpec : ChangeSpec := { name := "minkOrder", fn := fun _ => fun
  | [d1, d2, d3] => { results := [.lit (.bool true)], args := [d1, d2, d3] }
  | _ => none }
def minkOrderRow : OpenClaim := { program := "yteglefjnbkocgaa", sum := "24fc5c8651b767f12383344c89876342797fcedfaa9220ec2e6d3bdd27ff73ad", func := "landfall/landfalllaw06.MinkOrder", spec := "minkOrder", unfollowed := true, recurses := true, apart := false }
def MinkOrderSaid : Prop := minkOrderRow.holds Try.pinned (OpenSpec.ofChange minkOrderSpec)

/-- ITS FALSE NEIGHBOUR: 'it returns false'. Refute it at one input. -/
def minkOrderWrong : ChangeSpec := { name := "minkOrder", fn := fun _ => fun
  | [d1, d2, d3] => { results := [.lit (.bool false)], args := [d1, d2, d3] }
  | _ => none }
def MinkOrderWrongFalsely : Prop := minkOrderRow.holds Try.pinned (OpenSpec.ofChange minkOrderWrong)

/-- 'landfalllaw06.MinkShifts': WHATEVER THE INPUT: true; the input reads as it did. -/
def minkShiftsSpec : ChangeSpec := { name := "minkShifts", fn := fun _ => fun
  | [d1, d2, d3] => { results := [.lit (.bool true)], args := [d1, d2, d3] }
  | _ => none }
def minkShiftsRow : OpenClaim := { program := "yteglefjnbkocgaa", sum := "24fc5c8651b767f12383344c89876342797fcedfaa9220ec2e6d3bdd27ff73ad", func := "landfall/landfalllaw06.MinkShifts", spec := "minkShifts", unfollowed := true, recurses := true, apart := false }
def MinkShiftsSaid : Prop := minkShiftsRow.holds Try.pinned (OpenSpec.ofChange minkShiftsSpec)

/-- ITS FALSE NEIGHBOUR: 'it returns false'. Refute it at one input. -/
def minkShiftsWrong : ChangeSpec := { name := "minkShifts", fn := fun _ => fun
  | [d1, d2, d3] => { results := [.lit (.bool false)], args := [d1, d2, d3] }
  | _ => none }
def MinkShiftsWrongFalsely : Prop := minkShiftsRow.holds Try.pinned (OpenSpec.ofChange minkShiftsWrong)

/-- 'landfalllaw06.MinkMirrors': WHATEVER THE INPUT: true; the input reads as it did. -/
def minkMirrorsSpec : ChangeSpec := { name := "minkMirrors", fn := fun _ => fun
  | [d1, d2] => { results := [.lit (.bool true)], args := [d1, d2] }
  | _ => none }
def minkMirrorsRow : OpenClaim := { program := "yteglefjnbkocgaa", sum := "24fc5c8651b767f12383344c89876342797fcedfaa9220ec2e6d3bdd27ff73ad", func := "landfall/landfalllaw06.MinkMirrors", spec := "minkMirrors", unfollowed := true, recurses := true, apart := false }
def MinkMirrorsSaid : Prop := minkMirrorsRow.holds Try.pinned (OpenSpec.ofChange minkMirrorsSpec)

/-- ITS FALSE NEIGHBOUR: 'it returns false'. Refute it at one input. -/
def minkMirrorsWrong : ChangeSpec := { name := "minkMirrors", fn := fun _ => fun
  | [d1, d2] => { results := [.lit (.bool false)], args := [d1, d2] }
  | _ => none }
def MinkMirrorsWrongFalsely : Prop := minkMirrorsRow.holds Try.pinned (OpenSpec.ofChange minkMirrorsWrong)

/-- 'landfalllaw06.MinkDisks': WHATEVER THE INPUT: true; the input reads as it did. -/
def minkDisksSpec : ChangeSpec := { name := "minkDisks", fn := fun _ => fun
  | [d1, d2, d3] => { results := [.lit (.bool true)], args := [d1, d2, d3] }
  | _ => none }
def minkDisksRow : OpenClaim := { program := "yteglefjnbkocgaa", sum := "24fc5c8651b767f12383344c89876342797fcedfaa9220ec2e6d3bdd27ff73ad", func := "landfall/landfalllaw06.MinkDisks", spec := "minkDisks", unfollowed := true, recurses := true, apart := false }
def MinkDisksSaid : Prop := minkDisksRow.holds Try.pinned (OpenSpec.ofChange minkDisksSpec)

/-- ITS FALSE NEIGHBOUR: 'it returns false'. Refute it at one input. -/
def minkDisksWrong : ChangeSpec := { name := "minkDisks", fn := fun _ => fun
  | [d1, d2, d3] => { results := [.lit (.bool false)], args := [d1, d2, d3] }
  | _ => none }
def MinkDisksWrongFalsely : Prop := minkDisksRow.holds Try.pinned (OpenSpec.ofChange minkDisksWrong)

/- THE SECOND FORM. 'bulk': how many values and letters a reading holds, each counted each time it is reached (what is shared counts as often as it is met; a slice's spare places count too). A statement '..UptoSaid' is the law's where the arguments, and the package variables that the reading takes, are together of bulk at most 1048576: NARROWER than '..Said'. Prove '..Said' where nothing that the law and all that it calls make is longer than what came in: it says more and counts as full. Else prove '..UptoSaid'. A law counts once. -/
mutual
def uptoBulk {H : Type} : DataW H → Nat
  | .lit (.string bytes) => bytes.length + 1
  | .lit _ => 1
  | .nil => 1
  | .ptr d => uptoBulk d + 1
  | .slice elems spare => uptoBulkAll elems + uptoBulkAll spare + 1
  | .agg parts => uptoBulkAll parts + 1
  | .iface _ d => uptoBulk d + 1
  | .map entries => uptoBulkEntries entries + 1
  | .held _ => 1
def uptoBulkAll {H : Type} : List (DataW H) → Nat
  | [] => 0
  | d :: r => uptoBulk d + uptoBulkAll r
def uptoBulkEntries {H : Type} : List (Lit × DataW H) → Nat
  | [] => 0
  | x :: r => uptoBulkEntry x + uptoBulkEntries r
def uptoBulkEntry {H : Type} : Lit × DataW H → Nat
  | (.string bytes, d) => bytes.length + uptoBulk d + 1
  | (_, d) => uptoBulk d + 1
 end
def uptoSmall : (H : Type) → List (DataW H) → Bool := fun _ ds => decide (uptoBulkAll ds ≤ 1048576)
def OpenSpec.upto (s : _root_.Go.ChangeSpec) : _root_.Go.OpenSpec := { _root_.Go.OpenSpec.ofChange s with cond := some uptoSmall }

/-- 'landfalllaw06.MinkMatchesReference', WHERE WHAT IT READS IS OF BULK AT MOST 1048576: true; the input reads as it did. -/
def minkMatchesReferenceUptoRow : OpenClaim := { program := "yteglefjnbkocgaa", sum := "24fc5c8651b767f12383344c89876342797fcedfaa9220ec2e6d3bdd27ff73ad", func := "landfall/landfalllaw06.MinkMatchesReference", spec := "minkMatchesReference", unfollowed := true, recurses := true, apart := false, narrowed := true }
def MinkMatchesReferenceUptoSaid : Prop := minkMatchesReferenceUptoRow.holds Try.pinned (OpenSpec.upto minkMatchesReferenceSpec)

/-- 'landfalllaw06.MinkSums', WHERE WHAT IT READS IS OF BULK AT MOST 1048576: true; the input reads as it did. -/
def minkSumsUptoRow : OpenClaim := { program := "yteglefjnbkocgaa", sum := "24fc5c8651b767f12383344c89876342797fcedfaa9220ec2e6d3bdd27ff73ad", func := "landfall/landfalllaw06.MinkSums", spec := "minkSums", unfollowed := true, recurses := true, apart := false, narrowed := true }
def MinkSumsUptoSaid : Prop := minkSumsUptoRow.holds Try.pinned (OpenSpec.upto minkSumsSpec)

/-- 'landfalllaw06.MinkReaches', WHERE WHAT IT READS IS OF BULK AT MOST 1048576: true; the input reads as it did. -/
def minkReachesUptoRow : OpenClaim := { program := "yteglefjnbkocgaa", sum := "24fc5c8651b767f12383344c89876342797fcedfaa9220ec2e6d3bdd27ff73ad", func := "landfall/landfalllaw06.MinkReaches", spec := "minkReaches", unfollowed := true, recurses := true, apart := false, narrowed := true }
def MinkReachesUptoSaid : Prop := minkReachesUptoRow.holds Try.pinned (OpenSpec.upto minkReachesSpec)

/-- 'landfalllaw06.MinkOrder', WHERE WHAT IT READS IS OF BULK AT MOST 1048576: true; the input reads as it did. -/
def minkOrderUptoRow : OpenClaim := { program := "yteglefjnbkocgaa", sum := "24fc5c8651b767f12383344c89876342797fcedfaa9220ec2e6d3bdd27ff73ad", func := "landfall/landfalllaw06.MinkOrder", spec := "minkOrder", unfollowed := true, recurses := true, apart := false, narrowed := true }
def MinkOrderUptoSaid : Prop := minkOrderUptoRow.holds Try.pinned (OpenSpec.upto minkOrderSpec)

/-- 'landfalllaw06.MinkShifts', WHERE WHAT IT READS IS OF BULK AT MOST 1048576: true; the input reads as it did. -/
def minkShiftsUptoRow : OpenClaim := { program := "yteglefjnbkocgaa", sum := "24fc5c8651b767f12383344c89876342797fcedfaa9220ec2e6d3bdd27ff73ad", func := "landfall/landfalllaw06.MinkShifts", spec := "minkShifts", unfollowed := true, recurses := true, apart := false, narrowed := true }
def MinkShiftsUptoSaid : Prop := minkShiftsUptoRow.holds Try.pinned (OpenSpec.upto minkShiftsSpec)

/-- 'landfalllaw06.MinkMirrors', WHERE WHAT IT READS IS OF BULK AT MOST 1048576: true; the input reads as it did. -/
def minkMirrorsUptoRow : OpenClaim := { program := "yteglefjnbkocgaa", sum := "24fc5c8651b767f12383344c89876342797fcedfaa9220ec2e6d3bdd27ff73ad", func := "landfall/landfalllaw06.MinkMirrors", spec := "minkMirrors", unfollowed := true, recurses := true, apart := false, narrowed := true }
def MinkMirrorsUptoSaid : Prop := minkMirrorsUptoRow.holds Try.pinned (OpenSpec.upto minkMirrorsSpec)

/-- 'landfalllaw06.MinkDisks', WHERE WHAT IT READS IS OF BULK AT MOST 1048576: true; the input reads as it did. -/
def minkDisksUptoRow : OpenClaim := { program := "yteglefjnbkocgaa", sum := "24fc5c8651b767f12383344c89876342797fcedfaa9220ec2e6d3bdd27ff73ad", func := "landfall/landfalllaw06.MinkDisks", spec := "minkDisks", unfollowed := true, recurses := true, apart := false, narrowed := true }
def MinkDisksUptoSaid : Prop := minkDisksUptoRow.holds Try.pinned (OpenSpec.upto minkDisksSpec)

end Rows
end Go.Proofs.Yteglefjnbkocgaa
