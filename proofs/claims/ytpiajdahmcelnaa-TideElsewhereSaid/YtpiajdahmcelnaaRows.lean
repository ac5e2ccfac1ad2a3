/-
  No cell of these rows narrows 'for every input' (looked for: loops, veiled, ifaces, maps, wideKeys, modest, calm, conditions, laid).
  DERIVED. THE GIVEN ROWS OF THIS SEAT. 6 by the template 'for every input the law returns true; each argument reads behind the call as it read before'; 0 by the template 'total and deterministic' (their statements: YtpiajdahmcelnaaTotals.lean).
  GIVEN WITH THE SEED: the statements are not yours to turn. If you find one false, say at which input.
  Laid BY PROGRAM, IN A SANDBOX (cutbox-rows.mjs): the forced cells as the released guide's own fill.sh prints them over the translation d9d5f70823dfcc0b… (all of the seat's roots in one cut). By AI agents, Wed Nov 11 2026. No macro, syntax, notation, axiom, sorry.
-/
import Derived.Test.YtpiajdahmcelnaaChecked
import GoSem.Claim
import GoSem.ClaimJoined
import GoSem.ClaimMapViews
import Derived.JoinedTies
import Derived.KernelRfl
namespace Go.Proofs.Ytpiajdahmcelnaa
/- THE CELL 'sum', in the pinned program and in every row, IS THE sha256 OF THE DUMP (.gsa) THAT YtpiajdahmcelnaaProg.lean LOADS. Nothing in Lean hashes anything: it is a label: what it is worth is what the hold of that sum in a sandbox is worth. -/
noncomputable def Try.pinned : Pinned := { name := "ytpiajdahmcelnaa", sum := "d9d5f70823dfcc0b64ba7ed87afb290b8e4003c0131885ed39b719522f041eee", checked := Try.checked }
namespace Rows
def none {H : Type} : Left H := { results := [], args := [] }

/-- 'landfalllaw13.TideWithin': WHATEVER THE INPUT: true; the input reads as it did. -/
def tideWithinSpec : ChangeSpec := { name := "tideWithin", fn := fun _ => fun
  | [d1, d2, d3, d4, d5, d6, d7, d8] => { results := [.lit (.bool true)], args := [d1, d2, d3, d4, d5, d6, d7, d8] }
  | _ => none }
def tideWithinRow : OpenClaim := { program := "ytpiajdahmcelnaa", sum := "d9d5f70823dfcc0b64ba7ed87afb290b8e4003c0131885ed39b719522f041eee", func := "landfall/landfalllaw13.TideWithin", spec := "tideWithin", unfollowed := true, recurses := true, apart := false }
def TideWithinSaid : Prop := tideWithinRow.holds Try.pinned (OpenSpec.ofChange tideWithinSpec)

/-- ITS FALSE NEIGHBOUR: 'it returns false'. Refute it at one input. -/
def tideWithinWrong : ChangeSpec := { name := "tideWithin", fn := fun _ => fun
  | [d1, d2, d3, d4, d5, d6, d7, d8] => { results := [.lit (.bool false)], args := [d1, d2, d3, d4, d5, d6, d7, d8] }
  | _ => none }
def TideWithinWrongFalsely : Prop := tideWithinRow.holds Try.pinned (OpenSpec.ofChange tideWithinWrong)

/-- 'landfalllaw13.TideLeast': WHATEVER THE INPUT: true; the input reads as it did. -/
def tideLeastSpec : ChangeSpec := { name := "tideLeast", fn := fun _ => fun
  | [d1, d2, d3, d4, d5] => { results := [.lit (.bool true)], args := [d1, d2, d3, d4, d5] }
  | _ => none }
def tideLeastRow : OpenClaim := { program := "ytpiajdahmcelnaa", sum := "d9d5f70823dfcc0b64ba7ed87afb290b8e4003c0131885ed39b719522f041eee", func := "landfall/landfalllaw13.TideLeast", spec := "tideLeast", unfollowed := true, recurses := true, apart := false }
def TideLeastSaid : Prop := tideLeastRow.holds Try.pinned (OpenSpec.ofChange tideLeastSpec)

/-- ITS FALSE NEIGHBOUR: 'it returns false'. Refute it at one input. -/
def tideLeastWrong : ChangeSpec := { name := "tideLeast", fn := fun _ => fun
  | [d1, d2, d3, d4, d5] => { results := [.lit (.bool false)], args := [d1, d2, d3, d4, d5] }
  | _ => none }
def TideLeastWrongFalsely : Prop := tideLeastRow.holds Try.pinned (OpenSpec.ofChange tideLeastWrong)

/-- 'landfalllaw13.TideGreater': WHATEVER THE INPUT: true; the input reads as it did. -/
def tideGreaterSpec : ChangeSpec := { name := "tideGreater", fn := fun _ => fun
  | [d1, d2, d3, d4, d5, d6, d7, d8] => { results := [.lit (.bool true)], args := [d1, d2, d3, d4, d5, d6, d7, d8] }
  | _ => none }
def tideGreaterRow : OpenClaim := { program := "ytpiajdahmcelnaa", sum := "d9d5f70823dfcc0b64ba7ed87afb290b8e4003c0131885ed39b719522f041eee", func := "landfall/landfalllaw13.TideGreater", spec := "tideGreater", unfollowed := true, recurses := true, apart := false }
def TideGreaterSaid : Prop := tideGreaterRow.holds Try.pinned (OpenSpec.ofChange tideGreaterSpec)

/-- ITS FALSE NEIGHBOUR: 'it returns false'. Refute it at one input. -/
def tideGreaterWrong : ChangeSpec := { name := "tideGreater", fn := fun _ => fun
  | [d1, d2, d3, d4, d5, d6, d7, d8] => { results := [.lit (.bool false)], args := [d1, d2, d3, d4, d5, d6, d7, d8] }
  | _ => none }
def TideGreaterWrongFalsely : Prop := tideGreaterRow.holds Try.pinned (OpenSpec.ofChange tideGreaterWrong)

/-- 'landfalllaw13.TideDrift': WHATEVER THE INPUT: true; the input reads as it did. -/
def tideDriftSpec : ChangeSpec := { name := "tideDrift", fn := fun _ => fun
  | [d1, d2, d3, d4, d5, d6, d7] => { results := [.lit (.bool true)], args := [d1, d2, d3, d4, d5, d6, d7] }
  | _ => none }
def tideDriftRow : OpenClaim := { program := "ytpiajdahmcelnaa", sum := "d9d5f70823dfcc0b64ba7ed87afb290b8e4003c0131885ed39b719522f041eee", func := "landfall/landfalllaw13.TideDrift", spec := "tideDrift", unfollowed := true, recurses := true, apart := false }
def TideDriftSaid : Prop := tideDriftRow.holds Try.pinned (OpenSpec.ofChange tideDriftSpec)

/-- ITS FALSE NEIGHBOUR: 'it returns false'. Refute it at one input. -/
def tideDriftWrong : ChangeSpec := { name := "tideDrift", fn := fun _ => fun
  | [d1, d2, d3, d4, d5, d6, d7] => { results := [.lit (.bool false)], args := [d1, d2, d3, d4, d5, d6, d7] }
  | _ => none }
def TideDriftWrongFalsely : Prop := tideDriftRow.holds Try.pinned (OpenSpec.ofChange tideDriftWrong)

/-- 'landfalllaw13.TideAfter': WHATEVER THE INPUT: true; the input reads as it did. -/
def tideAfterSpec : ChangeSpec := { name := "tideAfter", fn := fun _ => fun
  | [d1, d2, d3, d4, d5] => { results := [.lit (.bool true)], args := [d1, d2, d3, d4, d5] }
  | _ => none }
def tideAfterRow : OpenClaim := { program := "ytpiajdahmcelnaa", sum := "d9d5f70823dfcc0b64ba7ed87afb290b8e4003c0131885ed39b719522f041eee", func := "landfall/landfalllaw13.TideAfter", spec := "tideAfter", unfollowed := true, recurses := true, apart := false }
def TideAfterSaid : Prop := tideAfterRow.holds Try.pinned (OpenSpec.ofChange tideAfterSpec)

/-- ITS FALSE NEIGHBOUR: 'it returns false'. Refute it at one input. -/
def tideAfterWrong : ChangeSpec := { name := "tideAfter", fn := fun _ => fun
  | [d1, d2, d3, d4, d5] => { results := [.lit (.bool false)], args := [d1, d2, d3, d4, d5] }
  | _ => none }
def TideAfterWrongFalsely : Prop := tideAfterRow.holds Try.pinned (OpenSpec.ofChange tideAfterWrong)

/-- 'landfalllaw13.TideElsewhere': WHATEVER THE INPUT: true; the input reads as it did. -/
def tideElsewhereSpec : ChangeSpec := { name := "tideElsewhere", fn := fun _ => fun
  | [d1, d2, d3, d4, d5, d6] => { results := [.lit (.bool true)], args := [d1, d2, d3, d4, d5, d6] }
  | _ => none }
def tideElsewhereRow : OpenClaim := { program := "ytpiajdahmcelnaa", sum := "d9d5f70823dfcc0b64ba7ed87afb290b8e4003c0131885ed39b719522f041eee", func := "landfall/landfalllaw13.TideElsewhere", spec := "tideElsewhere", unfollowed := true, recurses := true, apart := false }
def TideElsewhereSaid : Prop := tideElsewhereRow.holds Try.pinned (OpenSpec.ofChange tideElsewhereSpec)

/-- ITS FALSE NEIGHBOUR: 'it returns false'. Refute it at one input. -/
def tideElsewhereWrong : ChangeSpec := { name := "tideElsewhere", fn := fun _ => fun
  | [d1, d2, d3, d4, d5, d6] => { results := [.lit (.bool false)], args := [d1, d2, d3, d4, d5, d6] }
  | _ => none }
def TideElsewhereWrongFalsely : Prop := tideElsewhereRow.holds Try.pinned (OpenSpec.ofChange tideElsewhereWrong)

/- THE SECOND FORM. 'bulk': how many values and letters a reading holds, each counted each time it is reached (what is shared counts as often as it is met; a slice's spare places count too). A statement '..UptoSaid' is the law's where the arguments, and the package variables that the reading takes, are together of bulk at most 1048576: NARROWER than '..Said'. Prove '..Said' where nothing that the law and all that it calls make is longer than what came in: it says more and counts as full. Else prove '..UptoSaid'. A law counts once. -/
mutual
def uptoBulk {H : Type} : DataW H → Nat
  | .lit (.string bytes) => bytes.length + 1
  | .lit _ => 1
  | .nil => 1
  | .ptr d => uptoBulk d + 1
  | .slice elems spare => uptoBulkAll elems + uptoBulkAll spare + 1
  | .agg parts => uptoBulkAll parts + 1
  | .iface _ d => uptoBulk d + 1
  | .map entries => uptoBulkEntries entries + 1
  | .held _ => 1
def uptoBulkAll {H : Type} : List (DataW H) → Nat
  | [] => 0
  | d :: r => uptoBulk d + uptoBulkAll r
def uptoBulkEntries {H : Type} : List (Lit × DataW H) → Nat
  | [] => 0
  | x :: r => uptoBulkEntry x + uptoBulkEntries r
def uptoBulkEntry {H : Type} : Lit × DataW H → Nat
  | (.string bytes, d) => bytes.length + uptoBulk d + 1
  | (_, d) => uptoBulk d + 1
 end
def uptoSmall : (H : Type) → List (DataW H) → Bool := fun _ ds => decide (uptoBulkAll ds ≤ 1048576)
def OpenSpec.upto (s : _root_.Go.ChangeSpec) : _root_.Go.OpenSpec := { _root_.Go.OpenSpec.ofChange s with cond := some uptoSmall }

/-- 'landfalllaw13.TideWithin', WHERE WHAT IT READS IS OF BULK AT MOST 1048576: true; the input reads as it did. -/
def tideWithinUptoRow : OpenClaim := { program := "ytpiajdahmcelnaa", sum := "d9d5f70823dfcc0b64ba7ed87afb290b8e4003c0131885ed39b719522f041eee", func := "landfall/landfalllaw13.TideWithin", spec := "tideWithin", unfollowed := true, recurses := true, apart := false, narrowed := true }
def TideWithinUptoSaid : Prop := tideWithinUptoRow.holds Try.pinned (OpenSpec.upto tideWithinSpec)

/-- 'landfalllaw13.TideLeast', WHERE WHAT IT READS IS OF BULK AT MOST 1048576: true; the input reads as it did. -/
def tideLeastUptoRow : OpenClaim := { program := "ytpiajdahmcelnaa", sum := "d9d5f70823dfcc0b64ba7ed87afb290b8e4003c0131885ed39b719522f041eee", func := "landfall/landfalllaw13.TideLeast", spec := "tideLeast", unfollowed := true, recurses := true, apart := false, narrowed := true }
def TideLeastUptoSaid : Prop := tideLeastUptoRow.holds Try.pinned (OpenSpec.upto tideLeastSpec)

/-- 'landfalllaw13.TideGreater', WHERE WHAT IT READS IS OF BULK AT MOST 1048576: true; the input reads as it did. -/
def tideGreaterUptoRow : OpenClaim := { program := "ytpiajdahmcelnaa", sum := "d9d5f70823dfcc0b64ba7ed87afb290b8e4003c0131885ed39b719522f041eee", func := "landfall/landfalllaw13.TideGreater", spec := "tideGreater", unfollowed := true, recurses := true, apart := false, narrowed := true }
def TideGreaterUptoSaid : Prop := tideGreaterUptoRow.holds Try.pinned (OpenSpec.upto tideGreaterSpec)

/-- 'landfalllaw13.TideDrift', WHERE WHAT IT READS IS OF BULK AT MOST 1048576: true; the input reads as it did. -/
def tideDriftUptoRow : OpenClaim := { program := "ytpiajdahmcelnaa", sum := "d9d5f70823dfcc0b64ba7ed87afb290b8e4003c0131885ed39b719522f041eee", func := "landfall/landfalllaw13.TideDrift", spec := "tideDrift", unfollowed := true, recurses := true, apart := false, narrowed := true }
def TideDriftUptoSaid : Prop := tideDriftUptoRow.holds Try.pinned (OpenSpec.upto tideDriftSpec)

/-- 'landfalllaw13.TideAfter', WHERE WHAT IT READS IS OF BULK AT MOST 1048576: true; the input reads as it did. -/
def tideAfterUptoRow : OpenClaim := { program := "ytpiajdahmcelnaa", sum := "d9d5f70823dfcc0b64ba7ed87afb290b8e4003c0131885ed39b719522f041eee", func := "landfall/landfalllaw13.TideAfter", spec := "tideAfter", unfollowed := true, recurses := true, apart := false, narrowed := true }
def TideAfterUptoSaid : Prop := tideAfterUptoRow.holds Try.pinned (OpenSpec.upto tideAfterSpec)

/-- 'landfalllaw13.TideElsewhere', WHERE WHAT IT READS IS OF BULK AT MOST 1048576: true; the input reads as it did. -/
def tideElsewhereUptoRow : OpenClaim := { program := "ytpiajdahmcelnaa", sum := "d9d5f70823dfcc0b64ba7ed87afb290b8e4003c0131885ed39b719522f041eee", func := "landfall/landfalllaw13.TideElsewhere", spec := "tideElsewhere", unfollowed := true, recurses := true, apart := false, narrowed := true }
def TideElsewhereUptoSaid : Prop := tideElsewhereUptoRow.holds Try.pinned (OpenSpec.upto tideElsewhereSpec)

end Rows
end Go.Proofs.Ytpiajdahmcelnaa
