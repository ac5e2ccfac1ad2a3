/-
  No cell of these rows narrows 'for every input' (looked for: loops, veiled, ifaces, maps, wideKeys, modest, calm, conditions, laid).
  DERIVED. THE GIVEN ROWS OF THIS SEAT. 7 by the template 'for every input the law returns true; each argument reads behind the call as it read before'; 0 by the template 'total and deterministic' (their statements: YtibjemalggjcgaaTotals.lean).
  GIVEN WITH THE SEED: the statements are not yours to turn. If you find one false, say at which input.
  Laid BY PROGRAM, IN A SANDBOX (cutbox-rows.mjs): the forced cells as the released guide's own fill.sh prints them over the translation be7d6df61e5f1d59… (all of the seat's roots in one cut). By AI agents, Wed Nov 11 2026. No macro, syntax, notation, axiom, sorry.
-/
import Derived.Test.YtibjemalggjcgaaChecked
import GoSem.Claim
import GoSem.ClaimJoined
import GoSem.ClaimMapViews
import Derived.JoinedTies
import Derived.KernelRfl
namespace Go.Proofs.Ytibjemalggjcgaa
/- THE CELL 'sum', in the pinned program and in every row, IS THE sha256 OF THE DUMP (.gsa) THAT YtibjemalggjcgaaProg.lean LOADS. Nothing in Lean hashes anything: it is a label: what it is worth is what the hold of that sum in a sandbox is worth. -/
noncomputable def Try.pinned : Pinned := { name := "ytibjemalggjcgaa", sum := "be7d6df61e5f1d5988bdeb0aeb868bef6bc1521da2e3f50cc957e90c29bcae02", checked := Try.checked }
namespace Rows
def none {H : Type} : Left H := { results := [], args := [] }

/-- 'landfalllaw01.ExactMatchesReference': WHATEVER THE INPUT: true; the input reads as it did. -/
def exactMatchesReferenceSpec : ChangeSpec := { name := "exactMatchesReference", fn := fun _ => fun
  | [d1, d2, d3] => { results := [.lit (.bool true)], args := [d1, d2, d3] }
  | _ => none }
def exactMatchesReferenceRow : OpenClaim := { program := "ytibjemalggjcgaa", sum := "be7d6df61e5f1d5988bdeb0aeb868bef6bc1521da2e3f50cc957e90c29bcae02", func := "landfall/landfalllaw01.ExactMatchesReference", spec := "exactMatchesReference", unfollowed := true, recurses := true, apart := false }
def ExactMatchesReferenceSaid : Prop := exactMatchesReferenceRow.holds Try.pinned (OpenSpec.ofChange exactMatchesReferenceSpec)

/-- ITS FALSE NEIGHBOUR: 'it returns false'. Refute it at one input. -/
def exactMatchesReferenceWrong : ChangeSpec := { name := "exactMatchesReference", fn := fun _ => fun
  | [d1, d2, d3] => { results := [.lit (.bool false)], args := [d1, d2, d3] }
  | _ => none }
def ExactMatchesReferenceWrongFalsely : Prop := exactMatchesReferenceRow.holds Try.pinned (OpenSpec.ofChange exactMatchesReferenceWrong)

/-- 'landfalllaw01.ExactBetween': WHATEVER THE INPUT: true; the input reads as it did. -/
def exactBetweenSpec : ChangeSpec := { name := "exactBetween", fn := fun _ => fun
  | [d1, d2] => { results := [.lit (.bool true)], args := [d1, d2] }
  | _ => none }
def exactBetweenRow : OpenClaim := { program := "ytibjemalggjcgaa", sum := "be7d6df61e5f1d5988bdeb0aeb868bef6bc1521da2e3f50cc957e90c29bcae02", func := "landfall/landfalllaw01.ExactBetween", spec := "exactBetween", unfollowed := true, recurses := true, apart := false }
def ExactBetweenSaid : Prop := exactBetweenRow.holds Try.pinned (OpenSpec.ofChange exactBetweenSpec)

/-- ITS FALSE NEIGHBOUR: 'it returns false'. Refute it at one input. -/
def exactBetweenWrong : ChangeSpec := { name := "exactBetween", fn := fun _ => fun
  | [d1, d2] => { results := [.lit (.bool false)], args := [d1, d2] }
  | _ => none }
def ExactBetweenWrongFalsely : Prop := exactBetweenRow.holds Try.pinned (OpenSpec.ofChange exactBetweenWrong)

/-- 'landfalllaw01.ExactSigns': WHATEVER THE INPUT: true; the input reads as it did. -/
def exactSignsSpec : ChangeSpec := { name := "exactSigns", fn := fun _ => fun
  | [d1, d2] => { results := [.lit (.bool true)], args := [d1, d2] }
  | _ => none }
def exactSignsRow : OpenClaim := { program := "ytibjemalggjcgaa", sum := "be7d6df61e5f1d5988bdeb0aeb868bef6bc1521da2e3f50cc957e90c29bcae02", func := "landfall/landfalllaw01.ExactSigns", spec := "exactSigns", unfollowed := true, recurses := true, apart := false }
def ExactSignsSaid : Prop := exactSignsRow.holds Try.pinned (OpenSpec.ofChange exactSignsSpec)

/-- ITS FALSE NEIGHBOUR: 'it returns false'. Refute it at one input. -/
def exactSignsWrong : ChangeSpec := { name := "exactSigns", fn := fun _ => fun
  | [d1, d2] => { results := [.lit (.bool false)], args := [d1, d2] }
  | _ => none }
def ExactSignsWrongFalsely : Prop := exactSignsRow.holds Try.pinned (OpenSpec.ofChange exactSignsWrong)

/-- 'landfalllaw01.ExactOrder': WHATEVER THE INPUT: true; the input reads as it did. -/
def exactOrderSpec : ChangeSpec := { name := "exactOrder", fn := fun _ => fun
  | [d1, d2, d3, d4, d5] => { results := [.lit (.bool true)], args := [d1, d2, d3, d4, d5] }
  | _ => none }
def exactOrderRow : OpenClaim := { program := "ytibjemalggjcgaa", sum := "be7d6df61e5f1d5988bdeb0aeb868bef6bc1521da2e3f50cc957e90c29bcae02", func := "landfall/landfalllaw01.ExactOrder", spec := "exactOrder", unfollowed := true, recurses := true, apart := false }
def ExactOrderSaid : Prop := exactOrderRow.holds Try.pinned (OpenSpec.ofChange exactOrderSpec)

/-- ITS FALSE NEIGHBOUR: 'it returns false'. Refute it at one input. -/
def exactOrderWrong : ChangeSpec := { name := "exactOrder", fn := fun _ => fun
  | [d1, d2, d3, d4, d5] => { results := [.lit (.bool false)], args := [d1, d2, d3, d4, d5] }
  | _ => none }
def ExactOrderWrongFalsely : Prop := exactOrderRow.holds Try.pinned (OpenSpec.ofChange exactOrderWrong)

/-- 'landfalllaw01.ExactBack': WHATEVER THE INPUT: true; the input reads as it did. -/
def exactBackSpec : ChangeSpec := { name := "exactBack", fn := fun _ => fun
  | [d1, d2, d3] => { results := [.lit (.bool true)], args := [d1, d2, d3] }
  | _ => none }
def exactBackRow : OpenClaim := { program := "ytibjemalggjcgaa", sum := "be7d6df61e5f1d5988bdeb0aeb868bef6bc1521da2e3f50cc957e90c29bcae02", func := "landfall/landfalllaw01.ExactBack", spec := "exactBack", unfollowed := true, recurses := true, apart := false }
def ExactBackSaid : Prop := exactBackRow.holds Try.pinned (OpenSpec.ofChange exactBackSpec)

/-- ITS FALSE NEIGHBOUR: 'it returns false'. Refute it at one input. -/
def exactBackWrong : ChangeSpec := { name := "exactBack", fn := fun _ => fun
  | [d1, d2, d3] => { results := [.lit (.bool false)], args := [d1, d2, d3] }
  | _ => none }
def ExactBackWrongFalsely : Prop := exactBackRow.holds Try.pinned (OpenSpec.ofChange exactBackWrong)

/-- 'landfalllaw01.ExactRoots': WHATEVER THE INPUT: true; the input reads as it did. -/
def exactRootsSpec : ChangeSpec := { name := "exactRoots", fn := fun _ => fun
  | [d1, d2] => { results := [.lit (.bool true)], args := [d1, d2] }
  | _ => none }
def exactRootsRow : OpenClaim := { program := "ytibjemalggjcgaa", sum := "be7d6df61e5f1d5988bdeb0aeb868bef6bc1521da2e3f50cc957e90c29bcae02", func := "landfall/landfalllaw01.ExactRoots", spec := "exactRoots", unfollowed := true, recurses := true, apart := false }
def ExactRootsSaid : Prop := exactRootsRow.holds Try.pinned (OpenSpec.ofChange exactRootsSpec)

/-- ITS FALSE NEIGHBOUR: 'it returns false'. Refute it at one input. -/
def exactRootsWrong : ChangeSpec := { name := "exactRoots", fn := fun _ => fun
  | [d1, d2] => { results := [.lit (.bool false)], args := [d1, d2] }
  | _ => none }
def ExactRootsWrongFalsely : Prop := exactRootsRow.holds Try.pinned (OpenSpec.ofChange exactRootsWrong)

/-- 'landfalllaw01.ExactSums': WHATEVER THE INPUT: true; the input reads as it did. -/
def exactSumsSpec : ChangeSpec := { name := "exactSums", fn := fun _ => fun
  | [d1, d2, d3, d4] => { results := [.lit (.bool true)], args := [d1, d2, d3, d4] }
  | _ => none }
def exactSumsRow : OpenClaim := { program := "ytibjemalggjcgaa", sum := "be7d6df61e5f1d5988bdeb0aeb868bef6bc1521da2e3f50cc957e90c29bcae02", func := "landfall/landfalllaw01.ExactSums", spec := "exactSums", unfollowed := true, recurses := true, apart := false }
def ExactSumsSaid : Prop := exactSumsRow.holds Try.pinned (OpenSpec.ofChange exactSumsSpec)

/-- ITS FALSE NEIGHBOUR: 'it returns false'. Refute it at one input. -/
def exactSumsWrong : ChangeSpec := { name := "exactSums", fn := fun _ => fun
  | [d1, d2, d3, d4] => { results := [.lit (.bool false)], args := [d1, d2, d3, d4] }
  | _ => none }
def ExactSumsWrongFalsely : Prop := exactSumsRow.holds Try.pinned (OpenSpec.ofChange exactSumsWrong)

/- THE SECOND FORM. 'bulk': how many values and letters a reading holds, each counted each time it is reached (what is shared counts as often as it is met; a slice's spare places count too). A statement '..UptoSaid' is the law's where the arguments, and the package variables that the reading takes, are together of bulk at most 1048576: NARROWER than '..Said'. Prove '..Said' where nothing that the law and all that it calls make is longer than what came in: it says more and counts as full. Else prove '..UptoSaid'. A law counts once. -/
mutual
def uptoBulk {H : Type} : DataW H → Nat
  | .lit (.string bytes) => bytes.length + 1
  | .lit _ => 1
  | .nil => 1
  | .ptr d => uptoBulk d + 1
  | .slice elems spare => uptoBulkAll elems + uptoBulkAll spare + 1
  | .agg parts => uptoBulkAll parts + 1
  | .iface _ d => uptoBulk d + 1
  | .map entries => uptoBulkEntries entries + 1
  | .held _ => 1
def uptoBulkAll {H : Type} : List (DataW H) → Nat
  | [] => 0
  | d :: r => uptoBulk d + uptoBulkAll r
def uptoBulkEntries {H : Type} : List (Lit × DataW H) → Nat
  | [] => 0
  | x :: r => uptoBulkEntry x + uptoBulkEntries r
def uptoBulkEntry {H : Type} : Lit × DataW H → Nat
  | (.string bytes, d) => bytes.length + uptoBulk d + 1
  | (_, d) => uptoBulk d + 1
 end
def uptoSmall : (H : Type) → List (DataW H) → Bool := fun _ ds => decide (uptoBulkAll ds ≤ 1048576)
def OpenSpec.upto (s : _root_.Go.ChangeSpec) : _root_.Go.OpenSpec := { _root_.Go.OpenSpec.ofChange s with cond := some uptoSmall }

/-- 'landfalllaw01.ExactMatchesReference', WHERE WHAT IT READS IS OF BULK AT MOST 1048576: true; the input reads as it did. -/
def exactMatchesReferenceUptoRow : OpenClaim := { program := "ytibjemalggjcgaa", sum := "be7d6df61e5f1d5988bdeb0aeb868bef6bc1521da2e3f50cc957e90c29bcae02", func := "landfall/landfalllaw01.ExactMatchesReference", spec := "exactMatchesReference", unfollowed := true, recurses := true, apart := false, narrowed := true }
def ExactMatchesReferenceUptoSaid : Prop := exactMatchesReferenceUptoRow.holds Try.pinned (OpenSpec.upto exactMatchesReferenceSpec)

/-- 'landfalllaw01.ExactBetween', WHERE WHAT IT READS IS OF BULK AT MOST 1048576: true; the input reads as it did. -/
def exactBetweenUptoRow : OpenClaim := { program := "ytibjemalggjcgaa", sum := "be7d6df61e5f1d5988bdeb0aeb868bef6bc1521da2e3f50cc957e90c29bcae02", func := "landfall/landfalllaw01.ExactBetween", spec := "exactBetween", unfollowed := true, recurses := true, apart := false, narrowed := true }
def ExactBetweenUptoSaid : Prop := exactBetweenUptoRow.holds Try.pinned (OpenSpec.upto exactBetweenSpec)

/-- 'landfalllaw01.ExactSigns', WHERE WHAT IT READS IS OF BULK AT MOST 1048576: true; the input reads as it did. -/
def exactSignsUptoRow : OpenClaim := { program := "ytibjemalggjcgaa", sum := "be7d6df61e5f1d5988bdeb0aeb868bef6bc1521da2e3f50cc957e90c29bcae02", func := "landfall/landfalllaw01.ExactSigns", spec := "exactSigns", unfollowed := true, recurses := true, apart := false, narrowed := true }
def ExactSignsUptoSaid : Prop := exactSignsUptoRow.holds Try.pinned (OpenSpec.upto exactSignsSpec)

/-- 'landfalllaw01.ExactOrder', WHERE WHAT IT READS IS OF BULK AT MOST 1048576: true; the input reads as it did. -/
def exactOrderUptoRow : OpenClaim := { program := "ytibjemalggjcgaa", sum := "be7d6df61e5f1d5988bdeb0aeb868bef6bc1521da2e3f50cc957e90c29bcae02", func := "landfall/landfalllaw01.ExactOrder", spec := "exactOrder", unfollowed := true, recurses := true, apart := false, narrowed := true }
def ExactOrderUptoSaid : Prop := exactOrderUptoRow.holds Try.pinned (OpenSpec.upto exactOrderSpec)

/-- 'landfalllaw01.ExactBack', WHERE WHAT IT READS IS OF BULK AT MOST 1048576: true; the input reads as it did. -/
def exactBackUptoRow : OpenClaim := { program := "ytibjemalggjcgaa", sum := "be7d6df61e5f1d5988bdeb0aeb868bef6bc1521da2e3f50cc957e90c29bcae02", func := "landfall/landfalllaw01.ExactBack", spec := "exactBack", unfollowed := true, recurses := true, apart := false, narrowed := true }
def ExactBackUptoSaid : Prop := exactBackUptoRow.holds Try.pinned (OpenSpec.upto exactBackSpec)

/-- 'landfalllaw01.ExactRoots', WHERE WHAT IT READS IS OF BULK AT MOST 1048576: true; the input reads as it did. -/
def exactRootsUptoRow : OpenClaim := { program := "ytibjemalggjcgaa", sum := "be7d6df61e5f1d5988bdeb0aeb868bef6bc1521da2e3f50cc957e90c29bcae02", func := "landfall/landfalllaw01.ExactRoots", spec := "exactRoots", unfollowed := true, recurses := true, apart := false, narrowed := true }
def ExactRootsUptoSaid : Prop := exactRootsUptoRow.holds Try.pinned (OpenSpec.upto exactRootsSpec)

/-- 'landfalllaw01.ExactSums', WHERE WHAT IT READS IS OF BULK AT MOST 1048576: true; the input reads as it did. -/
def exactSumsUptoRow : OpenClaim := { program := "ytibjemalggjcgaa", sum := "be7d6df61e5f1d5988bdeb0aeb868bef6bc1521da2e3f50cc957e90c29bcae02", func := "landfall/landfalllaw01.ExactSums", spec := "exactSums", unfollowed := true, recurses := true, apart := false, narrowed := true }
def ExactSumsUptoSaid : Prop := exactSumsUptoRow.holds Try.pinned (OpenSpec.upto exactSumsSpec)

end Rows
end Go.Proofs.Ytibjemalggjcgaa
