/-
  No cell of these rows narrows 'for every input' (looked for: loops, veiled, ifaces, maps, wideKeys, modest, calm, conditions, laid).
  DERIVED. THE GIVEN ROWS OF THIS SEAT. 7 by the template 'for every input the law returns true; each argument reads behind the call as it read before'; 0 by the template 'total and deterministic' (their statements: YtlookcbokhknfaaGreatTotals.lean).
  GIVEN WITH THE SEED: the statements are not yours to turn. If you find one false, say at which input.
  Laid BY PROGRAM, IN A SANDBOX (cutbox-rows.mjs): the forced cells as the released guide's own fill.sh prints them over the translation dded3f5078f03802… (all of the seat's roots in one cut). By AI agents, Wed Nov 11 2026. No macro, syntax, notation, axiom, sorry.
-/
import Derived.Test.YtlookcbokhknfaaGreatChecked
import GoSem.Claim
import GoSem.ClaimJoined
import GoSem.ClaimMapViews
import Derived.JoinedTies
import Derived.KernelRfl
namespace Go.Proofs.YtlookcbokhknfaaGreat
/- THE CELL 'sum', in the pinned program and in every row, IS THE sha256 OF THE DUMP (.gsa) THAT YtlookcbokhknfaaGreatProg.lean LOADS. Nothing in Lean hashes anything: it is a label: what it is worth is what the hold of that sum in a sandbox is worth. -/
noncomputable def Tryz.pinned : Pinned := { name := "ytlookcbokhknfaagreat", sum := "dded3f5078f03802155cd31b83dc3f4c198aa77f29b526b976f8f02e9adc4115", checked := Tryz.checked }
namespace Rows
def none {H : Type} : Left H := { results := [], args := [] }

/-- 'landfalllaw07.RegionMatchesReference': WHATEVER THE INPUT: true; the input reads as it did. -/
def regionMatchesReferenceSpec : ChangeSpec := { name := "regionMatchesReference", fn := fun _ => fun
  | [d1, d2, d3, d4, d5, d6] => { results := [.lit (.bool true)], args := [d1, d2, d3, d4, d5, d6] }
  | _ => none }
def regionMatchesReferenceRow : OpenClaim := { program := "ytlookcbokhknfaagreat", sum := "dded3f5078f03802155cd31b83dc3f4c198aa77f29b526b976f8f02e9adc4115", func := "landfall/landfalllaw07.RegionMatchesReference", spec := "regionMatchesReference", unfollowed := true, recurses := true, apart := false }
def RegionMatchesReferenceSaid : Prop := regionMatchesReferenceRow.holds Tryz.pinned (OpenSpec.ofChange regionMatchesReferenceSpec)

/-- ITS FALSE NEIGHBOUR: 'it returns false'. Refute it at one input. -/
def regionMatchesReferenceWrong : ChangeSpec := { name := "regionMatchesReference", fn := fun _ => fun
  | [d1, d2, d3, d4, d5, d6] => { results := [.lit (.bool false)], args := [d1, d2, d3, d4, d5, d6] }
  | _ => none }
def RegionMatchesReferenceWrongFalsely : Prop := regionMatchesReferenceRow.holds Tryz.pinned (OpenSpec.ofChange regionMatchesReferenceWrong)

/-- 'landfalllaw07.RegionTidies': WHATEVER THE INPUT: true; the input reads as it did. -/
def regionTidiesSpec : ChangeSpec := { name := "regionTidies", fn := fun _ => fun
  | [d1, d2] => { results := [.lit (.bool true)], args := [d1, d2] }
  | _ => none }
def regionTidiesRow : OpenClaim := { program := "ytlookcbokhknfaagreat", sum := "dded3f5078f03802155cd31b83dc3f4c198aa77f29b526b976f8f02e9adc4115", func := "landfall/landfalllaw07.RegionTidies", spec := "regionTidies", unfollowed := true, recurses := true, apart := false }
def RegionTidiesSaid : Prop := regionTidiesRow.holds Tryz.pinned (OpenSpec.ofChange regionTidiesSpec)

/-- ITS FALSE NEIGHBOUR: 'it returns false'. Refute it at one input. -/
def regionTidiesWrong : ChangeSpec := { name := "regionTidies", fn := fun _ => fun
  | [d1, d2] => { results := [.lit (.bool false)], args := [d1, d2] }
  | _ => none }
def RegionTidiesWrongFalsely : Prop := regionTidiesRow.holds Tryz.pinned (OpenSpec.ofChange regionTidiesWrong)

/-- 'landfalllaw07.RegionJoins': WHATEVER THE INPUT: true; the input reads as it did. -/
def regionJoinsSpec : ChangeSpec := { name := "regionJoins", fn := fun _ => fun
  | [d1, d2, d3] => { results := [.lit (.bool true)], args := [d1, d2, d3] }
  | _ => none }
def regionJoinsRow : OpenClaim := { program := "ytlookcbokhknfaagreat", sum := "dded3f5078f03802155cd31b83dc3f4c198aa77f29b526b976f8f02e9adc4115", func := "landfall/landfalllaw07.RegionJoins", spec := "regionJoins", unfollowed := true, recurses := true, apart := false }
def RegionJoinsSaid : Prop := regionJoinsRow.holds Tryz.pinned (OpenSpec.ofChange regionJoinsSpec)

/-- ITS FALSE NEIGHBOUR: 'it returns false'. Refute it at one input. -/
def regionJoinsWrong : ChangeSpec := { name := "regionJoins", fn := fun _ => fun
  | [d1, d2, d3] => { results := [.lit (.bool false)], args := [d1, d2, d3] }
  | _ => none }
def RegionJoinsWrongFalsely : Prop := regionJoinsRow.holds Tryz.pinned (OpenSpec.ofChange regionJoinsWrong)

/-- 'landfalllaw07.RegionCuts': WHATEVER THE INPUT: true; the input reads as it did. -/
def regionCutsSpec : ChangeSpec := { name := "regionCuts", fn := fun _ => fun
  | [d1, d2, d3, d4] => { results := [.lit (.bool true)], args := [d1, d2, d3, d4] }
  | _ => none }
def regionCutsRow : OpenClaim := { program := "ytlookcbokhknfaagreat", sum := "dded3f5078f03802155cd31b83dc3f4c198aa77f29b526b976f8f02e9adc4115", func := "landfall/landfalllaw07.RegionCuts", spec := "regionCuts", unfollowed := true, recurses := true, apart := false }
def RegionCutsSaid : Prop := regionCutsRow.holds Tryz.pinned (OpenSpec.ofChange regionCutsSpec)

/-- ITS FALSE NEIGHBOUR: 'it returns false'. Refute it at one input. -/
def regionCutsWrong : ChangeSpec := { name := "regionCuts", fn := fun _ => fun
  | [d1, d2, d3, d4] => { results := [.lit (.bool false)], args := [d1, d2, d3, d4] }
  | _ => none }
def RegionCutsWrongFalsely : Prop := regionCutsRow.holds Tryz.pinned (OpenSpec.ofChange regionCutsWrong)

/-- 'landfalllaw07.RegionSums': WHATEVER THE INPUT: true; the input reads as it did. -/
def regionSumsSpec : ChangeSpec := { name := "regionSums", fn := fun _ => fun
  | [d1, d2, d3, d4] => { results := [.lit (.bool true)], args := [d1, d2, d3, d4] }
  | _ => none }
def regionSumsRow : OpenClaim := { program := "ytlookcbokhknfaagreat", sum := "dded3f5078f03802155cd31b83dc3f4c198aa77f29b526b976f8f02e9adc4115", func := "landfall/landfalllaw07.RegionSums", spec := "regionSums", unfollowed := true, recurses := true, apart := false }
def RegionSumsSaid : Prop := regionSumsRow.holds Tryz.pinned (OpenSpec.ofChange regionSumsSpec)

/-- ITS FALSE NEIGHBOUR: 'it returns false'. Refute it at one input. -/
def regionSumsWrong : ChangeSpec := { name := "regionSums", fn := fun _ => fun
  | [d1, d2, d3, d4] => { results := [.lit (.bool false)], args := [d1, d2, d3, d4] }
  | _ => none }
def RegionSumsWrongFalsely : Prop := regionSumsRow.holds Tryz.pinned (OpenSpec.ofChange regionSumsWrong)

/-- 'landfalllaw07.RegionOut': WHATEVER THE INPUT: true; the input reads as it did. -/
def regionOutSpec : ChangeSpec := { name := "regionOut", fn := fun _ => fun
  | [d1, d2, d3, d4] => { results := [.lit (.bool true)], args := [d1, d2, d3, d4] }
  | _ => none }
def regionOutRow : OpenClaim := { program := "ytlookcbokhknfaagreat", sum := "dded3f5078f03802155cd31b83dc3f4c198aa77f29b526b976f8f02e9adc4115", func := "landfall/landfalllaw07.RegionOut", spec := "regionOut", unfollowed := true, recurses := true, apart := false }
def RegionOutSaid : Prop := regionOutRow.holds Tryz.pinned (OpenSpec.ofChange regionOutSpec)

/-- ITS FALSE NEIGHBOUR: 'it returns false'. Refute it at one input. -/
def regionOutWrong : ChangeSpec := { name := "regionOut", fn := fun _ => fun
  | [d1, d2, d3, d4] => { results := [.lit (.bool false)], args := [d1, d2, d3, d4] }
  | _ => none }
def RegionOutWrongFalsely : Prop := regionOutRow.holds Tryz.pinned (OpenSpec.ofChange regionOutWrong)

/-- 'landfalllaw07.RegionWithin': WHATEVER THE INPUT: true; the input reads as it did. -/
def regionWithinSpec : ChangeSpec := { name := "regionWithin", fn := fun _ => fun
  | [d1, d2, d3] => { results := [.lit (.bool true)], args := [d1, d2, d3] }
  | _ => none }
def regionWithinRow : OpenClaim := { program := "ytlookcbokhknfaagreat", sum := "dded3f5078f03802155cd31b83dc3f4c198aa77f29b526b976f8f02e9adc4115", func := "landfall/landfalllaw07.RegionWithin", spec := "regionWithin", unfollowed := true, recurses := true, apart := false }
def RegionWithinSaid : Prop := regionWithinRow.holds Tryz.pinned (OpenSpec.ofChange regionWithinSpec)

/-- ITS FALSE NEIGHBOUR: 'it returns false'. Refute it at one input. -/
def regionWithinWrong : ChangeSpec := { name := "regionWithin", fn := fun _ => fun
  | [d1, d2, d3] => { results := [.lit (.bool false)], args := [d1, d2, d3] }
  | _ => none }
def RegionWithinWrongFalsely : Prop := regionWithinRow.holds Tryz.pinned (OpenSpec.ofChange regionWithinWrong)

/- THE SECOND FORM. 'bulk': how many values and letters a reading holds, each counted each time it is reached (what is shared counts as often as it is met; a slice's spare places count too). A statement '..UptoSaid' is the law's where the arguments, and the package variables that the reading takes, are together of bulk at most 1048576: NARROWER than '..Said'. Prove '..Said' where nothing that the law and all that it calls make is longer than what came in: it says more and counts as full. Else prove '..UptoSaid'. A law counts once. -/
mutual
def uptoBulk {H : Type} : DataW H → Nat
  | .lit (.string bytes) => bytes.length + 1
  | .lit _ => 1
  | .nil => 1
  | .ptr d => uptoBulk d + 1
  | .slice elems spare => uptoBulkAll elems + uptoBulkAll spare + 1
  | .agg parts => uptoBulkAll parts + 1
  | .iface _ d => uptoBulk d + 1
  | .map entries => uptoBulkEntries entries + 1
  | .held _ => 1
def uptoBulkAll {H : Type} : List (DataW H) → Nat
  | [] => 0
  | d :: r => uptoBulk d + uptoBulkAll r
def uptoBulkEntries {H : Type} : List (Lit × DataW H) → Nat
  | [] => 0
  | x :: r => uptoBulkEntry x + uptoBulkEntries r
def uptoBulkEntry {H : Type} : Lit × DataW H → Nat
  | (.string bytes, d) => bytes.length + uptoBulk d + 1
  | (_, d) => uptoBulk d + 1
 end
def uptoSmall : (H : Type) → List (DataW H) → Bool := fun _ ds => decide (uptoBulkAll ds ≤ 1048576)
def OpenSpec.upto (s : _root_.Go.ChangeSpec) : _root_.Go.OpenSpec := { _root_.Go.OpenSpec.ofChange s with cond := some uptoSmall }

/-- 'landfalllaw07.RegionMatchesReference', WHERE WHAT IT READS IS OF BULK AT MOST 1048576: true; the input reads as it did. -/
def regionMatchesReferenceUptoRow : OpenClaim := { program := "ytlookcbokhknfaagreat", sum := "dded3f5078f03802155cd31b83dc3f4c198aa77f29b526b976f8f02e9adc4115", func := "landfall/landfalllaw07.RegionMatchesReference", spec := "regionMatchesReference", unfollowed := true, recurses := true, apart := false, narrowed := true }
def RegionMatchesReferenceUptoSaid : Prop := regionMatchesReferenceUptoRow.holds Tryz.pinned (OpenSpec.upto regionMatchesReferenceSpec)

/-- 'landfalllaw07.RegionTidies', WHERE WHAT IT READS IS OF BULK AT MOST 1048576: true; the input reads as it did. -/
def regionTidiesUptoRow : OpenClaim := { program := "ytlookcbokhknfaagreat", sum := "dded3f5078f03802155cd31b83dc3f4c198aa77f29b526b976f8f02e9adc4115", func := "landfall/landfalllaw07.RegionTidies", spec := "regionTidies", unfollowed := true, recurses := true, apart := false, narrowed := true }
def RegionTidiesUptoSaid : Prop := regionTidiesUptoRow.holds Tryz.pinned (OpenSpec.upto regionTidiesSpec)

/-- 'landfalllaw07.RegionJoins', WHERE WHAT IT READS IS OF BULK AT MOST 1048576: true; the input reads as it did. -/
def regionJoinsUptoRow : OpenClaim := { program := "ytlookcbokhknfaagreat", sum := "dded3f5078f03802155cd31b83dc3f4c198aa77f29b526b976f8f02e9adc4115", func := "landfall/landfalllaw07.RegionJoins", spec := "regionJoins", unfollowed := true, recurses := true, apart := false, narrowed := true }
def RegionJoinsUptoSaid : Prop := regionJoinsUptoRow.holds Tryz.pinned (OpenSpec.upto regionJoinsSpec)

/-- 'landfalllaw07.RegionCuts', WHERE WHAT IT READS IS OF BULK AT MOST 1048576: true; the input reads as it did. -/
def regionCutsUptoRow : OpenClaim := { program := "ytlookcbokhknfaagreat", sum := "dded3f5078f03802155cd31b83dc3f4c198aa77f29b526b976f8f02e9adc4115", func := "landfall/landfalllaw07.RegionCuts", spec := "regionCuts", unfollowed := true, recurses := true, apart := false, narrowed := true }
def RegionCutsUptoSaid : Prop := regionCutsUptoRow.holds Tryz.pinned (OpenSpec.upto regionCutsSpec)

/-- 'landfalllaw07.RegionSums', WHERE WHAT IT READS IS OF BULK AT MOST 1048576: true; the input reads as it did. -/
def regionSumsUptoRow : OpenClaim := { program := "ytlookcbokhknfaagreat", sum := "dded3f5078f03802155cd31b83dc3f4c198aa77f29b526b976f8f02e9adc4115", func := "landfall/landfalllaw07.RegionSums", spec := "regionSums", unfollowed := true, recurses := true, apart := false, narrowed := true }
def RegionSumsUptoSaid : Prop := regionSumsUptoRow.holds Tryz.pinned (OpenSpec.upto regionSumsSpec)

/-- 'landfalllaw07.RegionOut', WHERE WHAT IT READS IS OF BULK AT MOST 1048576: true; the input reads as it did. -/
def regionOutUptoRow : OpenClaim := { program := "ytlookcbokhknfaagreat", sum := "dded3f5078f03802155cd31b83dc3f4c198aa77f29b526b976f8f02e9adc4115", func := "landfall/landfalllaw07.RegionOut", spec := "regionOut", unfollowed := true, recurses := true, apart := false, narrowed := true }
def RegionOutUptoSaid : Prop := regionOutUptoRow.holds Tryz.pinned (OpenSpec.upto regionOutSpec)

/-- 'landfalllaw07.RegionWithin', WHERE WHAT IT READS IS OF BULK AT MOST 1048576: true; the input reads as it did. -/
def regionWithinUptoRow : OpenClaim := { program := "ytlookcbokhknfaagreat", sum := "dded3f5078f03802155cd31b83dc3f4c198aa77f29b526b976f8f02e9adc4115", func := "landfall/landfalllaw07.RegionWithin", spec := "regionWithin", unfollowed := true, recurses := true, apart := false, narrowed := true }
def RegionWithinUptoSaid : Prop := regionWithinUptoRow.holds Tryz.pinned (OpenSpec.upto regionWithinSpec)

end Rows
end Go.Proofs.YtlookcbokhknfaaGreat
