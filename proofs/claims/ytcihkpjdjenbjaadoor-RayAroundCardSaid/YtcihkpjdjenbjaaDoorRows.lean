/-
  NARROWER THAN 'FOR EVERY INPUT', by the rows' own cells (each row's printed sentence says how): RayMatchesReference: laid · RayAround: laid · RayTurns: laid · RayJoins: laid · RaySectors: laid · RayEnds: laid.
  DERIVED. THE GIVEN ROWS OF THIS SEAT. 6 by the template 'for every input the law returns true; each argument reads behind the call as it read before'; 0 by the template 'total and deterministic' (their statements: YtcihkpjdjenbjaaDoorTotals.lean).
  GIVEN WITH THE SEED: the statements are not yours to turn. If you find one false, say at which input.
  Laid BY PROGRAM, IN A SANDBOX (cutbox-rows.mjs): the forced cells as the released guide's own fill.sh prints them over the translation 1783d64cf798d269… (all of the seat's roots in one cut). By AI agents, Wed Nov 11 2026. No macro, syntax, notation, axiom, sorry.
-/
import Derived.Test.YtcihkpjdjenbjaaDoorChecked
import GoSem.Claim
import GoSem.ClaimJoined
import GoSem.ClaimMapViews
import Derived.JoinedTies
import Derived.KernelRfl
namespace Go.Proofs.YtcihkpjdjenbjaaDoor
/- THE CELL 'sum', in the pinned program and in every row, IS THE sha256 OF THE DUMP (.gsa) THAT YtcihkpjdjenbjaaDoorProg.lean LOADS. Nothing in Lean hashes anything: it is a label: what it is worth is what the hold of that sum in a sandbox is worth. -/
noncomputable def Tryd.pinned : Pinned := { name := "ytcihkpjdjenbjaadoor", sum := "1783d64cf798d269e0808d6bc2970a14b83b254cf871b68b4bbe1714da2df241", checked := Tryd.checked }
namespace Rows
def none {H : Type} : Left H := { results := [], args := [] }

/- WHAT THE LISTED PACKAGE-LEVEL VARIABLES READ AS WHEN THE CALL BEGINS. Each datum BY PROGRAM (the guide's laid-datum.mjs) off the statement by which the dump's own 'gosem.cut.vars' lays the variable. In a bare row this is a premise. The card (YtcihkpjdjenbjaaDoorCards.lean) ties it to the program's text. -/
def laid_landfall_ray_quarter {H : Type} : DataW H := .agg [.agg [.lit (.int .i64 1000), .lit (.int .i64 0)], .agg [.lit (.int .i64 995), .lit (.int .i64 98)], .agg [.lit (.int .i64 981), .lit (.int .i64 195)], .agg [.lit (.int .i64 957), .lit (.int .i64 290)], .agg [.lit (.int .i64 924), .lit (.int .i64 383)], .agg [.lit (.int .i64 882), .lit (.int .i64 471)], .agg [.lit (.int .i64 831), .lit (.int .i64 556)], .agg [.lit (.int .i64 773), .lit (.int .i64 634)], .agg [.lit (.int .i64 707), .lit (.int .i64 707)], .agg [.lit (.int .i64 634), .lit (.int .i64 773)], .agg [.lit (.int .i64 556), .lit (.int .i64 831)], .agg [.lit (.int .i64 471), .lit (.int .i64 882)], .agg [.lit (.int .i64 383), .lit (.int .i64 924)], .agg [.lit (.int .i64 290), .lit (.int .i64 957)], .agg [.lit (.int .i64 195), .lit (.int .i64 981)], .agg [.lit (.int .i64 98), .lit (.int .i64 995)]]

/-- 'landfalllaw09.RayMatchesReference': WHATEVER THE INPUT: true; the input reads as it did. -/
def rayMatchesReferenceSpec : ChangeSpec := { name := "rayMatchesReference", fn := fun _ => fun
  | [d1, d2, d3, d4] => { results := [.lit (.bool true)], args := [d1, d2, d3, d4] }
  | _ => none }
def rayMatchesReferenceRow : OpenClaim := { program := "ytcihkpjdjenbjaadoor", sum := "1783d64cf798d269e0808d6bc2970a14b83b254cf871b68b4bbe1714da2df241", func := "landfall/landfalllaw09.RayMatchesReference", spec := "rayMatchesReference", unfollowed := true, recurses := true, named := ["landfall/ray.quarter"], apart := false, laid := [("landfall/ray.quarter", laid_landfall_ray_quarter)] }
def RayMatchesReferenceSaid : Prop := rayMatchesReferenceRow.holds Tryd.pinned (OpenSpec.ofChange rayMatchesReferenceSpec)

/-- ITS FALSE NEIGHBOUR: 'it returns false'. Refute it at one input. -/
def rayMatchesReferenceWrong : ChangeSpec := { name := "rayMatchesReference", fn := fun _ => fun
  | [d1, d2, d3, d4] => { results := [.lit (.bool false)], args := [d1, d2, d3, d4] }
  | _ => none }
def RayMatchesReferenceWrongFalsely : Prop := rayMatchesReferenceRow.holds Tryd.pinned (OpenSpec.ofChange rayMatchesReferenceWrong)

/-- 'landfalllaw09.RayAround': WHATEVER THE INPUT: true; the input reads as it did. -/
def rayAroundSpec : ChangeSpec := { name := "rayAround", fn := fun _ => fun
  | [d1, d2, d3, d4] => { results := [.lit (.bool true)], args := [d1, d2, d3, d4] }
  | _ => none }
def rayAroundRow : OpenClaim := { program := "ytcihkpjdjenbjaadoor", sum := "1783d64cf798d269e0808d6bc2970a14b83b254cf871b68b4bbe1714da2df241", func := "landfall/landfalllaw09.RayAround", spec := "rayAround", unfollowed := true, recurses := true, named := ["landfall/ray.quarter"], apart := false, laid := [("landfall/ray.quarter", laid_landfall_ray_quarter)] }
def RayAroundSaid : Prop := rayAroundRow.holds Tryd.pinned (OpenSpec.ofChange rayAroundSpec)

/-- ITS FALSE NEIGHBOUR: 'it returns false'. Refute it at one input. -/
def rayAroundWrong : ChangeSpec := { name := "rayAround", fn := fun _ => fun
  | [d1, d2, d3, d4] => { results := [.lit (.bool false)], args := [d1, d2, d3, d4] }
  | _ => none }
def RayAroundWrongFalsely : Prop := rayAroundRow.holds Tryd.pinned (OpenSpec.ofChange rayAroundWrong)

/-- 'landfalllaw09.RayTurns': WHATEVER THE INPUT: true; the input reads as it did. -/
def rayTurnsSpec : ChangeSpec := { name := "rayTurns", fn := fun _ => fun
  | [d1, d2, d3, d4] => { results := [.lit (.bool true)], args := [d1, d2, d3, d4] }
  | _ => none }
def rayTurnsRow : OpenClaim := { program := "ytcihkpjdjenbjaadoor", sum := "1783d64cf798d269e0808d6bc2970a14b83b254cf871b68b4bbe1714da2df241", func := "landfall/landfalllaw09.RayTurns", spec := "rayTurns", unfollowed := true, recurses := true, named := ["landfall/ray.quarter"], apart := false, laid := [("landfall/ray.quarter", laid_landfall_ray_quarter)] }
def RayTurnsSaid : Prop := rayTurnsRow.holds Tryd.pinned (OpenSpec.ofChange rayTurnsSpec)

/-- ITS FALSE NEIGHBOUR: 'it returns false'. Refute it at one input. -/
def rayTurnsWrong : ChangeSpec := { name := "rayTurns", fn := fun _ => fun
  | [d1, d2, d3, d4] => { results := [.lit (.bool false)], args := [d1, d2, d3, d4] }
  | _ => none }
def RayTurnsWrongFalsely : Prop := rayTurnsRow.holds Tryd.pinned (OpenSpec.ofChange rayTurnsWrong)

/-- 'landfalllaw09.RayJoins': WHATEVER THE INPUT: true; the input reads as it did. -/
def rayJoinsSpec : ChangeSpec := { name := "rayJoins", fn := fun _ => fun
  | [d1, d2, d3, d4, d5] => { results := [.lit (.bool true)], args := [d1, d2, d3, d4, d5] }
  | _ => none }
def rayJoinsRow : OpenClaim := { program := "ytcihkpjdjenbjaadoor", sum := "1783d64cf798d269e0808d6bc2970a14b83b254cf871b68b4bbe1714da2df241", func := "landfall/landfalllaw09.RayJoins", spec := "rayJoins", unfollowed := true, recurses := true, named := ["landfall/ray.quarter"], apart := false, laid := [("landfall/ray.quarter", laid_landfall_ray_quarter)] }
def RayJoinsSaid : Prop := rayJoinsRow.holds Tryd.pinned (OpenSpec.ofChange rayJoinsSpec)

/-- ITS FALSE NEIGHBOUR: 'it returns false'. Refute it at one input. -/
def rayJoinsWrong : ChangeSpec := { name := "rayJoins", fn := fun _ => fun
  | [d1, d2, d3, d4, d5] => { results := [.lit (.bool false)], args := [d1, d2, d3, d4, d5] }
  | _ => none }
def RayJoinsWrongFalsely : Prop := rayJoinsRow.holds Tryd.pinned (OpenSpec.ofChange rayJoinsWrong)

/-- 'landfalllaw09.RaySectors': WHATEVER THE INPUT: true; the input reads as it did. -/
def raySectorsSpec : ChangeSpec := { name := "raySectors", fn := fun _ => fun
  | [d1, d2, d3, d4, d5, d6] => { results := [.lit (.bool true)], args := [d1, d2, d3, d4, d5, d6] }
  | _ => none }
def raySectorsRow : OpenClaim := { program := "ytcihkpjdjenbjaadoor", sum := "1783d64cf798d269e0808d6bc2970a14b83b254cf871b68b4bbe1714da2df241", func := "landfall/landfalllaw09.RaySectors", spec := "raySectors", unfollowed := true, recurses := true, named := ["landfall/ray.quarter"], apart := false, laid := [("landfall/ray.quarter", laid_landfall_ray_quarter)] }
def RaySectorsSaid : Prop := raySectorsRow.holds Tryd.pinned (OpenSpec.ofChange raySectorsSpec)

/-- ITS FALSE NEIGHBOUR: 'it returns false'. Refute it at one input. -/
def raySectorsWrong : ChangeSpec := { name := "raySectors", fn := fun _ => fun
  | [d1, d2, d3, d4, d5, d6] => { results := [.lit (.bool false)], args := [d1, d2, d3, d4, d5, d6] }
  | _ => none }
def RaySectorsWrongFalsely : Prop := raySectorsRow.holds Tryd.pinned (OpenSpec.ofChange raySectorsWrong)

/-- 'landfalllaw09.RayEnds': WHATEVER THE INPUT: true; the input reads as it did. -/
def rayEndsSpec : ChangeSpec := { name := "rayEnds", fn := fun _ => fun
  | [d1, d2, d3, d4] => { results := [.lit (.bool true)], args := [d1, d2, d3, d4] }
  | _ => none }
def rayEndsRow : OpenClaim := { program := "ytcihkpjdjenbjaadoor", sum := "1783d64cf798d269e0808d6bc2970a14b83b254cf871b68b4bbe1714da2df241", func := "landfall/landfalllaw09.RayEnds", spec := "rayEnds", unfollowed := true, recurses := true, named := ["landfall/ray.quarter"], apart := false, laid := [("landfall/ray.quarter", laid_landfall_ray_quarter)] }
def RayEndsSaid : Prop := rayEndsRow.holds Tryd.pinned (OpenSpec.ofChange rayEndsSpec)

/-- ITS FALSE NEIGHBOUR: 'it returns false'. Refute it at one input. -/
def rayEndsWrong : ChangeSpec := { name := "rayEnds", fn := fun _ => fun
  | [d1, d2, d3, d4] => { results := [.lit (.bool false)], args := [d1, d2, d3, d4] }
  | _ => none }
def RayEndsWrongFalsely : Prop := rayEndsRow.holds Tryd.pinned (OpenSpec.ofChange rayEndsWrong)

/- THE SECOND FORM. 'bulk': how many values and letters a reading holds, each counted each time it is reached (what is shared counts as often as it is met; a slice's spare places count too). A statement '..UptoSaid' is the law's where the arguments, and the package variables that the reading takes, are together of bulk at most 1048576: NARROWER than '..Said'. Prove '..Said' where nothing that the law and all that it calls make is longer than what came in: it says more and counts as full. Else prove '..UptoSaid'. A law counts once. -/
mutual
def uptoBulk {H : Type} : DataW H → Nat
  | .lit (.string bytes) => bytes.length + 1
  | .lit _ => 1
  | .nil => 1
  | .ptr d => uptoBulk d + 1
  | .slice elems spare => uptoBulkAll elems + uptoBulkAll spare + 1
  | .agg parts => uptoBulkAll parts + 1
  | .iface _ d => uptoBulk d + 1
  | .map entries => uptoBulkEntries entries + 1
  | .held _ => 1
def uptoBulkAll {H : Type} : List (DataW H) → Nat
  | [] => 0
  | d :: r => uptoBulk d + uptoBulkAll r
def uptoBulkEntries {H : Type} : List (Lit × DataW H) → Nat
  | [] => 0
  | x :: r => uptoBulkEntry x + uptoBulkEntries r
def uptoBulkEntry {H : Type} : Lit × DataW H → Nat
  | (.string bytes, d) => bytes.length + uptoBulk d + 1
  | (_, d) => uptoBulk d + 1
 end
def uptoSmall : (H : Type) → List (DataW H) → Bool := fun _ ds => decide (uptoBulkAll ds ≤ 1048576)
def OpenSpec.upto (s : _root_.Go.ChangeSpec) : _root_.Go.OpenSpec := { _root_.Go.OpenSpec.ofChange s with cond := some uptoSmall }

/-- 'landfalllaw09.RayMatchesReference', WHERE WHAT IT READS IS OF BULK AT MOST 1048576: true; the input reads as it did. -/
def rayMatchesReferenceUptoRow : OpenClaim := { program := "ytcihkpjdjenbjaadoor", sum := "1783d64cf798d269e0808d6bc2970a14b83b254cf871b68b4bbe1714da2df241", func := "landfall/landfalllaw09.RayMatchesReference", spec := "rayMatchesReference", unfollowed := true, recurses := true, named := ["landfall/ray.quarter"], apart := false, laid := [("landfall/ray.quarter", laid_landfall_ray_quarter)], narrowed := true }
def RayMatchesReferenceUptoSaid : Prop := rayMatchesReferenceUptoRow.holds Tryd.pinned (OpenSpec.upto rayMatchesReferenceSpec)

/-- 'landfalllaw09.RayAround', WHERE WHAT IT READS IS OF BULK AT MOST 1048576: true; the input reads as it did. -/
def rayAroundUptoRow : OpenClaim := { program := "ytcihkpjdjenbjaadoor", sum := "1783d64cf798d269e0808d6bc2970a14b83b254cf871b68b4bbe1714da2df241", func := "landfall/landfalllaw09.RayAround", spec := "rayAround", unfollowed := true, recurses := true, named := ["landfall/ray.quarter"], apart := false, laid := [("landfall/ray.quarter", laid_landfall_ray_quarter)], narrowed := true }
def RayAroundUptoSaid : Prop := rayAroundUptoRow.holds Tryd.pinned (OpenSpec.upto rayAroundSpec)

/-- 'landfalllaw09.RayTurns', WHERE WHAT IT READS IS OF BULK AT MOST 1048576: true; the input reads as it did. -/
def rayTurnsUptoRow : OpenClaim := { program := "ytcihkpjdjenbjaadoor", sum := "1783d64cf798d269e0808d6bc2970a14b83b254cf871b68b4bbe1714da2df241", func := "landfall/landfalllaw09.RayTurns", spec := "rayTurns", unfollowed := true, recurses := true, named := ["landfall/ray.quarter"], apart := false, laid := [("landfall/ray.quarter", laid_landfall_ray_quarter)], narrowed := true }
def RayTurnsUptoSaid : Prop := rayTurnsUptoRow.holds Tryd.pinned (OpenSpec.upto rayTurnsSpec)

/-- 'landfalllaw09.RayJoins', WHERE WHAT IT READS IS OF BULK AT MOST 1048576: true; the input reads as it did. -/
def rayJoinsUptoRow : OpenClaim := { program := "ytcihkpjdjenbjaadoor", sum := "1783d64cf798d269e0808d6bc2970a14b83b254cf871b68b4bbe1714da2df241", func := "landfall/landfalllaw09.RayJoins", spec := "rayJoins", unfollowed := true, recurses := true, named := ["landfall/ray.quarter"], apart := false, laid := [("landfall/ray.quarter", laid_landfall_ray_quarter)], narrowed := true }
def RayJoinsUptoSaid : Prop := rayJoinsUptoRow.holds Tryd.pinned (OpenSpec.upto rayJoinsSpec)

/-- 'landfalllaw09.RaySectors', WHERE WHAT IT READS IS OF BULK AT MOST 1048576: true; the input reads as it did. -/
def raySectorsUptoRow : OpenClaim := { program := "ytcihkpjdjenbjaadoor", sum := "1783d64cf798d269e0808d6bc2970a14b83b254cf871b68b4bbe1714da2df241", func := "landfall/landfalllaw09.RaySectors", spec := "raySectors", unfollowed := true, recurses := true, named := ["landfall/ray.quarter"], apart := false, laid := [("landfall/ray.quarter", laid_landfall_ray_quarter)], narrowed := true }
def RaySectorsUptoSaid : Prop := raySectorsUptoRow.holds Tryd.pinned (OpenSpec.upto raySectorsSpec)

/-- 'landfalllaw09.RayEnds', WHERE WHAT IT READS IS OF BULK AT MOST 1048576: true; the input reads as it did. -/
def rayEndsUptoRow : OpenClaim := { program := "ytcihkpjdjenbjaadoor", sum := "1783d64cf798d269e0808d6bc2970a14b83b254cf871b68b4bbe1714da2df241", func := "landfall/landfalllaw09.RayEnds", spec := "rayEnds", unfollowed := true, recurses := true, named := ["landfall/ray.quarter"], apart := false, laid := [("landfall/ray.quarter", laid_landfall_ray_quarter)], narrowed := true }
def RayEndsUptoSaid : Prop := rayEndsUptoRow.holds Tryd.pinned (OpenSpec.upto rayEndsSpec)

end Rows
end Go.Proofs.YtcihkpjdjenbjaaDoor
