/-
  DERIVED. GIVEN WITH THE SEED: THE CARDS: each row of YtcihkpjdjenbjaaDoorRows.lean that lists a variable, with what it lists TIED to the program's text (the seventh form; the later family's looks); each row that meets fmt, with fmt's text TOLD by the authors' own Lean function (tested against real Go, not proved from fmt's source: count such statements apart). THE CARD IS WHAT COUNTS. Prove the row's statement (the work); the ties are given (YtcihkpjdjenbjaaDoorTie.lean); close each card by the builder's one call (the guide's Derived/Test/ToyasCard.lean, 'card_holds'). Laid BY PROGRAM, IN A SANDBOX (cutbox-door.mjs). By AI agents, Wed Nov 11 2026. No macro, syntax, notation, axiom, sorry.
-/
import Derived.Test.YtcihkpjdjenbjaaDoorRows
import GoSem.ClaimSeven
namespace Go.Proofs.YtcihkpjdjenbjaaDoor
namespace Rows

/-- THE TIED CARD OF 'landfalllaw09.RayMatchesReference'. -/
def rayMatchesReferenceCard : Claim7 := { stood := { row := rayMatchesReferenceRow, standIns := [], harness := (true, "f06dda0967e2f5853759fc12a1bb41c2d5f1ce24e9b6c379d20f26d97acad36a"), looks := false }, kinds := [], alts := [], laidByText := true, laidKinds := [.data], laidTests := true, laidLooks := .later }
def RayMatchesReferenceCardSaid : Prop := Claim7.holds Tryd.pinned (.plain (OpenSpec.ofChange rayMatchesReferenceSpec)) rayMatchesReferenceCard

/-- THE TIED CARD OF 'landfalllaw09.RayAround'. -/
def rayAroundCard : Claim7 := { stood := { row := rayAroundRow, standIns := [], harness := (true, "f06dda0967e2f5853759fc12a1bb41c2d5f1ce24e9b6c379d20f26d97acad36a"), looks := false }, kinds := [], alts := [], laidByText := true, laidKinds := [.data], laidTests := true, laidLooks := .later }
def RayAroundCardSaid : Prop := Claim7.holds Tryd.pinned (.plain (OpenSpec.ofChange rayAroundSpec)) rayAroundCard

/-- THE TIED CARD OF 'landfalllaw09.RayTurns'. -/
def rayTurnsCard : Claim7 := { stood := { row := rayTurnsRow, standIns := [], harness := (true, "f06dda0967e2f5853759fc12a1bb41c2d5f1ce24e9b6c379d20f26d97acad36a"), looks := false }, kinds := [], alts := [], laidByText := true, laidKinds := [.data], laidTests := true, laidLooks := .later }
def RayTurnsCardSaid : Prop := Claim7.holds Tryd.pinned (.plain (OpenSpec.ofChange rayTurnsSpec)) rayTurnsCard

/-- THE TIED CARD OF 'landfalllaw09.RayJoins'. -/
def rayJoinsCard : Claim7 := { stood := { row := rayJoinsRow, standIns := [], harness := (true, "f06dda0967e2f5853759fc12a1bb41c2d5f1ce24e9b6c379d20f26d97acad36a"), looks := false }, kinds := [], alts := [], laidByText := true, laidKinds := [.data], laidTests := true, laidLooks := .later }
def RayJoinsCardSaid : Prop := Claim7.holds Tryd.pinned (.plain (OpenSpec.ofChange rayJoinsSpec)) rayJoinsCard

/-- THE TIED CARD OF 'landfalllaw09.RaySectors'. -/
def raySectorsCard : Claim7 := { stood := { row := raySectorsRow, standIns := [], harness := (true, "f06dda0967e2f5853759fc12a1bb41c2d5f1ce24e9b6c379d20f26d97acad36a"), looks := false }, kinds := [], alts := [], laidByText := true, laidKinds := [.data], laidTests := true, laidLooks := .later }
def RaySectorsCardSaid : Prop := Claim7.holds Tryd.pinned (.plain (OpenSpec.ofChange raySectorsSpec)) raySectorsCard

/-- THE TIED CARD OF 'landfalllaw09.RayEnds'. -/
def rayEndsCard : Claim7 := { stood := { row := rayEndsRow, standIns := [], harness := (true, "f06dda0967e2f5853759fc12a1bb41c2d5f1ce24e9b6c379d20f26d97acad36a"), looks := false }, kinds := [], alts := [], laidByText := true, laidKinds := [.data], laidTests := true, laidLooks := .later }
def RayEndsCardSaid : Prop := Claim7.holds Tryd.pinned (.plain (OpenSpec.ofChange rayEndsSpec)) rayEndsCard

/-- THE SECOND FORM's CARD OF 'landfalllaw09.RayMatchesReference'. -/
def rayMatchesReferenceUptoCard : Claim7 := { stood := { row := rayMatchesReferenceUptoRow, standIns := [], harness := (true, "f06dda0967e2f5853759fc12a1bb41c2d5f1ce24e9b6c379d20f26d97acad36a"), looks := false }, kinds := [], alts := [], laidByText := true, laidKinds := [.data], laidTests := true, laidLooks := .later }
def RayMatchesReferenceUptoCardSaid : Prop := Claim7.holds Tryd.pinned (.plain (OpenSpec.upto rayMatchesReferenceSpec)) rayMatchesReferenceUptoCard

/-- THE SECOND FORM's CARD OF 'landfalllaw09.RayAround'. -/
def rayAroundUptoCard : Claim7 := { stood := { row := rayAroundUptoRow, standIns := [], harness := (true, "f06dda0967e2f5853759fc12a1bb41c2d5f1ce24e9b6c379d20f26d97acad36a"), looks := false }, kinds := [], alts := [], laidByText := true, laidKinds := [.data], laidTests := true, laidLooks := .later }
def RayAroundUptoCardSaid : Prop := Claim7.holds Tryd.pinned (.plain (OpenSpec.upto rayAroundSpec)) rayAroundUptoCard

/-- THE SECOND FORM's CARD OF 'landfalllaw09.RayTurns'. -/
def rayTurnsUptoCard : Claim7 := { stood := { row := rayTurnsUptoRow, standIns := [], harness := (true, "f06dda0967e2f5853759fc12a1bb41c2d5f1ce24e9b6c379d20f26d97acad36a"), looks := false }, kinds := [], alts := [], laidByText := true, laidKinds := [.data], laidTests := true, laidLooks := .later }
def RayTurnsUptoCardSaid : Prop := Claim7.holds Tryd.pinned (.plain (OpenSpec.upto rayTurnsSpec)) rayTurnsUptoCard

/-- THE SECOND FORM's CARD OF 'landfalllaw09.RayJoins'. -/
def rayJoinsUptoCard : Claim7 := { stood := { row := rayJoinsUptoRow, standIns := [], harness := (true, "f06dda0967e2f5853759fc12a1bb41c2d5f1ce24e9b6c379d20f26d97acad36a"), looks := false }, kinds := [], alts := [], laidByText := true, laidKinds := [.data], laidTests := true, laidLooks := .later }
def RayJoinsUptoCardSaid : Prop := Claim7.holds Tryd.pinned (.plain (OpenSpec.upto rayJoinsSpec)) rayJoinsUptoCard

/-- THE SECOND FORM's CARD OF 'landfalllaw09.RaySectors'. -/
def raySectorsUptoCard : Claim7 := { stood := { row := raySectorsUptoRow, standIns := [], harness := (true, "f06dda0967e2f5853759fc12a1bb41c2d5f1ce24e9b6c379d20f26d97acad36a"), looks := false }, kinds := [], alts := [], laidByText := true, laidKinds := [.data], laidTests := true, laidLooks := .later }
def RaySectorsUptoCardSaid : Prop := Claim7.holds Tryd.pinned (.plain (OpenSpec.upto raySectorsSpec)) raySectorsUptoCard

/-- THE SECOND FORM's CARD OF 'landfalllaw09.RayEnds'. -/
def rayEndsUptoCard : Claim7 := { stood := { row := rayEndsUptoRow, standIns := [], harness := (true, "f06dda0967e2f5853759fc12a1bb41c2d5f1ce24e9b6c379d20f26d97acad36a"), looks := false }, kinds := [], alts := [], laidByText := true, laidKinds := [.data], laidTests := true, laidLooks := .later }
def RayEndsUptoCardSaid : Prop := Claim7.holds Tryd.pinned (.plain (OpenSpec.upto rayEndsSpec)) rayEndsUptoCard
end Rows
end Go.Proofs.YtcihkpjdjenbjaaDoor
