/-
  DERIVED. GIVEN WITH THE SEED: THE CARDS: each row of YtbpgfenippiepaaGreatDoorRows.lean that lists a variable, with what it lists TIED to the program's text (the seventh form; the later family's looks); each row that meets fmt, with fmt's text TOLD by the authors' own Lean function (tested against real Go, not proved from fmt's source: count such statements apart). THE CARD IS WHAT COUNTS. Prove the row's statement (the work); the ties are given (YtbpgfenippiepaaGreatDoorTie.lean); close each card by the builder's one call (the guide's Derived/Test/ToyasCard.lean, 'card_holds'). Laid BY PROGRAM, IN A SANDBOX (cutbox-door.mjs). By AI agents, Wed Nov 11 2026. No macro, syntax, notation, axiom, sorry.
-/
import Derived.Test.YtbpgfenippiepaaGreatDoorRows
import GoSem.ClaimSeven
namespace Go.Proofs.YtbpgfenippiepaaGreatDoor
namespace Rows

/-- THE TIED CARD OF 'landfalllaw10.RingMatchesReference'. -/
def ringMatchesReferenceCard : Claim7 := { stood := { row := ringMatchesReferenceRow, standIns := [], harness := (true, "4afda71c01e783fbe6ed9c61b9e72bb3a1e8861475610ddf63cd8df85bb3f37e"), looks := false }, kinds := [], alts := [], laidByText := true, laidKinds := [.data], laidTests := true, laidLooks := .later }
def RingMatchesReferenceCardSaid : Prop := Claim7.holds Tryz.pinned (.plain (OpenSpec.ofChange ringMatchesReferenceSpec)) ringMatchesReferenceCard

/-- THE TIED CARD OF 'landfalllaw10.RingHas'. -/
def ringHasCard : Claim7 := { stood := { row := ringHasRow, standIns := [], harness := (true, "4afda71c01e783fbe6ed9c61b9e72bb3a1e8861475610ddf63cd8df85bb3f37e"), looks := false }, kinds := [], alts := [], laidByText := true, laidKinds := [.data], laidTests := true, laidLooks := .later }
def RingHasCardSaid : Prop := Claim7.holds Tryz.pinned (.plain (OpenSpec.ofChange ringHasSpec)) ringHasCard

/-- THE TIED CARD OF 'landfalllaw10.RingTight'. -/
def ringTightCard : Claim7 := { stood := { row := ringTightRow, standIns := [], harness := (true, "4afda71c01e783fbe6ed9c61b9e72bb3a1e8861475610ddf63cd8df85bb3f37e"), looks := false }, kinds := [], alts := [], laidByText := true, laidKinds := [.data], laidTests := true, laidLooks := .later }
def RingTightCardSaid : Prop := Claim7.holds Tryz.pinned (.plain (OpenSpec.ofChange ringTightSpec)) ringTightCard

/-- THE TIED CARD OF 'landfalllaw10.RingNear'. -/
def ringNearCard : Claim7 := { stood := { row := ringNearRow, standIns := [], harness := (true, "4afda71c01e783fbe6ed9c61b9e72bb3a1e8861475610ddf63cd8df85bb3f37e"), looks := false }, kinds := [], alts := [], laidByText := true, laidKinds := [.data], laidTests := true, laidLooks := .later }
def RingNearCardSaid : Prop := Claim7.holds Tryz.pinned (.plain (OpenSpec.ofChange ringNearSpec)) ringNearCard

/-- THE TIED CARD OF 'landfalllaw10.RingWedge'. -/
def ringWedgeCard : Claim7 := { stood := { row := ringWedgeRow, standIns := [], harness := (true, "4afda71c01e783fbe6ed9c61b9e72bb3a1e8861475610ddf63cd8df85bb3f37e"), looks := false }, kinds := [], alts := [], laidByText := true, laidKinds := [.data], laidTests := true, laidLooks := .later }
def RingWedgeCardSaid : Prop := Claim7.holds Tryz.pinned (.plain (OpenSpec.ofChange ringWedgeSpec)) ringWedgeCard

/-- THE TIED CARD OF 'landfalllaw10.RingMoved'. -/
def ringMovedCard : Claim7 := { stood := { row := ringMovedRow, standIns := [], harness := (true, "4afda71c01e783fbe6ed9c61b9e72bb3a1e8861475610ddf63cd8df85bb3f37e"), looks := false }, kinds := [], alts := [], laidByText := true, laidKinds := [.data], laidTests := true, laidLooks := .later }
def RingMovedCardSaid : Prop := Claim7.holds Tryz.pinned (.plain (OpenSpec.ofChange ringMovedSpec)) ringMovedCard

/-- THE SECOND FORM's CARD OF 'landfalllaw10.RingMatchesReference'. -/
def ringMatchesReferenceUptoCard : Claim7 := { stood := { row := ringMatchesReferenceUptoRow, standIns := [], harness := (true, "4afda71c01e783fbe6ed9c61b9e72bb3a1e8861475610ddf63cd8df85bb3f37e"), looks := false }, kinds := [], alts := [], laidByText := true, laidKinds := [.data], laidTests := true, laidLooks := .later }
def RingMatchesReferenceUptoCardSaid : Prop := Claim7.holds Tryz.pinned (.plain (OpenSpec.upto ringMatchesReferenceSpec)) ringMatchesReferenceUptoCard

/-- THE SECOND FORM's CARD OF 'landfalllaw10.RingHas'. -/
def ringHasUptoCard : Claim7 := { stood := { row := ringHasUptoRow, standIns := [], harness := (true, "4afda71c01e783fbe6ed9c61b9e72bb3a1e8861475610ddf63cd8df85bb3f37e"), looks := false }, kinds := [], alts := [], laidByText := true, laidKinds := [.data], laidTests := true, laidLooks := .later }
def RingHasUptoCardSaid : Prop := Claim7.holds Tryz.pinned (.plain (OpenSpec.upto ringHasSpec)) ringHasUptoCard

/-- THE SECOND FORM's CARD OF 'landfalllaw10.RingTight'. -/
def ringTightUptoCard : Claim7 := { stood := { row := ringTightUptoRow, standIns := [], harness := (true, "4afda71c01e783fbe6ed9c61b9e72bb3a1e8861475610ddf63cd8df85bb3f37e"), looks := false }, kinds := [], alts := [], laidByText := true, laidKinds := [.data], laidTests := true, laidLooks := .later }
def RingTightUptoCardSaid : Prop := Claim7.holds Tryz.pinned (.plain (OpenSpec.upto ringTightSpec)) ringTightUptoCard

/-- THE SECOND FORM's CARD OF 'landfalllaw10.RingNear'. -/
def ringNearUptoCard : Claim7 := { stood := { row := ringNearUptoRow, standIns := [], harness := (true, "4afda71c01e783fbe6ed9c61b9e72bb3a1e8861475610ddf63cd8df85bb3f37e"), looks := false }, kinds := [], alts := [], laidByText := true, laidKinds := [.data], laidTests := true, laidLooks := .later }
def RingNearUptoCardSaid : Prop := Claim7.holds Tryz.pinned (.plain (OpenSpec.upto ringNearSpec)) ringNearUptoCard

/-- THE SECOND FORM's CARD OF 'landfalllaw10.RingWedge'. -/
def ringWedgeUptoCard : Claim7 := { stood := { row := ringWedgeUptoRow, standIns := [], harness := (true, "4afda71c01e783fbe6ed9c61b9e72bb3a1e8861475610ddf63cd8df85bb3f37e"), looks := false }, kinds := [], alts := [], laidByText := true, laidKinds := [.data], laidTests := true, laidLooks := .later }
def RingWedgeUptoCardSaid : Prop := Claim7.holds Tryz.pinned (.plain (OpenSpec.upto ringWedgeSpec)) ringWedgeUptoCard

/-- THE SECOND FORM's CARD OF 'landfalllaw10.RingMoved'. -/
def ringMovedUptoCard : Claim7 := { stood := { row := ringMovedUptoRow, standIns := [], harness := (true, "4afda71c01e783fbe6ed9c61b9e72bb3a1e8861475610ddf63cd8df85bb3f37e"), looks := false }, kinds := [], alts := [], laidByText := true, laidKinds := [.data], laidTests := true, laidLooks := .later }
def RingMovedUptoCardSaid : Prop := Claim7.holds Tryz.pinned (.plain (OpenSpec.upto ringMovedSpec)) ringMovedUptoCard
end Rows
end Go.Proofs.YtbpgfenippiepaaGreatDoor
