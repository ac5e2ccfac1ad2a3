/-
  DERIVED. GIVEN WITH THE SEED: THE CARDS: each row of YtljmdpjjieoedaaDoorRows.lean that lists a variable, with what it lists TIED to the program's text (the seventh form; the later family's looks); each row that meets fmt, with fmt's text TOLD by the authors' own Lean function (tested against real Go, not proved from fmt's source: count such statements apart). THE CARD IS WHAT COUNTS. Prove the row's statement (the work); the ties are given (YtljmdpjjieoedaaDoorTie.lean); close each card by the builder's one call (the guide's Derived/Test/ToyasCard.lean, 'card_holds'). Laid BY PROGRAM, IN A SANDBOX (cutbox-door.mjs). By AI agents, Wed Nov 11 2026. No macro, syntax, notation, axiom, sorry.
-/
import Derived.Test.YtljmdpjjieoedaaDoorRows
import GoSem.ClaimSeven
namespace Go.Proofs.YtljmdpjjieoedaaDoor
namespace Rows

/-- THE TIED CARD OF 'landfalllaw08.CodecMatchesReference'. -/
def codecMatchesReferenceCard : Claim7 := { stood := { row := codecMatchesReferenceRow, standIns := [], harness := (true, "e9154c780bea2863be6d4b515a2c42e015ea04a3426153197d84789ada74dea3"), looks := false }, kinds := [], alts := [], laidByText := true, laidKinds := [.data, .pinned], laidTests := true, laidLooks := .later }
def CodecMatchesReferenceCardSaid : Prop := Claim7.holds Tryd.pinned (.plain (OpenSpec.ofChange codecMatchesReferenceSpec)) codecMatchesReferenceCard

/-- THE TIED CARD OF 'landfalllaw08.CodecBack'. -/
def codecBackCard : Claim7 := { stood := { row := codecBackRow, standIns := [], harness := (true, "e9154c780bea2863be6d4b515a2c42e015ea04a3426153197d84789ada74dea3"), looks := false }, kinds := [], alts := [], laidByText := true, laidKinds := [.data, .pinned], laidTests := true, laidLooks := .later }
def CodecBackCardSaid : Prop := Claim7.holds Tryd.pinned (.plain (OpenSpec.ofChange codecBackSpec)) codecBackCard

/-- THE TIED CARD OF 'landfalllaw08.CodecTorn'. -/
def codecTornCard : Claim7 := { stood := { row := codecTornRow, standIns := [], harness := (true, "e9154c780bea2863be6d4b515a2c42e015ea04a3426153197d84789ada74dea3"), looks := false }, kinds := [], alts := [], laidByText := true, laidKinds := [.data, .pinned], laidTests := true, laidLooks := .later }
def CodecTornCardSaid : Prop := Claim7.holds Tryd.pinned (.plain (OpenSpec.ofChange codecTornSpec)) codecTornCard

/-- THE TIED CARD OF 'landfalllaw08.CodecFollows'. -/
def codecFollowsCard : Claim7 := { stood := { row := codecFollowsRow, standIns := [], harness := (true, "e9154c780bea2863be6d4b515a2c42e015ea04a3426153197d84789ada74dea3"), looks := false }, kinds := [], alts := [], laidByText := true, laidKinds := [.data, .pinned], laidTests := true, laidLooks := .later }
def CodecFollowsCardSaid : Prop := Claim7.holds Tryd.pinned (.plain (OpenSpec.ofChange codecFollowsSpec)) codecFollowsCard

/-- THE TIED CARD OF 'landfalllaw08.CodecChanged'. -/
def codecChangedCard : Claim7 := { stood := { row := codecChangedRow, standIns := [], harness := (true, "e9154c780bea2863be6d4b515a2c42e015ea04a3426153197d84789ada74dea3"), looks := false }, kinds := [], alts := [], laidByText := true, laidKinds := [.data, .pinned], laidTests := true, laidLooks := .later }
def CodecChangedCardSaid : Prop := Claim7.holds Tryd.pinned (.plain (OpenSpec.ofChange codecChangedSpec)) codecChangedCard

/-- THE TIED CARD OF 'landfalllaw08.CodecPrefixes'. -/
def codecPrefixesCard : Claim7 := { stood := { row := codecPrefixesRow, standIns := [], harness := (true, "e9154c780bea2863be6d4b515a2c42e015ea04a3426153197d84789ada74dea3"), looks := false }, kinds := [], alts := [], laidByText := true, laidKinds := [.data, .pinned], laidTests := true, laidLooks := .later }
def CodecPrefixesCardSaid : Prop := Claim7.holds Tryd.pinned (.plain (OpenSpec.ofChange codecPrefixesSpec)) codecPrefixesCard

/-- THE SECOND FORM's CARD OF 'landfalllaw08.CodecMatchesReference'. -/
def codecMatchesReferenceUptoCard : Claim7 := { stood := { row := codecMatchesReferenceUptoRow, standIns := [], harness := (true, "e9154c780bea2863be6d4b515a2c42e015ea04a3426153197d84789ada74dea3"), looks := false }, kinds := [], alts := [], laidByText := true, laidKinds := [.data, .pinned], laidTests := true, laidLooks := .later }
def CodecMatchesReferenceUptoCardSaid : Prop := Claim7.holds Tryd.pinned (.plain (OpenSpec.upto codecMatchesReferenceSpec)) codecMatchesReferenceUptoCard

/-- THE SECOND FORM's CARD OF 'landfalllaw08.CodecBack'. -/
def codecBackUptoCard : Claim7 := { stood := { row := codecBackUptoRow, standIns := [], harness := (true, "e9154c780bea2863be6d4b515a2c42e015ea04a3426153197d84789ada74dea3"), looks := false }, kinds := [], alts := [], laidByText := true, laidKinds := [.data, .pinned], laidTests := true, laidLooks := .later }
def CodecBackUptoCardSaid : Prop := Claim7.holds Tryd.pinned (.plain (OpenSpec.upto codecBackSpec)) codecBackUptoCard

/-- THE SECOND FORM's CARD OF 'landfalllaw08.CodecTorn'. -/
def codecTornUptoCard : Claim7 := { stood := { row := codecTornUptoRow, standIns := [], harness := (true, "e9154c780bea2863be6d4b515a2c42e015ea04a3426153197d84789ada74dea3"), looks := false }, kinds := [], alts := [], laidByText := true, laidKinds := [.data, .pinned], laidTests := true, laidLooks := .later }
def CodecTornUptoCardSaid : Prop := Claim7.holds Tryd.pinned (.plain (OpenSpec.upto codecTornSpec)) codecTornUptoCard

/-- THE SECOND FORM's CARD OF 'landfalllaw08.CodecFollows'. -/
def codecFollowsUptoCard : Claim7 := { stood := { row := codecFollowsUptoRow, standIns := [], harness := (true, "e9154c780bea2863be6d4b515a2c42e015ea04a3426153197d84789ada74dea3"), looks := false }, kinds := [], alts := [], laidByText := true, laidKinds := [.data, .pinned], laidTests := true, laidLooks := .later }
def CodecFollowsUptoCardSaid : Prop := Claim7.holds Tryd.pinned (.plain (OpenSpec.upto codecFollowsSpec)) codecFollowsUptoCard

/-- THE SECOND FORM's CARD OF 'landfalllaw08.CodecChanged'. -/
def codecChangedUptoCard : Claim7 := { stood := { row := codecChangedUptoRow, standIns := [], harness := (true, "e9154c780bea2863be6d4b515a2c42e015ea04a3426153197d84789ada74dea3"), looks := false }, kinds := [], alts := [], laidByText := true, laidKinds := [.data, .pinned], laidTests := true, laidLooks := .later }
def CodecChangedUptoCardSaid : Prop := Claim7.holds Tryd.pinned (.plain (OpenSpec.upto codecChangedSpec)) codecChangedUptoCard

/-- THE SECOND FORM's CARD OF 'landfalllaw08.CodecPrefixes'. -/
def codecPrefixesUptoCard : Claim7 := { stood := { row := codecPrefixesUptoRow, standIns := [], harness := (true, "e9154c780bea2863be6d4b515a2c42e015ea04a3426153197d84789ada74dea3"), looks := false }, kinds := [], alts := [], laidByText := true, laidKinds := [.data, .pinned], laidTests := true, laidLooks := .later }
def CodecPrefixesUptoCardSaid : Prop := Claim7.holds Tryd.pinned (.plain (OpenSpec.upto codecPrefixesSpec)) codecPrefixesUptoCard
end Rows
end Go.Proofs.YtljmdpjjieoedaaDoor
