/-
  DERIVED. GIVEN WITH THE SEED: THE CARDS: each row of YtfnnmkadmpflhaaDoorRows.lean that lists a variable, with what it lists TIED to the program's text (the seventh form; the later family's looks); each row that meets fmt, with fmt's text TOLD by the authors' own Lean function (tested against real Go, not proved from fmt's source: count such statements apart). THE CARD IS WHAT COUNTS. Prove the row's statement (the work); the ties are given (YtfnnmkadmpflhaaDoorTie.lean); close each card by the builder's one call (the guide's Derived/Test/ToyasCard.lean, 'card_holds'). Laid BY PROGRAM, IN A SANDBOX (cutbox-door.mjs). By AI agents, Wed Nov 11 2026. No macro, syntax, notation, axiom, sorry.
-/
import Derived.Test.YtfnnmkadmpflhaaDoorRows
import GoSem.ClaimSeven
namespace Go.Proofs.YtfnnmkadmpflhaaDoor
namespace Rows

/-- THE TIED CARD OF 'landfalllaw11.SignMatchesReference'. -/
def signMatchesReferenceCard : Claim7 := { stood := { row := signMatchesReferenceRow, standIns := [], harness := (true, "a82d5c909695070cf9628fdbd3049d6890cde800e26dbe509d3a147e4c3e1860"), looks := false }, kinds := [], alts := [], laidByText := true, laidKinds := [.data, .data, .data, .data, .pinned], laidTests := true, laidLooks := .later }
def SignMatchesReferenceCardSaid : Prop := Claim7.holds Tryd.pinned (.plain (OpenSpec.ofChange signMatchesReferenceSpec)) signMatchesReferenceCard

/-- THE TIED CARD OF 'landfalllaw11.SignGroup'. -/
def signGroupCard : Claim7 := { stood := { row := signGroupRow, standIns := [], harness := (true, "a82d5c909695070cf9628fdbd3049d6890cde800e26dbe509d3a147e4c3e1860"), looks := false }, kinds := [], alts := [], laidByText := true, laidKinds := [.data, .data, .data, .data, .pinned], laidTests := true, laidLooks := .later }
def SignGroupCardSaid : Prop := Claim7.holds Tryd.pinned (.plain (OpenSpec.ofChange signGroupSpec)) signGroupCard

/-- THE TIED CARD OF 'landfalllaw11.SignRight'. -/
def signRightCard : Claim7 := { stood := { row := signRightRow, standIns := [], harness := (true, "a82d5c909695070cf9628fdbd3049d6890cde800e26dbe509d3a147e4c3e1860"), looks := false }, kinds := [], alts := [], laidByText := true, laidKinds := [.data, .data, .data, .data, .pinned], laidTests := true, laidLooks := .later }
def SignRightCardSaid : Prop := Claim7.holds Tryd.pinned (.plain (OpenSpec.ofChange signRightSpec)) signRightCard

/-- THE TIED CARD OF 'landfalllaw11.SignChallenges'. -/
def signChallengesCard : Claim7 := { stood := { row := signChallengesRow, standIns := [], harness := (true, "a82d5c909695070cf9628fdbd3049d6890cde800e26dbe509d3a147e4c3e1860"), looks := false }, kinds := [], alts := [], laidByText := true, laidKinds := [.data, .data, .data, .data, .pinned], laidTests := true, laidLooks := .later }
def SignChallengesCardSaid : Prop := Claim7.holds Tryd.pinned (.plain (OpenSpec.ofChange signChallengesSpec)) signChallengesCard

/-- THE TIED CARD OF 'landfalllaw11.SignOnce'. -/
def signOnceCard : Claim7 := { stood := { row := signOnceRow, standIns := [], harness := (true, "a82d5c909695070cf9628fdbd3049d6890cde800e26dbe509d3a147e4c3e1860"), looks := false }, kinds := [], alts := [], laidByText := true, laidKinds := [.data, .data, .data, .data, .pinned], laidTests := true, laidLooks := .later }
def SignOnceCardSaid : Prop := Claim7.holds Tryd.pinned (.plain (OpenSpec.ofChange signOnceSpec)) signOnceCard

/-- THE TIED CARD OF 'landfalllaw11.SignSecrets'. -/
def signSecretsCard : Claim7 := { stood := { row := signSecretsRow, standIns := [], harness := (true, "a82d5c909695070cf9628fdbd3049d6890cde800e26dbe509d3a147e4c3e1860"), looks := false }, kinds := [], alts := [], laidByText := true, laidKinds := [.data, .data, .data, .data, .pinned], laidTests := true, laidLooks := .later }
def SignSecretsCardSaid : Prop := Claim7.holds Tryd.pinned (.plain (OpenSpec.ofChange signSecretsSpec)) signSecretsCard

/-- THE SECOND FORM's CARD OF 'landfalllaw11.SignMatchesReference'. -/
def signMatchesReferenceUptoCard : Claim7 := { stood := { row := signMatchesReferenceUptoRow, standIns := [], harness := (true, "a82d5c909695070cf9628fdbd3049d6890cde800e26dbe509d3a147e4c3e1860"), looks := false }, kinds := [], alts := [], laidByText := true, laidKinds := [.data, .data, .data, .data, .pinned], laidTests := true, laidLooks := .later }
def SignMatchesReferenceUptoCardSaid : Prop := Claim7.holds Tryd.pinned (.plain (OpenSpec.upto signMatchesReferenceSpec)) signMatchesReferenceUptoCard

/-- THE SECOND FORM's CARD OF 'landfalllaw11.SignGroup'. -/
def signGroupUptoCard : Claim7 := { stood := { row := signGroupUptoRow, standIns := [], harness := (true, "a82d5c909695070cf9628fdbd3049d6890cde800e26dbe509d3a147e4c3e1860"), looks := false }, kinds := [], alts := [], laidByText := true, laidKinds := [.data, .data, .data, .data, .pinned], laidTests := true, laidLooks := .later }
def SignGroupUptoCardSaid : Prop := Claim7.holds Tryd.pinned (.plain (OpenSpec.upto signGroupSpec)) signGroupUptoCard

/-- THE SECOND FORM's CARD OF 'landfalllaw11.SignRight'. -/
def signRightUptoCard : Claim7 := { stood := { row := signRightUptoRow, standIns := [], harness := (true, "a82d5c909695070cf9628fdbd3049d6890cde800e26dbe509d3a147e4c3e1860"), looks := false }, kinds := [], alts := [], laidByText := true, laidKinds := [.data, .data, .data, .data, .pinned], laidTests := true, laidLooks := .later }
def SignRightUptoCardSaid : Prop := Claim7.holds Tryd.pinned (.plain (OpenSpec.upto signRightSpec)) signRightUptoCard

/-- THE SECOND FORM's CARD OF 'landfalllaw11.SignChallenges'. -/
def signChallengesUptoCard : Claim7 := { stood := { row := signChallengesUptoRow, standIns := [], harness := (true, "a82d5c909695070cf9628fdbd3049d6890cde800e26dbe509d3a147e4c3e1860"), looks := false }, kinds := [], alts := [], laidByText := true, laidKinds := [.data, .data, .data, .data, .pinned], laidTests := true, laidLooks := .later }
def SignChallengesUptoCardSaid : Prop := Claim7.holds Tryd.pinned (.plain (OpenSpec.upto signChallengesSpec)) signChallengesUptoCard

/-- THE SECOND FORM's CARD OF 'landfalllaw11.SignOnce'. -/
def signOnceUptoCard : Claim7 := { stood := { row := signOnceUptoRow, standIns := [], harness := (true, "a82d5c909695070cf9628fdbd3049d6890cde800e26dbe509d3a147e4c3e1860"), looks := false }, kinds := [], alts := [], laidByText := true, laidKinds := [.data, .data, .data, .data, .pinned], laidTests := true, laidLooks := .later }
def SignOnceUptoCardSaid : Prop := Claim7.holds Tryd.pinned (.plain (OpenSpec.upto signOnceSpec)) signOnceUptoCard

/-- THE SECOND FORM's CARD OF 'landfalllaw11.SignSecrets'. -/
def signSecretsUptoCard : Claim7 := { stood := { row := signSecretsUptoRow, standIns := [], harness := (true, "a82d5c909695070cf9628fdbd3049d6890cde800e26dbe509d3a147e4c3e1860"), looks := false }, kinds := [], alts := [], laidByText := true, laidKinds := [.data, .data, .data, .data, .pinned], laidTests := true, laidLooks := .later }
def SignSecretsUptoCardSaid : Prop := Claim7.holds Tryd.pinned (.plain (OpenSpec.upto signSecretsSpec)) signSecretsUptoCard
end Rows
end Go.Proofs.YtfnnmkadmpflhaaDoor
