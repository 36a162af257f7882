/-
  DERIVED. GIVEN WITH THE SEED: THE CARDS: each row of YtkmoglhgkcnalaaDoorRows.lean that lists a variable, with what it lists TIED to the program's text (the seventh form; the later family's looks); each row that meets fmt, with fmt's text TOLD by the authors' own Lean function (tested against real Go, not proved from fmt's source: count such statements apart). THE CARD IS WHAT COUNTS. Prove the row's statement (the work); the ties are given (YtkmoglhgkcnalaaDoorTie.lean); close each card by the builder's one call (the guide's Derived/Test/ToyasCard.lean, 'card_holds'). Laid BY PROGRAM, IN A SANDBOX (cutbox-door.mjs). By AI agents, Wed Nov 11 2026. No macro, syntax, notation, axiom, sorry.
-/
import Derived.Test.YtkmoglhgkcnalaaDoorRows
import GoSem.ClaimSeven
namespace Go.Proofs.YtkmoglhgkcnalaaDoor
namespace Rows

/-- THE TIED CARD OF 'lintellaw.Shas'. -/
def shasCard : Claim7 := { stood := { row := shasRow, standIns := [], harness := (true, "81aa1ad1bc7d66a6b058bd32442eb8559b00546a01e758a66e5d66c1df3f50f5"), looks := false }, kinds := [], alts := [], laidByText := true, laidKinds := [.data], laidTests := true, laidLooks := .later }
def ShasCardSaid : Prop := Claim7.holds Tryd.pinned (.plain (OpenSpec.ofChange shasSpec)) shasCard

/-- THE TIED CARD OF 'lintellaw.Pieces'. -/
def piecesCard : Claim7 := { stood := { row := piecesRow, standIns := [], harness := (true, "81aa1ad1bc7d66a6b058bd32442eb8559b00546a01e758a66e5d66c1df3f50f5"), looks := false }, kinds := [], alts := [], laidByText := true, laidKinds := [.data], laidTests := true, laidLooks := .later }
def PiecesCardSaid : Prop := Claim7.holds Tryd.pinned (.plain (OpenSpec.ofChange piecesSpec)) piecesCard

/-- THE TIED CARD OF 'lintellaw.Verifies'. -/
def verifiesCard : Claim7 := { stood := { row := verifiesRow, standIns := [], harness := (true, "81aa1ad1bc7d66a6b058bd32442eb8559b00546a01e758a66e5d66c1df3f50f5"), looks := false }, kinds := [], alts := [], goes := true, laidByText := true, laidKinds := [.data], laidTests := true, laidLooks := .later }
def VerifiesCardSaid : Prop := Claim7.holds Tryd.pinned (.plain (OpenSpec.ofChange verifiesSpec)) verifiesCard

/-- THE TIED CARD OF 'lintellaw.Rooted'. -/
def rootedCard : Claim7 := { stood := { row := rootedRow, standIns := [], harness := (true, "81aa1ad1bc7d66a6b058bd32442eb8559b00546a01e758a66e5d66c1df3f50f5"), looks := false }, kinds := [], alts := [], goes := true, laidByText := true, laidKinds := [.data], laidTests := true, laidLooks := .later }
def RootedCardSaid : Prop := Claim7.holds Tryd.pinned (.plain (OpenSpec.ofChange rootedSpec)) rootedCard

/-- THE TIED CARD OF 'lintelkeep.Chained'. -/
def chainedCard : Claim7 := { stood := { row := chainedRow, standIns := [], harness := (true, "81aa1ad1bc7d66a6b058bd32442eb8559b00546a01e758a66e5d66c1df3f50f5"), looks := false }, kinds := [], alts := [], laidByText := true, laidKinds := [.data], laidTests := true, laidLooks := .later }
def ChainedCardSaid : Prop := Claim7.holds Tryd.pinned (.plain (OpenSpec.ofChange chainedSpec)) chainedCard

/-- THE SECOND FORM's CARD OF 'lintellaw.Shas'. -/
def shasUptoCard : Claim7 := { stood := { row := shasUptoRow, standIns := [], harness := (true, "81aa1ad1bc7d66a6b058bd32442eb8559b00546a01e758a66e5d66c1df3f50f5"), looks := false }, kinds := [], alts := [], laidByText := true, laidKinds := [.data], laidTests := true, laidLooks := .later }
def ShasUptoCardSaid : Prop := Claim7.holds Tryd.pinned (.plain (OpenSpec.upto shasSpec)) shasUptoCard

/-- THE SECOND FORM's CARD OF 'lintellaw.Pieces'. -/
def piecesUptoCard : Claim7 := { stood := { row := piecesUptoRow, standIns := [], harness := (true, "81aa1ad1bc7d66a6b058bd32442eb8559b00546a01e758a66e5d66c1df3f50f5"), looks := false }, kinds := [], alts := [], laidByText := true, laidKinds := [.data], laidTests := true, laidLooks := .later }
def PiecesUptoCardSaid : Prop := Claim7.holds Tryd.pinned (.plain (OpenSpec.upto piecesSpec)) piecesUptoCard

/-- THE SECOND FORM's CARD OF 'lintellaw.Verifies'. -/
def verifiesUptoCard : Claim7 := { stood := { row := verifiesUptoRow, standIns := [], harness := (true, "81aa1ad1bc7d66a6b058bd32442eb8559b00546a01e758a66e5d66c1df3f50f5"), looks := false }, kinds := [], alts := [], goes := true, laidByText := true, laidKinds := [.data], laidTests := true, laidLooks := .later }
def VerifiesUptoCardSaid : Prop := Claim7.holds Tryd.pinned (.plain (OpenSpec.upto verifiesSpec)) verifiesUptoCard

/-- THE SECOND FORM's CARD OF 'lintellaw.Rooted'. -/
def rootedUptoCard : Claim7 := { stood := { row := rootedUptoRow, standIns := [], harness := (true, "81aa1ad1bc7d66a6b058bd32442eb8559b00546a01e758a66e5d66c1df3f50f5"), looks := false }, kinds := [], alts := [], goes := true, laidByText := true, laidKinds := [.data], laidTests := true, laidLooks := .later }
def RootedUptoCardSaid : Prop := Claim7.holds Tryd.pinned (.plain (OpenSpec.upto rootedSpec)) rootedUptoCard

/-- THE SECOND FORM's CARD OF 'lintelkeep.Chained'. -/
def chainedUptoCard : Claim7 := { stood := { row := chainedUptoRow, standIns := [], harness := (true, "81aa1ad1bc7d66a6b058bd32442eb8559b00546a01e758a66e5d66c1df3f50f5"), looks := false }, kinds := [], alts := [], laidByText := true, laidKinds := [.data], laidTests := true, laidLooks := .later }
def ChainedUptoCardSaid : Prop := Claim7.holds Tryd.pinned (.plain (OpenSpec.upto chainedSpec)) chainedUptoCard
end Rows
end Go.Proofs.YtkmoglhgkcnalaaDoor
