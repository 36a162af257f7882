/-
  DERIVED. GIVEN WITH THE SEED: THE CARDS: each row of YtkmoglhgkcnalaaGreatDoorRows.lean that lists a variable, with what it lists TIED to the program's text (the seventh form; the later family's looks); each row that meets fmt, with fmt's text TOLD by the authors' own Lean function (tested against real Go, not proved from fmt's source: count such statements apart). THE CARD IS WHAT COUNTS. Prove the row's statement (the work); the ties are given (YtkmoglhgkcnalaaGreatDoorTie.lean); close each card by the builder's one call (the guide's Derived/Test/ToyasCard.lean, 'card_holds'). Laid BY PROGRAM, IN A SANDBOX (cutbox-door.mjs). By AI agents, Wed Nov 11 2026. No macro, syntax, notation, axiom, sorry.
-/
import Derived.Test.YtkmoglhgkcnalaaGreatDoorRows
import GoSem.ClaimSeven
namespace Go.Proofs.YtkmoglhgkcnalaaGreatDoor
namespace Rows

/-- THE TIED CARD OF 'lintellaw.Signatures'. -/
def signaturesCard : Claim7 := { stood := { row := signaturesRow, standIns := [], harness := (true, "11b90f1b3516c9ba61debd66b70e84f7ef97df4eda01de929c3175b0032ba532"), looks := false }, kinds := [], alts := [], goes := true, laidByText := true, laidKinds := [.data], laidTests := true, laidLooks := .later }
def SignaturesCardSaid : Prop := Claim7.holds Tryz.pinned (.plain (OpenSpec.ofChange signaturesSpec)) signaturesCard

/-- THE TIED CARD OF 'lintellaw.Checked'. -/
def checkedCard : Claim7 := { stood := { row := checkedRow, standIns := [], harness := (true, "11b90f1b3516c9ba61debd66b70e84f7ef97df4eda01de929c3175b0032ba532"), looks := false }, kinds := [], alts := [], goes := true, laidByText := true, laidKinds := [.data], laidTests := true, laidLooks := .later }
def CheckedCardSaid : Prop := Claim7.holds Tryz.pinned (.plain (OpenSpec.ofChange checkedSpec)) checkedCard

/-- THE TIED CARD OF 'lintellaw.News'. -/
def newsCard : Claim7 := { stood := { row := newsRow, standIns := [], harness := (true, "11b90f1b3516c9ba61debd66b70e84f7ef97df4eda01de929c3175b0032ba532"), looks := false }, kinds := [], alts := [], goes := true, laidByText := true, laidKinds := [.data], laidTests := true, laidLooks := .later }
def NewsCardSaid : Prop := Claim7.holds Tryz.pinned (.plain (OpenSpec.ofChange newsSpec)) newsCard

/-- THE TIED CARD OF 'lintellaw.Boots'. -/
def bootsCard : Claim7 := { stood := { row := bootsRow, standIns := [], harness := (true, "11b90f1b3516c9ba61debd66b70e84f7ef97df4eda01de929c3175b0032ba532"), looks := false }, kinds := [], alts := [], goes := true, laidByText := true, laidKinds := [.data], laidTests := true, laidLooks := .later }
def BootsCardSaid : Prop := Claim7.holds Tryz.pinned (.plain (OpenSpec.ofChange bootsSpec)) bootsCard

/-- THE TIED CARD OF 'lintellaw.All'. -/
def allCard : Claim7 := { stood := { row := allRow, standIns := [], harness := (true, "11b90f1b3516c9ba61debd66b70e84f7ef97df4eda01de929c3175b0032ba532"), looks := false }, kinds := [], alts := [], goes := true, laidByText := true, laidKinds := [.data], laidTests := true, laidLooks := .later }
def AllCardSaid : Prop := Claim7.holds Tryz.pinned (.plain (OpenSpec.ofChange allSpec)) allCard

/-- THE SECOND FORM's CARD OF 'lintellaw.Signatures'. -/
def signaturesUptoCard : Claim7 := { stood := { row := signaturesUptoRow, standIns := [], harness := (true, "11b90f1b3516c9ba61debd66b70e84f7ef97df4eda01de929c3175b0032ba532"), looks := false }, kinds := [], alts := [], goes := true, laidByText := true, laidKinds := [.data], laidTests := true, laidLooks := .later }
def SignaturesUptoCardSaid : Prop := Claim7.holds Tryz.pinned (.plain (OpenSpec.upto signaturesSpec)) signaturesUptoCard

/-- THE SECOND FORM's CARD OF 'lintellaw.Checked'. -/
def checkedUptoCard : Claim7 := { stood := { row := checkedUptoRow, standIns := [], harness := (true, "11b90f1b3516c9ba61debd66b70e84f7ef97df4eda01de929c3175b0032ba532"), looks := false }, kinds := [], alts := [], goes := true, laidByText := true, laidKinds := [.data], laidTests := true, laidLooks := .later }
def CheckedUptoCardSaid : Prop := Claim7.holds Tryz.pinned (.plain (OpenSpec.upto checkedSpec)) checkedUptoCard

/-- THE SECOND FORM's CARD OF 'lintellaw.News'. -/
def newsUptoCard : Claim7 := { stood := { row := newsUptoRow, standIns := [], harness := (true, "11b90f1b3516c9ba61debd66b70e84f7ef97df4eda01de929c3175b0032ba532"), looks := false }, kinds := [], alts := [], goes := true, laidByText := true, laidKinds := [.data], laidTests := true, laidLooks := .later }
def NewsUptoCardSaid : Prop := Claim7.holds Tryz.pinned (.plain (OpenSpec.upto newsSpec)) newsUptoCard

/-- THE SECOND FORM's CARD OF 'lintellaw.Boots'. -/
def bootsUptoCard : Claim7 := { stood := { row := bootsUptoRow, standIns := [], harness := (true, "11b90f1b3516c9ba61debd66b70e84f7ef97df4eda01de929c3175b0032ba532"), looks := false }, kinds := [], alts := [], goes := true, laidByText := true, laidKinds := [.data], laidTests := true, laidLooks := .later }
def BootsUptoCardSaid : Prop := Claim7.holds Tryz.pinned (.plain (OpenSpec.upto bootsSpec)) bootsUptoCard

/-- THE SECOND FORM's CARD OF 'lintellaw.All'. -/
def allUptoCard : Claim7 := { stood := { row := allUptoRow, standIns := [], harness := (true, "11b90f1b3516c9ba61debd66b70e84f7ef97df4eda01de929c3175b0032ba532"), looks := false }, kinds := [], alts := [], goes := true, laidByText := true, laidKinds := [.data], laidTests := true, laidLooks := .later }
def AllUptoCardSaid : Prop := Claim7.holds Tryz.pinned (.plain (OpenSpec.upto allSpec)) allUptoCard
end Rows
end Go.Proofs.YtkmoglhgkcnalaaGreatDoor
