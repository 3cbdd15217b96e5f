/-
  DERIVED. GIVEN WITH THE SEED: THE CARDS: each row of YtibedokegignhaaGreatDoorRows.lean that lists a variable, with what it lists TIED to the program's text (the seventh form; the later family's looks); each row that meets fmt, with fmt's text TOLD by the authors' own Lean function (tested against real Go, not proved from fmt's source: count such statements apart). THE CARD IS WHAT COUNTS. Prove the row's statement (the work); the ties are given (YtibedokegignhaaGreatDoorTie.lean); close each card by the builder's one call (the guide's Derived/Test/ToyasCard.lean, 'card_holds'). Laid BY PROGRAM, IN A SANDBOX (cutbox-door.mjs). By AI agents, Wed Nov 11 2026. No macro, syntax, notation, axiom, sorry.
-/
import Derived.Test.YtibedokegignhaaGreatDoorRows
import GoSem.ClaimSeven
namespace Go.Proofs.YtibedokegignhaaGreatDoor
namespace Rows

/-- THE TIED CARD OF 'amnesialaw07.MessageChecks'. -/
def messageChecksCard : Claim7 := { stood := { row := messageChecksRow, standIns := [], harness := (true, "0483678513f1e8b1500f50bbeb29bfdd60da177870c938cc2c078ab75e2c2ec2"), looks := false }, kinds := [], alts := [], laidByText := true, laidKinds := [.data], laidTests := true, laidLooks := .later }
def MessageChecksCardSaid : Prop := Claim7.holds Tryz.pinned (.plain (OpenSpec.ofChange messageChecksSpec)) messageChecksCard

/-- THE TIED CARD OF 'amnesialaw07.MessageEncodes'. -/
def messageEncodesCard : Claim7 := { stood := { row := messageEncodesRow, standIns := [], harness := (true, "0483678513f1e8b1500f50bbeb29bfdd60da177870c938cc2c078ab75e2c2ec2"), looks := false }, kinds := [], alts := [], laidByText := true, laidKinds := [.data], laidTests := true, laidLooks := .later }
def MessageEncodesCardSaid : Prop := Claim7.holds Tryz.pinned (.plain (OpenSpec.ofChange messageEncodesSpec)) messageEncodesCard

/-- THE TIED CARD OF 'amnesialaw07.MessageDecodes'. -/
def messageDecodesCard : Claim7 := { stood := { row := messageDecodesRow, standIns := [], harness := (true, "0483678513f1e8b1500f50bbeb29bfdd60da177870c938cc2c078ab75e2c2ec2"), looks := false }, kinds := [], alts := [], laidByText := true, laidKinds := [.data], laidTests := true, laidLooks := .later }
def MessageDecodesCardSaid : Prop := Claim7.holds Tryz.pinned (.plain (OpenSpec.ofChange messageDecodesSpec)) messageDecodesCard

/-- THE TIED CARD OF 'amnesialaw07.MessageBodies'. -/
def messageBodiesCard : Claim7 := { stood := { row := messageBodiesRow, standIns := [], harness := (true, "0483678513f1e8b1500f50bbeb29bfdd60da177870c938cc2c078ab75e2c2ec2"), looks := false }, kinds := [], alts := [], laidByText := true, laidKinds := [.data], laidTests := true, laidLooks := .later }
def MessageBodiesCardSaid : Prop := Claim7.holds Tryz.pinned (.plain (OpenSpec.ofChange messageBodiesSpec)) messageBodiesCard

/-- THE TIED CARD OF 'amnesialaw07.MessageOwn'. -/
def messageOwnCard : Claim7 := { stood := { row := messageOwnRow, standIns := [], harness := (true, "0483678513f1e8b1500f50bbeb29bfdd60da177870c938cc2c078ab75e2c2ec2"), looks := false }, kinds := [], alts := [], laidByText := true, laidKinds := [.data], laidTests := true, laidLooks := .later }
def MessageOwnCardSaid : Prop := Claim7.holds Tryz.pinned (.plain (OpenSpec.ofChange messageOwnSpec)) messageOwnCard

/-- THE SECOND FORM's CARD OF 'amnesialaw07.MessageChecks'. -/
def messageChecksUptoCard : Claim7 := { stood := { row := messageChecksUptoRow, standIns := [], harness := (true, "0483678513f1e8b1500f50bbeb29bfdd60da177870c938cc2c078ab75e2c2ec2"), looks := false }, kinds := [], alts := [], laidByText := true, laidKinds := [.data], laidTests := true, laidLooks := .later }
def MessageChecksUptoCardSaid : Prop := Claim7.holds Tryz.pinned (.plain (OpenSpec.upto messageChecksSpec)) messageChecksUptoCard

/-- THE SECOND FORM's CARD OF 'amnesialaw07.MessageEncodes'. -/
def messageEncodesUptoCard : Claim7 := { stood := { row := messageEncodesUptoRow, standIns := [], harness := (true, "0483678513f1e8b1500f50bbeb29bfdd60da177870c938cc2c078ab75e2c2ec2"), looks := false }, kinds := [], alts := [], laidByText := true, laidKinds := [.data], laidTests := true, laidLooks := .later }
def MessageEncodesUptoCardSaid : Prop := Claim7.holds Tryz.pinned (.plain (OpenSpec.upto messageEncodesSpec)) messageEncodesUptoCard

/-- THE SECOND FORM's CARD OF 'amnesialaw07.MessageDecodes'. -/
def messageDecodesUptoCard : Claim7 := { stood := { row := messageDecodesUptoRow, standIns := [], harness := (true, "0483678513f1e8b1500f50bbeb29bfdd60da177870c938cc2c078ab75e2c2ec2"), looks := false }, kinds := [], alts := [], laidByText := true, laidKinds := [.data], laidTests := true, laidLooks := .later }
def MessageDecodesUptoCardSaid : Prop := Claim7.holds Tryz.pinned (.plain (OpenSpec.upto messageDecodesSpec)) messageDecodesUptoCard

/-- THE SECOND FORM's CARD OF 'amnesialaw07.MessageBodies'. -/
def messageBodiesUptoCard : Claim7 := { stood := { row := messageBodiesUptoRow, standIns := [], harness := (true, "0483678513f1e8b1500f50bbeb29bfdd60da177870c938cc2c078ab75e2c2ec2"), looks := false }, kinds := [], alts := [], laidByText := true, laidKinds := [.data], laidTests := true, laidLooks := .later }
def MessageBodiesUptoCardSaid : Prop := Claim7.holds Tryz.pinned (.plain (OpenSpec.upto messageBodiesSpec)) messageBodiesUptoCard

/-- THE SECOND FORM's CARD OF 'amnesialaw07.MessageOwn'. -/
def messageOwnUptoCard : Claim7 := { stood := { row := messageOwnUptoRow, standIns := [], harness := (true, "0483678513f1e8b1500f50bbeb29bfdd60da177870c938cc2c078ab75e2c2ec2"), looks := false }, kinds := [], alts := [], laidByText := true, laidKinds := [.data], laidTests := true, laidLooks := .later }
def MessageOwnUptoCardSaid : Prop := Claim7.holds Tryz.pinned (.plain (OpenSpec.upto messageOwnSpec)) messageOwnUptoCard
end Rows
end Go.Proofs.YtibedokegignhaaGreatDoor
