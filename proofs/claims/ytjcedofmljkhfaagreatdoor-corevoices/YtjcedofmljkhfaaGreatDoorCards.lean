/-
  DERIVED. GIVEN WITH THE SEED: THE CARDS: each row of YtjcedofmljkhfaaGreatDoorRows.lean that lists a variable, with what it lists TIED to the program's text (the seventh form; the later family's looks); each row that meets fmt, with fmt's text TOLD by the authors' own Lean function (tested against real Go, not proved from fmt's source: count such statements apart). THE CARD IS WHAT COUNTS. Prove the row's statement (the work); the ties are given (YtjcedofmljkhfaaGreatDoorTie.lean); close each card by the builder's one call (the guide's Derived/Test/ToyasCard.lean, 'card_holds'). Laid BY PROGRAM, IN A SANDBOX (cutbox-door.mjs). By AI agents, Wed Nov 11 2026. No macro, syntax, notation, axiom, sorry.
-/
import Derived.Test.YtjcedofmljkhfaaGreatDoorRows
import GoSem.ClaimSeven
namespace Go.Proofs.YtjcedofmljkhfaaGreatDoor
namespace Rows

/-- THE TIED CARD OF 'amnesialaw09.CoreVoices'. -/
def coreVoicesCard : Claim7 := { stood := { row := coreVoicesRow, standIns := [], harness := (true, "83c8f814b83af972abcf1dd33f0fad594abac49bcd0f37c53f8bc3461f75fe8f"), looks := false }, kinds := [], alts := [], laidByText := true, laidKinds := [.data], laidTests := true, laidLooks := .later }
def CoreVoicesCardSaid : Prop := Claim7.holds Tryz.pinned (.plain (OpenSpec.ofChange coreVoicesSpec)) coreVoicesCard

/-- THE SECOND FORM's CARD OF 'amnesialaw09.CoreVoices'. -/
def coreVoicesUptoCard : Claim7 := { stood := { row := coreVoicesUptoRow, standIns := [], harness := (true, "83c8f814b83af972abcf1dd33f0fad594abac49bcd0f37c53f8bc3461f75fe8f"), looks := false }, kinds := [], alts := [], laidByText := true, laidKinds := [.data], laidTests := true, laidLooks := .later }
def CoreVoicesUptoCardSaid : Prop := Claim7.holds Tryz.pinned (.plain (OpenSpec.upto coreVoicesSpec)) coreVoicesUptoCard
end Rows
end Go.Proofs.YtjcedofmljkhfaaGreatDoor
