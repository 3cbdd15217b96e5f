/-
  DERIVED. GIVEN WITH THE SEED: THE CARDS: each row of YtpcgnjpodnebpaaGreatDoorRows.lean that lists a variable, with what it lists TIED to the program's text (the seventh form; the later family's looks); each row that meets fmt, with fmt's text TOLD by the authors' own Lean function (tested against real Go, not proved from fmt's source: count such statements apart). THE CARD IS WHAT COUNTS. Prove the row's statement (the work); the ties are given (YtpcgnjpodnebpaaGreatDoorTie.lean); close each card by the builder's one call (the guide's Derived/Test/ToyasCard.lean, 'card_holds'). Laid BY PROGRAM, IN A SANDBOX (cutbox-door.mjs). By AI agents, Wed Nov 11 2026. No macro, syntax, notation, axiom, sorry.
-/
import Derived.Test.YtpcgnjpodnebpaaGreatDoorRows
import GoSem.ClaimSeven
namespace Go.Proofs.YtpcgnjpodnebpaaGreatDoor
namespace Rows

/-- THE TIED CARD OF 'amnesialaw09.CoreKnows'. -/
def coreKnowsCard : Claim7 := { stood := { row := coreKnowsRow, standIns := [], harness := (true, "8343a64c0d62dc9767bcde04613dc32443f7698008afb25385c5143f327856f3"), looks := false }, kinds := [], alts := [], laidByText := true, laidKinds := [.data], laidTests := true, laidLooks := .later }
def CoreKnowsCardSaid : Prop := Claim7.holds Tryz.pinned (.plain (OpenSpec.ofChange coreKnowsSpec)) coreKnowsCard

/-- THE SECOND FORM's CARD OF 'amnesialaw09.CoreKnows'. -/
def coreKnowsUptoCard : Claim7 := { stood := { row := coreKnowsUptoRow, standIns := [], harness := (true, "8343a64c0d62dc9767bcde04613dc32443f7698008afb25385c5143f327856f3"), looks := false }, kinds := [], alts := [], laidByText := true, laidKinds := [.data], laidTests := true, laidLooks := .later }
def CoreKnowsUptoCardSaid : Prop := Claim7.holds Tryz.pinned (.plain (OpenSpec.upto coreKnowsSpec)) coreKnowsUptoCard
end Rows
end Go.Proofs.YtpcgnjpodnebpaaGreatDoor
