/-
  DERIVED. GIVEN WITH THE SEED: THE CARDS: each row of YtnndldhljonnpaaDoorRows.lean that lists a variable, with what it lists TIED to the program's text (the seventh form; the later family's looks); each row that meets fmt, with fmt's text TOLD by the authors' own Lean function (tested against real Go, not proved from fmt's source: count such statements apart). THE CARD IS WHAT COUNTS. Prove the row's statement (the work); the ties are given (YtnndldhljonnpaaDoorTie.lean); close each card by the builder's one call (the guide's Derived/Test/ToyasCard.lean, 'card_holds'). Laid BY PROGRAM, IN A SANDBOX (cutbox-door.mjs). By AI agents, Wed Nov 11 2026. No macro, syntax, notation, axiom, sorry.
-/
import Derived.Test.YtnndldhljonnpaaDoorRows
import GoSem.ClaimSeven
namespace Go.Proofs.YtnndldhljonnpaaDoor
namespace Rows

/-- THE TIED CARD OF 'amnesialaw02.NonceTexts'. -/
def nonceTextsCard : Claim7 := { stood := { row := nonceTextsRow, standIns := [], harness := (true, "108af673c76765145b7014bb92f555851b698ed4bb1db36baa622c7522c6c71b"), looks := false }, kinds := [], alts := [], laidByText := true, laidKinds := [.data, .data, .data], laidTests := true, laidLooks := .later }
def NonceTextsCardSaid : Prop := Claim7.holds Tryd.pinned (.plain (OpenSpec.ofChange nonceTextsSpec)) nonceTextsCard

/-- THE TIED CARD OF 'amnesialaw02.NonceBetween'. -/
def nonceBetweenCard : Claim7 := { stood := { row := nonceBetweenRow, standIns := [], harness := (true, "108af673c76765145b7014bb92f555851b698ed4bb1db36baa622c7522c6c71b"), looks := false }, kinds := [], alts := [], laidByText := true, laidKinds := [.data, .data, .data], laidTests := true, laidLooks := .later }
def NonceBetweenCardSaid : Prop := Claim7.holds Tryd.pinned (.plain (OpenSpec.ofChange nonceBetweenSpec)) nonceBetweenCard

/-- THE TIED CARD OF 'amnesialaw02.NonceForm'. -/
def nonceFormCard : Claim7 := { stood := { row := nonceFormRow, standIns := [], harness := (true, "108af673c76765145b7014bb92f555851b698ed4bb1db36baa622c7522c6c71b"), looks := false }, kinds := [], alts := [], laidByText := true, laidKinds := [.data, .data, .data], laidTests := true, laidLooks := .later }
def NonceFormCardSaid : Prop := Claim7.holds Tryd.pinned (.plain (OpenSpec.ofChange nonceFormSpec)) nonceFormCard

/-- THE SECOND FORM's CARD OF 'amnesialaw02.NonceTexts'. -/
def nonceTextsUptoCard : Claim7 := { stood := { row := nonceTextsUptoRow, standIns := [], harness := (true, "108af673c76765145b7014bb92f555851b698ed4bb1db36baa622c7522c6c71b"), looks := false }, kinds := [], alts := [], laidByText := true, laidKinds := [.data, .data, .data], laidTests := true, laidLooks := .later }
def NonceTextsUptoCardSaid : Prop := Claim7.holds Tryd.pinned (.plain (OpenSpec.upto nonceTextsSpec)) nonceTextsUptoCard

/-- THE SECOND FORM's CARD OF 'amnesialaw02.NonceBetween'. -/
def nonceBetweenUptoCard : Claim7 := { stood := { row := nonceBetweenUptoRow, standIns := [], harness := (true, "108af673c76765145b7014bb92f555851b698ed4bb1db36baa622c7522c6c71b"), looks := false }, kinds := [], alts := [], laidByText := true, laidKinds := [.data, .data, .data], laidTests := true, laidLooks := .later }
def NonceBetweenUptoCardSaid : Prop := Claim7.holds Tryd.pinned (.plain (OpenSpec.upto nonceBetweenSpec)) nonceBetweenUptoCard

/-- THE SECOND FORM's CARD OF 'amnesialaw02.NonceForm'. -/
def nonceFormUptoCard : Claim7 := { stood := { row := nonceFormUptoRow, standIns := [], harness := (true, "108af673c76765145b7014bb92f555851b698ed4bb1db36baa622c7522c6c71b"), looks := false }, kinds := [], alts := [], laidByText := true, laidKinds := [.data, .data, .data], laidTests := true, laidLooks := .later }
def NonceFormUptoCardSaid : Prop := Claim7.holds Tryd.pinned (.plain (OpenSpec.upto nonceFormSpec)) nonceFormUptoCard
end Rows
end Go.Proofs.YtnndldhljonnpaaDoor
