/-
  NARROWER THAN 'FOR EVERY INPUT', by the rows' own cells (each row's printed sentence says how): MessageChecks: laid · MessageEncodes: laid · MessageDecodes: laid · MessageBodies: laid · MessageOwn: laid.
  DERIVED. THE GIVEN ROWS OF THIS SEAT. 5 by the template 'for every input the law returns true; each argument reads behind the call as it read before'; 0 by the template 'total and deterministic' (their statements: YtibedokegignhaaGreatDoorTotals.lean).
  GIVEN WITH THE SEED: the statements are not yours to turn. If you find one false, say at which input.
  Laid BY PROGRAM, IN A SANDBOX (cutbox-rows.mjs): the forced cells as the released guide's own fill.sh prints them over the translation af337c9ab435c34b… (all of the seat's roots in one cut). By AI agents, Wed Nov 11 2026. No macro, syntax, notation, axiom, sorry.
-/
import Derived.Test.YtibedokegignhaaGreatDoorChecked
import GoSem.Claim
import GoSem.ClaimJoined
import GoSem.ClaimMapViews
import Derived.JoinedTies
import Derived.KernelRfl
namespace Go.Proofs.YtibedokegignhaaGreatDoor
/- THE CELL 'sum', in the pinned program and in every row, IS THE sha256 OF THE DUMP (.gsa) THAT YtibedokegignhaaGreatDoorProg.lean LOADS. Nothing in Lean hashes anything: it is a label: what it is worth is what the hold of that sum in a sandbox is worth. -/
noncomputable def Tryz.pinned : Pinned := { name := "ytibedokegignhaagreatdoor", sum := "af337c9ab435c34b509f4dc9442390e00b0e67dff2dd004de5e5a8cd9f21b6b1", checked := Tryz.checked }
namespace Rows
def none {H : Type} : Left H := { results := [], args := [] }

/- WHAT THE LISTED PACKAGE-LEVEL VARIABLES READ AS WHEN THE CALL BEGINS. Each datum BY PROGRAM (the guide's laid-datum.mjs) off the statement by which the dump's own 'gosem.cut.vars' lays the variable. In a bare row this is a premise. The card (YtibedokegignhaaGreatDoorCards.lean) ties it to the program's text. -/
def laid_amnesia_message_table {H : Type} : DataW H := .agg [.agg [.lit (.int .u8 0), .lit (.int .u8 0), .lit (.int .u8 0), .lit (.int .u8 0), .lit (.int .u8 0), .lit (.int .u8 0), .lit (.int .u8 0), .lit (.int .u8 0), .lit (.int .u8 0), .lit (.int .u8 0)], .agg [.lit (.int .u8 0), .lit (.int .u8 0), .lit (.int .u8 0), .lit (.int .u8 0), .lit (.int .u8 0), .lit (.int .u8 0), .lit (.int .u8 13), .lit (.int .u8 0), .lit (.int .u8 0), .lit (.int .u8 0)], .agg [.lit (.int .u8 1), .lit (.int .u8 3), .lit (.int .u8 0), .lit (.int .u8 8), .lit (.int .u8 0), .lit (.int .u8 0), .lit (.int .u8 15), .lit (.int .u8 16), .lit (.int .u8 0), .lit (.int .u8 0)], .agg [.lit (.int .u8 2), .lit (.int .u8 3), .lit (.int .u8 0), .lit (.int .u8 7), .lit (.int .u8 9), .lit (.int .u8 0), .lit (.int .u8 13), .lit (.int .u8 0), .lit (.int .u8 0), .lit (.int .u8 20)], .agg [.lit (.int .u8 1), .lit (.int .u8 3), .lit (.int .u8 0), .lit (.int .u8 6), .lit (.int .u8 0), .lit (.int .u8 0), .lit (.int .u8 0), .lit (.int .u8 0), .lit (.int .u8 0), .lit (.int .u8 20)], .agg [.lit (.int .u8 2), .lit (.int .u8 3), .lit (.int .u8 0), .lit (.int .u8 0), .lit (.int .u8 9), .lit (.int .u8 0), .lit (.int .u8 0), .lit (.int .u8 0), .lit (.int .u8 0), .lit (.int .u8 20)], .agg [.lit (.int .u8 1), .lit (.int .u8 4), .lit (.int .u8 0), .lit (.int .u8 0), .lit (.int .u8 0), .lit (.int .u8 0), .lit (.int .u8 0), .lit (.int .u8 0), .lit (.int .u8 0), .lit (.int .u8 20)], .agg [.lit (.int .u8 1), .lit (.int .u8 4), .lit (.int .u8 5), .lit (.int .u8 0), .lit (.int .u8 10), .lit (.int .u8 0), .lit (.int .u8 0), .lit (.int .u8 0), .lit (.int .u8 18), .lit (.int .u8 20)], .agg [.lit (.int .u8 2), .lit (.int .u8 4), .lit (.int .u8 0), .lit (.int .u8 0), .lit (.int .u8 10), .lit (.int .u8 0), .lit (.int .u8 0), .lit (.int .u8 0), .lit (.int .u8 18), .lit (.int .u8 20)], .agg [.lit (.int .u8 1), .lit (.int .u8 0), .lit (.int .u8 0), .lit (.int .u8 0), .lit (.int .u8 0), .lit (.int .u8 12), .lit (.int .u8 0), .lit (.int .u8 0), .lit (.int .u8 0), .lit (.int .u8 20)], .agg [.lit (.int .u8 1), .lit (.int .u8 3), .lit (.int .u8 0), .lit (.int .u8 0), .lit (.int .u8 10), .lit (.int .u8 11), .lit (.int .u8 0), .lit (.int .u8 0), .lit (.int .u8 19), .lit (.int .u8 20)], .agg [.lit (.int .u8 1), .lit (.int .u8 3), .lit (.int .u8 0), .lit (.int .u8 0), .lit (.int .u8 0), .lit (.int .u8 0), .lit (.int .u8 0), .lit (.int .u8 0), .lit (.int .u8 0), .lit (.int .u8 20)], .agg [.lit (.int .u8 1), .lit (.int .u8 3), .lit (.int .u8 0), .lit (.int .u8 0), .lit (.int .u8 10), .lit (.int .u8 0), .lit (.int .u8 0), .lit (.int .u8 0), .lit (.int .u8 18), .lit (.int .u8 20)], .agg [.lit (.int .u8 0), .lit (.int .u8 0), .lit (.int .u8 0), .lit (.int .u8 6), .lit (.int .u8 0), .lit (.int .u8 0), .lit (.int .u8 14), .lit (.int .u8 0), .lit (.int .u8 0), .lit (.int .u8 0)], .agg [.lit (.int .u8 1), .lit (.int .u8 3), .lit (.int .u8 0), .lit (.int .u8 0), .lit (.int .u8 9), .lit (.int .u8 0), .lit (.int .u8 15), .lit (.int .u8 17), .lit (.int .u8 0), .lit (.int .u8 0)]]

/-- 'amnesialaw07.MessageChecks': WHATEVER THE INPUT: true; the input reads as it did. -/
def messageChecksSpec : ChangeSpec := { name := "messageChecks", fn := fun _ => fun
  | [d1, d2, d3] => { results := [.lit (.bool true)], args := [d1, d2, d3] }
  | _ => none }
def messageChecksRow : OpenClaim := { program := "ytibedokegignhaagreatdoor", sum := "af337c9ab435c34b509f4dc9442390e00b0e67dff2dd004de5e5a8cd9f21b6b1", func := "amnesia/amnesialaw07.MessageChecks", spec := "messageChecks", unfollowed := true, recurses := true, named := ["amnesia/message.table"], apart := false, laid := [("amnesia/message.table", laid_amnesia_message_table)] }
def MessageChecksSaid : Prop := messageChecksRow.holds Tryz.pinned (OpenSpec.ofChange messageChecksSpec)

/-- ITS FALSE NEIGHBOUR: 'it returns false'. Refute it at one input. -/
def messageChecksWrong : ChangeSpec := { name := "messageChecks", fn := fun _ => fun
  | [d1, d2, d3] => { results := [.lit (.bool false)], args := [d1, d2, d3] }
  | _ => none }
def MessageChecksWrongFalsely : Prop := messageChecksRow.holds Tryz.pinned (OpenSpec.ofChange messageChecksWrong)

/-- 'amnesialaw07.MessageEncodes': WHATEVER THE INPUT: true; the input reads as it did. -/
def messageEncodesSpec : ChangeSpec := { name := "messageEncodes", fn := fun _ => fun
  | [d1, d2] => { results := [.lit (.bool true)], args := [d1, d2] }
  | _ => none }
def messageEncodesRow : OpenClaim := { program := "ytibedokegignhaagreatdoor", sum := "af337c9ab435c34b509f4dc9442390e00b0e67dff2dd004de5e5a8cd9f21b6b1", func := "amnesia/amnesialaw07.MessageEncodes", spec := "messageEncodes", unfollowed := true, recurses := true, named := ["amnesia/message.table"], apart := false, laid := [("amnesia/message.table", laid_amnesia_message_table)] }
def MessageEncodesSaid : Prop := messageEncodesRow.holds Tryz.pinned (OpenSpec.ofChange messageEncodesSpec)

/-- ITS FALSE NEIGHBOUR: 'it returns false'. Refute it at one input. -/
def messageEncodesWrong : ChangeSpec := { name := "messageEncodes", fn := fun _ => fun
  | [d1, d2] => { results := [.lit (.bool false)], args := [d1, d2] }
  | _ => none }
def MessageEncodesWrongFalsely : Prop := messageEncodesRow.holds Tryz.pinned (OpenSpec.ofChange messageEncodesWrong)

/-- 'amnesialaw07.MessageDecodes': WHATEVER THE INPUT: true; the input reads as it did. -/
def messageDecodesSpec : ChangeSpec := { name := "messageDecodes", fn := fun _ => fun
  | [d1, d2] => { results := [.lit (.bool true)], args := [d1, d2] }
  | _ => none }
def messageDecodesRow : OpenClaim := { program := "ytibedokegignhaagreatdoor", sum := "af337c9ab435c34b509f4dc9442390e00b0e67dff2dd004de5e5a8cd9f21b6b1", func := "amnesia/amnesialaw07.MessageDecodes", spec := "messageDecodes", unfollowed := true, recurses := true, named := ["amnesia/message.table"], apart := false, laid := [("amnesia/message.table", laid_amnesia_message_table)] }
def MessageDecodesSaid : Prop := messageDecodesRow.holds Tryz.pinned (OpenSpec.ofChange messageDecodesSpec)

/-- ITS FALSE NEIGHBOUR: 'it returns false'. Refute it at one input. -/
def messageDecodesWrong : ChangeSpec := { name := "messageDecodes", fn := fun _ => fun
  | [d1, d2] => { results := [.lit (.bool false)], args := [d1, d2] }
  | _ => none }
def MessageDecodesWrongFalsely : Prop := messageDecodesRow.holds Tryz.pinned (OpenSpec.ofChange messageDecodesWrong)

/-- 'amnesialaw07.MessageBodies': WHATEVER THE INPUT: true; the input reads as it did. -/
def messageBodiesSpec : ChangeSpec := { name := "messageBodies", fn := fun _ => fun
  | [d1, d2] => { results := [.lit (.bool true)], args := [d1, d2] }
  | _ => none }
def messageBodiesRow : OpenClaim := { program := "ytibedokegignhaagreatdoor", sum := "af337c9ab435c34b509f4dc9442390e00b0e67dff2dd004de5e5a8cd9f21b6b1", func := "amnesia/amnesialaw07.MessageBodies", spec := "messageBodies", unfollowed := true, recurses := true, named := ["amnesia/message.table"], apart := false, laid := [("amnesia/message.table", laid_amnesia_message_table)] }
def MessageBodiesSaid : Prop := messageBodiesRow.holds Tryz.pinned (OpenSpec.ofChange messageBodiesSpec)

/-- ITS FALSE NEIGHBOUR: 'it returns false'. Refute it at one input. -/
def messageBodiesWrong : ChangeSpec := { name := "messageBodies", fn := fun _ => fun
  | [d1, d2] => { results := [.lit (.bool false)], args := [d1, d2] }
  | _ => none }
def MessageBodiesWrongFalsely : Prop := messageBodiesRow.holds Tryz.pinned (OpenSpec.ofChange messageBodiesWrong)

/-- 'amnesialaw07.MessageOwn': WHATEVER THE INPUT: true; the input reads as it did. -/
def messageOwnSpec : ChangeSpec := { name := "messageOwn", fn := fun _ => fun
  | [d1, d2, d3] => { results := [.lit (.bool true)], args := [d1, d2, d3] }
  | _ => none }
def messageOwnRow : OpenClaim := { program := "ytibedokegignhaagreatdoor", sum := "af337c9ab435c34b509f4dc9442390e00b0e67dff2dd004de5e5a8cd9f21b6b1", func := "amnesia/amnesialaw07.MessageOwn", spec := "messageOwn", unfollowed := true, recurses := true, named := ["amnesia/message.table"], apart := false, laid := [("amnesia/message.table", laid_amnesia_message_table)] }
def MessageOwnSaid : Prop := messageOwnRow.holds Tryz.pinned (OpenSpec.ofChange messageOwnSpec)

/-- ITS FALSE NEIGHBOUR: 'it returns false'. Refute it at one input. -/
def messageOwnWrong : ChangeSpec := { name := "messageOwn", fn := fun _ => fun
  | [d1, d2, d3] => { results := [.lit (.bool false)], args := [d1, d2, d3] }
  | _ => none }
def MessageOwnWrongFalsely : Prop := messageOwnRow.holds Tryz.pinned (OpenSpec.ofChange messageOwnWrong)

/- THE SECOND FORM. 'bulk': how many values and letters a reading holds, each counted each time it is reached (what is shared counts as often as it is met; a slice's spare places count too). A statement '..UptoSaid' is the law's where the arguments, and the package variables that the reading takes, are together of bulk at most 1048576: NARROWER than '..Said'. Prove '..Said' where nothing that the law and all that it calls make is longer than what came in: it says more and counts as full. Else prove '..UptoSaid'. A law counts once. -/
mutual
def uptoBulk {H : Type} : DataW H → Nat
  | .lit (.string bytes) => bytes.length + 1
  | .lit _ => 1
  | .nil => 1
  | .ptr d => uptoBulk d + 1
  | .slice elems spare => uptoBulkAll elems + uptoBulkAll spare + 1
  | .agg parts => uptoBulkAll parts + 1
  | .iface _ d => uptoBulk d + 1
  | .map entries => uptoBulkEntries entries + 1
  | .held _ => 1
def uptoBulkAll {H : Type} : List (DataW H) → Nat
  | [] => 0
  | d :: r => uptoBulk d + uptoBulkAll r
def uptoBulkEntries {H : Type} : List (Lit × DataW H) → Nat
  | [] => 0
  | x :: r => uptoBulkEntry x + uptoBulkEntries r
def uptoBulkEntry {H : Type} : Lit × DataW H → Nat
  | (.string bytes, d) => bytes.length + uptoBulk d + 1
  | (_, d) => uptoBulk d + 1
 end
def uptoSmall : (H : Type) → List (DataW H) → Bool := fun _ ds => decide (uptoBulkAll ds ≤ 1048576)
def OpenSpec.upto (s : _root_.Go.ChangeSpec) : _root_.Go.OpenSpec := { _root_.Go.OpenSpec.ofChange s with cond := some uptoSmall }

/-- 'amnesialaw07.MessageChecks', WHERE WHAT IT READS IS OF BULK AT MOST 1048576: true; the input reads as it did. -/
def messageChecksUptoRow : OpenClaim := { program := "ytibedokegignhaagreatdoor", sum := "af337c9ab435c34b509f4dc9442390e00b0e67dff2dd004de5e5a8cd9f21b6b1", func := "amnesia/amnesialaw07.MessageChecks", spec := "messageChecks", unfollowed := true, recurses := true, named := ["amnesia/message.table"], apart := false, laid := [("amnesia/message.table", laid_amnesia_message_table)], narrowed := true }
def MessageChecksUptoSaid : Prop := messageChecksUptoRow.holds Tryz.pinned (OpenSpec.upto messageChecksSpec)

/-- 'amnesialaw07.MessageEncodes', WHERE WHAT IT READS IS OF BULK AT MOST 1048576: true; the input reads as it did. -/
def messageEncodesUptoRow : OpenClaim := { program := "ytibedokegignhaagreatdoor", sum := "af337c9ab435c34b509f4dc9442390e00b0e67dff2dd004de5e5a8cd9f21b6b1", func := "amnesia/amnesialaw07.MessageEncodes", spec := "messageEncodes", unfollowed := true, recurses := true, named := ["amnesia/message.table"], apart := false, laid := [("amnesia/message.table", laid_amnesia_message_table)], narrowed := true }
def MessageEncodesUptoSaid : Prop := messageEncodesUptoRow.holds Tryz.pinned (OpenSpec.upto messageEncodesSpec)

/-- 'amnesialaw07.MessageDecodes', WHERE WHAT IT READS IS OF BULK AT MOST 1048576: true; the input reads as it did. -/
def messageDecodesUptoRow : OpenClaim := { program := "ytibedokegignhaagreatdoor", sum := "af337c9ab435c34b509f4dc9442390e00b0e67dff2dd004de5e5a8cd9f21b6b1", func := "amnesia/amnesialaw07.MessageDecodes", spec := "messageDecodes", unfollowed := true, recurses := true, named := ["amnesia/message.table"], apart := false, laid := [("amnesia/message.table", laid_amnesia_message_table)], narrowed := true }
def MessageDecodesUptoSaid : Prop := messageDecodesUptoRow.holds Tryz.pinned (OpenSpec.upto messageDecodesSpec)

/-- 'amnesialaw07.MessageBodies', WHERE WHAT IT READS IS OF BULK AT MOST 1048576: true; the input reads as it did. -/
def messageBodiesUptoRow : OpenClaim := { program := "ytibedokegignhaagreatdoor", sum := "af337c9ab435c34b509f4dc9442390e00b0e67dff2dd004de5e5a8cd9f21b6b1", func := "amnesia/amnesialaw07.MessageBodies", spec := "messageBodies", unfollowed := true, recurses := true, named := ["amnesia/message.table"], apart := false, laid := [("amnesia/message.table", laid_amnesia_message_table)], narrowed := true }
def MessageBodiesUptoSaid : Prop := messageBodiesUptoRow.holds Tryz.pinned (OpenSpec.upto messageBodiesSpec)

/-- 'amnesialaw07.MessageOwn', WHERE WHAT IT READS IS OF BULK AT MOST 1048576: true; the input reads as it did. -/
def messageOwnUptoRow : OpenClaim := { program := "ytibedokegignhaagreatdoor", sum := "af337c9ab435c34b509f4dc9442390e00b0e67dff2dd004de5e5a8cd9f21b6b1", func := "amnesia/amnesialaw07.MessageOwn", spec := "messageOwn", unfollowed := true, recurses := true, named := ["amnesia/message.table"], apart := false, laid := [("amnesia/message.table", laid_amnesia_message_table)], narrowed := true }
def MessageOwnUptoSaid : Prop := messageOwnUptoRow.holds Tryz.pinned (OpenSpec.upto messageOwnSpec)

end Rows
end Go.Proofs.YtibedokegignhaaGreatDoor
