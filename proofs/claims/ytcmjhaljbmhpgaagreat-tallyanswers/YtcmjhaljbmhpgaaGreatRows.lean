/-
  No cell of these rows narrows 'for every input' (looked for: loops, veiled, ifaces, maps, wideKeys, modest, calm, conditions, laid).
  DERIVED. THE GIVEN ROWS OF THIS SEAT. 3 by the template 'for every input the law returns true; each argument reads behind the call as it read before'; 0 by the template 'total and deterministic' (their statements: YtcmjhaljbmhpgaaGreatTotals.lean).
  GIVEN WITH THE SEED: the statements are not yours to turn. If you find one false, say at which input.
  Laid BY PROGRAM, IN A SANDBOX (cutbox-rows.mjs): the forced cells as the released guide's own fill.sh prints them over the translation b985b2e12eae7a69… (all of the seat's roots in one cut). By AI agents, Wed Nov 11 2026. No macro, syntax, notation, axiom, sorry.
-/
import Derived.Test.YtcmjhaljbmhpgaaGreatChecked
import GoSem.Claim
import GoSem.ClaimJoined
import GoSem.ClaimMapViews
import Derived.JoinedTies
import Derived.KernelRfl
namespace Go.Proofs.YtcmjhaljbmhpgaaGreat
/- THE CELL 'sum', in the pinned program and in every row, IS THE sha256 OF THE DUMP (.gsa) THAT YtcmjhaljbmhpgaaGreatProg.lean LOADS. Nothing in Lean hashes anything: it is a label: what it is worth is what the hold of that sum in a sandbox is worth. -/
noncomputable def Tryz.pinned : Pinned := { name := "ytcmjhaljbmhpgaagreat", sum := "b985b2e12eae7a69a1ba05f375120d41d8257e0d606974c15f632f140e2a1f65", checked := Tryz.checked }
namespace Rows
def none {H : Type} : Left H := { results := [], args := [] }

/-- 'amnesialaw08.TallyAcks': WHATEVER THE INPUT: true; the input reads as it did. -/
def tallyAcksSpec : ChangeSpec := { name := "tallyAcks", fn := fun _ => fun
  | [d1, d2, d3, d4, d5] => { results := [.lit (.bool true)], args := [d1, d2, d3, d4, d5] }
  | _ => none }
def tallyAcksRow : OpenClaim := { program := "ytcmjhaljbmhpgaagreat", sum := "b985b2e12eae7a69a1ba05f375120d41d8257e0d606974c15f632f140e2a1f65", func := "amnesia/amnesialaw08.TallyAcks", spec := "tallyAcks", inPlace := ["slices.overlaps[amnesia/tally.ack]", "slices.overlaps[amnesia/tally.mark]"], unfollowed := true, recurses := true, apart := false }
def TallyAcksSaid : Prop := tallyAcksRow.holds Tryz.pinned (OpenSpec.ofChange tallyAcksSpec)

/-- ITS FALSE NEIGHBOUR: 'it returns false'. Refute it at one input. -/
def tallyAcksWrong : ChangeSpec := { name := "tallyAcks", fn := fun _ => fun
  | [d1, d2, d3, d4, d5] => { results := [.lit (.bool false)], args := [d1, d2, d3, d4, d5] }
  | _ => none }
def TallyAcksWrongFalsely : Prop := tallyAcksRow.holds Tryz.pinned (OpenSpec.ofChange tallyAcksWrong)

/-- 'amnesialaw08.TallyBallots': WHATEVER THE INPUT: true; the input reads as it did. -/
def tallyBallotsSpec : ChangeSpec := { name := "tallyBallots", fn := fun _ => fun
  | [d1, d2, d3, d4, d5] => { results := [.lit (.bool true)], args := [d1, d2, d3, d4, d5] }
  | _ => none }
def tallyBallotsRow : OpenClaim := { program := "ytcmjhaljbmhpgaagreat", sum := "b985b2e12eae7a69a1ba05f375120d41d8257e0d606974c15f632f140e2a1f65", func := "amnesia/amnesialaw08.TallyBallots", spec := "tallyBallots", inPlace := ["slices.overlaps[amnesia/tally.ballot]", "slices.overlaps[amnesia/tally.mark]"], unfollowed := true, recurses := true, apart := false }
def TallyBallotsSaid : Prop := tallyBallotsRow.holds Tryz.pinned (OpenSpec.ofChange tallyBallotsSpec)

/-- ITS FALSE NEIGHBOUR: 'it returns false'. Refute it at one input. -/
def tallyBallotsWrong : ChangeSpec := { name := "tallyBallots", fn := fun _ => fun
  | [d1, d2, d3, d4, d5] => { results := [.lit (.bool false)], args := [d1, d2, d3, d4, d5] }
  | _ => none }
def TallyBallotsWrongFalsely : Prop := tallyBallotsRow.holds Tryz.pinned (OpenSpec.ofChange tallyBallotsWrong)

/-- 'amnesialaw08.TallyAnswers': WHATEVER THE INPUT: true; the input reads as it did. -/
def tallyAnswersSpec : ChangeSpec := { name := "tallyAnswers", fn := fun _ => fun
  | [d1, d2, d3, d4, d5] => { results := [.lit (.bool true)], args := [d1, d2, d3, d4, d5] }
  | _ => none }
def tallyAnswersRow : OpenClaim := { program := "ytcmjhaljbmhpgaagreat", sum := "b985b2e12eae7a69a1ba05f375120d41d8257e0d606974c15f632f140e2a1f65", func := "amnesia/amnesialaw08.TallyAnswers", spec := "tallyAnswers", inPlace := ["slices.overlaps[amnesia/tally.answer]", "slices.overlaps[amnesia/tally.mark]"], unfollowed := true, recurses := true, apart := false }
def TallyAnswersSaid : Prop := tallyAnswersRow.holds Tryz.pinned (OpenSpec.ofChange tallyAnswersSpec)

/-- ITS FALSE NEIGHBOUR: 'it returns false'. Refute it at one input. -/
def tallyAnswersWrong : ChangeSpec := { name := "tallyAnswers", fn := fun _ => fun
  | [d1, d2, d3, d4, d5] => { results := [.lit (.bool false)], args := [d1, d2, d3, d4, d5] }
  | _ => none }
def TallyAnswersWrongFalsely : Prop := tallyAnswersRow.holds Tryz.pinned (OpenSpec.ofChange tallyAnswersWrong)

/- THE SECOND FORM. 'bulk': how many values and letters a reading holds, each counted each time it is reached (what is shared counts as often as it is met; a slice's spare places count too). A statement '..UptoSaid' is the law's where the arguments, and the package variables that the reading takes, are together of bulk at most 1048576: NARROWER than '..Said'. Prove '..Said' where nothing that the law and all that it calls make is longer than what came in: it says more and counts as full. Else prove '..UptoSaid'. A law counts once. -/
mutual
def uptoBulk {H : Type} : DataW H → Nat
  | .lit (.string bytes) => bytes.length + 1
  | .lit _ => 1
  | .nil => 1
  | .ptr d => uptoBulk d + 1
  | .slice elems spare => uptoBulkAll elems + uptoBulkAll spare + 1
  | .agg parts => uptoBulkAll parts + 1
  | .iface _ d => uptoBulk d + 1
  | .map entries => uptoBulkEntries entries + 1
  | .held _ => 1
def uptoBulkAll {H : Type} : List (DataW H) → Nat
  | [] => 0
  | d :: r => uptoBulk d + uptoBulkAll r
def uptoBulkEntries {H : Type} : List (Lit × DataW H) → Nat
  | [] => 0
  | x :: r => uptoBulkEntry x + uptoBulkEntries r
def uptoBulkEntry {H : Type} : Lit × DataW H → Nat
  | (.string bytes, d) => bytes.length + uptoBulk d + 1
  | (_, d) => uptoBulk d + 1
 end
def uptoSmall : (H : Type) → List (DataW H) → Bool := fun _ ds => decide (uptoBulkAll ds ≤ 1048576)
def OpenSpec.upto (s : _root_.Go.ChangeSpec) : _root_.Go.OpenSpec := { _root_.Go.OpenSpec.ofChange s with cond := some uptoSmall }

/-- 'amnesialaw08.TallyAcks', WHERE WHAT IT READS IS OF BULK AT MOST 1048576: true; the input reads as it did. -/
def tallyAcksUptoRow : OpenClaim := { program := "ytcmjhaljbmhpgaagreat", sum := "b985b2e12eae7a69a1ba05f375120d41d8257e0d606974c15f632f140e2a1f65", func := "amnesia/amnesialaw08.TallyAcks", spec := "tallyAcks", inPlace := ["slices.overlaps[amnesia/tally.ack]", "slices.overlaps[amnesia/tally.mark]"], unfollowed := true, recurses := true, apart := false, narrowed := true }
def TallyAcksUptoSaid : Prop := tallyAcksUptoRow.holds Tryz.pinned (OpenSpec.upto tallyAcksSpec)

/-- 'amnesialaw08.TallyBallots', WHERE WHAT IT READS IS OF BULK AT MOST 1048576: true; the input reads as it did. -/
def tallyBallotsUptoRow : OpenClaim := { program := "ytcmjhaljbmhpgaagreat", sum := "b985b2e12eae7a69a1ba05f375120d41d8257e0d606974c15f632f140e2a1f65", func := "amnesia/amnesialaw08.TallyBallots", spec := "tallyBallots", inPlace := ["slices.overlaps[amnesia/tally.ballot]", "slices.overlaps[amnesia/tally.mark]"], unfollowed := true, recurses := true, apart := false, narrowed := true }
def TallyBallotsUptoSaid : Prop := tallyBallotsUptoRow.holds Tryz.pinned (OpenSpec.upto tallyBallotsSpec)

/-- 'amnesialaw08.TallyAnswers', WHERE WHAT IT READS IS OF BULK AT MOST 1048576: true; the input reads as it did. -/
def tallyAnswersUptoRow : OpenClaim := { program := "ytcmjhaljbmhpgaagreat", sum := "b985b2e12eae7a69a1ba05f375120d41d8257e0d606974c15f632f140e2a1f65", func := "amnesia/amnesialaw08.TallyAnswers", spec := "tallyAnswers", inPlace := ["slices.overlaps[amnesia/tally.answer]", "slices.overlaps[amnesia/tally.mark]"], unfollowed := true, recurses := true, apart := false, narrowed := true }
def TallyAnswersUptoSaid : Prop := tallyAnswersUptoRow.holds Tryz.pinned (OpenSpec.upto tallyAnswersSpec)

end Rows
end Go.Proofs.YtcmjhaljbmhpgaaGreat
