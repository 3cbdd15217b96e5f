/-
  No cell of these rows narrows 'for every input' (looked for: loops, veiled, ifaces, maps, wideKeys, modest, calm, conditions, laid).
  DERIVED. THE GIVEN ROWS OF THIS SEAT. 10 by the template 'for every input the law returns true; each argument reads behind the call as it read before'; 0 by the template 'total and deterministic' (their statements: YtnhonkgondljjaaTotals.lean).
  GIVEN WITH THE SEED: the statements are not yours to turn. If you find one false, say at which input.
  Laid BY PROGRAM, IN A SANDBOX (cutbox-rows.mjs): the forced cells as the released guide's own fill.sh prints them over the translation abd711489dfdbdde… (all of the seat's roots in one cut). By AI agents, Wed Nov 11 2026. No macro, syntax, notation, axiom, sorry.
-/
import Derived.Test.YtnhonkgondljjaaChecked
import GoSem.Claim
import GoSem.ClaimJoined
import GoSem.ClaimMapViews
import Derived.JoinedTies
import Derived.KernelRfl
namespace Go.Proofs.Ytnhonkgondljjaa
/- THE CELL 'sum', in the pinned program and in every row, IS THE sha256 OF THE DUMP (.gsa) THAT YtnhonkgondljjaaProg.lean LOADS. Nothing in Lean hashes anything: it is a label: what it is worth is what the hold of that sum in a sandbox is worth. -/
noncomputable def Try.pinned : Pinned := { name := "ytnhonkgondljjaa", sum := "abd711489dfdbdde8dc2505cedf1006af2a66e860a49cf0226f2da04d412d153", checked := Try.checked }
namespace Rows
def none {H : Type} : Left H := { results := [], args := [] }

/-- 'amnesialaw08.TallyMarks': WHATEVER THE INPUT: true; the input reads as it did. -/
def tallyMarksSpec : ChangeSpec := { name := "tallyMarks", fn := fun _ => fun
  | [d1, d2, d3, d4, d5] => { results := [.lit (.bool true)], args := [d1, d2, d3, d4, d5] }
  | _ => none }
def tallyMarksRow : OpenClaim := { program := "ytnhonkgondljjaa", sum := "abd711489dfdbdde8dc2505cedf1006af2a66e860a49cf0226f2da04d412d153", func := "amnesia/amnesialaw08.TallyMarks", spec := "tallyMarks", inPlace := ["slices.overlaps[amnesia/tally.mark]"], unfollowed := true, recurses := true, apart := false }
def TallyMarksSaid : Prop := tallyMarksRow.holds Try.pinned (OpenSpec.ofChange tallyMarksSpec)

/-- ITS FALSE NEIGHBOUR: 'it returns false'. Refute it at one input. -/
def tallyMarksWrong : ChangeSpec := { name := "tallyMarks", fn := fun _ => fun
  | [d1, d2, d3, d4, d5] => { results := [.lit (.bool false)], args := [d1, d2, d3, d4, d5] }
  | _ => none }
def TallyMarksWrongFalsely : Prop := tallyMarksRow.holds Try.pinned (OpenSpec.ofChange tallyMarksWrong)

/-- 'amnesialaw08.TallyReaches': WHATEVER THE INPUT: true; the input reads as it did. -/
def tallyReachesSpec : ChangeSpec := { name := "tallyReaches", fn := fun _ => fun
  | [d1, d2, d3, d4] => { results := [.lit (.bool true)], args := [d1, d2, d3, d4] }
  | _ => none }
def tallyReachesRow : OpenClaim := { program := "ytnhonkgondljjaa", sum := "abd711489dfdbdde8dc2505cedf1006af2a66e860a49cf0226f2da04d412d153", func := "amnesia/amnesialaw08.TallyReaches", spec := "tallyReaches", inPlace := ["slices.overlaps[amnesia/tally.mark]"], unfollowed := true, recurses := true, apart := false }
def TallyReachesSaid : Prop := tallyReachesRow.holds Try.pinned (OpenSpec.ofChange tallyReachesSpec)

/-- ITS FALSE NEIGHBOUR: 'it returns false'. Refute it at one input. -/
def tallyReachesWrong : ChangeSpec := { name := "tallyReaches", fn := fun _ => fun
  | [d1, d2, d3, d4] => { results := [.lit (.bool false)], args := [d1, d2, d3, d4] }
  | _ => none }
def TallyReachesWrongFalsely : Prop := tallyReachesRow.holds Try.pinned (OpenSpec.ofChange tallyReachesWrong)

/-- 'amnesialaw08.TallyOnce': WHATEVER THE INPUT: true; the input reads as it did. -/
def tallyOnceSpec : ChangeSpec := { name := "tallyOnce", fn := fun _ => fun
  | [d1, d2] => { results := [.lit (.bool true)], args := [d1, d2] }
  | _ => none }
def tallyOnceRow : OpenClaim := { program := "ytnhonkgondljjaa", sum := "abd711489dfdbdde8dc2505cedf1006af2a66e860a49cf0226f2da04d412d153", func := "amnesia/amnesialaw08.TallyOnce", spec := "tallyOnce", inPlace := ["slices.overlaps[amnesia/tally.mark]", "slices.overlaps[amnesia/tally.ack]"], unfollowed := true, recurses := true, apart := false }
def TallyOnceSaid : Prop := tallyOnceRow.holds Try.pinned (OpenSpec.ofChange tallyOnceSpec)

/-- ITS FALSE NEIGHBOUR: 'it returns false'. Refute it at one input. -/
def tallyOnceWrong : ChangeSpec := { name := "tallyOnce", fn := fun _ => fun
  | [d1, d2] => { results := [.lit (.bool false)], args := [d1, d2] }
  | _ => none }
def TallyOnceWrongFalsely : Prop := tallyOnceRow.holds Try.pinned (OpenSpec.ofChange tallyOnceWrong)

/-- 'amnesialaw08.TallyBallotsOnce': WHATEVER THE INPUT: true; the input reads as it did. -/
def tallyBallotsOnceSpec : ChangeSpec := { name := "tallyBallotsOnce", fn := fun _ => fun
  | [d1, d2, d3] => { results := [.lit (.bool true)], args := [d1, d2, d3] }
  | _ => none }
def tallyBallotsOnceRow : OpenClaim := { program := "ytnhonkgondljjaa", sum := "abd711489dfdbdde8dc2505cedf1006af2a66e860a49cf0226f2da04d412d153", func := "amnesia/amnesialaw08.TallyBallotsOnce", spec := "tallyBallotsOnce", inPlace := ["slices.overlaps[amnesia/tally.mark]", "slices.overlaps[amnesia/tally.ballot]", "slices.overlaps[amnesia/tally.answer]"], unfollowed := true, recurses := true, apart := false }
def TallyBallotsOnceSaid : Prop := tallyBallotsOnceRow.holds Try.pinned (OpenSpec.ofChange tallyBallotsOnceSpec)

/-- ITS FALSE NEIGHBOUR: 'it returns false'. Refute it at one input. -/
def tallyBallotsOnceWrong : ChangeSpec := { name := "tallyBallotsOnce", fn := fun _ => fun
  | [d1, d2, d3] => { results := [.lit (.bool false)], args := [d1, d2, d3] }
  | _ => none }
def TallyBallotsOnceWrongFalsely : Prop := tallyBallotsOnceRow.holds Try.pinned (OpenSpec.ofChange tallyBallotsOnceWrong)

/-- 'amnesialaw08.TallyPrunes': WHATEVER THE INPUT: true; the input reads as it did. -/
def tallyPrunesSpec : ChangeSpec := { name := "tallyPrunes", fn := fun _ => fun
  | [d1, d2, d3] => { results := [.lit (.bool true)], args := [d1, d2, d3] }
  | _ => none }
def tallyPrunesRow : OpenClaim := { program := "ytnhonkgondljjaa", sum := "abd711489dfdbdde8dc2505cedf1006af2a66e860a49cf0226f2da04d412d153", func := "amnesia/amnesialaw08.TallyPrunes", spec := "tallyPrunes", inPlace := ["slices.overlaps[amnesia/tally.mark]", "slices.overlaps[amnesia/tally.ack]"], unfollowed := true, recurses := true, apart := false }
def TallyPrunesSaid : Prop := tallyPrunesRow.holds Try.pinned (OpenSpec.ofChange tallyPrunesSpec)

/-- ITS FALSE NEIGHBOUR: 'it returns false'. Refute it at one input. -/
def tallyPrunesWrong : ChangeSpec := { name := "tallyPrunes", fn := fun _ => fun
  | [d1, d2, d3] => { results := [.lit (.bool false)], args := [d1, d2, d3] }
  | _ => none }
def TallyPrunesWrongFalsely : Prop := tallyPrunesRow.holds Try.pinned (OpenSpec.ofChange tallyPrunesWrong)

/-- 'amnesialaw08.TallyQuorum': WHATEVER THE INPUT: true; the input reads as it did. -/
def tallyQuorumSpec : ChangeSpec := { name := "tallyQuorum", fn := fun _ => fun
  | [d1, d2, d3, d4] => { results := [.lit (.bool true)], args := [d1, d2, d3, d4] }
  | _ => none }
def tallyQuorumRow : OpenClaim := { program := "ytnhonkgondljjaa", sum := "abd711489dfdbdde8dc2505cedf1006af2a66e860a49cf0226f2da04d412d153", func := "amnesia/amnesialaw08.TallyQuorum", spec := "tallyQuorum", inPlace := ["slices.overlaps[amnesia/tally.mark]", "slices.overlaps[amnesia/tally.ack]"], unfollowed := true, recurses := true, apart := false }
def TallyQuorumSaid : Prop := tallyQuorumRow.holds Try.pinned (OpenSpec.ofChange tallyQuorumSpec)

/-- ITS FALSE NEIGHBOUR: 'it returns false'. Refute it at one input. -/
def tallyQuorumWrong : ChangeSpec := { name := "tallyQuorum", fn := fun _ => fun
  | [d1, d2, d3, d4] => { results := [.lit (.bool false)], args := [d1, d2, d3, d4] }
  | _ => none }
def TallyQuorumWrongFalsely : Prop := tallyQuorumRow.holds Try.pinned (OpenSpec.ofChange tallyQuorumWrong)

/-- 'amnesialaw08.TallyChoice': WHATEVER THE INPUT: true; the input reads as it did. -/
def tallyChoiceSpec : ChangeSpec := { name := "tallyChoice", fn := fun _ => fun
  | [d1, d2, d3] => { results := [.lit (.bool true)], args := [d1, d2, d3] }
  | _ => none }
def tallyChoiceRow : OpenClaim := { program := "ytnhonkgondljjaa", sum := "abd711489dfdbdde8dc2505cedf1006af2a66e860a49cf0226f2da04d412d153", func := "amnesia/amnesialaw08.TallyChoice", spec := "tallyChoice", inPlace := ["slices.overlaps[amnesia/tally.mark]"], unfollowed := true, recurses := true, apart := false }
def TallyChoiceSaid : Prop := tallyChoiceRow.holds Try.pinned (OpenSpec.ofChange tallyChoiceSpec)

/-- ITS FALSE NEIGHBOUR: 'it returns false'. Refute it at one input. -/
def tallyChoiceWrong : ChangeSpec := { name := "tallyChoice", fn := fun _ => fun
  | [d1, d2, d3] => { results := [.lit (.bool false)], args := [d1, d2, d3] }
  | _ => none }
def TallyChoiceWrongFalsely : Prop := tallyChoiceRow.holds Try.pinned (OpenSpec.ofChange tallyChoiceWrong)

/-- 'amnesialaw08.TallySettled': WHATEVER THE INPUT: true; the input reads as it did. -/
def tallySettledSpec : ChangeSpec := { name := "tallySettled", fn := fun _ => fun
  | [d1, d2] => { results := [.lit (.bool true)], args := [d1, d2] }
  | _ => none }
def tallySettledRow : OpenClaim := { program := "ytnhonkgondljjaa", sum := "abd711489dfdbdde8dc2505cedf1006af2a66e860a49cf0226f2da04d412d153", func := "amnesia/amnesialaw08.TallySettled", spec := "tallySettled", inPlace := ["slices.overlaps[amnesia/tally.mark]", "slices.overlaps[amnesia/tally.answer]"], unfollowed := true, recurses := true, apart := false }
def TallySettledSaid : Prop := tallySettledRow.holds Try.pinned (OpenSpec.ofChange tallySettledSpec)

/-- ITS FALSE NEIGHBOUR: 'it returns false'. Refute it at one input. -/
def tallySettledWrong : ChangeSpec := { name := "tallySettled", fn := fun _ => fun
  | [d1, d2] => { results := [.lit (.bool false)], args := [d1, d2] }
  | _ => none }
def TallySettledWrongFalsely : Prop := tallySettledRow.holds Try.pinned (OpenSpec.ofChange tallySettledWrong)

/-- 'amnesialaw08.TallyMeet': WHATEVER THE INPUT: true; the input reads as it did. -/
def tallyMeetSpec : ChangeSpec := { name := "tallyMeet", fn := fun _ => fun
  | [d1, d2, d3, d4] => { results := [.lit (.bool true)], args := [d1, d2, d3, d4] }
  | _ => none }
def tallyMeetRow : OpenClaim := { program := "ytnhonkgondljjaa", sum := "abd711489dfdbdde8dc2505cedf1006af2a66e860a49cf0226f2da04d412d153", func := "amnesia/amnesialaw08.TallyMeet", spec := "tallyMeet", inPlace := ["slices.overlaps[amnesia/tally.mark]", "slices.overlaps[amnesia/tally.answer]"], unfollowed := true, recurses := true, apart := false }
def TallyMeetSaid : Prop := tallyMeetRow.holds Try.pinned (OpenSpec.ofChange tallyMeetSpec)

/-- ITS FALSE NEIGHBOUR: 'it returns false'. Refute it at one input. -/
def tallyMeetWrong : ChangeSpec := { name := "tallyMeet", fn := fun _ => fun
  | [d1, d2, d3, d4] => { results := [.lit (.bool false)], args := [d1, d2, d3, d4] }
  | _ => none }
def TallyMeetWrongFalsely : Prop := tallyMeetRow.holds Try.pinned (OpenSpec.ofChange tallyMeetWrong)

/-- 'amnesialaw08.TallyStays': WHATEVER THE INPUT: true; the input reads as it did. -/
def tallyStaysSpec : ChangeSpec := { name := "tallyStays", fn := fun _ => fun
  | [d1, d2, d3, d4, d5] => { results := [.lit (.bool true)], args := [d1, d2, d3, d4, d5] }
  | _ => none }
def tallyStaysRow : OpenClaim := { program := "ytnhonkgondljjaa", sum := "abd711489dfdbdde8dc2505cedf1006af2a66e860a49cf0226f2da04d412d153", func := "amnesia/amnesialaw08.TallyStays", spec := "tallyStays", inPlace := ["slices.overlaps[amnesia/tally.mark]", "slices.overlaps[amnesia/tally.ballot]"], unfollowed := true, recurses := true, apart := false }
def TallyStaysSaid : Prop := tallyStaysRow.holds Try.pinned (OpenSpec.ofChange tallyStaysSpec)

/-- ITS FALSE NEIGHBOUR: 'it returns false'. Refute it at one input. -/
def tallyStaysWrong : ChangeSpec := { name := "tallyStays", fn := fun _ => fun
  | [d1, d2, d3, d4, d5] => { results := [.lit (.bool false)], args := [d1, d2, d3, d4, d5] }
  | _ => none }
def TallyStaysWrongFalsely : Prop := tallyStaysRow.holds Try.pinned (OpenSpec.ofChange tallyStaysWrong)

/- THE SECOND FORM. 'bulk': how many values and letters a reading holds, each counted each time it is reached (what is shared counts as often as it is met; a slice's spare places count too). A statement '..UptoSaid' is the law's where the arguments, and the package variables that the reading takes, are together of bulk at most 1048576: NARROWER than '..Said'. Prove '..Said' where nothing that the law and all that it calls make is longer than what came in: it says more and counts as full. Else prove '..UptoSaid'. A law counts once. -/
mutual
def uptoBulk {H : Type} : DataW H → Nat
  | .lit (.string bytes) => bytes.length + 1
  | .lit _ => 1
  | .nil => 1
  | .ptr d => uptoBulk d + 1
  | .slice elems spare => uptoBulkAll elems + uptoBulkAll spare + 1
  | .agg parts => uptoBulkAll parts + 1
  | .iface _ d => uptoBulk d + 1
  | .map entries => uptoBulkEntries entries + 1
  | .held _ => 1
def uptoBulkAll {H : Type} : List (DataW H) → Nat
  | [] => 0
  | d :: r => uptoBulk d + uptoBulkAll r
def uptoBulkEntries {H : Type} : List (Lit × DataW H) → Nat
  | [] => 0
  | x :: r => uptoBulkEntry x + uptoBulkEntries r
def uptoBulkEntry {H : Type} : Lit × DataW H → Nat
  | (.string bytes, d) => bytes.length + uptoBulk d + 1
  | (_, d) => uptoBulk d + 1
 end
def uptoSmall : (H : Type) → List (DataW H) → Bool := fun _ ds => decide (uptoBulkAll ds ≤ 1048576)
def OpenSpec.upto (s : _root_.Go.ChangeSpec) : _root_.Go.OpenSpec := { _root_.Go.OpenSpec.ofChange s with cond := some uptoSmall }

/-- 'amnesialaw08.TallyMarks', WHERE WHAT IT READS IS OF BULK AT MOST 1048576: true; the input reads as it did. -/
def tallyMarksUptoRow : OpenClaim := { program := "ytnhonkgondljjaa", sum := "abd711489dfdbdde8dc2505cedf1006af2a66e860a49cf0226f2da04d412d153", func := "amnesia/amnesialaw08.TallyMarks", spec := "tallyMarks", inPlace := ["slices.overlaps[amnesia/tally.mark]"], unfollowed := true, recurses := true, apart := false, narrowed := true }
def TallyMarksUptoSaid : Prop := tallyMarksUptoRow.holds Try.pinned (OpenSpec.upto tallyMarksSpec)

/-- 'amnesialaw08.TallyReaches', WHERE WHAT IT READS IS OF BULK AT MOST 1048576: true; the input reads as it did. -/
def tallyReachesUptoRow : OpenClaim := { program := "ytnhonkgondljjaa", sum := "abd711489dfdbdde8dc2505cedf1006af2a66e860a49cf0226f2da04d412d153", func := "amnesia/amnesialaw08.TallyReaches", spec := "tallyReaches", inPlace := ["slices.overlaps[amnesia/tally.mark]"], unfollowed := true, recurses := true, apart := false, narrowed := true }
def TallyReachesUptoSaid : Prop := tallyReachesUptoRow.holds Try.pinned (OpenSpec.upto tallyReachesSpec)

/-- 'amnesialaw08.TallyOnce', WHERE WHAT IT READS IS OF BULK AT MOST 1048576: true; the input reads as it did. -/
def tallyOnceUptoRow : OpenClaim := { program := "ytnhonkgondljjaa", sum := "abd711489dfdbdde8dc2505cedf1006af2a66e860a49cf0226f2da04d412d153", func := "amnesia/amnesialaw08.TallyOnce", spec := "tallyOnce", inPlace := ["slices.overlaps[amnesia/tally.mark]", "slices.overlaps[amnesia/tally.ack]"], unfollowed := true, recurses := true, apart := false, narrowed := true }
def TallyOnceUptoSaid : Prop := tallyOnceUptoRow.holds Try.pinned (OpenSpec.upto tallyOnceSpec)

/-- 'amnesialaw08.TallyBallotsOnce', WHERE WHAT IT READS IS OF BULK AT MOST 1048576: true; the input reads as it did. -/
def tallyBallotsOnceUptoRow : OpenClaim := { program := "ytnhonkgondljjaa", sum := "abd711489dfdbdde8dc2505cedf1006af2a66e860a49cf0226f2da04d412d153", func := "amnesia/amnesialaw08.TallyBallotsOnce", spec := "tallyBallotsOnce", inPlace := ["slices.overlaps[amnesia/tally.mark]", "slices.overlaps[amnesia/tally.ballot]", "slices.overlaps[amnesia/tally.answer]"], unfollowed := true, recurses := true, apart := false, narrowed := true }
def TallyBallotsOnceUptoSaid : Prop := tallyBallotsOnceUptoRow.holds Try.pinned (OpenSpec.upto tallyBallotsOnceSpec)

/-- 'amnesialaw08.TallyPrunes', WHERE WHAT IT READS IS OF BULK AT MOST 1048576: true; the input reads as it did. -/
def tallyPrunesUptoRow : OpenClaim := { program := "ytnhonkgondljjaa", sum := "abd711489dfdbdde8dc2505cedf1006af2a66e860a49cf0226f2da04d412d153", func := "amnesia/amnesialaw08.TallyPrunes", spec := "tallyPrunes", inPlace := ["slices.overlaps[amnesia/tally.mark]", "slices.overlaps[amnesia/tally.ack]"], unfollowed := true, recurses := true, apart := false, narrowed := true }
def TallyPrunesUptoSaid : Prop := tallyPrunesUptoRow.holds Try.pinned (OpenSpec.upto tallyPrunesSpec)

/-- 'amnesialaw08.TallyQuorum', WHERE WHAT IT READS IS OF BULK AT MOST 1048576: true; the input reads as it did. -/
def tallyQuorumUptoRow : OpenClaim := { program := "ytnhonkgondljjaa", sum := "abd711489dfdbdde8dc2505cedf1006af2a66e860a49cf0226f2da04d412d153", func := "amnesia/amnesialaw08.TallyQuorum", spec := "tallyQuorum", inPlace := ["slices.overlaps[amnesia/tally.mark]", "slices.overlaps[amnesia/tally.ack]"], unfollowed := true, recurses := true, apart := false, narrowed := true }
def TallyQuorumUptoSaid : Prop := tallyQuorumUptoRow.holds Try.pinned (OpenSpec.upto tallyQuorumSpec)

/-- 'amnesialaw08.TallyChoice', WHERE WHAT IT READS IS OF BULK AT MOST 1048576: true; the input reads as it did. -/
def tallyChoiceUptoRow : OpenClaim := { program := "ytnhonkgondljjaa", sum := "abd711489dfdbdde8dc2505cedf1006af2a66e860a49cf0226f2da04d412d153", func := "amnesia/amnesialaw08.TallyChoice", spec := "tallyChoice", inPlace := ["slices.overlaps[amnesia/tally.mark]"], unfollowed := true, recurses := true, apart := false, narrowed := true }
def TallyChoiceUptoSaid : Prop := tallyChoiceUptoRow.holds Try.pinned (OpenSpec.upto tallyChoiceSpec)

/-- 'amnesialaw08.TallySettled', WHERE WHAT IT READS IS OF BULK AT MOST 1048576: true; the input reads as it did. -/
def tallySettledUptoRow : OpenClaim := { program := "ytnhonkgondljjaa", sum := "abd711489dfdbdde8dc2505cedf1006af2a66e860a49cf0226f2da04d412d153", func := "amnesia/amnesialaw08.TallySettled", spec := "tallySettled", inPlace := ["slices.overlaps[amnesia/tally.mark]", "slices.overlaps[amnesia/tally.answer]"], unfollowed := true, recurses := true, apart := false, narrowed := true }
def TallySettledUptoSaid : Prop := tallySettledUptoRow.holds Try.pinned (OpenSpec.upto tallySettledSpec)

/-- 'amnesialaw08.TallyMeet', WHERE WHAT IT READS IS OF BULK AT MOST 1048576: true; the input reads as it did. -/
def tallyMeetUptoRow : OpenClaim := { program := "ytnhonkgondljjaa", sum := "abd711489dfdbdde8dc2505cedf1006af2a66e860a49cf0226f2da04d412d153", func := "amnesia/amnesialaw08.TallyMeet", spec := "tallyMeet", inPlace := ["slices.overlaps[amnesia/tally.mark]", "slices.overlaps[amnesia/tally.answer]"], unfollowed := true, recurses := true, apart := false, narrowed := true }
def TallyMeetUptoSaid : Prop := tallyMeetUptoRow.holds Try.pinned (OpenSpec.upto tallyMeetSpec)

/-- 'amnesialaw08.TallyStays', WHERE WHAT IT READS IS OF BULK AT MOST 1048576: true; the input reads as it did. -/
def tallyStaysUptoRow : OpenClaim := { program := "ytnhonkgondljjaa", sum := "abd711489dfdbdde8dc2505cedf1006af2a66e860a49cf0226f2da04d412d153", func := "amnesia/amnesialaw08.TallyStays", spec := "tallyStays", inPlace := ["slices.overlaps[amnesia/tally.mark]", "slices.overlaps[amnesia/tally.ballot]"], unfollowed := true, recurses := true, apart := false, narrowed := true }
def TallyStaysUptoSaid : Prop := tallyStaysUptoRow.holds Try.pinned (OpenSpec.upto tallyStaysSpec)

end Rows
end Go.Proofs.Ytnhonkgondljjaa
