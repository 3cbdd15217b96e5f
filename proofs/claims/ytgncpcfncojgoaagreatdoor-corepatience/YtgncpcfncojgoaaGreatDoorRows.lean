/-
  NARROWER THAN 'FOR EVERY INPUT', by the rows' own cells (each row's printed sentence says how): CoreConfigs: laid · CoreChecks: laid · CoreAdmits: laid · CoreCarries: laid · CoreSends: laid · CoreStands: laid · CoreKnows: laid · CoreVoices: laid · CorePatience: laid · CoreOwn: laid.
  DERIVED. THE GIVEN ROWS OF THIS SEAT. 10 by the template 'for every input the law returns true; each argument reads behind the call as it read before'; 0 by the template 'total and deterministic' (their statements: YtgncpcfncojgoaaGreatDoorTotals.lean).
  GIVEN WITH THE SEED: the statements are not yours to turn. If you find one false, say at which input.
  Laid BY PROGRAM, IN A SANDBOX (cutbox-rows.mjs): the forced cells as the released guide's own fill.sh prints them over the translation f46be5d1f7499bf2… (all of the seat's roots in one cut). By AI agents, Wed Nov 11 2026. No macro, syntax, notation, axiom, sorry.
-/
import Derived.Test.YtgncpcfncojgoaaGreatDoorChecked
import GoSem.Claim
import GoSem.ClaimJoined
import GoSem.ClaimMapViews
import Derived.JoinedTies
import Derived.KernelRfl
namespace Go.Proofs.YtgncpcfncojgoaaGreatDoor
/- THE CELL 'sum', in the pinned program and in every row, IS THE sha256 OF THE DUMP (.gsa) THAT YtgncpcfncojgoaaGreatDoorProg.lean LOADS. Nothing in Lean hashes anything: it is a label: what it is worth is what the hold of that sum in a sandbox is worth. -/
noncomputable def Tryz.pinned : Pinned := { name := "ytgncpcfncojgoaagreatdoor", sum := "f46be5d1f7499bf26fa965eb59323d7e45791ab3e175fd3a7afbcaa1b01666a7", checked := Tryz.checked }
namespace Rows
def none {H : Type} : Left H := { results := [], args := [] }

/- WHAT THE LISTED PACKAGE-LEVEL VARIABLES READ AS WHEN THE CALL BEGINS. Each datum BY PROGRAM (the guide's laid-datum.mjs) off the statement by which the dump's own 'gosem.cut.vars' lays the variable. In a bare row this is a premise. The card (YtgncpcfncojgoaaGreatDoorCards.lean) ties it to the program's text. -/
def laid_amnesia_message_table {H : Type} : DataW H := .agg [.agg [.lit (.int .u8 0), .lit (.int .u8 0), .lit (.int .u8 0), .lit (.int .u8 0), .lit (.int .u8 0), .lit (.int .u8 0), .lit (.int .u8 0), .lit (.int .u8 0), .lit (.int .u8 0), .lit (.int .u8 0)], .agg [.lit (.int .u8 0), .lit (.int .u8 0), .lit (.int .u8 0), .lit (.int .u8 0), .lit (.int .u8 0), .lit (.int .u8 0), .lit (.int .u8 13), .lit (.int .u8 0), .lit (.int .u8 0), .lit (.int .u8 0)], .agg [.lit (.int .u8 1), .lit (.int .u8 3), .lit (.int .u8 0), .lit (.int .u8 8), .lit (.int .u8 0), .lit (.int .u8 0), .lit (.int .u8 15), .lit (.int .u8 16), .lit (.int .u8 0), .lit (.int .u8 0)], .agg [.lit (.int .u8 2), .lit (.int .u8 3), .lit (.int .u8 0), .lit (.int .u8 7), .lit (.int .u8 9), .lit (.int .u8 0), .lit (.int .u8 13), .lit (.int .u8 0), .lit (.int .u8 0), .lit (.int .u8 20)], .agg [.lit (.int .u8 1), .lit (.int .u8 3), .lit (.int .u8 0), .lit (.int .u8 6), .lit (.int .u8 0), .lit (.int .u8 0), .lit (.int .u8 0), .lit (.int .u8 0), .lit (.int .u8 0), .lit (.int .u8 20)], .agg [.lit (.int .u8 2), .lit (.int .u8 3), .lit (.int .u8 0), .lit (.int .u8 0), .lit (.int .u8 9), .lit (.int .u8 0), .lit (.int .u8 0), .lit (.int .u8 0), .lit (.int .u8 0), .lit (.int .u8 20)], .agg [.lit (.int .u8 1), .lit (.int .u8 4), .lit (.int .u8 0), .lit (.int .u8 0), .lit (.int .u8 0), .lit (.int .u8 0), .lit (.int .u8 0), .lit (.int .u8 0), .lit (.int .u8 0), .lit (.int .u8 20)], .agg [.lit (.int .u8 1), .lit (.int .u8 4), .lit (.int .u8 5), .lit (.int .u8 0), .lit (.int .u8 10), .lit (.int .u8 0), .lit (.int .u8 0), .lit (.int .u8 0), .lit (.int .u8 18), .lit (.int .u8 20)], .agg [.lit (.int .u8 2), .lit (.int .u8 4), .lit (.int .u8 0), .lit (.int .u8 0), .lit (.int .u8 10), .lit (.int .u8 0), .lit (.int .u8 0), .lit (.int .u8 0), .lit (.int .u8 18), .lit (.int .u8 20)], .agg [.lit (.int .u8 1), .lit (.int .u8 0), .lit (.int .u8 0), .lit (.int .u8 0), .lit (.int .u8 0), .lit (.int .u8 12), .lit (.int .u8 0), .lit (.int .u8 0), .lit (.int .u8 0), .lit (.int .u8 20)], .agg [.lit (.int .u8 1), .lit (.int .u8 3), .lit (.int .u8 0), .lit (.int .u8 0), .lit (.int .u8 10), .lit (.int .u8 11), .lit (.int .u8 0), .lit (.int .u8 0), .lit (.int .u8 19), .lit (.int .u8 20)], .agg [.lit (.int .u8 1), .lit (.int .u8 3), .lit (.int .u8 0), .lit (.int .u8 0), .lit (.int .u8 0), .lit (.int .u8 0), .lit (.int .u8 0), .lit (.int .u8 0), .lit (.int .u8 0), .lit (.int .u8 20)], .agg [.lit (.int .u8 1), .lit (.int .u8 3), .lit (.int .u8 0), .lit (.int .u8 0), .lit (.int .u8 10), .lit (.int .u8 0), .lit (.int .u8 0), .lit (.int .u8 0), .lit (.int .u8 18), .lit (.int .u8 20)], .agg [.lit (.int .u8 0), .lit (.int .u8 0), .lit (.int .u8 0), .lit (.int .u8 6), .lit (.int .u8 0), .lit (.int .u8 0), .lit (.int .u8 14), .lit (.int .u8 0), .lit (.int .u8 0), .lit (.int .u8 0)], .agg [.lit (.int .u8 1), .lit (.int .u8 3), .lit (.int .u8 0), .lit (.int .u8 0), .lit (.int .u8 9), .lit (.int .u8 0), .lit (.int .u8 15), .lit (.int .u8 17), .lit (.int .u8 0), .lit (.int .u8 0)]]

/-- 'amnesialaw09.CoreConfigs': WHATEVER THE INPUT: true; the input reads as it did. -/
def coreConfigsSpec : ChangeSpec := { name := "coreConfigs", fn := fun _ => fun
  | [d1, d2, d3, d4] => { results := [.lit (.bool true)], args := [d1, d2, d3, d4] }
  | _ => none }
def coreConfigsRow : OpenClaim := { program := "ytgncpcfncojgoaagreatdoor", sum := "f46be5d1f7499bf26fa965eb59323d7e45791ab3e175fd3a7afbcaa1b01666a7", func := "amnesia/amnesialaw09.CoreConfigs", spec := "coreConfigs", unfollowed := true, recurses := true, named := ["amnesia/message.table"], apart := false, laid := [("amnesia/message.table", laid_amnesia_message_table)] }
def CoreConfigsSaid : Prop := coreConfigsRow.holds Tryz.pinned (OpenSpec.ofChange coreConfigsSpec)

/-- ITS FALSE NEIGHBOUR: 'it returns false'. Refute it at one input. -/
def coreConfigsWrong : ChangeSpec := { name := "coreConfigs", fn := fun _ => fun
  | [d1, d2, d3, d4] => { results := [.lit (.bool false)], args := [d1, d2, d3, d4] }
  | _ => none }
def CoreConfigsWrongFalsely : Prop := coreConfigsRow.holds Tryz.pinned (OpenSpec.ofChange coreConfigsWrong)

/-- 'amnesialaw09.CoreChecks': WHATEVER THE INPUT: true; the input reads as it did. -/
def coreChecksSpec : ChangeSpec := { name := "coreChecks", fn := fun _ => fun
  | [d1, d2, d3] => { results := [.lit (.bool true)], args := [d1, d2, d3] }
  | _ => none }
def coreChecksRow : OpenClaim := { program := "ytgncpcfncojgoaagreatdoor", sum := "f46be5d1f7499bf26fa965eb59323d7e45791ab3e175fd3a7afbcaa1b01666a7", func := "amnesia/amnesialaw09.CoreChecks", spec := "coreChecks", unfollowed := true, recurses := true, named := ["amnesia/message.table"], apart := false, laid := [("amnesia/message.table", laid_amnesia_message_table)] }
def CoreChecksSaid : Prop := coreChecksRow.holds Tryz.pinned (OpenSpec.ofChange coreChecksSpec)

/-- ITS FALSE NEIGHBOUR: 'it returns false'. Refute it at one input. -/
def coreChecksWrong : ChangeSpec := { name := "coreChecks", fn := fun _ => fun
  | [d1, d2, d3] => { results := [.lit (.bool false)], args := [d1, d2, d3] }
  | _ => none }
def CoreChecksWrongFalsely : Prop := coreChecksRow.holds Tryz.pinned (OpenSpec.ofChange coreChecksWrong)

/-- 'amnesialaw09.CoreAdmits': WHATEVER THE INPUT: true; the input reads as it did. -/
def coreAdmitsSpec : ChangeSpec := { name := "coreAdmits", fn := fun _ => fun
  | [d1, d2, d3] => { results := [.lit (.bool true)], args := [d1, d2, d3] }
  | _ => none }
def coreAdmitsRow : OpenClaim := { program := "ytgncpcfncojgoaagreatdoor", sum := "f46be5d1f7499bf26fa965eb59323d7e45791ab3e175fd3a7afbcaa1b01666a7", func := "amnesia/amnesialaw09.CoreAdmits", spec := "coreAdmits", unfollowed := true, recurses := true, named := ["amnesia/message.table"], apart := false, laid := [("amnesia/message.table", laid_amnesia_message_table)] }
def CoreAdmitsSaid : Prop := coreAdmitsRow.holds Tryz.pinned (OpenSpec.ofChange coreAdmitsSpec)

/-- ITS FALSE NEIGHBOUR: 'it returns false'. Refute it at one input. -/
def coreAdmitsWrong : ChangeSpec := { name := "coreAdmits", fn := fun _ => fun
  | [d1, d2, d3] => { results := [.lit (.bool false)], args := [d1, d2, d3] }
  | _ => none }
def CoreAdmitsWrongFalsely : Prop := coreAdmitsRow.holds Tryz.pinned (OpenSpec.ofChange coreAdmitsWrong)

/-- 'amnesialaw09.CoreCarries': WHATEVER THE INPUT: true; the input reads as it did. -/
def coreCarriesSpec : ChangeSpec := { name := "coreCarries", fn := fun _ => fun
  | [d1, d2, d3] => { results := [.lit (.bool true)], args := [d1, d2, d3] }
  | _ => none }
def coreCarriesRow : OpenClaim := { program := "ytgncpcfncojgoaagreatdoor", sum := "f46be5d1f7499bf26fa965eb59323d7e45791ab3e175fd3a7afbcaa1b01666a7", func := "amnesia/amnesialaw09.CoreCarries", spec := "coreCarries", unfollowed := true, recurses := true, named := ["amnesia/message.table"], apart := false, laid := [("amnesia/message.table", laid_amnesia_message_table)] }
def CoreCarriesSaid : Prop := coreCarriesRow.holds Tryz.pinned (OpenSpec.ofChange coreCarriesSpec)

/-- ITS FALSE NEIGHBOUR: 'it returns false'. Refute it at one input. -/
def coreCarriesWrong : ChangeSpec := { name := "coreCarries", fn := fun _ => fun
  | [d1, d2, d3] => { results := [.lit (.bool false)], args := [d1, d2, d3] }
  | _ => none }
def CoreCarriesWrongFalsely : Prop := coreCarriesRow.holds Tryz.pinned (OpenSpec.ofChange coreCarriesWrong)

/-- 'amnesialaw09.CoreSends': WHATEVER THE INPUT: true; the input reads as it did. -/
def coreSendsSpec : ChangeSpec := { name := "coreSends", fn := fun _ => fun
  | [d1, d2, d3, d4] => { results := [.lit (.bool true)], args := [d1, d2, d3, d4] }
  | _ => none }
def coreSendsRow : OpenClaim := { program := "ytgncpcfncojgoaagreatdoor", sum := "f46be5d1f7499bf26fa965eb59323d7e45791ab3e175fd3a7afbcaa1b01666a7", func := "amnesia/amnesialaw09.CoreSends", spec := "coreSends", unfollowed := true, recurses := true, named := ["amnesia/message.table"], apart := false, laid := [("amnesia/message.table", laid_amnesia_message_table)] }
def CoreSendsSaid : Prop := coreSendsRow.holds Tryz.pinned (OpenSpec.ofChange coreSendsSpec)

/-- ITS FALSE NEIGHBOUR: 'it returns false'. Refute it at one input. -/
def coreSendsWrong : ChangeSpec := { name := "coreSends", fn := fun _ => fun
  | [d1, d2, d3, d4] => { results := [.lit (.bool false)], args := [d1, d2, d3, d4] }
  | _ => none }
def CoreSendsWrongFalsely : Prop := coreSendsRow.holds Tryz.pinned (OpenSpec.ofChange coreSendsWrong)

/-- 'amnesialaw09.CoreStands': WHATEVER THE INPUT: true; the input reads as it did. -/
def coreStandsSpec : ChangeSpec := { name := "coreStands", fn := fun _ => fun
  | [d1, d2, d3, d4, d5] => { results := [.lit (.bool true)], args := [d1, d2, d3, d4, d5] }
  | _ => none }
def coreStandsRow : OpenClaim := { program := "ytgncpcfncojgoaagreatdoor", sum := "f46be5d1f7499bf26fa965eb59323d7e45791ab3e175fd3a7afbcaa1b01666a7", func := "amnesia/amnesialaw09.CoreStands", spec := "coreStands", unfollowed := true, recurses := true, named := ["amnesia/message.table"], apart := false, laid := [("amnesia/message.table", laid_amnesia_message_table)] }
def CoreStandsSaid : Prop := coreStandsRow.holds Tryz.pinned (OpenSpec.ofChange coreStandsSpec)

/-- ITS FALSE NEIGHBOUR: 'it returns false'. Refute it at one input. -/
def coreStandsWrong : ChangeSpec := { name := "coreStands", fn := fun _ => fun
  | [d1, d2, d3, d4, d5] => { results := [.lit (.bool false)], args := [d1, d2, d3, d4, d5] }
  | _ => none }
def CoreStandsWrongFalsely : Prop := coreStandsRow.holds Tryz.pinned (OpenSpec.ofChange coreStandsWrong)

/-- 'amnesialaw09.CoreKnows': WHATEVER THE INPUT: true; the input reads as it did. -/
def coreKnowsSpec : ChangeSpec := { name := "coreKnows", fn := fun _ => fun
  | [d1, d2, d3] => { results := [.lit (.bool true)], args := [d1, d2, d3] }
  | _ => none }
def coreKnowsRow : OpenClaim := { program := "ytgncpcfncojgoaagreatdoor", sum := "f46be5d1f7499bf26fa965eb59323d7e45791ab3e175fd3a7afbcaa1b01666a7", func := "amnesia/amnesialaw09.CoreKnows", spec := "coreKnows", unfollowed := true, recurses := true, named := ["amnesia/message.table"], apart := false, laid := [("amnesia/message.table", laid_amnesia_message_table)] }
def CoreKnowsSaid : Prop := coreKnowsRow.holds Tryz.pinned (OpenSpec.ofChange coreKnowsSpec)

/-- ITS FALSE NEIGHBOUR: 'it returns false'. Refute it at one input. -/
def coreKnowsWrong : ChangeSpec := { name := "coreKnows", fn := fun _ => fun
  | [d1, d2, d3] => { results := [.lit (.bool false)], args := [d1, d2, d3] }
  | _ => none }
def CoreKnowsWrongFalsely : Prop := coreKnowsRow.holds Tryz.pinned (OpenSpec.ofChange coreKnowsWrong)

/-- 'amnesialaw09.CoreVoices': WHATEVER THE INPUT: true; the input reads as it did. -/
def coreVoicesSpec : ChangeSpec := { name := "coreVoices", fn := fun _ => fun
  | [d1, d2, d3] => { results := [.lit (.bool true)], args := [d1, d2, d3] }
  | _ => none }
def coreVoicesRow : OpenClaim := { program := "ytgncpcfncojgoaagreatdoor", sum := "f46be5d1f7499bf26fa965eb59323d7e45791ab3e175fd3a7afbcaa1b01666a7", func := "amnesia/amnesialaw09.CoreVoices", spec := "coreVoices", unfollowed := true, recurses := true, named := ["amnesia/message.table"], apart := false, laid := [("amnesia/message.table", laid_amnesia_message_table)] }
def CoreVoicesSaid : Prop := coreVoicesRow.holds Tryz.pinned (OpenSpec.ofChange coreVoicesSpec)

/-- ITS FALSE NEIGHBOUR: 'it returns false'. Refute it at one input. -/
def coreVoicesWrong : ChangeSpec := { name := "coreVoices", fn := fun _ => fun
  | [d1, d2, d3] => { results := [.lit (.bool false)], args := [d1, d2, d3] }
  | _ => none }
def CoreVoicesWrongFalsely : Prop := coreVoicesRow.holds Tryz.pinned (OpenSpec.ofChange coreVoicesWrong)

/-- 'amnesialaw09.CorePatience': WHATEVER THE INPUT: true; the input reads as it did. -/
def corePatienceSpec : ChangeSpec := { name := "corePatience", fn := fun _ => fun
  | [d1, d2] => { results := [.lit (.bool true)], args := [d1, d2] }
  | _ => none }
def corePatienceRow : OpenClaim := { program := "ytgncpcfncojgoaagreatdoor", sum := "f46be5d1f7499bf26fa965eb59323d7e45791ab3e175fd3a7afbcaa1b01666a7", func := "amnesia/amnesialaw09.CorePatience", spec := "corePatience", unfollowed := true, recurses := true, named := ["amnesia/message.table"], apart := false, laid := [("amnesia/message.table", laid_amnesia_message_table)] }
def CorePatienceSaid : Prop := corePatienceRow.holds Tryz.pinned (OpenSpec.ofChange corePatienceSpec)

/-- ITS FALSE NEIGHBOUR: 'it returns false'. Refute it at one input. -/
def corePatienceWrong : ChangeSpec := { name := "corePatience", fn := fun _ => fun
  | [d1, d2] => { results := [.lit (.bool false)], args := [d1, d2] }
  | _ => none }
def CorePatienceWrongFalsely : Prop := corePatienceRow.holds Tryz.pinned (OpenSpec.ofChange corePatienceWrong)

/-- 'amnesialaw09.CoreOwn': WHATEVER THE INPUT: true; the input reads as it did. -/
def coreOwnSpec : ChangeSpec := { name := "coreOwn", fn := fun _ => fun
  | [d1, d2, d3, d4] => { results := [.lit (.bool true)], args := [d1, d2, d3, d4] }
  | _ => none }
def coreOwnRow : OpenClaim := { program := "ytgncpcfncojgoaagreatdoor", sum := "f46be5d1f7499bf26fa965eb59323d7e45791ab3e175fd3a7afbcaa1b01666a7", func := "amnesia/amnesialaw09.CoreOwn", spec := "coreOwn", unfollowed := true, recurses := true, named := ["amnesia/message.table"], apart := false, laid := [("amnesia/message.table", laid_amnesia_message_table)] }
def CoreOwnSaid : Prop := coreOwnRow.holds Tryz.pinned (OpenSpec.ofChange coreOwnSpec)

/-- ITS FALSE NEIGHBOUR: 'it returns false'. Refute it at one input. -/
def coreOwnWrong : ChangeSpec := { name := "coreOwn", fn := fun _ => fun
  | [d1, d2, d3, d4] => { results := [.lit (.bool false)], args := [d1, d2, d3, d4] }
  | _ => none }
def CoreOwnWrongFalsely : Prop := coreOwnRow.holds Tryz.pinned (OpenSpec.ofChange coreOwnWrong)

/- THE SECOND FORM. 'bulk': how many values and letters a reading holds, each counted each time it is reached (what is shared counts as often as it is met; a slice's spare places count too). A statement '..UptoSaid' is the law's where the arguments, and the package variables that the reading takes, are together of bulk at most 1048576: NARROWER than '..Said'. Prove '..Said' where nothing that the law and all that it calls make is longer than what came in: it says more and counts as full. Else prove '..UptoSaid'. A law counts once. -/
mutual
def uptoBulk {H : Type} : DataW H → Nat
  | .lit (.string bytes) => bytes.length + 1
  | .lit _ => 1
  | .nil => 1
  | .ptr d => uptoBulk d + 1
  | .slice elems spare => uptoBulkAll elems + uptoBulkAll spare + 1
  | .agg parts => uptoBulkAll parts + 1
  | .iface _ d => uptoBulk d + 1
  | .map entries => uptoBulkEntries entries + 1
  | .held _ => 1
def uptoBulkAll {H : Type} : List (DataW H) → Nat
  | [] => 0
  | d :: r => uptoBulk d + uptoBulkAll r
def uptoBulkEntries {H : Type} : List (Lit × DataW H) → Nat
  | [] => 0
  | x :: r => uptoBulkEntry x + uptoBulkEntries r
def uptoBulkEntry {H : Type} : Lit × DataW H → Nat
  | (.string bytes, d) => bytes.length + uptoBulk d + 1
  | (_, d) => uptoBulk d + 1
 end
def uptoSmall : (H : Type) → List (DataW H) → Bool := fun _ ds => decide (uptoBulkAll ds ≤ 1048576)
def OpenSpec.upto (s : _root_.Go.ChangeSpec) : _root_.Go.OpenSpec := { _root_.Go.OpenSpec.ofChange s with cond := some uptoSmall }

/-- 'amnesialaw09.CoreConfigs', WHERE WHAT IT READS IS OF BULK AT MOST 1048576: true; the input reads as it did. -/
def coreConfigsUptoRow : OpenClaim := { program := "ytgncpcfncojgoaagreatdoor", sum := "f46be5d1f7499bf26fa965eb59323d7e45791ab3e175fd3a7afbcaa1b01666a7", func := "amnesia/amnesialaw09.CoreConfigs", spec := "coreConfigs", unfollowed := true, recurses := true, named := ["amnesia/message.table"], apart := false, laid := [("amnesia/message.table", laid_amnesia_message_table)], narrowed := true }
def CoreConfigsUptoSaid : Prop := coreConfigsUptoRow.holds Tryz.pinned (OpenSpec.upto coreConfigsSpec)

/-- 'amnesialaw09.CoreChecks', WHERE WHAT IT READS IS OF BULK AT MOST 1048576: true; the input reads as it did. -/
def coreChecksUptoRow : OpenClaim := { program := "ytgncpcfncojgoaagreatdoor", sum := "f46be5d1f7499bf26fa965eb59323d7e45791ab3e175fd3a7afbcaa1b01666a7", func := "amnesia/amnesialaw09.CoreChecks", spec := "coreChecks", unfollowed := true, recurses := true, named := ["amnesia/message.table"], apart := false, laid := [("amnesia/message.table", laid_amnesia_message_table)], narrowed := true }
def CoreChecksUptoSaid : Prop := coreChecksUptoRow.holds Tryz.pinned (OpenSpec.upto coreChecksSpec)

/-- 'amnesialaw09.CoreAdmits', WHERE WHAT IT READS IS OF BULK AT MOST 1048576: true; the input reads as it did. -/
def coreAdmitsUptoRow : OpenClaim := { program := "ytgncpcfncojgoaagreatdoor", sum := "f46be5d1f7499bf26fa965eb59323d7e45791ab3e175fd3a7afbcaa1b01666a7", func := "amnesia/amnesialaw09.CoreAdmits", spec := "coreAdmits", unfollowed := true, recurses := true, named := ["amnesia/message.table"], apart := false, laid := [("amnesia/message.table", laid_amnesia_message_table)], narrowed := true }
def CoreAdmitsUptoSaid : Prop := coreAdmitsUptoRow.holds Tryz.pinned (OpenSpec.upto coreAdmitsSpec)

/-- 'amnesialaw09.CoreCarries', WHERE WHAT IT READS IS OF BULK AT MOST 1048576: true; the input reads as it did. -/
def coreCarriesUptoRow : OpenClaim := { program := "ytgncpcfncojgoaagreatdoor", sum := "f46be5d1f7499bf26fa965eb59323d7e45791ab3e175fd3a7afbcaa1b01666a7", func := "amnesia/amnesialaw09.CoreCarries", spec := "coreCarries", unfollowed := true, recurses := true, named := ["amnesia/message.table"], apart := false, laid := [("amnesia/message.table", laid_amnesia_message_table)], narrowed := true }
def CoreCarriesUptoSaid : Prop := coreCarriesUptoRow.holds Tryz.pinned (OpenSpec.upto coreCarriesSpec)

/-- 'amnesialaw09.CoreSends', WHERE WHAT IT READS IS OF BULK AT MOST 1048576: true; the input reads as it did. -/
def coreSendsUptoRow : OpenClaim := { program := "ytgncpcfncojgoaagreatdoor", sum := "f46be5d1f7499bf26fa965eb59323d7e45791ab3e175fd3a7afbcaa1b01666a7", func := "amnesia/amnesialaw09.CoreSends", spec := "coreSends", unfollowed := true, recurses := true, named := ["amnesia/message.table"], apart := false, laid := [("amnesia/message.table", laid_amnesia_message_table)], narrowed := true }
def CoreSendsUptoSaid : Prop := coreSendsUptoRow.holds Tryz.pinned (OpenSpec.upto coreSendsSpec)

/-- 'amnesialaw09.CoreStands', WHERE WHAT IT READS IS OF BULK AT MOST 1048576: true; the input reads as it did. -/
def coreStandsUptoRow : OpenClaim := { program := "ytgncpcfncojgoaagreatdoor", sum := "f46be5d1f7499bf26fa965eb59323d7e45791ab3e175fd3a7afbcaa1b01666a7", func := "amnesia/amnesialaw09.CoreStands", spec := "coreStands", unfollowed := true, recurses := true, named := ["amnesia/message.table"], apart := false, laid := [("amnesia/message.table", laid_amnesia_message_table)], narrowed := true }
def CoreStandsUptoSaid : Prop := coreStandsUptoRow.holds Tryz.pinned (OpenSpec.upto coreStandsSpec)

/-- 'amnesialaw09.CoreKnows', WHERE WHAT IT READS IS OF BULK AT MOST 1048576: true; the input reads as it did. -/
def coreKnowsUptoRow : OpenClaim := { program := "ytgncpcfncojgoaagreatdoor", sum := "f46be5d1f7499bf26fa965eb59323d7e45791ab3e175fd3a7afbcaa1b01666a7", func := "amnesia/amnesialaw09.CoreKnows", spec := "coreKnows", unfollowed := true, recurses := true, named := ["amnesia/message.table"], apart := false, laid := [("amnesia/message.table", laid_amnesia_message_table)], narrowed := true }
def CoreKnowsUptoSaid : Prop := coreKnowsUptoRow.holds Tryz.pinned (OpenSpec.upto coreKnowsSpec)

/-- 'amnesialaw09.CoreVoices', WHERE WHAT IT READS IS OF BULK AT MOST 1048576: true; the input reads as it did. -/
def coreVoicesUptoRow : OpenClaim := { program := "ytgncpcfncojgoaagreatdoor", sum := "f46be5d1f7499bf26fa965eb59323d7e45791ab3e175fd3a7afbcaa1b01666a7", func := "amnesia/amnesialaw09.CoreVoices", spec := "coreVoices", unfollowed := true, recurses := true, named := ["amnesia/message.table"], apart := false, laid := [("amnesia/message.table", laid_amnesia_message_table)], narrowed := true }
def CoreVoicesUptoSaid : Prop := coreVoicesUptoRow.holds Tryz.pinned (OpenSpec.upto coreVoicesSpec)

/-- 'amnesialaw09.CorePatience', WHERE WHAT IT READS IS OF BULK AT MOST 1048576: true; the input reads as it did. -/
def corePatienceUptoRow : OpenClaim := { program := "ytgncpcfncojgoaagreatdoor", sum := "f46be5d1f7499bf26fa965eb59323d7e45791ab3e175fd3a7afbcaa1b01666a7", func := "amnesia/amnesialaw09.CorePatience", spec := "corePatience", unfollowed := true, recurses := true, named := ["amnesia/message.table"], apart := false, laid := [("amnesia/message.table", laid_amnesia_message_table)], narrowed := true }
def CorePatienceUptoSaid : Prop := corePatienceUptoRow.holds Tryz.pinned (OpenSpec.upto corePatienceSpec)

/-- 'amnesialaw09.CoreOwn', WHERE WHAT IT READS IS OF BULK AT MOST 1048576: true; the input reads as it did. -/
def coreOwnUptoRow : OpenClaim := { program := "ytgncpcfncojgoaagreatdoor", sum := "f46be5d1f7499bf26fa965eb59323d7e45791ab3e175fd3a7afbcaa1b01666a7", func := "amnesia/amnesialaw09.CoreOwn", spec := "coreOwn", unfollowed := true, recurses := true, named := ["amnesia/message.table"], apart := false, laid := [("amnesia/message.table", laid_amnesia_message_table)], narrowed := true }
def CoreOwnUptoSaid : Prop := coreOwnUptoRow.holds Tryz.pinned (OpenSpec.upto coreOwnSpec)

end Rows
end Go.Proofs.YtgncpcfncojgoaaGreatDoor
