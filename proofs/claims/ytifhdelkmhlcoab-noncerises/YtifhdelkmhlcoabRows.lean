/-
  No cell of these rows narrows 'for every input' (looked for: loops, veiled, ifaces, maps, wideKeys, modest, calm, conditions, laid).
  DERIVED. THE GIVEN ROWS OF THIS SEAT. 4 by the template 'for every input the law returns true; each argument reads behind the call as it read before'; 0 by the template 'total and deterministic' (their statements: YtifhdelkmhlcoabTotals.lean).
  GIVEN WITH THE SEED: the statements are not yours to turn. If you find one false, say at which input.
  Laid BY PROGRAM, IN A SANDBOX (cutbox-rows.mjs): the forced cells as the released guide's own fill.sh prints them over the translation 21c4e99c3f4d9e2a… (all of the seat's roots in one cut). By AI agents, Wed Nov 11 2026. No macro, syntax, notation, axiom, sorry.
-/
import Derived.Test.YtifhdelkmhlcoabChecked
import GoSem.Claim
import GoSem.ClaimJoined
import GoSem.ClaimMapViews
import Derived.JoinedTies
import Derived.KernelRfl
namespace Go.Proofs.Ytifhdelkmhlcoab
/- THE CELL 'sum', in the pinned program and in every row, IS THE sha256 OF THE DUMP (.gsa) THAT YtifhdelkmhlcoabProg.lean LOADS. Nothing in Lean hashes anything: it is a label: what it is worth is what the hold of that sum in a sandbox is worth. -/
noncomputable def Try.pinned : Pinned := { name := "ytifhdelkmhlcoab", sum := "21c4e99c3f4d9e2a9bc8a5bd308c2c2edde6ba9ddcdcfd6b91ef24e68e5ae9ae", checked := Try.checked }
namespace Rows
def none {H : Type} : Left H := { results := [], args := [] }

/-- 'amnesialaw02.NonceGroups': WHATEVER THE INPUT: true; the input reads as it did. -/
def nonceGroupsSpec : ChangeSpec := { name := "nonceGroups", fn := fun _ => fun
  | [d1, d2, d3, d4] => { results := [.lit (.bool true)], args := [d1, d2, d3, d4] }
  | _ => none }
def nonceGroupsRow : OpenClaim := { program := "ytifhdelkmhlcoab", sum := "21c4e99c3f4d9e2a9bc8a5bd308c2c2edde6ba9ddcdcfd6b91ef24e68e5ae9ae", func := "amnesia/amnesialaw02.NonceGroups", spec := "nonceGroups", unfollowed := true, recurses := true, apart := false }
def NonceGroupsSaid : Prop := nonceGroupsRow.holds Try.pinned (OpenSpec.ofChange nonceGroupsSpec)

/-- ITS FALSE NEIGHBOUR: 'it returns false'. Refute it at one input. -/
def nonceGroupsWrong : ChangeSpec := { name := "nonceGroups", fn := fun _ => fun
  | [d1, d2, d3, d4] => { results := [.lit (.bool false)], args := [d1, d2, d3, d4] }
  | _ => none }
def NonceGroupsWrongFalsely : Prop := nonceGroupsRow.holds Try.pinned (OpenSpec.ofChange nonceGroupsWrong)

/-- 'amnesialaw02.NonceRises': WHATEVER THE INPUT: true; the input reads as it did. -/
def nonceRisesSpec : ChangeSpec := { name := "nonceRises", fn := fun _ => fun
  | [d1, d2] => { results := [.lit (.bool true)], args := [d1, d2] }
  | _ => none }
def nonceRisesRow : OpenClaim := { program := "ytifhdelkmhlcoab", sum := "21c4e99c3f4d9e2a9bc8a5bd308c2c2edde6ba9ddcdcfd6b91ef24e68e5ae9ae", func := "amnesia/amnesialaw02.NonceRises", spec := "nonceRises", apart := false }
def NonceRisesSaid : Prop := nonceRisesRow.holds Try.pinned (OpenSpec.ofChange nonceRisesSpec)

/-- ITS FALSE NEIGHBOUR: 'it returns false'. Refute it at one input. -/
def nonceRisesWrong : ChangeSpec := { name := "nonceRises", fn := fun _ => fun
  | [d1, d2] => { results := [.lit (.bool false)], args := [d1, d2] }
  | _ => none }
def NonceRisesWrongFalsely : Prop := nonceRisesRow.holds Try.pinned (OpenSpec.ofChange nonceRisesWrong)

/-- 'amnesialaw02.NonceGroupFresh': WHATEVER THE INPUT: true; the input reads as it did. -/
def nonceGroupFreshSpec : ChangeSpec := { name := "nonceGroupFresh", fn := fun _ => fun
  | [d1, d2, d3, d4] => { results := [.lit (.bool true)], args := [d1, d2, d3, d4] }
  | _ => none }
def nonceGroupFreshRow : OpenClaim := { program := "ytifhdelkmhlcoab", sum := "21c4e99c3f4d9e2a9bc8a5bd308c2c2edde6ba9ddcdcfd6b91ef24e68e5ae9ae", func := "amnesia/amnesialaw02.NonceGroupFresh", spec := "nonceGroupFresh", unfollowed := true, recurses := true, apart := false }
def NonceGroupFreshSaid : Prop := nonceGroupFreshRow.holds Try.pinned (OpenSpec.ofChange nonceGroupFreshSpec)

/-- ITS FALSE NEIGHBOUR: 'it returns false'. Refute it at one input. -/
def nonceGroupFreshWrong : ChangeSpec := { name := "nonceGroupFresh", fn := fun _ => fun
  | [d1, d2, d3, d4] => { results := [.lit (.bool false)], args := [d1, d2, d3, d4] }
  | _ => none }
def NonceGroupFreshWrongFalsely : Prop := nonceGroupFreshRow.holds Try.pinned (OpenSpec.ofChange nonceGroupFreshWrong)

/-- 'amnesialaw02.NonceAlone': WHATEVER THE INPUT: true; the input reads as it did. -/
def nonceAloneSpec : ChangeSpec := { name := "nonceAlone", fn := fun _ => fun
  | [d1, d2, d3] => { results := [.lit (.bool true)], args := [d1, d2, d3] }
  | _ => none }
def nonceAloneRow : OpenClaim := { program := "ytifhdelkmhlcoab", sum := "21c4e99c3f4d9e2a9bc8a5bd308c2c2edde6ba9ddcdcfd6b91ef24e68e5ae9ae", func := "amnesia/amnesialaw02.NonceAlone", spec := "nonceAlone", apart := false }
def NonceAloneSaid : Prop := nonceAloneRow.holds Try.pinned (OpenSpec.ofChange nonceAloneSpec)

/-- ITS FALSE NEIGHBOUR: 'it returns false'. Refute it at one input. -/
def nonceAloneWrong : ChangeSpec := { name := "nonceAlone", fn := fun _ => fun
  | [d1, d2, d3] => { results := [.lit (.bool false)], args := [d1, d2, d3] }
  | _ => none }
def NonceAloneWrongFalsely : Prop := nonceAloneRow.holds Try.pinned (OpenSpec.ofChange nonceAloneWrong)

/- THE SECOND FORM. 'bulk': how many values and letters a reading holds, each counted each time it is reached (what is shared counts as often as it is met; a slice's spare places count too). A statement '..UptoSaid' is the law's where the arguments, and the package variables that the reading takes, are together of bulk at most 1048576: NARROWER than '..Said'. Prove '..Said' where nothing that the law and all that it calls make is longer than what came in: it says more and counts as full. Else prove '..UptoSaid'. A law counts once. -/
mutual
def uptoBulk {H : Type} : DataW H → Nat
  | .lit (.string bytes) => bytes.length + 1
  | .lit _ => 1
  | .nil => 1
  | .ptr d => uptoBulk d + 1
  | .slice elems spare => uptoBulkAll elems + uptoBulkAll spare + 1
  | .agg parts => uptoBulkAll parts + 1
  | .iface _ d => uptoBulk d + 1
  | .map entries => uptoBulkEntries entries + 1
  | .held _ => 1
def uptoBulkAll {H : Type} : List (DataW H) → Nat
  | [] => 0
  | d :: r => uptoBulk d + uptoBulkAll r
def uptoBulkEntries {H : Type} : List (Lit × DataW H) → Nat
  | [] => 0
  | x :: r => uptoBulkEntry x + uptoBulkEntries r
def uptoBulkEntry {H : Type} : Lit × DataW H → Nat
  | (.string bytes, d) => bytes.length + uptoBulk d + 1
  | (_, d) => uptoBulk d + 1
 end
def uptoSmall : (H : Type) → List (DataW H) → Bool := fun _ ds => decide (uptoBulkAll ds ≤ 1048576)
def OpenSpec.upto (s : _root_.Go.ChangeSpec) : _root_.Go.OpenSpec := { _root_.Go.OpenSpec.ofChange s with cond := some uptoSmall }

/-- 'amnesialaw02.NonceGroups', WHERE WHAT IT READS IS OF BULK AT MOST 1048576: true; the input reads as it did. -/
def nonceGroupsUptoRow : OpenClaim := { program := "ytifhdelkmhlcoab", sum := "21c4e99c3f4d9e2a9bc8a5bd308c2c2edde6ba9ddcdcfd6b91ef24e68e5ae9ae", func := "amnesia/amnesialaw02.NonceGroups", spec := "nonceGroups", unfollowed := true, recurses := true, apart := false, narrowed := true }
def NonceGroupsUptoSaid : Prop := nonceGroupsUptoRow.holds Try.pinned (OpenSpec.upto nonceGroupsSpec)

/-- 'amnesialaw02.NonceRises', WHERE WHAT IT READS IS OF BULK AT MOST 1048576: true; the input reads as it did. -/
def nonceRisesUptoRow : OpenClaim := { program := "ytifhdelkmhlcoab", sum := "21c4e99c3f4d9e2a9bc8a5bd308c2c2edde6ba9ddcdcfd6b91ef24e68e5ae9ae", func := "amnesia/amnesialaw02.NonceRises", spec := "nonceRises", apart := false, narrowed := true }
def NonceRisesUptoSaid : Prop := nonceRisesUptoRow.holds Try.pinned (OpenSpec.upto nonceRisesSpec)

/-- 'amnesialaw02.NonceGroupFresh', WHERE WHAT IT READS IS OF BULK AT MOST 1048576: true; the input reads as it did. -/
def nonceGroupFreshUptoRow : OpenClaim := { program := "ytifhdelkmhlcoab", sum := "21c4e99c3f4d9e2a9bc8a5bd308c2c2edde6ba9ddcdcfd6b91ef24e68e5ae9ae", func := "amnesia/amnesialaw02.NonceGroupFresh", spec := "nonceGroupFresh", unfollowed := true, recurses := true, apart := false, narrowed := true }
def NonceGroupFreshUptoSaid : Prop := nonceGroupFreshUptoRow.holds Try.pinned (OpenSpec.upto nonceGroupFreshSpec)

/-- 'amnesialaw02.NonceAlone', WHERE WHAT IT READS IS OF BULK AT MOST 1048576: true; the input reads as it did. -/
def nonceAloneUptoRow : OpenClaim := { program := "ytifhdelkmhlcoab", sum := "21c4e99c3f4d9e2a9bc8a5bd308c2c2edde6ba9ddcdcfd6b91ef24e68e5ae9ae", func := "amnesia/amnesialaw02.NonceAlone", spec := "nonceAlone", apart := false, narrowed := true }
def NonceAloneUptoSaid : Prop := nonceAloneUptoRow.holds Try.pinned (OpenSpec.upto nonceAloneSpec)

end Rows
end Go.Proofs.Ytifhdelkmhlcoab
