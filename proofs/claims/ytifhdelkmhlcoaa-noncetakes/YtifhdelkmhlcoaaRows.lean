/-
  No cell of these rows narrows 'for every input' (looked for: loops, veiled, ifaces, maps, wideKeys, modest, calm, conditions, laid).
  DERIVED. THE GIVEN ROWS OF THIS SEAT. 5 by the template 'for every input the law returns true; each argument reads behind the call as it read before'; 0 by the template 'total and deterministic' (their statements: YtifhdelkmhlcoaaTotals.lean).
  GIVEN WITH THE SEED: the statements are not yours to turn. If you find one false, say at which input.
  Laid BY PROGRAM, IN A SANDBOX (cutbox-rows.mjs): the forced cells as the released guide's own fill.sh prints them over the translation 7264c5ddd5aa0e9a… (all of the seat's roots in one cut). By AI agents, Wed Nov 11 2026. No macro, syntax, notation, axiom, sorry.
-/
import Derived.Test.YtifhdelkmhlcoaaChecked
import GoSem.Claim
import GoSem.ClaimJoined
import GoSem.ClaimMapViews
import Derived.JoinedTies
import Derived.KernelRfl
namespace Go.Proofs.Ytifhdelkmhlcoaa
/- THE CELL 'sum', in the pinned program and in every row, IS THE sha256 OF THE DUMP (.gsa) THAT YtifhdelkmhlcoaaProg.lean LOADS. Nothing in Lean hashes anything: it is a label: what it is worth is what the hold of that sum in a sandbox is worth. -/
noncomputable def Try.pinned : Pinned := { name := "ytifhdelkmhlcoaa", sum := "7264c5ddd5aa0e9a3764d2fa113299ffcdc8bfc5b597c78820b0f91d398882ae", checked := Try.checked }
namespace Rows
def none {H : Type} : Left H := { results := [], args := [] }

/-- 'amnesialaw02.NonceOrders': WHATEVER THE INPUT: true; the input reads as it did. -/
def nonceOrdersSpec : ChangeSpec := { name := "nonceOrders", fn := fun _ => fun
  | [d1, d2] => { results := [.lit (.bool true)], args := [d1, d2] }
  | _ => none }
def nonceOrdersRow : OpenClaim := { program := "ytifhdelkmhlcoaa", sum := "7264c5ddd5aa0e9a3764d2fa113299ffcdc8bfc5b597c78820b0f91d398882ae", func := "amnesia/amnesialaw02.NonceOrders", spec := "nonceOrders", apart := false }
def NonceOrdersSaid : Prop := nonceOrdersRow.holds Try.pinned (OpenSpec.ofChange nonceOrdersSpec)

/-- ITS FALSE NEIGHBOUR: 'it returns false'. Refute it at one input. -/
def nonceOrdersWrong : ChangeSpec := { name := "nonceOrders", fn := fun _ => fun
  | [d1, d2] => { results := [.lit (.bool false)], args := [d1, d2] }
  | _ => none }
def NonceOrdersWrongFalsely : Prop := nonceOrdersRow.holds Try.pinned (OpenSpec.ofChange nonceOrdersWrong)

/-- 'amnesialaw02.NonceSources': WHATEVER THE INPUT: true; the input reads as it did. -/
def nonceSourcesSpec : ChangeSpec := { name := "nonceSources", fn := fun _ => fun
  | [d1, d2, d3, d4] => { results := [.lit (.bool true)], args := [d1, d2, d3, d4] }
  | _ => none }
def nonceSourcesRow : OpenClaim := { program := "ytifhdelkmhlcoaa", sum := "7264c5ddd5aa0e9a3764d2fa113299ffcdc8bfc5b597c78820b0f91d398882ae", func := "amnesia/amnesialaw02.NonceSources", spec := "nonceSources", apart := false }
def NonceSourcesSaid : Prop := nonceSourcesRow.holds Try.pinned (OpenSpec.ofChange nonceSourcesSpec)

/-- ITS FALSE NEIGHBOUR: 'it returns false'. Refute it at one input. -/
def nonceSourcesWrong : ChangeSpec := { name := "nonceSources", fn := fun _ => fun
  | [d1, d2, d3, d4] => { results := [.lit (.bool false)], args := [d1, d2, d3, d4] }
  | _ => none }
def NonceSourcesWrongFalsely : Prop := nonceSourcesRow.holds Try.pinned (OpenSpec.ofChange nonceSourcesWrong)

/-- 'amnesialaw02.NonceCounts': WHATEVER THE INPUT: true; the input reads as it did. -/
def nonceCountsSpec : ChangeSpec := { name := "nonceCounts", fn := fun _ => fun
  | [d1, d2] => { results := [.lit (.bool true)], args := [d1, d2] }
  | _ => none }
def nonceCountsRow : OpenClaim := { program := "ytifhdelkmhlcoaa", sum := "7264c5ddd5aa0e9a3764d2fa113299ffcdc8bfc5b597c78820b0f91d398882ae", func := "amnesia/amnesialaw02.NonceCounts", spec := "nonceCounts", unfollowed := true, recurses := true, apart := false }
def NonceCountsSaid : Prop := nonceCountsRow.holds Try.pinned (OpenSpec.ofChange nonceCountsSpec)

/-- ITS FALSE NEIGHBOUR: 'it returns false'. Refute it at one input. -/
def nonceCountsWrong : ChangeSpec := { name := "nonceCounts", fn := fun _ => fun
  | [d1, d2] => { results := [.lit (.bool false)], args := [d1, d2] }
  | _ => none }
def NonceCountsWrongFalsely : Prop := nonceCountsRow.holds Try.pinned (OpenSpec.ofChange nonceCountsWrong)

/-- 'amnesialaw02.NonceTakes': WHATEVER THE INPUT: true; the input reads as it did. -/
def nonceTakesSpec : ChangeSpec := { name := "nonceTakes", fn := fun _ => fun
  | [d1, d2, d3] => { results := [.lit (.bool true)], args := [d1, d2, d3] }
  | _ => none }
def nonceTakesRow : OpenClaim := { program := "ytifhdelkmhlcoaa", sum := "7264c5ddd5aa0e9a3764d2fa113299ffcdc8bfc5b597c78820b0f91d398882ae", func := "amnesia/amnesialaw02.NonceTakes", spec := "nonceTakes", unfollowed := true, recurses := true, apart := false }
def NonceTakesSaid : Prop := nonceTakesRow.holds Try.pinned (OpenSpec.ofChange nonceTakesSpec)

/-- ITS FALSE NEIGHBOUR: 'it returns false'. Refute it at one input. -/
def nonceTakesWrong : ChangeSpec := { name := "nonceTakes", fn := fun _ => fun
  | [d1, d2, d3] => { results := [.lit (.bool false)], args := [d1, d2, d3] }
  | _ => none }
def NonceTakesWrongFalsely : Prop := nonceTakesRow.holds Try.pinned (OpenSpec.ofChange nonceTakesWrong)

/-- 'amnesialaw02.NonceFreshes': WHATEVER THE INPUT: true; the input reads as it did. -/
def nonceFreshesSpec : ChangeSpec := { name := "nonceFreshes", fn := fun _ => fun
  | [d] => { results := [.lit (.bool true)], args := [d] }
  | _ => none }
def nonceFreshesRow : OpenClaim := { program := "ytifhdelkmhlcoaa", sum := "7264c5ddd5aa0e9a3764d2fa113299ffcdc8bfc5b597c78820b0f91d398882ae", func := "amnesia/amnesialaw02.NonceFreshes", spec := "nonceFreshes", apart := false }
def NonceFreshesSaid : Prop := nonceFreshesRow.holds Try.pinned (OpenSpec.ofChange nonceFreshesSpec)

/-- ITS FALSE NEIGHBOUR: 'it returns false'. Refute it at one input. -/
def nonceFreshesWrong : ChangeSpec := { name := "nonceFreshes", fn := fun _ => fun
  | [d] => { results := [.lit (.bool false)], args := [d] }
  | _ => none }
def NonceFreshesWrongFalsely : Prop := nonceFreshesRow.holds Try.pinned (OpenSpec.ofChange nonceFreshesWrong)

/- THE SECOND FORM. 'bulk': how many values and letters a reading holds, each counted each time it is reached (what is shared counts as often as it is met; a slice's spare places count too). A statement '..UptoSaid' is the law's where the arguments, and the package variables that the reading takes, are together of bulk at most 1048576: NARROWER than '..Said'. Prove '..Said' where nothing that the law and all that it calls make is longer than what came in: it says more and counts as full. Else prove '..UptoSaid'. A law counts once. -/
mutual
def uptoBulk {H : Type} : DataW H → Nat
  | .lit (.string bytes) => bytes.length + 1
  | .lit _ => 1
  | .nil => 1
  | .ptr d => uptoBulk d + 1
  | .slice elems spare => uptoBulkAll elems + uptoBulkAll spare + 1
  | .agg parts => uptoBulkAll parts + 1
  | .iface _ d => uptoBulk d + 1
  | .map entries => uptoBulkEntries entries + 1
  | .held _ => 1
def uptoBulkAll {H : Type} : List (DataW H) → Nat
  | [] => 0
  | d :: r => uptoBulk d + uptoBulkAll r
def uptoBulkEntries {H : Type} : List (Lit × DataW H) → Nat
  | [] => 0
  | x :: r => uptoBulkEntry x + uptoBulkEntries r
def uptoBulkEntry {H : Type} : Lit × DataW H → Nat
  | (.string bytes, d) => bytes.length + uptoBulk d + 1
  | (_, d) => uptoBulk d + 1
 end
def uptoSmall : (H : Type) → List (DataW H) → Bool := fun _ ds => decide (uptoBulkAll ds ≤ 1048576)
def OpenSpec.upto (s : _root_.Go.ChangeSpec) : _root_.Go.OpenSpec := { _root_.Go.OpenSpec.ofChange s with cond := some uptoSmall }

/-- 'amnesialaw02.NonceOrders', WHERE WHAT IT READS IS OF BULK AT MOST 1048576: true; the input reads as it did. -/
def nonceOrdersUptoRow : OpenClaim := { program := "ytifhdelkmhlcoaa", sum := "7264c5ddd5aa0e9a3764d2fa113299ffcdc8bfc5b597c78820b0f91d398882ae", func := "amnesia/amnesialaw02.NonceOrders", spec := "nonceOrders", apart := false, narrowed := true }
def NonceOrdersUptoSaid : Prop := nonceOrdersUptoRow.holds Try.pinned (OpenSpec.upto nonceOrdersSpec)

/-- 'amnesialaw02.NonceSources', WHERE WHAT IT READS IS OF BULK AT MOST 1048576: true; the input reads as it did. -/
def nonceSourcesUptoRow : OpenClaim := { program := "ytifhdelkmhlcoaa", sum := "7264c5ddd5aa0e9a3764d2fa113299ffcdc8bfc5b597c78820b0f91d398882ae", func := "amnesia/amnesialaw02.NonceSources", spec := "nonceSources", apart := false, narrowed := true }
def NonceSourcesUptoSaid : Prop := nonceSourcesUptoRow.holds Try.pinned (OpenSpec.upto nonceSourcesSpec)

/-- 'amnesialaw02.NonceCounts', WHERE WHAT IT READS IS OF BULK AT MOST 1048576: true; the input reads as it did. -/
def nonceCountsUptoRow : OpenClaim := { program := "ytifhdelkmhlcoaa", sum := "7264c5ddd5aa0e9a3764d2fa113299ffcdc8bfc5b597c78820b0f91d398882ae", func := "amnesia/amnesialaw02.NonceCounts", spec := "nonceCounts", unfollowed := true, recurses := true, apart := false, narrowed := true }
def NonceCountsUptoSaid : Prop := nonceCountsUptoRow.holds Try.pinned (OpenSpec.upto nonceCountsSpec)

/-- 'amnesialaw02.NonceTakes', WHERE WHAT IT READS IS OF BULK AT MOST 1048576: true; the input reads as it did. -/
def nonceTakesUptoRow : OpenClaim := { program := "ytifhdelkmhlcoaa", sum := "7264c5ddd5aa0e9a3764d2fa113299ffcdc8bfc5b597c78820b0f91d398882ae", func := "amnesia/amnesialaw02.NonceTakes", spec := "nonceTakes", unfollowed := true, recurses := true, apart := false, narrowed := true }
def NonceTakesUptoSaid : Prop := nonceTakesUptoRow.holds Try.pinned (OpenSpec.upto nonceTakesSpec)

/-- 'amnesialaw02.NonceFreshes', WHERE WHAT IT READS IS OF BULK AT MOST 1048576: true; the input reads as it did. -/
def nonceFreshesUptoRow : OpenClaim := { program := "ytifhdelkmhlcoaa", sum := "7264c5ddd5aa0e9a3764d2fa113299ffcdc8bfc5b597c78820b0f91d398882ae", func := "amnesia/amnesialaw02.NonceFreshes", spec := "nonceFreshes", apart := false, narrowed := true }
def NonceFreshesUptoSaid : Prop := nonceFreshesUptoRow.holds Try.pinned (OpenSpec.upto nonceFreshesSpec)

end Rows
end Go.Proofs.Ytifhdelkmhlcoaa
