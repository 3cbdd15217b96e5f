import Derived.Test.YtacalgpdhgpmbaaMw
import Derived.Test.YtacalgpdhgpmbaaGLo
import Derived.Below
import Derived.ChangeOld
import Derived.JoinedCond
import Derived.WalkKit
import Derived.ProofKit
import Derived.OpenShut
namespace Go.Proofs.Ytacalgpdhgpmbaa.ledgerOneUpto
open Go.ChangeShapes Go.WideShapes Go.ChangeAt Go.RowKit
set_option linter.unusedVariables false

theorem own : ownKnob Try.prog.godebug = none := by kernel_rfl
theorem laidOut : laidOutB Try.prog = true := by kernel_rfl

theorem bound {H : Type} {ds : List (DataW H)} (h : Rows.uptoSmall H ds = true) : Rows.uptoBulkAll ds ≤ 1048576 := by
  unfold Rows.uptoSmall at h
  exact of_decide_eq_true h

set_option maxRecDepth 100000 in
theorem contract (H : Type) (enc : TypeId × Value → H) (W : World) (base : Nat) (args : Array Value) (ds gs : List (DataW H)) (before : List MemPlace)
    (hval : ∀ (j : Nat) t v, Try.f9.params[j]? = some t → args[j]? = some v → Value.okWide Try.prog W .any base t v)
    (hW : DataW.Whole enc Try.prog Try.f9.params.toList Rows.ledgerOneSpec.vars false W args.toList ds gs before) (hk : Rows.uptoSmall H (ds ++ gs) = true) :
    Calls Try.prog 9 args W fun e W' => ∃ v, e = .returned v ∧ Rows.ledgerOneSpec.post enc Try.prog Try.f9 false true false false W args v W' := by
  have hW' := hW
  obtain ⟨p, q, hA0, hV, rfl, hfz, hnd⟩ := hW
  have hA : DataW.TrodAll enc Try.prog W 0 (fun _ => true) true Try.f9.params.toList args.toList ds p := hA0
  rw [Try.params9] at hA hval
  obtain ⟨v0, vs0, d0, ds0, p0, q0, hargs, rfl, rfl, h0, r0⟩ := trodAll_cons hA
  obtain ⟨v1, vs1, d1, ds1, p1, q1, rfl, rfl, rfl, h1, r1⟩ := trodAll_cons r0
  obtain ⟨rfl, rfl, rfl⟩ := trodAll_nil r1
  obtain rfl : args = #[v0, v1] := by clear hk; cases args; simp_all
  obtain ⟨rfl, rfl⟩ := trodVars_none hV
  have k0 := h0
  have k1 := h1
  have lt0 : ∀ x ∈ p0, x.block < W.heap.size := by obtain ⟨m, hm⟩ := k0; exact DataW.trod_lt m _ _ _ hm
  have lt1 : ∀ x ∈ p1, x.block < W.heap.size := by obtain ⟨m, hm⟩ := k1; exact DataW.trod_lt m _ _ _ hm
  have hb := bound hk
  rw [List.append_nil] at hb
  simp only [Rows.uptoBulkAll] at hb
  have s0 : ∀ el sp, d0 = .slice el sp → el.length + sp.length ≤ 1048576 := fun el sp e => by
    have x1 := bulk_len el
    have x2 := bulk_len sp
    rw [e] at hb
    simp only [Rows.uptoBulk] at hb
    omega
  have s1 : ∀ el sp, d1 = .slice el sp → el.length + sp.length ≤ 1048576 := fun el sp e => by
    have x1 := bulk_len el
    have x2 := bulk_len sp
    rw [e] at hb
    simp only [Rows.uptoBulk] at hb
    omega
  have t0 : ∀ el sp, d0 = .slice el sp → (el.length + sp.length) * Try.prog.bytesOf 23 ≤ reachBytes := fun el sp e => by
    have := s0 el sp e
    rw [opBytes]
    unfold reachBytes
    omega
  have t1 : ∀ el sp, d1 = .slice el sp → (el.length + sp.length) * Try.prog.bytesOf 23 ≤ reachBytes := fun el sp e => by
    have := s1 el sp e
    rw [opBytes]
    unfold reachBytes
    omega
  obtain ⟨a0, len0, cap0, rfl, w0⟩ := open_opsN (hval 0 29 v0 rfl rfl) h0 t0
  obtain ⟨a1, len1, cap1, rfl, w1⟩ := open_opsN (hval 1 29 v1 rfl rfl) h1 t1
  have z0 := len_trod k0 s0
  have z1 := len_trod k1 s1
  clear hA0
  simp only [List.append_nil] at hW'
  refine (one_came a0 len0 cap0 a1 len1 cap1 W w0 w1 z0 z1).mono fun e W' ⟨he, bel⟩ => ?_
  subst he
  exact ⟨_, rfl, _, _, _, [], _, [], hW', trodAll_mk1 (shut_bool Try.underlying4 _), (trodAll_cons_mk (Below.trod laidOut (by kernel_rfl) (of_decide_eq_true (by kernel_rfl)) k0 bel lt0) (trodAll_cons_mk (Below.trod laidOut (by kernel_rfl) (of_decide_eq_true (by kernel_rfl)) k1 bel lt1) trodAll_mk0)), rfl, bel.frame _, fun h => by cases h⟩

set_option maxRecDepth 100000 in
theorem lifted (os : Os) (started : os.Started) (H : Type) (enc : TypeId × Value → H) (F : Stop.Interp) :
    ReturnsInHanded {} Try.checked os 9 .any ((Rows.OpenSpec.upto Rows.ledgerOneSpec).pre6 enc Try.prog Try.f9 Rows.ledgerOneUptoRow.domain false) (((Rows.OpenSpec.upto Rows.ledgerOneSpec).at F).post enc Try.prog Try.f9 false true false false) := by
  refine returnsInHanded_of_cond (C := Try.checked) (s := Rows.OpenSpec.upto Rows.ledgerOneSpec) (k := Rows.uptoSmall) rfl own started (by kernel_rfl) Try.func9
    (OpenSpec.witness (enc := enc) (C := Try.checked) (s := Rows.OpenSpec.upto Rows.ledgerOneSpec) (k := Rows.uptoSmall) rfl false ⟨#[], #[.slice none 0 0, .slice none 0 0], []⟩ 8 (by kernel_rfl) (by kernel_rfl) (by kernel_rfl)
      (x := ([.nil, .nil], [], [])) (by kernel_rfl) rfl (by kernel_rfl)) ?_
  intro W base args ds gs before hval hW _ hk _
  exact contract H enc W base args ds gs before hval hW hk

theorem proved : Rows.LedgerOneUptoSaid :=
  OpenClaim.holds_of_cond 9 Try.f9 rfl rfl rfl rfl rfl rfl rfl ⟨rfl, rfl, rfl, rfl, rfl⟩ rfl rfl rfl rfl rfl (by kernel_rfl) Try.func9 (by kernel_rfl)
    (of_decide_eq_true (by kernel_rfl)) (by unfold Func.isWrapper; first | (rw [if_pos (by decide +kernel)]; kernel_rfl) | (rw [if_neg (by decide +kernel)]; exact ⟨rfl, rfl⟩))
    (fun os started H enc _ F => lifted os started H enc F)
end Go.Proofs.Ytacalgpdhgpmbaa.ledgerOneUpto
namespace Go.Proofs.Ytacalgpdhgpmbaa
open Classical
theorem ledgerOneUpto_holds : Rows.LedgerOneUptoSaid := ledgerOneUpto.proved
#print axioms ledgerOneUpto_holds
end Go.Proofs.Ytacalgpdhgpmbaa
