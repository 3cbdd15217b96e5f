import Derived.Test.YtdgelllmngdpkaaLn2
import Derived.Test.YtdgelllmngdpkaaEq
import Derived.Test.YtdgelllmngdpkaaDx
import Derived.Test.YtdgelllmngdpkaaRq9
namespace Go.Proofs.Ytdgelllmngdpkaa
open Go.RowKit
set_option linter.unusedVariables false
set_option linter.unusedSimpArgs false

theorem neqDr9 (h l h' l' : Int) (A B : Nat) (w : World) : (do eqGuard .neq 44 (.tmp A) (.tmp B) (.agg #[.int .u64 h, .int .u64 l]) (.agg #[.int .u64 h', .int .u64 l']); binOp .neq 44 (.agg #[.int .u64 h, .int .u64 l]) (.agg #[.int .u64 h', .int .u64 l']) : Sem Value).run Try.prog w = .ok (.bool (!decide (h = h' ∧ l = l'))) w := by
  go_simp
  by_cases e1 : h = h' <;> by_cases e2 : l = l' <;> simp [e1, e2]
set_option maxRecDepth 100000 in
set_option maxHeartbeats 2000000 in
theorem kept_any (L : List (Int × Int)) (ao al : Option Addr) (co cl B : Nat) (w : World) (ho : OwnD B w (.slice ao (L.length + 7) co) (L ++ marks 7)) (hl : Sl w (.slice al L.length cl) L al cl) (hL : L.length * 16 ≤ 140737488351232) :
    Calls Try.prog 9 #[.slice ao L.length co, .slice al L.length cl] w fun e w' => e = .returned (.bool true) ∧ Below w.heap.size w w' := by
  have hml : (L ++ marks 7).length = L.length + 7 := by rw [List.length_append, marks_length]
  obtain ⟨a', c', hf, h1, h2, h3, h4⟩ := ho.form
  rw [hml] at hf h1
  injection hf with f1 f2 f3
  subst f1 f3
  obtain ⟨g, rfl⟩ : ∃ g, ao = some ⟨g, 0, none⟩ := by
    cases ao with
    | none => have := (h3 rfl).1; rw [this] at hml; simp at hml
    | some x => obtain ⟨g, rfl, _⟩ := h4 x rfl; exact ⟨g, rfl⟩
  have hg := (ho.lo g rfl).2
  unfold maxLen at h2
  have OW := hide ho
  have LS := hide hl
  have hc1 := hl.cap
  have hc2 := hl.max
  unfold maxLen at hc2
  clear h3 h4 ho hl
  go_enter Try.func9, Try.ntmps9
  go_wp2_with fail
  go_loopw [6] (fun i wr => ∃ j : Nat, i = .int .i64 (j : Int) ∧ j ≤ L.length + 7 ∧ Hid (Below w.heap.size w wr)) (fun i _ => L.length + 7 - (intOf i).toNat)
  case atStart => exact ⟨0, rfl, Nat.zero_le _, Below.refl _ _⟩
  case round =>
    obtain ⟨j, rfl, hj, hb⟩ := hrel
    by_cases hlt : j < L.length + 7
    · by_cases hlt2 : j < L.length
      · obtain ⟨x0, y0, hx⟩ : ∃ x0 y0, L[j]? = some (x0, y0) := ⟨L[j].1, L[j].2, List.getElem?_eq_getElem hlt2⟩
        have hx2 : (L ++ marks 7)[j]? = some (x0, y0) := by rw [List.getElem?_append_left hlt2]; exact hx
        obtain ⟨e0, e1⟩ := OW.out.cell j _ hx2
        obtain ⟨q, o, rfl, hq, f0, f1⟩ : ∃ q o, al = some ⟨q, o, none⟩ ∧ q < w.heap.size ∧ w.cell? ⟨q, o + j * 2, none⟩ = some (.int .u64 x0) ∧ w.cell? ⟨q, o + j * 2 + 1, none⟩ = some (.int .u64 y0) := by
          cases hal : al with
          | none => have := (LS.out.nil hal).1; rw [this] at hlt2; simp at hlt2
          | some x =>
            rcases LS.out.at_ x hal with ⟨e, _⟩ | ⟨q', o', rfl, hq, hl⟩
            · rw [e] at hlt2; simp at hlt2
            · exact ⟨q', o', rfl, hq, (hl j _ hx).1, (hl j _ hx).2⟩
        have KC : Hid (∀ v, Below w.heap.size w v → (v.cell? ⟨g, j * 2, none⟩ = some (.int .u64 x0) ∧ v.cell? ⟨g, j * 2 + 1, none⟩ = some (.int .u64 y0)) ∧ (v.cell? ⟨q, o + j * 2, none⟩ = some (.int .u64 x0) ∧ v.cell? ⟨q, o + j * 2 + 1, none⟩ = some (.int .u64 y0))) := fun v hv =>
          ⟨⟨(hv.cell (p := ⟨g, j * 2, none⟩) hg).trans e0, (hv.cell (p := ⟨g, j * 2 + 1, none⟩) hg).trans e1⟩, ⟨(hv.cell (p := ⟨q, o + j * 2, none⟩) hq).trans f0, (hv.cell (p := ⟨q, o + j * 2 + 1, none⟩) hq).trans f1⟩⟩
        have n5 : ¬ (L.length ≤ j) := by omega
        clear e0 e1 f0 f1 hx hx2
        go_wp2_with fail
        refine region_q9 (C := fun v => Below w.heap.size w v) (by kernel_rfl) (by kernel_rfl) (hb.out.drew) ?_
        refine wqv (u := .int .i64 (j : Int)) (by kernel_rfl) (fun v hv => by kernel_rfl) ?_
        simp only [Act.put, List.setIfInBounds_toArray, List.set_cons_zero, List.set_cons_succ]
        refine wqv (u := .slice (some ⟨q, o, none⟩) L.length cl) (by kernel_rfl) (fun v hv => by kernel_rfl) ?_
        simp only [Act.put, List.setIfInBounds_toArray, List.set_cons_zero, List.set_cons_succ]
        refine wqv (u := .int .i64 (L.length : Int)) (by kernel_rfl) (fun v hv => by go_simp) ?_
        simp only [Act.put, List.setIfInBounds_toArray, List.set_cons_zero, List.set_cons_succ]
        refine wqv (u := .bool true) (by kernel_rfl) (fun v hv => by go_simp) ?_
        simp only [Act.put, List.setIfInBounds_toArray, List.set_cons_zero, List.set_cons_succ]
        refine wqv (u := .bool true) (by kernel_rfl) (fun v hv => by kernel_rfl) ?_
        simp only [Act.put, List.setIfInBounds_toArray, List.set_cons_zero, List.set_cons_succ]
        refine wqv (u := .slice (some ⟨g, 0, none⟩) (L.length + 7) co) (by kernel_rfl) (fun v hv => by kernel_rfl) ?_
        simp only [Act.put, List.setIfInBounds_toArray, List.set_cons_zero, List.set_cons_succ]
        refine wqv (u := .int .i64 (j : Int)) (by kernel_rfl) (fun v hv => by kernel_rfl) ?_
        simp only [Act.put, List.setIfInBounds_toArray, List.set_cons_zero, List.set_cons_succ]
        refine wqv (u := .pointer (some ⟨g, j * 2, none⟩)) (by kernel_rfl) (fun v hv => by go_simp) ?_
        simp only [Act.put, List.setIfInBounds_toArray, List.set_cons_zero, List.set_cons_succ]
        refine wqv (u := .agg #[.int .u64 x0, .int .u64 y0]) (by kernel_rfl) (fun v hv => by obtain ⟨⟨c0, c1⟩, _⟩ := KC.out v hv; go_simp) ?_
        simp only [Act.put, List.setIfInBounds_toArray, List.set_cons_zero, List.set_cons_succ]
        refine wqv (u := .slice (some ⟨q, o, none⟩) L.length cl) (by kernel_rfl) (fun v hv => by kernel_rfl) ?_
        simp only [Act.put, List.setIfInBounds_toArray, List.set_cons_zero, List.set_cons_succ]
        refine wqv (u := .int .i64 (j : Int)) (by kernel_rfl) (fun v hv => by kernel_rfl) ?_
        simp only [Act.put, List.setIfInBounds_toArray, List.set_cons_zero, List.set_cons_succ]
        refine wqv (u := .pointer (some ⟨q, o + j * 2, none⟩)) (by kernel_rfl) (fun v hv => by go_simp) ?_
        simp only [Act.put, List.setIfInBounds_toArray, List.set_cons_zero, List.set_cons_succ]
        refine wqv (u := .agg #[.int .u64 x0, .int .u64 y0]) (by kernel_rfl) (fun v hv => by obtain ⟨_, ⟨c0, c1⟩⟩ := KC.out v hv; go_simp) ?_
        simp only [Act.put, List.setIfInBounds_toArray, List.set_cons_zero, List.set_cons_succ]
        refine wqn (by kernel_rfl) rfl (.agg #[.int .u64 x0, .int .u64 y0]) (.agg #[.int .u64 x0, .int .u64 y0]) (.bool false) (by kernel_rfl) (by kernel_rfl) (fun v => (neqDr9 x0 y0 x0 y0 _ _ v).trans (by simp)) ?_
        simp only [Act.put, List.setIfInBounds_toArray, List.set_cons_zero, List.set_cons_succ]
        refine wqv (u := .bool false) (by kernel_rfl) (fun v hv => by kernel_rfl) ?_
        simp only [Act.put, List.setIfInBounds_toArray, List.set_cons_zero, List.set_cons_succ]
        refine wqv (u := .bool false) (by kernel_rfl) (fun v hv => by kernel_rfl) ?_
        simp only [Act.put, List.setIfInBounds_toArray, List.set_cons_zero, List.set_cons_succ]
        refine wqv (u := .int .i64 (j : Int)) (by kernel_rfl) (fun v hv => by kernel_rfl) ?_
        simp only [Act.put, List.setIfInBounds_toArray, List.set_cons_zero, List.set_cons_succ]
        refine wqv (u := .slice (some ⟨q, o, none⟩) L.length cl) (by kernel_rfl) (fun v hv => by kernel_rfl) ?_
        simp only [Act.put, List.setIfInBounds_toArray, List.set_cons_zero, List.set_cons_succ]
        refine wqv (u := .int .i64 (L.length : Int)) (by kernel_rfl) (fun v hv => by go_simp) ?_
        simp only [Act.put, List.setIfInBounds_toArray, List.set_cons_zero, List.set_cons_succ]
        refine wqv (u := .bool false) (by kernel_rfl) (fun v hv => by go_simp) ?_
        simp only [Act.put, List.setIfInBounds_toArray, List.set_cons_zero, List.set_cons_succ]
        refine wqv (u := .bool false) (by kernel_rfl) (fun v hv => by kernel_rfl) ?_
        simp only [Act.put, List.setIfInBounds_toArray, List.set_cons_zero, List.set_cons_succ]
        refine wqskip (by kernel_rfl) ?_
        simp only [Act.put, List.setIfInBounds_toArray, List.set_cons_zero, List.set_cons_succ]
        refine wqskip (by kernel_rfl) ?_
        simp only [Act.put, List.setIfInBounds_toArray, List.set_cons_zero, List.set_cons_succ]
        refine wqskip (by kernel_rfl) ?_
        simp only [Act.put, List.setIfInBounds_toArray, List.set_cons_zero, List.set_cons_succ]
        refine wqskip (by kernel_rfl) ?_
        simp only [Act.put, List.setIfInBounds_toArray, List.set_cons_zero, List.set_cons_succ]
        refine wqskip (by kernel_rfl) ?_
        simp only [Act.put, List.setIfInBounds_toArray, List.set_cons_zero, List.set_cons_succ]
        refine wqskip (by kernel_rfl) ?_
        simp only [Act.put, List.setIfInBounds_toArray, List.set_cons_zero, List.set_cons_succ]
        refine wqskip (by kernel_rfl) ?_
        simp only [Act.put, List.setIfInBounds_toArray, List.set_cons_zero, List.set_cons_succ]
        refine wqskip (by kernel_rfl) ?_
        simp only [Act.put, List.setIfInBounds_toArray, List.set_cons_zero, List.set_cons_succ]
        refine wqskip (by kernel_rfl) ?_
        simp only [Act.put, List.setIfInBounds_toArray, List.set_cons_zero, List.set_cons_succ]
        refine wqskip (by kernel_rfl) ?_
        simp only [Act.put, List.setIfInBounds_toArray, List.set_cons_zero, List.set_cons_succ]
        refine wqskip (by kernel_rfl) ?_
        simp only [Act.put, List.setIfInBounds_toArray, List.set_cons_zero, List.set_cons_succ]
        refine wqv (u := .bool false) (by kernel_rfl) (fun v hv => by kernel_rfl) ?_
        simp only [Act.put, List.setIfInBounds_toArray, List.set_cons_zero, List.set_cons_succ]
        refine wqv (u := .bool false) (by kernel_rfl) (fun v hv => by kernel_rfl) ?_
        simp only [Act.put, List.setIfInBounds_toArray, List.set_cons_zero, List.set_cons_succ]
        refine wqnil (fun v hv => ?_)
        go_wp2
        go_round
        case rel => exact ⟨j + 1, by go_num, by omega, hv⟩
        case measure => first | (simp [intOf]; done) | (simp [intOf]; omega)
      · have hx2 : (L ++ marks 7)[j]? = some (77, ((j - L.length : Nat) : Int)) := by
          rw [List.getElem?_append_right (by omega)]
          unfold marks
          rw [List.getElem?_map, List.getElem?_range (by omega)]
          rfl
        obtain ⟨e0, e1⟩ := OW.out.cell j _ hx2
        have hjn : ((j - L.length : Nat) : Int) = (j : Int) - (L.length : Int) := by omega
        rw [hjn] at e1
        have KC : Hid (∀ v, Below w.heap.size w v → v.cell? ⟨g, j * 2, none⟩ = some (.int .u64 77) ∧ v.cell? ⟨g, j * 2 + 1, none⟩ = some (.int .u64 ((j : Int) - (L.length : Int)))) := fun v hv =>
          ⟨(hv.cell (p := ⟨g, j * 2, none⟩) hg).trans e0, (hv.cell (p := ⟨g, j * 2 + 1, none⟩) hg).trans e1⟩
        have n5 : ¬ (j < L.length) := by omega
        have n6 : L.length ≤ j := by omega
        have w1 : IntKind.i64.wrap ((j : Int) - (L.length : Int)) = (j : Int) - (L.length : Int) := by rw [IntKind.wrap_i64]; omega
        have w2 : IntKind.u64.wrap ((j : Int) - (L.length : Int)) = (j : Int) - (L.length : Int) := by simp [IntKind.wrap, IntKind.bits, IntKind.signed]; omega
        clear e0 e1 hx2 hjn
        go_wp2_with fail
        refine region_q9 (C := fun v => Below w.heap.size w v) (by kernel_rfl) (by kernel_rfl) (hb.out.drew) ?_
        refine wqv (u := .int .i64 (j : Int)) (by kernel_rfl) (fun v hv => by kernel_rfl) ?_
        simp only [Act.put, List.setIfInBounds_toArray, List.set_cons_zero, List.set_cons_succ]
        refine wqv (u := .slice al L.length cl) (by kernel_rfl) (fun v hv => by kernel_rfl) ?_
        simp only [Act.put, List.setIfInBounds_toArray, List.set_cons_zero, List.set_cons_succ]
        refine wqv (u := .int .i64 (L.length : Int)) (by kernel_rfl) (fun v hv => by go_simp) ?_
        simp only [Act.put, List.setIfInBounds_toArray, List.set_cons_zero, List.set_cons_succ]
        refine wqv (u := .bool false) (by kernel_rfl) (fun v hv => by go_simp) ?_
        simp only [Act.put, List.setIfInBounds_toArray, List.set_cons_zero, List.set_cons_succ]
        refine wqv (u := .bool false) (by kernel_rfl) (fun v hv => by kernel_rfl) ?_
        simp only [Act.put, List.setIfInBounds_toArray, List.set_cons_zero, List.set_cons_succ]
        refine wqskip (by kernel_rfl) ?_
        simp only [Act.put, List.setIfInBounds_toArray, List.set_cons_zero, List.set_cons_succ]
        refine wqskip (by kernel_rfl) ?_
        simp only [Act.put, List.setIfInBounds_toArray, List.set_cons_zero, List.set_cons_succ]
        refine wqskip (by kernel_rfl) ?_
        simp only [Act.put, List.setIfInBounds_toArray, List.set_cons_zero, List.set_cons_succ]
        refine wqskip (by kernel_rfl) ?_
        simp only [Act.put, List.setIfInBounds_toArray, List.set_cons_zero, List.set_cons_succ]
        refine wqskip (by kernel_rfl) ?_
        simp only [Act.put, List.setIfInBounds_toArray, List.set_cons_zero, List.set_cons_succ]
        refine wqskip (by kernel_rfl) ?_
        simp only [Act.put, List.setIfInBounds_toArray, List.set_cons_zero, List.set_cons_succ]
        refine wqskip (by kernel_rfl) ?_
        simp only [Act.put, List.setIfInBounds_toArray, List.set_cons_zero, List.set_cons_succ]
        refine wqskip (by kernel_rfl) ?_
        simp only [Act.put, List.setIfInBounds_toArray, List.set_cons_zero, List.set_cons_succ]
        refine wqskip (by kernel_rfl) ?_
        simp only [Act.put, List.setIfInBounds_toArray, List.set_cons_zero, List.set_cons_succ]
        refine wqv (u := .bool false) (by kernel_rfl) (fun v hv => by kernel_rfl) ?_
        simp only [Act.put, List.setIfInBounds_toArray, List.set_cons_zero, List.set_cons_succ]
        refine wqv (u := .bool false) (by kernel_rfl) (fun v hv => by kernel_rfl) ?_
        simp only [Act.put, List.setIfInBounds_toArray, List.set_cons_zero, List.set_cons_succ]
        refine wqv (u := .int .i64 (j : Int)) (by kernel_rfl) (fun v hv => by kernel_rfl) ?_
        simp only [Act.put, List.setIfInBounds_toArray, List.set_cons_zero, List.set_cons_succ]
        refine wqv (u := .slice al L.length cl) (by kernel_rfl) (fun v hv => by kernel_rfl) ?_
        simp only [Act.put, List.setIfInBounds_toArray, List.set_cons_zero, List.set_cons_succ]
        refine wqv (u := .int .i64 (L.length : Int)) (by kernel_rfl) (fun v hv => by go_simp) ?_
        simp only [Act.put, List.setIfInBounds_toArray, List.set_cons_zero, List.set_cons_succ]
        refine wqv (u := .bool true) (by kernel_rfl) (fun v hv => by go_simp) ?_
        simp only [Act.put, List.setIfInBounds_toArray, List.set_cons_zero, List.set_cons_succ]
        refine wqv (u := .bool true) (by kernel_rfl) (fun v hv => by kernel_rfl) ?_
        simp only [Act.put, List.setIfInBounds_toArray, List.set_cons_zero, List.set_cons_succ]
        refine wqv (u := .slice (some ⟨g, 0, none⟩) (L.length + 7) co) (by kernel_rfl) (fun v hv => by kernel_rfl) ?_
        simp only [Act.put, List.setIfInBounds_toArray, List.set_cons_zero, List.set_cons_succ]
        refine wqv (u := .int .i64 (j : Int)) (by kernel_rfl) (fun v hv => by kernel_rfl) ?_
        simp only [Act.put, List.setIfInBounds_toArray, List.set_cons_zero, List.set_cons_succ]
        refine wqv (u := .pointer (some ⟨g, j * 2, none⟩)) (by kernel_rfl) (fun v hv => by go_simp) ?_
        simp only [Act.put, List.setIfInBounds_toArray, List.set_cons_zero, List.set_cons_succ]
        refine wqv (u := .agg #[.int .u64 77, .int .u64 ((j : Int) - (L.length : Int))]) (by kernel_rfl) (fun v hv => by obtain ⟨c0, c1⟩ := KC.out v hv; go_simp) ?_
        simp only [Act.put, List.setIfInBounds_toArray, List.set_cons_zero, List.set_cons_succ]
        refine wqv (u := .int .i64 (j : Int)) (by kernel_rfl) (fun v hv => by kernel_rfl) ?_
        simp only [Act.put, List.setIfInBounds_toArray, List.set_cons_zero, List.set_cons_succ]
        refine wqv (u := .slice al L.length cl) (by kernel_rfl) (fun v hv => by kernel_rfl) ?_
        simp only [Act.put, List.setIfInBounds_toArray, List.set_cons_zero, List.set_cons_succ]
        refine wqv (u := .int .i64 (L.length : Int)) (by kernel_rfl) (fun v hv => by go_simp) ?_
        simp only [Act.put, List.setIfInBounds_toArray, List.set_cons_zero, List.set_cons_succ]
        refine wqv (u := .int .i64 ((j : Int) - (L.length : Int))) (by kernel_rfl) (fun v hv => by go_simp) ?_
        simp only [Act.put, List.setIfInBounds_toArray, List.set_cons_zero, List.set_cons_succ]
        refine wqv (u := .int .u64 ((j : Int) - (L.length : Int))) (by kernel_rfl) (fun v hv => by go_simp) ?_
        simp only [Act.put, List.setIfInBounds_toArray, List.set_cons_zero, List.set_cons_succ]
        refine wqv (u := .agg #[.int .u64 77, .int .u64 ((j : Int) - (L.length : Int))]) (by kernel_rfl) (fun v hv => by go_simp) ?_
        simp only [Act.put, List.setIfInBounds_toArray, List.set_cons_zero, List.set_cons_succ]
        refine wqn (by kernel_rfl) rfl (.agg #[.int .u64 77, .int .u64 ((j : Int) - (L.length : Int))]) (.agg #[.int .u64 77, .int .u64 ((j : Int) - (L.length : Int))]) (.bool false) (by kernel_rfl) (by kernel_rfl) (fun v => (neqDr9 _ _ _ _ _ _ v).trans (by simp)) ?_
        simp only [Act.put, List.setIfInBounds_toArray, List.set_cons_zero, List.set_cons_succ]
        refine wqv (u := .bool false) (by kernel_rfl) (fun v hv => by kernel_rfl) ?_
        simp only [Act.put, List.setIfInBounds_toArray, List.set_cons_zero, List.set_cons_succ]
        refine wqv (u := .bool false) (by kernel_rfl) (fun v hv => by kernel_rfl) ?_
        simp only [Act.put, List.setIfInBounds_toArray, List.set_cons_zero, List.set_cons_succ]
        refine wqnil (fun v hv => ?_)
        go_wp2
        go_round
        case rel => exact ⟨j + 1, by go_num, by omega, hv⟩
        case measure => first | (simp [intOf]; done) | (simp [intOf]; omega)
    · obtain rfl : j = L.length + 7 := by omega
      have HB := hb
      go_wp2
      go_ret
      exact ⟨rfl, HB.out⟩

end Go.Proofs.Ytdgelllmngdpkaa
