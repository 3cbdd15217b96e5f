import Derived.Test.YtnhonkgondljjaaTa
import Derived.Test.YtnhonkgondljjaaSu
namespace Go.Proofs.Ytnhonkgondljjaa
open Go.RowKit Go.Maps
open Classical
set_option linter.unusedVariables false
set_option linter.unusedSimpArgs false

theorem Ak.puts_len (l vs : List Ak) : (Ak.puts l vs).length ≤ l.length + vs.length := by
  induction vs generalizing l with
  | nil => exact Nat.le_refl _
  | cons x r ih =>
    have h1 := ih (Ak.put l x)
    have h2 := Ak.put_len l x
    simp only [Ak.puts, List.length_cons]
    omega
set_option maxRecDepth 100000 in
set_option maxHeartbeats 1000000 in
/-- A list that is laid vote by vote. -/
theorem putlaw_any (Vs : List Ak) (a : Option Addr) (n c : Nat) (w : World) (h : SlY yAkA w a n c Vs) (hm : (n + 1) * 32 ≤ 140737488355328) :
    Calls Try.prog 29 #[.slice a n c] w fun e w' => ∃ (a' : Option Addr) (c' : Nat), e = .returned (.slice a' (Ak.puts [] Vs).length c') ∧ SlY yAkA w' a' (Ak.puts [] Vs).length c' (Ak.puts [] Vs) ∧ Below w.heap.size w w' := by
  have hmx := h.max
  have hcp := h.cap
  have hln := h.len
  unfold maxLen at hmx
  have H := hide h
  have HN := hide hln
  clear h hln
  go_enter Try.func29, Try.ntmps29
  go_wp2
  go_loopw [4, 3] (fun i m wr => ∃ (j : Nat) (am : Option Addr) (cm : Nat) (Ms : List Ak), i = .int .i64 (j : Int) ∧ j ≤ n ∧ m = .slice am Ms.length cm ∧ Hid (SlY yAkA wr am Ms.length cm Ms) ∧ Hid (Ms = Ak.puts [] (Vs.take j)) ∧ Below w.heap.size w wr) (fun i _ _ => n - (intOf i).toNat)
  case atStart => exact ⟨0, none, 0, [], rfl, Nat.zero_le _, rfl, SlY.none_ _ _, rfl, Below.refl _ _⟩
  case round =>
    obtain ⟨j, am, cm, Ms, rfl, hj, rfl, hM, hG, hbl⟩ := hrel
    have hsz := hbl.size
    by_cases hlt : j < n
    · have hjl : j < Vs.length := by rw [HN.out]; exact hlt
      have hg : Vs[j]? = some Vs[j] := List.getElem?_eq_getElem hjl
      obtain ⟨q, o, rfl, hq, y0, y1, y2, y3⟩ := (H.out.later hbl).AkA hg
      have hlen : Hid ((Ms.length + 1) * 32 ≤ 140737488355328) := by
        show _ ≤ _
        have h1 := Ak.puts_len [] (Vs.take j)
        rw [← hG.out, List.length_take, List.length_nil] at h1
        omega
      have hN : Hid (Ak.put Ms Vs[j] = Ak.puts [] (Vs.take (j + 1))) := by
        show _ = _
        rw [List.take_add_one, hg, Option.toList_some, Ak.puts_snoc, ← hG.out]
      clear hg hG
      generalize Vs[j] = x at *
      have cp := hide (Ak.Put_any Ms x am Ms.length cm wr hM.out hlen.out)
      unfold Ak.val at cp
      clear hM hlen
      go_wp2_with fail
      refine cp.out.mono ?_
      rintro e w2 ⟨v2, rfl, o2, b2⟩
      obtain ⟨am2, cm2, rfl, s2, _⟩ := o2.sl kAkA
      have S2 := hide s2
      have B2 := hide (hbl.trans (b2.mono hsz))
      clear o2 s2 b2 cp
      dsimp only
      go_wp2
      go_round
      case rel => exact ⟨j + 1, am2, cm2, _, by go_num, by omega, rfl, S2, hN, B2.out⟩
      case measure => simp [intOf]; omega
    · obtain rfl : j = n := by omega
      have hE : Ms = Ak.puts [] Vs := by rw [hG.out, List.take_of_length_le (by rw [HN.out]; exact Nat.le_refl _)]
      clear hG
      subst hE
      go_wp2
      go_ret
      exact ⟨am, cm, rfl, hM.out, hbl⟩
theorem below8_any (h l h' l' : Int) (w : World) : Calls Try.prog 30 #[.agg #[.int .u64 h, .int .u64 l], .agg #[.int .u64 h', .int .u64 l']] w fun e w' => e = .returned (.bool (decide (h < h' ∨ (h = h' ∧ l < l')))) ∧ Below w.heap.size w w' := by
  by_cases c1 : h < h'
  · rw [show decide (h < h' ∨ (h = h' ∧ l < l')) = true by simp [c1]]
    go_enter Try.func30, Try.ntmps30
    go_wp2
    go_ret
    exact ⟨rfl, ((Below.refl _ _).alloc (Nat.le_refl _) _).alloc (by simp) _⟩
  · by_cases c2 : h = h'
    · subst c2
      rw [show decide (h < h ∨ (h = h ∧ l < l')) = decide (l < l') by simp]
      by_cases c3 : l < l'
      · rw [decide_eq_true c3]
        go_enter Try.func30, Try.ntmps30
        go_wp2
        go_ret
        exact ⟨rfl, ((Below.refl _ _).alloc (Nat.le_refl _) _).alloc (by simp) _⟩
      · rw [decide_eq_false c3]
        go_enter Try.func30, Try.ntmps30
        go_wp2
        go_ret
        exact ⟨rfl, ((Below.refl _ _).alloc (Nat.le_refl _) _).alloc (by simp) _⟩
    · rw [show decide (h < h' ∨ (h = h' ∧ l < l')) = false by simp [c1, c2]]
      have c4 : (h == h') = false := by simp [c2]
      go_enter Try.func30, Try.ntmps30
      go_wp2
      go_ret
      exact ⟨rfl, ((Below.refl _ _).alloc (Nat.le_refl _) _).alloc (by simp) _⟩
set_option maxRecDepth 100000 in
set_option maxHeartbeats 1000000 in
theorem sameacks0_any (L : List Ak) (a b : Option Addr) (n c c2 : Nat) (w : World) (hL : SlY yAkA w a n c L) (hR : SlY yAkA w b n c2 L) :
    Calls Try.prog 67 #[.slice a n c, .slice b n c2] w fun e w' => e = .returned (.bool true) ∧ ∃ k, w' = w.drewN k := by
  have m1 := hL.max
  have m2 := hR.max
  have p1 := hL.cap
  have p2 := hR.cap
  unfold maxLen at m1 m2
  have HL := hide hL
  have HR := hide hR
  have N1 := hide hL.len
  clear hL hR
  go_enter Try.func67, Try.ntmps67
  go_wp2
  go_loopw [5] (fun i wr => ∃ (j d : Nat), i = .int .i64 (j : Int) ∧ j ≤ n ∧ wr = w.drewN d) (fun i _ => n - (intOf i).toNat)
  case atStart => exact ⟨0, 0, rfl, Nat.zero_le _, rfl⟩
  case round =>
    obtain ⟨j, d, rfl, hj, rfl⟩ := hrel
    by_cases hlt : j < n
    · have h1 : j < L.length := by rw [N1.out]; exact hlt
      have g1 : L[j]? = some L[j] := List.getElem?_eq_getElem h1
      obtain ⟨q, o, rfl, hq, a0, a1, a2, a3⟩ := HL.out.AkA g1
      obtain ⟨q2, o2, rfl, hq2, b0, b1, b2, b3⟩ := HR.out.AkA g1
      clear g1
      generalize L[j] = x at *
      have KC : Hid (∀ v, (∃ k, v = w.drewN k) → (v.cell? ⟨q, o + j * 4, none⟩ = some (.int .i64 x.n) ∧ v.cell? ⟨q, o + j * 4 + 1, none⟩ = some (.int .u64 x.h) ∧ v.cell? ⟨q, o + j * 4 + 2, none⟩ = some (.int .u64 x.l) ∧ v.cell? ⟨q, o + j * 4 + 3, none⟩ = some (.int .i64 x.p)) ∧ (v.cell? ⟨q2, o2 + j * 4, none⟩ = some (.int .i64 x.n) ∧ v.cell? ⟨q2, o2 + j * 4 + 1, none⟩ = some (.int .u64 x.h) ∧ v.cell? ⟨q2, o2 + j * 4 + 2, none⟩ = some (.int .u64 x.l) ∧ v.cell? ⟨q2, o2 + j * 4 + 3, none⟩ = some (.int .i64 x.p))) := fun v hv => by
        obtain ⟨k, rfl⟩ := hv
        exact ⟨⟨a0, a1, a2, a3⟩, ⟨b0, b1, b2, b3⟩⟩
      clear a0 a1 a2 a3 b0 b1 b2 b3
      go_wp2_with fail
      refine region_q9 (C := fun v => ∃ k, v = w.drewN k) (by kernel_rfl) (by kernel_rfl) ⟨d + 1, rfl⟩ ?_
      refine wqv (u := .slice (some ⟨q, o, none⟩) n c) (by kernel_rfl) (fun v hv => by kernel_rfl) ?_
      simp only [Act.put, List.setIfInBounds_toArray, List.set_cons_zero, List.set_cons_succ]
      refine wqv (u := .int .i64 (j : Int)) (by kernel_rfl) (fun v hv => by kernel_rfl) ?_
      simp only [Act.put, List.setIfInBounds_toArray, List.set_cons_zero, List.set_cons_succ]
      refine wqv (u := .pointer (some ⟨q, o + j * 4, none⟩)) (by kernel_rfl) (fun v hv => by go_simp) ?_
      simp only [Act.put, List.setIfInBounds_toArray, List.set_cons_zero, List.set_cons_succ]
      refine wqv (u := x.val) (by kernel_rfl) (fun v hv => by obtain ⟨⟨y0, y1, y2, y3⟩, _⟩ := KC.out v hv; go_simp; rfl) ?_
      simp only [Act.put, List.setIfInBounds_toArray, List.set_cons_zero, List.set_cons_succ]
      refine wqv (u := .slice (some ⟨q2, o2, none⟩) n c2) (by kernel_rfl) (fun v hv => by kernel_rfl) ?_
      simp only [Act.put, List.setIfInBounds_toArray, List.set_cons_zero, List.set_cons_succ]
      refine wqv (u := .int .i64 (j : Int)) (by kernel_rfl) (fun v hv => by kernel_rfl) ?_
      simp only [Act.put, List.setIfInBounds_toArray, List.set_cons_zero, List.set_cons_succ]
      refine wqv (u := .pointer (some ⟨q2, o2 + j * 4, none⟩)) (by kernel_rfl) (fun v hv => by go_simp) ?_
      simp only [Act.put, List.setIfInBounds_toArray, List.set_cons_zero, List.set_cons_succ]
      refine wqv (u := x.val) (by kernel_rfl) (fun v hv => by obtain ⟨_, ⟨y0, y1, y2, y3⟩⟩ := KC.out v hv; go_simp; rfl) ?_
      simp only [Act.put, List.setIfInBounds_toArray, List.set_cons_zero, List.set_cons_succ]
      refine wqv (u := .bool false) (by kernel_rfl) (fun v hv => by unfold Ak.val; go_simp) ?_
      simp only [Act.put, List.setIfInBounds_toArray, List.set_cons_zero, List.set_cons_succ]
      refine wqnil (fun v hv => ?_)
      obtain ⟨k, rfl⟩ := hv
      go_wp2
      go_round
      case rel => exact ⟨j + 1, k, by go_num, by omega, rfl⟩
      case measure => simp [intOf]; omega
    · obtain rfl : j = n := by omega
      go_wp2
      go_ret
      exact ⟨rfl, d, rfl⟩
theorem sameacks_any (L : List Ak) (a b : Option Addr) (n c c2 : Nat) (w : World) (hL : SlY yAkA w a n c L) (hR : SlY yAkA w b n c2 L) :
    Calls Try.prog 33 #[.slice a n c, .slice b n c2] w fun e w' => e = .returned (.bool true) ∧ ∃ k, w' = w.drewN k := by
  have cs := hide (sameacks0_any L a b n c c2 w hL hR)
  clear hL hR
  go_enter Try.func33, Try.ntmps33
  go_wp2_with fail
  refine cs.out.mono ?_
  rintro e w' ⟨rfl, k, rfl⟩
  dsimp only
  go_wp2
  go_ret
  exact ⟨rfl, k, rfl⟩

end Go.Proofs.Ytnhonkgondljjaa
