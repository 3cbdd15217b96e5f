import Derived.Test.YtnhonkgondljjaaTf
import Derived.Test.YtnhonkgondljjaaTe
import Derived.Test.YtnhonkgondljjaaGTi
namespace Go.Proofs.Ytnhonkgondljjaa
open Go.ChangeShapes Go.WideShapes Go.ChangeAt Go.RowKit Go.Maps
open Classical
set_option linter.unusedVariables false
set_option linter.unusedSimpArgs false

theorem wqn {ops : Array Oper} {rest : List Oper} {o : Oper} {a : Act} {C : World → Prop} {Q : Act → Prop} (hw : Region.wanted o (yielded ops a.tmps) = true) {T ty : TypeId} {x y : Operand} (ho : o.op = .binOp .neq T x y ty) (X Y u : Value) (hx : a.eval x = X) (hy : a.eval y = Y) (hq : ∀ v, (do eqGuard .neq T x y X Y; binOp .neq T X Y : Sem Value).run Try.prog v = .ok u v) (hk : WQ Try.prog ops C Q rest (a.put o.dst u)) : WQ Try.prog ops C Q (o :: rest) a :=
  wqv hw (fun v _ => by
    unfold execOp
    simp only [ho, hx, hy]
    rw [Sem.run_bind, hq v]
    rfl) hk
theorem neqDr8 (h l h' l' : Int) (A B : Nat) (w : World) : (do eqGuard .neq 27 (.tmp A) (.tmp B) (.agg #[.int .u64 h, .int .u64 l]) (.agg #[.int .u64 h', .int .u64 l']); binOp .neq 27 (.agg #[.int .u64 h, .int .u64 l]) (.agg #[.int .u64 h', .int .u64 l']) : Sem Value).run Try.prog w = .ok (.bool (!decide (h = h' ∧ l = l'))) w := by
  go_simp
  by_cases e1 : h = h' <;> by_cases e2 : l = l' <;> simp [e1, e2]
theorem cnt_step {m : Int} {L : List Ak} {i : Nat} {x : Ak} (h : L[i]? = some x) : cnt m ((L.take (i + 1)).map (·.p)) = cnt m ((L.take i).map (·.p)) + if m ≤ x.p then 1 else 0 := by
  unfold cnt
  rw [List.take_add_one, h, Option.toList_some, List.map_append, List.filter_append, List.length_append]
  by_cases c : m ≤ x.p <;> simp [c]
theorem cnt_app (m : Int) (A B : List Int) : cnt m (A ++ B) = cnt m A + cnt m B := by unfold cnt; rw [List.filter_append, List.length_append]
theorem cnt_cons (m x : Int) (B : List Int) : cnt m (x :: B) = (if m ≤ x then 1 else 0) + cnt m B := by
  unfold cnt
  rw [List.filter_cons]
  by_cases c : m ≤ x
  · simp [c]; omega
  · simp [c]
theorem cnt_put (m : Int) (L : List Ak) (u : Ak) (h : ∀ x ∈ L, x.n = u.n → x.h = u.h ∧ x.l = u.l) : cnt m (L.map (·.p)) ≤ cnt m ((Ak.put L u).map (·.p)) := by
  cases hf : L.findIdx? (fun y => decide (y.n = u.n)) with
  | none =>
    rw [Ak.put_none hf]
    unfold Ak.ins
    rw [List.map_append, List.map_cons, cnt_app, cnt_cons]
    have : L.map (·.p) = (L.take (Ak.at_ L u)).map (·.p) ++ (L.drop (Ak.at_ L u)).map (·.p) := by rw [← List.map_append, List.take_append_drop]
    rw [this, cnt_app]
    omega
  | some i =>
    obtain ⟨hi, hx0, _⟩ := List.findIdx?_eq_some_iff_getElem.1 hf
    have hx0 : L[i].n = u.n := of_decide_eq_true hx0
    rw [Ak.put_some hf _ (List.getElem?_eq_getElem hi)]
    obtain ⟨e1, e2⟩ := h _ (List.getElem_mem hi) hx0
    split
    · rename_i hr
      have hr := (Ak.rep_iff _ _).1 hr
      unfold Ak.up at hr
      have hp : L[i].p < u.p := by omega
      have hL : L = L.take i ++ L[i] :: L.drop (i + 1) := by rw [← List.drop_eq_getElem_cons hi, List.take_append_drop]
      have hS : L.set i u = L.take i ++ u :: L.drop (i + 1) := List.set_eq_take_append_cons_drop.trans (by rw [if_pos hi])
      rw [hS]
      conv => lhs; rw [hL]
      rw [List.map_append, List.map_append, List.map_cons, List.map_cons, cnt_app, cnt_app, cnt_cons, cnt_cons]
      split <;> split <;> omega
    · exact Nat.le_refl _
set_option maxRecDepth 100000 in
set_option maxHeartbeats 8000000 in
theorem quorum_walk (f own : Int) (Vs : List Ak) (a : Option Addr) (n c : Nat) (u : Ak) (w : World) (h : SlY yAkA w a n c Vs) (hm : n * 32 ≤ 140737488351232) :
    Calls Try.prog 8 #[.int .i64 f, .int .i64 own, .slice a n c, .agg #[.int .i64 u.n, .int .u64 u.h, .int .u64 u.l, .int .i64 u.p]] w fun e w' => e = .returned (.bool true) ∧ Below w.heap.size w w' := by
  have H := hide h
  have HN := hide h.len
  clear h
  have bx : Below w.heap.size w (w.alloc (.cells #[.int .i64 u.n, .int .u64 u.h, .int .u64 u.l, .int .i64 u.p] 55)) := (Below.refl _ w).alloc (Nat.le_refl _) _
  have BX := hide bx
  have KB : Hid (∀ v, Below (w.heap.size + 1) (w.alloc (.cells #[.int .i64 u.n, .int .u64 u.h, .int .u64 u.l, .int .i64 u.p] 55)) v → (v.cell? ⟨w.heap.size, 0, none⟩ = some (.int .i64 u.n) ∧ v.cell? ⟨w.heap.size, 1, none⟩ = some (.int .u64 u.h) ∧ v.cell? ⟨w.heap.size, 2, none⟩ = some (.int .u64 u.l) ∧ v.cell? ⟨w.heap.size, 3, none⟩ = some (.int .i64 u.p))) := fun v hv =>
    ⟨(hv.cell (p := ⟨w.heap.size, 0, none⟩) (by simp)).trans (by simp), (hv.cell (p := ⟨w.heap.size, 1, none⟩) (by simp)).trans (by simp), (hv.cell (p := ⟨w.heap.size, 2, none⟩) (by simp)).trans (by simp), (hv.cell (p := ⟨w.heap.size, 3, none⟩) (by simp)).trans (by simp)⟩
  clear bx
  go_enter Try.func8, Try.ntmps8
  go_wp2_with fail
  refine (works8_any _).mono ?_
  rintro e w0 ⟨rfl, b0⟩
  have D0 : Hid (Below (w.heap.size + 1) (w.alloc (.cells #[.int .i64 u.n, .int .u64 u.h, .int .u64 u.l, .int .i64 u.p] 55)) w0) := by show Below _ _ _; simpa using b0
  clear b0
  dsimp only
  go_wp2_with fail
  refine (show Calls Try.prog 31 #[.int .i64 f, .int .i64 5] w0 fun e w' => e = .returned (.int .i64 (f % 6)) ∧ w' = w0 from within8_any f 5 w0 (by omega) (by omega)).mono ?_
  rintro e w1' ⟨rfl, rfl⟩
  obtain ⟨F, hF⟩ : ∃ F : Int, F = 1 + f % 6 := ⟨_, rfl⟩
  have hF1 : 1 ≤ F := by omega
  have hF6 : F ≤ 6 := by omega
  have hwF : IntKind.i64.wrap (1 + f % 6) = F := by rw [IntKind.wrap_i64]; omega
  clear hF
  dsimp only
  go_wp2_with fail
  refine (show Calls Try.prog 31 #[.int .i64 own, .int .i64 256] _ fun e w' => e = .returned (.int .i64 (own % 257)) ∧ w' = _ from within8_any own 256 _ (by omega) (by omega)).mono ?_
  rintro e w1' ⟨rfl, rfl⟩
  have hO0 := Int.emod_nonneg own (b := 257) (by omega)
  have hO1 := Int.emod_lt_of_pos own (b := 257) (by omega)
  generalize own % 257 = O at *
  have BA := hide (BX.out.trans (D0.out.mono (by omega)))
  have cp := hide (putlaw_any Vs a n c _ (H.out.later BA.out) (by omega))
  dsimp only
  go_wp2_with fail
  refine cp.out.mono ?_
  rintro e w1 ⟨al, cl, rfl, s1, b1⟩
  have z1 := b1.size
  have hllen : Hid ((Ak.puts [] Vs).length ≤ n) := by
    show _ ≤ _
    have := Ak.puts_len [] Vs
    rw [HN.out, List.length_nil, Nat.zero_add] at this
    exact this
  have D1 := hide (D0.out.trans (b1.mono (by have := D0.out.size; simpa using this)))
  generalize Ak.puts [] Vs = Ls at *
  have cr := hide (reached_any F O Ls al Ls.length cl w1 s1 (by have := hllen.out; omega))
  have hk0 := rch_nonneg F O Ls
  have hkO : rch F O Ls ≤ O := by
    by_cases c1 : 1 ≤ rch F O Ls
    · exact ((rch_ge hF1 c1).1 (Int.le_refl _)).1
    · omega
  have RG : Hid (∀ m, 1 ≤ m → (m ≤ rch F O Ls ↔ (m ≤ O ∧ F ≤ (cnt m (Ls.map (·.p)) : Int)))) := fun m hm => rch_ge hF1 hm
  have SL1 := hide s1
  have hlc := s1.cap
  have hlm := s1.max
  unfold maxLen at hlm
  clear s1 b1 cp H
  generalize rch F O Ls = k at *
  dsimp only
  go_wp2_with fail
  refine cr.out.mono ?_
  rintro e w2 ⟨rfl, b2⟩
  have D2 := hide (D1.out.trans (b2.mono (by have := D1.out.size; simpa using this)))
  have SL := hide (SL1.out.later b2)
  have BW := hide (BX.out.trans (D2.out.mono (by omega)))
  clear cr b2 SL1 D1 D0 BA
  dsimp only
  have hn0 : ¬ (k < 0) := by omega
  have hn1 : ¬ (O < k) := by omega
  go_wp2_with fail
  go_loopw [13, 11, 12] (fun i t r wr => ∃ (i' T R : Nat), i = .int .i64 (i' : Int) ∧ i' ≤ Ls.length ∧ t = .int .i64 (T : Int) ∧ Hid (T = cnt k ((Ls.take i').map (·.p))) ∧ r = .int .i64 (R : Int) ∧ Hid (R = cnt (k + 1) ((Ls.take i').map (·.p))) ∧ wr = w2) (fun i _ _ _ => Ls.length - (intOf i).toNat)
  case atStart => exact ⟨0, 0, 0, rfl, Nat.zero_le _, rfl, rfl, rfl, rfl, rfl⟩
  case round =>
    obtain ⟨i, T, R, rfl, hi, rfl, hT, rfl, hR, hwr⟩ := hrel
    have hwr := hwr.symm
    subst hwr
    have hcb : ∀ m, cnt m ((Ls.take i).map (·.p)) ≤ i := fun m => by
      unfold cnt
      refine Nat.le_trans (List.length_filter_le _ _) ?_
      rw [List.length_map, List.length_take]
      omega
    have hTb : T ≤ i := by rw [hT.out]; exact hcb _
    have hRb : R ≤ i := by rw [hR.out]; exact hcb _
    have HCB := hide hcb
    clear hcb
    by_cases hlt : i < Ls.length
    · have hg : Ls[i]? = some Ls[i] := List.getElem?_eq_getElem hlt
      obtain ⟨ql, ol, rfl, hql, _, _, _, x3⟩ := SL.out.AkA hg
      have hs1 := hide (cnt_step (m := k) hg)
      have hs2 := hide (cnt_step (m := k + 1) hg)
      clear hg
      generalize Ls[i] = x at *
      by_cases c1 : k ≤ x.p
      · by_cases c2 : k < x.p
        · have e1 : Hid (T + 1 = cnt k ((Ls.take (i + 1)).map (·.p))) := by show _ = _; rw [hs1.out, ← hT.out, if_pos c1]
          have e2 : Hid (R + 1 = cnt (k + 1) ((Ls.take (i + 1)).map (·.p))) := by show _ = _; rw [hs2.out, ← hR.out, if_pos (by omega)]
          clear hs1 hs2 hT hR
          go_wp2
          go_round
          case rel => exact ⟨i + 1, T + 1, R + 1, by go_num, by omega, by go_num, e1, by go_num, e2, trivial⟩
          case measure => simp [intOf]; omega
        · have e1 : Hid (T + 1 = cnt k ((Ls.take (i + 1)).map (·.p))) := by show _ = _; rw [hs1.out, ← hT.out, if_pos c1]
          have e2 : Hid (R = cnt (k + 1) ((Ls.take (i + 1)).map (·.p))) := by show _ = _; rw [hs2.out, ← hR.out, if_neg (by omega)]; rfl
          clear hs1 hs2 hT hR
          go_wp2
          go_round
          case rel => exact ⟨i + 1, T + 1, R, by go_num, by omega, by go_num, e1, rfl, e2, trivial⟩
          case measure => simp [intOf]; omega
      · have c2 : ¬ (k < x.p) := by omega
        have e1 : Hid (T = cnt k ((Ls.take (i + 1)).map (·.p))) := by show _ = _; rw [hs1.out, ← hT.out, if_neg c1]; rfl
        have e2 : Hid (R = cnt (k + 1) ((Ls.take (i + 1)).map (·.p))) := by show _ = _; rw [hs2.out, ← hR.out, if_neg (by omega)]; rfl
        clear hs1 hs2 hT hR
        go_wp2
        go_round
        case rel => exact ⟨i + 1, T, R, by go_num, by omega, rfl, e1, rfl, e2, trivial⟩
        case measure => simp [intOf]; omega
    · obtain rfl : i = Ls.length := by omega
      have hTk : 1 ≤ k → ¬ ((T : Int) < F) := fun h => by
        have := ((RG.out k h).1 (Int.le_refl _)).2
        rw [hT.out, List.take_length]
        omega
      have hRk : k < O → ¬ (F ≤ (R : Int)) := fun h hh => by
        have := (RG.out (k + 1) (by omega)).2 ⟨by omega, by rw [hR.out, List.take_length] at hh; exact hh⟩
        omega
      have hwf : IntKind.i64.wrap (F + 1) = F + 1 := by rw [IntKind.wrap_i64]; omega
      have hwo : IntKind.i64.wrap (O + 1) = O + 1 := by rw [IntKind.wrap_i64]; omega
      have G1 : Hid (rch (F + 1) O Ls ≤ k) := by
        show _ ≤ _
        have h0 := rch_nonneg (F + 1) O Ls
        by_cases c1 : 1 ≤ rch (F + 1) O Ls
        · have := (rch_ge (by omega) c1).1 (Int.le_refl _)
          exact (RG.out _ c1).2 ⟨this.1, by omega⟩
        · omega
      have G2 : Hid (k ≤ rch F (O + 1) Ls) := by
        show _ ≤ _
        have h0 := rch_nonneg F (O + 1) Ls
        by_cases c1 : 1 ≤ k
        · have := (RG.out k c1).1 (Int.le_refl _)
          exact (rch_ge hF1 c1).2 ⟨by omega, this.2⟩
        · omega
      have C1 := hide (reached_any (F + 1) O Ls al Ls.length cl w2 SL.out (by have := hllen.out; omega))
      clear hT hR hTb hRb HCB hlt hi
      by_cases ck : 1 ≤ k
      · have t1 := hTk ck
        have ck' : 0 < k := by omega
        clear hTk
        by_cases co : k < O
        · have r1 := hRk co
          clear hRk
          go_wp2_with fail
          refine C1.out.mono ?_
          rintro e w3 ⟨rfl, b3⟩
          have SL3 := hide (SL.out.later b3)
          have C2 := hide (reached_any F (O + 1) Ls al Ls.length cl w3 SL3.out (by have := hllen.out; omega))
          have g1 : ¬ (k < rch (F + 1) O Ls) := by have := G1.out; omega
          generalize rch (F + 1) O Ls = k1 at *
          clear C1 G1
          dsimp only
          go_wp2_with fail
          refine C2.out.mono ?_
          rintro e w4 ⟨rfl, b4⟩
          have g2 : ¬ (rch F (O + 1) Ls < k) := by have := G2.out; omega
          generalize rch F (O + 1) Ls = k2 at *
          clear C2 G2
          have SL4 := hide (SL3.out.later b4)
          have B4 := hide (b3.trans (b4.mono (by have := b3.size; omega)))
          clear b3 b4 SL3
          dsimp only
          go_wp2_with fail
          have B5 := hide (D2.out.trans (B4.out.mono (by have := D2.out.size; simpa using this)))
          have B6 := hide (BW.out.trans (B4.out.mono (by have := BW.out.size; omega)))
          clear D2 B4 BW BX SL hwr
          go_loopw [14] (fun i wr => ∃ (i' : Nat), i = .int .i64 (i' : Int) ∧ i' ≤ Ls.length ∧ Hid (∀ (j : Nat) (x : Ak), j < i' → Ls[j]? = some x → x.n = u.n → x.h = u.h ∧ x.l = u.l) ∧ Below w4.heap.size w4 wr) (fun i _ => Ls.length - (intOf i).toNat)
          case atStart => exact ⟨0, rfl, Nat.zero_le _, fun j x h => absurd h (Nat.not_lt_zero _), Below.refl _ _⟩
          case round =>
            obtain ⟨i, rfl, hi, hJ, hbl⟩ := hrel
            by_cases hlt : i < Ls.length
            · have hg : Ls[i]? = some Ls[i] := List.getElem?_eq_getElem hlt
              obtain ⟨ql, ol, rfl, hql, x0, x1, x2, x3⟩ := SL4.out.AkA hg
              have HG := hide hg
              clear hg
              generalize Ls[i] = x at *
              have KC : Hid (∀ v, Below w4.heap.size w4 v → (v.cell? ⟨ql, ol + i * 4, none⟩ = some (.int .i64 x.n) ∧ v.cell? ⟨ql, ol + i * 4 + 1, none⟩ = some (.int .u64 x.h) ∧ v.cell? ⟨ql, ol + i * 4 + 2, none⟩ = some (.int .u64 x.l) ∧ v.cell? ⟨ql, ol + i * 4 + 3, none⟩ = some (.int .i64 x.p)) ∧ (v.cell? ⟨w.heap.size, 0, none⟩ = some (.int .i64 u.n) ∧ v.cell? ⟨w.heap.size, 1, none⟩ = some (.int .u64 u.h) ∧ v.cell? ⟨w.heap.size, 2, none⟩ = some (.int .u64 u.l) ∧ v.cell? ⟨w.heap.size, 3, none⟩ = some (.int .i64 u.p))) := fun v hv =>
                ⟨⟨(hv.cell (p := ⟨ql, _, none⟩) hql).trans x0, (hv.cell (p := ⟨ql, _, none⟩) hql).trans x1, (hv.cell (p := ⟨ql, _, none⟩) hql).trans x2, (hv.cell (p := ⟨ql, _, none⟩) hql).trans x3⟩, KB.out v (B5.out.trans (hv.mono (by have := B5.out.size; simpa using this)))⟩
              clear x0 x1 x2 x3
              by_cases c1 : x.n = u.n
              · by_cases c2 : x.h = u.h ∧ x.l = u.l
                · have HD : Hid ((!decide (x.h = u.h ∧ x.l = u.l)) = false) := by show _ = _; rw [decide_eq_true c2]; rfl
                  have C2 := hide c2
                  clear c2
                  go_wp2_with fail
                  refine region_q9 (C := fun v => Below w4.heap.size w4 v) (by kernel_rfl) (by kernel_rfl) hbl.drew ?_
                  refine wqv (u := .slice (some ⟨ql, ol, none⟩) Ls.length cl) (by kernel_rfl) (fun v hv => by kernel_rfl) ?_
                  simp only [Act.put, List.setIfInBounds_toArray, List.set_cons_zero, List.set_cons_succ]
                  refine wqv (u := .int .i64 (i : Int)) (by kernel_rfl) (fun v hv => by kernel_rfl) ?_
                  simp only [Act.put, List.setIfInBounds_toArray, List.set_cons_zero, List.set_cons_succ]
                  refine wqv (u := .pointer (some ⟨ql, ol + i * 4, none⟩)) (by kernel_rfl) (fun v hv => by go_simp) ?_
                  simp only [Act.put, List.setIfInBounds_toArray, List.set_cons_zero, List.set_cons_succ]
                  refine wqv (u := .pointer (some ⟨ql, ol + i * 4, none⟩)) (by kernel_rfl) (fun v hv => by go_simp) ?_
                  simp only [Act.put, List.setIfInBounds_toArray, List.set_cons_zero, List.set_cons_succ]
                  refine wqv (u := .int .i64 x.n) (by kernel_rfl) (fun v hv => by obtain ⟨⟨y0, y1, y2, y3⟩, ⟨z0, z1, z2, z3⟩⟩ := KC.out v hv; go_simp) ?_
                  simp only [Act.put, List.setIfInBounds_toArray, List.set_cons_zero, List.set_cons_succ]
                  refine wqv (u := .pointer (some ⟨w.heap.size, 0, none⟩)) (by kernel_rfl) (fun v hv => by go_simp) ?_
                  simp only [Act.put, List.setIfInBounds_toArray, List.set_cons_zero, List.set_cons_succ]
                  refine wqv (u := .int .i64 u.n) (by kernel_rfl) (fun v hv => by obtain ⟨⟨y0, y1, y2, y3⟩, ⟨z0, z1, z2, z3⟩⟩ := KC.out v hv; go_simp) ?_
                  simp only [Act.put, List.setIfInBounds_toArray, List.set_cons_zero, List.set_cons_succ]
                  refine wqv (u := .bool true) (by kernel_rfl) (fun v hv => by go_simp) ?_
                  simp only [Act.put, List.setIfInBounds_toArray, List.set_cons_zero, List.set_cons_succ]
                  refine wqv (u := .bool true) (by kernel_rfl) (fun v hv => by kernel_rfl) ?_
                  simp only [Act.put, List.setIfInBounds_toArray, List.set_cons_zero, List.set_cons_succ]
                  refine wqv (u := .slice (some ⟨ql, ol, none⟩) Ls.length cl) (by kernel_rfl) (fun v hv => by kernel_rfl) ?_
                  simp only [Act.put, List.setIfInBounds_toArray, List.set_cons_zero, List.set_cons_succ]
                  refine wqv (u := .int .i64 (i : Int)) (by kernel_rfl) (fun v hv => by kernel_rfl) ?_
                  simp only [Act.put, List.setIfInBounds_toArray, List.set_cons_zero, List.set_cons_succ]
                  refine wqv (u := .pointer (some ⟨ql, ol + i * 4, none⟩)) (by kernel_rfl) (fun v hv => by go_simp) ?_
                  simp only [Act.put, List.setIfInBounds_toArray, List.set_cons_zero, List.set_cons_succ]
                  refine wqv (u := .pointer (some ⟨ql, ol + i * 4 + 1, none⟩)) (by kernel_rfl) (fun v hv => by go_simp) ?_
                  simp only [Act.put, List.setIfInBounds_toArray, List.set_cons_zero, List.set_cons_succ]
                  refine wqv (u := .agg #[.int .u64 x.h, .int .u64 x.l]) (by kernel_rfl) (fun v hv => by obtain ⟨⟨y0, y1, y2, y3⟩, ⟨z0, z1, z2, z3⟩⟩ := KC.out v hv; go_simp) ?_
                  simp only [Act.put, List.setIfInBounds_toArray, List.set_cons_zero, List.set_cons_succ]
                  refine wqv (u := .pointer (some ⟨w.heap.size, 1, none⟩)) (by kernel_rfl) (fun v hv => by go_simp) ?_
                  simp only [Act.put, List.setIfInBounds_toArray, List.set_cons_zero, List.set_cons_succ]
                  refine wqv (u := .agg #[.int .u64 u.h, .int .u64 u.l]) (by kernel_rfl) (fun v hv => by obtain ⟨⟨y0, y1, y2, y3⟩, ⟨z0, z1, z2, z3⟩⟩ := KC.out v hv; go_simp) ?_
                  simp only [Act.put, List.setIfInBounds_toArray, List.set_cons_zero, List.set_cons_succ]
                  refine wqn (by kernel_rfl) rfl (.agg #[.int .u64 x.h, .int .u64 x.l]) (.agg #[.int .u64 u.h, .int .u64 u.l]) (.bool false) (by kernel_rfl) (by kernel_rfl) (fun v => (neqDr8 x.h x.l u.h u.l _ _ v).trans (by rw [HD.out])) ?_
                  simp only [Act.put, List.setIfInBounds_toArray, List.set_cons_zero, List.set_cons_succ]
                  refine wqv (u := .bool false) (by kernel_rfl) (fun v hv => by kernel_rfl) ?_
                  simp only [Act.put, List.setIfInBounds_toArray, List.set_cons_zero, List.set_cons_succ]
                  refine wqnil (fun v hv => ?_)
                  have HV := hide hv
                  clear hv
                  go_wp2
                  go_round
                  case rel => exact ⟨i + 1, by go_num, by omega, fun j y hj hy e => by
                    by_cases cj : j = i
                    · subst cj
                      rw [HG.out] at hy
                      obtain rfl := Option.some.inj hy
                      exact C2.out
                    · exact hJ.out j y (by omega) hy e, HV.out⟩
                  case measure => simp [intOf]; omega
                · have HD : Hid ((!decide (x.h = u.h ∧ x.l = u.l)) = true) := by show _ = _; rw [decide_eq_false c2]; rfl
                  clear c2
                  go_wp2_with fail
                  refine region_q9 (C := fun v => Below w4.heap.size w4 v) (by kernel_rfl) (by kernel_rfl) hbl.drew ?_
                  refine wqv (u := .slice (some ⟨ql, ol, none⟩) Ls.length cl) (by kernel_rfl) (fun v hv => by kernel_rfl) ?_
                  simp only [Act.put, List.setIfInBounds_toArray, List.set_cons_zero, List.set_cons_succ]
                  refine wqv (u := .int .i64 (i : Int)) (by kernel_rfl) (fun v hv => by kernel_rfl) ?_
                  simp only [Act.put, List.setIfInBounds_toArray, List.set_cons_zero, List.set_cons_succ]
                  refine wqv (u := .pointer (some ⟨ql, ol + i * 4, none⟩)) (by kernel_rfl) (fun v hv => by go_simp) ?_
                  simp only [Act.put, List.setIfInBounds_toArray, List.set_cons_zero, List.set_cons_succ]
                  refine wqv (u := .pointer (some ⟨ql, ol + i * 4, none⟩)) (by kernel_rfl) (fun v hv => by go_simp) ?_
                  simp only [Act.put, List.setIfInBounds_toArray, List.set_cons_zero, List.set_cons_succ]
                  refine wqv (u := .int .i64 x.n) (by kernel_rfl) (fun v hv => by obtain ⟨⟨y0, y1, y2, y3⟩, ⟨z0, z1, z2, z3⟩⟩ := KC.out v hv; go_simp) ?_
                  simp only [Act.put, List.setIfInBounds_toArray, List.set_cons_zero, List.set_cons_succ]
                  refine wqv (u := .pointer (some ⟨w.heap.size, 0, none⟩)) (by kernel_rfl) (fun v hv => by go_simp) ?_
                  simp only [Act.put, List.setIfInBounds_toArray, List.set_cons_zero, List.set_cons_succ]
                  refine wqv (u := .int .i64 u.n) (by kernel_rfl) (fun v hv => by obtain ⟨⟨y0, y1, y2, y3⟩, ⟨z0, z1, z2, z3⟩⟩ := KC.out v hv; go_simp) ?_
                  simp only [Act.put, List.setIfInBounds_toArray, List.set_cons_zero, List.set_cons_succ]
                  refine wqv (u := .bool true) (by kernel_rfl) (fun v hv => by go_simp) ?_
                  simp only [Act.put, List.setIfInBounds_toArray, List.set_cons_zero, List.set_cons_succ]
                  refine wqv (u := .bool true) (by kernel_rfl) (fun v hv => by kernel_rfl) ?_
                  simp only [Act.put, List.setIfInBounds_toArray, List.set_cons_zero, List.set_cons_succ]
                  refine wqv (u := .slice (some ⟨ql, ol, none⟩) Ls.length cl) (by kernel_rfl) (fun v hv => by kernel_rfl) ?_
                  simp only [Act.put, List.setIfInBounds_toArray, List.set_cons_zero, List.set_cons_succ]
                  refine wqv (u := .int .i64 (i : Int)) (by kernel_rfl) (fun v hv => by kernel_rfl) ?_
                  simp only [Act.put, List.setIfInBounds_toArray, List.set_cons_zero, List.set_cons_succ]
                  refine wqv (u := .pointer (some ⟨ql, ol + i * 4, none⟩)) (by kernel_rfl) (fun v hv => by go_simp) ?_
                  simp only [Act.put, List.setIfInBounds_toArray, List.set_cons_zero, List.set_cons_succ]
                  refine wqv (u := .pointer (some ⟨ql, ol + i * 4 + 1, none⟩)) (by kernel_rfl) (fun v hv => by go_simp) ?_
                  simp only [Act.put, List.setIfInBounds_toArray, List.set_cons_zero, List.set_cons_succ]
                  refine wqv (u := .agg #[.int .u64 x.h, .int .u64 x.l]) (by kernel_rfl) (fun v hv => by obtain ⟨⟨y0, y1, y2, y3⟩, ⟨z0, z1, z2, z3⟩⟩ := KC.out v hv; go_simp) ?_
                  simp only [Act.put, List.setIfInBounds_toArray, List.set_cons_zero, List.set_cons_succ]
                  refine wqv (u := .pointer (some ⟨w.heap.size, 1, none⟩)) (by kernel_rfl) (fun v hv => by go_simp) ?_
                  simp only [Act.put, List.setIfInBounds_toArray, List.set_cons_zero, List.set_cons_succ]
                  refine wqv (u := .agg #[.int .u64 u.h, .int .u64 u.l]) (by kernel_rfl) (fun v hv => by obtain ⟨⟨y0, y1, y2, y3⟩, ⟨z0, z1, z2, z3⟩⟩ := KC.out v hv; go_simp) ?_
                  simp only [Act.put, List.setIfInBounds_toArray, List.set_cons_zero, List.set_cons_succ]
                  refine wqn (by kernel_rfl) rfl (.agg #[.int .u64 x.h, .int .u64 x.l]) (.agg #[.int .u64 u.h, .int .u64 u.l]) (.bool true) (by kernel_rfl) (by kernel_rfl) (fun v => (neqDr8 x.h x.l u.h u.l _ _ v).trans (by rw [HD.out])) ?_
                  simp only [Act.put, List.setIfInBounds_toArray, List.set_cons_zero, List.set_cons_succ]
                  refine wqv (u := .bool true) (by kernel_rfl) (fun v hv => by kernel_rfl) ?_
                  simp only [Act.put, List.setIfInBounds_toArray, List.set_cons_zero, List.set_cons_succ]
                  refine wqnil (fun v hv => ?_)
                  go_wp2
                  go_ret
                  exact ⟨rfl, B6.out.trans (hv.mono (by have := B6.out.size; omega))⟩
              · have C1 := hide c1
                go_wp2_with fail
                refine region_q9 (C := fun v => Below w4.heap.size w4 v) (by kernel_rfl) (by kernel_rfl) hbl.drew ?_
                refine wqv (u := .slice (some ⟨ql, ol, none⟩) Ls.length cl) (by kernel_rfl) (fun v hv => by kernel_rfl) ?_
                simp only [Act.put, List.setIfInBounds_toArray, List.set_cons_zero, List.set_cons_succ]
                refine wqv (u := .int .i64 (i : Int)) (by kernel_rfl) (fun v hv => by kernel_rfl) ?_
                simp only [Act.put, List.setIfInBounds_toArray, List.set_cons_zero, List.set_cons_succ]
                refine wqv (u := .pointer (some ⟨ql, ol + i * 4, none⟩)) (by kernel_rfl) (fun v hv => by go_simp) ?_
                simp only [Act.put, List.setIfInBounds_toArray, List.set_cons_zero, List.set_cons_succ]
                refine wqv (u := .pointer (some ⟨ql, ol + i * 4, none⟩)) (by kernel_rfl) (fun v hv => by go_simp) ?_
                simp only [Act.put, List.setIfInBounds_toArray, List.set_cons_zero, List.set_cons_succ]
                refine wqv (u := .int .i64 x.n) (by kernel_rfl) (fun v hv => by obtain ⟨⟨y0, y1, y2, y3⟩, ⟨z0, z1, z2, z3⟩⟩ := KC.out v hv; go_simp) ?_
                simp only [Act.put, List.setIfInBounds_toArray, List.set_cons_zero, List.set_cons_succ]
                refine wqv (u := .pointer (some ⟨w.heap.size, 0, none⟩)) (by kernel_rfl) (fun v hv => by go_simp) ?_
                simp only [Act.put, List.setIfInBounds_toArray, List.set_cons_zero, List.set_cons_succ]
                refine wqv (u := .int .i64 u.n) (by kernel_rfl) (fun v hv => by obtain ⟨⟨y0, y1, y2, y3⟩, ⟨z0, z1, z2, z3⟩⟩ := KC.out v hv; go_simp) ?_
                simp only [Act.put, List.setIfInBounds_toArray, List.set_cons_zero, List.set_cons_succ]
                refine wqv (u := .bool false) (by kernel_rfl) (fun v hv => by go_simp) ?_
                simp only [Act.put, List.setIfInBounds_toArray, List.set_cons_zero, List.set_cons_succ]
                refine wqv (u := .bool false) (by kernel_rfl) (fun v hv => by kernel_rfl) ?_
                simp only [Act.put, List.setIfInBounds_toArray, List.set_cons_zero, List.set_cons_succ]
                refine wqskip (by kernel_rfl) ?_
                simp only [Act.put, List.setIfInBounds_toArray, List.set_cons_zero, List.set_cons_succ]
                refine wqskip (by kernel_rfl) ?_
                simp only [Act.put, List.setIfInBounds_toArray, List.set_cons_zero, List.set_cons_succ]
                refine wqskip (by kernel_rfl) ?_
                simp only [Act.put, List.setIfInBounds_toArray, List.set_cons_zero, List.set_cons_succ]
                refine wqskip (by kernel_rfl) ?_
                simp only [Act.put, List.setIfInBounds_toArray, List.set_cons_zero, List.set_cons_succ]
                refine wqskip (by kernel_rfl) ?_
                simp only [Act.put, List.setIfInBounds_toArray, List.set_cons_zero, List.set_cons_succ]
                refine wqskip (by kernel_rfl) ?_
                simp only [Act.put, List.setIfInBounds_toArray, List.set_cons_zero, List.set_cons_succ]
                refine wqskip (by kernel_rfl) ?_
                simp only [Act.put, List.setIfInBounds_toArray, List.set_cons_zero, List.set_cons_succ]
                refine wqskip (by kernel_rfl) ?_
                simp only [Act.put, List.setIfInBounds_toArray, List.set_cons_zero, List.set_cons_succ]
                refine wqv (u := .bool false) (by kernel_rfl) (fun v hv => by kernel_rfl) ?_
                simp only [Act.put, List.setIfInBounds_toArray, List.set_cons_zero, List.set_cons_succ]
                refine wqnil (fun v hv => ?_)
                have HV := hide hv
                clear hv
                go_wp2
                go_round
                case rel => exact ⟨i + 1, by go_num, by omega, fun j y hj hy e => by
                  by_cases cj : j = i
                  · subst cj
                    rw [HG.out] at hy
                    obtain rfl := Option.some.inj hy
                    exact absurd e C1.out
                  · exact hJ.out j y (by omega) hy e, HV.out⟩
                case measure => simp [intOf]; omega
            · obtain rfl : i = Ls.length := by omega
              have GP : Hid (k ≤ rch F O (Ak.put Ls u)) := by
                show _ ≤ _
                have h0 := rch_nonneg F O (Ak.put Ls u)
                by_cases c1 : 1 ≤ k
                · have h1 := (RG.out k c1).1 (Int.le_refl _)
                  have h2 := cnt_put k Ls u (fun x hx e => by
                    obtain ⟨j, hj, rfl⟩ := List.mem_iff_getElem.1 hx
                    exact hJ.out j _ hj (List.getElem?_eq_getElem hj) e)
                  exact (rch_ge hF1 c1).2 ⟨h1.1, by omega⟩
                · omega
              have SL5 := hide (SL4.out.later hbl)
              obtain ⟨z0, z1', z2, z3⟩ := KB.out wr (B5.out.trans (hbl.mono (by have := B5.out.size; simpa using this)))
              have cp := hide (Ak.Put_any Ls u al Ls.length cl wr SL5.out (by have := hllen.out; omega))
              unfold Ak.val at cp
              have B7 := hide (B6.out.trans (hbl.mono (by have := B6.out.size; omega)))
              clear hbl B6
              go_wp2_with fail
              refine cp.out.mono ?_
              rintro e w6 ⟨v6, rfl, o6, b6⟩
              obtain ⟨a6, c6, rfl, s6, _⟩ := o6.sl kAkA
              have cr := hide (reached_any F O (Ak.put Ls u) a6 _ c6 w6 s6 (by have := Ak.put_len Ls u; have := hllen.out; omega))
              have B8 := hide (B7.out.trans (b6.mono (by have := B7.out.size; omega)))
              clear o6 s6 b6 cp B7
              dsimp only
              go_wp2_with fail
              refine cr.out.mono ?_
              rintro e w7 ⟨rfl, b7⟩
              have g3 : k ≤ rch F O (Ak.put Ls u) := GP.out
              have B9 := hide (B8.out.trans (b7.mono (by have := B8.out.size; omega)))
              clear b7 cr GP B8
              generalize rch F O (Ak.put Ls u) = k3 at *
              dsimp only
              go_wp2
              go_ret
              exact ⟨by simp [g3], B9.out⟩
        · clear hRk
          go_wp2_with fail
          refine C1.out.mono ?_
          rintro e w3 ⟨rfl, b3⟩
          have SL3 := hide (SL.out.later b3)
          have C2 := hide (reached_any F (O + 1) Ls al Ls.length cl w3 SL3.out (by have := hllen.out; omega))
          have g1 : ¬ (k < rch (F + 1) O Ls) := by have := G1.out; omega
          generalize rch (F + 1) O Ls = k1 at *
          clear C1 G1
          dsimp only
          go_wp2_with fail
          refine C2.out.mono ?_
          rintro e w4 ⟨rfl, b4⟩
          have g2 : ¬ (rch F (O + 1) Ls < k) := by have := G2.out; omega
          generalize rch F (O + 1) Ls = k2 at *
          clear C2 G2
          have SL4 := hide (SL3.out.later b4)
          have B4 := hide (b3.trans (b4.mono (by have := b3.size; omega)))
          clear b3 b4 SL3
          dsimp only
          go_wp2_with fail
          have B5 := hide (D2.out.trans (B4.out.mono (by have := D2.out.size; simpa using this)))
          have B6 := hide (BW.out.trans (B4.out.mono (by have := BW.out.size; omega)))
          clear D2 B4 BW BX SL hwr
          go_loopw [14] (fun i wr => ∃ (i' : Nat), i = .int .i64 (i' : Int) ∧ i' ≤ Ls.length ∧ Hid (∀ (j : Nat) (x : Ak), j < i' → Ls[j]? = some x → x.n = u.n → x.h = u.h ∧ x.l = u.l) ∧ Below w4.heap.size w4 wr) (fun i _ => Ls.length - (intOf i).toNat)
          case atStart => exact ⟨0, rfl, Nat.zero_le _, fun j x h => absurd h (Nat.not_lt_zero _), Below.refl _ _⟩
          case round =>
            obtain ⟨i, rfl, hi, hJ, hbl⟩ := hrel
            by_cases hlt : i < Ls.length
            · have hg : Ls[i]? = some Ls[i] := List.getElem?_eq_getElem hlt
              obtain ⟨ql, ol, rfl, hql, x0, x1, x2, x3⟩ := SL4.out.AkA hg
              have HG := hide hg
              clear hg
              generalize Ls[i] = x at *
              have KC : Hid (∀ v, Below w4.heap.size w4 v → (v.cell? ⟨ql, ol + i * 4, none⟩ = some (.int .i64 x.n) ∧ v.cell? ⟨ql, ol + i * 4 + 1, none⟩ = some (.int .u64 x.h) ∧ v.cell? ⟨ql, ol + i * 4 + 2, none⟩ = some (.int .u64 x.l) ∧ v.cell? ⟨ql, ol + i * 4 + 3, none⟩ = some (.int .i64 x.p)) ∧ (v.cell? ⟨w.heap.size, 0, none⟩ = some (.int .i64 u.n) ∧ v.cell? ⟨w.heap.size, 1, none⟩ = some (.int .u64 u.h) ∧ v.cell? ⟨w.heap.size, 2, none⟩ = some (.int .u64 u.l) ∧ v.cell? ⟨w.heap.size, 3, none⟩ = some (.int .i64 u.p))) := fun v hv =>
                ⟨⟨(hv.cell (p := ⟨ql, _, none⟩) hql).trans x0, (hv.cell (p := ⟨ql, _, none⟩) hql).trans x1, (hv.cell (p := ⟨ql, _, none⟩) hql).trans x2, (hv.cell (p := ⟨ql, _, none⟩) hql).trans x3⟩, KB.out v (B5.out.trans (hv.mono (by have := B5.out.size; simpa using this)))⟩
              clear x0 x1 x2 x3
              by_cases c1 : x.n = u.n
              · by_cases c2 : x.h = u.h ∧ x.l = u.l
                · have HD : Hid ((!decide (x.h = u.h ∧ x.l = u.l)) = false) := by show _ = _; rw [decide_eq_true c2]; rfl
                  have C2 := hide c2
                  clear c2
                  go_wp2_with fail
                  refine region_q9 (C := fun v => Below w4.heap.size w4 v) (by kernel_rfl) (by kernel_rfl) hbl.drew ?_
                  refine wqv (u := .slice (some ⟨ql, ol, none⟩) Ls.length cl) (by kernel_rfl) (fun v hv => by kernel_rfl) ?_
                  simp only [Act.put, List.setIfInBounds_toArray, List.set_cons_zero, List.set_cons_succ]
                  refine wqv (u := .int .i64 (i : Int)) (by kernel_rfl) (fun v hv => by kernel_rfl) ?_
                  simp only [Act.put, List.setIfInBounds_toArray, List.set_cons_zero, List.set_cons_succ]
                  refine wqv (u := .pointer (some ⟨ql, ol + i * 4, none⟩)) (by kernel_rfl) (fun v hv => by go_simp) ?_
                  simp only [Act.put, List.setIfInBounds_toArray, List.set_cons_zero, List.set_cons_succ]
                  refine wqv (u := .pointer (some ⟨ql, ol + i * 4, none⟩)) (by kernel_rfl) (fun v hv => by go_simp) ?_
                  simp only [Act.put, List.setIfInBounds_toArray, List.set_cons_zero, List.set_cons_succ]
                  refine wqv (u := .int .i64 x.n) (by kernel_rfl) (fun v hv => by obtain ⟨⟨y0, y1, y2, y3⟩, ⟨z0, z1, z2, z3⟩⟩ := KC.out v hv; go_simp) ?_
                  simp only [Act.put, List.setIfInBounds_toArray, List.set_cons_zero, List.set_cons_succ]
                  refine wqv (u := .pointer (some ⟨w.heap.size, 0, none⟩)) (by kernel_rfl) (fun v hv => by go_simp) ?_
                  simp only [Act.put, List.setIfInBounds_toArray, List.set_cons_zero, List.set_cons_succ]
                  refine wqv (u := .int .i64 u.n) (by kernel_rfl) (fun v hv => by obtain ⟨⟨y0, y1, y2, y3⟩, ⟨z0, z1, z2, z3⟩⟩ := KC.out v hv; go_simp) ?_
                  simp only [Act.put, List.setIfInBounds_toArray, List.set_cons_zero, List.set_cons_succ]
                  refine wqv (u := .bool true) (by kernel_rfl) (fun v hv => by go_simp) ?_
                  simp only [Act.put, List.setIfInBounds_toArray, List.set_cons_zero, List.set_cons_succ]
                  refine wqv (u := .bool true) (by kernel_rfl) (fun v hv => by kernel_rfl) ?_
                  simp only [Act.put, List.setIfInBounds_toArray, List.set_cons_zero, List.set_cons_succ]
                  refine wqv (u := .slice (some ⟨ql, ol, none⟩) Ls.length cl) (by kernel_rfl) (fun v hv => by kernel_rfl) ?_
                  simp only [Act.put, List.setIfInBounds_toArray, List.set_cons_zero, List.set_cons_succ]
                  refine wqv (u := .int .i64 (i : Int)) (by kernel_rfl) (fun v hv => by kernel_rfl) ?_
                  simp only [Act.put, List.setIfInBounds_toArray, List.set_cons_zero, List.set_cons_succ]
                  refine wqv (u := .pointer (some ⟨ql, ol + i * 4, none⟩)) (by kernel_rfl) (fun v hv => by go_simp) ?_
                  simp only [Act.put, List.setIfInBounds_toArray, List.set_cons_zero, List.set_cons_succ]
                  refine wqv (u := .pointer (some ⟨ql, ol + i * 4 + 1, none⟩)) (by kernel_rfl) (fun v hv => by go_simp) ?_
                  simp only [Act.put, List.setIfInBounds_toArray, List.set_cons_zero, List.set_cons_succ]
                  refine wqv (u := .agg #[.int .u64 x.h, .int .u64 x.l]) (by kernel_rfl) (fun v hv => by obtain ⟨⟨y0, y1, y2, y3⟩, ⟨z0, z1, z2, z3⟩⟩ := KC.out v hv; go_simp) ?_
                  simp only [Act.put, List.setIfInBounds_toArray, List.set_cons_zero, List.set_cons_succ]
                  refine wqv (u := .pointer (some ⟨w.heap.size, 1, none⟩)) (by kernel_rfl) (fun v hv => by go_simp) ?_
                  simp only [Act.put, List.setIfInBounds_toArray, List.set_cons_zero, List.set_cons_succ]
                  refine wqv (u := .agg #[.int .u64 u.h, .int .u64 u.l]) (by kernel_rfl) (fun v hv => by obtain ⟨⟨y0, y1, y2, y3⟩, ⟨z0, z1, z2, z3⟩⟩ := KC.out v hv; go_simp) ?_
                  simp only [Act.put, List.setIfInBounds_toArray, List.set_cons_zero, List.set_cons_succ]
                  refine wqn (by kernel_rfl) rfl (.agg #[.int .u64 x.h, .int .u64 x.l]) (.agg #[.int .u64 u.h, .int .u64 u.l]) (.bool false) (by kernel_rfl) (by kernel_rfl) (fun v => (neqDr8 x.h x.l u.h u.l _ _ v).trans (by rw [HD.out])) ?_
                  simp only [Act.put, List.setIfInBounds_toArray, List.set_cons_zero, List.set_cons_succ]
                  refine wqv (u := .bool false) (by kernel_rfl) (fun v hv => by kernel_rfl) ?_
                  simp only [Act.put, List.setIfInBounds_toArray, List.set_cons_zero, List.set_cons_succ]
                  refine wqnil (fun v hv => ?_)
                  have HV := hide hv
                  clear hv
                  go_wp2
                  go_round
                  case rel => exact ⟨i + 1, by go_num, by omega, fun j y hj hy e => by
                    by_cases cj : j = i
                    · subst cj
                      rw [HG.out] at hy
                      obtain rfl := Option.some.inj hy
                      exact C2.out
                    · exact hJ.out j y (by omega) hy e, HV.out⟩
                  case measure => simp [intOf]; omega
                · have HD : Hid ((!decide (x.h = u.h ∧ x.l = u.l)) = true) := by show _ = _; rw [decide_eq_false c2]; rfl
                  clear c2
                  go_wp2_with fail
                  refine region_q9 (C := fun v => Below w4.heap.size w4 v) (by kernel_rfl) (by kernel_rfl) hbl.drew ?_
                  refine wqv (u := .slice (some ⟨ql, ol, none⟩) Ls.length cl) (by kernel_rfl) (fun v hv => by kernel_rfl) ?_
                  simp only [Act.put, List.setIfInBounds_toArray, List.set_cons_zero, List.set_cons_succ]
                  refine wqv (u := .int .i64 (i : Int)) (by kernel_rfl) (fun v hv => by kernel_rfl) ?_
                  simp only [Act.put, List.setIfInBounds_toArray, List.set_cons_zero, List.set_cons_succ]
                  refine wqv (u := .pointer (some ⟨ql, ol + i * 4, none⟩)) (by kernel_rfl) (fun v hv => by go_simp) ?_
                  simp only [Act.put, List.setIfInBounds_toArray, List.set_cons_zero, List.set_cons_succ]
                  refine wqv (u := .pointer (some ⟨ql, ol + i * 4, none⟩)) (by kernel_rfl) (fun v hv => by go_simp) ?_
                  simp only [Act.put, List.setIfInBounds_toArray, List.set_cons_zero, List.set_cons_succ]
                  refine wqv (u := .int .i64 x.n) (by kernel_rfl) (fun v hv => by obtain ⟨⟨y0, y1, y2, y3⟩, ⟨z0, z1, z2, z3⟩⟩ := KC.out v hv; go_simp) ?_
                  simp only [Act.put, List.setIfInBounds_toArray, List.set_cons_zero, List.set_cons_succ]
                  refine wqv (u := .pointer (some ⟨w.heap.size, 0, none⟩)) (by kernel_rfl) (fun v hv => by go_simp) ?_
                  simp only [Act.put, List.setIfInBounds_toArray, List.set_cons_zero, List.set_cons_succ]
                  refine wqv (u := .int .i64 u.n) (by kernel_rfl) (fun v hv => by obtain ⟨⟨y0, y1, y2, y3⟩, ⟨z0, z1, z2, z3⟩⟩ := KC.out v hv; go_simp) ?_
                  simp only [Act.put, List.setIfInBounds_toArray, List.set_cons_zero, List.set_cons_succ]
                  refine wqv (u := .bool true) (by kernel_rfl) (fun v hv => by go_simp) ?_
                  simp only [Act.put, List.setIfInBounds_toArray, List.set_cons_zero, List.set_cons_succ]
                  refine wqv (u := .bool true) (by kernel_rfl) (fun v hv => by kernel_rfl) ?_
                  simp only [Act.put, List.setIfInBounds_toArray, List.set_cons_zero, List.set_cons_succ]
                  refine wqv (u := .slice (some ⟨ql, ol, none⟩) Ls.length cl) (by kernel_rfl) (fun v hv => by kernel_rfl) ?_
                  simp only [Act.put, List.setIfInBounds_toArray, List.set_cons_zero, List.set_cons_succ]
                  refine wqv (u := .int .i64 (i : Int)) (by kernel_rfl) (fun v hv => by kernel_rfl) ?_
                  simp only [Act.put, List.setIfInBounds_toArray, List.set_cons_zero, List.set_cons_succ]
                  refine wqv (u := .pointer (some ⟨ql, ol + i * 4, none⟩)) (by kernel_rfl) (fun v hv => by go_simp) ?_
                  simp only [Act.put, List.setIfInBounds_toArray, List.set_cons_zero, List.set_cons_succ]
                  refine wqv (u := .pointer (some ⟨ql, ol + i * 4 + 1, none⟩)) (by kernel_rfl) (fun v hv => by go_simp) ?_
                  simp only [Act.put, List.setIfInBounds_toArray, List.set_cons_zero, List.set_cons_succ]
                  refine wqv (u := .agg #[.int .u64 x.h, .int .u64 x.l]) (by kernel_rfl) (fun v hv => by obtain ⟨⟨y0, y1, y2, y3⟩, ⟨z0, z1, z2, z3⟩⟩ := KC.out v hv; go_simp) ?_
                  simp only [Act.put, List.setIfInBounds_toArray, List.set_cons_zero, List.set_cons_succ]
                  refine wqv (u := .pointer (some ⟨w.heap.size, 1, none⟩)) (by kernel_rfl) (fun v hv => by go_simp) ?_
                  simp only [Act.put, List.setIfInBounds_toArray, List.set_cons_zero, List.set_cons_succ]
                  refine wqv (u := .agg #[.int .u64 u.h, .int .u64 u.l]) (by kernel_rfl) (fun v hv => by obtain ⟨⟨y0, y1, y2, y3⟩, ⟨z0, z1, z2, z3⟩⟩ := KC.out v hv; go_simp) ?_
                  simp only [Act.put, List.setIfInBounds_toArray, List.set_cons_zero, List.set_cons_succ]
                  refine wqn (by kernel_rfl) rfl (.agg #[.int .u64 x.h, .int .u64 x.l]) (.agg #[.int .u64 u.h, .int .u64 u.l]) (.bool true) (by kernel_rfl) (by kernel_rfl) (fun v => (neqDr8 x.h x.l u.h u.l _ _ v).trans (by rw [HD.out])) ?_
                  simp only [Act.put, List.setIfInBounds_toArray, List.set_cons_zero, List.set_cons_succ]
                  refine wqv (u := .bool true) (by kernel_rfl) (fun v hv => by kernel_rfl) ?_
                  simp only [Act.put, List.setIfInBounds_toArray, List.set_cons_zero, List.set_cons_succ]
                  refine wqnil (fun v hv => ?_)
                  go_wp2
                  go_ret
                  exact ⟨rfl, B6.out.trans (hv.mono (by have := B6.out.size; omega))⟩
              · have C1 := hide c1
                go_wp2_with fail
                refine region_q9 (C := fun v => Below w4.heap.size w4 v) (by kernel_rfl) (by kernel_rfl) hbl.drew ?_
                refine wqv (u := .slice (some ⟨ql, ol, none⟩) Ls.length cl) (by kernel_rfl) (fun v hv => by kernel_rfl) ?_
                simp only [Act.put, List.setIfInBounds_toArray, List.set_cons_zero, List.set_cons_succ]
                refine wqv (u := .int .i64 (i : Int)) (by kernel_rfl) (fun v hv => by kernel_rfl) ?_
                simp only [Act.put, List.setIfInBounds_toArray, List.set_cons_zero, List.set_cons_succ]
                refine wqv (u := .pointer (some ⟨ql, ol + i * 4, none⟩)) (by kernel_rfl) (fun v hv => by go_simp) ?_
                simp only [Act.put, List.setIfInBounds_toArray, List.set_cons_zero, List.set_cons_succ]
                refine wqv (u := .pointer (some ⟨ql, ol + i * 4, none⟩)) (by kernel_rfl) (fun v hv => by go_simp) ?_
                simp only [Act.put, List.setIfInBounds_toArray, List.set_cons_zero, List.set_cons_succ]
                refine wqv (u := .int .i64 x.n) (by kernel_rfl) (fun v hv => by obtain ⟨⟨y0, y1, y2, y3⟩, ⟨z0, z1, z2, z3⟩⟩ := KC.out v hv; go_simp) ?_
                simp only [Act.put, List.setIfInBounds_toArray, List.set_cons_zero, List.set_cons_succ]
                refine wqv (u := .pointer (some ⟨w.heap.size, 0, none⟩)) (by kernel_rfl) (fun v hv => by go_simp) ?_
                simp only [Act.put, List.setIfInBounds_toArray, List.set_cons_zero, List.set_cons_succ]
                refine wqv (u := .int .i64 u.n) (by kernel_rfl) (fun v hv => by obtain ⟨⟨y0, y1, y2, y3⟩, ⟨z0, z1, z2, z3⟩⟩ := KC.out v hv; go_simp) ?_
                simp only [Act.put, List.setIfInBounds_toArray, List.set_cons_zero, List.set_cons_succ]
                refine wqv (u := .bool false) (by kernel_rfl) (fun v hv => by go_simp) ?_
                simp only [Act.put, List.setIfInBounds_toArray, List.set_cons_zero, List.set_cons_succ]
                refine wqv (u := .bool false) (by kernel_rfl) (fun v hv => by kernel_rfl) ?_
                simp only [Act.put, List.setIfInBounds_toArray, List.set_cons_zero, List.set_cons_succ]
                refine wqskip (by kernel_rfl) ?_
                simp only [Act.put, List.setIfInBounds_toArray, List.set_cons_zero, List.set_cons_succ]
                refine wqskip (by kernel_rfl) ?_
                simp only [Act.put, List.setIfInBounds_toArray, List.set_cons_zero, List.set_cons_succ]
                refine wqskip (by kernel_rfl) ?_
                simp only [Act.put, List.setIfInBounds_toArray, List.set_cons_zero, List.set_cons_succ]
                refine wqskip (by kernel_rfl) ?_
                simp only [Act.put, List.setIfInBounds_toArray, List.set_cons_zero, List.set_cons_succ]
                refine wqskip (by kernel_rfl) ?_
                simp only [Act.put, List.setIfInBounds_toArray, List.set_cons_zero, List.set_cons_succ]
                refine wqskip (by kernel_rfl) ?_
                simp only [Act.put, List.setIfInBounds_toArray, List.set_cons_zero, List.set_cons_succ]
                refine wqskip (by kernel_rfl) ?_
                simp only [Act.put, List.setIfInBounds_toArray, List.set_cons_zero, List.set_cons_succ]
                refine wqskip (by kernel_rfl) ?_
                simp only [Act.put, List.setIfInBounds_toArray, List.set_cons_zero, List.set_cons_succ]
                refine wqv (u := .bool false) (by kernel_rfl) (fun v hv => by kernel_rfl) ?_
                simp only [Act.put, List.setIfInBounds_toArray, List.set_cons_zero, List.set_cons_succ]
                refine wqnil (fun v hv => ?_)
                have HV := hide hv
                clear hv
                go_wp2
                go_round
                case rel => exact ⟨i + 1, by go_num, by omega, fun j y hj hy e => by
                  by_cases cj : j = i
                  · subst cj
                    rw [HG.out] at hy
                    obtain rfl := Option.some.inj hy
                    exact absurd e C1.out
                  · exact hJ.out j y (by omega) hy e, HV.out⟩
                case measure => simp [intOf]; omega
            · obtain rfl : i = Ls.length := by omega
              have GP : Hid (k ≤ rch F O (Ak.put Ls u)) := by
                show _ ≤ _
                have h0 := rch_nonneg F O (Ak.put Ls u)
                by_cases c1 : 1 ≤ k
                · have h1 := (RG.out k c1).1 (Int.le_refl _)
                  have h2 := cnt_put k Ls u (fun x hx e => by
                    obtain ⟨j, hj, rfl⟩ := List.mem_iff_getElem.1 hx
                    exact hJ.out j _ hj (List.getElem?_eq_getElem hj) e)
                  exact (rch_ge hF1 c1).2 ⟨h1.1, by omega⟩
                · omega
              have SL5 := hide (SL4.out.later hbl)
              obtain ⟨z0, z1', z2, z3⟩ := KB.out wr (B5.out.trans (hbl.mono (by have := B5.out.size; simpa using this)))
              have cp := hide (Ak.Put_any Ls u al Ls.length cl wr SL5.out (by have := hllen.out; omega))
              unfold Ak.val at cp
              have B7 := hide (B6.out.trans (hbl.mono (by have := B6.out.size; omega)))
              clear hbl B6
              go_wp2_with fail
              refine cp.out.mono ?_
              rintro e w6 ⟨v6, rfl, o6, b6⟩
              obtain ⟨a6, c6, rfl, s6, _⟩ := o6.sl kAkA
              have cr := hide (reached_any F O (Ak.put Ls u) a6 _ c6 w6 s6 (by have := Ak.put_len Ls u; have := hllen.out; omega))
              have B8 := hide (B7.out.trans (b6.mono (by have := B7.out.size; omega)))
              clear o6 s6 b6 cp B7
              dsimp only
              go_wp2_with fail
              refine cr.out.mono ?_
              rintro e w7 ⟨rfl, b7⟩
              have g3 : k ≤ rch F O (Ak.put Ls u) := GP.out
              have B9 := hide (B8.out.trans (b7.mono (by have := B8.out.size; omega)))
              clear b7 cr GP B8
              generalize rch F O (Ak.put Ls u) = k3 at *
              dsimp only
              go_wp2
              go_ret
              exact ⟨by simp [g3], B9.out⟩
      · clear hTk
        have ck' : ¬ 0 < k := by omega
        by_cases co : k < O
        · have r1 := hRk co
          clear hRk
          go_wp2_with fail
          refine C1.out.mono ?_
          rintro e w3 ⟨rfl, b3⟩
          have SL3 := hide (SL.out.later b3)
          have C2 := hide (reached_any F (O + 1) Ls al Ls.length cl w3 SL3.out (by have := hllen.out; omega))
          have g1 : ¬ (k < rch (F + 1) O Ls) := by have := G1.out; omega
          generalize rch (F + 1) O Ls = k1 at *
          clear C1 G1
          dsimp only
          go_wp2_with fail
          refine C2.out.mono ?_
          rintro e w4 ⟨rfl, b4⟩
          have g2 : ¬ (rch F (O + 1) Ls < k) := by have := G2.out; omega
          generalize rch F (O + 1) Ls = k2 at *
          clear C2 G2
          have SL4 := hide (SL3.out.later b4)
          have B4 := hide (b3.trans (b4.mono (by have := b3.size; omega)))
          clear b3 b4 SL3
          dsimp only
          go_wp2_with fail
          have B5 := hide (D2.out.trans (B4.out.mono (by have := D2.out.size; simpa using this)))
          have B6 := hide (BW.out.trans (B4.out.mono (by have := BW.out.size; omega)))
          clear D2 B4 BW BX SL hwr
          go_loopw [14] (fun i wr => ∃ (i' : Nat), i = .int .i64 (i' : Int) ∧ i' ≤ Ls.length ∧ Hid (∀ (j : Nat) (x : Ak), j < i' → Ls[j]? = some x → x.n = u.n → x.h = u.h ∧ x.l = u.l) ∧ Below w4.heap.size w4 wr) (fun i _ => Ls.length - (intOf i).toNat)
          case atStart => exact ⟨0, rfl, Nat.zero_le _, fun j x h => absurd h (Nat.not_lt_zero _), Below.refl _ _⟩
          case round =>
            obtain ⟨i, rfl, hi, hJ, hbl⟩ := hrel
            by_cases hlt : i < Ls.length
            · have hg : Ls[i]? = some Ls[i] := List.getElem?_eq_getElem hlt
              obtain ⟨ql, ol, rfl, hql, x0, x1, x2, x3⟩ := SL4.out.AkA hg
              have HG := hide hg
              clear hg
              generalize Ls[i] = x at *
              have KC : Hid (∀ v, Below w4.heap.size w4 v → (v.cell? ⟨ql, ol + i * 4, none⟩ = some (.int .i64 x.n) ∧ v.cell? ⟨ql, ol + i * 4 + 1, none⟩ = some (.int .u64 x.h) ∧ v.cell? ⟨ql, ol + i * 4 + 2, none⟩ = some (.int .u64 x.l) ∧ v.cell? ⟨ql, ol + i * 4 + 3, none⟩ = some (.int .i64 x.p)) ∧ (v.cell? ⟨w.heap.size, 0, none⟩ = some (.int .i64 u.n) ∧ v.cell? ⟨w.heap.size, 1, none⟩ = some (.int .u64 u.h) ∧ v.cell? ⟨w.heap.size, 2, none⟩ = some (.int .u64 u.l) ∧ v.cell? ⟨w.heap.size, 3, none⟩ = some (.int .i64 u.p))) := fun v hv =>
                ⟨⟨(hv.cell (p := ⟨ql, _, none⟩) hql).trans x0, (hv.cell (p := ⟨ql, _, none⟩) hql).trans x1, (hv.cell (p := ⟨ql, _, none⟩) hql).trans x2, (hv.cell (p := ⟨ql, _, none⟩) hql).trans x3⟩, KB.out v (B5.out.trans (hv.mono (by have := B5.out.size; simpa using this)))⟩
              clear x0 x1 x2 x3
              by_cases c1 : x.n = u.n
              · by_cases c2 : x.h = u.h ∧ x.l = u.l
                · have HD : Hid ((!decide (x.h = u.h ∧ x.l = u.l)) = false) := by show _ = _; rw [decide_eq_true c2]; rfl
                  have C2 := hide c2
                  clear c2
                  go_wp2_with fail
                  refine region_q9 (C := fun v => Below w4.heap.size w4 v) (by kernel_rfl) (by kernel_rfl) hbl.drew ?_
                  refine wqv (u := .slice (some ⟨ql, ol, none⟩) Ls.length cl) (by kernel_rfl) (fun v hv => by kernel_rfl) ?_
                  simp only [Act.put, List.setIfInBounds_toArray, List.set_cons_zero, List.set_cons_succ]
                  refine wqv (u := .int .i64 (i : Int)) (by kernel_rfl) (fun v hv => by kernel_rfl) ?_
                  simp only [Act.put, List.setIfInBounds_toArray, List.set_cons_zero, List.set_cons_succ]
                  refine wqv (u := .pointer (some ⟨ql, ol + i * 4, none⟩)) (by kernel_rfl) (fun v hv => by go_simp) ?_
                  simp only [Act.put, List.setIfInBounds_toArray, List.set_cons_zero, List.set_cons_succ]
                  refine wqv (u := .pointer (some ⟨ql, ol + i * 4, none⟩)) (by kernel_rfl) (fun v hv => by go_simp) ?_
                  simp only [Act.put, List.setIfInBounds_toArray, List.set_cons_zero, List.set_cons_succ]
                  refine wqv (u := .int .i64 x.n) (by kernel_rfl) (fun v hv => by obtain ⟨⟨y0, y1, y2, y3⟩, ⟨z0, z1, z2, z3⟩⟩ := KC.out v hv; go_simp) ?_
                  simp only [Act.put, List.setIfInBounds_toArray, List.set_cons_zero, List.set_cons_succ]
                  refine wqv (u := .pointer (some ⟨w.heap.size, 0, none⟩)) (by kernel_rfl) (fun v hv => by go_simp) ?_
                  simp only [Act.put, List.setIfInBounds_toArray, List.set_cons_zero, List.set_cons_succ]
                  refine wqv (u := .int .i64 u.n) (by kernel_rfl) (fun v hv => by obtain ⟨⟨y0, y1, y2, y3⟩, ⟨z0, z1, z2, z3⟩⟩ := KC.out v hv; go_simp) ?_
                  simp only [Act.put, List.setIfInBounds_toArray, List.set_cons_zero, List.set_cons_succ]
                  refine wqv (u := .bool true) (by kernel_rfl) (fun v hv => by go_simp) ?_
                  simp only [Act.put, List.setIfInBounds_toArray, List.set_cons_zero, List.set_cons_succ]
                  refine wqv (u := .bool true) (by kernel_rfl) (fun v hv => by kernel_rfl) ?_
                  simp only [Act.put, List.setIfInBounds_toArray, List.set_cons_zero, List.set_cons_succ]
                  refine wqv (u := .slice (some ⟨ql, ol, none⟩) Ls.length cl) (by kernel_rfl) (fun v hv => by kernel_rfl) ?_
                  simp only [Act.put, List.setIfInBounds_toArray, List.set_cons_zero, List.set_cons_succ]
                  refine wqv (u := .int .i64 (i : Int)) (by kernel_rfl) (fun v hv => by kernel_rfl) ?_
                  simp only [Act.put, List.setIfInBounds_toArray, List.set_cons_zero, List.set_cons_succ]
                  refine wqv (u := .pointer (some ⟨ql, ol + i * 4, none⟩)) (by kernel_rfl) (fun v hv => by go_simp) ?_
                  simp only [Act.put, List.setIfInBounds_toArray, List.set_cons_zero, List.set_cons_succ]
                  refine wqv (u := .pointer (some ⟨ql, ol + i * 4 + 1, none⟩)) (by kernel_rfl) (fun v hv => by go_simp) ?_
                  simp only [Act.put, List.setIfInBounds_toArray, List.set_cons_zero, List.set_cons_succ]
                  refine wqv (u := .agg #[.int .u64 x.h, .int .u64 x.l]) (by kernel_rfl) (fun v hv => by obtain ⟨⟨y0, y1, y2, y3⟩, ⟨z0, z1, z2, z3⟩⟩ := KC.out v hv; go_simp) ?_
                  simp only [Act.put, List.setIfInBounds_toArray, List.set_cons_zero, List.set_cons_succ]
                  refine wqv (u := .pointer (some ⟨w.heap.size, 1, none⟩)) (by kernel_rfl) (fun v hv => by go_simp) ?_
                  simp only [Act.put, List.setIfInBounds_toArray, List.set_cons_zero, List.set_cons_succ]
                  refine wqv (u := .agg #[.int .u64 u.h, .int .u64 u.l]) (by kernel_rfl) (fun v hv => by obtain ⟨⟨y0, y1, y2, y3⟩, ⟨z0, z1, z2, z3⟩⟩ := KC.out v hv; go_simp) ?_
                  simp only [Act.put, List.setIfInBounds_toArray, List.set_cons_zero, List.set_cons_succ]
                  refine wqn (by kernel_rfl) rfl (.agg #[.int .u64 x.h, .int .u64 x.l]) (.agg #[.int .u64 u.h, .int .u64 u.l]) (.bool false) (by kernel_rfl) (by kernel_rfl) (fun v => (neqDr8 x.h x.l u.h u.l _ _ v).trans (by rw [HD.out])) ?_
                  simp only [Act.put, List.setIfInBounds_toArray, List.set_cons_zero, List.set_cons_succ]
                  refine wqv (u := .bool false) (by kernel_rfl) (fun v hv => by kernel_rfl) ?_
                  simp only [Act.put, List.setIfInBounds_toArray, List.set_cons_zero, List.set_cons_succ]
                  refine wqnil (fun v hv => ?_)
                  have HV := hide hv
                  clear hv
                  go_wp2
                  go_round
                  case rel => exact ⟨i + 1, by go_num, by omega, fun j y hj hy e => by
                    by_cases cj : j = i
                    · subst cj
                      rw [HG.out] at hy
                      obtain rfl := Option.some.inj hy
                      exact C2.out
                    · exact hJ.out j y (by omega) hy e, HV.out⟩
                  case measure => simp [intOf]; omega
                · have HD : Hid ((!decide (x.h = u.h ∧ x.l = u.l)) = true) := by show _ = _; rw [decide_eq_false c2]; rfl
                  clear c2
                  go_wp2_with fail
                  refine region_q9 (C := fun v => Below w4.heap.size w4 v) (by kernel_rfl) (by kernel_rfl) hbl.drew ?_
                  refine wqv (u := .slice (some ⟨ql, ol, none⟩) Ls.length cl) (by kernel_rfl) (fun v hv => by kernel_rfl) ?_
                  simp only [Act.put, List.setIfInBounds_toArray, List.set_cons_zero, List.set_cons_succ]
                  refine wqv (u := .int .i64 (i : Int)) (by kernel_rfl) (fun v hv => by kernel_rfl) ?_
                  simp only [Act.put, List.setIfInBounds_toArray, List.set_cons_zero, List.set_cons_succ]
                  refine wqv (u := .pointer (some ⟨ql, ol + i * 4, none⟩)) (by kernel_rfl) (fun v hv => by go_simp) ?_
                  simp only [Act.put, List.setIfInBounds_toArray, List.set_cons_zero, List.set_cons_succ]
                  refine wqv (u := .pointer (some ⟨ql, ol + i * 4, none⟩)) (by kernel_rfl) (fun v hv => by go_simp) ?_
                  simp only [Act.put, List.setIfInBounds_toArray, List.set_cons_zero, List.set_cons_succ]
                  refine wqv (u := .int .i64 x.n) (by kernel_rfl) (fun v hv => by obtain ⟨⟨y0, y1, y2, y3⟩, ⟨z0, z1, z2, z3⟩⟩ := KC.out v hv; go_simp) ?_
                  simp only [Act.put, List.setIfInBounds_toArray, List.set_cons_zero, List.set_cons_succ]
                  refine wqv (u := .pointer (some ⟨w.heap.size, 0, none⟩)) (by kernel_rfl) (fun v hv => by go_simp) ?_
                  simp only [Act.put, List.setIfInBounds_toArray, List.set_cons_zero, List.set_cons_succ]
                  refine wqv (u := .int .i64 u.n) (by kernel_rfl) (fun v hv => by obtain ⟨⟨y0, y1, y2, y3⟩, ⟨z0, z1, z2, z3⟩⟩ := KC.out v hv; go_simp) ?_
                  simp only [Act.put, List.setIfInBounds_toArray, List.set_cons_zero, List.set_cons_succ]
                  refine wqv (u := .bool true) (by kernel_rfl) (fun v hv => by go_simp) ?_
                  simp only [Act.put, List.setIfInBounds_toArray, List.set_cons_zero, List.set_cons_succ]
                  refine wqv (u := .bool true) (by kernel_rfl) (fun v hv => by kernel_rfl) ?_
                  simp only [Act.put, List.setIfInBounds_toArray, List.set_cons_zero, List.set_cons_succ]
                  refine wqv (u := .slice (some ⟨ql, ol, none⟩) Ls.length cl) (by kernel_rfl) (fun v hv => by kernel_rfl) ?_
                  simp only [Act.put, List.setIfInBounds_toArray, List.set_cons_zero, List.set_cons_succ]
                  refine wqv (u := .int .i64 (i : Int)) (by kernel_rfl) (fun v hv => by kernel_rfl) ?_
                  simp only [Act.put, List.setIfInBounds_toArray, List.set_cons_zero, List.set_cons_succ]
                  refine wqv (u := .pointer (some ⟨ql, ol + i * 4, none⟩)) (by kernel_rfl) (fun v hv => by go_simp) ?_
                  simp only [Act.put, List.setIfInBounds_toArray, List.set_cons_zero, List.set_cons_succ]
                  refine wqv (u := .pointer (some ⟨ql, ol + i * 4 + 1, none⟩)) (by kernel_rfl) (fun v hv => by go_simp) ?_
                  simp only [Act.put, List.setIfInBounds_toArray, List.set_cons_zero, List.set_cons_succ]
                  refine wqv (u := .agg #[.int .u64 x.h, .int .u64 x.l]) (by kernel_rfl) (fun v hv => by obtain ⟨⟨y0, y1, y2, y3⟩, ⟨z0, z1, z2, z3⟩⟩ := KC.out v hv; go_simp) ?_
                  simp only [Act.put, List.setIfInBounds_toArray, List.set_cons_zero, List.set_cons_succ]
                  refine wqv (u := .pointer (some ⟨w.heap.size, 1, none⟩)) (by kernel_rfl) (fun v hv => by go_simp) ?_
                  simp only [Act.put, List.setIfInBounds_toArray, List.set_cons_zero, List.set_cons_succ]
                  refine wqv (u := .agg #[.int .u64 u.h, .int .u64 u.l]) (by kernel_rfl) (fun v hv => by obtain ⟨⟨y0, y1, y2, y3⟩, ⟨z0, z1, z2, z3⟩⟩ := KC.out v hv; go_simp) ?_
                  simp only [Act.put, List.setIfInBounds_toArray, List.set_cons_zero, List.set_cons_succ]
                  refine wqn (by kernel_rfl) rfl (.agg #[.int .u64 x.h, .int .u64 x.l]) (.agg #[.int .u64 u.h, .int .u64 u.l]) (.bool true) (by kernel_rfl) (by kernel_rfl) (fun v => (neqDr8 x.h x.l u.h u.l _ _ v).trans (by rw [HD.out])) ?_
                  simp only [Act.put, List.setIfInBounds_toArray, List.set_cons_zero, List.set_cons_succ]
                  refine wqv (u := .bool true) (by kernel_rfl) (fun v hv => by kernel_rfl) ?_
                  simp only [Act.put, List.setIfInBounds_toArray, List.set_cons_zero, List.set_cons_succ]
                  refine wqnil (fun v hv => ?_)
                  go_wp2
                  go_ret
                  exact ⟨rfl, B6.out.trans (hv.mono (by have := B6.out.size; omega))⟩
              · have C1 := hide c1
                go_wp2_with fail
                refine region_q9 (C := fun v => Below w4.heap.size w4 v) (by kernel_rfl) (by kernel_rfl) hbl.drew ?_
                refine wqv (u := .slice (some ⟨ql, ol, none⟩) Ls.length cl) (by kernel_rfl) (fun v hv => by kernel_rfl) ?_
                simp only [Act.put, List.setIfInBounds_toArray, List.set_cons_zero, List.set_cons_succ]
                refine wqv (u := .int .i64 (i : Int)) (by kernel_rfl) (fun v hv => by kernel_rfl) ?_
                simp only [Act.put, List.setIfInBounds_toArray, List.set_cons_zero, List.set_cons_succ]
                refine wqv (u := .pointer (some ⟨ql, ol + i * 4, none⟩)) (by kernel_rfl) (fun v hv => by go_simp) ?_
                simp only [Act.put, List.setIfInBounds_toArray, List.set_cons_zero, List.set_cons_succ]
                refine wqv (u := .pointer (some ⟨ql, ol + i * 4, none⟩)) (by kernel_rfl) (fun v hv => by go_simp) ?_
                simp only [Act.put, List.setIfInBounds_toArray, List.set_cons_zero, List.set_cons_succ]
                refine wqv (u := .int .i64 x.n) (by kernel_rfl) (fun v hv => by obtain ⟨⟨y0, y1, y2, y3⟩, ⟨z0, z1, z2, z3⟩⟩ := KC.out v hv; go_simp) ?_
                simp only [Act.put, List.setIfInBounds_toArray, List.set_cons_zero, List.set_cons_succ]
                refine wqv (u := .pointer (some ⟨w.heap.size, 0, none⟩)) (by kernel_rfl) (fun v hv => by go_simp) ?_
                simp only [Act.put, List.setIfInBounds_toArray, List.set_cons_zero, List.set_cons_succ]
                refine wqv (u := .int .i64 u.n) (by kernel_rfl) (fun v hv => by obtain ⟨⟨y0, y1, y2, y3⟩, ⟨z0, z1, z2, z3⟩⟩ := KC.out v hv; go_simp) ?_
                simp only [Act.put, List.setIfInBounds_toArray, List.set_cons_zero, List.set_cons_succ]
                refine wqv (u := .bool false) (by kernel_rfl) (fun v hv => by go_simp) ?_
                simp only [Act.put, List.setIfInBounds_toArray, List.set_cons_zero, List.set_cons_succ]
                refine wqv (u := .bool false) (by kernel_rfl) (fun v hv => by kernel_rfl) ?_
                simp only [Act.put, List.setIfInBounds_toArray, List.set_cons_zero, List.set_cons_succ]
                refine wqskip (by kernel_rfl) ?_
                simp only [Act.put, List.setIfInBounds_toArray, List.set_cons_zero, List.set_cons_succ]
                refine wqskip (by kernel_rfl) ?_
                simp only [Act.put, List.setIfInBounds_toArray, List.set_cons_zero, List.set_cons_succ]
                refine wqskip (by kernel_rfl) ?_
                simp only [Act.put, List.setIfInBounds_toArray, List.set_cons_zero, List.set_cons_succ]
                refine wqskip (by kernel_rfl) ?_
                simp only [Act.put, List.setIfInBounds_toArray, List.set_cons_zero, List.set_cons_succ]
                refine wqskip (by kernel_rfl) ?_
                simp only [Act.put, List.setIfInBounds_toArray, List.set_cons_zero, List.set_cons_succ]
                refine wqskip (by kernel_rfl) ?_
                simp only [Act.put, List.setIfInBounds_toArray, List.set_cons_zero, List.set_cons_succ]
                refine wqskip (by kernel_rfl) ?_
                simp only [Act.put, List.setIfInBounds_toArray, List.set_cons_zero, List.set_cons_succ]
                refine wqskip (by kernel_rfl) ?_
                simp only [Act.put, List.setIfInBounds_toArray, List.set_cons_zero, List.set_cons_succ]
                refine wqv (u := .bool false) (by kernel_rfl) (fun v hv => by kernel_rfl) ?_
                simp only [Act.put, List.setIfInBounds_toArray, List.set_cons_zero, List.set_cons_succ]
                refine wqnil (fun v hv => ?_)
                have HV := hide hv
                clear hv
                go_wp2
                go_round
                case rel => exact ⟨i + 1, by go_num, by omega, fun j y hj hy e => by
                  by_cases cj : j = i
                  · subst cj
                    rw [HG.out] at hy
                    obtain rfl := Option.some.inj hy
                    exact absurd e C1.out
                  · exact hJ.out j y (by omega) hy e, HV.out⟩
                case measure => simp [intOf]; omega
            · obtain rfl : i = Ls.length := by omega
              have GP : Hid (k ≤ rch F O (Ak.put Ls u)) := by
                show _ ≤ _
                have h0 := rch_nonneg F O (Ak.put Ls u)
                by_cases c1 : 1 ≤ k
                · have h1 := (RG.out k c1).1 (Int.le_refl _)
                  have h2 := cnt_put k Ls u (fun x hx e => by
                    obtain ⟨j, hj, rfl⟩ := List.mem_iff_getElem.1 hx
                    exact hJ.out j _ hj (List.getElem?_eq_getElem hj) e)
                  exact (rch_ge hF1 c1).2 ⟨h1.1, by omega⟩
                · omega
              have SL5 := hide (SL4.out.later hbl)
              obtain ⟨z0, z1', z2, z3⟩ := KB.out wr (B5.out.trans (hbl.mono (by have := B5.out.size; simpa using this)))
              have cp := hide (Ak.Put_any Ls u al Ls.length cl wr SL5.out (by have := hllen.out; omega))
              unfold Ak.val at cp
              have B7 := hide (B6.out.trans (hbl.mono (by have := B6.out.size; omega)))
              clear hbl B6
              go_wp2_with fail
              refine cp.out.mono ?_
              rintro e w6 ⟨v6, rfl, o6, b6⟩
              obtain ⟨a6, c6, rfl, s6, _⟩ := o6.sl kAkA
              have cr := hide (reached_any F O (Ak.put Ls u) a6 _ c6 w6 s6 (by have := Ak.put_len Ls u; have := hllen.out; omega))
              have B8 := hide (B7.out.trans (b6.mono (by have := B7.out.size; omega)))
              clear o6 s6 b6 cp B7
              dsimp only
              go_wp2_with fail
              refine cr.out.mono ?_
              rintro e w7 ⟨rfl, b7⟩
              have g3 : k ≤ rch F O (Ak.put Ls u) := GP.out
              have B9 := hide (B8.out.trans (b7.mono (by have := B8.out.size; omega)))
              clear b7 cr GP B8
              generalize rch F O (Ak.put Ls u) = k3 at *
              dsimp only
              go_wp2
              go_ret
              exact ⟨by simp [g3], B9.out⟩
        · clear hRk
          go_wp2_with fail
          refine C1.out.mono ?_
          rintro e w3 ⟨rfl, b3⟩
          have SL3 := hide (SL.out.later b3)
          have C2 := hide (reached_any F (O + 1) Ls al Ls.length cl w3 SL3.out (by have := hllen.out; omega))
          have g1 : ¬ (k < rch (F + 1) O Ls) := by have := G1.out; omega
          generalize rch (F + 1) O Ls = k1 at *
          clear C1 G1
          dsimp only
          go_wp2_with fail
          refine C2.out.mono ?_
          rintro e w4 ⟨rfl, b4⟩
          have g2 : ¬ (rch F (O + 1) Ls < k) := by have := G2.out; omega
          generalize rch F (O + 1) Ls = k2 at *
          clear C2 G2
          have SL4 := hide (SL3.out.later b4)
          have B4 := hide (b3.trans (b4.mono (by have := b3.size; omega)))
          clear b3 b4 SL3
          dsimp only
          go_wp2_with fail
          have B5 := hide (D2.out.trans (B4.out.mono (by have := D2.out.size; simpa using this)))
          have B6 := hide (BW.out.trans (B4.out.mono (by have := BW.out.size; omega)))
          clear D2 B4 BW BX SL hwr
          go_loopw [14] (fun i wr => ∃ (i' : Nat), i = .int .i64 (i' : Int) ∧ i' ≤ Ls.length ∧ Hid (∀ (j : Nat) (x : Ak), j < i' → Ls[j]? = some x → x.n = u.n → x.h = u.h ∧ x.l = u.l) ∧ Below w4.heap.size w4 wr) (fun i _ => Ls.length - (intOf i).toNat)
          case atStart => exact ⟨0, rfl, Nat.zero_le _, fun j x h => absurd h (Nat.not_lt_zero _), Below.refl _ _⟩
          case round =>
            obtain ⟨i, rfl, hi, hJ, hbl⟩ := hrel
            by_cases hlt : i < Ls.length
            · have hg : Ls[i]? = some Ls[i] := List.getElem?_eq_getElem hlt
              obtain ⟨ql, ol, rfl, hql, x0, x1, x2, x3⟩ := SL4.out.AkA hg
              have HG := hide hg
              clear hg
              generalize Ls[i] = x at *
              have KC : Hid (∀ v, Below w4.heap.size w4 v → (v.cell? ⟨ql, ol + i * 4, none⟩ = some (.int .i64 x.n) ∧ v.cell? ⟨ql, ol + i * 4 + 1, none⟩ = some (.int .u64 x.h) ∧ v.cell? ⟨ql, ol + i * 4 + 2, none⟩ = some (.int .u64 x.l) ∧ v.cell? ⟨ql, ol + i * 4 + 3, none⟩ = some (.int .i64 x.p)) ∧ (v.cell? ⟨w.heap.size, 0, none⟩ = some (.int .i64 u.n) ∧ v.cell? ⟨w.heap.size, 1, none⟩ = some (.int .u64 u.h) ∧ v.cell? ⟨w.heap.size, 2, none⟩ = some (.int .u64 u.l) ∧ v.cell? ⟨w.heap.size, 3, none⟩ = some (.int .i64 u.p))) := fun v hv =>
                ⟨⟨(hv.cell (p := ⟨ql, _, none⟩) hql).trans x0, (hv.cell (p := ⟨ql, _, none⟩) hql).trans x1, (hv.cell (p := ⟨ql, _, none⟩) hql).trans x2, (hv.cell (p := ⟨ql, _, none⟩) hql).trans x3⟩, KB.out v (B5.out.trans (hv.mono (by have := B5.out.size; simpa using this)))⟩
              clear x0 x1 x2 x3
              by_cases c1 : x.n = u.n
              · by_cases c2 : x.h = u.h ∧ x.l = u.l
                · have HD : Hid ((!decide (x.h = u.h ∧ x.l = u.l)) = false) := by show _ = _; rw [decide_eq_true c2]; rfl
                  have C2 := hide c2
                  clear c2
                  go_wp2_with fail
                  refine region_q9 (C := fun v => Below w4.heap.size w4 v) (by kernel_rfl) (by kernel_rfl) hbl.drew ?_
                  refine wqv (u := .slice (some ⟨ql, ol, none⟩) Ls.length cl) (by kernel_rfl) (fun v hv => by kernel_rfl) ?_
                  simp only [Act.put, List.setIfInBounds_toArray, List.set_cons_zero, List.set_cons_succ]
                  refine wqv (u := .int .i64 (i : Int)) (by kernel_rfl) (fun v hv => by kernel_rfl) ?_
                  simp only [Act.put, List.setIfInBounds_toArray, List.set_cons_zero, List.set_cons_succ]
                  refine wqv (u := .pointer (some ⟨ql, ol + i * 4, none⟩)) (by kernel_rfl) (fun v hv => by go_simp) ?_
                  simp only [Act.put, List.setIfInBounds_toArray, List.set_cons_zero, List.set_cons_succ]
                  refine wqv (u := .pointer (some ⟨ql, ol + i * 4, none⟩)) (by kernel_rfl) (fun v hv => by go_simp) ?_
                  simp only [Act.put, List.setIfInBounds_toArray, List.set_cons_zero, List.set_cons_succ]
                  refine wqv (u := .int .i64 x.n) (by kernel_rfl) (fun v hv => by obtain ⟨⟨y0, y1, y2, y3⟩, ⟨z0, z1, z2, z3⟩⟩ := KC.out v hv; go_simp) ?_
                  simp only [Act.put, List.setIfInBounds_toArray, List.set_cons_zero, List.set_cons_succ]
                  refine wqv (u := .pointer (some ⟨w.heap.size, 0, none⟩)) (by kernel_rfl) (fun v hv => by go_simp) ?_
                  simp only [Act.put, List.setIfInBounds_toArray, List.set_cons_zero, List.set_cons_succ]
                  refine wqv (u := .int .i64 u.n) (by kernel_rfl) (fun v hv => by obtain ⟨⟨y0, y1, y2, y3⟩, ⟨z0, z1, z2, z3⟩⟩ := KC.out v hv; go_simp) ?_
                  simp only [Act.put, List.setIfInBounds_toArray, List.set_cons_zero, List.set_cons_succ]
                  refine wqv (u := .bool true) (by kernel_rfl) (fun v hv => by go_simp) ?_
                  simp only [Act.put, List.setIfInBounds_toArray, List.set_cons_zero, List.set_cons_succ]
                  refine wqv (u := .bool true) (by kernel_rfl) (fun v hv => by kernel_rfl) ?_
                  simp only [Act.put, List.setIfInBounds_toArray, List.set_cons_zero, List.set_cons_succ]
                  refine wqv (u := .slice (some ⟨ql, ol, none⟩) Ls.length cl) (by kernel_rfl) (fun v hv => by kernel_rfl) ?_
                  simp only [Act.put, List.setIfInBounds_toArray, List.set_cons_zero, List.set_cons_succ]
                  refine wqv (u := .int .i64 (i : Int)) (by kernel_rfl) (fun v hv => by kernel_rfl) ?_
                  simp only [Act.put, List.setIfInBounds_toArray, List.set_cons_zero, List.set_cons_succ]
                  refine wqv (u := .pointer (some ⟨ql, ol + i * 4, none⟩)) (by kernel_rfl) (fun v hv => by go_simp) ?_
                  simp only [Act.put, List.setIfInBounds_toArray, List.set_cons_zero, List.set_cons_succ]
                  refine wqv (u := .pointer (some ⟨ql, ol + i * 4 + 1, none⟩)) (by kernel_rfl) (fun v hv => by go_simp) ?_
                  simp only [Act.put, List.setIfInBounds_toArray, List.set_cons_zero, List.set_cons_succ]
                  refine wqv (u := .agg #[.int .u64 x.h, .int .u64 x.l]) (by kernel_rfl) (fun v hv => by obtain ⟨⟨y0, y1, y2, y3⟩, ⟨z0, z1, z2, z3⟩⟩ := KC.out v hv; go_simp) ?_
                  simp only [Act.put, List.setIfInBounds_toArray, List.set_cons_zero, List.set_cons_succ]
                  refine wqv (u := .pointer (some ⟨w.heap.size, 1, none⟩)) (by kernel_rfl) (fun v hv => by go_simp) ?_
                  simp only [Act.put, List.setIfInBounds_toArray, List.set_cons_zero, List.set_cons_succ]
                  refine wqv (u := .agg #[.int .u64 u.h, .int .u64 u.l]) (by kernel_rfl) (fun v hv => by obtain ⟨⟨y0, y1, y2, y3⟩, ⟨z0, z1, z2, z3⟩⟩ := KC.out v hv; go_simp) ?_
                  simp only [Act.put, List.setIfInBounds_toArray, List.set_cons_zero, List.set_cons_succ]
                  refine wqn (by kernel_rfl) rfl (.agg #[.int .u64 x.h, .int .u64 x.l]) (.agg #[.int .u64 u.h, .int .u64 u.l]) (.bool false) (by kernel_rfl) (by kernel_rfl) (fun v => (neqDr8 x.h x.l u.h u.l _ _ v).trans (by rw [HD.out])) ?_
                  simp only [Act.put, List.setIfInBounds_toArray, List.set_cons_zero, List.set_cons_succ]
                  refine wqv (u := .bool false) (by kernel_rfl) (fun v hv => by kernel_rfl) ?_
                  simp only [Act.put, List.setIfInBounds_toArray, List.set_cons_zero, List.set_cons_succ]
                  refine wqnil (fun v hv => ?_)
                  have HV := hide hv
                  clear hv
                  go_wp2
                  go_round
                  case rel => exact ⟨i + 1, by go_num, by omega, fun j y hj hy e => by
                    by_cases cj : j = i
                    · subst cj
                      rw [HG.out] at hy
                      obtain rfl := Option.some.inj hy
                      exact C2.out
                    · exact hJ.out j y (by omega) hy e, HV.out⟩
                  case measure => simp [intOf]; omega
                · have HD : Hid ((!decide (x.h = u.h ∧ x.l = u.l)) = true) := by show _ = _; rw [decide_eq_false c2]; rfl
                  clear c2
                  go_wp2_with fail
                  refine region_q9 (C := fun v => Below w4.heap.size w4 v) (by kernel_rfl) (by kernel_rfl) hbl.drew ?_
                  refine wqv (u := .slice (some ⟨ql, ol, none⟩) Ls.length cl) (by kernel_rfl) (fun v hv => by kernel_rfl) ?_
                  simp only [Act.put, List.setIfInBounds_toArray, List.set_cons_zero, List.set_cons_succ]
                  refine wqv (u := .int .i64 (i : Int)) (by kernel_rfl) (fun v hv => by kernel_rfl) ?_
                  simp only [Act.put, List.setIfInBounds_toArray, List.set_cons_zero, List.set_cons_succ]
                  refine wqv (u := .pointer (some ⟨ql, ol + i * 4, none⟩)) (by kernel_rfl) (fun v hv => by go_simp) ?_
                  simp only [Act.put, List.setIfInBounds_toArray, List.set_cons_zero, List.set_cons_succ]
                  refine wqv (u := .pointer (some ⟨ql, ol + i * 4, none⟩)) (by kernel_rfl) (fun v hv => by go_simp) ?_
                  simp only [Act.put, List.setIfInBounds_toArray, List.set_cons_zero, List.set_cons_succ]
                  refine wqv (u := .int .i64 x.n) (by kernel_rfl) (fun v hv => by obtain ⟨⟨y0, y1, y2, y3⟩, ⟨z0, z1, z2, z3⟩⟩ := KC.out v hv; go_simp) ?_
                  simp only [Act.put, List.setIfInBounds_toArray, List.set_cons_zero, List.set_cons_succ]
                  refine wqv (u := .pointer (some ⟨w.heap.size, 0, none⟩)) (by kernel_rfl) (fun v hv => by go_simp) ?_
                  simp only [Act.put, List.setIfInBounds_toArray, List.set_cons_zero, List.set_cons_succ]
                  refine wqv (u := .int .i64 u.n) (by kernel_rfl) (fun v hv => by obtain ⟨⟨y0, y1, y2, y3⟩, ⟨z0, z1, z2, z3⟩⟩ := KC.out v hv; go_simp) ?_
                  simp only [Act.put, List.setIfInBounds_toArray, List.set_cons_zero, List.set_cons_succ]
                  refine wqv (u := .bool true) (by kernel_rfl) (fun v hv => by go_simp) ?_
                  simp only [Act.put, List.setIfInBounds_toArray, List.set_cons_zero, List.set_cons_succ]
                  refine wqv (u := .bool true) (by kernel_rfl) (fun v hv => by kernel_rfl) ?_
                  simp only [Act.put, List.setIfInBounds_toArray, List.set_cons_zero, List.set_cons_succ]
                  refine wqv (u := .slice (some ⟨ql, ol, none⟩) Ls.length cl) (by kernel_rfl) (fun v hv => by kernel_rfl) ?_
                  simp only [Act.put, List.setIfInBounds_toArray, List.set_cons_zero, List.set_cons_succ]
                  refine wqv (u := .int .i64 (i : Int)) (by kernel_rfl) (fun v hv => by kernel_rfl) ?_
                  simp only [Act.put, List.setIfInBounds_toArray, List.set_cons_zero, List.set_cons_succ]
                  refine wqv (u := .pointer (some ⟨ql, ol + i * 4, none⟩)) (by kernel_rfl) (fun v hv => by go_simp) ?_
                  simp only [Act.put, List.setIfInBounds_toArray, List.set_cons_zero, List.set_cons_succ]
                  refine wqv (u := .pointer (some ⟨ql, ol + i * 4 + 1, none⟩)) (by kernel_rfl) (fun v hv => by go_simp) ?_
                  simp only [Act.put, List.setIfInBounds_toArray, List.set_cons_zero, List.set_cons_succ]
                  refine wqv (u := .agg #[.int .u64 x.h, .int .u64 x.l]) (by kernel_rfl) (fun v hv => by obtain ⟨⟨y0, y1, y2, y3⟩, ⟨z0, z1, z2, z3⟩⟩ := KC.out v hv; go_simp) ?_
                  simp only [Act.put, List.setIfInBounds_toArray, List.set_cons_zero, List.set_cons_succ]
                  refine wqv (u := .pointer (some ⟨w.heap.size, 1, none⟩)) (by kernel_rfl) (fun v hv => by go_simp) ?_
                  simp only [Act.put, List.setIfInBounds_toArray, List.set_cons_zero, List.set_cons_succ]
                  refine wqv (u := .agg #[.int .u64 u.h, .int .u64 u.l]) (by kernel_rfl) (fun v hv => by obtain ⟨⟨y0, y1, y2, y3⟩, ⟨z0, z1, z2, z3⟩⟩ := KC.out v hv; go_simp) ?_
                  simp only [Act.put, List.setIfInBounds_toArray, List.set_cons_zero, List.set_cons_succ]
                  refine wqn (by kernel_rfl) rfl (.agg #[.int .u64 x.h, .int .u64 x.l]) (.agg #[.int .u64 u.h, .int .u64 u.l]) (.bool true) (by kernel_rfl) (by kernel_rfl) (fun v => (neqDr8 x.h x.l u.h u.l _ _ v).trans (by rw [HD.out])) ?_
                  simp only [Act.put, List.setIfInBounds_toArray, List.set_cons_zero, List.set_cons_succ]
                  refine wqv (u := .bool true) (by kernel_rfl) (fun v hv => by kernel_rfl) ?_
                  simp only [Act.put, List.setIfInBounds_toArray, List.set_cons_zero, List.set_cons_succ]
                  refine wqnil (fun v hv => ?_)
                  go_wp2
                  go_ret
                  exact ⟨rfl, B6.out.trans (hv.mono (by have := B6.out.size; omega))⟩
              · have C1 := hide c1
                go_wp2_with fail
                refine region_q9 (C := fun v => Below w4.heap.size w4 v) (by kernel_rfl) (by kernel_rfl) hbl.drew ?_
                refine wqv (u := .slice (some ⟨ql, ol, none⟩) Ls.length cl) (by kernel_rfl) (fun v hv => by kernel_rfl) ?_
                simp only [Act.put, List.setIfInBounds_toArray, List.set_cons_zero, List.set_cons_succ]
                refine wqv (u := .int .i64 (i : Int)) (by kernel_rfl) (fun v hv => by kernel_rfl) ?_
                simp only [Act.put, List.setIfInBounds_toArray, List.set_cons_zero, List.set_cons_succ]
                refine wqv (u := .pointer (some ⟨ql, ol + i * 4, none⟩)) (by kernel_rfl) (fun v hv => by go_simp) ?_
                simp only [Act.put, List.setIfInBounds_toArray, List.set_cons_zero, List.set_cons_succ]
                refine wqv (u := .pointer (some ⟨ql, ol + i * 4, none⟩)) (by kernel_rfl) (fun v hv => by go_simp) ?_
                simp only [Act.put, List.setIfInBounds_toArray, List.set_cons_zero, List.set_cons_succ]
                refine wqv (u := .int .i64 x.n) (by kernel_rfl) (fun v hv => by obtain ⟨⟨y0, y1, y2, y3⟩, ⟨z0, z1, z2, z3⟩⟩ := KC.out v hv; go_simp) ?_
                simp only [Act.put, List.setIfInBounds_toArray, List.set_cons_zero, List.set_cons_succ]
                refine wqv (u := .pointer (some ⟨w.heap.size, 0, none⟩)) (by kernel_rfl) (fun v hv => by go_simp) ?_
                simp only [Act.put, List.setIfInBounds_toArray, List.set_cons_zero, List.set_cons_succ]
                refine wqv (u := .int .i64 u.n) (by kernel_rfl) (fun v hv => by obtain ⟨⟨y0, y1, y2, y3⟩, ⟨z0, z1, z2, z3⟩⟩ := KC.out v hv; go_simp) ?_
                simp only [Act.put, List.setIfInBounds_toArray, List.set_cons_zero, List.set_cons_succ]
                refine wqv (u := .bool false) (by kernel_rfl) (fun v hv => by go_simp) ?_
                simp only [Act.put, List.setIfInBounds_toArray, List.set_cons_zero, List.set_cons_succ]
                refine wqv (u := .bool false) (by kernel_rfl) (fun v hv => by kernel_rfl) ?_
                simp only [Act.put, List.setIfInBounds_toArray, List.set_cons_zero, List.set_cons_succ]
                refine wqskip (by kernel_rfl) ?_
                simp only [Act.put, List.setIfInBounds_toArray, List.set_cons_zero, List.set_cons_succ]
                refine wqskip (by kernel_rfl) ?_
                simp only [Act.put, List.setIfInBounds_toArray, List.set_cons_zero, List.set_cons_succ]
                refine wqskip (by kernel_rfl) ?_
                simp only [Act.put, List.setIfInBounds_toArray, List.set_cons_zero, List.set_cons_succ]
                refine wqskip (by kernel_rfl) ?_
                simp only [Act.put, List.setIfInBounds_toArray, List.set_cons_zero, List.set_cons_succ]
                refine wqskip (by kernel_rfl) ?_
                simp only [Act.put, List.setIfInBounds_toArray, List.set_cons_zero, List.set_cons_succ]
                refine wqskip (by kernel_rfl) ?_
                simp only [Act.put, List.setIfInBounds_toArray, List.set_cons_zero, List.set_cons_succ]
                refine wqskip (by kernel_rfl) ?_
                simp only [Act.put, List.setIfInBounds_toArray, List.set_cons_zero, List.set_cons_succ]
                refine wqskip (by kernel_rfl) ?_
                simp only [Act.put, List.setIfInBounds_toArray, List.set_cons_zero, List.set_cons_succ]
                refine wqv (u := .bool false) (by kernel_rfl) (fun v hv => by kernel_rfl) ?_
                simp only [Act.put, List.setIfInBounds_toArray, List.set_cons_zero, List.set_cons_succ]
                refine wqnil (fun v hv => ?_)
                have HV := hide hv
                clear hv
                go_wp2
                go_round
                case rel => exact ⟨i + 1, by go_num, by omega, fun j y hj hy e => by
                  by_cases cj : j = i
                  · subst cj
                    rw [HG.out] at hy
                    obtain rfl := Option.some.inj hy
                    exact absurd e C1.out
                  · exact hJ.out j y (by omega) hy e, HV.out⟩
                case measure => simp [intOf]; omega
            · obtain rfl : i = Ls.length := by omega
              have GP : Hid (k ≤ rch F O (Ak.put Ls u)) := by
                show _ ≤ _
                have h0 := rch_nonneg F O (Ak.put Ls u)
                by_cases c1 : 1 ≤ k
                · have h1 := (RG.out k c1).1 (Int.le_refl _)
                  have h2 := cnt_put k Ls u (fun x hx e => by
                    obtain ⟨j, hj, rfl⟩ := List.mem_iff_getElem.1 hx
                    exact hJ.out j _ hj (List.getElem?_eq_getElem hj) e)
                  exact (rch_ge hF1 c1).2 ⟨h1.1, by omega⟩
                · omega
              have SL5 := hide (SL4.out.later hbl)
              obtain ⟨z0, z1', z2, z3⟩ := KB.out wr (B5.out.trans (hbl.mono (by have := B5.out.size; simpa using this)))
              have cp := hide (Ak.Put_any Ls u al Ls.length cl wr SL5.out (by have := hllen.out; omega))
              unfold Ak.val at cp
              have B7 := hide (B6.out.trans (hbl.mono (by have := B6.out.size; omega)))
              clear hbl B6
              go_wp2_with fail
              refine cp.out.mono ?_
              rintro e w6 ⟨v6, rfl, o6, b6⟩
              obtain ⟨a6, c6, rfl, s6, _⟩ := o6.sl kAkA
              have cr := hide (reached_any F O (Ak.put Ls u) a6 _ c6 w6 s6 (by have := Ak.put_len Ls u; have := hllen.out; omega))
              have B8 := hide (B7.out.trans (b6.mono (by have := B7.out.size; omega)))
              clear o6 s6 b6 cp B7
              dsimp only
              go_wp2_with fail
              refine cr.out.mono ?_
              rintro e w7 ⟨rfl, b7⟩
              have g3 : k ≤ rch F O (Ak.put Ls u) := GP.out
              have B9 := hide (B8.out.trans (b7.mono (by have := B8.out.size; omega)))
              clear b7 cr GP B8
              generalize rch F O (Ak.put Ls u) = k3 at *
              dsimp only
              go_wp2
              go_ret
              exact ⟨by simp [g3], B9.out⟩

end Go.Proofs.Ytnhonkgondljjaa

namespace Go.Proofs.Ytnhonkgondljjaa
open Go.ChangeShapes Go.WideShapes Go.ChangeAt Go.RowKit Go.Maps
open Classical
set_option linter.unusedVariables false
set_option linter.unusedSimpArgs false

set_option maxRecDepth 100000 in
/-- An acknowledgement by value that came in. -/
theorem open_ack {H : Type} {enc : TypeId × Value → H} {W : World} {base : Nat} {v : Value} {d : DataW H} {p : List MemPlace} (hv : Value.okWide Try.prog W .any base 55 v) (h : DataW.Trod enc Try.prog W 0 (fun _ => true) true 55 v d p) :
    ∃ x : Ak, v = .agg #[.int .i64 x.n, .int .u64 x.h, .int .u64 x.l, .int .i64 x.p] ∧ True := by
  obtain ⟨cs, rfl, hsz⟩ := okWide_struct Try.underlying55 hv
  obtain ⟨fuel, hf⟩ := h
  obtain ⟨o, _, e⟩ := open_akc hf
  refine ⟨o, ?_, trivial⟩
  have e : cs.toList = [.int .i64 o.n, .int .u64 o.h, .int .u64 o.l, .int .i64 o.p] := by simp only [Value.cells] at e; exact e
  have : cs = #[.int .i64 o.n, .int .u64 o.h, .int .u64 o.l, .int .i64 o.p] := by rw [← Array.toList_inj]; exact e
  rw [this]
theorem quorum_came (f own : Int) (a : Option Addr) (len cap : Nat) (x : Ak) (W : World) (h : CameAk W a len cap) :
    Calls Try.prog 8 #[.int .i64 f, .int .i64 own, .slice a len cap, .agg #[.int .i64 x.n, .int .u64 x.h, .int .u64 x.l, .int .i64 x.p]] W fun e w' => e = .returned (.bool true) ∧ Below W.heap.size W w' := by
  obtain ⟨P, hs, hm⟩ := h
  exact quorum_walk f own P a len cap x W hs hm

end Go.Proofs.Ytnhonkgondljjaa

