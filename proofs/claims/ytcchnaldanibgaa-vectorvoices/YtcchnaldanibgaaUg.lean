import Derived.Test.YtcchnaldanibgaaUf
namespace Go.Proofs.Ytcchnaldanibgaa
open Go.RowKit
set_option linter.unusedVariables false
set_option linter.unusedSimpArgs false

theorem wp_region_quietC {P : Program} {C : World → Prop} {id : Nat} {Q : Exit → Act → World → Prop} {a : Act} {w : World} {l : List Oper} (hm : P.follows .mixedOrders = true) (hB : Region.lexB .any l.toArray = true) (hC : C w.drew)
    (h : wpQuiet P l.toArray C (fun a' => ∀ w', C w' → Q .normal a' w') l a) : (Code.region id l.toArray true).wp P Q a w :=
  wp_region_quiet (C := C) hm hB hC (by simpa using h)
set_option maxRecDepth 100000 in
set_option maxHeartbeats 1000000 in
theorem refvoices_any (L : List Voi) (a : Option Addr) (n c : Nat) (w : World) (h : SlW w a n c L) :
    Calls Try.prog 52 #[.slice a n c] w fun e w' => ((okAll L ∧ e = .returned (.int .i64 0)) ∨ (¬ okAll L ∧ e = .returned (.int .i64 30))) ∧ Below w.heap.size w w' := by
  have HW := hide h
  have k1 := h.cap
  have k2 := h.max
  have LN := hide h.len
  unfold maxLen at k2
  clear h
  go_enter Try.func52, Try.ntmps52
  go_wp2_with fail
  go_loopw [3] (fun i wr => ∃ (k : Nat), i = .int .i64 (k : Int) ∧ k ≤ n ∧ (∀ m, m ∈ L.take k → mayv m.node m.x.D.length ∧ m.x.D.length = (vD L 0).length) ∧ Below w.heap.size w wr) (fun i _ => n - (intOf i).toNat)
  case atStart => exact ⟨0, rfl, Nat.zero_le _, (fun m hm => by cases hm), Below.refl _ _⟩
  case round =>
    obtain ⟨k, rfl, hk, hall, hb⟩ := hrel
    have hsz := hb.size
    by_cases hlt : k < n
    · have hlL : k < L.length := by rw [LN.out]; exact hlt
      obtain ⟨q, o, rfl, hq, hlie⟩ := HW.out.at_ (by rintro rfl; simp at hlL)
      have hy := vAt_get hlL
      have n0 : 0 < n := by omega
      have hmem := vAt_mem hlL
      obtain ⟨p0, p1, _⟩ := hlie k _ hy
      have r1 := (hlie 0 _ (vAt_get (by omega))).2.1
      rw [Nat.zero_mul, Nat.add_zero] at r1
      have ST : Hid (L.take (k + 1) = L.take k ++ [vAt L k]) := by show _ = _; rw [List.take_add_one, hy]; rfl
      have HA := hide hall
      have hD0 : (vAt L 0).x.D.length = (vD L 0).length := rfl
      rw [hD0] at r1
      have KS : ∀ v, Below w.heap.size w v → (Below w.heap.size w v ∧ v.cell? ⟨q, o + k * 2, none⟩ = some (.int .i64 (vAt L k).node) ∧ v.cell? ⟨q, o + k * 2 + 1, none⟩ = some (.slice (vAt L k).x.a (vAt L k).x.D.length (vAt L k).x.c) ∧ v.cell? ⟨q, o + 1, none⟩ = some (.slice (vAt L 0).x.a (vD L 0).length (vAt L 0).x.c)) := fun v b =>
        ⟨b, (b.cell (p := ⟨q, o + k * 2, none⟩) hq).trans p0, (b.cell (p := ⟨q, o + k * 2 + 1, none⟩) hq).trans p1, (b.cell (p := ⟨q, o + 1, none⟩) hq).trans r1⟩
      have KH := hide KS
      have HV := hide (fun w => refmayv_any (vAt L k).x.a (vAt L k).x.D.length (vAt L k).x.c (vAt L k).node w)
      have GOODC : Hid (mayv (vAt L k).node (vAt L k).x.D.length → (vAt L k).x.D.length = (vD L 0).length → ∀ m, m ∈ L.take (k + 1) → mayv m.node m.x.D.length ∧ m.x.D.length = (vD L 0).length) := fun g1 g2 m hm => by
        rw [ST.out, List.mem_append, List.mem_singleton] at hm
        rcases hm with hm | rfl
        · exact HA.out m hm
        · exact ⟨g1, g2⟩
      have BADC : Hid (¬ (mayv (vAt L k).node (vAt L k).x.D.length ∧ (vAt L k).x.D.length = (vD L 0).length) → ¬ okAll L) := fun hh hok => hh (hok _ hmem)
      clear KS hy p0 p1 r1 hlie hall hmem hD0 ST HA
      generalize (vAt L k).x.a = ya at *
      generalize (vAt L k).x.c = yc at *
      generalize (vAt L k).node = yn at *
      generalize (vAt L k).x.D.length = yl at *
      generalize (vAt L 0).x.a = za at *
      generalize (vAt L 0).x.c = zc at *
      generalize (vD L 0).length = zl at *
      by_cases hm : mayv yn yl
      · rw [decide_eq_true hm] at HV
        by_cases hl : yl = zl
        · subst hl
          have G := hide (GOODC.out hm rfl)
          clear GOODC BADC hm
          go_wp2_with fail
          go_region_held3 (fun v => Below w.heap.size w v ∧ v.cell? ⟨q, o + k * 2, none⟩ = some (.int .i64 yn) ∧ v.cell? ⟨q, o + k * 2 + 1, none⟩ = some (.slice ya yl yc) ∧ v.cell? ⟨q, o + 1, none⟩ = some (.slice za yl zc))
            (first | exact KH.out _ hb.drew | exact KH.out _ (by assumption))
            (first
              | (go_at_call 54; refine (HV.out _).mono ?_; rintro e v ⟨rfl, bv⟩; have bb : Below w.heap.size w v := Below.on (Nat.le_refl _) (by first | assumption | exact hb.drew) bv; clear bv))
          all_goals
            go_wp2
            go_round
            case rel => exact ⟨k + 1, by go_num, by omega, G.out, by assumption⟩
            case measure => simp [intOf]; omega
        · have BAD := hide (BADC.out (fun h => hl h.2))
          have f1 : ((yl : Int) == (zl : Int)) = false := by simp; omega
          have f2 : ((yl : Int) != (zl : Int)) = true := by simp; omega
          clear GOODC BADC hm
          go_wp2_with fail
          go_region_held3 (fun v => Below w.heap.size w v ∧ v.cell? ⟨q, o + k * 2, none⟩ = some (.int .i64 yn) ∧ v.cell? ⟨q, o + k * 2 + 1, none⟩ = some (.slice ya yl yc) ∧ v.cell? ⟨q, o + 1, none⟩ = some (.slice za zl zc))
            (first | exact KH.out _ hb.drew | exact KH.out _ (by assumption))
            (first
              | (go_at_call 54; refine (HV.out _).mono ?_; rintro e v ⟨rfl, bv⟩; have bb : Below w.heap.size w v := Below.on (Nat.le_refl _) (by first | assumption | exact hb.drew) bv; clear bv))
          all_goals
            go_wp2
            go_ret
            exact ⟨.inr ⟨BAD.out, rfl⟩, by assumption⟩
      · rw [decide_eq_false hm] at HV
        have BAD := hide (BADC.out (fun h => hm h.1))
        clear GOODC BADC hm
        go_wp2_with fail
        refine wp_region_quietC (C := fun v => Below w.heap.size w v ∧ v.cell? ⟨q, o + k * 2, none⟩ = some (.int .i64 yn) ∧ v.cell? ⟨q, o + k * 2 + 1, none⟩ = some (.slice ya yl yc) ∧ v.cell? ⟨q, o + 1, none⟩ = some (.slice za zl zc)) (by kernel_rfl) (by kernel_rfl) (KH.out _ hb.drew) ?_
        refine BigFrame.wpQuiet_want (by rfl) (fun K hK => ⟨.slice (some ⟨q, o, none⟩) n c, fun w' hw' => ?_, hK _ ?_⟩)
        · go_simp
        clear hK
        simp only [Act.put, List.setIfInBounds_toArray, List.set_cons_zero, List.set_cons_succ]
        refine BigFrame.wpQuiet_want (by rfl) (fun K hK => ⟨.int .i64 (k : Int), fun w' hw' => ?_, hK _ ?_⟩)
        · go_simp
        clear hK
        simp only [Act.put, List.setIfInBounds_toArray, List.set_cons_zero, List.set_cons_succ]
        refine BigFrame.wpQuiet_want (by rfl) (fun K hK => ⟨.pointer (some ⟨q, o + k * 2, none⟩), fun w' hw' => ?_, hK _ ?_⟩)
        · go_simp
        clear hK
        simp only [Act.put, List.setIfInBounds_toArray, List.set_cons_zero, List.set_cons_succ]
        refine BigFrame.wpQuiet_want (by rfl) (fun K hK => ⟨.agg #[.int .i64 yn, .slice ya yl yc], fun w' hw' => ?_, hK _ ?_⟩)
        · (obtain ⟨_, e1, e2, _⟩ := hw'; go_simp)
        clear hK
        simp only [Act.put, List.setIfInBounds_toArray, List.set_cons_zero, List.set_cons_succ]
        refine BigFrame.wpQuiet_want (by rfl) (fun K hK => ⟨.bool false, fun w' hw' => ?_, hK _ ?_⟩)
        · (go_simp; exact (HV.out w').mono (fun e w'' ⟨he, bv⟩ => ⟨he, KH.out w'' (Below.on (Nat.le_refl _) hw'.1 bv)⟩))
        clear hK
        simp only [Act.put, List.setIfInBounds_toArray, List.set_cons_zero, List.set_cons_succ]
        refine BigFrame.wpQuiet_want (by rfl) (fun K hK => ⟨.bool true, fun w' hw' => ?_, hK _ ?_⟩)
        · go_simp
        clear hK
        simp only [Act.put, List.setIfInBounds_toArray, List.set_cons_zero, List.set_cons_succ]
        refine BigFrame.wpQuiet_want (by rfl) (fun K hK => ⟨.bool true, fun w' hw' => ?_, hK _ ?_⟩)
        · go_simp
        clear hK
        simp only [Act.put, List.setIfInBounds_toArray, List.set_cons_zero, List.set_cons_succ]
        go_big_quiet_skip
        go_big_quiet_skip
        go_big_quiet_skip
        go_big_quiet_skip
        go_big_quiet_skip
        go_big_quiet_skip
        go_big_quiet_skip
        go_big_quiet_skip
        go_big_quiet_skip
        go_big_quiet_skip
        go_big_quiet_skip
        go_big_quiet_skip
        refine BigFrame.wpQuiet_want (by rfl) (fun K hK => ⟨.bool true, fun w' hw' => ?_, hK _ ?_⟩)
        · go_simp
        clear hK
        simp only [Act.put, List.setIfInBounds_toArray, List.set_cons_zero, List.set_cons_succ]
        refine wpQuiet_nil ?_
        rintro v ⟨bb, _⟩
        go_wp2
        go_ret
        exact ⟨.inr ⟨BAD.out, rfl⟩, bb⟩
    · obtain rfl : k = n := by omega
      rw [List.take_of_length_le (by rw [LN.out]; exact Nat.le_refl _)] at hall
      have G : Hid (okAll L) := hall
      clear hall
      go_wp2
      go_ret
      exact ⟨.inl ⟨G.out, rfl⟩, hb⟩

end Go.Proofs.Ytcchnaldanibgaa
