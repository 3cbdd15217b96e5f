import Derived.Test.YtegfbebhgihcaaaNk8
namespace Go.Proofs.Ytegfbebhgihcaaa
open Go.RowKit Go.Maps
set_option linter.unusedVariables false
set_option linter.unusedSimpArgs false

variable {w w' : World} {b mb n : Nat} {nn cc : Int} {pv rv : Value} {P R : List Pk} {M : Int → List UInt8 → Nat}
set_option maxRecDepth 100000 in
theorem netnew_any (a c : Int) (w : World) (h : 1 ≤ a ∧ a ≤ 7 ∧ 0 ≤ c ∧ c ≤ 16) : Calls Try.prog 10 #[.int .i64 a, .int .i64 c] w fun e w' => ∃ b mb, e = .returned (.tuple #[.pointer (some ⟨b, 0, none⟩), .int .i64 0]) ∧ Net w' b a c (.slice none 0 0) (.slice none 0 0) mb 0 [] [] (fun _ _ => 0) ∧ w.heap.size ≤ b ∧ w.heap.size ≤ mb ∧ Below w.heap.size w w' := by
  obtain ⟨h1, h2, h3, h4⟩ := h
  have e1 : ¬ a < 1 := by omega
  have e2 : ¬ 7 < a := by omega
  have e3 : ¬ c < 0 := by omega
  have e4 : ¬ 16 < c := by omega
  have hmm := @run_makeMap Try.prog
  have HM := hide (MapK.made w)
  clear h1 h2 h3 h4
  go_enter Try.func10, Try.ntmps10
  go_wp2
  refine bodyPost_ret (results_tmp2 rfl _ _ _) rfl ⟨w.heap.size + 1, rfl, w.heap.size, ?_, by omega, Nat.le_refl _, ?_⟩
  · have hB : Below (w.alloc (.map #[] 0)).heap.size (w.alloc (.map #[] 0)) ((w.alloc (.map #[] 0)).alloc (.cells #[.int .i64 a, .int .i64 c, .slice none 0 0, .slice none 0 0, .map (some w.heap.size)] 84)) := (Below.refl _ _).alloc (Nat.le_refl _) _
    refine ⟨by simp, by simp, by simp, by simp, by simp, by simp, fun i => by simp, .inl (OwnY.nil _ _ _), OwnY.nil _ _ _, ⟨_, HM.out.upd (S := fun _ => False) (Upd.of_below hB) id, fun t s => ⟨rfl, by show (0 : Nat) < _; decide⟩⟩, by simp, by omega, by simp [Value.ownBlock], by simp [Value.ownBlock], by simp [Value.ownBlock], by simp [Value.ownBlock], by simp [Value.ownBlock], by simp [Value.ownBlock], by simp, by simp⟩
  · exact bel8 ((Below.refl _ _).alloc (Nat.le_refl _) _) (Nat.le_refl _) _
set_option maxRecDepth 100000 in
theorem netnew_bad (a c : Int) (w : World) (h : a < 1 ∨ 7 < a ∨ c < 0 ∨ 16 < c) : Calls Try.prog 10 #[.int .i64 a, .int .i64 c] w fun e w' => e = .returned (.tuple #[.pointer none, .int .i64 3]) ∧ w' = w := by
  by_cases e1 : a < 1
  · have d1 : decide (a < 1) = true := decide_eq_true e1
    go_enter Try.func10, Try.ntmps10
    go_wp2
    exact bodyPost_ret (results_tmp2 rfl _ _ _) rfl ⟨rfl, rfl⟩
  · have d1 : decide (a < 1) = false := decide_eq_false e1
    by_cases e2 : 7 < a
    · have d2 : decide (7 < a) = true := decide_eq_true e2
      go_enter Try.func10, Try.ntmps10
      go_wp2
      exact bodyPost_ret (results_tmp2 rfl _ _ _) rfl ⟨rfl, rfl⟩
    · have d2 : decide (7 < a) = false := decide_eq_false e2
      by_cases e3 : c < 0
      · have d3 : decide (c < 0) = true := decide_eq_true e3
        go_enter Try.func10, Try.ntmps10
        go_wp2
        exact bodyPost_ret (results_tmp2 rfl _ _ _) rfl ⟨rfl, rfl⟩
      · have d3 : decide (c < 0) = false := decide_eq_false e3
        have e4 : 16 < c := by omega
        have d4 : decide (16 < c) = true := decide_eq_true e4
        go_enter Try.func10, Try.ntmps10
        go_wp2
        exact bodyPost_ret (results_tmp2 rfl _ _ _) rfl ⟨rfl, rfl⟩
theorem len14_any (h : Net w b nn cc pv rv mb n P R M) : Calls Try.prog 34 #[.pointer (some ⟨b, 0, none⟩)] w fun e w' => e = .returned (.int .i64 (P.length : Int)) ∧ w' = w := by
  have c2 := h.c2
  obtain ⟨a, c, rfl, _⟩ := h.pl.sl
  clear h
  go_enter Try.func34, Try.ntmps34
  go_wp2
  go_ret
  exact ⟨rfl, rfl⟩
theorem sent_any (h : Net w b nn cc pv rv mb n P R M) : Calls Try.prog 43 #[.pointer (some ⟨b, 0, none⟩)] w fun e w' => e = .returned (.int .i64 (R.length : Int)) ∧ w' = w := by
  have c3 := h.c3
  obtain ⟨a, c, rfl, _⟩ := h.rc.form
  clear h
  go_enter Try.func43, Try.ntmps43
  go_wp2
  go_ret
  exact ⟨rfl, rfl⟩
set_option maxRecDepth 100000 in
set_option maxHeartbeats 1000000 in
/-- The packet in a place. -/
theorem tell_ok (L : List Pk) (a : Option Addr) (c k : Nat) (p : Pk) (w : World) (h : SlY yP w a L.length c L) (hk : L[k]? = some p) (hs : p.s.length ≤ 32768) : Calls Try.prog 70 #[.slice a L.length c, .int .i64 (k : Int)] w fun e w' => ∃ x : Ap, e = .returned (.tuple #[x.val, .int .i64 0]) ∧ x.pk = p ∧ x.Out w.heap.size w' ∧ Below w.heap.size w w' := by
  have hlt := (List.getElem?_eq_some_iff.1 hk).1
  obtain ⟨q, o, rfl, hq, hl⟩ := h.place (by intro e; rw [e] at hk; simp at hk)
  have l0 : w.cell? ⟨q, o + k * 3, none⟩ = some (.int .i64 p.t) := hl _ _ hk 0 _ rfl
  have l1 : w.cell? ⟨q, o + k * 3 + 1, none⟩ = some (.string (bst p.s)) := hl _ _ hk 1 _ rfl
  have l2 : w.cell? ⟨q, o + k * 3 + 2, none⟩ = some (.int .i64 p.f) := hl _ _ hk 2 _ rfl
  have HW : ∀ v, Hid (Calls Try.prog 77 #[.int .i64 (k : Int), .int .i64 (L.length : Int)] v fun e w' => e = .returned (.bool true) ∧ w' = v) := fun v => by
    have := isWithin_any (k : Int) (L.length : Int) v
    rw [decide_eq_true (show (0 : Int) ≤ k by omega), decide_eq_true (show (k : Int) < L.length by omega)] at this
    exact this
  have hcap := h.cap
  have hki : (k : Int) < (L.length : Int) := by omega
  have al : ∀ o' j x, w.cell? ⟨q, j, none⟩ = some x → (w.alloc o').cell? ⟨q, j, none⟩ = some x := fun o' j x hx => (World.cell?_alloc_past _ _ _ hq).trans hx
  have m0 := fun o' => al o' _ _ l0
  have m1 := fun o' => al o' _ _ l1
  have m2 := fun o' => al o' _ _ l2
  have HO : ∀ o', Hid (Calls Try.prog 84 #[p.val] (w.alloc o') fun e w' => ∃ x : Ap, e = .returned x.val ∧ x.pk = p ∧ x.Out (w.alloc o').heap.size w' ∧ Below (w.alloc o').heap.size (w.alloc o') w') := fun o' => outgoing_any p _ (by omega)
  unfold Pk.val at HO
  clear al hl h l0 l1 l2 hk hlt
  go_enter Try.func70, Try.ntmps70
  go_wp2_with fail
  refine (HW _).out.mono ?_
  rintro e w1 ⟨rfl, rfl⟩
  go_wp2_with fail
  refine (HO _).out.mono ?_
  rintro e w2 ⟨x, rfl, hx, ho, hb⟩
  have r0 : w2.cell? ⟨w.heap.size, 0, none⟩ = some (.int .i64 0) := (hb.cell (p := ⟨w.heap.size, 0, none⟩) (by simp)).trans (by go_simp)
  have r1 : w2.cell? ⟨w.heap.size, 1, none⟩ = some (.int .i64 0) := (hb.cell (p := ⟨w.heap.size, 1, none⟩) (by simp)).trans (by go_simp)
  have r2 : w2.cell? ⟨w.heap.size, 2, none⟩ = some (.slice none 0 0) := (hb.cell (p := ⟨w.heap.size, 2, none⟩) (by simp)).trans (by go_simp)
  have t0 : ∀ j, w2.frozen? ⟨w.heap.size, j, none⟩ = false := fun j => (hb.frozen (p := ⟨w.heap.size, j, none⟩) (by simp)).trans (by go_simp)
  have HX := hide hx
  have HP := hide ho
  have hzz : w.heap.size < w2.heap.size := by have := hb.size; simp at this; omega
  have HB := hide (((Below.refl w.heap.size w).alloc (Nat.le_refl _) (.cells #[.int .i64 0, .int .i64 0, .slice none 0 0] 46)).trans (hb.mono (by simp)))
  clear hx ho hb HO HW m0 m1 m2
  unfold Ap.val
  go_wp2
  refine bodyPost_ret (v := .tuple #[.agg #[.int .i64 x.f, .int .i64 x.t, .slice x.a x.s.length x.c], .int .i64 0]) (by simp [results, Try.results70, go_sem, r0, r1, r2]) rfl ⟨x, rfl, HX.out, ?_, ?_⟩
  · obtain ⟨g, hg, g1, g2⟩ := HP.out.some_
    simp at g1
    refine ⟨(HP.out.own.upd1 (set3 w2 w.heap.size _ _ _) (fun k hk e => ?_)).low (by simp), g, hg, by omega, by simpa using g2⟩
    have := (HP.out.own.blk k hk).1
    simp at this
    omega
  · exact HB.out.trans ((set3 w2 w.heap.size _ _ _).below HB.out.size (fun k hk => by omega))
set_option maxRecDepth 100000 in
theorem tell_bad (L : List Pk) (a : Option Addr) (c : Nat) (k : Int) (w : World) (hk : k < 0 ∨ (L.length : Int) ≤ k) : Calls Try.prog 70 #[.slice a L.length c, .int .i64 k] w fun e w' => e = .returned (.tuple #[.agg #[.int .i64 0, .int .i64 0, .slice none 0 0], .int .i64 141]) ∧ Below w.heap.size w w' := by
  have HW : ∀ v, Hid (Calls Try.prog 77 #[.int .i64 k, .int .i64 (L.length : Int)] v fun e w' => e = .returned (.bool false) ∧ w' = v) := fun v => by
    have := isWithin_any k (L.length : Int) v
    have e : (decide (0 ≤ k) && decide (k < (L.length : Int))) = false := by simp; omega
    rw [e] at this
    exact this
  go_enter Try.func70, Try.ntmps70
  go_wp2_with fail
  refine (HW _).out.mono ?_
  rintro e w1 ⟨rfl, rfl⟩
  go_wp2
  refine bodyPost_ret (v := .tuple #[.agg #[.int .i64 0, .int .i64 0, .slice none 0 0], .int .i64 141]) (by simp [results, Try.results70, go_sem]) rfl ⟨rfl, ?_⟩
  exact (Below.refl _ _).alloc (Nat.le_refl _) _

end Go.Proofs.Ytegfbebhgihcaaa
