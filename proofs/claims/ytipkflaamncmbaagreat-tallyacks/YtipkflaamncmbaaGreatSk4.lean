import Derived.Test.YtipkflaamncmbaaGreatSk3
namespace Go.Proofs.YtipkflaamncmbaaGreat
open Go.RowKit Go.Maps
open Classical
set_option linter.unusedVariables false
set_option linter.unusedSimpArgs false

set_option maxRecDepth 100000 in
set_option maxHeartbeats 1000000 in
/-- slices.Insert of one vote into a row without room. -/
theorem Ak.insert_lib (L : List Ak) (x : Ak) (i n g B q : Nat) (w : World) (hn : L.length = n) (hi : i ≤ n) (h : OwnY yAkV B w (.slice (some ⟨g, 0, none⟩) n n) L) (hx : SlY yAkV w (some ⟨q, 0, none⟩) 1 1 [x]) (hB : B ≤ w.heap.size) (hm : (n + 1) * 32 ≤ 140737488355328) :
    Calls Tryz.prog 122 #[.slice (some ⟨g, 0, none⟩) n n, .int .i64 (i : Int), .slice (some ⟨q, 0, none⟩) 1 1] w fun e w' => ∃ v, e = .returned v ∧ OwnY yAkV B w' v (L.take i ++ x :: L.drop i) ∧ Below B w w' := by
  have hcm : n + 1 ≤ 140737488355328 := by omega
  have O := hide h
  have X := hide hx
  have HN := hide hn
  have hgl : g < w.heap.size := by
    obtain ⟨_, _, ee, _, _, _, h4⟩ := h.form
    injection ee with ee
    obtain ⟨g', e2, _, h5⟩ := h4 _ ee.symm
    cases e2
    exact h5
  clear h hx hn
  have hw1 : IntKind.i64.wrap ((n : Int) + 1) = (n : Int) + 1 := by rw [IntKind.wrap_i64]; omega
  by_cases hin : i = n
  · subst hin
    go_enter Tryz.func122, Tryz.ntmps122
    go_wp2_with (first
      | (at_builtin; go_must (refine appYt kAkV _ rfl (.tmp 23) (.tmp 24) 83 82 Tryz.underlying83 rfl B L _ rfl (some ⟨q, 0, none⟩) 1 1 rfl [x] X.out O.out hB (by rw [HN.out]; unfold maxLen; omega) (by rw [HN.out]; exact hm) ?zk)))
    intro v' w' o' g' _
    have O2 := hide o'
    have B2 := hide (O.out.grown (Below.refl _ _) g' hB)
    clear o' g'
    go_wp2
    go_ret
    refine ⟨_, rfl, ?_, B2.out⟩
    rw [List.take_of_length_le (by rw [HN.out]; exact Nat.le_refl _), List.drop_of_length_le (by rw [HN.out]; exact Nat.le_refl _)]
    exact O2.out
  · have hlt : i < n := by omega
    obtain ⟨d, hd⟩ : ∃ d, d = n + 1 - i := ⟨_, rfl⟩
    have hw2 : IntKind.i64.wrap ((n : Int) + 1 - (i : Int)) = (d : Int) := by rw [IntKind.wrap_i64]; omega
    have HD : Hid (i + d = n + 1) := by show _ = _; omega
    clear hd
    have hne : ((i : Int) == (n : Int)) = false := by simp; omega
    have hw3 : IntKind.i64.wrap ((i : Int) + 1) = (i : Int) + 1 := by rw [IntKind.wrap_i64]; omega
    go_enter Tryz.func122, Tryz.ntmps122
    go_wp2_with (first
      | (at_builtin; go_must (refine zerosY kAkV _ rfl (.tmp 34) (.tmp 39) 3 .i64 Tryz.underlying3 rfl ⟨g, 0, none⟩ i n d (L.take i) rfl rfl ((O.out.sl' kAkV).take i hi) (by have := HD.out; omega) (by have := HD.out; omega) (by have := HD.out; unfold maxLen; omega) (by rw [HD.out]; exact hm) ?zl)))
    intro c1 w1 o1 b1
    have z1 := b1.size
    have hg1 : g ≠ w.heap.size := by omega
    have O1 : Hid (OwnY yAkV w.heap.size w1 (.slice (some ⟨w.heap.size, 0, none⟩) (n + 1) c1) (L.take i ++ List.replicate d yAkV.z)) := by show OwnY _ _ _ _ _; rw [← HD.out]; exact o1
    obtain ⟨hc1, hc2⟩ : n + 1 ≤ c1 ∧ c1 ≤ 9223372036854775807 := by
      have := (o1.sl' kAkV).cap
      have h2 := (o1.sl' kAkV).max
      unfold maxLen at h2
      have := HD.out
      omega
    have X1 := hide (X.out.later b1)
    have S1 := hide (((O.out.grow b1).sl' kAkV).rest i hlt)
    have B1 := hide b1
    clear o1 b1
    have hcd : (i : Int) ≤ (c1 : Int) := by omega
    have hcn : (n : Int) + 1 ≤ (c1 : Int) := by omega
    rw [HD.out]
    have e3 : ((n + 1 : Nat) : Int) = (n : Int) + 1 := by omega
    have e5 : (i : Int) ≤ (n : Int) + 1 := by omega
    have e6 : (i : Int) + 1 ≤ (n : Int) + 1 := by omega
    go_wp2_with (refine copyYc kAkV _ rfl (.tmp 43) (.tmp 44) 83 rfl w.heap.size w.heap.size (n + 1 - i) (c1 - i) i (n + 1) c1 1 1 (some ⟨q, 0, none⟩) _ [x] rfl rfl O1.out X1.out (by omega) (by omega) ?zm)
    intro w2 o2 u2 z2
    have O2 := hide o2
    have S2 := hide (S1.out.upd u2 (fun y hy _ => by cases hy; exact hg1))
    have B2 := hide (B1.out.trans (u2.below z1 (fun k e => by subst e; exact Nat.le_refl _)))
    clear o2 u2
    have hl3 : Hid (put (put (L.take i ++ List.replicate d yAkV.z) i [x]) (i + 1) (L.drop i) = L.take i ++ x :: L.drop i) := by
      show _ = _
      have h1 : (L.take i).length = i := by rw [List.length_take, HN.out]; omega
      have h2 : (L.drop i).length = n - i := by rw [List.length_drop, HN.out]
      have := HD.out
      exact put_two (L.take i) (List.replicate d yAkV.z) (L.drop i) x i h1 (by rw [List.length_replicate, h2]; omega)
    go_wp2_with fail
    obtain ⟨w3, hr, o3, u3, z3⟩ := run_copyYc kAkV w2.drew 84 3 w.heap.size w.heap.size (n - i) (c1 - (i + 1)) (i + 1) (n + 1) c1 (n - i) (n - i) _ _ (L.drop i) O2.out.drew (S2.out.later (Below.refl _ _).drew) (by omega) (Nat.le_refl _)
    rw [hl3.out] at o3
    have hr : (Builtin.copy_ #[84, 84] 3 #[.slice (some ⟨w.heap.size, (i + 1) * 4, none⟩) (n - i) (c1 - (i + 1)), .slice (some ⟨g, i * 4, none⟩) (n - i) (n - i)]).run Tryz.prog w2.drew = .ok (.int .i64 ((n - i : Nat) : Int)) w3 := by
      rw [Nat.zero_add] at hr
      exact hr
    have O3 := hide o3
    have B3 := hide (B2.out.trans ((Below.refl _ w2).drew.trans (u3.below (by show w.heap.size ≤ w2.heap.size; omega) (fun k e => by subst e; exact Nat.le_refl _))))
    clear o3 u3
    go_region
    go_wp2
    go_ret
    exact ⟨_, rfl, O3.out.low hB, B3.out.mono hB⟩

end Go.Proofs.YtipkflaamncmbaaGreat
