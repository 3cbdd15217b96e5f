import Derived.Test.YtipkflaamncmbaaGreatSk7
namespace Go.Proofs.YtipkflaamncmbaaGreat
open Go.RowKit Go.Maps
open Classical
set_option linter.unusedVariables false
set_option linter.unusedSimpArgs false

theorem Ak.told_any (x : Ak) (w : World) : Calls Tryz.prog 52 #[x.val] w fun e w' => e = .returned x.val ∧ Below w.heap.size w w' := by
  show Calls Tryz.prog 52 #[.agg #[.int .i64 x.n, .int .u64 x.h, .int .u64 x.l, .int .i64 x.p]] w _
  go_enter Tryz.func52, Tryz.ntmps52
  go_wp2
  refine bodyPost_ret (v := x.val) (by simp [results, Tryz.results52, go_sem, Ak.val]) rfl ?_
  exact ⟨rfl, by (repeat (first | exact Below.refl _ _ | assumption | refine Below.drew ?_ | refine Below.alloc ?_ (by first | (simp; done) | (simp; omega) | omega) _ | refine Below.setCell ?_ (by first | (simp; done) | (simp; omega) | omega) _))⟩
set_option maxRecDepth 100000 in
set_option maxHeartbeats 1000000 in
/-- tell: votes as callers have them. -/
theorem Ak.tell_any (L : List Ak) (a : Option Addr) (n c : Nat) (w : World) (h : SlY yAkV w a n c L) (hb : n * 32 ≤ 281474976710656) :
    Calls Tryz.prog 50 #[.slice a n c, .func (.func 52) #[] #[]] w fun e w' => e = .returned (.slice (some ⟨w.heap.size, 0, none⟩) n n) ∧ OwnY yAkA w.heap.size w' (.slice (some ⟨w.heap.size, 0, none⟩) n n) L ∧ Below w.heap.size w w' := by
  have hmx := h.max
  have hcp := h.cap
  have hln := h.len
  unfold maxLen at hmx
  have H := hide h
  have HN := hide hln
  clear h hln
  go_enter Tryz.func50, Tryz.ntmps50
  go_wp2_with (at_make; go_must (refine makeYs kAkA _ rfl (.tmp 9) rfl n rfl (by unfold maxLen; omega) hb ?zk))
  intro w1 o1 b1
  have HO : Hid (OwnY yAkA w.heap.size w1 (.slice (some ⟨w.heap.size, 0, none⟩) n n) (L.take 0 ++ List.replicate (n - 0) yAkA.z)) := by
    show OwnY _ _ _ _ _
    simpa using o1
  clear o1
  go_wp2
  go_loopw [13] (fun i wr => ∃ j : Nat, i = .int .i64 (j : Int) ∧ j ≤ n ∧ Hid (OwnY yAkA w.heap.size wr (.slice (some ⟨w.heap.size, 0, none⟩) n n) (L.take j ++ List.replicate (n - j) yAkA.z)) ∧ Below w.heap.size w wr) (fun i _ => n - (intOf i).toNat)
  case atStart => exact ⟨0, rfl, Nat.zero_le _, HO, b1⟩
  case round =>
    obtain ⟨j, rfl, hj, hO, hbl⟩ := hrel
    have hsz := hbl.size
    by_cases hlt : j < n
    · have hjl : j < L.length := by rw [HN.out]; exact hlt
      have hg : L[j]? = some L[j] := List.getElem?_eq_getElem hjl
      obtain ⟨q, o, rfl, hq, y0, y1, y2, y3⟩ := (H.out.later hbl).AkV hg
      have hlt0 : w.heap.size < wr.heap.size := by
        obtain ⟨_, _, ee, _, _, _, h4⟩ := hO.out.form
        injection ee with ee
        obtain ⟨g', e2, _, h5⟩ := h4 _ ee.symm
        cases e2
        exact h5
      have hset : Hid ((L.take j ++ List.replicate (n - j) yAkA.z).set j L[j] = L.take (j + 1) ++ List.replicate (n - (j + 1)) yAkA.z) := by
        show _ = _
        have hl : (L.take j).length = j := by rw [List.length_take]; omega
        rw [List.set_append_right _ _ (by omega), hl, Nat.sub_self, show n - j = (n - (j + 1)) + 1 by omega, List.replicate_succ, List.set_cons_zero, List.take_add_one, hg]
        simp only [Option.toList_some, List.append_assoc, List.cons_append, List.nil_append]
      have hget : Hid ((L.take j ++ List.replicate (n - j) yAkA.z)[j]? = some yAkA.z) := by
        show _ = _
        have hl : (L.take j).length = j := by rw [List.length_take]; omega
        rw [List.getElem?_append_right (by omega), hl, Nat.sub_self, show n - j = (n - (j + 1)) + 1 by omega, List.replicate_succ]
        rfl
      clear hg
      generalize L[j] = x at *
      generalize hX : L.take j ++ List.replicate (n - j) yAkA.z = XX at *
      clear hX
      have bA := hide (hbl.trans (((Below.refl _ wr).alloc (Nat.le_refl _) (.cells #[.int .i64 x.n, .int .u64 x.h, .int .u64 x.l, .int .i64 x.p] 82)).mono hsz))
      have OA := hide (hO.out.alloc (.cells #[.int .i64 x.n, .int .u64 x.h, .int .u64 x.l, .int .i64 x.p] 82))
      have ca := hide (x.told_any (wr.alloc (.cells #[.int .i64 x.n, .int .u64 x.h, .int .u64 x.l, .int .i64 x.p] 82)))
      clear hO
      go_wp2_with fail
      refine ca.out.mono ?_
      rintro e w2 ⟨rfl, b2⟩
      have O2 := hide (OA.out.grow b2)
      have z2 := b2.size
      rw [World.size_alloc] at z2
      dsimp only
      go_wp2_with (first
        | (refine storeY kAkA _ rfl 29 (.tmp 23) (.tmp 22) rfl w.heap.size w.heap.size n n XX j 0 yAkA.z x _ rfl rfl hget.out (by kernel_rfl) (by exact (by decide : 4 ≤ 4)) rfl O2.out ?_; intro w3 o3 u3 z3; have O3 := hide o3; clear o3)
        | go_in)
      go_round
      case rel =>
        refine ⟨j + 1, by go_num, by omega, by show OwnY _ _ _ _ _; rw [← hset.out]; exact O3.out, bA.out.trans ((b2.mono (by simp; omega)).trans (u3.below (by omega) (fun k e => by subst e; exact Nat.le_refl _)))⟩
      case measure => simp [intOf]; omega
    · obtain rfl : j = n := by omega
      have O9 : Hid (OwnY yAkA w.heap.size wr (.slice (some ⟨w.heap.size, 0, none⟩) j j) L) := by
        show OwnY _ _ _ _ _
        have := hO.out
        rw [Nat.sub_self, List.replicate_zero, List.append_nil, List.take_of_length_le (by rw [HN.out]; exact Nat.le_refl _)] at this
        exact this
      clear hO
      go_wp2
      go_ret
      exact ⟨rfl, O9.out, hbl⟩

theorem Ak.put_len (L : List Ak) (x : Ak) : (Ak.put L x).length ≤ L.length + 1 := by
  unfold Ak.put
  split
  · unfold Ak.ins
    have := Ak.at_le L x
    simp only [List.length_append, List.length_take, List.length_cons, List.length_drop]
    omega
  · split
    · rw [List.length_set]; omega
    · omega
set_option maxRecDepth 100000 in
set_option maxHeartbeats 1000000 in
theorem Ak.Put_any (L : List Ak) (x : Ak) (a : Option Addr) (n c : Nat) (w : World) (h : SlY yAkA w a n c L) (hm : (n + 1) * 32 ≤ 140737488355328) :
    Calls Tryz.prog 11 #[.slice a n c, x.val] w fun e w' => ∃ v, e = .returned v ∧ OwnY yAkA w.heap.size w' v (Ak.put L x) ∧ Below w.heap.size w w' := by
  have hln := h.len
  have b1 : Below w.heap.size w (w.alloc (.cells #[.int .i64 x.n, .int .u64 x.h, .int .u64 x.l, .int .i64 x.p] 29)) := (Below.refl _ w).alloc (Nat.le_refl _) _
  have ch : Hid (∀ W, Below w.heap.size w W → W.heap.size = w.heap.size + 1 → Calls Tryz.prog 45 #[.slice a n c, .func (.func 46) #[] #[]] W fun e w' => e = .returned (.slice (some ⟨w.heap.size + 1, 0, none⟩) n n) ∧ OwnY yAkV (w.heap.size + 1) w' (.slice (some ⟨w.heap.size + 1, 0, none⟩) n n) L ∧ Below (w.heap.size + 1) W w') := fun W hW hz => by
    have := Ak.hold_any L a n c W (h.later hW) (by omega)
    rw [hz] at this
    exact this
  have HB1 := hide b1
  have KB : Hid (∀ v, Below (w.heap.size + 1) (w.alloc (.cells #[.int .i64 x.n, .int .u64 x.h, .int .u64 x.l, .int .i64 x.p] 29)) v → (v.cell? ⟨w.heap.size, 0, none⟩ = some (.int .i64 x.n) ∧ v.cell? ⟨w.heap.size, 1, none⟩ = some (.int .u64 x.h) ∧ v.cell? ⟨w.heap.size, 2, none⟩ = some (.int .u64 x.l) ∧ v.cell? ⟨w.heap.size, 3, none⟩ = some (.int .i64 x.p))) := fun v hv =>
    ⟨(hv.cell (p := ⟨w.heap.size, 0, none⟩) (by simp)).trans (by simp), (hv.cell (p := ⟨w.heap.size, 1, none⟩) (by simp)).trans (by simp), (hv.cell (p := ⟨w.heap.size, 2, none⟩) (by simp)).trans (by simp), (hv.cell (p := ⟨w.heap.size, 3, none⟩) (by simp)).trans (by simp)⟩
  have KZ : Hid (∀ v, Below (w.heap.size + 1) (w.alloc (.cells #[.int .i64 x.n, .int .u64 x.h, .int .u64 x.l, .int .i64 x.p] 29)) v → w.heap.size + 1 ≤ v.heap.size) := fun v hv => by have := hv.size; simpa using this
  have HN := hide hln
  have HL : Hid ((Ak.put L x).length * 32 ≤ 281474976710656) := by
    show _ ≤ _
    have h1 := Ak.put_len L x
    rw [hln] at h1
    have h2 := Nat.mul_le_mul_right 32 h1
    omega
  clear h b1 hln
  show Calls Tryz.prog 11 #[.slice a n c, .agg #[.int .i64 x.n, .int .u64 x.h, .int .u64 x.l, .int .i64 x.p]] w _
  go_enter Tryz.func11, Tryz.ntmps11
  go_wp2_with fail
  have s0 := KB.out _ (Below.refl (w.heap.size + 1) (w.alloc (.cells #[.int .i64 x.n, .int .u64 x.h, .int .u64 x.l, .int .i64 x.p] 29))).drew
  go_region_held3 (fun v => v.cell? ⟨w.heap.size, 0, none⟩ = some (.int .i64 x.n) ∧ v.cell? ⟨w.heap.size, 1, none⟩ = some (.int .u64 x.h) ∧ v.cell? ⟨w.heap.size, 2, none⟩ = some (.int .u64 x.l) ∧ v.cell? ⟨w.heap.size, 3, none⟩ = some (.int .i64 x.p)) (with_reducible assumption) (first
    | (go_at_call 45; refine (ch.out _ HB1.out.drew (by simp)).mono ?_; rintro e w2 ⟨rfl, o2, b2⟩; have O2 := hide o2; have D2 := hide ((Below.refl (w.heap.size + 1) (w.alloc (.cells #[.int .i64 x.n, .int .u64 x.h, .int .u64 x.l, .int .i64 x.p] 29))).drew.trans b2); have Z2 := KZ.out _ D2.out; have s2 := KB.out w2 D2.out; clear o2 b2)
    | (go_at_call 46; refine (x.as_any w2).mono ?_; rintro e w3 ⟨rfl, b3⟩; have O3 := hide (O2.out.grow b3); have D3 := hide (D2.out.trans (b3.mono Z2)); have Z3 := KZ.out _ D3.out; have s3 := KB.out w3 D3.out; clear b3)
    | (go_at_call 51; refine (Ak.put_any L x n (w.heap.size + 1) (w.heap.size + 1) w3 HN.out O3.out Z3 hm).mono ?_; rintro e w4 ⟨v4, rfl, o4, b4⟩; obtain ⟨a4, c4, rfl, s4, _⟩ := o4.sl kAkV; have S4 := hide s4; have D4 := hide (D3.out.trans b4); have Z4 := KZ.out _ D4.out; have s4 := KB.out w4 D4.out; clear o4 b4)
    | (go_at_call 50; refine (Ak.tell_any (Ak.put L x) a4 _ c4 w4 S4.out HL.out).mono ?_; rintro e w5 ⟨rfl, o5, b5⟩; have D5 := hide (D4.out.trans (b5.mono Z4)); have O5 := hide (o5.low (B' := w.heap.size) (by omega)); have s5 := KB.out w5 D5.out; clear o5 b5))
  go_wp2
  go_ret
  exact ⟨_, rfl, O5.out, HB1.out.trans (D5.out.mono (by omega))⟩

end Go.Proofs.YtipkflaamncmbaaGreat
