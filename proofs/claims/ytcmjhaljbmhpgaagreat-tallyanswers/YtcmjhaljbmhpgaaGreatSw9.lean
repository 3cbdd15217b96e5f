import Derived.Test.YtcmjhaljbmhpgaaGreatGSw
namespace Go.Proofs.YtcmjhaljbmhpgaaGreat
open Go.RowKit Go.Maps
open Classical
set_option linter.unusedVariables false
set_option linter.unusedSimpArgs false

theorem An.put_len (L : List An) (x : An) : (An.put L x).length ≤ L.length + 1 := by
  unfold An.put
  split
  · unfold An.ins
    have := An.at_le L x
    simp only [List.length_append, List.length_take, List.length_cons, List.length_drop]
    omega
  · split
    · rw [List.length_set]; omega
    · omega
theorem An.mem_put (L : List An) (x y : An) (h : y ∈ An.put L x) : y ∈ L ∨ y = x := by
  unfold An.put at h
  split at h
  · unfold An.ins at h
    rcases List.mem_append.1 h with h | h
    · exact .inl (List.mem_of_mem_take h)
    · rcases List.mem_cons.1 h with h | h
      · exact .inr h
      · exact .inl (List.mem_of_mem_drop h)
  · split at h
    · exact List.mem_or_eq_of_mem_set h
    · exact .inl h
set_option maxRecDepth 100000 in
set_option maxHeartbeats 1000000 in
theorem An.Put_any (L : List An) (x : An) (a : Option Addr) (n c : Nat) (w : World) (h : SlY yAnA w a n c L) (hlogs : ∀ y ∈ L, y.In w) (hx : x.In w) (hm : (n + 1) * 64 ≤ 140737488355328) :
    Calls Tryz.prog 36 #[.slice a n c, x.val] w fun e w' => ∃ v R, e = .returned v ∧ OwnY yAnA w.heap.size w' v R ∧ An.Tolds w.heap.size w' (An.put L x) R ∧ Below w.heap.size w w' := by
  have hln := h.len
  have b1 : Below w.heap.size w (w.alloc (.cells #[.int .i64 x.n, .int .u64 x.h, .int .u64 x.l, .int .i64 x.v, .int .i64 x.c, .slice x.s.a x.s.D.length x.s.c] 69)) := (Below.refl _ w).alloc (Nat.le_refl _) _
  have ch : Hid (∀ W, Below w.heap.size w W → W.heap.size = w.heap.size + 1 → Calls Tryz.prog 80 #[.slice a n c, .func (.func 81) #[] #[]] W fun e w' => e = .returned (.slice (some ⟨w.heap.size + 1, 0, none⟩) n n) ∧ OwnY yAnV (w.heap.size + 1) w' (.slice (some ⟨w.heap.size + 1, 0, none⟩) n n) L ∧ Below (w.heap.size + 1) W w') := fun W hW hz => by
    have := An.hold_any L a n c W (h.later hW) (by omega)
    rw [hz] at this
    exact this
  have HB1 := hide b1
  have KB : Hid (∀ v, Below (w.heap.size + 1) (w.alloc (.cells #[.int .i64 x.n, .int .u64 x.h, .int .u64 x.l, .int .i64 x.v, .int .i64 x.c, .slice x.s.a x.s.D.length x.s.c] 69)) v → (v.cell? ⟨w.heap.size, 0, none⟩ = some (.int .i64 x.n) ∧ v.cell? ⟨w.heap.size, 1, none⟩ = some (.int .u64 x.h) ∧ v.cell? ⟨w.heap.size, 2, none⟩ = some (.int .u64 x.l) ∧ v.cell? ⟨w.heap.size, 3, none⟩ = some (.int .i64 x.v) ∧ v.cell? ⟨w.heap.size, 4, none⟩ = some (.int .i64 x.c) ∧ v.cell? ⟨w.heap.size, 5, none⟩ = some (.slice x.s.a x.s.D.length x.s.c))) := fun v hv =>
    ⟨(hv.cell (p := ⟨w.heap.size, 0, none⟩) (by simp)).trans (by simp), (hv.cell (p := ⟨w.heap.size, 1, none⟩) (by simp)).trans (by simp), (hv.cell (p := ⟨w.heap.size, 2, none⟩) (by simp)).trans (by simp), (hv.cell (p := ⟨w.heap.size, 3, none⟩) (by simp)).trans (by simp), (hv.cell (p := ⟨w.heap.size, 4, none⟩) (by simp)).trans (by simp), (hv.cell (p := ⟨w.heap.size, 5, none⟩) (by simp)).trans (by simp)⟩
  have KZ : Hid (∀ v, Below (w.heap.size + 1) (w.alloc (.cells #[.int .i64 x.n, .int .u64 x.h, .int .u64 x.l, .int .i64 x.v, .int .i64 x.c, .slice x.s.a x.s.D.length x.s.c] 69)) v → w.heap.size + 1 ≤ v.heap.size) := fun v hv => by have := hv.size; simpa using this
  have HN := hide hln
  have HI : Hid (∀ W, Below w.heap.size w W → ∀ y ∈ An.put L x, y.In W) := fun W hW y hy => by
    rcases An.mem_put L x y hy with h | rfl
    · exact (hlogs y h).later hW
    · exact hx.later hW
  clear hlogs hx
  have HL : Hid ((An.put L x).length * 64 ≤ 281474976710656) := by
    show _ ≤ _
    have h1 := An.put_len L x
    rw [hln] at h1
    have h2 := Nat.mul_le_mul_right 64 h1
    omega
  clear h b1 hln
  show Calls Tryz.prog 36 #[.slice a n c, .agg #[.int .i64 x.n, .int .u64 x.h, .int .u64 x.l, .int .i64 x.v, .int .i64 x.c, .slice x.s.a x.s.D.length x.s.c]] w _
  go_enter Tryz.func36, Tryz.ntmps36
  go_wp2_with fail
  have s0 := KB.out _ (Below.refl (w.heap.size + 1) (w.alloc (.cells #[.int .i64 x.n, .int .u64 x.h, .int .u64 x.l, .int .i64 x.v, .int .i64 x.c, .slice x.s.a x.s.D.length x.s.c] 69))).drew
  go_region_held3 (fun v => v.cell? ⟨w.heap.size, 0, none⟩ = some (.int .i64 x.n) ∧ v.cell? ⟨w.heap.size, 1, none⟩ = some (.int .u64 x.h) ∧ v.cell? ⟨w.heap.size, 2, none⟩ = some (.int .u64 x.l) ∧ v.cell? ⟨w.heap.size, 3, none⟩ = some (.int .i64 x.v) ∧ v.cell? ⟨w.heap.size, 4, none⟩ = some (.int .i64 x.c) ∧ v.cell? ⟨w.heap.size, 5, none⟩ = some (.slice x.s.a x.s.D.length x.s.c)) (with_reducible assumption) (first
    | (go_at_call 80; refine (ch.out _ HB1.out.drew (by simp)).mono ?_; rintro e w2 ⟨rfl, o2, b2⟩; have O2 := hide o2; have D2 := hide ((Below.refl (w.heap.size + 1) (w.alloc (.cells #[.int .i64 x.n, .int .u64 x.h, .int .u64 x.l, .int .i64 x.v, .int .i64 x.c, .slice x.s.a x.s.D.length x.s.c] 69))).drew.trans b2); have Z2 := KZ.out _ D2.out; have s2 := KB.out w2 D2.out; clear o2 b2)
    | (go_at_call 81; refine (x.as_any w2).mono ?_; rintro e w3 ⟨rfl, b3⟩; have O3 := hide (O2.out.grow b3); have D3 := hide (D2.out.trans (b3.mono Z2)); have Z3 := KZ.out _ D3.out; have s3 := KB.out w3 D3.out; clear b3)
    | (go_at_call 83; refine (An.put_any L x n (w.heap.size + 1) (w.heap.size + 1) w3 HN.out O3.out Z3 hm).mono ?_; rintro e w4 ⟨v4, rfl, o4, b4⟩; obtain ⟨a4, c4, rfl, s4, _⟩ := o4.sl kAnV; have S4 := hide s4; have D4 := hide (D3.out.trans b4); have Z4 := KZ.out _ D4.out; have s4 := KB.out w4 D4.out; clear o4 b4)
    | (go_at_call 82; refine (An.tell_any (An.put L x) a4 _ c4 w4 S4.out HL.out (HI.out w4 (HB1.out.trans (D4.out.mono (Nat.le_succ _))))).mono ?_; rintro e w5 ⟨rfl, ⟨R5, o5, t5⟩, b5⟩; have D5 := hide (D4.out.trans (b5.mono Z4)); have O5 := hide (o5.low (B' := w.heap.size) (by omega)); have T5 := hide (t5.low (B' := w.heap.size) (by omega)); clear t5; have s5 := KB.out w5 D5.out; clear o5 b5))
  go_wp2
  go_ret
  exact ⟨_, R5, rfl, O5.out, T5.out, HB1.out.trans (D5.out.mono (by omega))⟩

end Go.Proofs.YtcmjhaljbmhpgaaGreat
