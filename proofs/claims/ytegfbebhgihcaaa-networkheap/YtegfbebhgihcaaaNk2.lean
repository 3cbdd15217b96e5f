import Derived.Test.YtegfbebhgihcaaaNk1
import Derived.Lib.BufferWrite
import Derived.Lib.ConvBytes
import Derived.Laws.BitsAllLaws
namespace Go.Proofs.Ytegfbebhgihcaaa
open Go.RowKit Go.Maps
set_option linter.unusedVariables false
set_option linter.unusedSimpArgs false

theorem SlY.alloc8 {α : Type} {Y : Lay α} {w : World} {a : Option Addr} {n c : Nat} {l : List α} (h : SlY Y w a n c l) (o : Obj) : SlY Y (w.alloc o) a n c l := h.later ((Below.refl _ _).alloc (Nat.le_refl _) _)
theorem bel8 {B : Nat} {w w' : World} (h : Below B w w') (hB : B ≤ w.heap.size) (o : Obj) : Below B w (w'.alloc o) := h.alloc (Nat.le_trans hB h.size) o
theorem set3 (w : World) (b : Nat) (x y z : Value) : Upd (fun k => k = b) w (((w.setCell ⟨b, 0, none⟩ x).setCell ⟨b, 1, none⟩ y).setCell ⟨b, 2, none⟩ z) := (((Upd.refl (fun k => k = b) w).setCell (p := ⟨b, 0, none⟩) (.inl rfl) x).setCell (p := ⟨b, 1, none⟩) (.inl rfl) y).setCell (p := ⟨b, 2, none⟩) (.inl rfl) z
set_option maxRecDepth 100000 in
theorem incoming_any (x : Ap) (w : World) (h : x.In w) : Calls Try.prog 73 #[x.val] w fun e w' => e = .returned x.pk.val ∧ Below w.heap.size w w' := by
  obtain ⟨f, t, a, c, s⟩ := x
  have hc : ∀ o o', (convert 44 9 (.slice a s.length c)).run Try.prog ((w.alloc o).alloc o') = .ok (.string (bst s)) ((w.alloc o).alloc o') := fun o o' => conv_u ((SlY.alloc8 h _).alloc8 _)
  unfold Ap.val
  dsimp only
  clear h
  go_enter Try.func73, Try.ntmps73
  go_wp2
  refine bodyPost_ret (v := .agg #[.int .i64 t, .string (bst s), .int .i64 f]) (by simp [results, Try.results73, go_sem]) rfl ⟨rfl, ?_⟩
  exact bel8 ((Below.refl _ _).alloc (Nat.le_refl _) _) (Nat.le_refl _) _
theorem isWithin_any (k n : Int) (w : World) : Calls Try.prog 77 #[.int .i64 k, .int .i64 n] w fun e w' => e = .returned (.bool (decide (0 ≤ k) && decide (k < n))) ∧ w' = w := by
  by_cases h : 0 ≤ k
  · have h1 : decide (0 ≤ k) = true := decide_eq_true h
    go_enter Try.func77, Try.ntmps77
    go_wp2
    go_ret
    exact ⟨by simp [h], rfl⟩
  · have h1 : decide (0 ≤ k) = false := decide_eq_false h
    go_enter Try.func77, Try.ntmps77
    go_wp2
    go_ret
    exact ⟨by simp [h], rfl⟩
/-- A packet that goes out has bytes of its own. -/
structure Ap.Out (B : Nat) (w : World) (x : Ap) : Prop where
  own : OwnY yU B w (.slice x.a x.s.length x.c) x.s
  some_ : ∃ g, x.a = some ⟨g, 0, none⟩ ∧ B ≤ g ∧ g < w.heap.size
theorem Ap.Out.sl {B : Nat} {w : World} {x : Ap} (h : x.Out B w) : x.In w := h.own.sl' kU
theorem fl_u : ∀ l : List UInt8, fl yU l = Lib.byteCells l
  | [] => rfl
  | x :: r => by rw [fl, fl_u r]; rfl
/-- 'copy(own, text)' where own is as long as the text. -/
theorem copyT (w : World) {ops : Array Oper} {rest : List Oper} {o : Oper} {a : Act} {Q : Exit → Act → World → Prop} (hgd : o.guard = none) (d s : Operand)
    (ho : o.op = .call { callee := .builtin .copy, args := #[d, s], argTypes := #[44, 9] }) (B g n : Nat) (M l : List UInt8)
    (hd : a.eval d = .slice (some ⟨g, 0, none⟩) n n) (hs : a.eval s = .string (bst l)) (hM : OwnY yU B w (.slice (some ⟨g, 0, none⟩) n n) M) (hl : l.length = n)
    (h : ∀ w', OwnY yU B w' (.slice (some ⟨g, 0, none⟩) n n) l → Upd (· = g) w w' → w'.heap.size = w.heap.size → wpList Try.prog ops Q rest (a.put o.dst (goInt n)) w') : wpList Try.prog ops Q (o :: rest) a w := by
  have hMn : M.length = n := (hM.sl' kU).len
  have hsz := bst_size l
  rcases hM with ⟨h0, h1 | ⟨g1, cap, cur, e1, e2, e3, e4, e5, e6, e7⟩⟩
  · have := h1.1; cases this
  · injection e1 with q1 q2 q3
    injection q1 with q1
    cases q1
    subst q3
    have hk1 : yU.k = 1 := rfl
    rw [hk1, Nat.mul_one] at e6
    have hr := Lib.run_copy_row_string (P := Try.prog) w 44 9 o.type 5 g 0 n n (bst l) cur 5 Try.underlying44 (by kernel_rfl) e3 (by omega) (by omega)
    refine wpList_plain hgd fun K' hK' => ?_
    unfold Oper.wp execOp
    simp only [ho, resolve, invoke, builtin, Sem.run_bind, Sem.run_pure, Result.andThen_ok, List.map_toArray, List.map_cons, List.map_nil, hd, hs, hr]
    rw [hsz, hl]
    refine hK' _ _ (h _ ?_ ⟨rfl, rfl, rfl, by simp, fun b hb hs => setRow_other w g b _ hs⟩ (by simp))
    have hdl : (bst l).data.toList = l := by simp [bst]
    have hdr : cur.toList.drop (0 + n) = [] := List.drop_eq_nil_of_le (by simp; omega)
    have hbl : (Lib.byteCells l).length = l.length := Lib.byteCells_length l
    refine ⟨by rw [fl_length kU], .inr ⟨g, n, _, ?_, e2, setRow_heap w g cur _ 5 (0, 0) e3, by omega, e5, ?_, ?_⟩⟩
    · rw [hl]
    · rw [hk1, List.size_toArray, hdl, hdr, List.take_zero, List.nil_append, List.append_nil, hbl]; omega
    · rw [hk1, hdl, hdr, List.take_zero, List.nil_append, List.append_nil, fl_u]
      exact List.take_of_length_le (by rw [hbl]; omega)
set_option maxRecDepth 100000 in
theorem outgoing_any (p : Pk) (w : World) (hs : p.s.length ≤ 140737488355328) : Calls Try.prog 84 #[p.val] w fun e w' => ∃ x : Ap, e = .returned x.val ∧ x.pk = p ∧ x.Out w.heap.size w' ∧ Below w.heap.size w w' := by
  obtain ⟨t, s, f⟩ := p
  unfold Pk.val
  dsimp only at hs ⊢
  have hz := bst_size s
  go_enter Try.func84, Try.ntmps84
  go_wp2_with (at_make; go_must (refine makeY kU _ rfl (.tmp 7) rfl s.length rfl (by unfold maxLen; omega) (by show s.length * 1 ≤ _; omega) ?_))
  intro w1 o1 b1
  have hz1 : w.heap.size + 2 ≤ w1.heap.size := by have := b1.size; simp at this; omega
  have c0 : w1.cell? ⟨w.heap.size, 0, none⟩ = some (.int .i64 t) := (b1.cell (p := ⟨w.heap.size, 0, none⟩) (by simp; omega)).trans (by go_simp)
  have c1 : w1.cell? ⟨w.heap.size, 1, none⟩ = some (.string (bst s)) := (b1.cell (p := ⟨w.heap.size, 1, none⟩) (by simp; omega)).trans (by go_simp)
  have c2 : w1.cell? ⟨w.heap.size, 2, none⟩ = some (.int .i64 f) := (b1.cell (p := ⟨w.heap.size, 2, none⟩) (by simp; omega)).trans (by go_simp)
  have r0 : w1.cell? ⟨w.heap.size + 1, 0, none⟩ = some (.int .i64 0) := (b1.cell (p := ⟨w.heap.size + 1, 0, none⟩) (by simp)).trans (by go_simp)
  have r1 : w1.cell? ⟨w.heap.size + 1, 1, none⟩ = some (.int .i64 0) := (b1.cell (p := ⟨w.heap.size + 1, 1, none⟩) (by simp)).trans (by go_simp)
  have r2 : w1.cell? ⟨w.heap.size + 1, 2, none⟩ = some (.slice none 0 0) := (b1.cell (p := ⟨w.heap.size + 1, 2, none⟩) (by simp)).trans (by go_simp)
  have t0 : ∀ j, w1.frozen? ⟨w.heap.size + 1, j, none⟩ = false := fun j => (b1.frozen (p := ⟨w.heap.size + 1, j, none⟩) (by simp)).trans (by go_simp)
  have B1 : Below w.heap.size w w1 := (bel8 ((Below.refl _ _).alloc (Nat.le_refl _) _) (Nat.le_refl _) _).trans (b1.mono (by first | omega | (simp; omega)))
  have O1 : OwnY yU w.heap.size w1 (.slice (some ⟨w.heap.size + 1 + 1, 0, none⟩) s.length s.length) (List.replicate s.length yU.z) := by
    have := o1.low (B' := w.heap.size) (by first | omega | (simp; omega))
    simpa using this
  have H1 := hide O1
  clear O1 o1 b1
  go_wp2_with (refine copyT _ rfl (.tmp 9) (.tmp 12) rfl w.heap.size (w.heap.size + 1 + 1) s.length (List.replicate s.length yU.z) s rfl rfl H1.out rfl ?_)
  intro w2 o2 u2 z2
  have n0 : ¬ w.heap.size = w.heap.size + 1 + 1 := by omega
  have n1 : ¬ w.heap.size + 1 = w.heap.size + 1 + 1 := by omega
  have d0 := (u2.cell (p := ⟨w.heap.size, 0, none⟩) (by show w.heap.size < _; omega) n0).trans c0
  have d2 := (u2.cell (p := ⟨w.heap.size, 2, none⟩) (by show w.heap.size < _; omega) n0).trans c2
  have e0 := (u2.cell (p := ⟨w.heap.size + 1, 0, none⟩) (by show w.heap.size + 1 < _; omega) n1).trans r0
  have e1 := (u2.cell (p := ⟨w.heap.size + 1, 1, none⟩) (by show w.heap.size + 1 < _; omega) n1).trans r1
  have e2 := (u2.cell (p := ⟨w.heap.size + 1, 2, none⟩) (by show w.heap.size + 1 < _; omega) n1).trans r2
  have v0 : ∀ j, w2.frozen? ⟨w.heap.size + 1, j, none⟩ = false := fun j => (u2.frozen (p := ⟨w.heap.size + 1, j, none⟩) (by show w.heap.size + 1 < _; omega) n1).trans (t0 j)
  have B2 : Below w.heap.size w w2 := B1.trans (u2.below B1.size (fun k hk => by omega))
  have H2 := hide o2
  have HB := hide B2
  clear c0 c1 c2 r0 r1 r2 t0 H1 B1 u2 o2 B2
  go_wp2
  refine bodyPost_ret (v := .agg #[.int .i64 f, .int .i64 t, .slice (some ⟨w.heap.size + 1 + 1, 0, none⟩) s.length s.length]) (by simp [results, Try.results84, go_sem, e0, e1, e2]) rfl ⟨⟨f, t, some ⟨w.heap.size + 1 + 1, 0, none⟩, s.length, s⟩, rfl, rfl, ?_, ?_⟩
  · have hlt : w.heap.size + 1 + 1 < w2.heap.size := (H2.out.blk _ rfl).2
    refine ⟨H2.out.upd1 (set3 w2 (w.heap.size + 1) _ _ _) (fun g hg hk => ?_), w.heap.size + 1 + 1, rfl, by omega, by (first | omega | (simp; omega))⟩
    have : w.heap.size + 1 + 1 = g := by cases hg; rfl
    omega
  · exact HB.out.trans ((set3 w2 (w.heap.size + 1) _ _ _).below HB.out.size (fun k hk => by omega))
/-- '[]byte(text)'. -/
theorem bytes_of (v : World) (l : List UInt8) : ∃ c w', (convert 9 44 (.string (bst l))).run Try.prog v = .ok (.slice (some ⟨v.heap.size, 0, none⟩) l.length c) w' ∧ Below v.heap.size v w' ∧ w'.heap.size = v.heap.size + 1 ∧ l.length ≤ c ∧ (∀ j, j < l.length → w'.cell? ⟨v.heap.size, j, none⟩ = some (.int .u8 ((l.getD j 0).toNat : Int))) ∧ ∀ j, j < l.length → w'.frozen? ⟨v.heap.size, j, none⟩ = false := by
  have hr := Lib.run_convert_string_bytes (P := Try.prog) v 9 44 5 (bst l) Try.underlying9 Try.underlying44 Try.underlying5
  have hz := bst_size l
  rw [hz] at hr
  have hd : (bst l).data.toList = l := by simp [bst]
  have hcap : l.length ≤ grownCap v l.length 0 5 := by
    exact grownCap_ge v l.length 0 5
  have hC : (Lib.bytesCells v 5 (bst l)).size = grownCap v l.length 0 5 := by
    unfold Lib.bytesCells
    simp [bst, ByteArray.size]
    omega
  refine ⟨_, _, hr, ⟨rfl, rfl, rfl, by rw [Lib.bytesWorld_size]; omega, fun k hk => Lib.bytesWorld_at_old v _ _ k hk⟩, Lib.bytesWorld_size _ _ _, hcap, fun j hj => ?_, fun j hj => ?_⟩
  · rw [Lib.bytesWorld_cell v _ _ j (by omega), hd]
  · simp only [World.frozen?, Lib.bytesWorld_at_new, hC]
    have : ¬ grownCap v l.length 0 5 ≤ j := by omega
    simp [this]
theorem u8_xor (a b : UInt8) : bits .xor .u8 (a.toNat : Int) (b.toNat : Int) = ((a ^^^ b).toNat : Int) := by
  rw [u8_xor_nat a.toNat b.toNat a.toNat_lt b.toNat_lt, UInt8.toNat_xor]
set_option maxRecDepth 100000 in
theorem turned_any (p : Pk) (at_ : Nat) (mask : UInt8) (w : World) (hl : at_ < p.s.length) (hs : p.s.length ≤ 32768) : Calls Try.prog 80 #[p.val, .int .i64 (at_ : Int), .int .u8 (mask.toNat : Int)] w fun e w' => e = .returned (Pk.val ⟨p.t, p.s.set at_ (p.s[at_] ^^^ mask), p.f⟩) ∧ Below w.heap.size w w' := by
  obtain ⟨t, s, f⟩ := p
  unfold Pk.val
  dsimp only at hs hl ⊢
  have hz := bst_size s
  obtain ⟨c, w1, hcv, b1, z1, hc1, l1, f1⟩ := bytes_of ((w.alloc (.cells #[.int .i64 t, .string (bst s), .int .i64 f] 105)).alloc (.cells #[.int .i64 0, .string ⟨#[]⟩, .int .i64 0] 105)) s
  have ca : w1.cell? ⟨w.heap.size + 1 + 1, at_, none⟩ = some (.int .u8 (s[at_].toNat : Int)) := by
    have := l1 at_ hl
    rw [show s.getD at_ 0 = s[at_] by simp [List.getD, hl]] at this
    simpa using this
  have fa : w1.frozen? ⟨w.heap.size + 1 + 1, at_, none⟩ = false := by simpa using f1 at_ hl
  have hz1 : w1.heap.size = w.heap.size + 1 + 1 + 1 := by simpa using z1
  have c0 : w1.cell? ⟨w.heap.size, 0, none⟩ = some (.int .i64 t) := (b1.cell (p := ⟨w.heap.size, 0, none⟩) (by simp; omega)).trans (by go_simp)
  have c1 : w1.cell? ⟨w.heap.size, 1, none⟩ = some (.string (bst s)) := (b1.cell (p := ⟨w.heap.size, 1, none⟩) (by simp; omega)).trans (by go_simp)
  have c2 : w1.cell? ⟨w.heap.size, 2, none⟩ = some (.int .i64 f) := (b1.cell (p := ⟨w.heap.size, 2, none⟩) (by simp; omega)).trans (by go_simp)
  have t1 : ∀ j, w1.frozen? ⟨w.heap.size, j, none⟩ = false := fun j => (b1.frozen (p := ⟨w.heap.size, j, none⟩) (by simp; omega)).trans (by go_simp)
  have r0 : w1.cell? ⟨w.heap.size + 1, 0, none⟩ = some (.int .i64 0) := (b1.cell (p := ⟨w.heap.size + 1, 0, none⟩) (by simp)).trans (by go_simp)
  have r1 : w1.cell? ⟨w.heap.size + 1, 1, none⟩ = some (.string ⟨#[]⟩) := (b1.cell (p := ⟨w.heap.size + 1, 1, none⟩) (by simp)).trans (by go_simp)
  have r2 : w1.cell? ⟨w.heap.size + 1, 2, none⟩ = some (.int .i64 0) := (b1.cell (p := ⟨w.heap.size + 1, 2, none⟩) (by simp)).trans (by go_simp)
  have t0 : ∀ j, w1.frozen? ⟨w.heap.size + 1, j, none⟩ = false := fun j => (b1.frozen (p := ⟨w.heap.size + 1, j, none⟩) (by simp)).trans (by go_simp)
  have hx := u8_xor s[at_] mask
  have B1 : Below w.heap.size w w1 := (bel8 ((Below.refl _ _).alloc (Nat.le_refl _) _) (Nat.le_refl _) _).trans (b1.mono (by simp; omega))
  have hat : (at_ : Int) < (s.length : Int) := by omega
  have hcv2 : (convert 44 9 (.slice (some ⟨w.heap.size + 1 + 1, 0, none⟩) s.length c)).run Try.prog (w1.setCell ⟨w.heap.size + 1 + 1, at_, none⟩ (.int .u8 ((s[at_].toNat ^^^ mask.toNat : Nat) : Int))) = .ok (.string (bst (s.set at_ (s[at_] ^^^ mask)))) (w1.setCell ⟨w.heap.size + 1 + 1, at_, none⟩ (.int .u8 ((s[at_].toNat ^^^ mask.toNat : Nat) : Int))) := by
    have := run_convert_bytes_back (w1.setCell ⟨w.heap.size + 1 + 1, at_, none⟩ (.int .u8 ((s[at_].toNat ^^^ mask.toNat : Nat) : Int))) 44 9 5 ⟨w.heap.size + 1 + 1, 0, none⟩ c (s.set at_ (s[at_] ^^^ mask)) Try.underlying44 Try.underlying5 Try.underlying9 (fun j hj => by
      rw [Addr.add_lit, Nat.zero_add]
      have hj' : j < s.length := by simpa using hj
      by_cases e : at_ = j
      · subst e
        rw [setc_eq ca]
        simp [UInt8.toNat_xor]
      · have hj2 := l1 j hj'
        rw [show s.getD j 0 = s[j] by simp [List.getD, hj']] at hj2
        rw [setc_ne (by simpa using hj2) (fun h => e h.symm)]
        simp [List.getElem_set_ne e])
    rw [List.length_set] at this
    exact this
  have HB := hide B1
  clear l1 f1 z1 b1 B1 hc1
  go_enter Try.func80, Try.ntmps80
  go_wp2
  refine bodyPost_ret (v := .agg #[.int .i64 t, .string (bst (s.set at_ (s[at_] ^^^ mask))), .int .i64 f]) (by simp [results, Try.results80, go_sem, r0, r1, r2]) rfl ⟨rfl, ?_⟩
  refine ((((HB.out.setCell ?_ _).setCell ?_ _).setCell ?_ _).setCell ?_ _).setCell ?_ _
  all_goals (first | omega | (dsimp only; omega))

end Go.Proofs.Ytegfbebhgihcaaa
