import Derived.Test.YtjedpnhdpnknoabLf
import Derived.Laws.StructEq
namespace Go.Proofs.Ytjedpnhdpnknoab
open Go.RowKit Go.Maps
set_option linter.unusedVariables false

theorem bytes_inj (a b : ByteArray) : a.toList = b.toList ↔ a = b := by
  rw [ByteArray.toList_eq, ByteArray.toList_eq]
  obtain ⟨⟨x⟩⟩ := a
  obtain ⟨⟨y⟩⟩ := b
  simp
theorem eql_res (r r' : Rs) (w : World) : (binOp .eql 26 (.agg #[.int .i64 r.1, .int .i64 r.2.1, .string r.2.2]) (.agg #[.int .i64 r'.1, .int .i64 r'.2.1, .string r'.2.2])).run Try.prog w = .ok (.bool (decide (r = r'))) w := by
  go_simp
  obtain ⟨a, b, c⟩ := r
  obtain ⟨a', b', c'⟩ := r'
  dsimp only
  by_cases e1 : a = a' <;> by_cases e2 : b = b' <;> by_cases e3 : c = c' <;> simp [e1, e2, e3, bytes_inj]
theorem neq_res (r r' : Rs) (w : World) : (binOp .neq 26 (.agg #[.int .i64 r.1, .int .i64 r.2.1, .string r.2.2]) (.agg #[.int .i64 r'.1, .int .i64 r'.2.1, .string r'.2.2])).run Try.prog w = .ok (.bool (!decide (r = r'))) w := by
  go_simp
  obtain ⟨a, b, c⟩ := r
  obtain ⟨a', b', c'⟩ := r'
  dsimp only
  by_cases e1 : a = a' <;> by_cases e2 : b = b' <;> by_cases e3 : c = c' <;> simp [e1, e2, e3, bytes_inj]
theorem get_any (b : Nat) (m : Option Nat) (L : List Cl) (s : Int) (hs : (Lit.int .i64 s).wf = true) (w : World) (h : Led w b m L) :
    Calls Try.prog 11 #[.pointer (some ⟨b, 0, none⟩), .int .i64 s] w fun e w' => e = .returned (.tuple #[.string ((gv L s).getD ByteArray.empty), .bool (gv L s).isSome]) ∧ Below w.heap.size w w' := by
  have d0 := h.c0
  obtain ⟨t, x, tk, hg, hl1, hl2⟩ := look_vals L s
  have hlook : (Instr.lookup 66 (.map m) (.int .i64 s) true).run Try.prog w = .ok (.tuple #[.agg #[.int .i64 t, .string x], .bool tk]) w := by
    refine (look_any w m L.length L s h.nn (fun j e => (h.sm j e).2) hs).trans ?_
    rw [hl2]
    exact congrArg (fun y => Result.ok (Value.tuple #[y, .bool tk]) w) hl1
  have hx : (gv L s).getD ByteArray.empty = x := by
    cases hq : gv L s with
    | none =>
      rw [hq] at hl1
      simp [cV] at hl1
      exact hl1.2
    | some y =>
      rw [hq] at hl1
      simp [cV] at hl1
      exact hl1.2
  rw [hx, hl2]
  clear hx hl1 hl2 hg h
  go_enter Try.func11, Try.ntmps11
  go_wp2
  go_ret2
  exact ⟨rfl, (Below.refl _ w).alloc (Nat.le_refl _) _⟩
theorem lenm_any (b : Nat) (m : Option Nat) (L : List Cl) (w : World) (h : Led w b m L) :
    Calls Try.prog 22 #[.pointer (some ⟨b, 0, none⟩)] w fun e w' => e = .returned (.int .i64 L.length) ∧ w' = w := by
  have d0 := h.c0
  have hl := len_any w m L.length L h.nn (fun j e => (h.sm j e).2)
  clear h
  go_enter Try.func22, Try.ntmps22
  go_wp2
  go_ret
  exact ⟨rfl, rfl⟩

theorem check3 (k s : Int) (v : ByteArray) (hf : (⟨k, s, v⟩ : Opn).fits) (W : World) : Calls Try.prog 28 #[.agg #[.int .i64 k, .int .i64 s, .string v]] W fun e w' => e = .returned (.int .i64 (ck k s v)) ∧ Below W.heap.size W w' := check_any ⟨k, s, v⟩ hf W
theorem do3 (b : Nat) (m : Option Nat) (L : List Cl) (k s : Int) (v : ByteArray) (hf : (⟨k, s, v⟩ : Opn).fits) (W : World) (hW : Led W b m L) : Calls Try.prog 10 #[.pointer (some ⟨b, 0, none⟩), .agg #[.int .i64 k, .int .i64 s, .string v]] W fun e w' => e = .returned (.agg #[.int .i64 (wd L k s v).1, .int .i64 (wd L k s v).2.1, .string (wd L k s v).2.2]) ∧ Took W b m (dn L k s v) w' := do_any b m L ⟨k, s, v⟩ hf W hW
theorem would3 (b : Nat) (m : Option Nat) (L : List Cl) (k s : Int) (v : ByteArray) (hf : (⟨k, s, v⟩ : Opn).fits) (W : World) (hW : Led W b m L) : Calls Try.prog 21 #[.pointer (some ⟨b, 0, none⟩), .agg #[.int .i64 k, .int .i64 s, .string v]] W fun e w' => e = .returned (.agg #[.int .i64 (wd L k s v).1, .int .i64 (wd L k s v).2.1, .string (wd L k s v).2.2]) ∧ Below W.heap.size W w' := would_any b m L ⟨k, s, v⟩ hf W hW
/-- A ledger whose memory all lies from B on; below B nothing has changed since w0. -/
def LedB (B : Nat) (w0 w : World) (b : Nat) (L : List Cl) : Prop := ∃ m, Led w b m L ∧ B ≤ b ∧ (∀ j, m = some j → B ≤ j) ∧ Below B w0 w
theorem LedB.ok {B b : Nat} {w0 w : World} {L : List Cl} (h : LedB B w0 w b L) : Ok L := by obtain ⟨m, h, _⟩ := h; exact h.ok
theorem LedB.bel {B b : Nat} {w0 w : World} {L : List Cl} (h : LedB B w0 w b L) : Below B w0 w := by obtain ⟨m, _, _, _, h⟩ := h; exact h
theorem LedB.lt {B b : Nat} {w0 w : World} {L : List Cl} (h : LedB B w0 w b L) : B ≤ b ∧ b < w.heap.size := by obtain ⟨m, h, hb, _⟩ := h; exact ⟨hb, h.lt⟩
theorem LedB.on {B b : Nat} {w0 w w' : World} {L : List Cl} (h : LedB B w0 w b L) (hb : Below w.heap.size w w') : LedB B w0 w' b L := by
  obtain ⟨m, h1, h2, h3, h4⟩ := h
  exact ⟨m, h1.upd (S := fun _ => False) (Upd.of_below hb) id (fun _ _ => id), h2, h3, h4.trans (hb.mono (by have := h1.lt; omega))⟩
/-- Other blocks from B on may change. -/
theorem LedB.upd {S : Nat → Prop} {B b : Nat} {w0 w w' : World} {L : List Cl} (h : LedB B w0 w b L) (u : Upd S w w') (hS : ∀ k, S k → B ≤ k) (hn : ¬ S b) (hm : ∀ k, S k → ∀ es c, w.heap[k]? ≠ some (.map es c)) : LedB B w0 w' b L := by
  obtain ⟨m, h1, h2, h3, h4⟩ := h
  refine ⟨m, h1.upd u hn (fun j e hs => ?_), h2, h3, h4.trans (u.below (by have := h1.lt; omega) hS)⟩
  obtain ⟨es, c, hb, _⟩ := (h1.sm j e).2
  exact hm j hs es c hb
theorem LedB.took {B b : Nat} {w0 w w' : World} {m : Option Nat} {L' : List Cl} (t : Took w b m L' w') (hb : B ≤ b) (hs : B ≤ w.heap.size) (hm : ∀ j, m = some j → B ≤ j) (h0 : Below B w0 w) : LedB B w0 w' b L' := by
  obtain ⟨m', hl, hmm, hu⟩ := t
  refine ⟨m', hl, hb, fun j e => ?_, h0.trans (hu.below hs (fun k hk => ?_))⟩
  · rcases hmm with h | ⟨i, h, hi⟩
    · exact hm j (h ▸ e)
    · rw [h] at e; cases e; omega
  · rcases hk with rfl | hk
    · exact hb
    · exact hm k hk
theorem new_b (B : Nat) (w0 w : World) (h : Below B w0 w) (hs : B ≤ w.heap.size) : Calls Try.prog 9 #[] w fun e w' => e = .returned (.pointer (some ⟨w.heap.size, 0, none⟩)) ∧ LedB B w0 w' w.heap.size [] ∧ w'.heap.size = w.heap.size + 1 :=
  (new_any w).mono fun e w' ⟨he, hl, hu, hz⟩ => ⟨he, ⟨none, hl, hs, (fun j e => by cases e), h.trans (hu.below hs (fun k hk => hk.elim))⟩, hz⟩
theorem do_b (B : Nat) (w0 : World) (b : Nat) (L : List Cl) (k s : Int) (v : ByteArray) (hf : (⟨k, s, v⟩ : Opn).fits) (w : World) (h : LedB B w0 w b L) : Calls Try.prog 10 #[.pointer (some ⟨b, 0, none⟩), .agg #[.int .i64 k, .int .i64 s, .string v]] w fun e w' => e = .returned (.agg #[.int .i64 (wd L k s v).1, .int .i64 (wd L k s v).2.1, .string (wd L k s v).2.2]) ∧ LedB B w0 w' b (dn L k s v) := by
  obtain ⟨m, h1, h2, h3, h4⟩ := h
  exact (do3 b m L k s v hf w h1).mono fun e w' ⟨he, t⟩ => ⟨he, LedB.took t h2 (by have := h1.lt; omega) h3 h4⟩
theorem would_b (B : Nat) (w0 : World) (b : Nat) (L : List Cl) (k s : Int) (v : ByteArray) (hf : (⟨k, s, v⟩ : Opn).fits) (w : World) (h : LedB B w0 w b L) : Calls Try.prog 21 #[.pointer (some ⟨b, 0, none⟩), .agg #[.int .i64 k, .int .i64 s, .string v]] w fun e w' => e = .returned (.agg #[.int .i64 (wd L k s v).1, .int .i64 (wd L k s v).2.1, .string (wd L k s v).2.2]) ∧ Below w.heap.size w w' := by
  obtain ⟨m, h1, h2, h3, h4⟩ := h
  exact would3 b m L k s v hf w h1
theorem get_b (B : Nat) (w0 : World) (b : Nat) (L : List Cl) (s : Int) (hs : (Lit.int .i64 s).wf = true) (w : World) (h : LedB B w0 w b L) :
    Calls Try.prog 11 #[.pointer (some ⟨b, 0, none⟩), .int .i64 s] w fun e w' => e = .returned (.tuple #[.string ((gv L s).getD ByteArray.empty), .bool (gv L s).isSome]) ∧ Below w.heap.size w w' := by
  obtain ⟨m, h1, h2, h3, h4⟩ := h
  exact get_any b m L s hs w h1
theorem len_b (B : Nat) (w0 : World) (b : Nat) (L : List Cl) (w : World) (h : LedB B w0 w b L) :
    Calls Try.prog 22 #[.pointer (some ⟨b, 0, none⟩)] w fun e w' => e = .returned (.int .i64 L.length) ∧ w' = w := by
  obtain ⟨m, h1, h2, h3, h4⟩ := h
  exact lenm_any b m L w h1
set_option maxRecDepth 100000 in
set_option maxHeartbeats 600000 in
theorem works_any (w : World) : Calls Try.prog 12 #[] w fun e w' => e = .returned (.bool true) ∧ Below w.heap.size w w' := by
  have fa : (⟨1, 7, ⟨#[97]⟩⟩ : Opn).fits := ⟨by decide, by decide, by decide⟩
  have fb : (⟨1, 7, ⟨#[98]⟩⟩ : Opn).fits := ⟨by decide, by decide, by decide⟩
  have fc : (⟨9, 0, ⟨#[]⟩⟩ : Opn).fits := ⟨by decide, by decide, by decide⟩
  have k1 : ck 1 7 ⟨#[97]⟩ = 0 := by decide
  have k2 : ck 9 0 ⟨#[]⟩ = 40 := by decide
  have k3 : ck 1 7 ⟨#[98]⟩ = 0 := by decide
  have d1 : wd [] 1 7 ⟨#[97]⟩ = (1, 7, ⟨#[97]⟩) := by simp [wd, k1, gv]
  have d2 : dn [] 1 7 ⟨#[97]⟩ = [(7, ⟨#[97]⟩)] := by simp [dn, d1, ins]
  have d3 : wd [(7, ⟨#[97]⟩)] 1 7 ⟨#[98]⟩ = (2, 7, ⟨#[97]⟩) := by simp [wd, k3, gv]
  have q1 : ∀ W, (binOp .eql 26 (.agg #[.int .i64 1, .int .i64 7, .string ⟨#[97]⟩]) (.agg #[.int .i64 1, .int .i64 7, .string ⟨#[97]⟩])).run Try.prog W = .ok (.bool true) W := fun W => by simpa using eql_res (1, 7, ⟨#[97]⟩) (1, 7, ⟨#[97]⟩) W
  have q2 : ∀ W, (binOp .eql 26 (.agg #[.int .i64 2, .int .i64 7, .string ⟨#[97]⟩]) (.agg #[.int .i64 2, .int .i64 7, .string ⟨#[97]⟩])).run Try.prog W = .ok (.bool true) W := fun W => by simpa using eql_res (2, 7, ⟨#[97]⟩) (2, 7, ⟨#[97]⟩) W
  go_enter Try.func12, Try.ntmps12
  go_wp2_with (first
    | (go_at_call 9; refine (new_b w.heap.size w w (Below.refl _ _) (Nat.le_refl _)).mono ?_; rintro e w1 ⟨rfl, l2, s1⟩; clear s1)
    | (go_at_call 28; refine (check3 _ _ _ ?_ _).mono ?_; assumption; rintro e w2 ⟨rfl, b2⟩; replace l2 := l2.on b2)
    | (go_at_call 10; refine (do_b _ _ _ _ _ _ _ ?_ _ l2).mono ?_; assumption; rintro e w4 ⟨rfl, t4⟩; (try rw [d2] at t4); clear l2; have l2 := t4))
  go_ret
  exact ⟨rfl, l2.bel⟩

end Go.Proofs.Ytjedpnhdpnknoab
