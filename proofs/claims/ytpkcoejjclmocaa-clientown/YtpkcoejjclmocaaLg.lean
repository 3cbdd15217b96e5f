import Derived.Test.YtpkcoejjclmocaaLf
import Derived.Laws.StructEq
namespace Go.Proofs.Ytpkcoejjclmocaa
open Go.RowKit Go.Maps
set_option linter.unusedVariables false

theorem bytes_inj (a b : ByteArray) : a.toList = b.toList ↔ a = b := by
  rw [ByteArray.toList_eq, ByteArray.toList_eq]
  obtain ⟨⟨x⟩⟩ := a
  obtain ⟨⟨y⟩⟩ := b
  simp
theorem eql_res (r r' : Rs) (w : World) : (binOp .eql 43 (.agg #[.int .i64 r.1, .int .i64 r.2.1, .string r.2.2]) (.agg #[.int .i64 r'.1, .int .i64 r'.2.1, .string r'.2.2])).run Try.prog w = .ok (.bool (decide (r = r'))) w := by
  go_simp
  obtain ⟨a, b, c⟩ := r
  obtain ⟨a', b', c'⟩ := r'
  dsimp only
  by_cases e1 : a = a' <;> by_cases e2 : b = b' <;> by_cases e3 : c = c' <;> simp [e1, e2, e3, bytes_inj]
theorem neq_res (r r' : Rs) (w : World) : (binOp .neq 43 (.agg #[.int .i64 r.1, .int .i64 r.2.1, .string r.2.2]) (.agg #[.int .i64 r'.1, .int .i64 r'.2.1, .string r'.2.2])).run Try.prog w = .ok (.bool (!decide (r = r'))) w := by
  go_simp
  obtain ⟨a, b, c⟩ := r
  obtain ⟨a', b', c'⟩ := r'
  dsimp only
  by_cases e1 : a = a' <;> by_cases e2 : b = b' <;> by_cases e3 : c = c' <;> simp [e1, e2, e3, bytes_inj]
theorem check3 (k s : Int) (v : ByteArray) (hf : (⟨k, s, v⟩ : Opn).fits) (W : World) : Calls Try.prog 62 #[.agg #[.int .i64 k, .int .i64 s, .string v]] W fun e w' => e = .returned (.int .i64 (ck k s v)) ∧ Below W.heap.size W w' := check_any ⟨k, s, v⟩ hf W
theorem do3 (b : Nat) (m : Option Nat) (L : List Cl) (k s : Int) (v : ByteArray) (hf : (⟨k, s, v⟩ : Opn).fits) (W : World) (hW : Led W b m L) : Calls Try.prog 22 #[.pointer (some ⟨b, 0, none⟩), .agg #[.int .i64 k, .int .i64 s, .string v]] W fun e w' => e = .returned (.agg #[.int .i64 (wd L k s v).1, .int .i64 (wd L k s v).2.1, .string (wd L k s v).2.2]) ∧ Took W b m (dn L k s v) w' := do_any b m L ⟨k, s, v⟩ hf W hW
theorem would3 (b : Nat) (m : Option Nat) (L : List Cl) (k s : Int) (v : ByteArray) (hf : (⟨k, s, v⟩ : Opn).fits) (W : World) (hW : Led W b m L) : Calls Try.prog 42 #[.pointer (some ⟨b, 0, none⟩), .agg #[.int .i64 k, .int .i64 s, .string v]] W fun e w' => e = .returned (.agg #[.int .i64 (wd L k s v).1, .int .i64 (wd L k s v).2.1, .string (wd L k s v).2.2]) ∧ Below W.heap.size W w' := would_any b m L ⟨k, s, v⟩ hf W hW
/-- A ledger whose memory all lies from B on; below B nothing has changed since w0. -/
def LedB (B : Nat) (w0 w : World) (b : Nat) (L : List Cl) : Prop := ∃ m, Led w b m L ∧ B ≤ b ∧ (∀ j, m = some j → B ≤ j) ∧ Below B w0 w
theorem LedB.ok {B b : Nat} {w0 w : World} {L : List Cl} (h : LedB B w0 w b L) : Ok L := by obtain ⟨m, h, _⟩ := h; exact h.ok
theorem LedB.bel {B b : Nat} {w0 w : World} {L : List Cl} (h : LedB B w0 w b L) : Below B w0 w := by obtain ⟨m, _, _, _, h⟩ := h; exact h
theorem LedB.lt {B b : Nat} {w0 w : World} {L : List Cl} (h : LedB B w0 w b L) : B ≤ b ∧ b < w.heap.size := by obtain ⟨m, h, hb, _⟩ := h; exact ⟨hb, h.lt⟩
theorem LedB.on {B b : Nat} {w0 w w' : World} {L : List Cl} (h : LedB B w0 w b L) (hb : Below w.heap.size w w') : LedB B w0 w' b L := by
  obtain ⟨m, h1, h2, h3, h4⟩ := h
  exact ⟨m, h1.upd (S := fun _ => False) (Upd.of_below hb) id (fun _ _ => id), h2, h3, h4.trans (hb.mono (by have := h1.lt; omega))⟩
/-- Other blocks from B on may change. -/
theorem LedB.upd {S : Nat → Prop} {B b : Nat} {w0 w w' : World} {L : List Cl} (h : LedB B w0 w b L) (u : Upd S w w') (hS : ∀ k, S k → B ≤ k) (hn : ¬ S b) (hm : ∀ k, S k → ∀ es c, w.heap[k]? ≠ some (.map es c)) : LedB B w0 w' b L := by
  obtain ⟨m, h1, h2, h3, h4⟩ := h
  refine ⟨m, h1.upd u hn (fun j e hs => ?_), h2, h3, h4.trans (u.below (by have := h1.lt; omega) hS)⟩
  obtain ⟨es, c, hb, _⟩ := (h1.sm j e).2
  exact hm j hs es c hb
theorem LedB.took {B b : Nat} {w0 w w' : World} {m : Option Nat} {L' : List Cl} (t : Took w b m L' w') (hb : B ≤ b) (hs : B ≤ w.heap.size) (hm : ∀ j, m = some j → B ≤ j) (h0 : Below B w0 w) : LedB B w0 w' b L' := by
  obtain ⟨m', hl, hmm, hu⟩ := t
  refine ⟨m', hl, hb, fun j e => ?_, h0.trans (hu.below hs (fun k hk => ?_))⟩
  · rcases hmm with h | ⟨i, h, hi⟩
    · exact hm j (h ▸ e)
    · rw [h] at e; cases e; omega
  · rcases hk with rfl | hk
    · exact hb
    · exact hm k hk
theorem new_b (B : Nat) (w0 w : World) (h : Below B w0 w) (hs : B ≤ w.heap.size) : Calls Try.prog 21 #[] w fun e w' => e = .returned (.pointer (some ⟨w.heap.size, 0, none⟩)) ∧ LedB B w0 w' w.heap.size [] ∧ w'.heap.size = w.heap.size + 1 :=
  (new_any w).mono fun e w' ⟨he, hl, hu, hz⟩ => ⟨he, ⟨none, hl, hs, (fun j e => by cases e), h.trans (hu.below hs (fun k hk => hk.elim))⟩, hz⟩
theorem do_b (B : Nat) (w0 : World) (b : Nat) (L : List Cl) (k s : Int) (v : ByteArray) (hf : (⟨k, s, v⟩ : Opn).fits) (w : World) (h : LedB B w0 w b L) : Calls Try.prog 22 #[.pointer (some ⟨b, 0, none⟩), .agg #[.int .i64 k, .int .i64 s, .string v]] w fun e w' => e = .returned (.agg #[.int .i64 (wd L k s v).1, .int .i64 (wd L k s v).2.1, .string (wd L k s v).2.2]) ∧ LedB B w0 w' b (dn L k s v) := by
  obtain ⟨m, h1, h2, h3, h4⟩ := h
  exact (do3 b m L k s v hf w h1).mono fun e w' ⟨he, t⟩ => ⟨he, LedB.took t h2 (by have := h1.lt; omega) h3 h4⟩
theorem would_b (B : Nat) (w0 : World) (b : Nat) (L : List Cl) (k s : Int) (v : ByteArray) (hf : (⟨k, s, v⟩ : Opn).fits) (w : World) (h : LedB B w0 w b L) : Calls Try.prog 42 #[.pointer (some ⟨b, 0, none⟩), .agg #[.int .i64 k, .int .i64 s, .string v]] w fun e w' => e = .returned (.agg #[.int .i64 (wd L k s v).1, .int .i64 (wd L k s v).2.1, .string (wd L k s v).2.2]) ∧ Below w.heap.size w w' := by
  obtain ⟨m, h1, h2, h3, h4⟩ := h
  exact would3 b m L k s v hf w h1
end Go.Proofs.Ytpkcoejjclmocaa
