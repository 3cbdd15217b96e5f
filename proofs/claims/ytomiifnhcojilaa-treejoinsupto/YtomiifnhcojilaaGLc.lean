import Derived.Test.YtomiifnhcojilaaLb
import Derived.Laws.StructEq
namespace Go.Proofs.Ytomiifnhcojilaa
open Go.RowKit Go.Maps
set_option linter.unusedVariables false

end Go.Proofs.Ytomiifnhcojilaa

namespace Go.Proofs.Ytomiifnhcojilaa
open Go.RowKit Go.Maps
set_option linter.unusedVariables false

theorem grown_frozen {w w' : World} {row : Option Nat} (hg : w.grownBy w' row) {a : Addr} (hl : a.block < w.heap.size) (hne : some a.block ≠ row) : w'.frozen? a = w.frozen? a :=
  World.frozen?_of_block (w := w) (hg.block a.block hl hne)
/-- The ledger at b has these cells now; of what was there its blocks alone have changed. -/
def Took (w : World) (b : Nat) (m : Option Nat) (L : List Cl) (w' : World) : Prop :=
  ∃ m', Led w' b m' L ∧ (m' = m ∨ ∃ j, m' = some j ∧ w.heap.size ≤ j) ∧ Upd (LS b m) w w'
theorem took_of {w w1 : World} {b j : Nat} {m : Option Nat} {L : List Cl} {p : Cl} {x : Int} (ok : Ok (ins p L)) (hn : gv L p.1 = none) (hjb : j ≠ b) (lt : b < w1.heap.size) (hown1 : w1.ownsMap Try.prog 3 cR j (L.length + 1) ((mD L).put (.int .i64 p.1) (cD p)))
    (hu : Upd (LS b m) w w1) (c0 : w1.cell? ⟨b, 0, none⟩ = some (.map (some j))) (c1 : w1.cell? ⟨b, 1, none⟩ = some (.int .i64 (bh L))) (f0 : w1.frozen? ⟨b, 0, none⟩ = false) (f1 : w1.frozen? ⟨b, 1, none⟩ = false)
    (hx : x = max (bh L) (p.1 + 1)) (hm : m = some j ∨ w.heap.size ≤ j) : Took w b m (ins p L) (w1.setCell ⟨b, 1, none⟩ (.int .i64 x)) := by
  rw [mD_put hn] at hown1
  refine ⟨some j, ⟨ok, by simpa using lt, ?_, ?_, ?_, ?_, (fun e => by cases e), fun i e => ?_⟩, ?_, hu.setCell (.inl (.inl rfl)) _⟩
  · go_simp
  · rw [bh_ins, ← hx]
    exact World.cell?_setCell_same' _ _ _ (by rw [c1]; rfl)
  · rw [World.frozen?_setCell]; exact f0
  · rw [World.frozen?_setCell]; exact f1
  · cases e
    rw [len_ins]
    exact ⟨hjb, hown1.setCell (a := ⟨b, 1, none⟩) hjb _⟩
  · rcases hm with h | h
    · exact .inl h.symm
    · exact .inr ⟨j, rfl, h⟩
end Go.Proofs.Ytomiifnhcojilaa

namespace Go.Proofs.Ytomiifnhcojilaa
open Go.RowKit Go.Maps
set_option linter.unusedVariables false

theorem look_vals (L : List Cl) (s : Int) : ∃ (t : Int) (x : ByteArray) (tk : Bool), gv L s = (if tk then some x else none) ∧ (match gv L s with | some x => cV (s, x) | none => cV (0, ByteArray.empty)) = .agg #[.int .i64 t, .string x] ∧ (gv L s).isSome = tk := by
  cases h : gv L s with
  | none => exact ⟨0, ByteArray.empty, false, rfl, rfl, rfl⟩
  | some x => exact ⟨s, x, true, rfl, rfl, rfl⟩
theorem box_facts {w w1 : World} {k s : Int} {v e : ByteArray} {T1 T2 : TypeId} (hb : Below ((w.alloc (.cells #[.int .i64 k, .int .i64 s, .string v] T1)).alloc (.cells #[.int .i64 0, .int .i64 0, .string e] T2)).heap.size ((w.alloc (.cells #[.int .i64 k, .int .i64 s, .string v] T1)).alloc (.cells #[.int .i64 0, .int .i64 0, .string e] T2)) w1) :
    w1.cell? ⟨w.heap.size, 0, none⟩ = some (.int .i64 k) ∧ w1.cell? ⟨w.heap.size, 1, none⟩ = some (.int .i64 s) ∧ w1.cell? ⟨w.heap.size, 2, none⟩ = some (.string v) ∧
    w1.cell? ⟨w.heap.size + 1, 0, none⟩ = some (.int .i64 0) ∧ w1.cell? ⟨w.heap.size + 1, 1, none⟩ = some (.int .i64 0) ∧ w1.cell? ⟨w.heap.size + 1, 2, none⟩ = some (.string e) ∧
    w1.frozen? ⟨w.heap.size + 1, 0, none⟩ = false ∧ w1.frozen? ⟨w.heap.size + 1, 1, none⟩ = false ∧ w1.frozen? ⟨w.heap.size + 1, 2, none⟩ = false := by
  refine ⟨(hb.cell (p := ⟨w.heap.size, 0, none⟩) ?_).trans ?_, (hb.cell (p := ⟨w.heap.size, 1, none⟩) ?_).trans ?_, (hb.cell (p := ⟨w.heap.size, 2, none⟩) ?_).trans ?_, (hb.cell (p := ⟨w.heap.size + 1, 0, none⟩) ?_).trans ?_, (hb.cell (p := ⟨w.heap.size + 1, 1, none⟩) ?_).trans ?_, (hb.cell (p := ⟨w.heap.size + 1, 2, none⟩) ?_).trans ?_, (hb.frozen (p := ⟨w.heap.size + 1, 0, none⟩) ?_).trans ?_, (hb.frozen (p := ⟨w.heap.size + 1, 1, none⟩) ?_).trans ?_, (hb.frozen (p := ⟨w.heap.size + 1, 2, none⟩) ?_).trans ?_⟩
  all_goals first | (simp; omega) | simp | go_simp
end Go.Proofs.Ytomiifnhcojilaa

namespace Go.Proofs.Ytomiifnhcojilaa
open Go.RowKit Go.Maps
set_option linter.unusedVariables false

theorem Took.wrap {w wa wb wc : World} {b : Nat} {m : Option Nat} {L : List Cl} (hu : Upd (fun _ => False) w wa) (t : Took wa b m L wb) (hlt : b < w.heap.size) (hm : ∀ j, m = some j → j < w.heap.size) (hc : Upd (fun i => w.heap.size ≤ i ∧ i < wa.heap.size) wb wc) : Took w b m L wc := by
  obtain ⟨m', hl, hmm, hup⟩ := t
  have hle := hu.size
  have h1 : Upd (LS b m) w wb := (hu.mono (fun _ _ h => h.elim)).trans hup
  refine ⟨m', hl.upd hc (by omega) (fun j e => ?_), ?_, ⟨hc.os.trans h1.os, hc.tape.trans h1.tape, hc.output.trans h1.output, Nat.le_trans h1.size hc.size, fun k hk hs => ?_⟩⟩
  · rcases hmm with h | ⟨i, h, hi⟩
    · have := hm j (h ▸ e); omega
    · rw [h] at e; cases e; omega
  · rcases hmm with h | ⟨i, h, hi⟩
    · exact .inl h
    · exact .inr ⟨i, h, by omega⟩
  · exact (hc.block k (Nat.lt_of_lt_of_le hk h1.size) (by omega)).trans (h1.block k hk hs)
theorem Took.upd {w w' : World} {b : Nat} {m : Option Nat} {L : List Cl} (t : Took w b m L w') : Upd (LS b m) w w' := by
  obtain ⟨_, _, _, h⟩ := t
  exact h
theorem Took.same {w w' : World} {b : Nat} {m : Option Nat} {L : List Cl} (h : Led w b m L) (hb : Below w.heap.size w w') : Took w b m L w' :=
  ⟨m, h.upd (S := fun _ => False) (Upd.of_below hb) id (fun _ _ => id), .inl rfl, (Upd.of_below (S := fun _ => False) hb).mono (fun _ _ h => h.elim)⟩
theorem box_facts2 {w w1 w2 : World} {k s : Int} {v e : ByteArray} {T1 T2 : TypeId} {rc rs : Int} {rv : ByteArray} {T3 : TypeId} {b : Nat} {m : Option Nat} (hb : Below ((w.alloc (.cells #[.int .i64 k, .int .i64 s, .string v] T1)).alloc (.cells #[.int .i64 0, .int .i64 0, .string e] T2)).heap.size ((w.alloc (.cells #[.int .i64 k, .int .i64 s, .string v] T1)).alloc (.cells #[.int .i64 0, .int .i64 0, .string e] T2)) w1)
    (u : Upd (LS b m) (w1.alloc (.cells #[.int .i64 rc, .int .i64 rs, .string rv] T3)) w2) (hlt : b < w.heap.size) (hm : ∀ j, m = some j → j < w.heap.size) :
    w2.cell? ⟨w1.heap.size, 0, none⟩ = some (.int .i64 rc) ∧ w2.cell? ⟨w1.heap.size, 1, none⟩ = some (.int .i64 rs) ∧ w2.cell? ⟨w1.heap.size, 2, none⟩ = some (.string rv) ∧
    w2.cell? ⟨w.heap.size + 1, 0, none⟩ = some (.int .i64 0) ∧ w2.cell? ⟨w.heap.size + 1, 1, none⟩ = some (.int .i64 0) ∧ w2.cell? ⟨w.heap.size + 1, 2, none⟩ = some (.string e) ∧
    w2.frozen? ⟨w.heap.size + 1, 0, none⟩ = false ∧ w2.frozen? ⟨w.heap.size + 1, 1, none⟩ = false ∧ w2.frozen? ⟨w.heap.size + 1, 2, none⟩ = false := by
  obtain ⟨_, _, _, z0, z1, z2, zf0, zf1, zf2⟩ := box_facts hb
  have hs : w.heap.size + 2 ≤ w1.heap.size := by simpa using hb.size
  have hn : ∀ i, w.heap.size ≤ i → ¬ LS b m i := fun i hi h => by
    rcases h with h | h
    · omega
    · have := hm i h; omega
  have n0 : w.heap.size + 1 ≠ w1.heap.size := by omega
  have n1 : ¬ LS b m w1.heap.size := hn _ (by omega)
  have n2 : ¬ LS b m (w.heap.size + 1) := hn _ (by omega)
  have b1 := (Below.refl w1.heap.size w1).alloc (Nat.le_refl _) (.cells #[.int .i64 rc, .int .i64 rs, .string rv] T3)
  exact ⟨(u.cell (p := ⟨w1.heap.size, 0, none⟩) (by simp) n1).trans (by go_simp), (u.cell (p := ⟨w1.heap.size, 1, none⟩) (by simp) n1).trans (by go_simp), (u.cell (p := ⟨w1.heap.size, 2, none⟩) (by simp) n1).trans (by go_simp), (u.cell (p := ⟨w.heap.size + 1, 0, none⟩) (by simp; omega) n2).trans ((b1.cell (p := ⟨w.heap.size + 1, 0, none⟩) (by dsimp only; omega)).trans z0), (u.cell (p := ⟨w.heap.size + 1, 1, none⟩) (by simp; omega) n2).trans ((b1.cell (p := ⟨w.heap.size + 1, 1, none⟩) (by dsimp only; omega)).trans z1), (u.cell (p := ⟨w.heap.size + 1, 2, none⟩) (by simp; omega) n2).trans ((b1.cell (p := ⟨w.heap.size + 1, 2, none⟩) (by dsimp only; omega)).trans z2), (u.frozen (p := ⟨w.heap.size + 1, 0, none⟩) (by simp; omega) n2).trans ((b1.frozen (p := ⟨w.heap.size + 1, 0, none⟩) (by dsimp only; omega)).trans zf0), (u.frozen (p := ⟨w.heap.size + 1, 1, none⟩) (by simp; omega) n2).trans ((b1.frozen (p := ⟨w.heap.size + 1, 1, none⟩) (by dsimp only; omega)).trans zf1), (u.frozen (p := ⟨w.heap.size + 1, 2, none⟩) (by simp; omega) n2).trans ((b1.frozen (p := ⟨w.heap.size + 1, 2, none⟩) (by dsimp only; omega)).trans zf2)⟩
end Go.Proofs.Ytomiifnhcojilaa

namespace Go.Proofs.Ytomiifnhcojilaa
open Go.RowKit Go.Maps
set_option linter.unusedVariables false

theorem bytes_inj (a b : ByteArray) : a.toList = b.toList ↔ a = b := by
  rw [ByteArray.toList_eq, ByteArray.toList_eq]
  obtain ⟨⟨x⟩⟩ := a
  obtain ⟨⟨y⟩⟩ := b
  simp
/-- A ledger whose memory all lies from B on; below B nothing has changed since w0. -/
def LedB (B : Nat) (w0 w : World) (b : Nat) (L : List Cl) : Prop := ∃ m, Led w b m L ∧ B ≤ b ∧ (∀ j, m = some j → B ≤ j) ∧ Below B w0 w
theorem LedB.ok {B b : Nat} {w0 w : World} {L : List Cl} (h : LedB B w0 w b L) : Ok L := by obtain ⟨m, h, _⟩ := h; exact h.ok
theorem LedB.bel {B b : Nat} {w0 w : World} {L : List Cl} (h : LedB B w0 w b L) : Below B w0 w := by obtain ⟨m, _, _, _, h⟩ := h; exact h
theorem LedB.lt {B b : Nat} {w0 w : World} {L : List Cl} (h : LedB B w0 w b L) : B ≤ b ∧ b < w.heap.size := by obtain ⟨m, h, hb, _⟩ := h; exact ⟨hb, h.lt⟩
theorem LedB.on {B b : Nat} {w0 w w' : World} {L : List Cl} (h : LedB B w0 w b L) (hb : Below w.heap.size w w') : LedB B w0 w' b L := by
  obtain ⟨m, h1, h2, h3, h4⟩ := h
  exact ⟨m, h1.upd (S := fun _ => False) (Upd.of_below hb) id (fun _ _ => id), h2, h3, h4.trans (hb.mono (by have := h1.lt; omega))⟩
/-- Other blocks from B on may change. -/
theorem LedB.upd {S : Nat → Prop} {B b : Nat} {w0 w w' : World} {L : List Cl} (h : LedB B w0 w b L) (u : Upd S w w') (hS : ∀ k, S k → B ≤ k) (hn : ¬ S b) (hm : ∀ k, S k → ∀ es c, w.heap[k]? ≠ some (.map es c)) : LedB B w0 w' b L := by
  obtain ⟨m, h1, h2, h3, h4⟩ := h
  refine ⟨m, h1.upd u hn (fun j e hs => ?_), h2, h3, h4.trans (u.below (by have := h1.lt; omega) hS)⟩
  obtain ⟨es, c, hb, _⟩ := (h1.sm j e).2
  exact hm j hs es c hb
theorem LedB.took {B b : Nat} {w0 w w' : World} {m : Option Nat} {L' : List Cl} (t : Took w b m L' w') (hb : B ≤ b) (hs : B ≤ w.heap.size) (hm : ∀ j, m = some j → B ≤ j) (h0 : Below B w0 w) : LedB B w0 w' b L' := by
  obtain ⟨m', hl, hmm, hu⟩ := t
  refine ⟨m', hl, hb, fun j e => ?_, h0.trans (hu.below hs (fun k hk => ?_))⟩
  · rcases hmm with h | ⟨i, h, hi⟩
    · exact hm j (h ▸ e)
    · rw [h] at e; cases e; omega
  · rcases hk with rfl | hk
    · exact hb
    · exact hm k hk
end Go.Proofs.Ytomiifnhcojilaa
