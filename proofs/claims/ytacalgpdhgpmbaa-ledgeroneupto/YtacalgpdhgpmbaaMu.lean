import Derived.Test.YtacalgpdhgpmbaaMq
import Derived.Test.YtacalgpdhgpmbaaJr
import Derived.Test.YtacalgpdhgpmbaaMn
import Derived.Test.YtacalgpdhgpmbaaGLi
namespace Go.Proofs.Ytacalgpdhgpmbaa
open Go.RowKit
open Classical
set_option linter.unusedVariables false

/-- Three ledgers side by side, their memory from B on. -/
def Tri (B : Nat) (w0 w : World) (b1 : Nat) (L1 : List Cl) (b2 : Nat) (L2 : List Cl) (b3 : Nat) (L3 : List Cl) : Prop :=
  Two B w0 w b1 L1 b2 L2 ∧ Two B w0 w b2 L2 b3 L3 ∧ ∃ m1 m2 m3, (Led w b1 m1 L1 ∧ Led w b2 m2 L2 ∧ Led w b3 m3 L3) ∧ (B ≤ b1 ∧ B ≤ b2 ∧ B ≤ b3) ∧ ((∀ j, m1 = some j → B ≤ j) ∧ (∀ j, m2 = some j → B ≤ j) ∧ (∀ j, m3 = some j → B ≤ j)) ∧ (b1 ≠ b2 ∧ b2 ≠ b3 ∧ b3 ≠ b1) ∧ ((∀ j, m1 = some j → m2 ≠ some j) ∧ (∀ j, m2 = some j → m3 ≠ some j) ∧ (∀ j, m3 = some j → m1 ≠ some j)) ∧ Below B w0 w
theorem Tri.of {B b1 b2 b3 : Nat} {w0 w : World} {L1 L2 L3 : List Cl} (h : ∃ m1 m2 m3, (Led w b1 m1 L1 ∧ Led w b2 m2 L2 ∧ Led w b3 m3 L3) ∧ (B ≤ b1 ∧ B ≤ b2 ∧ B ≤ b3) ∧ ((∀ j, m1 = some j → B ≤ j) ∧ (∀ j, m2 = some j → B ≤ j) ∧ (∀ j, m3 = some j → B ≤ j)) ∧ (b1 ≠ b2 ∧ b2 ≠ b3 ∧ b3 ≠ b1) ∧ ((∀ j, m1 = some j → m2 ≠ some j) ∧ (∀ j, m2 = some j → m3 ≠ some j) ∧ (∀ j, m3 = some j → m1 ≠ some j)) ∧ Below B w0 w) : Tri B w0 w b1 L1 b2 L2 b3 L3 := by
  have h' := h
  obtain ⟨m1, m2, m3, ⟨l1, l2, l3⟩, ⟨p1, p2, p3⟩, ⟨q1, q2, q3⟩, ⟨n1, n2, n3⟩, ⟨d1, d2, d3⟩, hb⟩ := h
  exact ⟨⟨m1, m2, l1, l2, p1, p2, q1, q2, n1, d1, hb⟩, ⟨m2, m3, l2, l3, p2, p3, q2, q3, n2, d2, hb⟩, h'⟩
theorem Tri.rot {B b1 b2 b3 : Nat} {w0 w : World} {L1 L2 L3 : List Cl} (h : Tri B w0 w b1 L1 b2 L2 b3 L3) : Tri B w0 w b2 L2 b3 L3 b1 L1 := by
  obtain ⟨_, _, m1, m2, m3, ⟨l1, l2, l3⟩, ⟨p1, p2, p3⟩, ⟨q1, q2, q3⟩, ⟨n1, n2, n3⟩, ⟨d1, d2, d3⟩, hb⟩ := h
  exact Tri.of ⟨m2, m3, m1, ⟨l2, l3, l1⟩, ⟨p2, p3, p1⟩, ⟨q2, q3, q1⟩, ⟨n2, n3, n1⟩, ⟨d2, d3, d1⟩, hb⟩
theorem Tri.bel {B b1 b2 b3 : Nat} {w0 w : World} {L1 L2 L3 : List Cl} (h : Tri B w0 w b1 L1 b2 L2 b3 L3) : Below B w0 w := h.1.bel
theorem Tri.fst {B b1 b2 b3 : Nat} {w0 w : World} {L1 L2 L3 : List Cl} (h : Tri B w0 w b1 L1 b2 L2 b3 L3) : LedB B w0 w b1 L1 := h.1.fst
theorem Tri.on {B b1 b2 b3 : Nat} {w0 w w' : World} {L1 L2 L3 : List Cl} (h : Tri B w0 w b1 L1 b2 L2 b3 L3) (hu : Below w.heap.size w w') : Tri B w0 w' b1 L1 b2 L2 b3 L3 := by
  obtain ⟨_, _, m1, m2, m3, ⟨l1, l2, l3⟩, hp, hq, hn, hd, hb⟩ := h
  have hlt := l1.lt
  have up : ∀ {b m L}, Led w b m L → Led w' b m L := fun l => l.upd (S := fun _ => False) (Upd.of_below hu) id (fun _ _ => id)
  exact Tri.of ⟨m1, m2, m3, ⟨up l1, up l2, up l3⟩, hp, hq, hn, hd, hb.trans (hu.mono (by have := hp.1; omega))⟩
/-- A third ledger beside two. -/
theorem Tri.new {B b1 b2 : Nat} {w0 w w' : World} {L1 L2 : List Cl} {b3 : Nat} {m3 : Option Nat} {L3 : List Cl} (h : Two B w0 w b1 L1 b2 L2) (l3 : Led w' b3 m3 L3) (hb : Below w.heap.size w w') (h3 : w.heap.size ≤ b3) (h4 : ∀ j, m3 = some j → w.heap.size ≤ j) : Tri B w0 w' b1 L1 b2 L2 b3 L3 := by
  obtain ⟨m1, m2, l1, l2, p1, p2, q1, q2, n1, d1, k⟩ := h
  have t1 := l1.lt
  have t2 := l2.lt
  have up : ∀ {b m L}, Led w b m L → Led w' b m L := fun l => l.upd (S := fun _ => False) (Upd.of_below hb) id (fun _ _ => id)
  refine Tri.of ⟨m1, m2, m3, ⟨up l1, up l2, l3⟩, ⟨p1, p2, by omega⟩, ⟨q1, q2, fun j e => by have := h4 j e; omega⟩, ⟨n1, by omega, by omega⟩, ⟨d1, fun j e e' => ?_, fun j e e' => ?_⟩, k.trans (hb.mono (by omega))⟩
  · have := h4 j e'; have := l2.mlt e; omega
  · have := h4 j e; have := l1.mlt e'; omega
/-- Do of the first. -/
theorem do_tri (B : Nat) (w0 : World) (b1 b2 b3 : Nat) (L1 L2 L3 : List Cl) (k s : Int) (v : ByteArray) (hf : (⟨k, s, v⟩ : Opn).fits) (w : World) (h : Tri B w0 w b1 L1 b2 L2 b3 L3) : Calls Try.prog 28 #[.pointer (some ⟨b1, 0, none⟩), .agg #[.int .i64 k, .int .i64 s, .string v]] w fun e w' => e = .returned (.agg #[.int .i64 (wd L1 k s v).1, .int .i64 (wd L1 k s v).2.1, .string (wd L1 k s v).2.2]) ∧ Tri B w0 w' b1 (dn L1 k s v) b2 L2 b3 L3 ∧ (∀ g i u, g ≠ b1 → w.cell? ⟨g, i, none⟩ = some u → w'.cell? ⟨g, i, none⟩ = some u) ∧ w.heap.size ≤ w'.heap.size := by
  obtain ⟨_, _, m1, m2, m3, ⟨l1, l2, l3⟩, ⟨p1, p2, p3⟩, ⟨q1, q2, q3⟩, ⟨n1, n2, n3⟩, ⟨d1, d2, d3⟩, hb⟩ := h
  refine (do3 b1 m1 L1 k s v hf w l1).mono fun e w' ⟨he, t⟩ => ⟨he, ?_, fun g i u hg hc => ?_, t.upd.size⟩
  · have hlt := l1.lt
    have up : ∀ {b m L}, Led w b m L → b1 ≠ b → (∀ j, m1 = some j → m ≠ some j) → Led w' b m L := fun {b m L} l hn hd => l.upd t.upd (by
      rintro (e | e)
      · exact hn e.symm
      · exact map_ne_cells (l1.sm _ e).2 l.c0 rfl) (fun j e => by
      rintro (e' | e')
      · exact map_ne_cells (l.sm j e).2 l1.c0 e'
      · exact hd j e' e)
    have hbb : Below B w0 w' := hb.trans (t.upd.below (by omega) (fun i hi => by
      rcases hi with rfl | hi
      · exact p1
      · exact q1 i hi))
    have k2 := up l2 n1 d1
    have k3 := up l3 (fun e => n3 e.symm) (fun j e e' => d3 j e' e)
    obtain ⟨m1', l1', hm, hu⟩ := t
    refine Tri.of ⟨m1', m2, m3, ⟨l1', k2, k3⟩, ⟨p1, p2, p3⟩, ⟨fun j e => ?_, q2, q3⟩, ⟨n1, n2, n3⟩, ⟨fun j e e' => ?_, d2, fun j e e' => ?_⟩, hbb⟩
    · rcases hm with h | ⟨i, h, hi⟩
      · exact q1 j (h ▸ e)
      · rw [h] at e; cases e; omega
    · rcases hm with h | ⟨i, h, hi⟩
      · exact d1 j (h ▸ e) e'
      · rw [h] at e; cases e; have := l2.mlt e'; omega
    · rcases hm with h | ⟨i, h, hi⟩
      · exact d3 j e (h ▸ e')
      · rw [h] at e'; cases e'; have := l3.mlt e; omega
  · refine (t.upd.cell (p := ⟨g, i, none⟩) (World.block_lt_of_cell? _ _ hc) ?_).trans hc
    rintro (e | e)
    · exact hg e
    · exact map_ne_cells (l1.sm _ e).2 hc rfl

end Go.Proofs.Ytacalgpdhgpmbaa
