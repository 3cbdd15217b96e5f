import Derived.Test.YtomiifnhcojilaaLa
import Derived.Maps.RangeWalk
import Derived.WalkKit
import Derived.WalkSpells
import Derived.WalkLawsBesides
import Derived.Below
import Derived.Deep.QuietTactic
import Derived.BigQuiet
import Derived.Deep.RegionWith
import Derived.Deep.RegionLaw
import Derived.Deep.Light
import Derived.Deep.RegionHeld3
import Derived.Laws.OwnMore
namespace Go.Proofs.Ytomiifnhcojilaa
open Go.RowKit Go.Maps
set_option linter.unusedVariables false

theorem hide {p : Prop} (h : p) : Hid p := h
theorem i64_wf {a : Int} (h : (Lit.int .i64 a).wf = true) : -9223372036854775808 ≤ a ∧ a ≤ 9223372036854775807 := by
  simp [Lit.wf, IntKind.min, IntKind.max, IntKind.bits, IntKind.signed] at h
  omega
theorem wf_i64 {a : Int} (h : -9223372036854775808 ≤ a ∧ a ≤ 9223372036854775807) : (Lit.int .i64 a).wf = true := by
  simp [Lit.wf, IntKind.min, IntKind.max, IntKind.bits, IntKind.signed]
  omega
/-- What a call may have changed: new blocks, and of the old ones those of S alone. -/
structure Upd (S : Nat → Prop) (w w' : World) : Prop where
  os : w'.os = w.os
  tape : w'.tape = w.tape
  output : w'.output = w.output
  size : w.heap.size ≤ w'.heap.size
  block : ∀ k, k < w.heap.size → ¬ S k → w'.heap[k]? = w.heap[k]?
theorem Upd.refl (S : Nat → Prop) (w : World) : Upd S w w := ⟨rfl, rfl, rfl, Nat.le_refl _, fun _ _ _ => rfl⟩
theorem Upd.trans {S : Nat → Prop} {a b c : World} (h : Upd S a b) (k : Upd S b c) : Upd S a c :=
  ⟨k.os.trans h.os, k.tape.trans h.tape, k.output.trans h.output, Nat.le_trans h.size k.size, fun i hi hs => (k.block i (Nat.lt_of_lt_of_le hi h.size) hs).trans (h.block i hi hs)⟩
theorem Upd.mono {S T : Nat → Prop} {w w' : World} (h : Upd S w w') (hs : ∀ k, k < w.heap.size → S k → T k) : Upd T w w' :=
  ⟨h.os, h.tape, h.output, h.size, fun k hk ht => h.block k hk (fun h2 => ht (hs k hk h2))⟩
theorem Upd.below {S : Nat → Prop} {w w' : World} {B : Nat} (h : Upd S w w') (hB : B ≤ w.heap.size) (hs : ∀ k, S k → B ≤ k) : Below B w w' :=
  ⟨h.os, h.tape, h.output, h.size, fun k hk => h.block k (by omega) (fun h2 => by have := hs k h2; omega)⟩
theorem Upd.of_below {S : Nat → Prop} {w w' : World} (h : Below w.heap.size w w') : Upd S w w' :=
  ⟨h.os, h.tape, h.output, h.size, fun k hk _ => h.block k hk⟩
theorem Upd.drewN {S : Nat → Prop} {a w : World} (h : Upd S a w) (k : Nat) : Upd S a (w.drewN k) := ⟨h.os, h.tape, h.output, h.size, h.block⟩
theorem Upd.alloc {S : Nat → Prop} {a w : World} (h : Upd S a w) (o : Obj) : Upd S a (w.alloc o) :=
  h.trans ⟨rfl, rfl, rfl, by simp, fun k hk _ => Below.heap_alloc _ _ _ hk⟩
theorem Upd.setCell {S : Nat → Prop} {a w : World} (h : Upd S a w) {p : Addr} (hp : S p.block ∨ a.heap.size ≤ p.block) (u : Value) : Upd S a (w.setCell p u) :=
  ⟨h.os, h.tape, h.output, by simpa [World.setCell] using h.size, fun k hk hs => (Below.heap_setCell w p u k (fun e => by
    rcases hp with hp | hp
    · exact hs (e ▸ hp)
    · omega)).trans (h.block k hk hs)⟩
theorem Upd.cell {S : Nat → Prop} {w w' : World} (h : Upd S w w') {p : Addr} (hp : p.block < w.heap.size) (hs : ¬ S p.block) : w'.cell? p = w.cell? p := World.cell?_of_block (w := w) (h.block p.block hp hs)
theorem Upd.frozen {S : Nat → Prop} {w w' : World} (h : Upd S w w') {p : Addr} (hp : p.block < w.heap.size) (hs : ¬ S p.block) : w'.frozen? p = w.frozen? p := World.frozen?_of_block (w := w) (h.block p.block hp hs)
theorem Upd.grownBy {S : Nat → Prop} {a w w' : World} {o : Option Nat} (h : Upd S a w) (hg : w.grownBy w' o) (ho : ∀ k, o = some k → k < a.heap.size → S k) : Upd S a w' :=
  ⟨hg.os.trans h.os, hg.tape.trans h.tape, hg.output.trans h.output, Nat.le_trans h.size hg.size, fun k hk hs => (hg.block k (Nat.lt_of_lt_of_le hk h.size) (fun e => hs (ho k e.symm hk))).trans (h.block k hk hs)⟩

/-- An operation. -/
structure Opn where
  k : Int
  s : Int
  v : ByteArray
def Opn.val (o : Opn) : Value := .agg #[.int .i64 o.k, .int .i64 o.s, .string o.v]
structure Opn.fits (o : Opn) : Prop where
  kw : (Lit.int .i64 o.k).wf = true
  sw : (Lit.int .i64 o.s).wf = true
  vl : o.v.size ≤ maxLen
/-- A list of operations that lies in memory. -/
def Ops (W : World) (a : Option Addr) (P : List Opn) : Prop := ∀ i (h : i < P.length), ∃ b o, a = some ⟨b, o, none⟩ ∧ W.cell? ⟨b, o + i * 3, none⟩ = some (.int .i64 P[i].k) ∧ W.cell? ⟨b, o + i * 3 + 1, none⟩ = some (.int .i64 P[i].s) ∧ W.cell? ⟨b, o + i * 3 + 2, none⟩ = some (.string P[i].v)
/-- A result. -/
abbrev Rs := Int × Int × ByteArray
def rV (r : Rs) : Value := .agg #[.int .i64 r.1, .int .i64 r.2.1, .string r.2.2]

theorem keyed : Keyed Try.prog 3 := int_keyed Try.underlying3
abbrev Own (w : World) (b n : Nat) (L : List Cl) : Prop := w.ownsMap Try.prog 3 cR b n (mD L)
theorem Own.block {w w' : World} {b n : Nat} {L : List Cl} (h : Own w b n L) (e : w'.heap[b]? = w.heap[b]?) : Own w' b n L := by
  obtain ⟨es, clock, hb, F, hs, hD⟩ := h
  exact ⟨es, clock, e.trans hb, F, hs, hD⟩

/-- A ledger at block b, its map at block m, that has these cells. -/
structure Led (w : World) (b : Nat) (m : Option Nat) (L : List Cl) : Prop where
  ok : Ok L
  lt : b < w.heap.size
  c0 : w.cell? ⟨b, 0, none⟩ = some (.map m)
  c1 : w.cell? ⟨b, 1, none⟩ = some (.int .i64 (bh L))
  f0 : w.frozen? ⟨b, 0, none⟩ = false
  f1 : w.frozen? ⟨b, 1, none⟩ = false
  nn : m = none → L = []
  sm : ∀ j, m = some j → j ≠ b ∧ Own w j L.length L
/-- The blocks of a ledger. -/
def LS (b : Nat) (m : Option Nat) (i : Nat) : Prop := i = b ∨ m = some i
theorem Led.upd {S : Nat → Prop} {w w' : World} {b : Nat} {m : Option Nat} {L : List Cl} (h : Led w b m L) (u : Upd S w w') (hb : ¬ S b) (hm : ∀ j, m = some j → ¬ S j) : Led w' b m L :=
  ⟨h.ok, Nat.lt_of_lt_of_le h.lt u.size, (u.cell h.lt hb).trans h.c0, (u.cell h.lt hb).trans h.c1, (u.frozen h.lt hb).trans h.f0, (u.frozen h.lt hb).trans h.f1, h.nn, fun j e => ⟨(h.sm j e).1, (h.sm j e).2.block (u.block j (h.sm j e).2.lt (hm j e))⟩⟩
theorem Led.mlt {w : World} {b : Nat} {m : Option Nat} {L : List Cl} (h : Led w b m L) {j : Nat} (e : m = some j) : j < w.heap.size := (h.sm j e).2.lt

theorem belN {B : Nat} {w w' : World} (h : Below B w w') (n : Nat) : Below B w (w'.drewN n) := ⟨h.os, h.tape, h.output, h.size, h.block⟩

end Go.Proofs.Ytomiifnhcojilaa
