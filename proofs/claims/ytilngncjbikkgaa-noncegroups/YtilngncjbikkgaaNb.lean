import Derived.Test.YtilngncjbikkgaaRows
import Derived.WalkKit
import Derived.WalkSpells
import Derived.WalkLawsBesides
import Derived.Below
import Derived.Deep.QuietTactic
import Derived.BigQuiet
import Derived.Deep.RegionWith
import Derived.Deep.RegionLaw
import Derived.Deep.Light
namespace Go.Proofs.Ytilngncjbikkgaa
open Go.RowKit
set_option linter.unusedVariables false

theorem int_eq {k : IntKind} {a b : Int} (h : a = b) : Value.int k a = .int k b := by rw [h]
theorem ret_int {k : IntKind} {a b : Int} (h : a = b) : Ending.returned (.int k a) = .returned (.int k b) := by rw [h]
theorem hide {p : Prop} (h : p) : Hid p := h
theorem u64_wf {a : Int} (h : (Lit.int .u64 a).wf = true) : 0 ≤ a ∧ a ≤ 18446744073709551615 := by
  simp [Lit.wf, IntKind.min, IntKind.max, IntKind.bits, IntKind.signed] at h
  omega
theorem i64_wf {a : Int} (h : (Lit.int .i64 a).wf = true) : -9223372036854775808 ≤ a ∧ a ≤ 9223372036854775807 := by
  simp [Lit.wf, IntKind.min, IntKind.max, IntKind.bits, IntKind.signed] at h
  omega

/-- What a call may have changed: new blocks, and of the old ones those of S alone. -/
structure Upd (S : Nat → Prop) (w w' : World) : Prop where
  os : w'.os = w.os
  tape : w'.tape = w.tape
  output : w'.output = w.output
  size : w.heap.size ≤ w'.heap.size
  block : ∀ k, k < w.heap.size → ¬ S k → w'.heap[k]? = w.heap[k]?
theorem Upd.refl (S : Nat → Prop) (w : World) : Upd S w w := ⟨rfl, rfl, rfl, Nat.le_refl _, fun _ _ _ => rfl⟩
theorem Upd.trans {S : Nat → Prop} {a b c : World} (h : Upd S a b) (k : Upd S b c) : Upd S a c :=
  ⟨k.os.trans h.os, k.tape.trans h.tape, k.output.trans h.output, Nat.le_trans h.size k.size, fun i hi hs => (k.block i (Nat.lt_of_lt_of_le hi h.size) hs).trans (h.block i hi hs)⟩
theorem Upd.mono {S T : Nat → Prop} {w w' : World} (h : Upd S w w') (hs : ∀ k, k < w.heap.size → S k → T k) : Upd T w w' :=
  ⟨h.os, h.tape, h.output, h.size, fun k hk ht => h.block k hk (fun h2 => ht (hs k hk h2))⟩
theorem Upd.below {S : Nat → Prop} {w w' : World} {B : Nat} (h : Upd S w w') (hB : B ≤ w.heap.size) (hs : ∀ k, S k → B ≤ k) : Below B w w' :=
  ⟨h.os, h.tape, h.output, h.size, fun k hk => h.block k (by omega) (fun h2 => by have := hs k h2; omega)⟩
theorem Upd.of_below {S : Nat → Prop} {w w' : World} (h : Below w.heap.size w w') : Upd S w w' :=
  ⟨h.os, h.tape, h.output, h.size, fun k hk _ => h.block k hk⟩
theorem Upd.drewN {S : Nat → Prop} {a w : World} (h : Upd S a w) (k : Nat) : Upd S a (w.drewN k) := ⟨h.os, h.tape, h.output, h.size, h.block⟩
theorem Upd.alloc {S : Nat → Prop} {a w : World} (h : Upd S a w) (o : Obj) : Upd S a (w.alloc o) :=
  h.trans ⟨rfl, rfl, rfl, by simp, fun k hk _ => Below.heap_alloc _ _ _ hk⟩
theorem Upd.setCell {S : Nat → Prop} {a w : World} (h : Upd S a w) {p : Addr} (hp : S p.block ∨ a.heap.size ≤ p.block) (u : Value) : Upd S a (w.setCell p u) :=
  ⟨h.os, h.tape, h.output, by simpa [World.setCell] using h.size, fun k hk hs => (Below.heap_setCell w p u k (fun e => by
    rcases hp with hp | hp
    · exact hs (e ▸ hp)
    · omega)).trans (h.block k hk hs)⟩
theorem Upd.cell {S : Nat → Prop} {w w' : World} (h : Upd S w w') {p : Addr} (hp : p.block < w.heap.size) (hs : ¬ S p.block) : w'.cell? p = w.cell? p := World.cell?_of_block (w := w) (h.block p.block hp hs)
theorem Upd.frozen {S : Nat → Prop} {w w' : World} (h : Upd S w w') {p : Addr} (hp : p.block < w.heap.size) (hs : ¬ S p.block) : w'.frozen? p = w.frozen? p := World.frozen?_of_block (w := w) (h.block p.block hp hs)

/-- A clock at block c with that reading. -/
structure Clk (w : World) (c : Nat) (R : Int) : Prop where
  lt : c < w.heap.size
  c0 : w.cell? ⟨c, 0, none⟩ = some (.int .u64 R)
  f0 : w.frozen? ⟨c, 0, none⟩ = false
  lo : 0 ≤ R
  hi : R ≤ 18446744073709551615
theorem Clk.upd {S : Nat → Prop} {w w' : World} {c : Nat} {R : Int} (h : Clk w c R) (u : Upd S w w') (hs : ¬ S c) : Clk w' c R :=
  ⟨Nat.lt_of_lt_of_le h.lt u.size, (u.cell h.lt hs).trans h.c0, (u.frozen h.lt hs).trans h.f0, h.lo, h.hi⟩
/-- A Pairs at block p over the clock at c, with its memory. -/
structure Prs (w : World) (p c : Nat) (rd md : Int) : Prop where
  lt : p < w.heap.size
  c0 : w.cell? ⟨p, 0, none⟩ = some (.pointer (some ⟨c, 0, none⟩))
  c1 : w.cell? ⟨p, 1, none⟩ = some (.int .u64 rd)
  c2 : w.cell? ⟨p, 2, none⟩ = some (.int .u64 md)
  f1 : w.frozen? ⟨p, 1, none⟩ = false
  f2 : w.frozen? ⟨p, 2, none⟩ = false
  ne : c ≠ p
  m0 : 0 ≤ md
  m1 : md ≤ 65535
theorem Prs.upd {S : Nat → Prop} {w w' : World} {p c : Nat} {rd md : Int} (h : Prs w p c rd md) (u : Upd S w w') (hs : ¬ S p) : Prs w' p c rd md :=
  ⟨Nat.lt_of_lt_of_le h.lt u.size, (u.cell h.lt hs).trans h.c0, (u.cell h.lt hs).trans h.c1, (u.cell h.lt hs).trans h.c2, (u.frozen h.lt hs).trans h.f1, (u.frozen h.lt hs).trans h.f2, h.ne, h.m0, h.m1⟩

theorem Prs.write {w : World} {p c : Nat} {rd md : Int} (h : Prs w p c rd md) (rd' md' : Int) (h0 : 0 ≤ md') (h1 : md' ≤ 65535) :
    Prs ((w.setCell ⟨p, 1, none⟩ (.int .u64 rd')).setCell ⟨p, 2, none⟩ (.int .u64 md')) p c rd' md' := by
  obtain ⟨hlt, p0, p1, p2, pf1, pf2, hne, m0, m1⟩ := h
  refine ⟨?_, ?_, ?_, ?_, ?_, ?_, hne, h0, h1⟩
  all_goals go_simp
theorem Prs.past {w : World} {p c : Nat} {rd md : Int} (h : Prs w p c rd md) {n k : Nat} (hn : p ≠ n) (u : Value) : Prs (w.setCell ⟨n, k, none⟩ u) p c rd md :=
  h.upd ((Upd.refl (· = n) w).setCell (.inl rfl) u) hn
theorem Clk.past {w : World} {c : Nat} {R : Int} (h : Clk w c R) {n k : Nat} (hn : c ≠ n) (u : Value) : Clk (w.setCell ⟨n, k, none⟩ u) c R :=
  h.upd ((Upd.refl (· = n) w).setCell (.inl rfl) u) hn
theorem Clk.write {w : World} {c : Nat} {R : Int} (h : Clk w c R) (R' : Int) (h0 : 0 ≤ R') (h1 : R' ≤ 18446744073709551615) : Clk (w.setCell ⟨c, 0, none⟩ (.int .u64 R')) c R' := by
  obtain ⟨hlt, p0, pf, m0, m1⟩ := h
  refine ⟨?_, ?_, ?_, h0, h1⟩
  all_goals go_simp

/-- How many draws were made at a reading, as far as the memory goes. -/
def made (R rd md : Int) : Int := if rd = R then md else 0

set_option maxHeartbeats 400000 in
theorem draw_ok (p c : Nat) (R rd md : Int) (w : World) (h : Prs w p c rd md) (hc : Clk w c R) (hk : made R rd md ≠ 65535) :
    Calls Try.prog 14 #[.pointer (some ⟨p, 0, none⟩)] w fun e w' => e = .returned (.tuple #[.agg #[.int .u64 R, .int .u64 (made R rd md + 1)], .int .i64 0]) ∧ Prs w' p c R (made R rd md + 1) ∧ Upd (· = p) w w' := by
  have hh := hide h
  obtain ⟨hlt, p0, p1, p2, pf1, pf2, hne, m0, m1⟩ := h
  obtain ⟨clt, k0, kf, klo, khi⟩ := hc
  have n0 : p ≠ w.heap.size := by omega
  have n1 : p ≠ w.heap.size + 1 := by omega
  by_cases hr : rd = R
  · subst hr
    have e : made rd rd md = md := by simp [made]
    rw [e] at hk ⊢
    clear e
    have hb : (md == 65535) = false := by simp [hk]
    go_enter Try.func14, Try.ntmps14
    go_wp2
    go_quiet (fail)
    go_wp2
    refine bodyPost_ret (v := .tuple #[.agg #[.int .u64 rd, .int .u64 (md + 1)], .int .i64 0]) (by simp [results, Try.results14, go_sem]) rfl ⟨rfl, ?_, ?_⟩
    · refine ((Prs.write (rd := rd) (md := md) ?_ rd (md + 1) (by omega) (by omega)).past n0 _).past n0 _
      refine (Prs.past (Prs.upd hh.out ((((Upd.refl (fun _ => False) w).alloc _).alloc _).drewN nq) id) n1 _).past n1 _
    · iterate 2 refine Upd.setCell ?_ (.inr (by simp)) _
      iterate 2 refine Upd.setCell (S := (· = p)) ?_ (.inl (by rfl)) _
      iterate 2 refine Upd.setCell ?_ (.inr (by simp)) _
      exact (((Upd.refl _ w).alloc _).alloc _).drewN nq
  · have e : made R rd md + 1 = 1 := by simp [made, hr]
    rw [e]
    clear e hk
    have hb : (rd == R) = false := by simp [hr]
    go_enter Try.func14, Try.ntmps14
    go_wp2
    go_quiet (fail)
    go_wp2
    refine bodyPost_ret (v := .tuple #[.agg #[.int .u64 R, .int .u64 1], .int .i64 0]) (by simp [results, Try.results14, go_sem]) rfl ⟨rfl, ?_, ?_⟩
    · refine ((Prs.write (rd := rd) (md := md) ?_ R 1 (by omega) (by omega)).past n0 _).past n0 _
      exact Prs.past (Prs.upd hh.out ((((Upd.refl (fun _ => False) w).alloc _).alloc _).drewN nq) id) n1 _
    · iterate 2 refine Upd.setCell ?_ (.inr (by simp)) _
      iterate 2 refine Upd.setCell (S := (· = p)) ?_ (.inl (by rfl)) _
      refine Upd.setCell ?_ (.inr (by simp)) _
      exact (((Upd.refl _ w).alloc _).alloc _).drewN nq

set_option maxHeartbeats 400000 in
theorem draw_end (p c : Nat) (R rd md : Int) (w : World) (h : Prs w p c rd md) (hc : Clk w c R) (hk : made R rd md = 65535) :
    Calls Try.prog 14 #[.pointer (some ⟨p, 0, none⟩)] w fun e w' => e = .returned (.tuple #[.agg #[.int .u64 0, .int .u64 0], .int .i64 20]) ∧ Below w.heap.size w w' := by
  obtain ⟨hlt, p0, p1, p2, pf1, pf2, hne, m0, m1⟩ := h
  obtain ⟨clt, k0, kf, klo, khi⟩ := hc
  by_cases hr : rd = R
  · subst hr
    have e : made rd rd md = md := by simp [made]
    rw [e] at hk
    subst hk
    clear e
    go_enter Try.func14, Try.ntmps14
    go_wp2
    go_quiet (fail)
    go_wp2
    refine bodyPost_ret (v := .tuple #[.agg #[.int .u64 0, .int .u64 0], .int .i64 20]) (by simp [results, Try.results14, go_sem]) rfl ⟨rfl, ?_⟩
    refine Upd.below (S := fun _ => False) ?_ (Nat.le_refl _) (fun _ h => h.elim)
    iterate 3 refine Upd.setCell ?_ (.inr (by simp)) _
    exact (((Upd.refl _ w).alloc _).alloc _).drewN nq
  · simp [made, hr] at hk

end Go.Proofs.Ytilngncjbikkgaa
