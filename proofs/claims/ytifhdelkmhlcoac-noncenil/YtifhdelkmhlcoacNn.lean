import Derived.Test.YtifhdelkmhlcoacNx
import Derived.Lib.AppendStr
import Derived.Deep.RegionHeld3
namespace Go.Proofs.Ytifhdelkmhlcoac
open Go.RowKit
set_option linter.unusedVariables false

theorem wipe_nil (w : World) : Calls Try.prog 13 #[.pointer none] w fun e w' => e = .returned (.tuple #[]) ∧ w' = w := by
  go_enter Try.func13, Try.ntmps13
  go_wp2
  go_end0
  exact ⟨rfl, rfl⟩
theorem pdraw_nil (w : World) : Calls Try.prog 14 #[.pointer none] w fun e w' => e = .returned (.tuple #[.agg #[.int .u64 0, .int .u64 0], .int .i64 0]) ∧ Below w.heap.size w w' := by
  go_enter Try.func14, Try.ntmps14
  go_wp2
  refine bodyPost_ret (v := .tuple #[.agg #[.int .u64 0, .int .u64 0], .int .i64 0]) (by simp [results, Try.results14, go_sem]) rfl ⟨rfl, ?_⟩
  refine Upd.below (S := fun _ => False) ?_ (Nat.le_refl _) (fun _ h => h.elim)
  iterate 2 try refine Upd.setCell ?_ (.inr (by simp)) _
  exact (Upd.refl _ w).alloc _
theorem mdraw_nil (w : World) : Calls Try.prog 15 #[.pointer none] w fun e w' => e = .returned (.tuple #[.agg #[.int .u64 0, .int .u64 0], .int .i64 0]) ∧ Below w.heap.size w w' := by
  go_enter Try.func15, Try.ntmps15
  go_wp2
  refine bodyPost_ret (v := .tuple #[.agg #[.int .u64 0, .int .u64 0], .int .i64 0]) (by simp [results, Try.results15, go_sem]) rfl ⟨rfl, ?_⟩
  refine Upd.below (S := fun _ => False) ?_ (Nat.le_refl _) (fun _ h => h.elim)
  iterate 2 try refine Upd.setCell ?_ (.inr (by simp)) _
  exact (Upd.refl _ w).alloc _
theorem sdraw_nil (w : World) : Calls Try.prog 16 #[.pointer none] w fun e w' => e = .returned (.tuple #[.agg #[.int .u64 0, .int .u64 0], .int .i64 0]) ∧ Below w.heap.size w w' := by
  go_enter Try.func16, Try.ntmps16
  go_wp2
  refine bodyPost_ret (v := .tuple #[.agg #[.int .u64 0, .int .u64 0], .int .i64 0]) (by simp [results, Try.results16, go_sem]) rfl ⟨rfl, ?_⟩
  refine Upd.below (S := fun _ => False) ?_ (Nat.le_refl _) (fun _ h => h.elim)
  iterate 2 try refine Upd.setCell ?_ (.inr (by simp)) _
  exact (Upd.refl _ w).alloc _
theorem gdraw_nil (w : World) : Calls Try.prog 17 #[.pointer none, .int .i64 0] w fun e w' => e = .returned (.tuple #[.agg #[.int .u64 0, .int .u64 0], .int .i64 0]) ∧ Below w.heap.size w w' := by
  go_enter Try.func17, Try.ntmps17
  go_wp2
  refine bodyPost_ret (v := .tuple #[.agg #[.int .u64 0, .int .u64 0], .int .i64 0]) (by simp [results, Try.results17, go_sem]) rfl ⟨rfl, ?_⟩
  refine Upd.below (S := fun _ => False) ?_ (Nat.le_refl _) (fun _ h => h.elim)
  iterate 2 try refine Upd.setCell ?_ (.inr (by simp)) _
  exact (Upd.refl _ w).alloc _
theorem cset_nil (w : World) : Calls Try.prog 6 #[.pointer none, .int .u64 4] w fun e w' => e = .returned (.int .i64 0) ∧ w' = w := by
  go_enter Try.func6, Try.ntmps6
  go_wp2
  go_ret
  exact ⟨rfl, rfl⟩
theorem cpass_nil (w : World) : Calls Try.prog 7 #[.pointer none, .int .u64 4] w fun e w' => e = .returned (.int .i64 0) ∧ w' = w := by
  go_enter Try.func7, Try.ntmps7
  go_wp2
  go_ret
  exact ⟨rfl, rfl⟩
theorem gset_nil (w : World) : Calls Try.prog 9 #[.pointer none, .int .u64 3] w fun e w' => e = .returned (.int .i64 0) ∧ w' = w := by
  go_enter Try.func9, Try.ntmps9
  go_wp2
  go_ret
  exact ⟨rfl, rfl⟩
theorem gpass_nil (w : World) : Calls Try.prog 10 #[.pointer none, .int .u64 3] w fun e w' => e = .returned (.int .i64 0) ∧ w' = w := by
  go_enter Try.func10, Try.ntmps10
  go_wp2
  go_ret
  exact ⟨rfl, rfl⟩
theorem gwipe_nil (w : World) : Calls Try.prog 11 #[.pointer none, .int .i64 0] w fun e w' => e = .returned (.int .i64 0) ∧ w' = w := by
  go_enter Try.func11, Try.ntmps11
  go_wp2
  go_ret
  exact ⟨rfl, rfl⟩
theorem now_nil (w : World) : Calls Try.prog 5 #[.pointer none] w fun e w' => e = .returned (.int .u64 0) ∧ w' = w := by
  go_enter Try.func5, Try.ntmps5
  go_wp2
  go_ret
  exact ⟨rfl, rfl⟩
theorem left_nil (w : World) : Calls Try.prog 8 #[.pointer none] w fun e w' => e = .returned (.int .i64 0) ∧ w' = w := by
  go_enter Try.func8, Try.ntmps8
  go_wp2
  go_ret
  exact ⟨rfl, rfl⟩
theorem drawn_nil (w : World) : Calls Try.prog 12 #[.pointer none] w fun e w' => e = .returned (.slice none 0 0) ∧ w' = w := by
  go_enter Try.func12, Try.ntmps12
  go_wp2
  go_ret
  exact ⟨rfl, rfl⟩
theorem newpairs_nil (w : World) : Calls Try.prog 19 #[.pointer none] w fun e w' => e = .returned (.tuple #[.pointer none, .int .i64 3]) ∧ w' = w := by
  go_enter Try.func19, Try.ntmps19
  go_wp2
  go_ret2
  exact ⟨rfl, rfl⟩
theorem take_nil (w : World) : Calls Try.prog 20 #[.nilIface, .int .i64 1] w fun e w' => e = .returned (.tuple #[.slice none 0 0, .int .i64 3]) ∧ w' = w := by
  go_enter Try.func20, Try.ntmps20
  go_wp2
  go_ret2
  exact ⟨rfl, rfl⟩

/-- The memory of a Pairs, whatever its clock. -/
structure PMem (w : World) (p : Nat) (rd md : Int) : Prop where
  lt : p < w.heap.size
  c1 : w.cell? ⟨p, 1, none⟩ = some (.int .u64 rd)
  c2 : w.cell? ⟨p, 2, none⟩ = some (.int .u64 md)
  f1 : w.frozen? ⟨p, 1, none⟩ = false
  f2 : w.frozen? ⟨p, 2, none⟩ = false
theorem PMem.upd {S : Nat → Prop} {w w' : World} {p : Nat} {rd md : Int} (h : PMem w p rd md) (u : Upd S w w') (hs : ¬ S p) : PMem w' p rd md :=
  ⟨Nat.lt_of_lt_of_le h.lt u.size, (u.cell h.lt hs).trans h.c1, (u.cell h.lt hs).trans h.c2, (u.frozen h.lt hs).trans h.f1, (u.frozen h.lt hs).trans h.f2⟩
theorem PMem.write {w : World} {p : Nat} {rd md : Int} (h : PMem w p rd md) (rd' md' : Int) :
    PMem ((w.setCell ⟨p, 1, none⟩ (.int .u64 rd')).setCell ⟨p, 2, none⟩ (.int .u64 md')) p rd' md' := by
  obtain ⟨hlt, p1, p2, pf1, pf2⟩ := h
  refine ⟨?_, ?_, ?_, ?_, ?_⟩
  all_goals go_simp
theorem PMem.past {w : World} {p : Nat} {rd md : Int} (h : PMem w p rd md) {n k : Nat} (hn : p ≠ n) (u : Value) : PMem (w.setCell ⟨n, k, none⟩ u) p rd md :=
  h.upd ((Upd.refl (· = n) w).setCell (.inl rfl) u) hn

set_option maxHeartbeats 400000 in
/-- A Pairs without a clock. -/
theorem pdraw_zero (p : Nat) (w : World) (p0 : w.cell? ⟨p, 0, none⟩ = some (.pointer none)) (h : PMem w p 0 0) :
    Calls Try.prog 14 #[.pointer (some ⟨p, 0, none⟩)] w fun e w' => e = .returned (.tuple #[.agg #[.int .u64 0, .int .u64 1], .int .i64 0]) ∧ Upd (· = p) w w' ∧ PMem w' p 0 1 := by
  have hh := hide h
  obtain ⟨hlt, p1, p2, pf1, pf2⟩ := h
  have n0 : p ≠ w.heap.size := by omega
  have n1 : p ≠ w.heap.size + 1 := by omega
  go_enter Try.func14, Try.ntmps14
  go_wp2
  go_quiet (fail)
  go_wp2
  refine bodyPost_ret (v := .tuple #[.agg #[.int .u64 0, .int .u64 1], .int .i64 0]) (by simp [results, Try.results14, go_sem]) rfl ⟨rfl, ?_, ?_⟩
  · iterate 2 refine Upd.setCell ?_ (.inr (by simp)) _
    iterate 2 refine Upd.setCell (S := (· = p)) ?_ (.inl (by rfl)) _
    iterate 2 refine Upd.setCell ?_ (.inr (by simp)) _
    exact (((Upd.refl _ w).alloc _).alloc _).drewN nq
  · refine ((PMem.write (rd := 0) (md := 0) ?_ 0 1).past n0 _).past n0 _
    exact (PMem.past (PMem.upd hh.out ((((Upd.refl (fun _ => False) w).alloc _).alloc _).drewN nq) id) n1 _).past n1 _
theorem wipe_zero (p : Nat) (rd md : Int) (w : World) (h : PMem w p rd md) :
    Calls Try.prog 13 #[.pointer (some ⟨p, 0, none⟩)] w fun e w' => e = .returned (.tuple #[]) ∧ Upd (· = p) w w' := by
  obtain ⟨hlt, p1, p2, pf1, pf2⟩ := h
  go_enter Try.func13, Try.ntmps13
  go_wp2
  go_end0
  exact ⟨rfl, ((Upd.refl (· = p) w).setCell (.inl rfl) _).setCell (.inl rfl) _⟩
theorem mdraw_zero (m : Nat) (w : World) (hlt : m < w.heap.size) (m0 : w.cell? ⟨m, 0, none⟩ = some (.int .u64 0)) (mf : w.frozen? ⟨m, 0, none⟩ = false) :
    Calls Try.prog 15 #[.pointer (some ⟨m, 0, none⟩)] w fun e w' => (∃ x y, e = .returned (.tuple #[.agg #[.int .u64 x, .int .u64 y], .int .i64 0])) ∧ Upd (· = m) w w' := by
  have n0 : m ≠ w.heap.size := by omega
  go_enter Try.func15, Try.ntmps15
  go_wp2
  refine bodyPost_ret (v := .tuple #[.agg #[.int .u64 _, .int .u64 _], .int .i64 0]) (by simp [results, Try.results15, go_sem]; exact ⟨rfl, rfl⟩) rfl ⟨⟨_, _, rfl⟩, ?_⟩
  exact (((Upd.refl (· = m) w).setCell (.inl rfl) _).setCell (.inl rfl) _).alloc _
theorem sdraw_zero (m : Nat) (w : World) (hlt : m < w.heap.size) (m0 : w.cell? ⟨m, 0, none⟩ = some (.slice none 0 0)) :
    Calls Try.prog 16 #[.pointer (some ⟨m, 0, none⟩)] w fun e w' => e = .returned (.tuple #[.agg #[.int .u64 0, .int .u64 0], .int .i64 20]) ∧ Below w.heap.size w w' := by
  go_enter Try.func16, Try.ntmps16
  go_wp2
  refine bodyPost_ret (v := .tuple #[.agg #[.int .u64 0, .int .u64 0], .int .i64 20]) (by simp [results, Try.results16, go_sem]) rfl ⟨rfl, ?_⟩
  refine Upd.below (S := fun _ => False) ?_ (Nat.le_refl _) (fun _ h => h.elim)
  iterate 2 try refine Upd.setCell ?_ (.inr (by simp)) _
  exact (Upd.refl _ w).alloc _
theorem left_zero (m : Nat) (w : World) (m0 : w.cell? ⟨m, 0, none⟩ = some (.slice none 0 0)) :
    Calls Try.prog 8 #[.pointer (some ⟨m, 0, none⟩)] w fun e w' => e = .returned (.int .i64 0) ∧ w' = w := by
  go_enter Try.func8, Try.ntmps8
  go_wp2
  go_ret
  exact ⟨rfl, rfl⟩
theorem gset_zero (g : Nat) (w : World) (x : Int) (c2 : w.cell? ⟨g, 2, none⟩ = some (.pointer none)) :
    Calls Try.prog 9 #[.pointer (some ⟨g, 0, none⟩), .int .u64 x] w fun e w' => e = .returned (.int .i64 0) ∧ w' = w := by
  go_enter Try.func9, Try.ntmps9
  go_wp2
  go_ret
  exact ⟨rfl, rfl⟩
theorem gpass_zero (g : Nat) (w : World) (x : Int) (c2 : w.cell? ⟨g, 2, none⟩ = some (.pointer none)) :
    Calls Try.prog 10 #[.pointer (some ⟨g, 0, none⟩), .int .u64 x] w fun e w' => e = .returned (.int .i64 0) ∧ w' = w := by
  go_enter Try.func10, Try.ntmps10
  go_wp2
  go_ret
  exact ⟨rfl, rfl⟩
theorem gdraw_zero (g : Nat) (w : World) (hlt : g < w.heap.size) (c0 : w.cell? ⟨g, 0, none⟩ = some (.slice none 0 0)) :
    Calls Try.prog 17 #[.pointer (some ⟨g, 0, none⟩), .int .i64 0] w fun e w' => e = .returned (.tuple #[.agg #[.int .u64 0, .int .u64 0], .int .i64 3]) ∧ Below w.heap.size w w' := by
  have c0' : ∀ o, (w.alloc o).cell? ⟨g, 0, none⟩ = some (.slice none 0 0) := fun o => (World.cell?_alloc_past _ _ _ hlt).trans c0
  go_enter Try.func17, Try.ntmps17
  go_wp2
  refine bodyPost_ret (v := .tuple #[.agg #[.int .u64 0, .int .u64 0], .int .i64 3]) (by simp [results, Try.results17, go_sem]) rfl ⟨rfl, ?_⟩
  refine Upd.below (S := fun _ => False) ?_ (Nat.le_refl _) (fun _ h => h.elim)
  iterate 2 try refine Upd.setCell ?_ (.inr (by simp)) _
  exact (Upd.refl _ w).alloc _
theorem gwipe_zero (g : Nat) (w : World) (c0 : w.cell? ⟨g, 0, none⟩ = some (.slice none 0 0)) :
    Calls Try.prog 11 #[.pointer (some ⟨g, 0, none⟩), .int .i64 0] w fun e w' => e = .returned (.int .i64 3) ∧ w' = w := by
  go_enter Try.func11, Try.ntmps11
  go_wp2
  go_ret
  exact ⟨rfl, rfl⟩
theorem drawn_zero (g : Nat) (w : World) (c1 : w.cell? ⟨g, 1, none⟩ = some (.slice none 0 0)) :
    Calls Try.prog 12 #[.pointer (some ⟨g, 0, none⟩)] w fun e w' => e = .returned (.slice none 0 0) ∧ Below w.heap.size w w' := by
  have kn := fun (w : World) => Lib.run_eql_slice_nil (P := Try.prog) w 34 58 none 0 0 0 0 Try.underlying34
  go_enter Try.func12, Try.ntmps12
  go_wp2
  go_ret
  exact ⟨rfl, Below.refl _ _⟩

end Go.Proofs.Ytifhdelkmhlcoac
