import Derived.Test.YtcmjhaljbmhpgaaGreatSp
import Derived.Test.YtcmjhaljbmhpgaaGreatGSm
namespace Go.Proofs.YtcmjhaljbmhpgaaGreat
open Go.RowKit Go.Maps
open Classical
set_option linter.unusedVariables false
set_option linter.unusedSimpArgs false

theorem SlY.none_ {α : Type} (Y : Lay α) (w : World) : SlY Y w none 0 0 [] := ⟨rfl, Nat.le_refl _, by unfold maxLen; omega, fun _ => ⟨rfl, rfl⟩, fun x e => by cases e⟩
theorem An.In_nil {x : An} (w : World) (h : x.s = ⟨none, 0, []⟩) : x.In w := by
  unfold An.In
  rw [h]
  exact ⟨SlY.none_ yE w, by decide⟩
theorem stl_a : stl 1 [⟨1, 0, 0, 0, 0, ⟨none, 0, []⟩⟩, ⟨2, 0, 0, 0, 0, ⟨none, 0, []⟩⟩] = none := by kernel_rfl
theorem stl_b : stl 1 [⟨1, 0, 0, 1, 1, ⟨none, 0, []⟩⟩, ⟨2, 0, 0, 0, 0, ⟨none, 0, []⟩⟩] = some ⟨1, 0, 0, 1, 1, ⟨none, 0, []⟩⟩ := by kernel_rfl
theorem put_a : Mk.put [] ⟨2, 0, 1⟩ = [⟨2, 0, 1⟩] := by kernel_rfl
theorem put_b : Mk.put [⟨2, 0, 1⟩] ⟨1, 0, 1⟩ = [⟨1, 0, 1⟩, ⟨2, 0, 1⟩] := by kernel_rfl
set_option maxRecDepth 100000 in
set_option maxHeartbeats 1000000 in
theorem works8_any (w : World) : Calls Tryz.prog 19 #[] w fun e w' => e = .returned (.bool true) ∧ Below w.heap.size w w' := by
  have B0 : Hid (Below w.heap.size w (w.alloc (.cells #[.int .u64 0, .int .u64 1] 27))) := (Below.refl _ w).alloc (Nat.le_refl _) _
  have KB : Hid (∀ v, Below (w.heap.size + 1) (w.alloc (.cells #[.int .u64 0, .int .u64 1] 27)) v → (v.cell? ⟨w.heap.size, 0, none⟩ = some (.int .u64 0) ∧ v.cell? ⟨w.heap.size, 1, none⟩ = some (.int .u64 1))) := fun v hv =>
    ⟨(hv.cell (p := ⟨w.heap.size, 0, none⟩) (by simp)).trans (by simp), (hv.cell (p := ⟨w.heap.size, 1, none⟩) (by simp)).trans (by simp)⟩
  have KZ : Hid (∀ v, Below (w.heap.size + 1) (w.alloc (.cells #[.int .u64 0, .int .u64 1] 27)) v → w.heap.size + 1 ≤ v.heap.size) := fun v hv => by have := hv.size; simpa using this
  have p1 := hide (fun W => (Mk.Put_any [] ⟨2, 0, 1⟩ none 0 0 W (SlY.none_ _ _) (by omega)).mono (R' := fun e w' => ∃ v, e = .returned v ∧ OwnY yMkA W.heap.size w' v [⟨2, 0, 1⟩] ∧ Below W.heap.size W w') (fun e w' h => by rw [put_a] at h; exact h))
  have p2 := hide (fun W a c (h : SlY yMkA W a 1 c [⟨2, 0, 1⟩]) => (Mk.Put_any [⟨2, 0, 1⟩] ⟨1, 0, 1⟩ a 1 c W h (by omega)).mono (R' := fun e w' => ∃ v, e = .returned v ∧ OwnY yMkA W.heap.size w' v [⟨1, 0, 1⟩, ⟨2, 0, 1⟩] ∧ Below W.heap.size W w') (fun e w' h => by rw [put_b] at h; exact h))
  unfold Mk.val at p1 p2
  dsimp only at p1 p2
  go_enter Tryz.func19, Tryz.ntmps19
  go_wp2_with fail
  have s0 := KB.out _ (Below.refl (w.heap.size + 1) (w.alloc (.cells #[.int .u64 0, .int .u64 1] 27))).drew
  have D0 := hide (Below.refl (w.heap.size + 1) (w.alloc (.cells #[.int .u64 0, .int .u64 1] 27))).drew
  go_region_held3 (fun v => v.cell? ⟨w.heap.size, 0, none⟩ = some (.int .u64 0) ∧ v.cell? ⟨w.heap.size, 1, none⟩ = some (.int .u64 1)) (with_reducible assumption) (first
    | (go_at_call 62; refine (p2.out w2 a2 c2 S2.out).mono ?_; rintro e w3 ⟨v3, rfl, o3, b3⟩; obtain ⟨a3, c3, rfl, s3, g3⟩ := o3.sl kMkA; have S3 := hide s3; have D3 := hide (D2.out.trans (b3.mono Z2)); have Z3 := KZ.out _ D3.out; have t3 := KB.out w3 D3.out; clear o3 b3 s3)
    | (go_at_call 62; refine (p1.out _).mono ?_; rintro e w2 ⟨v2, rfl, o2, b2⟩; obtain ⟨a2, c2, rfl, s2, _⟩ := o2.sl kMkA; have S2 := hide s2; have D2 := hide (D0.out.trans (b2.mono (by simp))); have Z2 := KZ.out _ D2.out; have t2 := KB.out w2 D2.out; clear o2 b2 s2))
  have x3 : SlY yMkA w3 a3 2 c3 [⟨1, 0, 1⟩, ⟨2, 0, 1⟩] := S3.out
  obtain ⟨q, o, rfl, hq, y0, _, _⟩ := x3.MkA (j := 0) rfl
  obtain ⟨q', o', e1, _, y3, _, _⟩ := x3.MkA (j := 1) rfl
  cases e1
  simp only [Nat.zero_mul, Nat.add_zero, Nat.one_mul] at y0 y3
  have hc3 := x3.cap
  have hm3 := x3.max
  unfold maxLen at hm3
  have m1 := hide (marked_any 2 (some ⟨q, o, none⟩) 2 c3 w3)
  have m2 := hide (marked_any 3 (some ⟨q, o, none⟩) 2 c3 w3)
  have CA : Hid (∀ W, Calls Tryz.prog 40 #[.int .i64 1, .slice (some ⟨W.heap.size, 0, none⟩) 2 2] (W.alloc (.cells #[.int .i64 1, .int .u64 0, .int .u64 0, .int .i64 0, .int .i64 0, .slice none 0 0, .int .i64 2, .int .u64 0, .int .u64 0, .int .i64 0, .int .i64 0, .slice none 0 0] 69)) fun e w' => e = .returned (.tuple #[.agg #[.int .i64 0, .int .u64 0, .int .u64 0, .int .i64 0, .int .i64 0, .slice none 0 0], .int .i64 81]) ∧ Below W.heap.size W w') := fun W => by
    have := settle_any 1 [(⟨1, 0, 0, 0, 0, ⟨none, 0, []⟩⟩ : An), ⟨2, 0, 0, 0, 0, ⟨none, 0, []⟩⟩] (some ⟨W.heap.size, 0, none⟩) 2 2 (W.alloc (.cells #[.int .i64 1, .int .u64 0, .int .u64 0, .int .i64 0, .int .i64 0, .slice none 0 0, .int .i64 2, .int .u64 0, .int .u64 0, .int .i64 0, .int .i64 0, .slice none 0 0] 69)) (sl_lit kAnA W [(⟨1, 0, 0, 0, 0, ⟨none, 0, []⟩⟩ : An), ⟨2, 0, 0, 0, 0, ⟨none, 0, []⟩⟩] 69 (by unfold maxLen; simp)) (fun x hx => An.In_nil _ (by simp at hx; rcases hx with rfl | rfl <;> rfl))
    rw [stl_a] at this
    exact this.mono fun e w' h => ⟨h.1, ((Below.refl _ W).alloc (Nat.le_refl _) _).trans (h.2.mono (by simp))⟩
  have CB : Hid (∀ W, Calls Tryz.prog 40 #[.int .i64 1, .slice (some ⟨W.heap.size, 0, none⟩) 2 2] (W.alloc (.cells #[.int .i64 1, .int .u64 0, .int .u64 0, .int .i64 1, .int .i64 1, .slice none 0 0, .int .i64 2, .int .u64 0, .int .u64 0, .int .i64 0, .int .i64 0, .slice none 0 0] 69)) fun e w' => ∃ g : Nat, e = .returned (.tuple #[.agg #[.int .i64 1, .int .u64 0, .int .u64 0, .int .i64 1, .int .i64 1, .slice (some ⟨g, 0, none⟩) 0 0], .int .i64 0]) ∧ Below W.heap.size W w') := fun W => by
    have := settle_any 1 [(⟨1, 0, 0, 1, 1, ⟨none, 0, []⟩⟩ : An), ⟨2, 0, 0, 0, 0, ⟨none, 0, []⟩⟩] (some ⟨W.heap.size, 0, none⟩) 2 2 (W.alloc (.cells #[.int .i64 1, .int .u64 0, .int .u64 0, .int .i64 1, .int .i64 1, .slice none 0 0, .int .i64 2, .int .u64 0, .int .u64 0, .int .i64 0, .int .i64 0, .slice none 0 0] 69)) (sl_lit kAnA W [(⟨1, 0, 0, 1, 1, ⟨none, 0, []⟩⟩ : An), ⟨2, 0, 0, 0, 0, ⟨none, 0, []⟩⟩] 69 (by unfold maxLen; simp)) (fun x hx => An.In_nil _ (by simp at hx; rcases hx with rfl | rfl <;> rfl))
    rw [stl_b] at this
    refine this.mono fun e w' h => ?_
    obtain ⟨⟨y, rfl, _, g, rfl, _⟩, hb⟩ := h
    exact ⟨g, rfl, ((Below.refl _ W).alloc (Nat.le_refl _) _).trans (hb.mono (by simp))⟩
  clear S3 x3 p1 p2 S2 D2 Z2 t2 s0 D0 t3
  have BW := hide (B0.out.trans (D3.out.mono (by omega)))
  clear D3 KB
  go_wp2_with fail
  refine m1.out.mono ?_
  rintro e w4 ⟨rfl, rfl⟩
  dsimp only
  go_wp2_with fail
  refine m2.out.mono ?_
  rintro e w4 ⟨rfl, rfl⟩
  dsimp only
  go_wp2_with fail
  refine (CA.out _).mono ?_
  rintro e w5 ⟨rfl, b5⟩
  have z5 := b5.size
  have B5 := hide (BW.out.trans (b5.mono (by omega)))
  clear b5
  dsimp only
  go_wp2_with fail
  have cb := CB.out (w5.alloc (.cells #[.int .i64 0, .int .u64 0, .int .u64 0, .int .i64 0, .int .i64 0, .slice none 0 0] 69))
  simp only [World.size_alloc] at cb
  refine cb.mono ?_
  rintro e w6 ⟨g, rfl, b6⟩
  have B6 := hide ((B5.out.alloc (by omega) (.cells #[.int .i64 0, .int .u64 0, .int .u64 0, .int .i64 0, .int .i64 0, .slice none 0 0] 69)).trans (b6.mono (by omega)))
  have z6 := b6.size
  simp only [World.size_alloc] at z6
  clear b6 cb CB CA m1 m2
  dsimp only
  go_wp2
  go_ret
  exact ⟨rfl, by repeat (first | exact B6.out | refine Below.alloc ?_ (by omega) _ | refine Below.setCell ?_ (by simp; omega) _)⟩

end Go.Proofs.YtcmjhaljbmhpgaaGreat
