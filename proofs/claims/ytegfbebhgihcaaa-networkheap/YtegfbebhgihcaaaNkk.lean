import Derived.Test.YtegfbebhgihcaaaNkj
namespace Go.Proofs.Ytegfbebhgihcaaa
open Go.RowKit Go.Maps
set_option linter.unusedVariables false
set_option linter.unusedSimpArgs false

variable {w w' : World} {b : Nat}
set_option maxRecDepth 100000 in
theorem at_z (h : Zn w b) : Calls Try.prog 18 #[.pointer (some ⟨b, 0, none⟩), .int .i64 0] w fun e w' => e = .returned (.tuple #[.agg #[.int .i64 0, .int .i64 0, .slice none 0 0], .int .i64 141]) ∧ Below w.heap.size w w' := by
  have c2 := h.c2
  have hlt := h.lt
  have y2 : ∀ o, (w.alloc o).cell? ⟨b, 2, none⟩ = some (.slice none 0 0) := fun o => (World.cell?_alloc_past _ _ _ hlt).trans c2
  have HT : ∀ v, Hid (Calls Try.prog 70 #[.slice none 0 0, .int .i64 0] v fun e w' => e = .returned (.tuple #[.agg #[.int .i64 0, .int .i64 0, .slice none 0 0], .int .i64 141]) ∧ Below v.heap.size v w') := fun v => tell_bad [] none 0 0 v (.inr (by simp))
  clear h
  go_enter Try.func18, Try.ntmps18
  go_wp2_with fail
  refine (HT _).out.mono ?_
  rintro e w2 ⟨rfl, hb⟩
  have r0 : w2.cell? ⟨w.heap.size, 0, none⟩ = some (.int .i64 0) := (hb.cell (p := ⟨w.heap.size, 0, none⟩) (by simp)).trans (by go_simp)
  have r1 : w2.cell? ⟨w.heap.size, 1, none⟩ = some (.int .i64 0) := (hb.cell (p := ⟨w.heap.size, 1, none⟩) (by simp)).trans (by go_simp)
  have r2 : w2.cell? ⟨w.heap.size, 2, none⟩ = some (.slice none 0 0) := (hb.cell (p := ⟨w.heap.size, 2, none⟩) (by simp)).trans (by go_simp)
  have t0 : ∀ j, w2.frozen? ⟨w.heap.size, j, none⟩ = false := fun j => (hb.frozen (p := ⟨w.heap.size, j, none⟩) (by simp)).trans (by go_simp)
  have HB := hide (((Below.refl w.heap.size w).alloc (Nat.le_refl _) (.cells #[.int .i64 0, .int .i64 0, .slice none 0 0] 46)).trans (hb.mono (by simp)))
  clear hb HT y2 c2
  go_wp2
  refine bodyPost_ret (v := .tuple #[.agg #[.int .i64 0, .int .i64 0, .slice none 0 0], .int .i64 141]) (by simp [results, Try.results18, go_sem, r0, r1, r2]) rfl ⟨rfl, ?_⟩
  exact HB.out.trans ((set3 w2 w.heap.size _ _ _).below HB.out.size (fun k hk => by omega))
set_option maxRecDepth 100000 in
theorem record_z (h : Zn w b) : Calls Try.prog 42 #[.pointer (some ⟨b, 0, none⟩), .int .i64 0] w fun e w' => e = .returned (.tuple #[.agg #[.int .i64 0, .int .i64 0, .slice none 0 0], .int .i64 141]) ∧ Below w.heap.size w w' := by
  have c3 := h.c3
  have hlt := h.lt
  have y3 : ∀ o, (w.alloc o).cell? ⟨b, 3, none⟩ = some (.slice none 0 0) := fun o => (World.cell?_alloc_past _ _ _ hlt).trans c3
  have HT : ∀ v, Hid (Calls Try.prog 70 #[.slice none 0 0, .int .i64 0] v fun e w' => e = .returned (.tuple #[.agg #[.int .i64 0, .int .i64 0, .slice none 0 0], .int .i64 141]) ∧ Below v.heap.size v w') := fun v => tell_bad [] none 0 0 v (.inr (by simp))
  clear h
  go_enter Try.func42, Try.ntmps42
  go_wp2_with fail
  refine (HT _).out.mono ?_
  rintro e w2 ⟨rfl, hb⟩
  have r0 : w2.cell? ⟨w.heap.size, 0, none⟩ = some (.int .i64 0) := (hb.cell (p := ⟨w.heap.size, 0, none⟩) (by simp)).trans (by go_simp)
  have r1 : w2.cell? ⟨w.heap.size, 1, none⟩ = some (.int .i64 0) := (hb.cell (p := ⟨w.heap.size, 1, none⟩) (by simp)).trans (by go_simp)
  have r2 : w2.cell? ⟨w.heap.size, 2, none⟩ = some (.slice none 0 0) := (hb.cell (p := ⟨w.heap.size, 2, none⟩) (by simp)).trans (by go_simp)
  have t0 : ∀ j, w2.frozen? ⟨w.heap.size, j, none⟩ = false := fun j => (hb.frozen (p := ⟨w.heap.size, j, none⟩) (by simp)).trans (by go_simp)
  have HB := hide (((Below.refl w.heap.size w).alloc (Nat.le_refl _) (.cells #[.int .i64 0, .int .i64 0, .slice none 0 0] 46)).trans (hb.mono (by simp)))
  clear hb HT y3 c3
  go_wp2
  refine bodyPost_ret (v := .tuple #[.agg #[.int .i64 0, .int .i64 0, .slice none 0 0], .int .i64 141]) (by simp [results, Try.results42, go_sem, r0, r1, r2]) rfl ⟨rfl, ?_⟩
  exact HB.out.trans ((set3 w2 w.heap.size _ _ _).below HB.out.size (fun k hk => by omega))
set_option maxRecDepth 100000 in
set_option maxHeartbeats 1000000 in
/-- Take of what is in no place. -/
theorem take_gen (q : Option Addr) (k ea ed : Int) (w : World) (HA : ∀ o, Calls Try.prog 18 #[.pointer q, .int .i64 k] (w.alloc o) fun e w' => e = .returned (.tuple #[.agg #[.int .i64 0, .int .i64 0, .slice none 0 0], .int .i64 ea]) ∧ Below (w.alloc o).heap.size (w.alloc o) w') (HD : ∀ v, Below w.heap.size w v → Calls Try.prog 29 #[.pointer q, .int .i64 k] v fun e w' => e = .returned (.int .i64 ed) ∧ w' = v) :
    Calls Try.prog 26 #[.pointer q, .int .i64 k] w fun e w' => e = .returned (.tuple #[.agg #[.int .i64 0, .int .i64 0, .slice none 0 0], .int .i64 ed]) ∧ Below w.heap.size w w' := by
  have HA' := hide HA
  have HD' := hide HD
  clear HA HD
  go_enter Try.func26, Try.ntmps26
  go_wp2_with fail
  refine (HA'.out _).mono ?_
  rintro e w1 ⟨rfl, hb⟩
  have r0 : w1.cell? ⟨w.heap.size, 0, none⟩ = some (.int .i64 0) := (hb.cell (p := ⟨w.heap.size, 0, none⟩) (by simp)).trans (by go_simp)
  have r1 : w1.cell? ⟨w.heap.size, 1, none⟩ = some (.int .i64 0) := (hb.cell (p := ⟨w.heap.size, 1, none⟩) (by simp)).trans (by go_simp)
  have r2 : w1.cell? ⟨w.heap.size, 2, none⟩ = some (.slice none 0 0) := (hb.cell (p := ⟨w.heap.size, 2, none⟩) (by simp)).trans (by go_simp)
  have t0 : ∀ j, w1.frozen? ⟨w.heap.size, j, none⟩ = false := fun j => (hb.frozen (p := ⟨w.heap.size, j, none⟩) (by simp)).trans (by go_simp)
  have hzz : w.heap.size < w1.heap.size := by have := hb.size; simp at this; omega
  have HB := hide (((Below.refl w.heap.size w).alloc (Nat.le_refl _) (.cells #[.int .i64 0, .int .i64 0, .slice none 0 0] 46)).trans (hb.mono (by simp)))
  clear hb HA'
  go_wp2_with fail
  have BB : Below w1.heap.size w1 (w1.alloc (.cells #[.int .i64 0, .int .i64 0, .slice none 0 0] 46)) := (Below.refl _ _).alloc (Nat.le_refl _) _
  have r0' := (BB.cell (p := ⟨w.heap.size, 0, none⟩) hzz).trans r0
  have r1' := (BB.cell (p := ⟨w.heap.size, 1, none⟩) hzz).trans r1
  have r2' := (BB.cell (p := ⟨w.heap.size, 2, none⟩) hzz).trans r2
  have t0' : ∀ j, (w1.alloc (.cells #[.int .i64 0, .int .i64 0, .slice none 0 0] 46)).frozen? ⟨w.heap.size, j, none⟩ = false := fun j => (BB.frozen (p := ⟨w.heap.size, j, none⟩) hzz).trans (t0 j)
  have s0 : (w1.alloc (.cells #[.int .i64 0, .int .i64 0, .slice none 0 0] 46)).cell? ⟨w1.heap.size, 0, none⟩ = some (.int .i64 0) := by simp
  have s1 : (w1.alloc (.cells #[.int .i64 0, .int .i64 0, .slice none 0 0] 46)).cell? ⟨w1.heap.size, 1, none⟩ = some (.int .i64 0) := by simp
  have s2 : (w1.alloc (.cells #[.int .i64 0, .int .i64 0, .slice none 0 0] 46)).cell? ⟨w1.heap.size, 2, none⟩ = some (.slice none 0 0) := by simp
  have WB := hide (HB.out.trans (BB.mono HB.out.size))
  clear BB r0 r1 r2 t0 HB
  generalize w1.alloc (.cells #[.int .i64 0, .int .i64 0, .slice none 0 0] 46) = w2 at *
  have HE := hide (HD'.out w2.drew WB.out.drew)
  go_region_with (refine HE.out.mono ?_; rintro e w3 ⟨rfl, hy_⟩; rw [hy_]; clear hy_ w3)
  all_goals
    clear HE HD'
    go_wp2
    refine bodyPost_ret (v := .tuple #[.agg #[.int .i64 0, .int .i64 0, .slice none 0 0], .int .i64 ed]) (by simp [results, Try.results26, go_sem, r0', r1', r2']) rfl ⟨rfl, ?_⟩
    exact WB.out.drew.trans ((set3 w2.drew w.heap.size _ _ _).below WB.out.drew.size (fun k hk => by omega))
theorem take_nil (w : World) : Calls Try.prog 26 #[.pointer none, .int .i64 0] w fun e w' => e = .returned (.tuple #[.agg #[.int .i64 0, .int .i64 0, .slice none 0 0], .int .i64 0]) ∧ Below w.heap.size w w' :=
  take_gen none 0 0 0 w (fun o => at_nil _) (fun v _ => drop_nil v)
theorem take_z (h : Zn w b) : Calls Try.prog 26 #[.pointer (some ⟨b, 0, none⟩), .int .i64 0] w fun e w' => e = .returned (.tuple #[.agg #[.int .i64 0, .int .i64 0, .slice none 0 0], .int .i64 141]) ∧ Below w.heap.size w w' :=
  take_gen _ 0 141 141 w (fun o => at_z (h.al o)) (fun v hb => drop_z (h.later hb))

end Go.Proofs.Ytegfbebhgihcaaa
