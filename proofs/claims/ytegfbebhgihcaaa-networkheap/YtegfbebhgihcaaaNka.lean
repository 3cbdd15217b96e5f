import Derived.Test.YtegfbebhgihcaaaNk9
namespace Go.Proofs.Ytegfbebhgihcaaa
open Go.RowKit Go.Maps
set_option linter.unusedVariables false
set_option linter.unusedSimpArgs false

variable {w w' : World} {b mb n : Nat} {nn cc : Int} {pv rv : Value} {P R : List Pk} {M : Int → List UInt8 → Nat}
set_option maxRecDepth 100000 in
theorem at_ok (k : Nat) (p : Pk) (h : Net w b nn cc pv rv mb n P R M) (hk : P[k]? = some p) : Calls Try.prog 18 #[.pointer (some ⟨b, 0, none⟩), .int .i64 (k : Int)] w fun e w' => ∃ x : Ap, e = .returned (.tuple #[x.val, .int .i64 0]) ∧ x.pk = p ∧ x.Out w.heap.size w' ∧ Below w.heap.size w w' := by
  have c2 := h.c2
  have hlt := h.lt
  have hs := h.sp p (List.mem_of_getElem? hk)
  obtain ⟨a, c, rfl, hsl⟩ := h.pl.sl
  have y2 : ∀ o, (w.alloc o).cell? ⟨b, 2, none⟩ = some (.slice a P.length c) := fun o => (World.cell?_alloc_past _ _ _ hlt).trans c2
  have HT : ∀ o, Hid (Calls Try.prog 70 #[.slice a P.length c, .int .i64 (k : Int)] (w.alloc o) fun e w' => ∃ x : Ap, e = .returned (.tuple #[x.val, .int .i64 0]) ∧ x.pk = p ∧ x.Out (w.alloc o).heap.size w' ∧ Below (w.alloc o).heap.size (w.alloc o) w') := fun o => tell_ok P a c k p _ (hsl.alloc8 o) hk hs
  clear h hsl hk hs
  go_enter Try.func18, Try.ntmps18
  go_wp2_with fail
  refine (HT _).out.mono ?_
  rintro e w2 ⟨x, rfl, hx, ho, hb⟩
  have r0 : w2.cell? ⟨w.heap.size, 0, none⟩ = some (.int .i64 0) := (hb.cell (p := ⟨w.heap.size, 0, none⟩) (by simp)).trans (by go_simp)
  have r1 : w2.cell? ⟨w.heap.size, 1, none⟩ = some (.int .i64 0) := (hb.cell (p := ⟨w.heap.size, 1, none⟩) (by simp)).trans (by go_simp)
  have r2 : w2.cell? ⟨w.heap.size, 2, none⟩ = some (.slice none 0 0) := (hb.cell (p := ⟨w.heap.size, 2, none⟩) (by simp)).trans (by go_simp)
  have t0 : ∀ j, w2.frozen? ⟨w.heap.size, j, none⟩ = false := fun j => (hb.frozen (p := ⟨w.heap.size, j, none⟩) (by simp)).trans (by go_simp)
  have HX := hide hx
  have HP := hide ho
  have HB := hide (((Below.refl w.heap.size w).alloc (Nat.le_refl _) (.cells #[.int .i64 0, .int .i64 0, .slice none 0 0] 46)).trans (hb.mono (by simp)))
  clear hx ho hb HT y2 c2
  unfold Ap.val
  go_wp2
  refine bodyPost_ret (v := .tuple #[.agg #[.int .i64 x.f, .int .i64 x.t, .slice x.a x.s.length x.c], .int .i64 0]) (by simp [results, Try.results18, go_sem, r0, r1, r2]) rfl ⟨x, rfl, HX.out, ?_, ?_⟩
  · obtain ⟨g, hg, g1, g2⟩ := HP.out.some_
    simp at g1
    refine ⟨(HP.out.own.upd1 (set3 w2 w.heap.size _ _ _) (fun k hk e => ?_)).low (by simp), g, hg, by omega, by simpa using g2⟩
    have := (HP.out.own.blk k hk).1
    simp at this
    omega
  · exact HB.out.trans ((set3 w2 w.heap.size _ _ _).below HB.out.size (fun k hk => by omega))
set_option maxRecDepth 100000 in
theorem at_bad (k : Int) (h : Net w b nn cc pv rv mb n P R M) (hk : k < 0 ∨ (P.length : Int) ≤ k) : Calls Try.prog 18 #[.pointer (some ⟨b, 0, none⟩), .int .i64 k] w fun e w' => e = .returned (.tuple #[.agg #[.int .i64 0, .int .i64 0, .slice none 0 0], .int .i64 141]) ∧ Below w.heap.size w w' := by
  have c2 := h.c2
  have hlt := h.lt
  obtain ⟨a, c, rfl, hsl⟩ := h.pl.sl
  have y2 : ∀ o, (w.alloc o).cell? ⟨b, 2, none⟩ = some (.slice a P.length c) := fun o => (World.cell?_alloc_past _ _ _ hlt).trans c2
  have HT := fun v => hide (tell_bad P a c k v hk)
  clear h hsl hk
  go_enter Try.func18, Try.ntmps18
  go_wp2_with fail
  refine (HT _).out.mono ?_
  rintro e w2 ⟨rfl, hb⟩
  have r0 : w2.cell? ⟨w.heap.size, 0, none⟩ = some (.int .i64 0) := (hb.cell (p := ⟨w.heap.size, 0, none⟩) (by simp)).trans (by go_simp)
  have r1 : w2.cell? ⟨w.heap.size, 1, none⟩ = some (.int .i64 0) := (hb.cell (p := ⟨w.heap.size, 1, none⟩) (by simp)).trans (by go_simp)
  have r2 : w2.cell? ⟨w.heap.size, 2, none⟩ = some (.slice none 0 0) := (hb.cell (p := ⟨w.heap.size, 2, none⟩) (by simp)).trans (by go_simp)
  have t0 : ∀ j, w2.frozen? ⟨w.heap.size, j, none⟩ = false := fun j => (hb.frozen (p := ⟨w.heap.size, j, none⟩) (by simp)).trans (by go_simp)
  have HB := hide (((Below.refl w.heap.size w).alloc (Nat.le_refl _) (.cells #[.int .i64 0, .int .i64 0, .slice none 0 0] 46)).trans (hb.mono (by simp)))
  clear hb HT y2 c2
  go_wp2
  refine bodyPost_ret (v := .tuple #[.agg #[.int .i64 0, .int .i64 0, .slice none 0 0], .int .i64 141]) (by simp [results, Try.results18, go_sem, r0, r1, r2]) rfl ⟨rfl, ?_⟩
  exact HB.out.trans ((set3 w2 w.heap.size _ _ _).below HB.out.size (fun k hk => by omega))
set_option maxRecDepth 100000 in
theorem clear_any (h : Net w b nn cc pv rv mb n P R M) : Calls Try.prog 32 #[.pointer (some ⟨b, 0, none⟩)] w fun e w' => e = .returned (.tuple #[]) ∧ Net w' b nn cc (.slice none 0 0) rv mb n [] R M ∧ Upd (fun k => k = b) w w' := by
  have c2 := h.c2
  have f2 := h.fr 2
  have HN := hide h
  obtain ⟨a, c, hpv, hsl⟩ := h.pl.sl
  subst hpv
  clear h hsl
  go_enter Try.func32, Try.ntmps32
  go_wp2
  go_end0
  have := HN.out.setPool (w3 := w) (pv' := .slice none 0 0) (P' := []) (Upd.refl _ _) (.inl (OwnY.nil _ _ _)) (.inr (.inl rfl)) (fun g hg => by cases hg) (fun p hp => by cases hp)
  exact ⟨rfl, this.1, (Upd.refl (fun k => k = b) w).setCell (p := ⟨b, 2, none⟩) (.inl rfl) _⟩

end Go.Proofs.Ytegfbebhgihcaaa
