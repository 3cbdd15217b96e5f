import Derived.Test.YtpkcoejjclmocaaLd
namespace Go.Proofs.Ytpkcoejjclmocaa
open Go.RowKit Go.Maps
set_option linter.unusedVariables false

theorem look_vals (L : List Cl) (s : Int) : ∃ (t : Int) (x : ByteArray) (tk : Bool), gv L s = (if tk then some x else none) ∧ (match gv L s with | some x => cV (s, x) | none => cV (0, ByteArray.empty)) = .agg #[.int .i64 t, .string x] ∧ (gv L s).isSome = tk := by
  cases h : gv L s with
  | none => exact ⟨0, ByteArray.empty, false, rfl, rfl, rfl⟩
  | some x => exact ⟨s, x, true, rfl, rfl, rfl⟩
theorem box_facts {w w1 : World} {k s : Int} {v e : ByteArray} {T1 T2 : TypeId} (hb : Below ((w.alloc (.cells #[.int .i64 k, .int .i64 s, .string v] T1)).alloc (.cells #[.int .i64 0, .int .i64 0, .string e] T2)).heap.size ((w.alloc (.cells #[.int .i64 k, .int .i64 s, .string v] T1)).alloc (.cells #[.int .i64 0, .int .i64 0, .string e] T2)) w1) :
    w1.cell? ⟨w.heap.size, 0, none⟩ = some (.int .i64 k) ∧ w1.cell? ⟨w.heap.size, 1, none⟩ = some (.int .i64 s) ∧ w1.cell? ⟨w.heap.size, 2, none⟩ = some (.string v) ∧
    w1.cell? ⟨w.heap.size + 1, 0, none⟩ = some (.int .i64 0) ∧ w1.cell? ⟨w.heap.size + 1, 1, none⟩ = some (.int .i64 0) ∧ w1.cell? ⟨w.heap.size + 1, 2, none⟩ = some (.string e) ∧
    w1.frozen? ⟨w.heap.size + 1, 0, none⟩ = false ∧ w1.frozen? ⟨w.heap.size + 1, 1, none⟩ = false ∧ w1.frozen? ⟨w.heap.size + 1, 2, none⟩ = false := by
  refine ⟨(hb.cell (p := ⟨w.heap.size, 0, none⟩) ?_).trans ?_, (hb.cell (p := ⟨w.heap.size, 1, none⟩) ?_).trans ?_, (hb.cell (p := ⟨w.heap.size, 2, none⟩) ?_).trans ?_, (hb.cell (p := ⟨w.heap.size + 1, 0, none⟩) ?_).trans ?_, (hb.cell (p := ⟨w.heap.size + 1, 1, none⟩) ?_).trans ?_, (hb.cell (p := ⟨w.heap.size + 1, 2, none⟩) ?_).trans ?_, (hb.frozen (p := ⟨w.heap.size + 1, 0, none⟩) ?_).trans ?_, (hb.frozen (p := ⟨w.heap.size + 1, 1, none⟩) ?_).trans ?_, (hb.frozen (p := ⟨w.heap.size + 1, 2, none⟩) ?_).trans ?_⟩
  all_goals first | (simp; omega) | simp | go_simp
set_option maxRecDepth 100000 in
set_option maxHeartbeats 2000000 in
theorem would_any (b : Nat) (m : Option Nat) (L : List Cl) (o : Opn) (ho : o.fits) (w : World) (h : Led w b m L) :
    Calls Try.prog 42 #[.pointer (some ⟨b, 0, none⟩), o.val] w fun e w' => e = .returned (rV (wd L o.k o.s o.v)) ∧ Below w.heap.size w w' := by
  have cc := fun W => check_any o ho W
  have hh := hide h
  have hsw := ho.sw
  obtain ⟨k, s, v⟩ := o
  dsimp only [Opn.val] at cc hsw ⊢
  by_cases hc : ck k s v = 0
  · rw [hc] at cc
    obtain ⟨t, x, tk, hg, hl1, hl2⟩ := look_vals L s
    have hlook : ∀ W, Led W b m L → (Instr.lookup 103 (.map m) (.int .i64 s) true).run Try.prog W = .ok (.tuple #[.agg #[.int .i64 t, .string x], .bool tk]) W := fun W hL => by
      refine (look_any W m L.length L s hL.nn (fun j e => (hL.sm j e).2) hsw).trans ?_
      rw [hl2]
      exact congrArg (fun y => Result.ok (Value.tuple #[y, .bool tk]) W) hl1
    have hlen : ∀ W, Led W b m L → ∀ ty, (Builtin.len_ #[103] ty #[.map m]).run Try.prog W = .ok (.int .i64 L.length) W := fun W hL ty => len_any W m L.length L hL.nn (fun j e => (hL.sm j e).2) ty
    have ci := fun W => isslot_any (bh L) W
    have hr : wd L k s v = if k = 1 then (if tk then (2, s, x) else (1, s, v)) else if k = 2 then (if bh L < 1024 then (1, bh L, v) else (3, 0, ByteArray.empty)) else if k = 3 then (if tk then (4, s, x) else (5, s, ByteArray.empty)) else (6, L.length, ByteArray.empty) := by
      unfold wd
      rw [hg]
      cases tk <;> simp [hc]
    rw [hr]
    have k4 : k = 1 ∨ k = 2 ∨ k = 3 ∨ k = 4 := by
      unfold ck at hc
      by_cases a1 : k = 1 ∨ k = 3
      · omega
      · by_cases a2 : k = 2 ∨ k = 4
        · omega
        · simp [a1, a2] at hc
    clear hr hl1 hl2 hg hc h
    go_enter Try.func42, Try.ntmps42
    go_wp2_with (go_at_call 62; refine (cc _).mono ?_; rintro e w1 ⟨rfl, hb⟩; obtain ⟨y0, y1, y2, z0, z1, z2, zf0, zf1, zf2⟩ := box_facts hb)
    have hsz : w.heap.size + 2 ≤ w1.heap.size := by simpa using hb.size
    have L1 : Led w1 b m L := hh.out.upd (S := fun _ => False) (((((Upd.refl _ w).alloc _).alloc _).trans (Upd.of_below hb))) id (fun _ _ => id)
    have KS : ∀ v', Below w1.heap.size w1 v' → (Below w1.heap.size w1 v' ∧ v'.cell? ⟨b, 0, none⟩ = some (.map m) ∧ v'.cell? ⟨w.heap.size, 1, none⟩ = some (.int .i64 s) ∧ (Instr.lookup 103 (.map m) (.int .i64 s) true).run Try.prog v' = .ok (.tuple #[.agg #[.int .i64 t, .string x], .bool tk]) v') := fun v' b' => by
      have L2 : Led v' b m L := L1.upd (S := fun _ => False) (Upd.of_below b') id (fun _ _ => id)
      exact ⟨b', L2.c0, (b'.cell (p := ⟨w.heap.size, 1, none⟩) (by dsimp only; omega)).trans y1, hlook v' L2⟩
    have KH := hide KS
    clear KS
    go_region_held3 (fun v' => Below w1.heap.size w1 v' ∧ v'.cell? ⟨b, 0, none⟩ = some (.map m) ∧ v'.cell? ⟨w.heap.size, 1, none⟩ = some (.int .i64 s) ∧ (Instr.lookup 103 (.map m) (.int .i64 s) true).run Try.prog v' = .ok (.tuple #[.agg #[.int .i64 t, .string x], .bool tk]) v')
      ((refine KH.out _ ?_; repeat (first | exact Below.refl _ _ | assumption | refine Below.drew ?_ | refine Below.alloc ?_ (by simp) _ | refine Below.setCell ?_ (by simp) _)))
      (fail)
    all_goals
      have b2 : Below w1.heap.size w1 (w1.alloc (.cells #[.int .i64 t, .string x] 124)).drew := ((Below.refl _ w1).alloc (Nat.le_refl _) _).drew
      have tf0 : (w1.alloc (.cells #[.int .i64 t, .string x] 124)).drew.cell? ⟨w1.heap.size, 1, none⟩ = some (.string x) := by go_simp
      generalize (w1.alloc (.cells #[.int .i64 t, .string x] 124)).drew = W2 at b2 tf0 ⊢
      have hb3 := hb.trans (b2.mono (by simpa using hsz))
      have L2 : Led W2 b m L := L1.upd (S := fun _ => False) (Upd.of_below b2) id (fun _ _ => id)
      clear y0 y1 y2 z0 z1 z2 zf0 zf1 zf2
      obtain ⟨y0, y1, y2, z0, z1, z2, zf0, zf1, zf2⟩ := box_facts hb3
      have hb4 : Below w.heap.size w W2 := (((Below.refl w.heap.size w).alloc (Nat.le_refl _) _).alloc (by simp) _).trans (hb3.mono (by simp; omega))
      have d0 := L2.c0
      have d1 := L2.c1
      have hll := hlen _ L2
      have hb5 := hide hb4
      clear hb hb3 hb4 b2 hlook hlen KH cc
      rcases k4 with rfl | rfl | rfl | rfl
      · cases tk
        · go_wp2
          refine bodyPost_ret (v := rV (1, s, v)) (by simp [results, Try.results42, go_sem, rV, *] <;> rfl) rfl ⟨rfl, ?_⟩
          exact ((hb5.out.setCell (p := ⟨w.heap.size + 1, 0, none⟩) (by simp) _).setCell (p := ⟨w.heap.size + 1, 1, none⟩) (by simp) _).setCell (p := ⟨w.heap.size + 1, 2, none⟩) (by simp) _
        · go_wp2
          refine bodyPost_ret (v := rV (2, s, x)) (by simp [results, Try.results42, go_sem, rV, *] <;> rfl) rfl ⟨rfl, ?_⟩
          exact ((hb5.out.setCell (p := ⟨w.heap.size + 1, 0, none⟩) (by simp) _).setCell (p := ⟨w.heap.size + 1, 1, none⟩) (by simp) _).setCell (p := ⟨w.heap.size + 1, 2, none⟩) (by simp) _
      · by_cases hbh : bh L < 1024
        · have h0 := bh_nonneg L
          have ci : ∀ W, Calls Try.prog 63 #[.int .i64 (bh L)] W fun e w' => e = .returned (.bool true) ∧ w' = W := fun W => by simpa [hbh, h0] using ci W
          go_wp2_with (go_at_call 63; refine (ci _).mono ?_; rintro e w' ⟨rfl, rfl⟩)
          have nb : b ≠ w.heap.size + 1 := by have := hh.out.lt; omega
          have nb' : ¬ (w.heap.size + 1 = b) := fun e => nb e.symm
          go_region_held3 (fun v' => v'.cell? ⟨b, 1, none⟩ = some (.int .i64 (bh L)) ∧ v'.cell? ⟨w.heap.size, 2, none⟩ = some (.string v)) (first | go_keep | (exact ⟨by go_simp, by go_simp⟩)) (fail)
          go_wp2
          refine bodyPost_ret (v := rV (1, bh L, v)) (by simp [results, Try.results42, go_sem, rV, *] <;> rfl) rfl ⟨rfl, ?_⟩
          exact ((hb5.out.drew.setCell (p := ⟨w.heap.size + 1, 0, none⟩) (by simp) _).setCell (p := ⟨w.heap.size + 1, 1, none⟩) (by simp) _).setCell (p := ⟨w.heap.size + 1, 2, none⟩) (by simp) _
        · have ci : ∀ W, Calls Try.prog 63 #[.int .i64 (bh L)] W fun e w' => e = .returned (.bool false) ∧ w' = W := fun W => by simpa [hbh] using ci W
          go_wp2_with (go_at_call 63; refine (ci _).mono ?_; rintro e w' ⟨rfl, rfl⟩)
          refine bodyPost_ret (v := rV (3, 0, ByteArray.empty)) (by simp [results, Try.results42, go_sem, rV, *] <;> rfl) rfl ⟨rfl, ?_⟩
          exact ((hb5.out.setCell (p := ⟨w.heap.size + 1, 0, none⟩) (by simp) _).setCell (p := ⟨w.heap.size + 1, 1, none⟩) (by simp) _).setCell (p := ⟨w.heap.size + 1, 2, none⟩) (by simp) _
      · cases tk
        · go_wp2
          refine bodyPost_ret (v := rV (5, s, ByteArray.empty)) (by simp [results, Try.results42, go_sem, rV, *] <;> rfl) rfl ⟨rfl, ?_⟩
          exact ((hb5.out.setCell (p := ⟨w.heap.size + 1, 0, none⟩) (by simp) _).setCell (p := ⟨w.heap.size + 1, 1, none⟩) (by simp) _).setCell (p := ⟨w.heap.size + 1, 2, none⟩) (by simp) _
        · go_wp2
          refine bodyPost_ret (v := rV (4, s, x)) (by simp [results, Try.results42, go_sem, rV, *] <;> rfl) rfl ⟨rfl, ?_⟩
          exact ((hb5.out.setCell (p := ⟨w.heap.size + 1, 0, none⟩) (by simp) _).setCell (p := ⟨w.heap.size + 1, 1, none⟩) (by simp) _).setCell (p := ⟨w.heap.size + 1, 2, none⟩) (by simp) _
      · go_wp2
        refine bodyPost_ret (v := rV (6, (L.length : Int), ByteArray.empty)) (by simp [results, Try.results42, go_sem, rV, *] <;> rfl) rfl ⟨rfl, ?_⟩
        exact ((hb5.out.setCell (p := ⟨w.heap.size + 1, 0, none⟩) (by simp) _).setCell (p := ⟨w.heap.size + 1, 1, none⟩) (by simp) _).setCell (p := ⟨w.heap.size + 1, 2, none⟩) (by simp) _
  · have hr : wd L k s v = (0, 0, ByteArray.empty) := by simp [wd, hc]
    rw [hr]
    have hne : (ck k s v == 0) = false := by simp [hc]
    clear hr
    go_enter Try.func42, Try.ntmps42
    go_wp2_with (go_at_call 62; refine (cc _).mono ?_; rintro e w1 ⟨rfl, hb⟩; obtain ⟨y0, y1, y2, z0, z1, z2, zf0, zf1, zf2⟩ := box_facts hb)
    have hb5 : Below w.heap.size w w1 := (((Below.refl w.heap.size w).alloc (Nat.le_refl _) _).alloc (by simp) _).trans (hb.mono (by simp; omega))
    refine bodyPost_ret (v := rV (0, 0, ByteArray.empty)) (by simp [results, Try.results42, go_sem, rV, *] <;> rfl) rfl ⟨rfl, ?_⟩
    exact ((hb5.setCell (p := ⟨w.heap.size + 1, 0, none⟩) (by simp) _).setCell (p := ⟨w.heap.size + 1, 1, none⟩) (by simp) _).setCell (p := ⟨w.heap.size + 1, 2, none⟩) (by simp) _

end Go.Proofs.Ytpkcoejjclmocaa
