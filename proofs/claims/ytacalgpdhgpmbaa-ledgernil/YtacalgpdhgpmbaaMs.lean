import Derived.Test.YtacalgpdhgpmbaaMq
namespace Go.Proofs.Ytacalgpdhgpmbaa
open Go.RowKit
set_option linter.unusedVariables false
set_option linter.unusedSimpArgs false

theorem get_nil (s : Int) (w : World) : Calls Try.prog 29 #[.pointer none, .int .i64 s] w fun e w' => e = .returned (.tuple #[.string ⟨#[]⟩, .bool false]) ∧ w' = w := by
  go_enter Try.func29, Try.ntmps29
  go_wp2
  go_ret2
  exact ⟨rfl, rfl⟩
set_option maxRecDepth 100000 in
theorem would_nil (k s : Int) (v : ByteArray) (w : World) : Calls Try.prog 34 #[.pointer none, .agg #[.int .i64 k, .int .i64 s, .string v]] w fun e w' => e = .returned (.agg #[.int .i64 0, .int .i64 0, .string ⟨#[]⟩]) ∧ Below w.heap.size w w' := by
  go_enter Try.func34, Try.ntmps34
  go_wp2
  refine bodyPost_ret (v := .agg #[.int .i64 0, .int .i64 0, .string ⟨#[]⟩]) (by simp [results, Try.results34, go_sem, *]) rfl ⟨rfl, ?_⟩
  have hb5 : Below w.heap.size w w := Below.refl _ _
  repeat (first | exact hb5 | refine Below.alloc ?_ (by first | assumption | (simp [World.setCell]; done) | (simp [World.setCell]; omega) | omega) _ | refine Below.setCell ?_ (by first | (simp; done) | (simp; omega)) _)
set_option maxRecDepth 100000 in
theorem do_nil (k s : Int) (v : ByteArray) (w : World) : Calls Try.prog 28 #[.pointer none, .agg #[.int .i64 k, .int .i64 s, .string v]] w fun e w' => e = .returned (.agg #[.int .i64 0, .int .i64 0, .string ⟨#[]⟩]) ∧ Below w.heap.size w w' := by
  go_enter Try.func28, Try.ntmps28
  go_wp2_with fail
  refine (would_nil k s v _).mono ?_
  rintro e w1 ⟨rfl, hb⟩
  obtain ⟨_, _, _, z0, z1, z2, zf0, zf1, zf2⟩ := box_facts hb
  have hs2 : w.heap.size + 2 ≤ w1.heap.size := by simpa using hb.size
  have hb5 : Below w.heap.size w w1 := (((Below.refl w.heap.size w).alloc (Nat.le_refl _) _).alloc (by simp) _).trans (hb.mono (by simp; omega))
  have hb2 := (Below.refl w1.heap.size w1).alloc (Nat.le_refl _) (.cells #[.int .i64 0, .int .i64 0, .string ⟨#[]⟩] 53)
  have hlt : w.heap.size + 1 < w1.heap.size := by omega
  replace z0 := (hb2.cell (p := ⟨w.heap.size + 1, 0, none⟩) hlt).trans z0
  replace z1 := (hb2.cell (p := ⟨w.heap.size + 1, 1, none⟩) hlt).trans z1
  replace z2 := (hb2.cell (p := ⟨w.heap.size + 1, 2, none⟩) hlt).trans z2
  replace zf0 := (hb2.frozen (p := ⟨w.heap.size + 1, 0, none⟩) hlt).trans zf0
  replace zf1 := (hb2.frozen (p := ⟨w.heap.size + 1, 1, none⟩) hlt).trans zf1
  replace zf2 := (hb2.frozen (p := ⟨w.heap.size + 1, 2, none⟩) hlt).trans zf2
  have hs2h := hide hs2
  clear hb hb2 hlt hs2
  go_wp2
  have hs2 := hs2h.out
  refine bodyPost_ret (v := .agg #[.int .i64 0, .int .i64 0, .string ⟨#[]⟩]) (by simp [results, Try.results28, go_sem, *]) rfl ⟨rfl, ?_⟩
  repeat (first | exact hb5 | refine Below.alloc ?_ (by first | assumption | (simp [World.setCell]; omega) | omega) _ | refine Below.setCell ?_ (by first | (simp; done) | (simp; omega)) _)
theorem len_nil (w : World) : Calls Try.prog 30 #[.pointer none] w fun e w' => e = .returned (.int .i64 0) ∧ w' = w := by
  go_enter Try.func30, Try.ntmps30
  go_wp2
  go_ret
  exact ⟨rfl, rfl⟩
theorem cells_nil (w : World) : Calls Try.prog 31 #[.pointer none] w fun e w' => e = .returned (.slice none 0 0) ∧ w' = w := by
  go_enter Try.func31, Try.ntmps31
  go_wp2
  go_ret
  exact ⟨rfl, rfl⟩
theorem clone_nil (w : World) : Calls Try.prog 20 #[.pointer none] w fun e w' => e = .returned (.pointer none) ∧ w' = w := by
  go_enter Try.func20, Try.ntmps20
  go_wp2
  go_ret
  exact ⟨rfl, rfl⟩

theorem led_zero (w : World) : LedB w.heap.size w (w.alloc (Obj.cells #[Value.map none, Value.int IntKind.i64 0] 81)) w.heap.size [] := by
  refine ⟨none, ⟨Ok.nil, by simp, by go_simp, by go_simp; rfl, by go_simp, by go_simp, fun _ => rfl, nofun⟩, Nat.le_refl _, nofun, (Below.refl _ w).alloc (Nat.le_refl _) _⟩
/-- The four operations of zeroes. -/
def zOps : List Opn := [⟨3, 0, ⟨#[]⟩⟩, ⟨1, 3, ⟨#[97]⟩⟩, ⟨2, 0, ⟨#[]⟩⟩, ⟨4, 0, ⟨#[]⟩⟩]
theorem zOps_fits : ∀ p ∈ zOps, p.fits := by
  intro p hp
  simp only [zOps, List.mem_cons, List.not_mem_nil, or_false] at hp
  rcases hp with rfl | rfl | rfl | rfl
  all_goals exact ⟨by dsimp only; decide, by dsimp only; decide, by dsimp only; decide⟩
theorem zOps_new (w : World) : Ops (w.alloc (Obj.cells #[.int .i64 3, .int .i64 0, .string ⟨#[]⟩, .int .i64 1, .int .i64 3, .string ⟨#[97]⟩, .int .i64 2, .int .i64 0, .string ⟨#[]⟩, .int .i64 4, .int .i64 0, .string ⟨#[]⟩] 23)) (some ⟨w.heap.size, 0, none⟩) zOps := by
  intro i hi
  have h4 : i < 4 := hi
  refine ⟨w.heap.size, 0, rfl, ?_⟩
  have h : i = 0 ∨ i = 1 ∨ i = 2 ∨ i = 3 := by omega
  rcases h with rfl | rfl | rfl | rfl
  all_goals (refine ⟨?_, ?_, ?_⟩ <;> simp [zOps])
set_option maxRecDepth 100000 in
set_option maxHeartbeats 1000000 in
theorem zeroes_any (w : World) : Calls Try.prog 38 #[] w fun e w' => e = .returned (.tuple #[]) ∧ Below w.heap.size w w' := by
  go_enter Try.func38, Try.ntmps38
  go_wp2
  have ho := zOps_new w
  have hbw := (Below.refl w.heap.size w).alloc (Nat.le_refl _) (Obj.cells #[.int .i64 3, .int .i64 0, .string ⟨#[]⟩, .int .i64 1, .int .i64 3, .string ⟨#[97]⟩, .int .i64 2, .int .i64 0, .string ⟨#[]⟩, .int .i64 4, .int .i64 0, .string ⟨#[]⟩] 23)
  generalize w.alloc _ = w0 at *
  go_loopw [1] (fun i wr => ∃ k : Nat, i = .int .i64 (k : Int) ∧ k ≤ 4 ∧ Ops wr (some ⟨w.heap.size, 0, none⟩) zOps ∧ Below w.heap.size w wr) (fun i _ => 4 - (intOf i).toNat)
  case atStart => exact ⟨0, rfl, by omega, ho, hbw⟩
  case round =>
    obtain ⟨k, rfl, hk, hO, hB⟩ := hrel
    clear ho hbw
    by_cases hlt : k < 4
    · have hf := zOps_fits zOps[k] (List.getElem_mem (show k < zOps.length from hlt))
      have hf1 := zOps_fits zOps[1] (List.getElem_mem (show 1 < zOps.length by decide))
      obtain ⟨q, o, e, c0, c1, c2⟩ := hO k hlt
      obtain ⟨q1, o1, e1, d0, d1, d2⟩ := hO 1 (by decide)
      simp only [Option.some.injEq, Addr.mk.injEq] at e e1
      obtain ⟨rfl, rfl, _⟩ := e
      obtain ⟨rfl, rfl, _⟩ := e1
      have hql := World.block_lt_of_cell? _ _ c0
      generalize zOps[k] = p at *
      generalize zOps[1] = p1 at *
      obtain ⟨pk, ps, pv⟩ := p
      obtain ⟨rk, rs, rv⟩ := p1
      dsimp only at c0 c1 c2 d0 d1 d2 hql
      simp only [Nat.zero_add, Nat.reduceMul, Nat.reduceAdd] at c0 c1 c2 d0 d1 d2
      have HO := hide hO
      clear hO
      have cc : ∀ v, Below wr.heap.size wr v → (v.cell? ⟨w.heap.size, k * 3, none⟩ = some (.int .i64 pk) ∧ v.cell? ⟨w.heap.size, k * 3 + 1, none⟩ = some (.int .i64 ps) ∧ v.cell? ⟨w.heap.size, k * 3 + 2, none⟩ = some (.string pv)) ∧ v.cell? ⟨w.heap.size, 3, none⟩ = some (.int .i64 rk) ∧ v.cell? ⟨w.heap.size, 4, none⟩ = some (.int .i64 rs) ∧ v.cell? ⟨w.heap.size, 5, none⟩ = some (.string rv) := fun v b =>
        ⟨⟨(b.cell (p := ⟨w.heap.size, k * 3, none⟩) hql).trans c0, (b.cell (p := ⟨w.heap.size, k * 3 + 1, none⟩) hql).trans c1, (b.cell (p := ⟨w.heap.size, k * 3 + 2, none⟩) hql).trans c2⟩, (b.cell (p := ⟨w.heap.size, 3, none⟩) hql).trans d0, (b.cell (p := ⟨w.heap.size, 4, none⟩) hql).trans d1, (b.cell (p := ⟨w.heap.size, 5, none⟩) hql).trans d2⟩
      have cch := hide cc
      have hl0 := led_zero wr
      clear cc
      go_wp2_with fail
      clear c0 c1 c2 d0 d1 d2
      refine (would_b wr.heap.size wr _ [] pk ps pv hf _ hl0).mono ?_
      rintro e v1 ⟨rfl, b1⟩
      have l1 := hl0.on b1
      clear hl0 b1
      obtain ⟨⟨c0, c1, c2⟩, _⟩ := cch.out v1 l1.bel
      go_wp2_with fail
      refine (do_b wr.heap.size wr _ [] pk ps pv hf _ l1).mono ?_
      rintro e v2 ⟨rfl, l2⟩
      clear l1 c0 c1 c2
      generalize dn [] pk ps pv = L at *
      generalize wd [] pk ps pv = r at *
      obtain ⟨r0, r1, r2⟩ := r
      dsimp only
      go_wp2_with fail
      refine (get_b wr.heap.size wr _ L 3 (by decide) _ l2).mono ?_
      rintro e v3 ⟨rfl, b3⟩
      have l3 := l2.on b3
      clear l2 b3
      generalize gv L 3 = x at *
      generalize hx1 : x.getD ByteArray.empty = x1
      generalize hx2 : x.isSome = x2
      clear hx1 hx2
      go_wp2_with fail
      refine (len_b wr.heap.size wr _ L _ l3).mono ?_
      rintro e v4 ⟨rfl, rfl⟩
      go_wp2_with fail
      refine (cells_b wr.heap.size wr _ L _ l3).mono ?_
      rintro e v5 ⟨cs, rfl, _, b5⟩
      have l5 := l3.on b5
      clear l3 b5
      go_wp2_with fail
      obtain ⟨m5, h5, _, hm5, hb5⟩ := l5
      refine (clone_any _ m5 L _ h5).mono ?_
      rintro e v6 ⟨rfl, l6⟩
      have hb6 := hb5.trans (l6.bel.mono hb5.size)
      obtain ⟨_, d0, d1, d2⟩ := cch.out v6 hb6
      have hsz := hb5.size
      have hb57 := hide hb5
      generalize v5.heap.size = z at *
      clear h5 hb5
      go_wp2_with fail
      refine (do_b z v5 _ L rk rs rv hf1 _ l6).mono ?_
      rintro e v7 ⟨rfl, l7⟩
      have hb7 : Below wr.heap.size wr v7 := hb57.out.trans (l7.bel.mono hsz)
      clear l6 d0 d1 d2
      generalize wd L rk rs rv = r' at *
      obtain ⟨r3, r4, r5⟩ := r'
      dsimp only
      go_wp2
      go_round
      case rel => exact ⟨k + 1, by go_num, by omega, HO.out.later hb7, hB.trans (hb7.mono hB.size)⟩
      case measure => simp [intOf]; omega
    · have he : k = 4 := by omega
      subst he
      go_wp2
      go_end0
      exact ⟨rfl, hB⟩

end Go.Proofs.Ytacalgpdhgpmbaa
