import Derived.Test.YtjkleldoeojbbaaGLi
import Derived.Laws.CopyOwn
import Derived.Laws.Tables
namespace Go.Proofs.Ytjkleldoeojbbaa
open Go.RowKit Go.Maps
set_option linter.unusedVariables false
set_option linter.unusedSimpArgs false

/-- 'make' of so many cells. -/
theorem made_cells (n : Nat) : (madeCells (Value.agg #[.int .i64 0, .string ByteArray.empty]).cells (n * 2)).toList = ccs (List.replicate n (0, ByteArray.empty)) := by
  apply List.ext_getElem?
  intro j
  by_cases hj : j < n * 2
  · have h2 : j % 2 = 0 ∨ j % 2 = 1 := by omega
    have hg : (List.replicate n ((0 : Int), ByteArray.empty))[j / 2]? = some (0, ByteArray.empty) := by
      rw [List.getElem?_replicate, if_pos (by omega)]
    rcases h2 with h | h
    · have e : j = j / 2 * 2 := by omega
      have h0 := ccs_get0 _ _ _ hg
      rw [← e] at h0
      rw [h0]
      simp [madeCells, hj, h, Value.cells]
    · have e : j = j / 2 * 2 + 1 := by omega
      have h0 := ccs_get1 _ _ _ hg
      rw [← e] at h0
      rw [h0]
      simp [madeCells, hj, h, Value.cells]
  · have e : (ccs (List.replicate n ((0 : Int), ByteArray.empty)))[j]? = none := List.getElem?_eq_none (by rw [ccs_length, List.length_replicate]; omega)
    rw [e]
    simp [madeCells, hj]
theorem make_cells (w : World) {ops : Array Oper} {rest : List Oper} {o : Oper} {a : Act} {Q : Exit → Act → World → Prop} (hgd : o.guard = none) (x : Operand)
    (ho : o.op = .makeSlice 69 x x) (n : Nat) (hx : a.eval x = .int .i64 (n : Int)) (hb : n * 24 ≤ 140737488355328)
    (h : ∀ w', OwnC w.heap.size w' (.slice (some ⟨w.heap.size, 0, none⟩) n n) (List.replicate n (0, ByteArray.empty)) → Below w.heap.size w w' → w'.heap.size = w.heap.size + 1 → wpList Try.prog ops Q rest (a.put o.dst (.slice (some ⟨w.heap.size, 0, none⟩) n n)) w') : wpList Try.prog ops Q (o :: rest) a w := by
  obtain ⟨i0, hi, hz0, hz1, hz2⟩ := info_parts info_cell
  have hr := run_make (P := Try.prog) w 69 148 i0 (.agg #[.int .i64 0, .string ByteArray.empty]) Try.underlying69 hi hz0 .i64 .i64 n n (by omega) (Int.le_refl _) (by rw [hz2]; omega) (by omega)
  rw [Int.toNat_natCast, hz1] at hr
  refine wpList_plain hgd fun K hK => ?_
  unfold Oper.wp execOp
  simp only [ho, hx, Sem.run_bind, Sem.run_pure, hr, Result.andThen_ok]
  refine hK _ _ (h _ ?_ ((Below.refl _ _).alloc (Nat.le_refl _) _) (by simp))
  unfold OwnC
  rw [List.length_replicate, ← made_cells]
  exact World.ownsRow_lit w _ n (Nat.le_refl _) (by unfold maxLen; omega) (size_madeCells _ _)
/-- 'copy' of cells over cells of the call's own. -/
theorem run_copy_two {P : Program} (w : World) (dT sT ty elem : TypeId) (g dLen dCap : Nat) (a : Addr) (sLen sCap : Nat) (cur : Array Value) (t : TypeId) (cs : List Value)
    (hu : P.underlying dT = some (.slice elem)) (hs : (P.info? elem).map (·.size) = some 2)
    (hg : w.heap[g]? = some (.cells cur t (0, 0))) (hn : cs.length = Nat.min sLen dLen * 2)
    (hsrc : ∀ j v, cs[j]? = some v → w.cell? (a.add j) = some v) (hfit : cs.length ≤ cur.size) (h1 : ∀ v ∈ cs, v.oneCell' = true) :
    (Builtin.copy_ #[dT, sT] ty #[.slice (some ⟨g, 0, none⟩) dLen dCap, .slice (some a) sLen sCap]).run P w =
      .ok (goInt (Nat.min sLen dLen)) (w.setRow g (cs ++ cur.toList.drop cs.length).toArray) := by
  have hl := run_loadCells_list (P := P) w a cs hsrc
  have hst := run_storeCells_at P g 0 t cs 0 cur w hg (by simpa using hfit) h1
  cases hq : P.info? elem with
  | none => simp [hq] at hs
  | some i =>
    have hi : i.size = 2 := by simpa [hq] using hs
    rw [hn] at hl
    simp [Builtin.copy_, run_underlying hu, Builtin.lenOf, Builtin.firstCells, sizeOf, typeInfo, hq, hi, hl, hst]
theorem run_copy_zero {P : Program} (w : World) (dT sT ty elem : TypeId) (g : Nat) (a : Option Addr) (c : Nat)
    (hu : P.underlying dT = some (.slice elem)) (hs : (P.info? elem).map (·.size) = some 2) :
    (Builtin.copy_ #[dT, sT] ty #[.slice (some ⟨g, 0, none⟩) 0 0, .slice a 0 c]).run P w = .ok (goInt 0) w := by
  cases hq : P.info? elem with
  | none => simp [hq] at hs
  | some i =>
    have hi : i.size = 2 := by simpa [hq] using hs
    cases a <;> simp [Builtin.copy_, run_underlying hu, Builtin.lenOf, Builtin.firstCells, sizeOf, typeInfo, hq, hi, loadCells, loadCellsFrom, storeCells]
set_option maxRecDepth 100000 in
theorem copy_cells (w : World) {ops : Array Oper} {rest : List Oper} {o : Oper} {a : Act} {Q : Exit → Act → World → Prop} (hgd : o.guard = none) (d s : Operand)
    (ho : o.op = .call { callee := .builtin .copy, args := #[d, s], argTypes := #[69, 69] }) (B g c : Nat) (ad : Option Addr) (M D : List Cl)
    (hd : a.eval d = .slice (some ⟨g, 0, none⟩) D.length D.length) (hs : a.eval s = .slice ad D.length c) (hM : OwnC B w (.slice (some ⟨g, 0, none⟩) D.length D.length) M) (hD : SlC w (.slice ad D.length c) D ad c)
    (h : ∀ w', OwnC B w' (.slice (some ⟨g, 0, none⟩) D.length D.length) D → Upd (· = g) w w' → wpList Try.prog ops Q rest (a.put o.dst (goInt D.length)) w') : wpList Try.prog ops Q (o :: rest) a w := by
  obtain ⟨i0, hi, hz0, hz1, hz2⟩ := info_parts info_cell
  obtain ⟨n, hn⟩ : ∃ n, D.length = n := ⟨_, rfl⟩
  by_cases hD0 : D = []
  · subst hD0
    have hr := run_copy_zero (P := Try.prog) w 69 69 o.type 148 g ad c Try.underlying69 (by rw [hi]; simp [hz1])
    have hM0 : M = [] := by
      obtain ⟨a', c', e, _⟩ := hM.form
      injection e with e1 e2 e3
      exact List.eq_nil_of_length_eq_zero e2.symm
    subst hM0
    refine wpList_plain hgd fun K hK => ?_
    unfold Oper.wp execOp
    simp only [List.length_nil] at hd hs hr
    simp only [ho, resolve, invoke, builtin, Sem.run_bind, Sem.run_pure, Result.andThen_ok, List.map_toArray, List.map_cons, List.map_nil, hd, hs, hr]
    exact hK _ _ (h _ hM (Upd.refl _ _))
  · obtain ⟨q, p, rfl, hq, hl⟩ : ∃ q p, ad = some ⟨q, p, none⟩ ∧ q < w.heap.size ∧ LieC w q p D := by
      cases ad with
      | none => exact absurd (hD.nil rfl).1 hD0
      | some x =>
        rcases hD.at_ x rfl with h1 | ⟨q, p, rfl, h2, h3⟩
        · exact absurd h1.1 hD0
        · exact ⟨q, p, rfl, h2, h3⟩
    rcases hM.2 with ⟨e, _⟩ | ⟨g', cap, cur, e, hB, hg, h1, h2, h3, h4⟩
    · cases e
    · simp only [Value.slice.injEq, Option.some.injEq, Addr.mk.injEq, and_true, true_and] at e
      obtain ⟨rfl, hMn, rfl⟩ := e
      have hcs : (ccs D).length = D.length * 2 := ccs_length D
      have hr := run_copy_two (P := Try.prog) w 69 69 o.type 148 g D.length D.length ⟨q, p, none⟩ D.length c cur 148 (ccs D) Try.underlying69 (by rw [hi]; simp [hz1]) hg (by rw [hcs]; simp [Nat.min]) (fun j u hu => by rw [Addr.add_lit]; exact ccs_at D w q p hl j u hu) (by rw [hcs, h3]; exact Nat.le_refl _) (ccs_one D)
      have hmin : Nat.min D.length D.length = D.length := Nat.min_self _
      rw [hmin] at hr
      refine wpList_plain hgd fun K hK => ?_
      unfold Oper.wp execOp
      simp only [ho, resolve, invoke, builtin, Sem.run_bind, Sem.run_pure, Result.andThen_ok, List.map_toArray, List.map_cons, List.map_nil, hd, hs, hr]
      have hgl : g < w.heap.size := (Array.getElem?_eq_some_iff.1 hg).1
      have hbel := below_setRow (B := g) (Below.refl g w) (Nat.le_refl g)
      refine hK _ _ (h _ ?_ ?_)
      · have hdr : cur.toList.drop (ccs D).length = [] := List.drop_eq_nil_of_le (by rw [Array.length_toList, hcs, h3]; exact Nat.le_refl _)
        rw [hdr, List.append_nil]
        refine ⟨by rw [hcs], .inr ⟨g, D.length, (ccs D).toArray, rfl, hB, setRow_heap w g _ _ _ _ hg, Nat.le_refl _, h2, by simp [hcs], ?_⟩⟩
        rw [← hcs]
        simp
      · exact ⟨rfl, rfl, rfl, by simp, fun k hk hne => setRow_other w g k _ hne⟩
set_option maxRecDepth 100000 in
set_option maxHeartbeats 400000 in
/-- Each: a function over cells of its own. -/
theorem each_any (D : List Cl) (a : Option Addr) (c : Nat) (w : World) (h : SlC w (.slice a D.length c) D a c) (hb : D.length * 24 ≤ 140737488355328) :
    Calls Try.prog 118 #[.slice a D.length c] w fun e w' => ∃ g k, e = .returned (.func (.func 129) #[] #[.pointer (some ⟨k, 0, none⟩)]) ∧ w.heap.size ≤ g ∧ w.heap.size ≤ k ∧ k < w'.heap.size ∧ w'.cell? ⟨k, 0, none⟩ = some (.slice (some ⟨g, 0, none⟩) D.length D.length) ∧ OwnC w.heap.size w' (.slice (some ⟨g, 0, none⟩) D.length D.length) D ∧ Below w.heap.size w w' := by
  have HL := hide h
  clear h
  go_enter Try.func118, Try.ntmps118
  go_wp2_with (at_make; go_must (refine make_cells _ rfl (.tmp 5) rfl D.length rfl hb ?zk))
  intro w1 o1 b1 s1
  have HO := hide o1
  have HS : Hid (SlC (w1.alloc (Obj.cells #[Value.slice (some ⟨w.heap.size, 0, none⟩) D.length D.length] 69)) (.slice a D.length c) D a c) := hide (HL.out.upd (S := fun _ => False) (Upd.of_below (b1.trans ((Below.refl _ _).alloc (by omega) _))) (fun _ _ _ h => h))
  clear o1
  go_wp2_with (refine copy_cells _ rfl (.tmp 7) (.tmp 8) rfl w.heap.size w.heap.size c a _ D rfl rfl (HO.out.alloc _) HS.out ?_)
  intro w2 o2 u2
  have hc : w2.cell? ⟨w.heap.size + 1, 0, none⟩ = some (.slice (some ⟨w.heap.size, 0, none⟩) D.length D.length) := by
    rw [u2.cell (p := ⟨w.heap.size + 1, 0, none⟩) (by simp [s1]) (by simp)]
    rw [← s1]
    simp
  have hsz := u2.size
  rw [World.size_alloc] at hsz
  have hbel : Below w.heap.size w w2 := (b1.trans ((Below.refl _ _).alloc (by omega) _)).trans (u2.below (by simp; omega) (fun k hk => by omega))
  go_wp2
  go_ret
  exact ⟨w.heap.size, w.heap.size + 1, rfl, Nat.le_refl _, by omega, by omega, hc, o2, hbel⟩

end Go.Proofs.Ytjkleldoeojbbaa
