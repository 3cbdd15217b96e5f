import Derived.Test.YtcchnaldanibgaaVc
import Derived.Laws.OwnMore
namespace Go.Proofs.Ytcchnaldanibgaa
open Go.RowKit
set_option linter.unusedVariables false
set_option linter.unusedSimpArgs false

theorem dcs_set : ∀ (l : List (Int × Int)) (k : Nat) (x y : Int), dcs (l.set k (x, y)) = ((dcs l).set (k * 2) (.int .u64 x)).set (k * 2 + 1) (.int .u64 y)
  | [], k, x, y => by simp [dcs]
  | d :: r, 0, x, y => by simp [dcs]
  | d :: r, k + 1, x, y => by
    have e : (k + 1) * 2 = k * 2 + 1 + 1 := by omega
    rw [e]
    simp only [List.set_cons_succ, dcs, dcs_set r k x y]
theorem OwnD.set {B : Nat} {w : World} {g n c : Nat} {l : List (Int × Int)} (h : OwnD B w (.slice (some ⟨g, 0, none⟩) n c) l) (k : Nat) (x y : Int) :
    OwnD B ((w.setCell ⟨g, k * 2, none⟩ (.int .u64 x)).setCell ⟨g, k * 2 + 1, none⟩ (.int .u64 y)) (.slice (some ⟨g, 0, none⟩) n c) (l.set k (x, y)) := by
  obtain ⟨a, c', e, _⟩ := h.form
  injection e with e1 e2 e3
  unfold OwnD at *
  rw [← e2] at h
  rw [dcs_set, List.length_set, ← e2]
  exact ((World.ownsRow.stored h (k * 2) _).1.stored (k * 2 + 1) _).1
theorem OwnD.free {B : Nat} {w : World} {g n c : Nat} {l : List (Int × Int)} (h : OwnD B w (.slice (some ⟨g, 0, none⟩) n c) l) (j : Nat) : w.frozen? ⟨g, j, none⟩ = false := by
  obtain ⟨a, c', e, _⟩ := h.form
  injection e with e1 e2 e3
  unfold OwnD at h
  rw [← e2] at h
  exact World.ownsRow.frozenAt h j
theorem OwnD.bel {B : Nat} {w w' : World} {v : Value} {l : List (Int × Int)} (h : OwnD B w v l) {B' : Nat} (hb : Below B' w w') (hB : w.heap.size ≤ B') : OwnD B w' v l :=
  h.upd (S := fun _ => False) (Upd.of_below (hb.mono hB)) (fun _ _ => id)
theorem OwnD.low {B B' : Nat} {w : World} {v : Value} {l : List (Int × Int)} (h : OwnD B w v l) (hb : B' ≤ B) : OwnD B' w v l := by
  obtain ⟨h1, h2⟩ := h
  refine ⟨h1, ?_⟩
  rcases h2 with h2 | ⟨g, cap, cur, e1, e2, r⟩
  · exact .inl h2
  · exact .inr ⟨g, cap, cur, e1, Nat.le_trans hb e2, r⟩

/-- 'make' of so many draws. -/
theorem made_zero (n : Nat) : (madeCells (Value.agg #[.int .u64 0, .int .u64 0]).cells (n * 2)).toList = dcs (List.replicate n (0, 0)) := by
  have e : ∀ m : Nat, dcs (List.replicate m (0, 0)) = List.replicate (m * 2) (.int .u64 0) := by
    intro m
    induction m with
    | zero => rfl
    | succ m ih => rw [List.replicate_succ, dcs, ih, show (m + 1) * 2 = m * 2 + 1 + 1 from by omega]; rfl
  rw [e]
  apply List.ext_getElem?
  intro j
  by_cases hj : j < n * 2
  · have : j % 2 = 0 ∨ j % 2 = 1 := by omega
    rcases this with h | h <;> simp [madeCells, hj, h, Value.cells]
  · simp [madeCells, hj]
theorem make_draws (w : World) {ops : Array Oper} {rest : List Oper} {o : Oper} {a : Act} {Q : Exit → Act → World → Prop} (hgd : o.guard = none) (x : Operand)
    (ho : o.op = .makeSlice 23 x x) (n : Nat) (hx : a.eval x = .int .i64 (n : Int)) (hb : n * 16 ≤ 140737488355328)
    (h : ∀ w', OwnD w.heap.size w' (.slice (some ⟨w.heap.size, 0, none⟩) n n) (List.replicate n (0, 0)) → Below w.heap.size w w' → wpList Try.prog ops Q rest (a.put o.dst (.slice (some ⟨w.heap.size, 0, none⟩) n n)) w') : wpList Try.prog ops Q (o :: rest) a w := by
  obtain ⟨i0, hi, hz0, hz1, hz2⟩ := info_parts info_draw
  have hr := run_make (P := Try.prog) w 23 26 i0 (.agg #[.int .u64 0, .int .u64 0]) Try.underlying23 hi hz0 .i64 .i64 n n (by omega) (Int.le_refl _) (by rw [hz2]; omega) (by omega)
  rw [Int.toNat_natCast, hz1] at hr
  refine wpList_plain hgd fun K hK => ?_
  unfold Oper.wp execOp
  simp only [ho, hx, Sem.run_bind, Sem.run_pure, hr, Result.andThen_ok]
  refine hK _ _ (h _ ?_ ((Below.refl _ _).alloc (Nat.le_refl _) _))
  unfold OwnD
  rw [List.length_replicate, ← made_zero]
  exact World.ownsRow_lit w _ n (Nat.le_refl _) (by unfold maxLen; omega) (size_madeCells _ _)
/-- 'copy' of draws over draws of the call's own. -/
theorem run_copy_row2 {P : Program} (w : World) (dT sT ty elem : TypeId) (g dLen dCap : Nat) (a : Addr) (sLen sCap : Nat) (cur : Array Value) (t : TypeId) (cs : List Value)
    (hu : P.underlying dT = some (.slice elem)) (hs : (P.info? elem).map (·.size) = some 2)
    (hg : w.heap[g]? = some (.cells cur t (0, 0))) (hn : cs.length = Nat.min sLen dLen * 2)
    (hsrc : ∀ j v, cs[j]? = some v → w.cell? (a.add j) = some v) (hfit : cs.length ≤ cur.size) (h1 : ∀ v ∈ cs, v.oneCell' = true) :
    (Builtin.copy_ #[dT, sT] ty #[.slice (some ⟨g, 0, none⟩) dLen dCap, .slice (some a) sLen sCap]).run P w =
      .ok (goInt (Nat.min sLen dLen)) (w.setRow g (cs ++ cur.toList.drop cs.length).toArray) := by
  have hl := run_loadCells_list (P := P) w a cs hsrc
  have hst := run_storeCells_at P g 0 t cs 0 cur w hg (by simpa using hfit) h1
  cases hq : P.info? elem with
  | none => simp [hq] at hs
  | some i =>
    have hi : i.size = 2 := by simpa [hq] using hs
    rw [hn] at hl
    simp [Builtin.copy_, run_underlying hu, Builtin.lenOf, Builtin.firstCells, sizeOf, typeInfo, hq, hi, hl, hst]
theorem copy_draws (w : World) {ops : Array Oper} {rest : List Oper} {o : Oper} {a : Act} {Q : Exit → Act → World → Prop} (hgd : o.guard = none) (d s : Operand)
    (ho : o.op = .call { callee := .builtin .copy, args := #[d, s], argTypes := #[23, 23] }) (B g n c q p : Nat) (M D : List (Int × Int))
    (hd : a.eval d = .slice (some ⟨g, 0, none⟩) n n) (hs : a.eval s = .slice (some ⟨q, p, none⟩) n c) (hM : OwnD B w (.slice (some ⟨g, 0, none⟩) n n) M) (hn : D.length = n) (hD : Lie w q p D)
    (h : ∀ w', OwnD B w' (.slice (some ⟨g, 0, none⟩) n n) D → Below B w w' → wpList Try.prog ops Q rest (a.put o.dst (goInt n)) w') : wpList Try.prog ops Q (o :: rest) a w := by
  obtain ⟨i0, hi, hz0, hz1, hz2⟩ := info_parts info_draw
  rcases hM.2 with ⟨e, _⟩ | ⟨g', cap, cur, e, hB, hg, h1, h2, h3, h4⟩
  · cases e
  · simp only [Value.slice.injEq, Option.some.injEq, Addr.mk.injEq, and_true, true_and] at e
    obtain ⟨rfl, hMn, rfl⟩ := e
    have hcs : (dcs D).length = n * 2 := by rw [dcs_length, hn]
    have hr := run_copy_row2 (P := Try.prog) w 23 23 o.type 26 g n n ⟨q, p, none⟩ n c cur 26 (dcs D) Try.underlying23 (by rw [hi]; simp [hz1]) hg (by rw [hcs]; simp [Nat.min]) (fun j u hu => by rw [Addr.add_lit]; exact dcs_at D w q p hD j u hu) (by rw [hcs, h3]; exact Nat.le_refl _) (dcs_one D)
    have hmin : Nat.min n n = n := Nat.min_self n
    rw [hmin] at hr
    refine wpList_plain hgd fun K hK => ?_
    unfold Oper.wp execOp
    simp only [ho, resolve, invoke, builtin, Sem.run_bind, Sem.run_pure, Result.andThen_ok, List.map_toArray, List.map_cons, List.map_nil, hd, hs, hr]
    refine hK _ _ (h _ ?_ (below_setRow (Below.refl _ _) hB _))
    have hdr : cur.toList.drop (dcs D).length = [] := List.drop_eq_nil_of_le (by rw [Array.length_toList, hcs, h3]; exact Nat.le_refl _)
    rw [hdr, List.append_nil]
    refine ⟨by rw [hcs, hn], .inr ⟨g, n, (dcs D).toArray, by rw [hn], hB, setRow_heap w g _ _ _ _ hg, by omega, h2, by simp [hcs], ?_⟩⟩
    rw [hn, ← hcs]
    simp
set_option maxRecDepth 100000 in
set_option maxHeartbeats 400000 in
theorem copied_any (D : List (Int × Int)) (a : Option Addr) (c : Nat) (w : World) (h : Sl w (.slice a D.length c) D a c) (hD : D ≠ []) (hb : D.length * 16 ≤ 140737488355328) :
    Calls Try.prog 41 #[.slice a D.length c] w fun e w' => ∃ g, e = .returned (.slice (some ⟨g, 0, none⟩) D.length D.length) ∧ OwnD w.heap.size w' (.slice (some ⟨g, 0, none⟩) D.length D.length) D ∧ Below w.heap.size w w' := by
  obtain ⟨q, p, rfl, hq, hl⟩ := h.place hD
  have HL := hide hl
  clear h hl
  generalize hn : D.length = n at *
  have HN := hide hn
  clear hn
  go_enter Try.func41, Try.ntmps41
  go_wp2_with (at_make; go_must (refine make_draws _ rfl (.tmp 5) rfl n rfl hb ?zk))
  intro w1 o1 b1
  go_wp2_with (refine copy_draws _ rfl (.tmp 7) (.tmp 8) rfl w.heap.size w.heap.size n c q p _ D rfl rfl o1 HN.out (HL.out.later hq b1 hq) ?_)
  intro w2 o2 b2
  go_wp2
  go_ret
  exact ⟨_, rfl, o2, b1.trans b2⟩

set_option maxRecDepth 100000 in
set_option maxHeartbeats 1000000 in
theorem raise_any (B g c2 : Nat) (M V : List (Int × Int)) (a : Option Addr) (c : Nat) (w : World) (hM : OwnD B w (.slice (some ⟨g, 0, none⟩) M.length c2) M) (hB : B ≤ w.heap.size) (h : Sl w (.slice a V.length c) V a c) (hl : V.length = M.length) (hV : V ≠ []) (hlow : ∀ z, a = some z → z.block < B) :
    Calls Try.prog 46 #[.slice (some ⟨g, 0, none⟩) M.length c2, .slice a V.length c] w fun e w' => e = .returned (.tuple #[]) ∧ OwnD B w' (.slice (some ⟨g, 0, none⟩) M.length c2) (jn M V) ∧ Below B w w' := by
  obtain ⟨q, p, rfl, hq, hlie⟩ := h.place hV
  have hqB : q < B := hlow _ rfl
  have m1 := h.max
  have k1 := h.cap
  unfold maxLen at m1
  obtain ⟨a', c', e, k2, m2, _, hgg⟩ := hM.form
  injection e with e1 e2 e3
  subst e1 e3
  obtain ⟨_, e, hBg, hgs⟩ := hgg _ rfl
  injection e with e1
  subst e1
  unfold maxLen at m2
  have HL := hide hlie
  have HV := hide hl
  unfold jn
  rw [hl] at k1 ⊢
  clear h hlie hl e2 hV hlow
  generalize hn : M.length = n at *
  have HN := hide hn
  clear hn hgg
  go_enter Try.func46, Try.ntmps46
  go_wp2
  go_loopw [8] (fun i wr => ∃ (k : Nat), i = .int .i64 (k : Int) ∧ k ≤ n ∧ OwnD B wr (.slice (some ⟨g, 0, none⟩) n c2) (rai M V k) ∧ Below B w wr) (fun i _ => n - (intOf i).toNat)
  case atStart => exact ⟨0, rfl, Nat.zero_le _, hM, Below.refl _ _⟩
  case round =>
    obtain ⟨k, rfl, hk, ho, hb⟩ := hrel
    by_cases hlt : k < n
    · have hd1 := some_at2 (A := V) (k := k) (by have := HV.out; omega)
      have hd2 := some_at2 (A := rai M V k) (k := k) (by rw [rai_length]; have := HN.out; omega)
      have ers : rai M V (k + 1) = if 0 < cm (at2 V k) (at2 (rai M V k) k) then (rai M V k).set k (at2 V k) else rai M V k := rfl
      have RS := hide ers
      clear ers
      unfold cm at RS
      generalize at2 V k = d1 at *
      generalize at2 (rai M V k) k = d2 at *
      obtain ⟨x, y⟩ := d1
      obtain ⟨x', y'⟩ := d2
      obtain ⟨e0, e1⟩ := HL.out.later hq hb hqB k _ hd1
      obtain ⟨e2, e3⟩ := ho.cell k _ hd2
      simp only at e0 e1 e2 e3 RS
      clear HL hd1 hd2
      have hsz := hb.size
      have OW := hide ho
      have hg2 : g < wr.heap.size := by omega
      have KS : ∀ v, Below (wr.heap.size + 1) (wr.alloc (.cells #[.int .u64 x, .int .u64 y] 26)) v → (Below (wr.heap.size + 1) (wr.alloc (.cells #[.int .u64 x, .int .u64 y] 26)) v ∧ v.cell? ⟨wr.heap.size, 0, none⟩ = some (.int .u64 x) ∧ v.cell? ⟨wr.heap.size, 1, none⟩ = some (.int .u64 y) ∧ v.cell? ⟨g, k * 2, none⟩ = some (.int .u64 x') ∧ v.cell? ⟨g, k * 2 + 1, none⟩ = some (.int .u64 y')) := fun v b =>
        ⟨b, (b.cell (p := ⟨wr.heap.size, 0, none⟩) (Nat.lt_succ_self _)).trans (by simp), (b.cell (p := ⟨wr.heap.size, 1, none⟩) (Nat.lt_succ_self _)).trans (by simp), (b.cell (p := ⟨g, k * 2, none⟩) (by show g < wr.heap.size + 1; omega)).trans ((World.cell?_alloc_past _ _ _ (by show g < wr.heap.size; omega)).trans e2), (b.cell (p := ⟨g, k * 2 + 1, none⟩) (by show g < wr.heap.size + 1; omega)).trans ((World.cell?_alloc_past _ _ _ (by show g < wr.heap.size; omega)).trans e3)⟩
      have KH := hide KS
      clear KS ho
      go_wp2_with fail
      go_region_held3 (fun v => Below (wr.heap.size + 1) (wr.alloc (.cells #[.int .u64 x, .int .u64 y] 26)) v ∧ v.cell? ⟨wr.heap.size, 0, none⟩ = some (.int .u64 x) ∧ v.cell? ⟨wr.heap.size, 1, none⟩ = some (.int .u64 y) ∧ v.cell? ⟨g, k * 2, none⟩ = some (.int .u64 x') ∧ v.cell? ⟨g, k * 2 + 1, none⟩ = some (.int .u64 y'))
        (first | exact KH.out _ (Below.refl _ _).drew | exact KH.out _ (by assumption))
        (first
          | (go_at_call 48; refine (compare_any _ _ _ _ _).mono ?_; rintro e v ⟨rfl, bv⟩; have bb := Below.on (w := wr.alloc (.cells #[.int .u64 x, .int .u64 y] 26)) (B := wr.heap.size + 1) (by simp) (by first | assumption | exact (Below.refl _ _).drew) bv))
      have hw : Below B w v := (hb.alloc (by omega) _).trans (bb.mono (by omega))
      have o2 : OwnD B v (.slice (some ⟨g, 0, none⟩) n c2) (rai M V k) := (OW.out.alloc _).bel bb (by simp)
      obtain ⟨_, z0, z1, z2, z3⟩ := KH.out v bb
      have fz0 := o2.free (k * 2)
      have fz1 := o2.free (k * 2 + 1)
      have O2 := hide o2
      generalize cmpD x y x' y' = cc at *
      clear KH bv bb OW o2
      by_cases hc : 0 < cc
      · go_wp2
        go_round
        case rel =>
          refine ⟨k + 1, by go_num, by omega, ?_, ?_⟩
          · rw [RS.out, if_pos hc]
            exact O2.out.set k x y
          · exact (hw.setCell (by show B ≤ g; omega) _).setCell (by show B ≤ g; omega) _
        case measure => simp [intOf]; omega
      · go_wp2
        go_round
        case rel =>
          refine ⟨k + 1, by go_num, by omega, ?_, hw⟩
          rw [RS.out, if_neg hc]
          exact O2.out
        case measure => simp [intOf]; omega
    · obtain rfl : k = n := by omega
      go_wp2
      go_end0
      exact ⟨rfl, ho, hb⟩

end Go.Proofs.Ytcchnaldanibgaa
