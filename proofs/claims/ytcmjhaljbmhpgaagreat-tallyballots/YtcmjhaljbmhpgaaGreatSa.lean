import Derived.Test.YtcmjhaljbmhpgaaGreatKa
import Derived.Test.YtcmjhaljbmhpgaaGreatFz
import Derived.Test.YtcmjhaljbmhpgaaGreatCz
import Derived.BigQuiet
import Derived.Handy
namespace Go.Proofs.YtcmjhaljbmhpgaaGreat
open Go.RowKit Go.Maps
open Classical
set_option linter.unusedVariables false
set_option linter.unusedSimpArgs false
variable {α : Type} {Y : Lay α}

/-- The type of what is appended has no part, if it is a slice's. -/
theorem run_append_types {P : Program} (w : World) (t u ty e e' : TypeId) (v : Value) (ad : Option Addr) (m c : Nat) (ht : P.underlying t = some (.slice e)) (hu : P.underlying u = some (.slice e')) :
    (Builtin.append_ #[t, u] ty #[v, .slice ad m c]).run P w = (Builtin.append_ #[t, t] ty #[v, .slice ad m c]).run P w := by
  cases v <;> simp [Builtin.append_, run_underlying ht, run_underlying hu]
theorem zeroCells_made (z : Array Value) (n : Nat) : Builtin.zeroCells z n = madeCells z (n * z.size) := rfl
/-- 'append(s, make(S, n)...)' where there is no room. -/
theorem run_append_zeros {P : Program} (w : World) (t u ty e : TypeId) (i : TypeInfo) (z : Value) (ik : IntKind) (ht : P.underlying t = some (.slice e)) (hu : P.underlying u = some (.int ik)) (hi : P.info? e = some i) (hz : i.zero = some z) (hzs : z.cells.size = i.size) (hsz : 0 < i.size)
    (b : Addr) (sLen sCap : Nat) (olds : List Value) (hlo : olds.length = sLen * i.size) (holds : ∀ j v, olds[j]? = some v → w.cell? (b.add j) = some v) (n : Nat) (hn0 : 0 < n) (hn : (n : Int) ≤ 9223372036854775807)
    (hg : sCap < sLen + n) (h63 : ((sLen + n : Nat) : Int) ≤ 9223372036854775807) (hnb : n * i.bytes ≤ 281474976710656) (hfit : Builtin.nextslicecap (sLen + n) sCap * i.bytes ≤ 281474976710656) :
    (Builtin.append_ #[t, u] ty #[.slice (some b) sLen sCap, .int .i64 (n : Int)]).run P w =
      .ok (.slice (some ⟨w.heap.size, 0, none⟩) (sLen + n) (grownCap w (sLen + n) sCap e))
        (w.drew.alloc (.cells (olds.toArray ++ Builtin.zeroCells z.cells n ++ Builtin.zeroCells z.cells (grownCap w (sLen + n) sCap e - (sLen + n))) e)) := by
  have hn' : ¬ (sLen + n ≤ sCap) := by omega
  have h63' : ¬ (9223372036854775807 < ((sLen : Int) + (n : Int))) := by omega
  have h48' : ¬ (281474976710656 < Builtin.nextslicecap (sLen + n) sCap * i.bytes) := by omega
  have hnb' : ¬ (281474976710656 < (n : Int) * (i.bytes : Int)) := by
    have : ((n * i.bytes : Nat) : Int) ≤ 281474976710656 := by omega
    rw [Int.natCast_mul] at this
    omega
  have hw : IntKind.i64.wrap (n : Int) = (n : Int) := by rw [IntKind.wrap_i64]; omega
  have hneg : ¬ ((n : Int) < 0) := by omega
  have hns : ¬ (n * i.size = 0) := by
    have := Nat.mul_pos hn0 hsz
    omega
  have hfo := run_firstCells_some (P := P) w.drew i.size sLen b sLen sCap olds hlo (by simpa using holds)
  have hn0' : n ≠ 0 := by omega
  have hsz' : i.size ≠ 0 := by omega
  simp [Builtin.append_, run_underlying ht, run_underlying hu, asInt, asIntOf, sizeOf, typeInfo, zeroValue, hi, hz, hw, hneg, hnb', hn', h63', h48', Question.forced, hfo, newRow, grownCap, hns]
/-- The same over a row of the call's own: the row lies in a block of its own. -/
theorem run_zerosY (K : Y.Ok) (w : World) (ty u : TypeId) (ik : IntKind) (hu : Tryz.prog.underlying u = some (.int ik)) (a : Addr) (m c n : Nat) (l : List α) (hh : SlY Y w (some a) m c l) (hn0 : 0 < n) (hg : c < m + n) (hm : m + n ≤ maxLen) (hb : (m + n) * Y.by_ ≤ 140737488355328) :
    ∃ c' w', (Builtin.append_ #[Y.ST, u] ty #[.slice (some a) m c, .int .i64 (n : Int)]).run Tryz.prog w = .ok (.slice (some ⟨w.heap.size, 0, none⟩) (m + n) c') w' ∧ OwnY Y w.heap.size w' (.slice (some ⟨w.heap.size, 0, none⟩) (m + n) c') (l ++ List.replicate n Y.z) ∧ Below w.heap.size w w' := by
  obtain ⟨zv, hinfo, hzc⟩ := K.info
  obtain ⟨i0, hi, hz0, hz1, hz2⟩ := info_parts hinfo
  have hzs : zv.cells.size = Y.k := by rw [hzc, List.size_toArray, K.len]
  unfold maxLen at hm
  have holds : ∀ j v, (fl Y l)[j]? = some v → w.cell? (a.add j) = some v := fun j u hu => by
    rcases hh.at_ a rfl with e | ⟨q, o, rfl, _, hl⟩
    · subst e; cases hu
    · rw [Addr.add_lit]; exact hl.flat K j u hu
  have hlo : (fl Y l).length = m * Y.k := by rw [fl_length K, hh.len]
  have hnb : n * i0.bytes ≤ 281474976710656 := by
    rw [hz2]
    have : n * Y.by_ ≤ (m + n) * Y.by_ := Nat.mul_le_mul_right _ (by omega)
    omega
  have hr := run_append_zeros (P := Tryz.prog) w Y.ST u ty Y.T i0 zv ik K.und hu hi hz0 (by rw [hzs, hz1]) (by rw [hz1]; exact K.kp) a m c (fl Y l) (by rw [hz1]; exact hlo) holds n hn0 (by omega) hg (by omega) hnb (growslice_fits (by omega) (by rw [hz2]; exact hb))
  refine ⟨_, _, hr, ?_, ((Below.refl _ w).drew).alloc (by simp) _⟩
  have hge := grownCap_ge w (m + n) c Y.T
  have hcm := grownCap_le_maxLen w (m + n) c Y.T (by unfold maxLen; omega)
  have hml : (madeCells zv.cells (n * zv.cells.size)).toList = fl Y (List.replicate n Y.z) := by rw [hzs]; exact madeY K hzc n
  have hlen : (fl Y (l ++ List.replicate n Y.z)).length = (m + n) * Y.k := by rw [fl_length K, List.length_append, List.length_replicate, hh.len]
  unfold OwnY
  rw [List.length_append, List.length_replicate, hh.len]
  refine ⟨hlen, .inr ⟨w.heap.size, _, _, rfl, Nat.le_refl _, heap_alloc_new w.drew _, hge, hcm, ?_, ?_⟩⟩
  · simp only [Array.size_append, List.size_toArray, size_zeroCells, hzs, hlo, ← Nat.add_mul]
    exact congrArg (· * Y.k) (by omega)
  · simp only [Array.toList_append, zeroCells_made, hml]
    rw [← fl_append, ← hlen]
    exact List.take_left
theorem zerosY (K : Y.Ok) (w : World) {ops : Array Oper} {rest : List Oper} {o : Oper} {a : Act} {Q : Exit → Act → World → Prop} (hgd : o.guard = none) (s x : Operand) (u : TypeId) (ik : IntKind) (hu : Tryz.prog.underlying u = some (.int ik))
    (ho : o.op = .call { callee := .builtin .append, args := #[s, x], argTypes := #[Y.ST, u] }) (ad : Addr) (m c n : Nat) (l : List α) (hs : a.eval s = .slice (some ad) m c) (hx : a.eval x = .int .i64 (n : Int)) (hh : SlY Y w (some ad) m c l) (hn0 : 0 < n) (hg : c < m + n) (hm : m + n ≤ maxLen) (hb : (m + n) * Y.by_ ≤ 140737488355328)
    (hk : ∀ c' w', OwnY Y w.heap.size w' (.slice (some ⟨w.heap.size, 0, none⟩) (m + n) c') (l ++ List.replicate n Y.z) → Below w.heap.size w w' → wpList Tryz.prog ops Q rest (a.put o.dst (.slice (some ⟨w.heap.size, 0, none⟩) (m + n) c')) w') : wpList Tryz.prog ops Q (o :: rest) a w := by
  refine wpList_plain hgd fun K' hK' => ?_
  obtain ⟨c', w', hr, h2, h3⟩ := run_zerosY K w o.type u ik hu ad m c n l hh hn0 hg hm hb
  unfold Oper.wp execOp
  simp only [ho, resolve, invoke, builtin, Sem.run_bind, Sem.run_pure, Result.andThen_ok, List.map_toArray, List.map_cons, List.map_nil, hs, hx, hr]
  exact hK' _ _ (hk c' w' h2 h3)
/-- 'append(s, v...)' where v's type is another slice type. -/
theorem appYt (K : Y.Ok) (w : World) {ops : Array Oper} {rest : List Oper} {o : Oper} {a : Act} {Q : Exit → Act → World → Prop} (hgd : o.guard = none) (s x : Operand) (u : TypeId) (e' : TypeId) (hu : Tryz.prog.underlying u = some (.slice e'))
    (ho : o.op = .call { callee := .builtin .append, args := #[s, x], argTypes := #[Y.ST, u] }) (B : Nat) (l : List α) (v : Value) (hs : a.eval s = v)
    (ad : Option Addr) (m c : Nat) (hx : a.eval x = .slice ad m c) (news : List α) (hh : SlY Y w ad m c news) (hown : OwnY Y B w v l) (hB : B ≤ w.heap.size) (hm : l.length + m ≤ maxLen) (hb : (l.length + m) * Y.by_ ≤ 140737488355328)
    (hk : ∀ v' w', OwnY Y B w' v' (l ++ news) → w.grownBy w' v.ownBlock → (v'.ownBlock = v.ownBlock ∨ ∃ k, v'.ownBlock = some k ∧ w.heap.size ≤ k) → wpList Tryz.prog ops Q rest (a.put o.dst v') w') : wpList Tryz.prog ops Q (o :: rest) a w := by
  refine wpList_plain hgd fun K' hK' => ?_
  obtain ⟨v', w', hr, h2, h3, h4⟩ := run_appY K w o.type B l v ad m c news hh hown hB hm hb
  rw [← run_append_types w Y.ST u o.type Y.T e' v ad m c K.und hu] at hr
  unfold Oper.wp execOp
  simp only [ho, resolve, invoke, builtin, Sem.run_bind, Sem.run_pure, Result.andThen_ok, List.map_toArray, List.map_cons, List.map_nil, hs, hx, hr]
  exact hK' _ _ (hk v' w' h2 h3 h4)
/-- 'copy' into a row of the call's own, whatever its room is. -/
theorem run_copyYc (K : Y.Ok) (w : World) (sT ty : TypeId) (B g dn dc i n cp c m : Nat) (ad : Option Addr) (M D : List α) (hM : OwnY Y B w (.slice (some ⟨g, 0, none⟩) n cp) M) (hD : SlY Y w ad m c D) (hi : i + m ≤ n) (hdn : m ≤ dn) :
    ∃ w', (Builtin.copy_ #[Y.ST, sT] ty #[.slice (some ⟨g, i * Y.k, none⟩) dn dc, .slice ad m c]).run Tryz.prog w = .ok (goInt m) w' ∧ OwnY Y B w' (.slice (some ⟨g, 0, none⟩) n cp) (put M i D) ∧ Upd (· = g) w w' ∧ w'.heap.size = w.heap.size := by
  obtain ⟨zv, hinfo, hzc⟩ := K.info
  obtain ⟨i0, hi0, hz0, hz1, hz2⟩ := info_parts hinfo
  have hsz : (Tryz.prog.info? Y.T).map (·.size) = some Y.k := by rw [hi0]; simp [hz1]
  have hMn : M.length = n := (hM.sl' K).len
  have hDm := hD.len
  by_cases hD0 : D = []
  · subst hD0
    have hm0 : m = 0 := hDm.symm
    subst hm0
    refine ⟨w, run_copy_nil (P := Tryz.prog) w Y.ST sT ty Y.T Y.k (some ⟨g, i * Y.k, none⟩) ad dn dc c K.und hsz, ?_, Upd.refl _ _, rfl⟩
    have : put M i ([] : List α) = M := by simp [put]
    rw [this]
    exact hM
  · obtain ⟨q, p, rfl, hq, hl⟩ := hD.place hD0
    rcases hM with ⟨h0, h1 | ⟨g1, cap, cur, e1, e2, e3, e4, e5, e6, e7⟩⟩
    · have := h1.1; cases this
    · injection e1 with q1 q2 q3
      injection q1 with q1
      cases q1
      subst q3
      have hcs : (fl Y D).length = m * Y.k := by rw [fl_length K, hDm]
      have hfit : i * Y.k + (fl Y D).length ≤ cur.size := by rw [hcs, e6, ← Nat.add_mul]; exact Nat.mul_le_mul_right _ (by omega)
      have hr := run_copy_at (P := Tryz.prog) w Y.ST sT ty Y.T Y.k g (i * Y.k) dn dc ⟨q, p, none⟩ m c cur Y.T (fl Y D) K.und hsz e3 hcs hdn (fun j u hu => by rw [Addr.add_lit]; exact hl.flat K j u hu) hfit (fl_one K D)
      refine ⟨_, hr, ?_, ⟨rfl, rfl, rfl, by simp, fun b hb hs => setRow_other w g b _ hs⟩, by simp⟩
      have hpl : (put M i D).length = M.length := put_length (by omega)
      refine ⟨by rw [fl_length K], .inr ⟨g, cp, _, ?_, e2, setRow_heap w g cur _ Y.T (0, 0) e3, ?_, e5, ?_, ?_⟩⟩
      · rw [hpl, ← q2]
      · rw [hpl]; exact e4
      · rw [List.size_toArray, ← e6]
        simp only [List.length_append, List.length_take, List.length_drop, Array.length_toList]
        omega
      · rw [hpl, fl_put K (by omega), ← e7]
        have hfit2 : i * Y.k + (fl Y D).length ≤ M.length * Y.k := by rw [hcs, ← Nat.add_mul]; exact Nat.mul_le_mul_right _ (by omega)
        exact splice_take hfit2
theorem copyYc (K : Y.Ok) (w : World) {ops : Array Oper} {rest : List Oper} {o : Oper} {a : Act} {Q : Exit → Act → World → Prop} (hgd : o.guard = none) (d s : Operand) (sT : TypeId)
    (ho : o.op = .call { callee := .builtin .copy, args := #[d, s], argTypes := #[Y.ST, sT] }) (B g dn dc i n cp c m : Nat) (ad : Option Addr) (M D : List α)
    (hd : a.eval d = .slice (some ⟨g, i * Y.k, none⟩) dn dc) (hs : a.eval s = .slice ad m c) (hM : OwnY Y B w (.slice (some ⟨g, 0, none⟩) n cp) M) (hD : SlY Y w ad m c D) (hi : i + m ≤ n) (hdn : m ≤ dn)
    (h : ∀ w', OwnY Y B w' (.slice (some ⟨g, 0, none⟩) n cp) (put M i D) → Upd (· = g) w w' → w'.heap.size = w.heap.size → wpList Tryz.prog ops Q rest (a.put o.dst (goInt m)) w') : wpList Tryz.prog ops Q (o :: rest) a w := by
  refine wpList_plain hgd fun K' hK' => ?_
  obtain ⟨w', hr, h1, h2, h3⟩ := run_copyYc K w sT o.type B g dn dc i n cp c m ad M D hM hD hi hdn
  unfold Oper.wp execOp
  simp only [ho, resolve, invoke, builtin, Sem.run_bind, Sem.run_pure, Result.andThen_ok, List.map_toArray, List.map_cons, List.map_nil, hd, hs, hr]
  exact hK' _ _ (h w' h1 h2 h3)
/-- The same at an operation of a region that draws its order. -/
theorem stepcopyYc (K : Y.Ok) {ops : Array Oper} {o : Oper} {a : Act} {w : World} {K' : Act → World → Prop} {Q : Exit → Act → World → Prop} {E : Prop} (hg : o.guard = none) (d s : Operand) (sT : TypeId)
    (ho : o.op = .call { callee := .builtin .copy, args := #[d, s], argTypes := #[Y.ST, sT] }) (B g dn dc i n cp c m : Nat) (ad : Option Addr) (M D : List α)
    (hd : a.eval d = .slice (some ⟨g, i * Y.k, none⟩) dn dc) (hs : a.eval s = .slice ad m c) (hM : OwnY Y B w (.slice (some ⟨g, 0, none⟩) n cp) M) (hD : SlY Y w ad m c D) (hi : i + m ≤ n) (hdn : m ≤ dn)
    (hk : ∀ w', OwnY Y B w' (.slice (some ⟨g, 0, none⟩) n cp) (put M i D) → Upd (· = g) w w' → w'.heap.size = w.heap.size → K' (a.put o.dst (goInt m)) w') :
    if Region.wanted o (yielded ops a.tmps) = true then Oper.wp Tryz.prog o a w K' Q else E := by
  have hw : Region.wanted o (yielded ops a.tmps) = true := by simp [Region.wanted, hg]
  rw [if_pos hw]
  obtain ⟨w', hr, h1, h2, h3⟩ := run_copyYc K w sT o.type B g dn dc i n cp c m ad M D hM hD hi hdn
  unfold Oper.wp execOp
  simp only [ho, resolve, invoke, builtin, Sem.run_bind, Sem.run_pure, Result.andThen_ok, List.map_toArray, List.map_cons, List.map_nil, hd, hs, hr]
  exact hk w' h1 h2 h3
theorem makeYs (K : Y.Ok) (w : World) {ops : Array Oper} {rest : List Oper} {o : Oper} {a : Act} {Q : Exit → Act → World → Prop} (hgd : o.guard = none) (x : Operand)
    (ho : o.op = .makeSlice Y.ST x x) (n : Nat) (hx : a.eval x = .int .i64 (n : Int)) (hm : n ≤ maxLen) (hb : n * Y.by_ ≤ 281474976710656)
    (h : ∀ w', OwnY Y w.heap.size w' (.slice (some ⟨w.heap.size, 0, none⟩) n n) (List.replicate n Y.z) → Below w.heap.size w w' → wpList Tryz.prog ops Q rest (a.put o.dst (.slice (some ⟨w.heap.size, 0, none⟩) n n)) w') : wpList Tryz.prog ops Q (o :: rest) a w := by
  obtain ⟨zv, hinfo, hzc⟩ := K.info
  obtain ⟨i0, hi, hz0, hz1, hz2⟩ := info_parts hinfo
  unfold maxLen at hm
  have hsz : (i0.bytes : Int) * (n : Int) ≤ 281474976710656 := by
    have h : ((n * Y.by_ : Nat) : Int) ≤ 281474976710656 := by omega
    rw [Int.natCast_mul, Int.mul_comm] at h
    rw [hz2]
    omega
  have hr := run_make (P := Tryz.prog) w Y.ST Y.T i0 zv K.und hi hz0 .i64 .i64 n n (by omega) (Int.le_refl _) hsz (by omega)
  rw [Int.toNat_natCast, hz1] at hr
  refine wpList_plain hgd fun K' hK' => ?_
  unfold Oper.wp execOp
  simp only [ho, hx, Sem.run_bind, Sem.run_pure, hr, Result.andThen_ok]
  refine hK' _ _ (h _ ?_ ((Below.refl _ _).alloc (Nat.le_refl _) _))
  unfold OwnY
  rw [List.length_replicate, ← madeY K hzc]
  exact World.ownsRow_lit w _ n (Nat.le_refl _) (by unfold maxLen; omega) (size_madeCells _ _)
/-- A slice's rest from a place on. -/
theorem SlY.rest {w : World} {q o n c : Nat} {l : List α} (h : SlY Y w (some ⟨q, o, none⟩) n c l) (s : Nat) (hs : s < n) : SlY Y w (some ⟨q, o + s * Y.k, none⟩) (n - s) (c - s) (l.drop s) :=
  ⟨by rw [List.length_drop, h.len], by have := h.cap; omega, by have := h.max; omega, (fun e => by cases e), fun x hx => by
    cases hx
    rcases h.at_ _ rfl with e | ⟨q', o', e, hq, hl⟩
    · have := h.len
      rw [e] at this
      simp at this
      omega
    · cases e
      refine .inr ⟨q, _, rfl, hq, fun i y hy j u hu => ?_⟩
      rw [List.getElem?_drop] at hy
      have := hl _ _ hy j u hu
      rw [show o + s * Y.k + i * Y.k + j = o + (s + i) * Y.k + j by rw [Nat.add_mul]; omega]
      exact this⟩
theorem put_two (A R D : List α) (x : α) (i : Nat) (hA : A.length = i) (hR : R.length = D.length + 1) : put (put (A ++ R) i [x]) (i + 1) D = A ++ x :: D := by
  subst hA
  have e1 : put (A ++ R) A.length [x] = (A ++ [x]) ++ R.drop 1 := by
    unfold put
    rw [List.take_left, List.length_singleton, List.drop_append, List.drop_of_length_le (by omega), Nat.add_sub_cancel_left, List.nil_append]
  rw [e1]
  unfold put
  have h2 : (A ++ [x]).length = A.length + 1 := by simp
  rw [← h2, List.take_left, List.drop_append, List.drop_of_length_le (by omega), Nat.add_sub_cancel_left, List.nil_append, List.drop_drop, List.drop_of_length_le (by omega), List.append_nil]
  simp
/-- Where a list has the first one of which p holds; -1: nowhere. -/
def ix (p : α → Bool) (l : List α) : Int := match l.findIdx? p with
  | some i => i
  | none => -1
theorem ix_hit {p : α → Bool} {l : List α} {i : Nat} (h : i < l.length) (hp : p l[i] = true) (hn : ∀ j (hj : j < i), p (l[j]'(by omega)) = false) : ix p l = (i : Int) := by
  have : l.findIdx? p = some i := by
    rw [List.findIdx?_eq_some_iff_getElem]
    exact ⟨h, hp, fun j hj => by rw [hn j hj]; simp⟩
  rw [ix, this]
theorem ix_miss {p : α → Bool} {l : List α} (h : ∀ x ∈ l, p x = false) : ix p l = -1 := by
  have : l.findIdx? p = none := List.findIdx?_eq_none_iff.2 h
  rw [ix, this]
/-- Is a draw above another? -/
def abD (h l h' l' : Int) : Bool := decide (0 < cmpD h l h' l')
/-- The quiet walk, closed: no elaborator lays it open. -/
structure WQ (P : Program) (ops : Array Oper) (C : World → Prop) (Q : Act → Prop) (l : List Oper) (a : Act) : Prop where
  out : wpQuiet P ops C Q l a
theorem region_q9 {P : Program} {C : World → Prop} {id : Nat} {Q : Exit → Act → World → Prop} {a : Act} {w : World} {l : List Oper} (hm : P.follows .mixedOrders = true) (hB : Region.lexB .any l.toArray = true) (hC : C w.drew)
    (h : WQ P l.toArray C (fun a' => ∀ w', C w' → Q .normal a' w') l a) : (Code.region id l.toArray true).wp P Q a w :=
  wp_region_quiet (C := C) hm hB hC (by simpa using h.out)
/-- Steps of a region that draws its order and only reads, under C. -/
theorem wqv {ops : Array Oper} {rest : List Oper} {o : Oper} {a : Act} {C : World → Prop} {Q : Act → Prop} {u : Value} (hw : Region.wanted o (yielded ops a.tmps) = true) (h : ∀ v, C v → (execOp a.eval o).run Tryz.prog v = .ok (.value u) v) (hk : WQ Tryz.prog ops C Q rest (a.put o.dst u)) : WQ Tryz.prog ops C Q (o :: rest) a :=
  ⟨BigFrame.wpQuiet_want hw (fun K hK => ⟨u, fun v hv => by unfold Oper.quietAt; rw [h v hv]; exact ⟨rfl, rfl⟩, hK _ hk.out⟩)⟩
theorem wqskip {ops : Array Oper} {rest : List Oper} {o : Oper} {a : Act} {C : World → Prop} {Q : Act → Prop} (hw : Region.wanted o (yielded ops a.tmps) = false) (hk : WQ Tryz.prog ops C Q rest (a.put o.dst undef)) : WQ Tryz.prog ops C Q (o :: rest) a := ⟨BigFrame.wpQuiet_skip hw hk.out⟩
theorem wqnil {ops : Array Oper} {a : Act} {C : World → Prop} {Q : Act → Prop} (h : Q a) : WQ Tryz.prog ops C Q [] a := ⟨wpQuiet_nil h⟩
theorem wqc {ops : Array Oper} {rest : List Oper} {o : Oper} {a : Act} {C : World → Prop} {Q : Act → Prop} {fid : FuncId} {args : Array Value} {u : Value} (hw : Region.wanted o (yielded ops a.tmps) = true) (hr : ∀ v, (execOp a.eval o).run Tryz.prog v = .ok (.enter fid args) v) (hc : ∀ v, C v → Calls Tryz.prog fid args v (fun e w' => e = .returned u ∧ C w')) (hk : WQ Tryz.prog ops C Q rest (a.put o.dst u)) : WQ Tryz.prog ops C Q (o :: rest) a :=
  ⟨BigFrame.wpQuiet_want hw (fun K hK => ⟨u, fun v hv => by unfold Oper.quietAt; rw [hr v]; exact ⟨rfl, hc v hv⟩, hK _ hk.out⟩)⟩
theorem wqi {ops : Array Oper} {rest : List Oper} {o : Oper} {a : Act} {C : World → Prop} {Q : Act → Prop} {fid : FuncId} {args AS : Array Value} {u V : Value} {xs : Array Operand} {ts : Array TypeId} (hw : Region.wanted o (yielded ops a.tmps) = true) (r : Operand) (nm : String) (ho : o.op = .call { callee := .invoke r nm, args := xs, argTypes := ts }) (hx : a.eval r = V) (ha : xs.map a.eval = AS) (hm : ∀ v, (invoke (.fn (.method nm) #[]) (#[V] ++ AS)).run Tryz.prog v = .ok (.enter fid args) v) (hc : ∀ v, C v → Calls Tryz.prog fid args v (fun e w' => e = .returned u ∧ C w')) (hk : WQ Tryz.prog ops C Q rest (a.put o.dst u)) : WQ Tryz.prog ops C Q (o :: rest) a :=
  wqc (fid := fid) (args := args) (u := u) hw (fun v => by
    unfold execOp
    simp only [ho, resolve, Sem.run_bind, Sem.run_pure, Result.andThen_ok, hx, ha]
    exact hm v) hc hk

end Go.Proofs.YtcmjhaljbmhpgaaGreat
