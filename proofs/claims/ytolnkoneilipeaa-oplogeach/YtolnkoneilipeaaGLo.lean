import Derived.Test.YtolnkoneilipeaaLb
import Derived.Test.YtolnkoneilipeaaCx
import Derived.ChangeOld
import Derived.ProofKit
import Derived.OpenShut
import Derived.Deep.SlicePairs
import Derived.SizedLaws
import Derived.Test.YtolnkoneilipeaaGMa
import Derived.Laws.AppendOwnNone
namespace Go.Proofs.Ytolnkoneilipeaa
open Go.ChangeShapes Go.WideShapes Go.ChangeAt Go.RowKit
open Classical
set_option linter.unusedVariables false

/-- Operations that came in. -/
def CameO (W : World) (a : Option Addr) (len cap : Nat) : Prop := ∃ P : List Opn, P.length = len ∧ Ops W a P ∧ (∀ p ∈ P, p.fits) ∧ len * 32 ≤ 140737488351232 ∧ len ≤ cap ∧ cap ≤ maxLen
end Go.Proofs.Ytolnkoneilipeaa

namespace Go.Proofs.Ytolnkoneilipeaa
open Go.RowKit
set_option linter.unusedVariables false

/-- Three cells at a block. -/
def At3 (w : World) (g : Nat) (a b : Int) (c : ByteArray) : Prop := w.cell? ⟨g, 0, none⟩ = some (.int .i64 a) ∧ w.cell? ⟨g, 1, none⟩ = some (.int .i64 b) ∧ w.cell? ⟨g, 2, none⟩ = some (.string c)
theorem At3.new (w : World) (a b : Int) (c : ByteArray) (T : TypeId) : At3 (w.alloc (.cells #[.int .i64 a, .int .i64 b, .string c] T)) w.heap.size a b c := by
  refine ⟨?_, ?_, ?_⟩
  all_goals go_simp
theorem At3.on {w w' : World} {g : Nat} {a b : Int} {c : ByteArray} (h : At3 w g a b c) {B : Nat} (hb : Below B w w') (hg : g < B) : At3 w' g a b c :=
  ⟨(hb.cell (p := ⟨g, 0, none⟩) hg).trans h.1, (hb.cell (p := ⟨g, 1, none⟩) hg).trans h.2.1, (hb.cell (p := ⟨g, 2, none⟩) hg).trans h.2.2⟩
end Go.Proofs.Ytolnkoneilipeaa

namespace Go.Proofs.Ytolnkoneilipeaa
open Go.RowKit
set_option linter.unusedVariables false
set_option linter.unusedSimpArgs false

/-- Rows of triples: operations, results. -/
structure Ty3 (T ST : TypeId) : Prop where
  und : Try.prog.underlying ST = some (.slice T)
  info : (Try.prog.info? T).map (fun i => (i.zero, i.size, i.bytes)) = some (some (.agg #[.int .i64 0, .int .i64 0, .string ByteArray.empty]), 3, 32)
def rcs : List Rs → List Value
  | [] => []
  | d :: r => .int .i64 d.1 :: .int .i64 d.2.1 :: .string d.2.2 :: rcs r
theorem rcs_length : ∀ l : List Rs, (rcs l).length = l.length * 3
  | [] => rfl
  | d :: r => by simp only [rcs, List.length_cons, rcs_length r]; omega
theorem rcs_append : ∀ l m : List Rs, rcs (l ++ m) = rcs l ++ rcs m
  | [], m => rfl
  | d :: r, m => by simp only [rcs, List.cons_append, rcs_append r m]
theorem rcs_get : ∀ (l : List Rs) (i : Nat) (d : Rs), l[i]? = some d → (rcs l)[i * 3]? = some (.int .i64 d.1) ∧ (rcs l)[i * 3 + 1]? = some (.int .i64 d.2.1) ∧ (rcs l)[i * 3 + 2]? = some (.string d.2.2)
  | [], i, d, h => by simp at h
  | x :: r, 0, d, h => by simp at h; subst h; simp [rcs]
  | x :: r, i + 1, d, h => by
    have e : (i + 1) * 3 = i * 3 + 1 + 1 + 1 := by omega
    have h' : r[i]? = some d := by simpa using h
    obtain ⟨h0, h1, h2⟩ := rcs_get r i d h'
    rw [e, show i * 3 + 1 + 1 + 1 + 1 = (i * 3 + 1) + 1 + 1 + 1 by omega, show i * 3 + 1 + 1 + 1 + 2 = (i * 3 + 2) + 1 + 1 + 1 by omega]
    simp only [rcs, List.getElem?_cons_succ]
    exact ⟨h0, h1, h2⟩
theorem rcs_one : ∀ (l : List Rs) (u : Value), u ∈ rcs l → u.oneCell' = true
  | [], u, h => by cases h
  | d :: r, u, h => by
    simp only [rcs, List.mem_cons] at h
    rcases h with rfl | rfl | rfl | h
    · rfl
    · rfl
    · rfl
    · exact rcs_one r u h
theorem rcs_set : ∀ (l : List Rs) (k : Nat) (x : Rs), rcs (l.set k x) = (((rcs l).set (k * 3) (.int .i64 x.1)).set (k * 3 + 1) (.int .i64 x.2.1)).set (k * 3 + 2) (.string x.2.2)
  | [], k, x => by simp [rcs]
  | d :: r, 0, x => by simp [rcs]
  | d :: r, k + 1, x => by
    have e : (k + 1) * 3 = k * 3 + 1 + 1 + 1 := by omega
    rw [e, show k * 3 + 1 + 1 + 1 + 1 = (k * 3 + 1) + 1 + 1 + 1 by omega, show k * 3 + 1 + 1 + 1 + 2 = (k * 3 + 2) + 1 + 1 + 1 by omega]
    simp only [List.set_cons_succ, rcs, rcs_set r k x]
/-- A slice of triples of the call's own. -/
def Own3 (T : TypeId) (B : Nat) (w : World) (v : Value) (l : List Rs) : Prop := w.ownsRow B T 3 v l.length (rcs l)
variable {T ST : TypeId}
theorem Own3.nil (T : TypeId) (B : Nat) (w : World) : Own3 T B w (.slice none 0 0) [] := World.ownsRow_nil w B T 3
theorem Own3.alloc {B : Nat} {w : World} {v : Value} {l : List Rs} (h : Own3 T B w v l) (o : Obj) : Own3 T B (w.alloc o) v l := World.ownsRow.alloc h o
theorem Own3.form {B : Nat} {w : World} {v : Value} {l : List Rs} (h : Own3 T B w v l) : ∃ a c, v = .slice a l.length c ∧ l.length ≤ c ∧ c ≤ maxLen ∧ (a = none → l = [] ∧ c = 0) ∧ ∀ x, a = some x → ∃ g, x = ⟨g, 0, none⟩ ∧ B ≤ g ∧ g < w.heap.size := by
  rcases h.2 with ⟨e1, e2⟩ | ⟨g, cap, cur, e1, e2, e3, e4, e5, _⟩
  · exact ⟨none, 0, by rw [e1, e2], by omega, by unfold maxLen; omega, fun _ => ⟨List.eq_nil_of_length_eq_zero e2, rfl⟩, fun x hx => by cases hx⟩
  · refine ⟨some ⟨g, 0, none⟩, cap, e1, e4, e5, (fun hx => by cases hx), fun x hx => ?_⟩
    cases hx
    exact ⟨g, rfl, e2, (Array.getElem?_eq_some_iff.1 e3).1⟩
theorem Own3.cell {B : Nat} {w : World} {g n c : Nat} {l : List Rs} (h : Own3 T B w (.slice (some ⟨g, 0, none⟩) n c) l) (i : Nat) (d : Rs) (hd : l[i]? = some d) : w.cell? ⟨g, i * 3, none⟩ = some (.int .i64 d.1) ∧ w.cell? ⟨g, i * 3 + 1, none⟩ = some (.int .i64 d.2.1) ∧ w.cell? ⟨g, i * 3 + 2, none⟩ = some (.string d.2.2) := by
  obtain ⟨g0, g1, g2⟩ := rcs_get l i d hd
  have h0 := World.ownsRow.cells h (g := g) rfl _ _ g0
  have h1 := World.ownsRow.cells h (g := g) rfl _ _ g1
  have h2 := World.ownsRow.cells h (g := g) rfl _ _ g2
  rw [Addr.add_lit, Nat.zero_add] at h0 h1 h2
  exact ⟨h0, h1, h2⟩
theorem Own3.upd1 {S : Nat → Prop} {B : Nat} {w w' : World} {v : Value} {l : List Rs} (h : Own3 T B w v l) (u : Upd S w w') (hs : ∀ g, v.ownBlock = some g → ¬ S g) : Own3 T B w' v l := by
  obtain ⟨h1, h2⟩ := h
  refine ⟨h1, ?_⟩
  rcases h2 with h2 | ⟨g, cap, cur, e1, e2, e3, r⟩
  · exact .inl h2
  · refine .inr ⟨g, cap, cur, e1, e2, ?_, r⟩
    rw [u.block g (Array.getElem?_eq_some_iff.1 e3).1 (hs g (by rw [e1]; rfl))]
    exact e3
theorem Own3.grow {B : Nat} {w w' : World} {v : Value} {l : List Rs} (h : Own3 T B w v l) (hb : Below w.heap.size w w') : Own3 T B w' v l := h.upd1 (S := fun _ => False) (Upd.of_below hb) (fun _ _ => id)
theorem Own3.low {B B' : Nat} {w : World} {v : Value} {l : List Rs} (h : Own3 T B w v l) (hb : B' ≤ B) : Own3 T B' w v l := by
  obtain ⟨h1, h2⟩ := h
  refine ⟨h1, ?_⟩
  rcases h2 with h2 | ⟨g, cap, cur, e1, e2, r⟩
  · exact .inl h2
  · exact .inr ⟨g, cap, cur, e1, Nat.le_trans hb e2, r⟩
theorem Own3.set {B : Nat} {w : World} {g n c : Nat} {l : List Rs} (h : Own3 T B w (.slice (some ⟨g, 0, none⟩) n c) l) (k : Nat) (x : Rs) :
    Own3 T B (((w.setCell ⟨g, k * 3, none⟩ (.int .i64 x.1)).setCell ⟨g, k * 3 + 1, none⟩ (.int .i64 x.2.1)).setCell ⟨g, k * 3 + 2, none⟩ (.string x.2.2)) (.slice (some ⟨g, 0, none⟩) n c) (l.set k x) := by
  obtain ⟨a, c', e, _⟩ := h.form
  injection e with e1 e2 e3
  unfold Own3 at *
  rw [← e2] at h
  rw [rcs_set, List.length_set, ← e2]
  exact (((World.ownsRow.stored h (k * 3) _).1.stored (k * 3 + 1) _).1.stored (k * 3 + 2) _).1
theorem Own3.free {B : Nat} {w : World} {g n c : Nat} {l : List Rs} (h : Own3 T B w (.slice (some ⟨g, 0, none⟩) n c) l) (j : Nat) : w.frozen? ⟨g, j, none⟩ = false := by
  obtain ⟨a, c', e, _⟩ := h.form
  injection e with e1 e2 e3
  unfold Own3 at h
  rw [← e2] at h
  exact World.ownsRow.frozenAt h j
theorem own3_cells_ne {B B' : Nat} {w : World} {v v' : Value} {l : List Rs} {L : List Cl} (h : Own3 T B w v l) (h' : OwnC B' w v' L) (hT : T ≠ 29) : ∀ g, v'.ownBlock = some g → v.ownBlock ≠ some g := by
  intro g e1 e2
  rcases h.2 with ⟨e, _⟩ | ⟨g1, _, _, e, _, hb, _⟩
  · rw [e] at e2; cases e2
  · rw [e] at e2
    cases e2
    rcases h'.2 with ⟨e', _⟩ | ⟨g2, _, _, e', _, hb', _⟩
    · rw [e'] at e1; cases e1
    · rw [e'] at e1
      cases e1
      rw [hb] at hb'
      cases hb'
      exact hT rfl
/-- 'append' of one triple. -/
theorem app3 (ty : Ty3 T ST) (w : World) {ops : Array Oper} {rest : List Oper} {o : Oper} {a : Act} {Q : Exit → Act → World → Prop} (hgd : o.guard = none) (s x : Operand)
    (ho : o.op = .call { callee := .builtin .append, args := #[s, x], argTypes := #[ST, ST] }) (B : Nat) (l : List Rs) (v : Value) (hs : a.eval s = v)
    (ad : Addr) (m c : Nat) (hx : a.eval x = .slice (some ad) m c) (news : List Rs) (hm : news.length = m) (hn : ∀ j u, (rcs news)[j]? = some u → w.cell? (ad.add j) = some u) (hown : Own3 T B w v l) (hB : B ≤ w.heap.size) (hb : (l.length + m) * 32 ≤ 140737488355328)
    (hk : ∀ v' w', Own3 T B w' v' (l ++ news) → w.grownBy w' v.ownBlock → wpList Try.prog ops Q rest (a.put o.dst v') w') : wpList Try.prog ops Q (o :: rest) a w := by
  obtain ⟨i0, hi, hz0, hz1, hz2⟩ := info_parts ty.info
  refine wpList_plain hgd fun K hK => ?_
  obtain ⟨v', w', hr, h2, h3, h4⟩ := run_append_own (P := Try.prog) w B ST o.type T i0 (.agg #[.int .i64 0, .int .i64 0, .string ByteArray.empty]) 3 32 ty.und hi hz0 hz1 hz2 rfl (by decide) v l.length (rcs l) hown ad m c (rcs news) (by rw [rcs_length, hm]) hn (rcs_one news) (by unfold maxLen; omega) hb hB
  unfold Oper.wp execOp
  simp only [ho, resolve, invoke, builtin, Sem.run_bind, Sem.run_pure, Result.andThen_ok, List.map_toArray, List.map_cons, List.map_nil, hs, hx, hr]
  refine hK _ _ (hk v' w' ?_ h3)
  unfold Own3
  rw [rcs_append, List.length_append, hm]
  exact h2
theorem app3_none (ty : Ty3 T ST) (w : World) {ops : Array Oper} {rest : List Oper} {o : Oper} {a : Act} {Q : Exit → Act → World → Prop} (hgd : o.guard = none) (s x : Operand)
    (ho : o.op = .call { callee := .builtin .append, args := #[s, x], argTypes := #[ST, ST] }) (B : Nat) (l : List Rs) (v : Value) (hs : a.eval s = v) (hx : a.eval x = .slice none 0 0) (hown : Own3 T B w v l)
    (hk : wpList Try.prog ops Q rest (a.put o.dst v) w) : wpList Try.prog ops Q (o :: rest) a w := by
  obtain ⟨i0, hi, hz0, hz1, hz2⟩ := info_parts ty.info
  exact wpList_append_own_none hgd s x ST ho B T i0 3 ty.und hi v l.length (rcs l) hs hown hx hk
theorem made3 (n : Nat) : (madeCells (Value.agg #[.int .i64 0, .int .i64 0, .string ByteArray.empty]).cells (n * 3)).toList = rcs (List.replicate n (0, 0, ByteArray.empty)) := by
  have e : ∀ (m i : Nat), i < m * 3 → (rcs (List.replicate m (0, 0, ByteArray.empty)))[i]? = some (if i % 3 = 2 then .string ByteArray.empty else .int .i64 0) := by
    intro m i hi
    have hg : (List.replicate m ((0 : Int), (0 : Int), ByteArray.empty))[i / 3]? = some (0, 0, ByteArray.empty) := List.getElem?_replicate_of_lt (by omega)
    obtain ⟨h0, h1, h2⟩ := rcs_get _ _ _ hg
    rcases (by omega : i % 3 = 0 ∨ i % 3 = 1 ∨ i % 3 = 2) with h | h | h
    · rw [show i / 3 * 3 = i by omega] at h0
      rw [h0]; simp [h]
    · rw [show i / 3 * 3 + 1 = i by omega] at h1
      rw [h1]; simp [h]
    · rw [show i / 3 * 3 + 2 = i by omega] at h2
      rw [h2]; simp [h]
  apply List.ext_getElem?
  intro j
  by_cases hj : j < n * 3
  · rw [e n j hj]
    rcases (by omega : j % 3 = 0 ∨ j % 3 = 1 ∨ j % 3 = 2) with h | h | h <;> simp [madeCells, hj, h, Value.cells]
  · rw [List.getElem?_eq_none (by simp [madeCells]; omega), List.getElem?_eq_none (by rw [rcs_length]; simp; omega)]
theorem make3 (ty : Ty3 T ST) (w : World) {ops : Array Oper} {rest : List Oper} {o : Oper} {a : Act} {Q : Exit → Act → World → Prop} (hgd : o.guard = none) (x : Operand)
    (ho : o.op = .makeSlice ST x x) (n : Nat) (hx : a.eval x = .int .i64 (n : Int)) (hb : n * 32 ≤ 140737488355328)
    (h : ∀ w', Own3 T w.heap.size w' (.slice (some ⟨w.heap.size, 0, none⟩) n n) (List.replicate n (0, 0, ByteArray.empty)) → Below w.heap.size w w' → wpList Try.prog ops Q rest (a.put o.dst (.slice (some ⟨w.heap.size, 0, none⟩) n n)) w') : wpList Try.prog ops Q (o :: rest) a w := by
  obtain ⟨i0, hi, hz0, hz1, hz2⟩ := info_parts ty.info
  have hr := run_make (P := Try.prog) w ST T i0 (.agg #[.int .i64 0, .int .i64 0, .string ByteArray.empty]) ty.und hi hz0 .i64 .i64 n n (by omega) (Int.le_refl _) (by rw [hz2]; omega) (by omega)
  rw [Int.toNat_natCast, hz1] at hr
  refine wpList_plain hgd fun K hK => ?_
  unfold Oper.wp execOp
  simp only [ho, hx, Sem.run_bind, Sem.run_pure, hr, Result.andThen_ok]
  refine hK _ _ (h _ ?_ ((Below.refl _ _).alloc (Nat.le_refl _) _))
  unfold Own3
  rw [List.length_replicate, ← made3]
  exact World.ownsRow_lit w _ n (Nat.le_refl _) (by unfold maxLen; omega) (size_madeCells _ _)

end Go.Proofs.Ytolnkoneilipeaa

namespace Go.Proofs.Ytolnkoneilipeaa
open Go.RowKit
set_option linter.unusedVariables false

/-- The results of operations. -/
def rl (L : List Cl) : List Opn → List Rs
  | [] => []
  | o :: r => wd L o.k o.s o.v :: rl (dn L o.k o.s o.v) r
theorem rl_length (L : List Cl) : ∀ P : List Opn, (rl L P).length = P.length := by
  intro P
  induction P generalizing L with
  | nil => rfl
  | cons o r ih => simp [rl, ih]
theorem rl_snoc (L : List Cl) (P : List Opn) (o : Opn) : rl L (P ++ [o]) = rl L P ++ [wd (pl L P) o.k o.s o.v] := by
  induction P generalizing L with
  | nil => rfl
  | cons p r ih => simp only [List.cons_append, rl, ih]; rfl
theorem rl_take (L : List Cl) {P : List Opn} {i : Nat} {o : Opn} (h : P[i]? = some o) : rl L (P.take (i + 1)) = rl L (P.take i) ++ [wd (pl L (P.take i)) o.k o.s o.v] := by
  rw [List.take_add_one, h]
  exact rl_snoc _ _ _
theorem row_not_map {T : TypeId} {B : Nat} {w : World} {v : Value} {l : List Rs} {g : Nat} (h : Own3 T B w v l) (e : v.ownBlock = some g) : ∀ es c, w.heap[g]? ≠ some (.map es c) := fun es c e' => by
  rcases h.2 with ⟨e1, _⟩ | ⟨g1, _, _, e1, _, hb, _⟩
  · rw [e1] at e; cases e
  · rw [e1] at e
    cases e
    rw [e'] at hb
    cases hb
/-- Do beside a row of triples. -/
theorem do_row {T : TypeId} (B : Nat) (w0 : World) (b : Nat) (L : List Cl) (k s : Int) (v : ByteArray) (hf : (⟨k, s, v⟩ : Opn).fits) (B' : Nat) (vr : Value) (l : List Rs) (hg : ∀ g, vr.ownBlock = some g → g ≠ b) (w : World) (h : LedB B w0 w b L) (hr : Own3 T B' w vr l) : Calls Try.prog 15 #[.pointer (some ⟨b, 0, none⟩), .agg #[.int .i64 k, .int .i64 s, .string v]] w fun e w' => e = .returned (.agg #[.int .i64 (wd L k s v).1, .int .i64 (wd L k s v).2.1, .string (wd L k s v).2.2]) ∧ LedB B w0 w' b (dn L k s v) ∧ Own3 T B' w' vr l := by
  obtain ⟨m, h1, h2, h3, h4⟩ := h
  refine (do3 b m L k s v hf w h1).mono fun e w' ⟨he, t⟩ => ⟨he, LedB.took t h2 (by have := h1.lt; omega) h3 h4, hr.upd1 t.upd (fun g e => ?_)⟩
  rintro (e2 | e2)
  · exact hg g e e2
  · obtain ⟨es, c, hb, _⟩ := (h1.sm _ e2).2
    exact row_not_map hr e es c hb
end Go.Proofs.Ytolnkoneilipeaa

namespace Go.Proofs.Ytolnkoneilipeaa
open Go.RowKit
set_option linter.unusedVariables false

theorem rcs_one3 (w : World) (r : Rs) (T : TypeId) (g : Nat) (h : At3 w g r.1 r.2.1 r.2.2) : ∀ j u, (rcs [r])[j]? = some u → w.cell? ((⟨g, 0, none⟩ : Addr).add j) = some u := by
  intro j u hu
  rw [Addr.add_lit, Nat.zero_add]
  match j, hu with
  | 0, hu => simp [rcs] at hu; subst hu; exact h.1
  | 1, hu => simp [rcs] at hu; subst hu; exact h.2.1
  | 2, hu => simp [rcs] at hu; subst hu; exact h.2.2
  | j + 3, hu => simp [rcs] at hu
end Go.Proofs.Ytolnkoneilipeaa
