import Derived.Test.YtgjmiemkjnnepaaHc
import Derived.Deep.MidRow
import Derived.Deep.Cut
namespace Go.Proofs.Ytgjmiemkjnnepaa
open Go.RowKit Go.Maps
open Classical
set_option linter.unusedVariables false
set_option linter.unusedSimpArgs false

/-- A message but for its lists. -/
structure Mg where
  k : Int
  nd : Int
  vw : Int
  e : En
  r : Int × Int × ByteArray
  p : Int
  cm : Int
  ls : Int
  d : Int × Int
def Mg.val (m : Mg) (s t : Value) : Value := .agg #[.int .i64 m.k, .int .i64 m.nd, .int .i64 m.vw, .int .i64 m.e.c, .int .i64 m.e.n, .int .i64 m.e.o.k, .int .i64 m.e.o.s, .string m.e.o.v, .int .i64 m.r.1, .int .i64 m.r.2.1, .string m.r.2.2, .int .i64 m.p, .int .i64 m.cm, .int .i64 m.ls, .int .u64 m.d.1, .int .u64 m.d.2, s, t]
def Mg.cs (m : Mg) (s t : Value) : List Value := [.int .i64 m.k, .int .i64 m.nd, .int .i64 m.vw, .int .i64 m.e.c, .int .i64 m.e.n, .int .i64 m.e.o.k, .int .i64 m.e.o.s, .string m.e.o.v, .int .i64 m.r.1, .int .i64 m.r.2.1, .string m.r.2.2, .int .i64 m.p, .int .i64 m.cm, .int .i64 m.ls, .int .u64 m.d.1, .int .u64 m.d.2, s, t]
/-- A message that lies in a block of its own. -/
structure MBox (w : World) (q : Nat) (m : Mg) (s t : Value) : Prop where
  lt : q < w.heap.size
  kind : ∃ c f, w.heap[q]? = some (.cells c 36 f)
  cell : ∀ i x, (m.cs s t)[i]? = some x → w.cell? ⟨q, i, none⟩ = some x
  free : ∀ i, w.frozen? ⟨q, i, none⟩ = false
theorem MBox.upd {S : Nat → Prop} {w w' : World} {q : Nat} {m : Mg} {s t : Value} (h : MBox w q m s t) (u : Upd S w w') (hs : ¬ S q) : MBox w' q m s t := by
  have hb := u.block q h.lt hs
  exact ⟨Nat.lt_of_lt_of_le h.lt u.size, by rw [hb]; exact h.kind, fun i x hx => (u.cell (p := ⟨q, i, none⟩) h.lt hs).trans (h.cell i x hx), fun i => (u.frozen (p := ⟨q, i, none⟩) h.lt hs).trans (h.free i)⟩
theorem MBox.bel {w w' : World} {q : Nat} {m : Mg} {s t : Value} (h : MBox w q m s t) (hb : Below w.heap.size w w') : MBox w' q m s t := h.upd (S := fun _ => False) (Upd.of_below hb) id
theorem MBox.new (w : World) (m : Mg) (s t : Value) : MBox (w.alloc (.cells (m.cs s t).toArray 36)) w.heap.size m s t := by
  refine ⟨by simp, ?_, fun i x hx => ?_, fun i => by simp⟩
  · refine ⟨(m.cs s t).toArray, (0, 0), ?_⟩
    show (w.heap.push _)[w.heap.size]? = _
    rw [Array.getElem?_push_size]
  · rw [World.cell?_alloc_at _ _ _ _ rfl, List.getElem?_toArray]
    exact hx
theorem GM.upd {S : Nat → Prop} {w w' : World} {b B : Nat} {v2 v3 v4 v5 : Value} {Da Db : List (SV (Int × Int))} {La Lb : List (SV En)} (h : GM w b B v2 v3 v4 v5 Da Db La Lb) (u : Upd S w w') (hb : ¬ S b) (hs : ∀ k c f T, w.heap[k]? = some (.cells c T f) → (T = yD.T ∨ T = yE.T ∨ T = zD.T ∨ T = zE.T) → ¬ S k) : GM w' b B v2 v3 v4 v5 Da Db La Lb := by
  have hlt : b < w.heap.size := Nat.lt_of_lt_of_le h.lt h.ltB
  have o : ∀ {α : Type} {Y : Lay α} {v : Value} {l : List α}, OwnY Y B w v l → (Y.T = yD.T ∨ Y.T = yE.T ∨ Y.T = zD.T ∨ Y.T = zE.T) → OwnY Y B w' v l := fun ho hT => ho.upd1 u (fun g hg => by
    obtain ⟨c, f, hk⟩ := ho.kind hg
    exact hs g c f _ hk hT)
  exact ⟨h.lt, Nat.le_trans h.ltB u.size, (u.cell (p := ⟨b, _, none⟩) hlt hb).trans h.c2, (u.cell (p := ⟨b, _, none⟩) hlt hb).trans h.c3, (u.cell (p := ⟨b, _, none⟩) hlt hb).trans h.c4, (u.cell (p := ⟨b, _, none⟩) hlt hb).trans h.c5, fun i => (u.frozen (p := ⟨b, _, none⟩) hlt hb).trans (h.f i), fun i h0 h1 => (u.cell (p := ⟨b, _, none⟩) hlt hb).trans (h.ce i h0 h1), o h.o2 (by simp), o h.o3 (by simp), o h.o4 (by simp), o h.o5 (by simp), h.ne2, h.ne4, fun x hx => o (h.m2 x hx) (by simp), fun x hx => o (h.m3 x hx) (by simp), fun x hx => o (h.m4 x hx) (by simp), fun x hx => o (h.m5 x hx) (by simp)⟩
theorem GM.logAt {w : World} {b B : Nat} {v2 v3 v4 v5 : Value} {Da Db : List (SV (Int × Int))} {La Lb : List (SV En)} (h : GM w b B v2 v3 v4 v5 Da Db La Lb) {g c n : Nat} {L : List En} (hm : (⟨some ⟨g, 0, none⟩, c, L ++ [mkE]⟩ : SV En) ∈ La) (hn : L.length = n) : SlY yE w (some ⟨g, 0, none⟩) n c L := (h.m4 _ hm).front kE hn
theorem GM.vecAt {w : World} {b B : Nat} {v2 v3 v4 v5 : Value} {Da Db : List (SV (Int × Int))} {La Lb : List (SV En)} (h : GM w b B v2 v3 v4 v5 Da Db La Lb) {g c n : Nat} {L : List (Int × Int)} (hm : (⟨some ⟨g, 0, none⟩, c, L ++ [mkD]⟩ : SV (Int × Int)) ∈ Da) (hn : L.length = n) : SlY yD w (some ⟨g, 0, none⟩) n c L := (h.m2 _ hm).front kD hn
theorem hM : ∀ T : TypeId, T = yD.T ∨ T = yE.T ∨ T = zD.T ∨ T = zE.T → T ≠ 36 := by
  rintro T (rfl | rfl | rfl | rfl) <;> decide
theorem MBox.all {w : World} {q : Nat} {m : Mg} {s t : Value} (h : MBox w q m s t) : w.cell? ⟨q, 0, none⟩ = some (.int .i64 m.k) ∧ w.cell? ⟨q, 1, none⟩ = some (.int .i64 m.nd) ∧ w.cell? ⟨q, 2, none⟩ = some (.int .i64 m.vw) ∧ w.cell? ⟨q, 3, none⟩ = some (.int .i64 m.e.c) ∧ w.cell? ⟨q, 4, none⟩ = some (.int .i64 m.e.n) ∧ w.cell? ⟨q, 5, none⟩ = some (.int .i64 m.e.o.k) ∧ w.cell? ⟨q, 6, none⟩ = some (.int .i64 m.e.o.s) ∧ w.cell? ⟨q, 7, none⟩ = some (.string m.e.o.v) ∧ w.cell? ⟨q, 8, none⟩ = some (.int .i64 m.r.1) ∧ w.cell? ⟨q, 9, none⟩ = some (.int .i64 m.r.2.1) ∧ w.cell? ⟨q, 10, none⟩ = some (.string m.r.2.2) ∧ w.cell? ⟨q, 11, none⟩ = some (.int .i64 m.p) ∧ w.cell? ⟨q, 12, none⟩ = some (.int .i64 m.cm) ∧ w.cell? ⟨q, 13, none⟩ = some (.int .i64 m.ls) ∧ w.cell? ⟨q, 14, none⟩ = some (.int .u64 m.d.1) ∧ w.cell? ⟨q, 15, none⟩ = some (.int .u64 m.d.2) ∧ w.cell? ⟨q, 16, none⟩ = some (s) ∧ w.cell? ⟨q, 17, none⟩ = some (t) :=
  ⟨h.cell 0 _ rfl, h.cell 1 _ rfl, h.cell 2 _ rfl, h.cell 3 _ rfl, h.cell 4 _ rfl, h.cell 5 _ rfl, h.cell 6 _ rfl, h.cell 7 _ rfl, h.cell 8 _ rfl, h.cell 9 _ rfl, h.cell 10 _ rfl, h.cell 11 _ rfl, h.cell 12 _ rfl, h.cell 13 _ rfl, h.cell 14 _ rfl, h.cell 15 _ rfl, h.cell 16 _ rfl, h.cell 17 _ rfl⟩
def zM : Mg := ⟨0, 0, 0, ⟨0, 0, ⟨0, 0, ⟨#[]⟩⟩⟩, (0, 0, ⟨#[]⟩), 0, 0, 0, (0, 0)⟩
theorem setc_kind {w : World} {q k i : Nat} {u : Value} {c : Array Value} {T : TypeId} {f : Nat × Nat} (h : w.heap[q]? = some (.cells c T f)) : ∃ c f, (w.setCell ⟨k, i, none⟩ u).heap[q]? = some (.cells c T f) := by
  by_cases e : q = k
  · subst e
    have hlt := (Array.getElem?_eq_some_iff.1 h).1
    have h' : w.heap[q] = .cells c T f := (Array.getElem?_eq_some_iff.1 h).2
    refine ⟨c.setIfInBounds i u, f, ?_⟩
    show (w.heap.modify q _)[q]? = _
    rw [Array.getElem?_eq_getElem (by simpa using hlt), Array.getElem_modify_self, h']
    rfl
  · rw [Below.heap_setCell _ _ _ _ e]
    exact ⟨_, _, h⟩
theorem MBox.set {w : World} {q : Nat} {m : Mg} {s t : Value} (h : MBox w q m s t) (j : Nat) (u s' t' : Value) (m' : Mg) (hj : j < 18) (hc : m'.cs s' t' = (m.cs s t).set j u) : MBox (w.setCell ⟨q, j, none⟩ u) q m' s' t' := by
  obtain ⟨c, f, hk⟩ := h.kind
  refine ⟨by simpa [World.setCell] using h.lt, setc_kind hk, fun i x hx => ?_, fun i => setf (h.free i)⟩
  rw [hc] at hx
  have hl : (m.cs s t).length = 18 := rfl
  by_cases e : i = j
  · subst e
    rw [List.getElem?_set_self (by omega)] at hx
    cases hx
    exact setc_eq (h.cell i _ (List.getElem?_eq_getElem (by omega)))
  · rw [List.getElem?_set_ne (fun e' => e e'.symm)] at hx
    exact setc_ne (h.cell i x hx) e
/-- Cells of one block, one behind the other. -/
def sets (w : World) (b : Nat) : Nat → List Value → World
  | _, [] => w
  | i, v :: r => sets (w.setCell ⟨b, i, none⟩ v) b (i + 1) r
theorem OwnY.sets {α : Type} {Y : Lay α} {B b : Nat} {v : Value} {l : List α} (hb : b < B) : ∀ (vs : List Value) (i : Nat) (w : World), OwnY Y B w v l → OwnY Y B (sets w b i vs) v l
  | [], _, _, h => h
  | u :: r, i, w, h => OwnY.sets hb r (i + 1) _ (h.low_set (p := ⟨b, i, none⟩) hb u)
theorem below_sets {B b : Nat} {w0 : World} (hb : B ≤ b) : ∀ (vs : List Value) (i : Nat) (w : World), Below B w0 w → Below B w0 (sets w b i vs)
  | [], _, _, h => h
  | u :: r, i, w, h => below_sets hb r (i + 1) _ (h.setCell (p := ⟨b, i, none⟩) hb u)
theorem upd_sets {S : Nat → Prop} {b : Nat} {w0 : World} (hb : S b) : ∀ (vs : List Value) (i : Nat) (w : World), Upd S w0 w → Upd S w0 (sets w b i vs)
  | [], _, _, h => h
  | u :: r, i, w, h => upd_sets hb r (i + 1) _ (h.setCell (p := ⟨b, i, none⟩) (.inl hb) u)
theorem size_sets (b : Nat) : ∀ (vs : List Value) (i : Nat) (w : World), (sets w b i vs).heap.size = w.heap.size
  | [], _, _ => rfl
  | u :: r, i, w => (size_sets b r (i + 1) _).trans (by simp [World.setCell])
theorem sets_kind {q b : Nat} {T : TypeId} : ∀ (vs : List Value) (i : Nat) (w : World), (∃ c f, w.heap[q]? = some (.cells c T f)) → ∃ c f, (sets w b i vs).heap[q]? = some (.cells c T f)
  | [], _, _, h => h
  | u :: r, i, w, ⟨c, f, h⟩ => sets_kind r (i + 1) _ (setc_kind h)
theorem setf' {w : World} {q b i j : Nat} {u : Value} (h : w.frozen? ⟨q, i, none⟩ = false) : (w.setCell ⟨b, j, none⟩ u).frozen? ⟨q, i, none⟩ = false := by
  go_simp
theorem sets_free {q b j : Nat} : ∀ (vs : List Value) (i : Nat) (w : World), w.frozen? ⟨q, j, none⟩ = false → (sets w b i vs).frozen? ⟨q, j, none⟩ = false
  | [], _, _, h => h
  | u :: r, i, w, h => sets_free r (i + 1) _ (setf' h)
theorem sets_low {b j : Nat} {x : Value} : ∀ (vs : List Value) (i : Nat) (w : World), j < i → w.cell? ⟨b, j, none⟩ = some x → (sets w b i vs).cell? ⟨b, j, none⟩ = some x
  | [], _, _, _, h => h
  | u :: r, i, w, hj, h => sets_low r (i + 1) _ (by omega) (setc_ne h (by omega))
theorem sets_at {b : Nat} : ∀ (vs : List Value) (i : Nat) (w : World), (∀ k, k < vs.length → ∃ y, w.cell? ⟨b, i + k, none⟩ = some y) → ∀ k x, vs[k]? = some x → (sets w b i vs).cell? ⟨b, i + k, none⟩ = some x
  | [], _, _, _, k, x, hx => by simp at hx
  | u :: r, i, w, h, 0, x, hx => by
    simp at hx
    subst hx
    obtain ⟨y, hy⟩ := h 0 (by simp)
    exact sets_low r (i + 1) _ (by omega) (setc_eq hy)
  | u :: r, i, w, h, k + 1, x, hx => by
    have := sets_at r (i + 1) (w.setCell ⟨b, i, none⟩ u) (fun m hm => by
      obtain ⟨y, hy⟩ := h (m + 1) (by simpa using hm)
      rw [show i + (m + 1) = i + 1 + m by omega] at hy
      exact ⟨y, setc_ne hy (by omega)⟩) k x (by simpa using hx)
    rw [show i + 1 + k = i + (k + 1) by omega] at this
    exact this
/-- A whole message put into a block. -/
theorem MBox.put {w : World} {q : Nat} {m : Mg} {s t : Value} (h : MBox w q m s t) (m' : Mg) (s' t' : Value) : MBox (sets w q 0 (m'.cs s' t')) q m' s' t' := by
  refine ⟨by rw [size_sets]; exact h.lt, sets_kind _ _ _ h.kind, fun i x hx => ?_, fun i => sets_free _ _ _ (h.free i)⟩
  have := sets_at (b := q) (m'.cs s' t') 0 w (fun k hk => ⟨_, by rw [Nat.zero_add]; exact h.cell k _ (List.getElem?_eq_getElem (show k < (m.cs s t).length from hk))⟩) i x hx
  rw [Nat.zero_add] at this
  exact this
theorem MBox.log {w : World} {q : Nat} {m : Mg} {s t : Value} (h : MBox w q m s t) (u : Value) : MBox (w.setCell ⟨q, 16, none⟩ u) q m u t := h.set 16 u u t m (by omega) rfl
theorem MBox.vec {w : World} {q : Nat} {m : Mg} {s t : Value} (h : MBox w q m s t) (u : Value) : MBox (w.setCell ⟨q, 17, none⟩ u) q m s u := h.set 17 u s u m (by omega) rfl
theorem MBox.other {w : World} {q : Nat} {m : Mg} {s t : Value} (h : MBox w q m s t) {k j : Nat} (hk : q ≠ k) (u : Value) : MBox (w.setCell ⟨k, j, none⟩ u) q m s t := h.upd (S := fun x => x = k) ((Upd.refl (fun x => x = k) w).setCell (p := ⟨k, j, none⟩) (.inl rfl) u) hk
theorem setCells_sets (b : Nat) : ∀ (vs : List Value) (i : Nat) (w : World), w.setCells b i vs = sets w b i vs
  | [], _, _ => rfl
  | u :: r, i, w => by rw [World.setCells, sets, setCells_sets b r (i + 1)]
theorem Mg.val_eq (m : Mg) (s t : Value) : m.val s t = .agg (m.cs s t).toArray := rfl
/-- A message's value is boxed. -/
theorem boxM {ops : Array Oper} {rest : List Oper} {o : Oper} {a : Act} {w : World} {Q : Exit → Act → World → Prop} (hgd : o.guard = none) (x : Operand) (ho : o.op = .box 36 x) (m : Mg) (s t : Value) (hx : a.eval x = m.val s t)
    (hk : wpList Try.prog ops Q rest (a.put o.dst (.pointer (some ⟨w.heap.size, 0, none⟩))) (w.alloc (.cells (m.cs s t).toArray 36))) : wpList Try.prog ops Q (o :: rest) a w := by
  refine wpList_plain hgd fun K hK => ?_
  unfold Oper.wp execOp
  simp only [ho, hx, Mg.val_eq]
  exact hK _ _ hk
theorem loadM {ops : Array Oper} {rest : List Oper} {o : Oper} {a : Act} {w : World} {Q : Exit → Act → World → Prop} (hgd : o.guard = none) (x : Operand) (ho : o.op = .load 36 x) (q : Nat) (m : Mg) (s t : Value) (hx : a.eval x = .pointer (some ⟨q, 0, none⟩)) (h : MBox w q m s t)
    (hk : wpList Try.prog ops Q rest (a.put o.dst (m.val s t)) w) : wpList Try.prog ops Q (o :: rest) a w :=
  wpList_load_mid hgd 36 x ho q 0 hx (m.cs s t) _ (fun j v hv => by rw [Nat.zero_add]; exact h.cell j v hv) Try.underlying36 rfl (by kernel_rfl) hk
theorem run_storeM {w : World} {q : Nat} {m : Mg} {s t : Value} (h : MBox w q m s t) (m' : Mg) (s' t' : Value) (h1 : s'.oneCell' = true) (h2 : t'.oneCell' = true) : (Instr.storeAt 36 (.pointer (some ⟨q, 0, none⟩)) (m'.val s' t')).run Try.prog w = .ok () (sets w q 0 (m'.cs s' t')) := by
  have := run_storeAt_mid (P := Try.prog) w q 0 36 (m'.cs s' t').toArray (fun j hj => ⟨by rw [Nat.zero_add, h.cell j _ (List.getElem?_eq_getElem (show j < (m.cs s t).length from hj))]; rfl, by rw [Nat.zero_add]; exact h.free j⟩) (by kernel_rfl) (all_oneCell_toArray (by
    intro v hv
    simp only [Mg.cs, List.mem_cons, List.not_mem_nil, or_false] at hv
    rcases hv with rfl | rfl | rfl | rfl | rfl | rfl | rfl | rfl | rfl | rfl | rfl | rfl | rfl | rfl | rfl | rfl | rfl | rfl <;> first | rfl | exact h1 | exact h2))
  rw [setCells_sets] at this
  exact this
theorem storeM {ops : Array Oper} {rest : List Oper} {o : Oper} {a : Act} {w : World} {Q : Exit → Act → World → Prop} (hgd : o.guard = none) (x y : Operand) (ho : o.op = .store 36 x y) (q : Nat) (m m' : Mg) (s t s' t' : Value) (hx : a.eval x = .pointer (some ⟨q, 0, none⟩)) (hy : a.eval y = m'.val s' t') (h : MBox w q m s t) (h1 : s'.oneCell' = true) (h2 : t'.oneCell' = true)
    (hk : ∀ w', w' = sets w q 0 (m'.cs s' t') → MBox w' q m' s' t' → Upd (fun b => b = q) w w' → w'.heap.size = w.heap.size → wpList Try.prog ops Q rest (a.put o.dst undef) w') : wpList Try.prog ops Q (o :: rest) a w := by
  refine wpList_plain hgd fun K hK => ?_
  unfold Oper.wp execOp
  simp only [ho, hx, hy, Sem.run_bind, Sem.run_pure, Result.andThen_ok, run_storeM h m' s' t' h1 h2]
  exact hK _ _ (hk _ rfl (h.put m' s' t') (upd_sets (S := fun b => b = q) (b := q) rfl _ _ _ (Upd.refl _ _)) (size_sets _ _ _ _))
/-- A result that is a message. -/
theorem results_msg {fn : Func} {i : Tmp} {q : Nat} {m : Mg} {s t : Value} {tmps : Array Value} {w : World} (h : fn.results = #[.cell i 36]) (hq : tmps.getD i undef = .pointer (some ⟨q, 0, none⟩)) (hb : MBox w q m s t) : (results fn tmps).run Try.prog w = .ok (m.val s t) w := by
  have := run_loadVar_mid (P := Try.prog) w q 0 36 (m.cs s t) _ (fun j v hv => by rw [Nat.zero_add]; exact hb.cell j v hv) Try.underlying36 rfl (by kernel_rfl)
  simp only [results, h]
  simp only [Array.getD_eq_getD_getElem?] at hq
  simp [Sem.run_bind, Result.andThen, hq, asAddr, this]
  rfl

end Go.Proofs.Ytgjmiemkjnnepaa
