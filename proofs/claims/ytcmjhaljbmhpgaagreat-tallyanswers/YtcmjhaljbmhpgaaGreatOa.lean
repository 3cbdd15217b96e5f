import Derived.Test.YtcmjhaljbmhpgaaGreatCz
import Derived.Test.YtcmjhaljbmhpgaaGreatKa
import Derived.Test.YtcmjhaljbmhpgaaGreatGLc
import Derived.BigQuiet
namespace Go.Proofs.YtcmjhaljbmhpgaaGreat
open Go.RowKit Go.Shelf Go.Maps
open Classical
set_option linter.unusedVariables false
set_option linter.unusedSimpArgs false

theorem ret_int {k : IntKind} {a b : Int} (h : a = b) : Ending.returned (.int k a) = .returned (.int k b) := by rw [h]
/-- Which error an entry has, by itself. -/
def ckR (c n : Int) : Int := if c < 0 ∨ 16 ≤ c then 62 else if n < 1 then 63 else 0
def ckE (e : En) : Int := if e.c < 0 ∨ 16 ≤ e.c then 62 else if e.n < 1 then 63 else ck e.o.k e.o.s e.o.v
/-- A client's greatest number. -/
def gm : List En → Int → Int
  | [], _ => 0
  | e :: r, c => if e.c = c then max e.n (gm r c) else gm r c
theorem gm_nonneg : ∀ (L : List En) (c : Int), 0 ≤ gm L c
  | [], c => by simp [gm]
  | e :: r, c => by
    have := gm_nonneg r c
    unfold gm
    split <;> omega
theorem gm_snoc : ∀ (L : List En) (e : En) (c : Int), gm (L ++ [e]) c = if e.c = c then max (gm L c) e.n else gm L c
  | [], e, c => by simp [gm]; split <;> omega
  | y :: r, e, c => by
    have ih := gm_snoc r e c
    simp only [List.cons_append, gm, ih]
    split <;> split <;> omega
def tw (L : List En) (e : En) : Bool := L.any (fun p => decide (p.c = e.c) && decide (e.n ≤ p.n))
theorem gm_cons (y : En) (r : List En) (c : Int) : gm (y :: r) c = if y.c = c then max y.n (gm r c) else gm r c := rfl
theorem tw_iff (e : En) (h : 1 ≤ e.n) : ∀ L : List En, tw L e = decide (e.n ≤ gm L e.c)
  | [] => by
    have : ¬ e.n ≤ 0 := by omega
    simp [tw, gm, this]
  | y :: r => by
    have ih := tw_iff e h r
    unfold tw at ih ⊢
    rw [List.any_cons, ih, gm_cons]
    by_cases h1 : y.c = e.c
    · rw [if_pos h1]
      have hm : e.n ≤ max y.n (gm r e.c) ↔ e.n ≤ y.n ∨ e.n ≤ gm r e.c := by omega
      simp only [h1, decide_true, Bool.true_and]
      rw [Bool.eq_iff_iff]
      simp [hm]
    · rw [if_neg h1]
      simp [h1]
theorem tw_snoc (L : List En) (p e : En) : tw (L ++ [p]) e = (tw L e || (decide (p.c = e.c) && decide (e.n ≤ p.n))) := by simp [tw]
/-- Which error it has in its place. -/
def er (past : List En) (e : En) : Int := if ckE e ≠ 0 then ckE e else if tw past e then 64 else 0
def lgA : List En → List En → Int
  | _, [] => 0
  | past, e :: r => if er past e ≠ 0 then er past e else lgA (past ++ [e]) r
/-- The log's error. -/
def lg (L : List En) (room : Int) : Int := if room < L.length then 60 else lgA [] L
theorem lgA_at {L : List En} {j : Nat} {e : En} (h : L[j]? = some e) : lgA (L.take j) (L.drop j) = if er (L.take j) e ≠ 0 then er (L.take j) e else lgA (L.take (j + 1)) (L.drop (j + 1)) := by
  have hj := (List.getElem?_eq_some_iff.1 h).1
  have he := (List.getElem?_eq_some_iff.1 h).2
  rw [List.drop_eq_getElem_cons hj, he, lgA, List.take_add_one, h]
  rfl
theorem lgA_end (L : List En) : lgA (L.take L.length) (L.drop L.length) = 0 := by simp [lgA]
/-- A log that may be: no place has an error. -/
def okL (L : List En) : Prop := ∀ (j : Nat) (e : En), L[j]? = some e → er (L.take j) e = 0
theorem lgA_zero : ∀ (n : Nat) (L : List En) (j : Nat), L.length - j = n → lgA (L.take j) (L.drop j) = 0 → ∀ (i : Nat) (e : En), j ≤ i → L[i]? = some e → er (L.take i) e = 0 := by
  intro n
  induction n with
  | zero => intro L j hn h i e hi he; have := (List.getElem?_eq_some_iff.1 he).1; omega
  | succ n ih =>
    intro L j hn h i e hi he
    have hj : j < L.length := by omega
    have hg : L[j]? = some L[j] := List.getElem?_eq_getElem hj
    rw [lgA_at hg] at h
    by_cases hz : er (L.take j) L[j] = 0
    · simp [hz] at h
      by_cases hij : i = j
      · subst hij
        rw [hg] at he
        cases he
        exact hz
      · exact ih L (j + 1) (by omega) h i e (by omega) he
    · simp [hz] at h
theorem lg_zero {L : List En} {room : Int} (h : lg L room = 0) : (L.length : Int) ≤ room ∧ okL L := by
  unfold lg at h
  by_cases h1 : room < L.length
  · simp [h1] at h
  · simp [h1] at h
    exact ⟨by omega, fun j e he => lgA_zero L.length L 0 rfl (by simpa using h) j e (Nat.zero_le _) he⟩
theorem er_zero {past : List En} {e : En} (h : er past e = 0) : ckE e = 0 ∧ tw past e = false := by
  unfold er at h
  by_cases h1 : ckE e = 0
  · simp [h1] at h
    exact ⟨h1, h⟩
  · simp [h1] at h
theorem ckE_zero {e : En} (h : ckE e = 0) : 0 ≤ e.c ∧ e.c < 16 ∧ 1 ≤ e.n ∧ ck e.o.k e.o.s e.o.v = 0 := by
  unfold ckE at h
  by_cases h1 : e.c < 0 ∨ 16 ≤ e.c
  · simp [h1] at h
  · by_cases h2 : e.n < 1
    · simp [h1, h2] at h
    · simp [h1, h2] at h
      exact ⟨by omega, by omega, by omega, h⟩

/-- An array in a block of its own. -/
def Arr (w : World) (g : Nat) (t : TypeId) (xs : List Value) : Prop := w.ownsRow 0 t 1 (.slice (some ⟨g, 0, none⟩) xs.length xs.length) xs.length xs
theorem Arr.new (w : World) (t : TypeId) (n : Nat) (z : Value) (hn : n ≤ 1024) : Arr (w.alloc (.cells (Array.replicate n z) t)) w.heap.size t (List.replicate n z) :=
  ⟨by simp, .inr ⟨w.heap.size, n, Array.replicate n z, by simp, Nat.zero_le _, (MapKept.heap_alloc w _).1, by simp, by unfold maxLen; omega, by simp, by simp⟩⟩
theorem Arr.cell {w : World} {g : Nat} {t : TypeId} {xs : List Value} (h : Arr w g t xs) {i : Nat} {u : Value} (hi : xs[i]? = some u) : w.cell? ⟨g, i, none⟩ = some u := by
  have := World.ownsRow.cells h (g := g) rfl i u hi
  rw [Addr.add_lit, Nat.zero_add] at this
  exact this
theorem Arr.free {w : World} {g : Nat} {t : TypeId} {xs : List Value} (h : Arr w g t xs) (i : Nat) : w.frozen? ⟨g, i, none⟩ = false := World.ownsRow.frozenAt h i
theorem Arr.set {w : World} {g : Nat} {t : TypeId} {xs : List Value} (h : Arr w g t xs) (i : Nat) (u : Value) : Arr (w.setCell ⟨g, i, none⟩ u) g t (xs.set i u) := by
  unfold Arr at *
  rw [List.length_set]
  exact (World.ownsRow.stored h i u).1
theorem Arr.upd {S : Nat → Prop} {w w' : World} {g : Nat} {t : TypeId} {xs : List Value} (h : Arr w g t xs) (u : Upd S w w') (hs : ¬ S g) : Arr w' g t xs := by
  obtain ⟨h1, h2⟩ := h
  refine ⟨h1, ?_⟩
  rcases h2 with ⟨e, _⟩ | ⟨g', cap, cur, e1, e2, e3, r⟩
  · cases e
  · have e0 := e1
    injection e1 with e1
    injection e1 with e1
    injection e1 with e1
    subst e1
    refine .inr ⟨g, cap, cur, e0, e2, ?_, r⟩
    rw [u.block g (Array.getElem?_eq_some_iff.1 e3).1 hs]
    exact e3
theorem Arr.lt {w : World} {g : Nat} {t : TypeId} {xs : List Value} (h : Arr w g t xs) : g < w.heap.size := by
  rcases h.2 with ⟨e, _⟩ | ⟨g', cap, cur, e1, e2, e3, r⟩
  · cases e
  · injection e1 with e1
    injection e1 with e1
    injection e1 with e1
    subst e1
    exact (Array.getElem?_eq_some_iff.1 e3).1
theorem Arr.kind {w : World} {g : Nat} {t : TypeId} {xs : List Value} (h : Arr w g t xs) : ∀ es c, w.heap[g]? ≠ some (.map es c) := fun es c e' => by
  rcases h.2 with ⟨e, _⟩ | ⟨g', cap, cur, e1, e2, e3, r⟩
  · cases e
  · injection e1 with e1
    injection e1 with e1
    injection e1 with e1
    subst e1
    rw [e'] at e3
    cases e3
theorem Arr.drew {w : World} {g : Nat} {t : TypeId} {xs : List Value} (h : Arr w g t xs) : Arr w.drew g t xs := World.ownsRow.drew h
theorem Arr.later {w w' : World} {g : Nat} {t : TypeId} {xs : List Value} (h : Arr w g t xs) (hb : Below w.heap.size w w') : Arr w' g t xs := h.upd (S := fun _ => False) (Upd.of_below hb) id

end Go.Proofs.YtcmjhaljbmhpgaaGreat
