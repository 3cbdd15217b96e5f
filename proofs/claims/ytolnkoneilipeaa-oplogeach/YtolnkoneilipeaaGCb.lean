import Derived.Test.YtolnkoneilipeaaCa
import Derived.Test.YtolnkoneilipeaaGYa
namespace Go.Proofs.Ytolnkoneilipeaa
open Go.RowKit Go.Maps
open Classical
set_option linter.unusedVariables false
set_option linter.unusedSimpArgs false

theorem box5 {w w1 : World} {x0 x1 x2 x3 x4 : Value} {T : TypeId} {B : Nat} (hb : Below B (w.alloc (.cells #[x0, x1, x2, x3, x4] T)) w1) (hB : w.heap.size < B) : w1.cell? ⟨w.heap.size, 0, none⟩ = some x0 ∧ w1.cell? ⟨w.heap.size, 1, none⟩ = some x1 ∧ w1.cell? ⟨w.heap.size, 2, none⟩ = some x2 ∧ w1.cell? ⟨w.heap.size, 3, none⟩ = some x3 ∧ w1.cell? ⟨w.heap.size, 4, none⟩ = some x4 :=
  ⟨(hb.cell (p := ⟨w.heap.size, 0, none⟩) hB).trans (by simp), (hb.cell (p := ⟨w.heap.size, 1, none⟩) hB).trans (by simp), (hb.cell (p := ⟨w.heap.size, 2, none⟩) hB).trans (by simp), (hb.cell (p := ⟨w.heap.size, 3, none⟩) hB).trans (by simp), (hb.cell (p := ⟨w.heap.size, 4, none⟩) hB).trans (by simp)⟩
theorem ret_int {k : IntKind} {a b : Int} (h : a = b) : Ending.returned (.int k a) = .returned (.int k b) := by rw [h]

/-- The greatest numbers, as the map has them. -/
def gF (L : List En) (s : Int) : Option Value := if gm L s = 0 then none else some (.int .i64 (gm L s))
theorem gF_getD (L : List En) (s : Int) : (gF L s).getD (.int .i64 0) = .int .i64 (gm L s) := by
  unfold gF
  split
  · rename_i h; rw [h]; rfl
  · rfl
theorem gF_snoc {L : List En} {e : En} (h1 : 1 ≤ e.n) (h2 : gm L e.c < e.n) : (fun s' => if s' = e.c then some (.int .i64 e.n) else gF L s') = gF (L ++ [e]) := by
  funext s
  unfold gF
  rw [gm_snoc]
  by_cases hs : s = e.c
  · subst hs
    have e1 : max (gm L e.c) e.n = e.n := by omega
    have e2 : ¬ e.n = 0 := by omega
    simp [e1, e2]
  · have hs' : ¬ e.c = s := fun x => hs x.symm
    simp [hs, hs']
theorem er_at (past : List En) (e : En) : er past e = if ckR e.c e.n ≠ 0 then ckR e.c e.n else if ck e.o.k e.o.s e.o.v ≠ 0 then ck e.o.k e.o.s e.o.v else if e.n ≤ gm past e.c then 64 else 0 := by
  unfold er ckE ckR
  by_cases h1 : e.c < 0 ∨ 16 ≤ e.c
  · simp [h1]
  · by_cases h2 : e.n < 1
    · simp [h1, h2]
    · simp only [h1, h2, if_false]
      rw [tw_iff e (by omega)]
      by_cases h3 : ck e.o.k e.o.s e.o.v = 0 <;> simp [h3]
/-- A log and two lengths of beginnings of it. -/
def ckB (L : List En) (f t : Int) : Int := if lg L 256 ≠ 0 then lg L 256 else if f < 0 ∨ (L.length : Int) < t ∨ t < f then 50 else 0
end Go.Proofs.Ytolnkoneilipeaa

namespace Go.Proofs.Ytolnkoneilipeaa
open Go.RowKit Go.Maps
set_option linter.unusedVariables false
set_option linter.unusedSimpArgs false

/-- Operations and results as rows. -/
def y3 (T ST : TypeId) : Lay Rs := ⟨T, ST, 3, 32, fun r => [.int .i64 r.1, .int .i64 r.2.1, .string r.2.2], zR⟩
theorem own3_len {T : TypeId} {B : Nat} {w : World} {g n c : Nat} {l : List Rs} (h : Own3 T B w (.slice (some ⟨g, 0, none⟩) n c) l) : l.length = n := by
  obtain ⟨a, c', e, _⟩ := h.form
  injection e with _ e2 _
  exact e2.symm
theorem own3_later {T : TypeId} {S : Nat → Prop} {B : Nat} {w w' : World} {v : Value} {l : List Rs} (h : Own3 T B w v l) (hb : Below w.heap.size w w') : Own3 T B w' v l := h.grow hb
/-- Own3's cells as operations. -/
theorem ops_own {T : TypeId} {B : Nat} {w : World} {g n c : Nat} {P : List Opn} (h : Own3 T B w (.slice (some ⟨g, 0, none⟩) n c) (P.map fun o => (o.k, o.s, o.v))) : Ops w (some ⟨g, 0, none⟩) P := fun i hi => by
  obtain ⟨e0, e1, e2⟩ := h.cell i (P[i].k, P[i].s, P[i].v) (by rw [List.getElem?_map, List.getElem?_eq_getElem hi]; rfl)
  exact ⟨g, 0, rfl, by rw [Nat.zero_add]; exact e0, by rw [Nat.zero_add]; exact e1, by rw [Nat.zero_add]; exact e2⟩
def oT (o : Opn) : Rs := (o.k, o.s, o.v)
end Go.Proofs.Ytolnkoneilipeaa

namespace Go.Proofs.Ytolnkoneilipeaa
open Go.RowKit Go.Maps
set_option linter.unusedVariables false
set_option linter.unusedSimpArgs false

theorem OwnY.set0 {α : Type} {Y : Lay α} {B : Nat} {w : World} {v : Value} {l : List α} (h : OwnY Y B w v l) {i : Nat} {x : α} (hx : l[i]? = some x) : OwnY Y B w v (l.set i x) := by
  have e : l.set i x = l := by
    apply List.ext_getElem?
    intro j
    by_cases hj : i = j
    · subst hj
      rw [List.getElem?_set_self (List.getElem?_eq_some_iff.1 hx).1, hx]
    · rw [List.getElem?_set_ne hj]
  rw [e]; exact h
theorem OwnY.set2 {α : Type} {Y : Lay α} (K : Y.Ok) {B : Nat} {w : World} {g n c : Nat} {l : List α} {i : Nat} {x : α} (h : OwnY Y B w (.slice (some ⟨g, 0, none⟩) n c) (l.set i x)) (hi : i < l.length) (x' : α) (j : Nat) (u : Value) (hj : j < Y.k) (hc : Y.cs x' = (Y.cs x).set j u) :
    OwnY Y B (w.setCell ⟨g, i * Y.k + j, none⟩ u) (.slice (some ⟨g, 0, none⟩) n c) (l.set i x') := by
  have := h.set1 K (i := i) (x := x) (by simp [hi]) x' j u hj hc
  rw [List.set_set] at this
  exact this
theorem OwnY.lenN {α : Type} {Y : Lay α} {B : Nat} {w : World} {g n c : Nat} {l : List α} (h : OwnY Y B w (.slice (some ⟨g, 0, none⟩) n c) l) : l.length = n ∧ B ≤ g ∧ g < w.heap.size := by
  obtain ⟨a, c', e, _, _, _, h4⟩ := h.form
  injection e with e1 e2 _
  obtain ⟨g', e3, h5, h6⟩ := h4 _ e1.symm
  cases e3
  exact ⟨e2.symm, h5, h6⟩
def zRw : Rw := ⟨0, 0, 0, false, zR⟩
end Go.Proofs.Ytolnkoneilipeaa
