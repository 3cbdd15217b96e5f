import Derived.Test.YtolnkoneilipeaaGCb
namespace Go.Proofs.Ytolnkoneilipeaa
open Go.RowKit Go.Maps
open Classical
set_option linter.unusedVariables false
set_option linter.unusedSimpArgs false

/-- The last rows, as the map has them. -/
def lF (l : List Rw) (s : Int) : Option Value := (lo l s).map Rw.val
theorem lF_snoc {l l' : List Rw} {r : Rw} (h : ∀ s, lo l' s = if r.c = s then some r else lo l s) : (fun s' => if s' = r.c then some r.val else lF l s') = lF l' := by
  funext s
  unfold lF
  rw [h]
  by_cases hs : r.c = s
  · simp [hs]
  · have hs' : ¬ s = r.c := fun e => hs e.symm
    simp [hs, hs']
theorem box7 {w w1 : World} {x0 x1 x2 x3 x4 x5 x6 : Value} {T : TypeId} {B : Nat} (hb : Below B (w.alloc (.cells #[x0, x1, x2, x3, x4, x5, x6] T)) w1) (hB : w.heap.size < B) : w1.cell? ⟨w.heap.size, 0, none⟩ = some x0 ∧ w1.cell? ⟨w.heap.size, 1, none⟩ = some x1 ∧ w1.cell? ⟨w.heap.size, 2, none⟩ = some x2 ∧ w1.cell? ⟨w.heap.size, 3, none⟩ = some x3 ∧ w1.cell? ⟨w.heap.size, 4, none⟩ = some x4 ∧ w1.cell? ⟨w.heap.size, 5, none⟩ = some x5 ∧ w1.cell? ⟨w.heap.size, 6, none⟩ = some x6 :=
  ⟨(hb.cell (p := ⟨w.heap.size, 0, none⟩) hB).trans (by simp), (hb.cell (p := ⟨w.heap.size, 1, none⟩) hB).trans (by simp), (hb.cell (p := ⟨w.heap.size, 2, none⟩) hB).trans (by simp), (hb.cell (p := ⟨w.heap.size, 3, none⟩) hB).trans (by simp), (hb.cell (p := ⟨w.heap.size, 4, none⟩) hB).trans (by simp), (hb.cell (p := ⟨w.heap.size, 5, none⟩) hB).trans (by simp), (hb.cell (p := ⟨w.heap.size, 6, none⟩) hB).trans (by simp)⟩
theorem rw_wf {L : List En} (hf : ∀ e ∈ L, e.fits) {k j : Nat} {r : Rw} (h : (rws L k)[j]? = some r) : (Lit.int .i64 r.c).wf = true := by
  rw [rws, List.getElem?_mapIdx] at h
  cases hg : L[j]? with
  | none => rw [hg] at h; cases h
  | some e =>
    rw [hg] at h
    cases h
    exact (hf e (List.mem_of_getElem? hg)).cw
end Go.Proofs.Ytolnkoneilipeaa

namespace Go.Proofs.Ytolnkoneilipeaa
open Go.RowKit Go.Maps
set_option linter.unusedVariables false
set_option linter.unusedSimpArgs false

def tbl (L : List En) (k : Int) : List Rw := if ckB L 0 k = 0 then tb L k.toNat 16 else []
theorem ckB_zero {L : List En} {f t : Int} (h : ckB L f t = 0) : lg L 256 = 0 ∧ 0 ≤ f ∧ t ≤ L.length ∧ f ≤ t := by
  unfold ckB at h
  by_cases h1 : lg L 256 = 0
  · simp [h1] at h
    exact ⟨h1, by omega, by omega, by omega⟩
  · simp [h1] at h
end Go.Proofs.Ytolnkoneilipeaa

namespace Go.Proofs.Ytolnkoneilipeaa
open Go.RowKit Go.Maps
set_option linter.unusedVariables false
set_option linter.unusedSimpArgs false

/-- What a request is to a log. -/
def vd (x : Option Rw) (n : Int) : Int × Rs := match x with
  | none => (1, zR)
  | some r => if r.n < n then (1, zR) else if n < r.n then (4, zR) else if r.d then (3, r.r) else (2, zR)
/-- The error of Ask. -/
def akE (L : List En) (k c n : Int) : Int := if ckB L 0 k ≠ 0 then ckB L 0 k else ckR c n
def akV (L : List En) (k c n : Int) : Int × Rs := if akE L k c n ≠ 0 then (0, zR) else vd (lo (rws L k.toNat) c) n
theorem ckR_zero {c n : Int} (h : ckR c n = 0) : 0 ≤ c ∧ c < 16 ∧ 1 ≤ n := by
  unfold ckR at h
  by_cases h1 : c < 0 ∨ 16 ≤ c
  · simp [h1] at h
  · by_cases h2 : n < 1
    · simp [h1, h2] at h
    · omega
theorem held3x {w2 : World} {p0 p1 p2 : Addr} {u0 u1 u2 : Value} {cs : Array Value} {T : TypeId} {i : Nat} {x : Value} (h : cs[i]? = some x) : ((((w2.setCell p0 u0).setCell p1 u1).setCell p2 u2).alloc (.cells cs T)).drew.cell? ⟨w2.heap.size, i, none⟩ = some x := by
  show World.cell? (World.alloc _ _) _ = _
  rw [World.cell?_alloc_at _ _ _ _ (by simp [World.setCell])]
  exact h
theorem box3 {w w1 : World} {x0 x1 x2 : Value} {T : TypeId} {B : Nat} (hb : Below B (w.alloc (.cells #[x0, x1, x2] T)) w1) (hB : w.heap.size < B) : (w1.cell? ⟨w.heap.size, 0, none⟩ = some x0 ∧ w1.cell? ⟨w.heap.size, 1, none⟩ = some x1 ∧ w1.cell? ⟨w.heap.size, 2, none⟩ = some x2) ∧ w1.frozen? ⟨w.heap.size, 0, none⟩ = false ∧ w1.frozen? ⟨w.heap.size, 1, none⟩ = false ∧ w1.frozen? ⟨w.heap.size, 2, none⟩ = false :=
  ⟨⟨(hb.cell (p := ⟨w.heap.size, 0, none⟩) hB).trans (by simp), (hb.cell (p := ⟨w.heap.size, 1, none⟩) hB).trans (by simp), (hb.cell (p := ⟨w.heap.size, 2, none⟩) hB).trans (by simp)⟩, (hb.frozen (p := ⟨w.heap.size, 0, none⟩) hB).trans (by simp), (hb.frozen (p := ⟨w.heap.size, 1, none⟩) hB).trans (by simp), (hb.frozen (p := ⟨w.heap.size, 2, none⟩) hB).trans (by simp)⟩
end Go.Proofs.Ytolnkoneilipeaa

namespace Go.Proofs.Ytolnkoneilipeaa
open Go.RowKit Go.Maps
set_option linter.unusedVariables false
set_option linter.unusedSimpArgs false

theorem LieY.drop {α : Type} {Y : Lay α} {w : World} {q o : Nat} {l : List α} (h : LieY Y w q o l) (f : Nat) : LieY Y w q (o + f * Y.k) (l.drop f) := fun i x hx j u hu => by
  rw [List.getElem?_drop] at hx
  have := h _ _ hx j u hu
  rw [Nat.add_mul] at this
  rw [Nat.add_assoc o, ]
  exact this
def btw (L : List En) (f t : Int) : List Rw := if ckB L f t = 0 then ((rws L t.toNat).take t.toNat).drop f.toNat else []
end Go.Proofs.Ytolnkoneilipeaa
