import Derived.Test.YtomiifnhcojilaaHc
import Derived.Deep.MidRow
import Derived.Deep.Cut
namespace Go.Proofs.Ytomiifnhcojilaa
open Go.RowKit Go.Maps
open Classical
set_option linter.unusedVariables false
set_option linter.unusedSimpArgs false

/-- A message but for its lists. -/
structure Mg where
  k : Int
  nd : Int
  vw : Int
  e : En
  r : Int × Int × ByteArray
  p : Int
  cm : Int
  ls : Int
  d : Int × Int
def Mg.val (m : Mg) (s t : Value) : Value := .agg #[.int .i64 m.k, .int .i64 m.nd, .int .i64 m.vw, .int .i64 m.e.c, .int .i64 m.e.n, .int .i64 m.e.o.k, .int .i64 m.e.o.s, .string m.e.o.v, .int .i64 m.r.1, .int .i64 m.r.2.1, .string m.r.2.2, .int .i64 m.p, .int .i64 m.cm, .int .i64 m.ls, .int .u64 m.d.1, .int .u64 m.d.2, s, t]
def Mg.cs (m : Mg) (s t : Value) : List Value := [.int .i64 m.k, .int .i64 m.nd, .int .i64 m.vw, .int .i64 m.e.c, .int .i64 m.e.n, .int .i64 m.e.o.k, .int .i64 m.e.o.s, .string m.e.o.v, .int .i64 m.r.1, .int .i64 m.r.2.1, .string m.r.2.2, .int .i64 m.p, .int .i64 m.cm, .int .i64 m.ls, .int .u64 m.d.1, .int .u64 m.d.2, s, t]
theorem GM.upd {S : Nat → Prop} {w w' : World} {b B : Nat} {v2 v3 v4 v5 : Value} {Da Db : List (SV (Int × Int))} {La Lb : List (SV En)} (h : GM w b B v2 v3 v4 v5 Da Db La Lb) (u : Upd S w w') (hb : ¬ S b) (hs : ∀ k c f T, w.heap[k]? = some (.cells c T f) → (T = yD.T ∨ T = yE.T ∨ T = zD.T ∨ T = zE.T) → ¬ S k) : GM w' b B v2 v3 v4 v5 Da Db La Lb := by
  have hlt : b < w.heap.size := Nat.lt_of_lt_of_le h.lt h.ltB
  have o : ∀ {α : Type} {Y : Lay α} {v : Value} {l : List α}, OwnY Y B w v l → (Y.T = yD.T ∨ Y.T = yE.T ∨ Y.T = zD.T ∨ Y.T = zE.T) → OwnY Y B w' v l := fun ho hT => ho.upd1 u (fun g hg => by
    obtain ⟨c, f, hk⟩ := ho.kind hg
    exact hs g c f _ hk hT)
  exact ⟨h.lt, Nat.le_trans h.ltB u.size, (u.cell (p := ⟨b, _, none⟩) hlt hb).trans h.c2, (u.cell (p := ⟨b, _, none⟩) hlt hb).trans h.c3, (u.cell (p := ⟨b, _, none⟩) hlt hb).trans h.c4, (u.cell (p := ⟨b, _, none⟩) hlt hb).trans h.c5, fun i => (u.frozen (p := ⟨b, _, none⟩) hlt hb).trans (h.f i), fun i h0 h1 => (u.cell (p := ⟨b, _, none⟩) hlt hb).trans (h.ce i h0 h1), o h.o2 (by simp), o h.o3 (by simp), o h.o4 (by simp), o h.o5 (by simp), h.ne2, h.ne4, fun x hx => o (h.m2 x hx) (by simp), fun x hx => o (h.m3 x hx) (by simp), fun x hx => o (h.m4 x hx) (by simp), fun x hx => o (h.m5 x hx) (by simp)⟩
theorem GM.logAt {w : World} {b B : Nat} {v2 v3 v4 v5 : Value} {Da Db : List (SV (Int × Int))} {La Lb : List (SV En)} (h : GM w b B v2 v3 v4 v5 Da Db La Lb) {g c n : Nat} {L : List En} (hm : (⟨some ⟨g, 0, none⟩, c, L ++ [mkE]⟩ : SV En) ∈ La) (hn : L.length = n) : SlY yE w (some ⟨g, 0, none⟩) n c L := (h.m4 _ hm).front kE hn
theorem GM.vecAt {w : World} {b B : Nat} {v2 v3 v4 v5 : Value} {Da Db : List (SV (Int × Int))} {La Lb : List (SV En)} (h : GM w b B v2 v3 v4 v5 Da Db La Lb) {g c n : Nat} {L : List (Int × Int)} (hm : (⟨some ⟨g, 0, none⟩, c, L ++ [mkD]⟩ : SV (Int × Int)) ∈ Da) (hn : L.length = n) : SlY yD w (some ⟨g, 0, none⟩) n c L := (h.m2 _ hm).front kD hn
def zM : Mg := ⟨0, 0, 0, ⟨0, 0, ⟨0, 0, ⟨#[]⟩⟩⟩, (0, 0, ⟨#[]⟩), 0, 0, 0, (0, 0)⟩
theorem setc_kind {w : World} {q k i : Nat} {u : Value} {c : Array Value} {T : TypeId} {f : Nat × Nat} (h : w.heap[q]? = some (.cells c T f)) : ∃ c f, (w.setCell ⟨k, i, none⟩ u).heap[q]? = some (.cells c T f) := by
  by_cases e : q = k
  · subst e
    have hlt := (Array.getElem?_eq_some_iff.1 h).1
    have h' : w.heap[q] = .cells c T f := (Array.getElem?_eq_some_iff.1 h).2
    refine ⟨c.setIfInBounds i u, f, ?_⟩
    show (w.heap.modify q _)[q]? = _
    rw [Array.getElem?_eq_getElem (by simpa using hlt), Array.getElem_modify_self, h']
    rfl
  · rw [Below.heap_setCell _ _ _ _ e]
    exact ⟨_, _, h⟩
/-- Cells of one block, one behind the other. -/
def sets (w : World) (b : Nat) : Nat → List Value → World
  | _, [] => w
  | i, v :: r => sets (w.setCell ⟨b, i, none⟩ v) b (i + 1) r
theorem OwnY.sets {α : Type} {Y : Lay α} {B b : Nat} {v : Value} {l : List α} (hb : b < B) : ∀ (vs : List Value) (i : Nat) (w : World), OwnY Y B w v l → OwnY Y B (sets w b i vs) v l
  | [], _, _, h => h
  | u :: r, i, w, h => OwnY.sets hb r (i + 1) _ (h.low_set (p := ⟨b, i, none⟩) hb u)
theorem below_sets {B b : Nat} {w0 : World} (hb : B ≤ b) : ∀ (vs : List Value) (i : Nat) (w : World), Below B w0 w → Below B w0 (sets w b i vs)
  | [], _, _, h => h
  | u :: r, i, w, h => below_sets hb r (i + 1) _ (h.setCell (p := ⟨b, i, none⟩) hb u)
theorem upd_sets {S : Nat → Prop} {b : Nat} {w0 : World} (hb : S b) : ∀ (vs : List Value) (i : Nat) (w : World), Upd S w0 w → Upd S w0 (sets w b i vs)
  | [], _, _, h => h
  | u :: r, i, w, h => upd_sets hb r (i + 1) _ (h.setCell (p := ⟨b, i, none⟩) (.inl hb) u)
theorem size_sets (b : Nat) : ∀ (vs : List Value) (i : Nat) (w : World), (sets w b i vs).heap.size = w.heap.size
  | [], _, _ => rfl
  | u :: r, i, w => (size_sets b r (i + 1) _).trans (by simp [World.setCell])
theorem sets_kind {q b : Nat} {T : TypeId} : ∀ (vs : List Value) (i : Nat) (w : World), (∃ c f, w.heap[q]? = some (.cells c T f)) → ∃ c f, (sets w b i vs).heap[q]? = some (.cells c T f)
  | [], _, _, h => h
  | u :: r, i, w, ⟨c, f, h⟩ => sets_kind r (i + 1) _ (setc_kind h)
theorem setf' {w : World} {q b i j : Nat} {u : Value} (h : w.frozen? ⟨q, i, none⟩ = false) : (w.setCell ⟨b, j, none⟩ u).frozen? ⟨q, i, none⟩ = false := by
  go_simp
theorem sets_free {q b j : Nat} : ∀ (vs : List Value) (i : Nat) (w : World), w.frozen? ⟨q, j, none⟩ = false → (sets w b i vs).frozen? ⟨q, j, none⟩ = false
  | [], _, _, h => h
  | u :: r, i, w, h => sets_free r (i + 1) _ (setf' h)
theorem sets_low {b j : Nat} {x : Value} : ∀ (vs : List Value) (i : Nat) (w : World), j < i → w.cell? ⟨b, j, none⟩ = some x → (sets w b i vs).cell? ⟨b, j, none⟩ = some x
  | [], _, _, _, h => h
  | u :: r, i, w, hj, h => sets_low r (i + 1) _ (by omega) (setc_ne h (by omega))
theorem sets_at {b : Nat} : ∀ (vs : List Value) (i : Nat) (w : World), (∀ k, k < vs.length → ∃ y, w.cell? ⟨b, i + k, none⟩ = some y) → ∀ k x, vs[k]? = some x → (sets w b i vs).cell? ⟨b, i + k, none⟩ = some x
  | [], _, _, _, k, x, hx => by simp at hx
  | u :: r, i, w, h, 0, x, hx => by
    simp at hx
    subst hx
    obtain ⟨y, hy⟩ := h 0 (by simp)
    exact sets_low r (i + 1) _ (by omega) (setc_eq hy)
  | u :: r, i, w, h, k + 1, x, hx => by
    have := sets_at r (i + 1) (w.setCell ⟨b, i, none⟩ u) (fun m hm => by
      obtain ⟨y, hy⟩ := h (m + 1) (by simpa using hm)
      rw [show i + (m + 1) = i + 1 + m by omega] at hy
      exact ⟨y, setc_ne hy (by omega)⟩) k x (by simpa using hx)
    rw [show i + 1 + k = i + (k + 1) by omega] at this
    exact this
theorem setCells_sets (b : Nat) : ∀ (vs : List Value) (i : Nat) (w : World), w.setCells b i vs = sets w b i vs
  | [], _, _ => rfl
  | u :: r, i, w => by rw [World.setCells, sets, setCells_sets b r (i + 1)]
theorem Mg.val_eq (m : Mg) (s t : Value) : m.val s t = .agg (m.cs s t).toArray := rfl
end Go.Proofs.Ytomiifnhcojilaa
