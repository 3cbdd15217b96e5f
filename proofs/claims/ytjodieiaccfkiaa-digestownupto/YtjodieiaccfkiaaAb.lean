import Derived.Test.YtjodieiaccfkiaaGAe
import Derived.Test.YtjodieiaccfkiaaAo
namespace Go.Proofs.Ytjodieiaccfkiaa
open Go.RowKit Go.Maps
open Classical
set_option linter.unusedVariables false
set_option linter.unusedSimpArgs false

theorem wp_region_quietBy {P : Program} {C : World → Prop} {id : Nat} {Q : Exit → Act → World → Prop} {a : Act} {w : World} {l : List Oper} (hm : P.follows .mixedOrders = true) (hB : Region.lexB .any l.toArray = true) (hC : C w.drew)
    (h : wpQuiet P l.toArray C (fun a' => ∀ w', C w' → Q .normal a' w') l a) : (Code.region id l.toArray true).wp P Q a w :=
  wp_region_quiet (C := C) hm hB hC (by simpa using h)
def zByB : Lay (SV Int) := yS Int 22 23
theorem kzByB : zByB.Ok := kS Try.underlying23 (by kernel_rfl)
theorem hTByB : yBy.T ≠ zByB.T := by decide
def mkByB (i t : Nat) : Int := ((i : Int) * 31 + (t : Int) * 7 + 5) % 256
theorem OwnY.rwBy {B : Nat} {w : World} {g n c : Nat} {l : List Int} (h : OwnY yBy B w (.slice (some ⟨g, 0, none⟩) n c) l) {i : Nat} {x : Int} (hx : l[i]? = some x) : w.cell? ⟨g, i, none⟩ = some (.int .u8 x) :=
  by have := h.cell kBy i x hx 0 _ rfl; rw [show i * yBy.k + 0 = i from Nat.mul_one i] at this; exact this
theorem OwnY.putBy {B : Nat} {w : World} {g n c : Nat} {l : List Int} (h : OwnY yBy B w (.slice (some ⟨g, 0, none⟩) n c) l) {i : Nat} (hi : i < l.length) (h0 : Int) :
    OwnY yBy B (w.setCell ⟨g, i, none⟩ (.int .u8 h0)) (.slice (some ⟨g, 0, none⟩) n c) (l.set i h0) := by
  have hx : l[i]? = some l[i] := List.getElem?_eq_getElem hi
  generalize l[i] = x at hx
  obtain c0 := x
  have q0 := h.set0 hx
  have q1 := q0.set2 kBy hi h0 0 (.int .u8 h0) (by decide) rfl
  rw [show i * yBy.k + 0 = i from Nat.mul_one i] at q1
  exact q1
/-- What a cell holds. -/
def vAtBy (v : World) (p : Addr) : Value := (v.cell? p).getD undef
theorem vAtBy_of {v : World} {p : Addr} {x : Value} (h : v.cell? p = some x) : v.cell? p = some (vAtBy v p) := by unfold vAtBy; rw [h]; rfl
theorem heldBy {w v : World} {q : Nat} {L : List Ent} {j k : Nat} {y : Ent} {D : List Int} (h : LBk w q L) (hy : L[j]? = some y) (u : Upd (blk L) w v) (hd : D.length = y.n) (o : OwnY yBy 0 v (.slice (some ⟨y.g, 0, none⟩) y.n y.c) D) (hk : k < y.n) :
    Upd (blk L) w v ∧ v.cell? ⟨q, j, none⟩ = some (.slice (some ⟨y.g, 0, none⟩) y.n y.c) ∧ v.cell? ⟨y.g, k, none⟩ = some (vAtBy v ⟨y.g, k, none⟩) ∧ v.frozen? ⟨y.g, k, none⟩ = false := by
  obtain ⟨x, hx⟩ : ∃ x, D[k]? = some x := ⟨_, List.getElem?_eq_getElem (by omega)⟩
  have e0 := o.rwBy hx
  exact ⟨u, (h.upd u).row j y hy, vAtBy_of e0, o.free _⟩
/-- The stores of a mark. -/
theorem updBy (v : World) (y : Ent) (k : Nat) (h0 : Int) : Upd (fun i => i = y.g) v (v.setCell ⟨y.g, k, none⟩ (.int .u8 h0)) :=
  (Upd.refl (fun i => i = y.g) v).setCell (p := ⟨y.g, k, none⟩) (.inl rfl) (.int .u8 h0)
end Go.Proofs.Ytjodieiaccfkiaa
