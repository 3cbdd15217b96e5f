import Derived.Test.YtegkkoggfjgkbaaRt
import Derived.Test.YtegkkoggfjgkbaaGRn
import Derived.Test.YtegkkoggfjgkbaaIt
import Derived.Test.YtegkkoggfjgkbaaAl
namespace Go.Proofs.Ytegkkoggfjgkbaa.Wi
open Go.RowKit
set_option linter.unusedVariables false

def sel (E : Int) (x : Nat) : Nat := if E = 0 then x else 0
def selE (E e : Int) : Int := if E = 0 then e else E
def selL (E : Int) (L : List Int) : List Int := if E = 0 then L else []
theorem sel_ok (x : Nat) : sel 0 x = x := rfl
theorem selE_ok (e : Int) : selE 0 e = e := rfl
theorem selL_ok (L : List Int) : selL 0 L = L := rfl
theorem sel_no {E : Int} (h : E ≠ 0) (x : Nat) : sel E x = 0 := by unfold sel; rw [if_neg h]
theorem selE_no {E : Int} (h : E ≠ 0) (e : Int) : selE E e = E := by unfold selE; rw [if_neg h]
theorem selL_no {E : Int} (h : E ≠ 0) (L : List Int) : selL E L = [] := by unfold selL; rw [if_neg h]

theorem ru_text (b : Nat) (a : Option Addr) (n c : Nat) (l : List Int) (p : Nat) (E : Int) (m : Int) (q : m ≤ 9223372036854775807) (w : World) (h : RSt w b a n c l p E) :
    Calls Try.prog 19 #[.pointer (some ⟨b, 0, none⟩), .int .i64 m] w fun e w' => e = .returned (.string (strOfNums (selL E (ttList m (l.drop p))))) ∧ RSt w' b a n c l (p + sel E (ttSize m (l.drop p))) (selE E (ttErr m (l.drop p))) ∧ Only b w w' := by
  by_cases hE : E = 0
  · subst hE
    exact rd_text b a n c l p m q w h
  · rw [selL_no hE, sel_no hE, selE_no hE]
    refine (rd_text_err b a n c l p E m w h hE).mono ?_
    rintro e w' ⟨rfl, rfl⟩
    exact ⟨rfl, h, Only.refl _ _⟩
theorem RSt.apart {w w' : World} {b d : Nat} {a : Option Addr} {n c : Nat} {l : List Int} {p : Nat} {E : Int} (h : RSt w b a n c l p E) (o : Only d w w') (hne : b ≠ d) (hx : ∀ x, a = some x → 0 < n → x.block ≠ d) : RSt w' b a n c l p E := by
  refine ⟨by rw [o.same]; exact h.lt, (o.cell (p := ⟨b, 0, none⟩) hne).trans h.c0, (o.cell (p := ⟨b, 1, none⟩) hne).trans h.c1, (o.cell (p := ⟨b, 2, none⟩) hne).trans h.c2, (o.cell (p := ⟨b, 3, none⟩) hne).trans h.c3, (o.frozen (p := ⟨b, 2, none⟩) hne).trans h.f2, (o.frozen (p := ⟨b, 3, none⟩) hne).trans h.f3, ⟨h.hs.len, h.hs.cap, fun x hx2 => ?_, h.hs.nil, h.hs.byte⟩, h.cmax, h.ne, h.le⟩
  intro i hi
  obtain ⟨g, rfl, hg⟩ := h.ne x hx2
  have hb := hx _ hx2 (by rw [← h.hs.len]; omega)
  have h3 := h.hs.row _ hx2 i hi
  rw [Addr.add_lit] at h3 ⊢
  rw [o.cell (p := ⟨g, 0 + i, none⟩) hb]
  exact h3
theorem QSt.apart {w w' : World} {b d : Nat} {a : Option Addr} {n c p : Nat} {E : Int} (h : QSt w b a n c p E) (o : Only d w w') (hne : b ≠ d) : QSt w' b a n c p E :=
  ⟨by rw [o.same]; exact h.lt, (o.cell (p := ⟨b, 0, none⟩) hne).trans h.c0, (o.cell (p := ⟨b, 1, none⟩) hne).trans h.c1, (o.cell (p := ⟨b, 2, none⟩) hne).trans h.c2, (o.frozen (p := ⟨b, 1, none⟩) hne).trans h.f1, (o.frozen (p := ⟨b, 2, none⟩) hne).trans h.f2, h.le⟩
theorem RSt.drawn' {w : World} {b : Nat} {a : Option Addr} {n c : Nat} {l : List Int} {p : Nat} {e : Int} (h : RSt w b a n c l p e) (k : Nat) : RSt (w.drewN k) b a n c l p e :=
  ⟨h.lt, h.c0, h.c1, h.c2, h.c3, h.f2, h.f3, h.hs.later (below_drewN (Below.refl _ _) k), h.cmax, h.ne, h.le⟩
theorem QSt.drawn {w : World} {b : Nat} {a : Option Addr} {n c p : Nat} {E : Int} (h : QSt w b a n c p E) (k : Nat) : QSt (w.drewN k) b a n c p E := ⟨h.lt, h.c0, h.c1, h.c2, h.f1, h.f2, h.le⟩

/-- The readings that come in. -/
def Gets (w : World) (a : Option Addr) (len : Nat) : Prop := ∀ i, i < len → ∃ b o K M, a = some ⟨b, o, none⟩ ∧ w.cell? ⟨b, o + i * 2, none⟩ = some (.int .i64 K) ∧ w.cell? ⟨b, o + i * 2 + 1, none⟩ = some (.int .i64 M) ∧ M ≤ 9223372036854775807
/-- Both readers, at one place, with one error. -/
structure Both (w1 wr : World) (r d : Nat) (a a2 : Option Addr) (n c c2 : Nat) (l : List Int) (p : Nat) (E : Int) : Prop where
  rst : RSt wr r a2 n c2 l p E
  qst : QSt wr d a n c p E
  bel : Below w1.heap.size w1 wr

end Go.Proofs.Ytegkkoggfjgkbaa.Wi
