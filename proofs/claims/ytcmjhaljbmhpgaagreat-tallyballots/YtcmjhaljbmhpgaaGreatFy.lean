import Derived.Test.YtcmjhaljbmhpgaaGreatGYa
namespace Go.Proofs.YtcmjhaljbmhpgaaGreat
open Go.RowKit Go.Maps
set_option linter.unusedVariables false
set_option linter.unusedSimpArgs false

/-- A stamp. -/
structure St where
  n : Int
  h : Int
  l : Int
def St.cs (x : St) : List Value := [.int .i64 x.n, .int .u64 x.h, .int .u64 x.l]
structure St.fits (x : St) : Prop where
  nw : (Lit.int .i64 x.n).wf = true
  h0 : 0 ≤ x.h ∧ x.h < 18446744073709551616
  l0 : 0 ≤ x.l ∧ x.l < 18446744073709551616
/-- A draw as a number. -/
def nv (h l : Int) : Int := h * 18446744073709551616 + l
def St.v (x : St) : Int := nv x.h x.l
def cmpI (a b : Int) : Int := if a < b then -1 else if b < a then 1 else 0
def cmpD (h l h' l' : Int) : Int := if h = h' then cmpI l l' else cmpI h h'
theorem cmpD_le {h l h' l' : Int} (b1 : 0 ≤ l ∧ l < 18446744073709551616) (b2 : 0 ≤ l' ∧ l' < 18446744073709551616) : cmpD h l h' l' ≤ 0 ↔ nv h l ≤ nv h' l' := by
  unfold cmpD cmpI nv
  by_cases e : h = h'
  · subst e
    rw [if_pos rfl]
    split
    · omega
    · split <;> omega
  · rw [if_neg e]
    split
    · omega
    · split <;> omega
theorem cmpD_ge {h l h' l' : Int} (b1 : 0 ≤ l ∧ l < 18446744073709551616) (b2 : 0 ≤ l' ∧ l' < 18446744073709551616) : 0 ≤ cmpD h l h' l' ↔ nv h' l' ≤ nv h l := by
  unfold cmpD cmpI nv
  by_cases e : h = h'
  · subst e
    rw [if_pos rfl]
    split
    · omega
    · split <;> omega
  · rw [if_neg e]
    split
    · omega
    · split <;> omega
/-- A replica's greatest draw. -/
def gx : List St → Int → Int
  | [], _ => 0
  | e :: r, n => if e.n = n then max e.v (gx r n) else gx r n
theorem gx_nonneg : ∀ (L : List St) (n : Int), 0 ≤ gx L n
  | [], n => by simp [gx]
  | e :: r, n => by
    have := gx_nonneg r n
    unfold gx
    split <;> omega
theorem gx_snoc : ∀ (L : List St) (e : St) (n : Int), gx (L ++ [e]) n = if e.n = n then max (gx L n) e.v else gx L n
  | [], e, n => by simp [gx]; split <;> omega
  | y :: r, e, n => by
    have ih := gx_snoc r e n
    simp only [List.cons_append, gx, ih]
    split <;> split <;> omega
def gb (L : List St) (e : St) : Bool := decide (e.v ≤ 0) || L.any (fun p => decide (p.n = e.n) && decide (e.v ≤ p.v))
theorem gb_iff (e : St) : ∀ L : List St, gb L e = decide (e.v ≤ gx L e.n)
  | [] => by
    have h : gb [] e = (decide (e.v ≤ 0) || false) := rfl
    rw [h, Bool.or_false]
    exact decide_eq_decide.2 Iff.rfl
  | y :: r => by
    have ih := gb_iff e r
    unfold gb at ih ⊢
    have hg : gx (y :: r) e.n = if y.n = e.n then max y.v (gx r e.n) else gx r e.n := rfl
    rw [List.any_cons, hg]
    by_cases h1 : y.n = e.n
    · rw [if_pos h1]
      have hm : e.v ≤ max y.v (gx r e.n) ↔ e.v ≤ y.v ∨ e.v ≤ gx r e.n := by omega
      rw [Bool.eq_iff_iff] at ih ⊢
      simp only [h1, decide_true, Bool.true_and, Bool.or_eq_true, decide_eq_true_eq] at ih ⊢
      rw [hm, ← ih]
      constructor
      · rintro (h | h | h) <;> simp [h]
      · rintro (h | h | h) <;> simp [h]
    · rw [if_neg h1]
      simp only [h1, decide_false, Bool.false_and, Bool.false_or]
      exact ih
theorem gb_snoc (L : List St) (p e : St) : gb (L ++ [p]) e = (gb L e || (decide (p.n = e.n) && decide (e.v ≤ p.v))) := by simp [gb, Bool.or_assoc]
/-- Are they fresh; where not. -/
def frA : List St → List St → Nat → Bool × Int
  | _, [], _ => (true, 0)
  | past, e :: r, i => if e.v ≤ gx past e.n then (false, i) else frA (past ++ [e]) r (i + 1)
theorem frA_at {L : List St} {j : Nat} {e : St} (h : L[j]? = some e) : frA (L.take j) (L.drop j) j = if e.v ≤ gx (L.take j) e.n then (false, (j : Int)) else frA (L.take (j + 1)) (L.drop (j + 1)) (j + 1) := by
  have hj := (List.getElem?_eq_some_iff.1 h).1
  have he := (List.getElem?_eq_some_iff.1 h).2
  rw [List.drop_eq_getElem_cons hj, he, frA, List.take_add_one, h]
  rfl
theorem frA_end (L : List St) : frA (L.take L.length) (L.drop L.length) L.length = (true, 0) := by simp [frA]
def fr (L : List St) : Bool × Int := frA [] L 0
/-- The greatest draws, as the map has them. -/
def dV (v : Int) : Value := .agg #[.int .u64 (v / 18446744073709551616), .int .u64 (v % 18446744073709551616)]
def gxF (L : List St) (n : Int) : Option Value := if gx L n = 0 then none else some (dV (gx L n))
theorem gxF_getD (L : List St) (n : Int) : (gxF L n).getD (.agg #[.int .u64 0, .int .u64 0]) = dV (gx L n) := by
  unfold gxF
  split
  · rename_i h; rw [h]; rfl
  · rfl
theorem nv_div {h l : Int} (b : 0 ≤ l ∧ l < 18446744073709551616) : nv h l / 18446744073709551616 = h ∧ nv h l % 18446744073709551616 = l := by
  unfold nv
  omega
theorem nv_back (v : Int) : nv (v / 18446744073709551616) (v % 18446744073709551616) = v := by
  unfold nv
  omega
theorem gxF_snoc {L : List St} {e : St} (hf : e.fits) (h2 : gx L e.n < e.v) : (fun s' => if s' = e.n then some (.agg #[.int .u64 e.h, .int .u64 e.l]) else gxF L s') = gxF (L ++ [e]) := by
  funext s
  have hn := gx_nonneg L e.n
  unfold gxF
  rw [gx_snoc]
  by_cases hs : s = e.n
  · subst hs
    have e1 : max (gx L e.n) e.v = e.v := by omega
    have e2 : ¬ e.v = 0 := by omega
    obtain ⟨d1, d2⟩ := nv_div (h := e.h) hf.l0
    rw [if_pos rfl, if_pos rfl, e1, if_neg e2]
    unfold dV St.v
    rw [d1, d2]
  · have hs' : ¬ e.n = s := fun x => hs x.symm
    simp [hs, hs']

end Go.Proofs.YtcmjhaljbmhpgaaGreat
