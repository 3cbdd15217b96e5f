import Derived.Test.YtgjmiemkjnnepaaHi
namespace Go.Proofs.Ytgjmiemkjnnepaa
open Go.RowKit Go.Maps
open Classical
set_option linter.unusedVariables false
set_option linter.unusedSimpArgs false

theorem MBox.given {w w' : World} {q b B : Nat} {m : Mg} {s t v2 v3 v4 v5 : Value} {Da Db : List (SV (Int × Int))} {La Lb : List (SV En)} (h : MBox w q m s t) (G : GM w b B v2 v3 v4 v5 Da Db La Lb) (hb : b ≠ q) (u : Upd (fun k => k = b ∨ v2.ownBlock = some k ∨ v3.ownBlock = some k ∨ v4.ownBlock = some k ∨ v5.ownBlock = some k) w w') : MBox w' q m s t := by
  refine h.upd u ?_
  obtain ⟨c, f, hk⟩ := h.kind
  have no : ∀ {α : Type} {Y : Lay α} {v : Value} {l : List α}, OwnY Y B w v l → (Y.T = yD.T ∨ Y.T = yE.T ∨ Y.T = zD.T ∨ Y.T = zE.T) → v.ownBlock = some q → False := fun ho hT hq => by
    obtain ⟨c', f', hk'⟩ := ho.kind hq
    rw [hk] at hk'
    injection hk' with hk'
    injection hk' with _ hk'
    exact hM _ hT hk'.symm
  rintro (e | e | e | e | e)
  · exact hb e.symm
  · exact no G.o2 (by simp) e
  · exact no G.o3 (by simp) e
  · exact no G.o4 (by simp) e
  · exact no G.o5 (by simp) e
/-- What a Given keeps: as it was. -/
structure Kept (La Lb : List (SV En)) (Da Db : List (SV (Int × Int))) (n : Nat) : Prop where
  ll : La.length = n
  dl : Da.length = n
  lm : La.map (·.D) = Lb.map (·.D)
  dm : Da.map (·.D) = Db.map (·.D)
theorem Kept.snoc {La Lb : List (SV En)} {Da Db : List (SV (Int × Int))} {n : Nat} (h : Kept La Lb Da Db n) {x y : SV En} {x' y' : SV (Int × Int)} (e : x.D = y.D) (e' : x'.D = y'.D) : Kept (La ++ [x]) (Lb ++ [y]) (Da ++ [x']) (Db ++ [y']) (n + 1) :=
  ⟨by simp [h.ll], by simp [h.dl], by simp [h.lm, e], by simp [h.dm, e']⟩
/-- A message's slices are among those that a Given keeps. -/
structure In (La : List (SV En)) (Da : List (SV (Int × Int))) (L : List En) (D : List (Int × Int)) (n1 n2 : Nat) (s t : Value) : Prop where
  ex : ∃ g c g' c', s = .slice (some ⟨g, 0, none⟩) n1 c ∧ t = .slice (some ⟨g', 0, none⟩) n2 c' ∧ (⟨some ⟨g, 0, none⟩, c, L ++ [mkE]⟩ : SV En) ∈ La ∧ (⟨some ⟨g', 0, none⟩, c', D ++ [mkD]⟩ : SV (Int × Int)) ∈ Da
theorem In.app {La : List (SV En)} {Da : List (SV (Int × Int))} {L : List En} {D : List (Int × Int)} {n1 n2 : Nat} {s t : Value} (h : In La Da L D n1 n2 s t) (x : SV En) (y : SV (Int × Int)) : In (La ++ [x]) (Da ++ [y]) L D n1 n2 s t := by
  obtain ⟨g, c, g', c', e1, e2, e3, e4⟩ := h.ex
  exact ⟨g, c, g', c', e1, e2, by simp [e3], by simp [e4]⟩
theorem In.one {La : List (SV En)} {Da : List (SV (Int × Int))} {L : List En} {D : List (Int × Int)} {n1 n2 : Nat} {s t : Value} (h : In La Da L D n1 n2 s t) : s.oneCell' = true ∧ t.oneCell' = true := by
  obtain ⟨g, c, g', c', e1, e2, _⟩ := h.ex
  rw [e1, e2]
  exact ⟨rfl, rfl⟩
def pt (q : Nat) : Value := .pointer (some ⟨q, 0, none⟩)
def nS : Value := .slice none 0 0
/-- Between the operations of 'x, y := g.Msg(a), g.Msg(b)', ahead of the stores. -/
structure RI (T0 : Array Value) (w0 : World) (qa qb b B : Nat) (m m' : Mg) (s t s' t' : Value) (n1 n2 m1 m2 : Nat) (L L' : List En) (D D' : List (Int × Int)) (x0 x1 x2 x3 x4 x5 : Bool) (a : Act) (w : World) : Prop where
  df : a.defers = []
  sz : a.tmps.size = T0.size
  fr : ∀ i, i < 6 ∨ i = 8 ∨ 12 < i → a.tmps[i]? = T0[i]?
  l0 : x0 = true → a.tmps[9]? = some (m.val s t)
  l2 : x2 = true → a.tmps[11]? = some (m'.val s' t')
  bl : Below w0.heap.size w0 w
  ba : MBox w qa m s t
  bb : MBox w qb m' s' t'
  ord : x3 = true → x1 = true
  ord2 : x3 = true → x2 = true
  g : ∃ v2 v3 v4 v5 Da Db La Lb, GM w b B v2 v3 v4 v5 Da Db La Lb ∧ Kept La Lb Da Db (if x3 then 2 else if x1 then 1 else 0) ∧ (x1 = true → ∃ ss tt, a.tmps[10]? = some (m.val ss tt) ∧ In La Da L D n1 n2 ss tt) ∧ (x3 = true → ∃ ss tt, a.tmps[12]? = some (m'.val ss tt) ∧ In La Da L' D' m1 m2 ss tt)
  p6 : x4 = true → ∃ p, a.tmps[6]? = some (pt p) ∧ p ≠ qa ∧ p ≠ qb ∧ b ≠ p ∧ w0.heap.size ≤ p ∧ MBox w p zM nS nS
  p7 : x5 = true → ∃ p, a.tmps[7]? = some (pt p) ∧ p ≠ qa ∧ p ≠ qb ∧ b ≠ p ∧ w0.heap.size ≤ p ∧ MBox w p zM nS nS
  ne : x4 = true → x5 = true → a.tmps[6]? ≠ a.tmps[7]?
/-- Behind the first store, and behind both. -/
structure RJ (T0 : Array Value) (w0 : World) (qa qb b B : Nat) (m m' : Mg) (s t s' t' : Value) (n1 n2 m1 m2 : Nat) (L L' : List En) (D D' : List (Int × Int)) (x7 : Bool) (a : Act) (w : World) : Prop where
  df : a.defers = []
  sz : a.tmps.size = T0.size
  fr : ∀ i, i < 6 ∨ i = 8 ∨ 12 < i → a.tmps[i]? = T0[i]?
  bl : Below w0.heap.size w0 w
  ba : MBox w qa m s t
  bb : MBox w qb m' s' t'
  g : ∃ v2 v3 v4 v5 Da Db La Lb p6 p7 ss tt ss' tt', GM w b B v2 v3 v4 v5 Da Db La Lb ∧ Kept La Lb Da Db 2 ∧ In La Da L D n1 n2 ss tt ∧ In La Da L' D' m1 m2 ss' tt' ∧ a.tmps[6]? = some (pt p6) ∧ a.tmps[7]? = some (pt p7) ∧ p7 ≠ p6 ∧ p6 ≠ qa ∧ p6 ≠ qb ∧ p7 ≠ qa ∧ p7 ≠ qb ∧ b ≠ p6 ∧ b ≠ p7 ∧ w0.heap.size ≤ p7 ∧ MBox w p6 m ss tt ∧ (if x7 then MBox w p7 m' ss' tt' else MBox w p7 zM nS nS ∧ a.tmps[12]? = some (m'.val ss' tt'))
theorem put_at {a : Act} {d i : Nat} {v : Value} (h : i ≠ d) : (a.put (some d) v).tmps[i]? = a.tmps[i]? := at_set_ne _ h
theorem put_self {a : Act} {d : Nat} {v : Value} (h : d < a.tmps.size) : (a.put (some d) v).tmps[d]? = some v := at_set _ h
theorem put_size {a : Act} {d : Nat} {v : Value} : (a.put (some d) v).tmps.size = a.tmps.size := by simp [Act.put]
theorem put_defers {a : Act} {d : Nat} {v : Value} : (a.put (some d) v).defers = a.defers := rfl

end Go.Proofs.Ytgjmiemkjnnepaa
