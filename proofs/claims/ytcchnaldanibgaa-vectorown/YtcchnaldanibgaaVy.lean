import Derived.Test.YtcchnaldanibgaaVw
namespace Go.Proofs.Ytcchnaldanibgaa
open Go.RowKit
set_option linter.unusedVariables false
set_option linter.unusedSimpArgs false

def okDs : List (List (Int × Int)) → Prop
  | [] => False
  | M :: T => (1 ≤ M.length ∧ M.length ≤ 7) ∧ ∀ V, V ∈ T → V.length = M.length
def okB : List (List (Int × Int)) → Bool
  | [] => false
  | M :: T => decide (1 ≤ M.length ∧ M.length ≤ 7) && T.all fun V => decide (V.length = M.length)
theorem okB_iff (L : List (List (Int × Int))) : okB L = true ↔ okDs L := by
  cases L with
  | nil => simp [okB, okDs]
  | cons M T => simp [okB, okDs]
def mgE (L : List (List (Int × Int))) : Int := if okB L = true then 0 else 30
def mgD (L : List (List (Int × Int))) : List (Int × Int) := if okB L = true then (match L with | [] => [] | M :: T => mer M T) else []
theorem mgE_ok {L : List (List (Int × Int))} (h : okDs L) : mgE L = 0 := by unfold mgE; rw [if_pos ((okB_iff L).2 h)]
theorem mgE_bad {L : List (List (Int × Int))} (h : ¬ okDs L) : mgE L = 30 := by unfold mgE; rw [if_neg (fun e => h ((okB_iff L).1 e))]
theorem mgD_bad {L : List (List (Int × Int))} (h : ¬ okDs L) : mgD L = [] := by unfold mgD; rw [if_neg (fun e => h ((okB_iff L).1 e))]
theorem mgD_ok {M : List (Int × Int)} {T : List (List (Int × Int))} (h : okDs (M :: T)) : mgD (M :: T) = mer M T := by unfold mgD; rw [if_pos ((okB_iff (M :: T)).2 h)]
theorem okDs_iff (x : Vec) (T : List Vec) : okDs ((x :: T).map (·.D)) ↔ ((1 ≤ x.D.length ∧ x.D.length ≤ 7) ∧ ∀ y, y ∈ T → y.D.length = x.D.length) := by
  simp only [List.map_cons, okDs]
  constructor
  · rintro ⟨h1, h2⟩
    exact ⟨h1, fun y hy => h2 y.D (List.mem_map_of_mem hy)⟩
  · rintro ⟨h1, h2⟩
    refine ⟨h1, fun V hV => ?_⟩
    obtain ⟨y, hy, rfl⟩ := List.mem_map.1 hV
    exact h2 y hy
theorem mergeU (X : List Vec) (a : Option Addr) (n c : Nat) (w : World) (hn : X.length = n) (hX : X ≠ [] → ∃ q o, a = some ⟨q, o, none⟩ ∧ q < w.heap.size ∧ LieV w q o X) (hc : n ≤ c) (hm : c ≤ maxLen) :
    Calls Try.prog 20 #[.slice a n c] w fun e w' => ∃ a' m c', e = .returned (.tuple #[.slice a' m c', .int .i64 (mgE (X.map (·.D)))]) ∧ SlN w' a' m c' (mgD (X.map (·.D))) ∧ Below w.heap.size w w' := by
  cases X with
  | nil =>
    subst hn
    have hb : ¬ okDs (([] : List Vec).map (·.D)) := fun h => h
    rw [mgE_bad hb, mgD_bad hb]
    refine (merge_none a c w).mono ?_
    rintro e w' ⟨rfl, rfl⟩
    exact ⟨_, _, _, rfl, SlN.nil _, Below.refl _ _⟩
  | cons x T =>
    obtain ⟨q, o, rfl, hq, hl⟩ := hX (by simp)
    rw [List.length_cons] at hn
    by_cases hok : (1 ≤ x.D.length ∧ x.D.length ≤ 7) ∧ ∀ y, y ∈ T → y.D.length = x.D.length
    · rw [mgE_ok ((okDs_iff x T).2 hok)]
      have hd : mgD ((x :: T).map (·.D)) = mer x.D (T.map (·.D)) := mgD_ok ((okDs_iff x T).2 hok)
      rw [hd]
      subst hn
      refine (merge_ok x T q o c w hl hq hc hm hok.1 hok.2).mono ?_
      rintro e w' ⟨g, rfl, o1, b1⟩
      exact ⟨_, _, _, rfl, o1.sln, b1⟩
    · rw [mgE_bad (fun h => hok ((okDs_iff x T).1 h)), mgD_bad (fun h => hok ((okDs_iff x T).1 h))]
      subst hn
      by_cases hx : 1 ≤ x.D.length ∧ x.D.length ≤ 7
      · refine (merge_bad x T q o c w hl hq hc hm hx (fun hh => hok ⟨hx, hh⟩)).mono ?_
        rintro e w' ⟨rfl, b1⟩
        exact ⟨_, _, _, rfl, SlN.nil _, b1⟩
      · refine (merge_bad0 x T q o c w hl hx).mono ?_
        rintro e w' ⟨rfl, rfl⟩
        exact ⟨_, _, _, rfl, SlN.nil _, Below.refl _ _⟩
theorem refmergeU (X : List Vec) (a : Option Addr) (n c : Nat) (w : World) (hn : X.length = n) (hX : X ≠ [] → ∃ q o, a = some ⟨q, o, none⟩ ∧ q < w.heap.size ∧ LieV w q o X) (hc : n ≤ c) (hm : c ≤ maxLen) :
    Calls Try.prog 21 #[.slice a n c] w fun e w' => ∃ a' m c', e = .returned (.tuple #[.slice a' m c', .int .i64 (mgE (X.map (·.D)))]) ∧ SlN w' a' m c' (mgD (X.map (·.D))) ∧ Below w.heap.size w w' := by
  cases X with
  | nil =>
    subst hn
    have hb : ¬ okDs (([] : List Vec).map (·.D)) := fun h => h
    rw [mgE_bad hb, mgD_bad hb]
    refine (refmerge_none a c w).mono ?_
    rintro e w' ⟨rfl, rfl⟩
    exact ⟨_, _, _, rfl, SlN.nil _, Below.refl _ _⟩
  | cons x T =>
    obtain ⟨q, o, rfl, hq, hl⟩ := hX (by simp)
    rw [List.length_cons] at hn
    refine (refmerge_any x T q o c n w hl hq hn hc hm).mono ?_
    rintro e w' ⟨⟨hok, a', c', rfl, s1⟩ | ⟨hbad, rfl⟩, b1⟩
    · rw [mgE_ok ((okDs_iff x T).2 hok)]
      have hd : mgD ((x :: T).map (·.D)) = mer x.D (T.map (·.D)) := mgD_ok ((okDs_iff x T).2 hok)
      rw [hd]
      exact ⟨_, _, _, rfl, s1, b1⟩
    · rw [mgE_bad (fun h => hbad ((okDs_iff x T).1 h)), mgD_bad (fun h => hbad ((okDs_iff x T).1 h))]
      exact ⟨_, _, _, rfl, SlN.nil _, b1⟩

/-- A vector that was handed on, with the mark behind it. -/
structure ZE where
  g : Nat
  c : Nat
  D : List (Int × Int)
def ZE.m (z : ZE) : Vec := ⟨some ⟨z.g, 0, none⟩, z.c, z.D ++ [(77, 88)]⟩
def ZE.x (z : ZE) : Vec := ⟨some ⟨z.g, 0, none⟩, z.c, z.D⟩
theorem GX.xok {w : World} {b B : Nat} {v2 v3 : Value} {Z : List ZE} {L3 : List Vec} (G : GX w b B v2 v3 (Z.map ZE.m) L3) (z : ZE) (hz : z ∈ Z) : SlN w (some ⟨z.g, 0, none⟩) z.D.length z.c z.D :=
  dcs_prefix (G.d2 z.m (List.mem_map_of_mem hz)) rfl
theorem OwnV.updB {B : Nat} {S : Nat → Prop} {w w' : World} {v : Value} {l : List Vec} (h : OwnV B w v l) (u : Upd S w w') (hs : ∀ k, v.ownBlock = some k → ¬ S k) : OwnV B w' v l := by
  obtain ⟨h1, h2⟩ := h
  refine ⟨h1, ?_⟩
  rcases h2 with h2 | ⟨g, cap, cur, e1, e2, e3, r⟩
  · exact .inl h2
  · refine .inr ⟨g, cap, cur, e1, e2, ?_, r⟩
    have hlt : g < w.heap.size := by
      rcases Nat.lt_or_ge g w.heap.size with h' | h'
      · exact h'
      · rw [Array.getElem?_eq_none h'] at e3; cases e3
    rw [u.block g hlt (hs g (by rw [e1]; rfl))]
    exact e3
/-- Another row of vectors grows. -/
theorem GX.grow {w w' : World} {b B : Nat} {v2 v3 u : Value} {L2 L3 LX : List Vec} (G : GX w b B v2 v3 L2 L3) (hu : OwnV B w u LX) (g : w.grownBy w' u.ownBlock) (hne : ∀ k, u.ownBlock = some k → v2.ownBlock ≠ some k ∧ v3.ownBlock ≠ some k) : GX w' b B v2 v3 L2 L3 := by
  have hlt : b < w.heap.size := Nat.lt_of_lt_of_le G.lt G.ltB
  have hrow : u.ownBlock ≠ some b := fun e => by have := (hu.blk b e).1; have := G.lt; omega
  exact ⟨G.lt, Nat.le_trans G.ltB g.size, grown_cell g G.c0 hrow, grown_cell g G.c4 hrow, grown_cell g G.c6 hrow, grown_cell g G.c8 hrow, grown_cell g G.c2 hrow, grown_cell g G.c3 hrow, grown_frozen g hlt G.f2 hrow, grown_frozen g hlt G.f3 hrow,
    OwnV.grownV (B' := 0) (L' := []) G.o2 g (fun k e e' => (hne k e').1 e), OwnV.grownV (B' := 0) (L' := []) G.o3 g (fun k e e' => (hne k e').2 e), G.ne, fun x hx => (G.d2 x hx).grownV hu g, fun x hx => (G.d3 x hx).grownV hu g⟩
/-- Slices of vectors that came in. -/
def CameV (w : World) (a : Option Addr) (n c : Nat) (L : List Vec) : Prop := L.length = n ∧ n ≤ c ∧ c ≤ maxLen ∧ (L ≠ [] → ∃ q o, a = some ⟨q, o, none⟩ ∧ q < w.heap.size ∧ LieV w q o L) ∧ n * 24 ≤ 140737488351232 ∧ ∀ y, y ∈ L → y.D.length * 16 ≤ 140737488351232

end Go.Proofs.Ytcchnaldanibgaa
