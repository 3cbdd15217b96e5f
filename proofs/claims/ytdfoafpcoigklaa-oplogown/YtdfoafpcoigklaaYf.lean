import Derived.Test.YtdfoafpcoigklaaYe
namespace Go.Proofs.Ytdfoafpcoigklaa
open Go.RowKit Go.Maps
set_option linter.unusedVariables false
set_option linter.unusedSimpArgs false

section
variable {α : Type} {Y : Lay α} {Z : Lay (SV α)} {p : Nat} {mk : Nat → Nat → α}
/-- A book at block b that has lists of one type alone, in its cell p. -/
structure BY (Y : Lay α) (Z : Lay (SV α)) (p : Nat) (w : World) (b B : Nat) (v : Value) (V : List (SV α)) : Prop where
  lt : b < B
  ltB : B ≤ w.heap.size
  cp : w.cell? ⟨b, p, none⟩ = some v
  fp : w.frozen? ⟨b, p, none⟩ = false
  ce : ∀ i, i < 10 → i ≠ p → w.cell? ⟨b, i, none⟩ = some (.slice none 0 0)
  o : OwnY Z B w v V
  ev : ∀ x, x ∈ V → OwnY Y B w x.v x.D ∧ 0 < x.D.length ∧ x.D.length ≤ 1000
  dif : ∀ (i j : Nat) (x y : SV α), V[i]? = some x → V[j]? = some y → x.a = y.a → i = j
theorem BY.bel {w w' : World} {b B : Nat} {v : Value} {V : List (SV α)} (h : BY Y Z p w b B v V) (hb : Below w.heap.size w w') : BY Y Z p w' b B v V := by
  have hlt : b < w.heap.size := Nat.lt_of_lt_of_le h.lt h.ltB
  exact ⟨h.lt, Nat.le_trans h.ltB hb.size, (hb.cell (p := ⟨b, _, none⟩) hlt).trans h.cp, (hb.frozen (p := ⟨b, _, none⟩) hlt).trans h.fp, fun i h0 h1 => (hb.cell (p := ⟨b, _, none⟩) hlt).trans (h.ce i h0 h1), h.o.grow hb, fun x hx => ⟨(h.ev x hx).1.grow hb, (h.ev x hx).2⟩, h.dif⟩
/-- A new book. -/
theorem BY.new (Y : Lay α) (Z : Lay (SV α)) (p : Nat) (hp : p < 10) (w : World) (t : TypeId) : BY Y Z p (w.alloc (.cells #[.slice none 0 0, .slice none 0 0, .slice none 0 0, .slice none 0 0, .slice none 0 0, .slice none 0 0, .slice none 0 0, .slice none 0 0, .slice none 0 0, .slice none 0 0] t)) w.heap.size (w.heap.size + 1) (.slice none 0 0) [] := by
  have hc : ∀ i, i < 10 → (w.alloc (.cells #[.slice none 0 0, .slice none 0 0, .slice none 0 0, .slice none 0 0, .slice none 0 0, .slice none 0 0, .slice none 0 0, .slice none 0 0, .slice none 0 0, .slice none 0 0] t)).cell? ⟨w.heap.size, i, none⟩ = some (.slice none 0 0) := by
    intro i hi
    rw [World.cell?_alloc_at _ _ _ _ rfl]
    rcases (by omega : i = 0 ∨ i = 1 ∨ i = 2 ∨ i = 3 ∨ i = 4 ∨ i = 5 ∨ i = 6 ∨ i = 7 ∨ i = 8 ∨ i = 9) with rfl | rfl | rfl | rfl | rfl | rfl | rfl | rfl | rfl | rfl <;> rfl
  exact ⟨Nat.lt_succ_self _, by simp, hc p hp, by simp, fun i h0 _ => hc i h0, OwnY.nil _ _ _, (fun x hx => by cases hx), (fun i j x y hx => by simp at hx)⟩
theorem BY.push {w w3 : World} {b B : Nat} {v v' : Value} {V : List (SV α)} {x : SV α} (hT : Y.T ≠ Z.T) (G : BY Y Z p w b B v V) (hx : OwnY Y B w x.v x.D) (h0 : 0 < x.D.length) (h1 : x.D.length ≤ 1000) (hn : ∀ y, y ∈ V → y.a ≠ x.a) (g3 : w.grownBy w3 v.ownBlock) (o3 : OwnY Z B w3 v' (V ++ [x])) :
    BY Y Z p (w3.setCell ⟨b, p, none⟩ v') b B v' (V ++ [x]) := by
  have hlt : b < w.heap.size := Nat.lt_of_lt_of_le G.lt G.ltB
  have hrow : v.ownBlock ≠ some b := fun e => by have := (G.o.blk b e).1; have := G.lt; omega
  have ob : (⟨b, p, none⟩ : Addr).block < B := G.lt
  refine ⟨G.lt, by simpa [World.setCell] using Nat.le_trans G.ltB g3.size, setc_eq (gcell g3 G.cp hrow), setf (gfroz g3 hlt G.fp hrow), fun i h0 h1 => setc_ne (gcell g3 (G.ce i h0 h1) hrow) h1, o3.low_set ob _, fun y hy => ?_, fun i j y z hy hz e => ?_⟩
  · rcases List.mem_append.1 hy with hy | hy
    · exact ⟨((G.ev y hy).1.grownZ G.o hT g3).low_set ob _, (G.ev y hy).2⟩
    · simp at hy
      subst hy
      exact ⟨(hx.grownZ G.o hT g3).low_set ob _, h0, h1⟩
  · have il := (List.getElem?_eq_some_iff.1 hy).1
    have jl := (List.getElem?_eq_some_iff.1 hz).1
    rw [List.length_append, List.length_singleton] at il jl
    by_cases hi : i < V.length
    · rw [List.getElem?_append_left hi] at hy
      by_cases hj : j < V.length
      · rw [List.getElem?_append_left hj] at hz
        exact G.dif i j y z hy hz e
      · have : j = V.length := by omega
        subst this
        rw [List.getElem?_append_right (Nat.le_refl _), Nat.sub_self] at hz
        simp at hz
        subst hz
        exact absurd e (hn y (List.mem_of_getElem? hy))
    · have : i = V.length := by omega
      subst this
      rw [List.getElem?_append_right (Nat.le_refl _), Nat.sub_self] at hy
      simp at hy
      subst hy
      by_cases hj : j < V.length
      · rw [List.getElem?_append_left hj] at hz
        exact absurd e.symm (hn z (List.mem_of_getElem? hz))
      · omega
def abk : Option Addr → Nat
  | some z => z.block
  | none => 0
def entY (x : SV α) : Ent := ⟨abk x.a, x.c, x.D.length⟩
def inY (V : List (SV α)) (k : Nat) : Prop := ∃ x, x ∈ V ∧ x.a = some ⟨k, 0, none⟩
theorem BY.av {w : World} {b B : Nat} {v : Value} {V : List (SV α)} (h : BY Y Z p w b B v V) {x : SV α} (hx : x ∈ V) : x.a = some ⟨abk x.a, 0, none⟩ := by
  obtain ⟨o, h0, _⟩ := h.ev x hx
  obtain ⟨a, c, hf, _, _, hn, hs⟩ := o.form
  unfold SV.v at hf
  injection hf with f1 f2 f3
  cases ha : x.a with
  | none => rw [ha] at f1; have := (hn f1.symm).1; rw [this] at h0; cases h0
  | some z => rw [ha] at f1; obtain ⟨g, rfl, _⟩ := hs z f1.symm; rfl
theorem map_at' {β γ : Type} {f : β → γ} {L : List β} {i : Nat} {e : γ} (h : (L.map f)[i]? = some e) : ∃ x, L[i]? = some x ∧ e = f x := by
  rw [List.getElem?_map] at h
  cases hx : L[i]? with
  | none => rw [hx] at h; cases h
  | some x => rw [hx] at h; exact ⟨x, rfl, (Option.some.inj h).symm⟩
/-- A book's lists, as its look wants them. -/
theorem BY.lb {w : World} {b B g n c : Nat} {V : List (SV α)} (hT : Y.T ≠ Z.T) (K : Z.Ok) (hcs : ∀ x, Z.cs x = [x.v]) (hk : Z.k = 1) (G : BY Y Z p w b B (.slice (some ⟨g, 0, none⟩) n c) V) (hV : V.length ≤ 1000) : LBk w g (V.map entY) ∧ (∀ i e, (V.map entY)[i]? = some e → MkY Y mk w e i 0) := by
  have blg := (G.o.blk g rfl).2
  refine ⟨⟨blg, fun i e hi => ?_, fun i j e f hi hj hef => ?_, fun i e hi => ?_, by simpa using hV⟩, fun i e hi => ?_⟩
  · obtain ⟨x, hx, rfl⟩ := map_at' hi
    have := G.o.cell K i x hx 0 x.v (by rw [hcs]; rfl)
    rw [hk, Nat.mul_one, Nat.add_zero] at this
    unfold SV.v at this
    rw [G.av (List.mem_of_getElem? hx)] at this
    exact this
  · obtain ⟨x, hx, rfl⟩ := map_at' hi
    obtain ⟨y, hy, rfl⟩ := map_at' hj
    refine G.dif i j x y hx hy ?_
    rw [G.av (List.mem_of_getElem? hx), G.av (List.mem_of_getElem? hy)]
    have : abk x.a = abk y.a := hef
    rw [this]
  · obtain ⟨x, hx, rfl⟩ := map_at' hi
    obtain ⟨o, h0, h1⟩ := G.ev x (List.mem_of_getElem? hx)
    refine ⟨fun e => ?_, h0, h1⟩
    have e2 : x.v.ownBlock = some g := by unfold SV.v; rw [G.av (List.mem_of_getElem? hx)]; show some (abk x.a) = some g; rw [show abk x.a = g from e]
    exact o.apart G.o hT g e2 rfl
  · obtain ⟨x, hx, rfl⟩ := map_at' hi
    obtain ⟨o, h0, h1⟩ := G.ev x (List.mem_of_getElem? hx)
    unfold SV.v at o
    rw [G.av (List.mem_of_getElem? hx)] at o
    exact ⟨x.D, rfl, o.low (Nat.zero_le _), fun t ht => by omega⟩
theorem BY.blk {w : World} {b B : Nat} {v : Value} {V : List (SV α)} (G : BY Y Z p w b B v V) {k : Nat} (h : Go.Proofs.Ytdfoafpcoigklaa.blk (V.map entY) k) : inY V k := by
  obtain ⟨e, he, hk⟩ := h
  obtain ⟨x, hx, rfl⟩ := List.mem_map.1 he
  exact ⟨x, hx, by rw [G.av hx, hk]; rfl⟩
end

end Go.Proofs.Ytdfoafpcoigklaa
