import Derived.Test.YtcchnaldanibgaaXj
namespace Go.Proofs.Ytcchnaldanibgaa
open Go.RowKit
set_option linter.unusedVariables false
set_option linter.unusedSimpArgs false

theorem row_upd2 {w w' : World} {B s n : Nat} {e : TypeId} {v : Value} {xs : List Value} {S : Nat → Prop} (h : w.ownsRow B e s v n xs) (u : Upd S w w') (hs : ∀ k, v.ownBlock = some k → ¬ S k) : w'.ownsRow B e s v n xs := by
  obtain ⟨h1, h2⟩ := h
  refine ⟨h1, ?_⟩
  rcases h2 with h2 | ⟨g, cap, cur, e1, e2, e3, r⟩
  · exact .inl h2
  · refine .inr ⟨g, cap, cur, e1, e2, ?_, r⟩
    have hlt : g < w.heap.size := by
      rcases Nat.lt_or_ge g w.heap.size with h' | h'
      · exact h'
      · rw [Array.getElem?_eq_none h'] at e3; cases e3
    rw [u.block g hlt (hs g (by rw [e1]; rfl))]
    exact e3
def blkOf : Option Addr → Nat
  | some z => z.block
  | none => 0
def entJ (x : VecJ) : Ent := ⟨blkOf x.a, x.c, x.D.length⟩
def entV (x : Vec) : Ent := ⟨blkOf x.a, x.c, x.D.length⟩
def inJ (J : List VecJ) (k : Nat) : Prop := ∃ x, x ∈ J ∧ x.a = some ⟨k, 0, none⟩
def inV (V : List Vec) (k : Nat) : Prop := ∃ x, x ∈ V ∧ x.a = some ⟨k, 0, none⟩
theorem BX.aj {w : World} {b B : Nat} {v1 v2 : Value} {J : List VecJ} {V : List Vec} (h : BX w b B v1 v2 J V) {x : VecJ} (hx : x ∈ J) : x.a = some ⟨blkOf x.a, 0, none⟩ := by
  obtain ⟨o, h0, _⟩ := h.ej x hx
  obtain ⟨a, c, hf, _, _, hn, hs⟩ := o.form
  injection hf with f1 f2 f3
  cases ha : x.a with
  | none => rw [ha] at f1; have := (hn f1.symm).1; rw [this] at h0; cases h0
  | some z => rw [ha] at f1; obtain ⟨g, rfl, _⟩ := hs z f1.symm; rfl
theorem BX.av {w : World} {b B : Nat} {v1 v2 : Value} {J : List VecJ} {V : List Vec} (h : BX w b B v1 v2 J V) {x : Vec} (hx : x ∈ V) : x.a = some ⟨blkOf x.a, 0, none⟩ := by
  obtain ⟨o, h0, _⟩ := h.ev x hx
  obtain ⟨a, c, hf, _, _, hn, hs⟩ := o.form
  injection hf with f1 f2 f3
  cases ha : x.a with
  | none => rw [ha] at f1; have := (hn f1.symm).1; rw [this] at h0; cases h0
  | some z => rw [ha] at f1; obtain ⟨g, rfl, _⟩ := hs z f1.symm; rfl
theorem map_at {α β : Type} {f : α → β} {L : List α} {i : Nat} {e : β} (h : (L.map f)[i]? = some e) : ∃ x, L[i]? = some x ∧ e = f x := by
  rw [List.getElem?_map] at h
  cases hx : L[i]? with
  | none => rw [hx] at h; cases h
  | some x => rw [hx] at h; exact ⟨x, rfl, (Option.some.inj h).symm⟩
theorem book_ints_apart {w : World} {b B : Nat} {v1 v2 : Value} {J : List VecJ} {V : List Vec} (G : BX w b B v1 v2 J V) (hJ : J.length ≤ 1000) :
    Calls Try.prog 57 #[.pointer (some ⟨b, 0, none⟩)] w fun e w' => e = .returned (.bool true) ∧ Upd (inJ J) w w' := by
  rcases G.o1.2 with ⟨hv, hl⟩ | ⟨g, cap, cur, hv, h2, h3, h4, h5, _⟩
  · subst hv
    exact (apartInts_nil b w G.c1).mono fun e w' ⟨he, bl⟩ => ⟨he, Upd.of_below bl⟩
  · subst hv
    have blg := (G.o1.blk g rfl).2
    refine (apartints_any b g cap J.length (J.map entJ) w G.c1 (by simp) h4 h5 ⟨blg, fun i e hi => ?_, fun i j e f hi hj hef => ?_, fun i e hi => ?_, by simpa using hJ⟩ (fun i e hi => ?_)).mono fun e w' ⟨he, u⟩ => ⟨he, u.mono (fun k _ ⟨e, he, hk⟩ => ?_)⟩
    · obtain ⟨x, hx, rfl⟩ := map_at hi
      have := G.o1.cell i x hx
      rw [G.aj (List.mem_of_getElem? hx)] at this
      exact this
    · obtain ⟨x, hx, rfl⟩ := map_at hi
      obtain ⟨y, hy, rfl⟩ := map_at hj
      refine G.dj i j x y hx hy ?_
      rw [G.aj (List.mem_of_getElem? hx), G.aj (List.mem_of_getElem? hy)]
      have : blkOf x.a = blkOf y.a := hef
      rw [this]
    · obtain ⟨x, hx, rfl⟩ := map_at hi
      obtain ⟨o, k1, k2⟩ := G.ej x (List.mem_of_getElem? hx)
      refine ⟨fun hh => ?_, k1, k2⟩
      have hh : blkOf x.a = g := hh
      rw [G.aj (List.mem_of_getElem? hx), hh] at o
      exact rows_ne (k := g) o G.o1 (by decide) rfl rfl
    · obtain ⟨x, hx, rfl⟩ := map_at hi
      obtain ⟨o, k1, k2⟩ := G.ej x (List.mem_of_getElem? hx)
      rw [G.aj (List.mem_of_getElem? hx)] at o
      exact ⟨x.D, rfl, o.low (Nat.zero_le _), fun t ht => by omega⟩
    · obtain ⟨x, hx, rfl⟩ := List.mem_map.1 he
      exact ⟨x, hx, by rw [hk]; exact G.aj hx⟩
theorem vecs_apart {w : World} {b B : Nat} {v2 : Value} {V : List Vec} (c2 : w.cell? ⟨b, 2, none⟩ = some v2) (o2 : OwnV B w v2 V) (ev : ∀ x, x ∈ V → OwnD B w (.slice x.a x.D.length x.c) x.D ∧ 0 < x.D.length ∧ x.D.length ≤ 1000) (dv : ∀ (i j : Nat) (x y : Vec), V[i]? = some x → V[j]? = some y → x.a = y.a → i = j) (av : ∀ x, x ∈ V → x.a = some ⟨blkOf x.a, 0, none⟩) (hV : V.length ≤ 1000) :
    Calls Try.prog 58 #[.pointer (some ⟨b, 0, none⟩)] w fun e w' => e = .returned (.bool true) ∧ Upd (inV V) w w' := by
  rcases o2.2 with ⟨hv, hl⟩ | ⟨g, cap, cur, hv, h2, h3, h4, h5, _⟩
  · subst hv
    exact (apartVector_nil b w c2).mono fun e w' ⟨he, bl⟩ => ⟨he, Upd.of_below bl⟩
  · subst hv
    have blg := (o2.blk g rfl).2
    refine (apartvec_any b g cap V.length (V.map entV) w c2 (by simp) h4 h5 ⟨blg, fun i e hi => ?_, fun i j e f hi hj hef => ?_, fun i e hi => ?_, by simpa using hV⟩ (fun i e hi => ?_)).mono fun e w' ⟨he, u⟩ => ⟨he, u.mono (fun k _ ⟨e, he, hk⟩ => ?_)⟩
    · obtain ⟨x, hx, rfl⟩ := map_at hi
      have := o2.cell i x hx
      rw [av x (List.mem_of_getElem? hx)] at this
      exact this
    · obtain ⟨x, hx, rfl⟩ := map_at hi
      obtain ⟨y, hy, rfl⟩ := map_at hj
      refine dv i j x y hx hy ?_
      rw [av x (List.mem_of_getElem? hx), av y (List.mem_of_getElem? hy)]
      have : blkOf x.a = blkOf y.a := hef
      rw [this]
    · obtain ⟨x, hx, rfl⟩ := map_at hi
      obtain ⟨o, k1, k2⟩ := ev x (List.mem_of_getElem? hx)
      refine ⟨fun hh => ?_, k1, k2⟩
      have hh : blkOf x.a = g := hh
      rw [av x (List.mem_of_getElem? hx), hh] at o
      exact rows_ne (k := g) o o2 (by decide) rfl rfl
    · obtain ⟨x, hx, rfl⟩ := map_at hi
      obtain ⟨o, k1, k2⟩ := ev x (List.mem_of_getElem? hx)
      rw [av x (List.mem_of_getElem? hx)] at o
      exact ⟨x.D, rfl, o.low (Nat.zero_le _), fun t ht => by omega⟩
    · obtain ⟨x, hx, rfl⟩ := List.mem_map.1 he
      exact ⟨x, hx, by rw [hk]; exact av x hx⟩
/-- Book.Apart: what is in the book is apart. -/
theorem book_apart {w : World} {b B : Nat} {v1 v2 : Value} {J : List VecJ} {V : List Vec} (G : BX w b B v1 v2 J V) (hJ : J.length ≤ 1000) (hV : V.length ≤ 1000) :
    Calls Try.prog 36 #[.pointer (some ⟨b, 0, none⟩)] w fun e w' => e = .returned (.bool true) ∧ Upd (fun k => inJ J k ∨ inV V k) w w' := by
  have hlt : b < w.heap.size := Nat.lt_of_lt_of_le G.lt G.ltB
  have bj : ∀ k, inJ J k → B ≤ k := fun k ⟨x, hx, hk⟩ => by
    have o := (G.ej x hx).1
    rw [hk] at o
    exact (o.blk k rfl).1
  have bv : ∀ k, inV V k → B ≤ k := fun k ⟨x, hx, hk⟩ => by
    have o := (G.ev x hx).1
    rw [hk] at o
    exact (o.blk k rfl).1
  have hl := G.lt
  have nej : ∀ {B' s n : Nat} {e : TypeId} {v : Value} {xs : List Value} {k : Nat}, w.ownsRow B' e s v n xs → e ≠ 3 → v.ownBlock = some k → ¬ inJ J k := fun ho hne hk ⟨x, hx, hk2⟩ => by
    have o := (G.ej x hx).1
    rw [hk2] at o
    exact rows_ne ho o hne hk rfl
  refine apart_any b (inJ J) (inV V) w hlt (fun h => ?_) ⟨G.nils 0 (.inl rfl), G.nils 3 (by omega), G.nils 4 (by omega), G.nils 5 (by omega), G.nils 6 (by omega), G.nils 7 (by omega), G.nils 8 (by omega), G.nils 9 (by omega)⟩ (fun v bl => ?_) (fun v u => ?_)
  · rcases h with h | h
    · have := bj b h; omega
    · have := bv b h; omega
  · exact (book_ints_apart (G.bel bl) hJ).mono fun e w' ⟨he, u⟩ => ⟨he, (Upd.of_below bl).trans u⟩
  · refine (vecs_apart (B := B) (v2 := v2) (V := V) ((u.cell (p := ⟨b, 2, none⟩) hlt (fun h => by have := bj b h; omega)).trans G.c2) (row_upd2 G.o2 u (fun k hk => nej G.o2 (by decide) hk)) (fun x hx => ⟨row_upd2 (G.ev x hx).1 u (fun k hk => nej (G.ev x hx).1 (by decide) hk), (G.ev x hx).2⟩) G.dv (fun x hx => G.av hx) hV).mono fun e w' ⟨he, u2⟩ => ⟨he, (u.mono (fun k _ hk => .inl hk)).trans (u2.mono (fun k _ hk => .inr hk))⟩

end Go.Proofs.Ytcchnaldanibgaa
