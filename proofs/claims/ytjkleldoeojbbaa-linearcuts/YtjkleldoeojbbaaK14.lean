import Derived.Test.YtjkleldoeojbbaaK13
namespace Go.Proofs.Ytjkleldoeojbbaa
open Go.RowKit Go.Maps
open Classical
set_option linter.unusedVariables false
set_option linter.unusedSimpArgs false

/-! ### What the search keeps -/
def FV (lb vb ob sb : Nat) : Value := .func (.func 84) #[] #[.pointer (some ⟨lb, 0, none⟩), .pointer (some ⟨vb, 0, none⟩), .pointer (some ⟨ob, 0, none⟩), .pointer (some ⟨sb, 0, none⟩)]
/-- What a call of the search may change. -/
def SS (ob mb : Nat) (v : Value) (k : Nat) : Prop := k = ob ∨ k = mb ∨ v.ownBlock = some k
structure ST (l : List Kl) (a : Option Addr) (c : Nat) (w0 : World) (lb vb ob sb mb : Nat) (w : World) (O : List Int) (v : Value) (n : Nat) (V : List Bool × List Cl → Option Value) : Prop where
  hl : SlY yK w0 a l.length c l
  bel : Below w0.heap.size w0 w
  c0 : w.cell? ⟨lb, 0, none⟩ = some (.slice a l.length c)
  c1 : w.cell? ⟨vb, 0, none⟩ = some (.map (some mb))
  c2 : w.cell? ⟨ob, 0, none⟩ = some v
  f2 : w.frozen? ⟨ob, 0, none⟩ = false
  c3 : w.cell? ⟨sb, 0, none⟩ = some (FV lb vb ob sb)
  mp : MapG zPt w mb n V
  vv : ∀ k u, V k = some u → u = .agg #[]
  own : OwnY yN w0.heap.size w v O
  dd : ∀ k, zPt.ok k → (V k).isSome = true → dead l k.1 k.2
  le : w0.heap.size ≤ ob ∧ w0.heap.size ≤ mb
  ne : lb ≠ ob ∧ vb ≠ ob ∧ sb ≠ ob
  ol : v.ownBlock ≠ some lb ∧ v.ownBlock ≠ some vb ∧ v.ownBlock ≠ some sb ∧ v.ownBlock ≠ some ob
section
variable {l : List Kl} {a : Option Addr} {c : Nat} {w0 : World} {lb vb ob sb mb : Nat} {w w' : World} {O : List Int} {v : Value} {n : Nat} {V : List Bool × List Cl → Option Value}
theorem ST.mne (h : ST l a c w0 lb vb ob sb mb w O v n V) {q j : Nat} {u : Value} (hq : w.cell? ⟨q, j, none⟩ = some u) : q ≠ mb := by
  rintro rfl
  obtain ⟨es, x, e⟩ := h.mp.isMap
  simp [World.cell?, e] at hq
theorem ST.upd {S : Nat → Prop} (h : ST l a c w0 lb vb ob sb mb w O v n V) (u : Upd S w w') (hS : ∀ k, S k → w0.heap.size ≤ k) (h1 : ¬ S lb) (h2 : ¬ S vb) (h3 : ¬ S ob) (h4 : ¬ S sb) (h5 : ¬ S mb) (h6 : ∀ k, v.ownBlock = some k → ¬ S k) : ST l a c w0 lb vb ob sb mb w' O v n V :=
  ⟨h.hl, h.bel.trans (u.below h.bel.size hS), (u.cell (p := ⟨lb, 0, none⟩) (World.block_lt_of_cell? _ _ h.c0) h1).trans h.c0, (u.cell (p := ⟨vb, 0, none⟩) (World.block_lt_of_cell? _ _ h.c1) h2).trans h.c1, (u.cell (p := ⟨ob, 0, none⟩) (World.block_lt_of_cell? _ _ h.c2) h3).trans h.c2, (u.frozen (p := ⟨ob, 0, none⟩) (World.block_lt_of_cell? _ _ h.c2) h3).trans h.f2, (u.cell (p := ⟨sb, 0, none⟩) (World.block_lt_of_cell? _ _ h.c3) h4).trans h.c3, h.mp.upd u h5, h.vv, h.own.upd1 u h6, h.dd, h.le, h.ne, h.ol⟩
theorem ST.later (h : ST l a c w0 lb vb ob sb mb w O v n V) (hb : Below w.heap.size w w') : ST l a c w0 lb vb ob sb mb w' O v n V := h.upd (S := fun _ => False) (Upd.of_below hb) (fun _ h => h.elim) id id id id id (fun _ _ => id)
theorem ST.sl (h : ST l a c w0 lb vb ob sb mb w O v n V) : SlY yK w a l.length c l := h.hl.on h.bel (Nat.le_refl _)
/-- The blocks that it has lie in the world. -/
theorem ST.lts (h : ST l a c w0 lb vb ob sb mb w O v n V) : lb < w.heap.size ∧ vb < w.heap.size ∧ ob < w.heap.size ∧ sb < w.heap.size ∧ mb < w.heap.size ∧ ∀ k, v.ownBlock = some k → k < w.heap.size :=
  ⟨World.block_lt_of_cell? _ _ h.c0, World.block_lt_of_cell? _ _ h.c1, World.block_lt_of_cell? _ _ h.c2, World.block_lt_of_cell? _ _ h.c3, h.mp.lt, fun k hk => (h.own.blk k hk).2⟩
theorem ST.ss_lt (h : ST l a c w0 lb vb ob sb mb w O v n V) {k : Nat} (hk : SS ob mb v k) : k < w.heap.size := by
  obtain ⟨_, _, h3, _, h5, h6⟩ := h.lts
  rcases hk with rfl | rfl | hk
  · exact h3
  · exact h5
  · exact h6 k hk
theorem ST.ss_ge (h : ST l a c w0 lb vb ob sb mb w O v n V) {k : Nat} (hk : SS ob mb v k) : w0.heap.size ≤ k := by
  rcases hk with rfl | rfl | hk
  · exact h.le.1
  · exact h.le.2
  · exact (h.own.blk k hk).1
end
theorem Upd.trans18 {S T : Nat → Prop} {w w1 w2 : World} (h : Upd S w w1) (k : Upd T w1 w2) (hs : ∀ i, i < w.heap.size → T i → S i) : Upd S w w2 :=
  ⟨k.os.trans h.os, k.tape.trans h.tape, k.output.trans h.output, Nat.le_trans h.size k.size, fun i hi hn => (k.block i (Nat.lt_of_lt_of_le hi h.size) (fun ht => hn (hs i hi ht))).trans (h.block i hi hn)⟩
/-- What is left behind a call of the search. -/
def SP (l : List Kl) (a : Option Addr) (c : Nat) (w0 : World) (lb vb ob sb mb : Nat) (s : Option (List Nat)) (k : Nat) (O : List Int) (v : Value) (n : Nat) (w w' : World) : Prop :=
  ∃ v' n' V', ST l a c w0 lb vb ob sb mb w' (O ++ (s.getD []).map (fun (i : Nat) => (i : Int))) v' n' V' ∧ n' ≤ n + 9 ^ k ∧ Upd (SS ob mb v) w w' ∧ (v'.ownBlock = v.ownBlock ∨ ∃ g, v'.ownBlock = some g ∧ w.heap.size ≤ g)
/-- What the search does, k calls being left at most. -/
def SC (l : List Kl) (a : Option Addr) (c : Nat) (w0 : World) (lb vb ob sb mb k : Nat) : Prop :=
  ∀ (D : List Bool) (L : List Cl) (b : Nat) (m : Option Nat) (O : List Int) (v : Value) (n : Nat) (V : List Bool × List Cl → Option Value) (w : World), D.length = 8 → cU D l.length ≤ k → L.length + k ≤ 8 → O.length + k ≤ 8 → n + 9 ^ k ≤ 9 ^ 9 → Led w b m L → ST l a c w0 lb vb ob sb mb w O v n V → b ≠ ob → v.ownBlock ≠ some b → m ≠ some mb →
    Calls Try.prog 84 #[.agg (D.map Value.bool).toArray, .pointer (some ⟨b, 0, none⟩), .pointer (some ⟨lb, 0, none⟩), .pointer (some ⟨vb, 0, none⟩), .pointer (some ⟨ob, 0, none⟩), .pointer (some ⟨sb, 0, none⟩)] w fun e w' => e = .returned (.bool (srK l k D L).isSome) ∧ SP l a c w0 lb vb ob sb mb (srK l k D L) k O v n w w'
theorem pow9 (k : Nat) : 1 ≤ 9 ^ k := Nat.one_le_pow _ _ (by omega)
theorem SP.none_ {l : List Kl} {a : Option Addr} {c : Nat} {w0 : World} {lb vb ob sb mb k : Nat} {O : List Int} {v : Value} {n : Nat} {V : List Bool × List Cl → Option Value} {w w' : World} {s : Option (List Nat)} (h : ST l a c w0 lb vb ob sb mb w O v n V) (hb : Below w.heap.size w w') (hs : s.getD [] = []) : SP l a c w0 lb vb ob sb mb s k O v n w w' :=
  ⟨v, n, V, by rw [hs]; simpa using h.later hb, Nat.le_add_right _ _, Upd.of_below hb, .inl rfl⟩

end Go.Proofs.Ytjkleldoeojbbaa
