import Derived.Test.YtcmjhaljbmhpgaaGreatHb
namespace Go.Proofs.YtcmjhaljbmhpgaaGreat
open Go.RowKit Go.Maps
open Classical
set_option linter.unusedVariables false
set_option linter.unusedSimpArgs false

theorem Upd.trans9 {S T : Nat → Prop} {a b c : World} (h : Upd S a b) (k : Upd T b c) (hs : ∀ i, i < a.heap.size → T i → S i) : Upd S a c :=
  ⟨k.os.trans h.os, k.tape.trans h.tape, k.output.trans h.output, Nat.le_trans h.size k.size, fun i hi hn => (k.block i (Nat.lt_of_lt_of_le hi h.size) (fun ht => hn (hs i hi ht))).trans (h.block i hi hn)⟩
/-- A Given over a change of blocks of other types. -/
theorem GM.updT {w w' : World} {b B : Nat} {v2 v3 v4 v5 : Value} {Da Db : List (SV (Int × Int))} {La Lb : List (SV En)} (G : GM w b B v2 v3 v4 v5 Da Db La Lb) {S : Nat → Prop} (u : Upd S w w') (hb : ¬ S b) (hS : ∀ k, k < w.heap.size → S k → ∃ cs T f, w.heap[k]? = some (.cells cs T f) ∧ T ≠ zD.T ∧ T ≠ zE.T ∧ T ≠ yD.T ∧ T ≠ yE.T) : GM w' b B v2 v3 v4 v5 Da Db La Lb := by
  have hlt : b < w.heap.size := Nat.lt_of_lt_of_le G.lt G.ltB
  have go : ∀ {α : Type} {Y : Lay α} {B' : Nat} {v : Value} {l : List α}, (Y.T = zD.T ∨ Y.T = zE.T ∨ Y.T = yD.T ∨ Y.T = yE.T) → OwnY Y B' w v l → OwnY Y B' w' v l := fun hT ho => ho.upd1 u (fun g e hs => by
    obtain ⟨cs, f, e1⟩ := ho.kind e
    obtain ⟨cs', T, f', e2, n1, n2, n3, n4⟩ := hS g (ho.blk g e).2 hs
    rw [e1] at e2
    injection e2 with e2
    injection e2 with _ e3
    rcases hT with hT | hT | hT | hT
    · exact n1 (e3.symm.trans hT)
    · exact n2 (e3.symm.trans hT)
    · exact n3 (e3.symm.trans hT)
    · exact n4 (e3.symm.trans hT))
  exact ⟨G.lt, Nat.le_trans G.ltB u.size, (u.cell (p := ⟨b, _, none⟩) hlt hb).trans G.c2, (u.cell (p := ⟨b, _, none⟩) hlt hb).trans G.c3, (u.cell (p := ⟨b, _, none⟩) hlt hb).trans G.c4, (u.cell (p := ⟨b, _, none⟩) hlt hb).trans G.c5, fun i => (u.frozen (p := ⟨b, _, none⟩) hlt hb).trans (G.f i), fun i h0 h1 => (u.cell (p := ⟨b, _, none⟩) hlt hb).trans (G.ce i h0 h1), go (.inl rfl) G.o2, go (.inl rfl) G.o3, go (.inr (.inl rfl)) G.o4, go (.inr (.inl rfl)) G.o5, G.ne2, G.ne4, fun x hx => go (.inr (.inr (.inl rfl))) (G.m2 x hx), fun x hx => go (.inr (.inr (.inl rfl))) (G.m3 x hx), fun x hx => go (.inr (.inr (.inr rfl))) (G.m4 x hx), fun x hx => go (.inr (.inr (.inr rfl))) (G.m5 x hx)⟩

end Go.Proofs.YtcmjhaljbmhpgaaGreat
