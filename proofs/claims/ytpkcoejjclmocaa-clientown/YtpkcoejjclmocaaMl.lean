import Derived.Test.YtpkcoejjclmocaaMj
namespace Go.Proofs.Ytpkcoejjclmocaa
open Go.RowKit
set_option linter.unusedVariables false

/-- The results of operations. -/
def rl (L : List Cl) : List Opn → List Rs
  | [] => []
  | o :: r => wd L o.k o.s o.v :: rl (dn L o.k o.s o.v) r
theorem rl_length (L : List Cl) : ∀ P : List Opn, (rl L P).length = P.length := by
  intro P
  induction P generalizing L with
  | nil => rfl
  | cons o r ih => simp [rl, ih]
theorem rl_snoc (L : List Cl) (P : List Opn) (o : Opn) : rl L (P ++ [o]) = rl L P ++ [wd (pl L P) o.k o.s o.v] := by
  induction P generalizing L with
  | nil => rfl
  | cons p r ih => simp only [List.cons_append, rl, ih]; rfl
theorem rl_take (L : List Cl) {P : List Opn} {i : Nat} {o : Opn} (h : P[i]? = some o) : rl L (P.take (i + 1)) = rl L (P.take i) ++ [wd (pl L (P.take i)) o.k o.s o.v] := by
  rw [List.take_add_one, h]
  exact rl_snoc _ _ _
theorem row_not_map {T : TypeId} {B : Nat} {w : World} {v : Value} {l : List Rs} {g : Nat} (h : Own3 T B w v l) (e : v.ownBlock = some g) : ∀ es c, w.heap[g]? ≠ some (.map es c) := fun es c e' => by
  rcases h.2 with ⟨e1, _⟩ | ⟨g1, _, _, e1, _, hb, _⟩
  · rw [e1] at e; cases e
  · rw [e1] at e
    cases e
    rw [e'] at hb
    cases hb
/-- Do beside a row of triples. -/
theorem do_row {T : TypeId} (B : Nat) (w0 : World) (b : Nat) (L : List Cl) (k s : Int) (v : ByteArray) (hf : (⟨k, s, v⟩ : Opn).fits) (B' : Nat) (vr : Value) (l : List Rs) (hg : ∀ g, vr.ownBlock = some g → g ≠ b) (w : World) (h : LedB B w0 w b L) (hr : Own3 T B' w vr l) : Calls Try.prog 22 #[.pointer (some ⟨b, 0, none⟩), .agg #[.int .i64 k, .int .i64 s, .string v]] w fun e w' => e = .returned (.agg #[.int .i64 (wd L k s v).1, .int .i64 (wd L k s v).2.1, .string (wd L k s v).2.2]) ∧ LedB B w0 w' b (dn L k s v) ∧ Own3 T B' w' vr l := by
  obtain ⟨m, h1, h2, h3, h4⟩ := h
  refine (do3 b m L k s v hf w h1).mono fun e w' ⟨he, t⟩ => ⟨he, LedB.took t h2 (by have := h1.lt; omega) h3 h4, hr.upd1 t.upd (fun g e => ?_)⟩
  rintro (e2 | e2)
  · exact hg g e e2
  · obtain ⟨es, c, hb, _⟩ := (h1.sm _ e2).2
    exact row_not_map hr e es c hb
set_option maxRecDepth 100000 in
set_option maxHeartbeats 1000000 in
theorem replay_any (P : List Opn) (a : Option Addr) (cap : Nat) (w : World) (hP : Ops w a P) (hf : ∀ p ∈ P, p.fits) (hl : P.length * 32 ≤ 140737488351232) :
    Calls Try.prog 74 #[.slice a P.length cap] w fun e w' => ∃ vc vr, e = .returned (.tuple #[vc, vr]) ∧ OwnC w.heap.size w' vc (pl [] P) ∧ Own3 43 w.heap.size w' vr (rl [] P) ∧ Below w.heap.size w w' := by
  have HP := hide hP
  have HF := hide hf
  clear hP hf
  have hlz : (P.length : Int) ≤ 9223372036854775807 := by omega
  go_enter Try.func74, Try.ntmps74
  go_wp2_with (first
    | (go_at_call 21; refine (new_b w.heap.size w w (Below.refl _ _) (Nat.le_refl _)).mono ?_; rintro e w1 ⟨rfl, l1, s1⟩; clear s1)
    | (at_make; go_must (refine make3 tyRes _ rfl (.tmp 10) rfl P.length rfl (by omega) ?_; intro w2 o2 b2; have l2 := l1.on b2)))
  have hgb : w1.heap.size ≠ w.heap.size := by have := l1.lt.2; omega
  have hge := hide (show w.heap.size ≤ w1.heap.size by have := l1.lt.2; omega)
  generalize w1.heap.size = g at *
  clear l1 b2
  go_wp2
  go_loopw [14] (fun i wr => ∃ j : Nat, i = .int .i64 (j : Int) ∧ j ≤ P.length ∧ LedB w.heap.size w wr w.heap.size (pl [] (P.take j)) ∧ Own3 43 g wr (.slice (some ⟨g, 0, none⟩) P.length P.length) (rl [] (P.take j) ++ List.replicate (P.length - j) (0, 0, ByteArray.empty))) (fun i _ => P.length - (intOf i).toNat)
  case atStart => exact ⟨0, rfl, Nat.zero_le _, l2, o2⟩
  case round =>
    obtain ⟨j, rfl, hj, F, oR⟩ := hrel
    by_cases hlt : j < P.length
    · have hg : P[j]? = some P[j] := List.getElem?_eq_getElem hlt
      have ht := pl_take [] hg
      have hr := rl_take [] hg
      have hfj := HF.out P[j] (List.getElem_mem hlt)
      obtain ⟨q, o, ea, c0, c1, c2⟩ := HP.out.later F.bel j hlt
      have hrl : (rl [] (P.take j)).length = j := by rw [rl_length]; simp; omega
      generalize P[j] = p at *
      obtain ⟨k, s, v⟩ := p
      subst ea
      dsimp only at c0 c1 c2 ht hr
      have hth := hide ht
      have hrh := hide hr
      generalize pl [] (P.take j) = L at *
      generalize rl [] (P.take j) = Rj at *
      clear ht hg hr
      have hrep : List.replicate (P.length - j) ((0 : Int), (0 : Int), ByteArray.empty) = (0, 0, ByteArray.empty) :: List.replicate (P.length - (j + 1)) (0, 0, ByteArray.empty) := by
        rw [show P.length - j = (P.length - (j + 1)) + 1 by omega, List.replicate_succ]
      rw [hrep] at oR
      have hset : (Rj ++ (0, 0, ByteArray.empty) :: List.replicate (P.length - (j + 1)) (0, 0, ByteArray.empty)).set j (wd L k s v) = (Rj ++ [wd L k s v]) ++ List.replicate (P.length - (j + 1)) (0, 0, ByteArray.empty) := by
        rw [List.set_append_right _ _ (by omega), hrl, Nat.sub_self]
        simp
      have hget : (Rj ++ (0, 0, ByteArray.empty) :: List.replicate (P.length - (j + 1)) (0, 0, ByteArray.empty))[j]? = some (0, 0, ByteArray.empty) := by
        rw [List.getElem?_append_right (by omega), hrl, Nat.sub_self]
        rfl
      have hsh := hide hset
      have hgh := hide hget
      generalize (Rj ++ (0, 0, ByteArray.empty) :: List.replicate (P.length - (j + 1)) (0, 0, ByteArray.empty)) = X at *
      clear hset hget hrep hrl
      have bA := (Below.refl _ wr).alloc (Nat.le_refl _) (.cells #[.int .i64 k, .int .i64 s, .string v] 59)
      have cdd := do_row (T := 43) w.heap.size w w.heap.size L k s v hfj g _ X (fun g' e => by cases e; exact hgb) _ (F.on bA) (oR.grow bA)
      go_wp2_with (go_at_call 22; refine cdd.mono ?_; rintro e w5 ⟨rfl, l5, o5⟩; obtain ⟨e0, e1, e2⟩ := o5.cell j _ hgh.out; have f0 := o5.free (j * 3); have f1 := o5.free (j * 3 + 1); have f2 := o5.free (j * 3 + 2))
      have oN := hide (o5.set j (wd L k s v))
      have lN := hide (l5.upd (S := fun i => i = g) ((((Upd.refl (fun i => i = g) w5).setCell (p := ⟨g, j * 3, none⟩) (.inl rfl) (.int .i64 (wd L k s v).1)).setCell (p := ⟨g, j * 3 + 1, none⟩) (.inl rfl) (.int .i64 (wd L k s v).2.1)).setCell (p := ⟨g, j * 3 + 2, none⟩) (.inl rfl) (.string (wd L k s v).2.2)) (by rintro k rfl; exact hge.out) (fun e => hgb e.symm) (by rintro k rfl; exact row_not_map o5 rfl))
      go_round
      case rel => exact ⟨j + 1, by go_num, by omega, by rw [hth.out]; exact lN.out, by rw [hrh.out, ← hsh.out]; exact oN.out⟩
      case measure => simp [intOf]; omega
    · obtain rfl : j = P.length := by omega
      rw [List.take_of_length_le (Nat.le_refl _)] at F oR
      rw [Nat.sub_self, List.replicate_zero, List.append_nil] at oR
      have cs := cells_b _ _ _ _ _ F
      have Fh := hide F
      have oRh := hide oR
      clear F oR
      go_wp2_with (go_at_call 77; refine cs.mono ?_; rintro e w6 ⟨v6, rfl, o6, b6⟩)
      go_ret2
      have hs := Fh.out.bel.size
      exact ⟨_, _, rfl, o6.low hs, (oRh.out.grow b6).low hge.out, Fh.out.bel.trans (b6.mono hs)⟩

end Go.Proofs.Ytpkcoejjclmocaa
