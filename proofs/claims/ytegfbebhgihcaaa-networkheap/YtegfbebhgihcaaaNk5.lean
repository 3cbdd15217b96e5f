import Derived.Test.YtegfbebhgihcaaaNk4
import Derived.BigQuiet
namespace Go.Proofs.Ytegfbebhgihcaaa
open Go.RowKit Go.Maps
set_option linter.unusedVariables false
set_option linter.unusedSimpArgs false

variable {w w' : World} {b mb n : Nat} {nn cc : Int} {pv rv : Value} {P R : List Pk} {M : Int → List UInt8 → Nat}
/-- What is known of who sent what, behind one more. -/
def sM (M : Int → List UInt8 → Nat) (p : Pk) (i : Nat) : Int → List UInt8 → Nat := fun t s => if t = p.t ∧ s = p.s then M t s ||| 2 ^ i else M t s
def sR (M : Int → List UInt8 → Nat) (R : List Pk) (p : Pk) (i : Nat) : List Pk := if M p.t p.s &&& 2 ^ i = 0 then R ++ [p] else R
theorem or_bit {m i : Nat} (h : m &&& 2 ^ i ≠ 0) : m ||| 2 ^ i = m := by
  have hb : m.testBit i = true := by
    cases hb : m.testBit i with
    | true => rfl
    | false =>
      exfalso
      apply h
      apply Nat.eq_of_testBit_eq
      intro j
      rw [Nat.testBit_and, Nat.testBit_two_pow, Nat.zero_testBit]
      by_cases e : i = j
      · subst e; simp [hb]
      · simp [e]
  apply Nat.eq_of_testBit_eq
  intro j
  rw [Nat.testBit_or, Nat.testBit_two_pow]
  by_cases e : i = j
  · subst e; simp [hb]
  · simp [e]
theorem sM_old {p : Pk} {i : Nat} (h : M p.t p.s &&& 2 ^ i ≠ 0) : sM M p i = M := by
  funext t s
  unfold sM
  split
  · rename_i e
    obtain ⟨rfl, rfl⟩ := e
    exact or_bit h
  · rfl
theorem pow32 {i : Nat} (hi : i < 32) : 2 ^ i < 4294967296 := Nat.lt_of_lt_of_le (Nat.pow_lt_pow_right (by omega) hi) (by decide)
theorem mod_u {i : Nat} (hi : i < 32) : (2 : Int) ^ i % 4294967296 = ((2 ^ i : Nat) : Int) := by
  have h : ((2 : Int) ^ i) = ((2 ^ i : Nat) : Int) := by simp
  have hp := pow32 hi
  rw [h]
  clear h
  revert hp
  generalize 2 ^ i = q
  intro hp
  omega
theorem and_u {m i : Nat} (hm : m < 4294967296) (hi : i < 32) : bits .and .u32 (m : Int) ((2 : Int) ^ i % 4294967296) = ((m &&& 2 ^ i : Nat) : Int) := by
  rw [mod_u hi]
  exact u32_and_nat m (2 ^ i) hm (pow32 hi)
theorem or_u {m i : Nat} (hm : m < 4294967296) (hi : i < 32) : bits .or .u32 (m : Int) ((2 : Int) ^ i % 4294967296) = ((m ||| 2 ^ i : Nat) : Int) := by
  rw [mod_u hi]
  exact u32_or_nat m (2 ^ i) hm (pow32 hi)
set_option maxRecDepth 100000 in
set_option maxHeartbeats 1000000 in
theorem keep_old (p : Pk) (i : Nat) (hf : p.f = (i : Int)) (hi : i < 32) (ht : (Lit.int .i64 p.t).wf = true) (hs : p.s.length ≤ 32768) (h : Net w b nn cc pv rv mb n P R M) (hM : M p.t p.s &&& 2 ^ i ≠ 0) : Calls Try.prog 76 #[.pointer (some ⟨b, 0, none⟩), p.val] w fun e w' => e = .returned (.tuple #[]) ∧ Below w.heap.size w w' := by
  have h4 := h.c4
  have hlt := h.lt
  have hlo : ∀ o k, (Instr.lookup 82 (.map (some mb)) (.agg #[.int .i64 p.t, .string (bst p.s)]) false).run Try.prog ((w.alloc o).drewN k) = .ok (.int .u32 (M p.t p.s : Int)) ((w.alloc o).drewN k) := fun o k => (h.mp.upd (S := fun _ => False) (((Upd.refl _ w).alloc o).drewN k) id).look ht (by unfold maxLen; omega)
  have hm : M p.t p.s < 4294967296 := by obtain ⟨f, _, h2⟩ := h.mp; exact (h2 _ _).2
  have y4 : ∀ o, (w.alloc o).cell? ⟨b, 4, none⟩ = some (.map (some mb)) := fun o => (World.cell?_alloc_past _ _ _ hlt).trans h4
  have hand := and_u hm hi
  have hne : ¬ ((M p.t p.s &&& 2 ^ i : Nat) : Int) = 0 := by omega
  have hp := pow32 hi
  unfold Pk.val
  rw [hf]
  clear h
  go_enter Try.func76, Try.ntmps76
  go_wp2_with fail
  go_quiet (fail)
  go_wp2
  refine bodyPost_ret (results_none rfl _ _ _) rfl ⟨rfl, ?_⟩
  exact belN ((Below.refl _ _).alloc (Nat.le_refl _) _) _

/-- Another record. -/
theorem Net.setRec {w3 : World} {rv' : Value} {n' : Nat} {p : Pk} {M' : Int → List UInt8 → Nat} (h : Net w b nn cc pv rv mb n P R M) (u : Upd (fun k => k = mb ∨ rv.ownBlock = some k) w w3) (hR : OwnY yP 0 w3 rv' (R ++ [p])) (hm : MapN w3 mb n' M') (hn' : n' ≤ R.length + 1) (hnew : rv'.ownBlock = rv.ownBlock ∨ ∃ k, rv'.ownBlock = some k ∧ w.heap.size ≤ k) (hs : p.s.length ≤ 32768) :
    Net (w3.setCell ⟨b, 3, none⟩ rv') b nn cc pv rv' mb n' P (R ++ [p]) M' ∧ Upd (fun k => k = b ∨ k = mb ∨ rv.ownBlock = some k) w (w3.setCell ⟨b, 3, none⟩ rv') := by
  have hb3 : b < w3.heap.size := Nat.lt_of_lt_of_le h.lt u.size
  have nb : ¬ (b = mb ∨ rv.ownBlock = some b) := fun e => e.elim (fun e => h.mne e.symm) h.rne
  have k3 := (u.cell (p := ⟨b, 3, none⟩) h.lt nb).trans h.c3
  have uo : Upd (fun k => k = b) w3 (w3.setCell ⟨b, 3, none⟩ rv') := (Upd.refl (fun k => k = b) w3).setCell (p := ⟨b, 3, none⟩) (.inl rfl) rv'
  have rne' : rv'.ownBlock ≠ some b := by
    rcases hnew with e | ⟨k, e, hk⟩
    · rw [e]; exact h.rne
    · rw [e]; intro e2; have := h.lt; cases e2; omega
  have rm' : rv'.ownBlock ≠ some mb := by
    rcases hnew with e | ⟨k, e, hk⟩
    · rw [e]; exact h.rm
    · rw [e]; intro e2; have := h.mp.lt; cases e2; omega
  have pr' : ∀ g, pv.ownBlock = some g → rv'.ownBlock ≠ some g := by
    intro g hg hr
    rcases hnew with e | ⟨k, e, hk⟩
    · exact h.pr g hg (e ▸ hr)
    · have := h.plt g hg; rw [e] at hr; cases hr; omega
  have hp3 : ∀ k, pv.ownBlock = some k → ¬ (k = mb ∨ rv.ownBlock = some k) := fun k hk e => e.elim (fun e => h.pm (e ▸ hk)) (fun e => h.pr k hk e)
  refine ⟨⟨by simpa using hb3, setc_ne ((u.cell (p := ⟨b, 0, none⟩) h.lt nb).trans h.c0) (by decide), setc_ne ((u.cell (p := ⟨b, 1, none⟩) h.lt nb).trans h.c1) (by decide), setc_ne ((u.cell (p := ⟨b, 2, none⟩) h.lt nb).trans h.c2) (by decide), setc_eq k3, setc_ne ((u.cell (p := ⟨b, 4, none⟩) h.lt nb).trans h.c4) (by decide), fun i => setf ((u.frozen (p := ⟨b, i, none⟩) h.lt nb).trans (h.fr i)), (h.pl.upd u hp3).upd uo (fun k hk e => h.pne (e ▸ hk)), hR.upd1 uo (fun g hg e => rne' (e ▸ hg)), hm.upd uo h.mne, by simpa using hn', h.mne, h.pne, rne', h.pm, rm', pr', fun g hg => by have := h.plt g hg; have := u.size; simp; omega, h.sp, fun q hq => ?_⟩, ?_⟩
  · rcases List.mem_append.1 hq with hq | hq
    · exact h.sr q hq
    · rw [List.mem_singleton.1 hq]; exact hs
  · exact (u.mono (fun k _ hk => .inr hk)).setCell (p := ⟨b, 3, none⟩) (.inl (.inl rfl)) rv'
/-- The map's entry, and its store. -/
theorem MapN.entry (h : MapN w mb n M) (hn : n < maxLen) {p : Pk} {i : Nat} (hi : i < 32) (ht : (Lit.int .i64 p.t).wf = true) (hs : p.s.length ≤ maxLen) :
    ∃ (st : Nat) (v0 : Value) (w1 w2 : World), (Instr.mapEntry 82 (.map (some mb)) (kv p.t p.s)).run Try.prog w = .ok (.tuple #[v0, .int .i64 (st : Int)]) w1 ∧ Upd (fun k => k = mb) w w1 ∧ w1.heap.size = w.heap.size ∧
      (Instr.lookup 82 (.map (some mb)) (kv p.t p.s) false).run Try.prog w1 = .ok (.int .u32 (M p.t p.s : Int)) w1 ∧
      (Instr.entryStore 82 (.map (some mb)) (.int .i64 (st : Int)) (.int .u32 ((M p.t p.s ||| 2 ^ i : Nat) : Int))).run Try.prog w1 = .ok () w2 ∧ Upd (fun k => k = mb) w w2 ∧ w2.heap.size = w.heap.size ∧ MapN w2 mb (n + 1) (sM M p i) := by
  obtain ⟨f, h1, h2⟩ := h
  obtain ⟨st, v0, w1, k1, k2, k3, k4, k5⟩ := h1.entry hn ht hs
  obtain ⟨w2, k6, k7, k8, k9⟩ := k5 ((M p.t p.s ||| 2 ^ i : Nat) : Int)
  refine ⟨st, v0, w1, w2, k1, k2, k3, by rw [k4, (h2 _ _).1], k6, k7, k8, _, k9, fun t s => ?_⟩
  unfold sM
  by_cases e : t = p.t ∧ s = p.s
  · obtain ⟨rfl, rfl⟩ := e
    simp only [and_self, if_true, Option.getD_some]
    refine ⟨trivial, ?_⟩
    have := (h2 p.t p.s).2
    have h3 := pow32 hi
    exact Nat.or_lt_two_pow (n := 32) this h3
  · rw [if_neg e, if_neg e]
    exact h2 t s

end Go.Proofs.Ytegfbebhgihcaaa
