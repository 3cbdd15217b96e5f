import Derived.Test.YtjkleldoeojbbaaGLc
import Derived.Test.YtjkleldoeojbbaaGLp
namespace Go.Proofs.Ytjkleldoeojbbaa
open Go.RowKit Go.Maps
set_option linter.unusedVariables false

/-- The cells behind operations. -/
def pl (L : List Cl) (P : List Opn) : List Cl := P.foldl (fun L o => dn L o.k o.s o.v) L
theorem pl_snoc (L : List Cl) (P : List Opn) (o : Opn) : pl L (P ++ [o]) = dn (pl L P) o.k o.s o.v := by simp [pl]
theorem pl_take (L : List Cl) {P : List Opn} {i : Nat} {o : Opn} (h : P[i]? = some o) : pl L (P.take (i + 1)) = dn (pl L (P.take i)) o.k o.s o.v := by
  rw [List.take_add_one, h]
  exact pl_snoc _ _ _
theorem Ok.pl {L : List Cl} (h : Ok L) : ∀ P : List Opn, Ok (pl L P) := by
  intro P
  induction P generalizing L with
  | nil => exact h
  | cons o r ih => exact ih (h.dn o.k o.s o.v)
theorem bh_mem {L : List Cl} (h : ∀ p ∈ L, 0 ≤ p.1) (hn : L ≠ []) : ∃ p ∈ L, p.1 + 1 = bh L := by
  induction L with
  | nil => exact absurd rfl hn
  | cons y r ih =>
    by_cases hr : r = []
    · subst hr
      have := h y (by simp)
      exact ⟨y, by simp, by simp [bh]; omega⟩
    · obtain ⟨p, hp, e⟩ := ih (fun q hq => h q (by simp [hq])) hr
      by_cases hc : y.1 + 1 ≤ bh r
      · exact ⟨p, by simp [hp], by simp [bh]; omega⟩
      · exact ⟨y, by simp, by simp [bh]; omega⟩
/-- The greatest slot below k that is taken. -/
def gs (L : List Cl) : Nat → Int
  | 0 => -1
  | k + 1 => if (gv L k).isSome then (k : Int) else gs L k
theorem gs_props (L : List Cl) : ∀ k : Nat, -1 ≤ gs L k ∧ gs L k < k ∧ (∀ s : Int, gs L k < s → s < k → gv L s = none) ∧ (0 ≤ gs L k → (gv L (gs L k)).isSome)
  | 0 => ⟨by simp [gs], by simp [gs], fun s h1 h2 => by simp [gs] at h1; omega, fun h => by simp [gs] at h⟩
  | k + 1 => by
    obtain ⟨h0, h1, h2, h3⟩ := gs_props L k
    unfold gs
    split
    · rename_i h
      exact ⟨by omega, by omega, fun s a b => by omega, fun _ => h⟩
    · rename_i h
      refine ⟨h0, by omega, fun s a b => ?_, h3⟩
      by_cases e : s = k
      · subst e
        simpa using h
      · exact h2 s a (by omega)
theorem gs_all {L : List Cl} (h : Ok L) : gs L 1024 = bh L - 1 := by
  obtain ⟨h0, h1, h2, h3⟩ := gs_props L 1024
  generalize gs L 1024 = g at *
  by_cases hn : L = []
  · subst hn
    have : ¬ 0 ≤ g := fun e => by have := h3 e; simp [gv] at this
    simp [bh]
    omega
  · obtain ⟨p, hp, e⟩ := bh_mem (fun p hp => (h.may p hp).1) hn
    have hg := gv_of_mem h.up hp
    have hm := h.may p hp
    by_cases c1 : g < p.1
    · have := h2 p.1 c1 (by omega)
      rw [this] at hg
      cases hg
    · by_cases c2 : 0 ≤ g
      · have h4 := h3 c2
        obtain ⟨v, hv⟩ := Option.isSome_iff_exists.1 h4
        have := bh_gt (gv_mem hv)
        dsimp only at this
        omega
      · omega
theorem Ops.later {W W' : World} {a : Option Addr} {P : List Opn} (h : Ops W a P) (b : Below W.heap.size W W') : Ops W' a P := fun i hi => by
  obtain ⟨q, o, e, c0, c1, c2⟩ := h i hi
  have hl := World.block_lt_of_cell? _ _ c0
  exact ⟨q, o, e, (b.cell (p := ⟨q, o + i * 3, none⟩) hl).trans c0, (b.cell (p := ⟨q, o + i * 3 + 1, none⟩) hl).trans c1, (b.cell (p := ⟨q, o + i * 3 + 2, none⟩) hl).trans c2⟩
theorem eql_same (r : Rs) (w : World) : (binOp .eql 64 (.agg #[.int .i64 r.1, .int .i64 r.2.1, .string r.2.2]) (.agg #[.int .i64 r.1, .int .i64 r.2.1, .string r.2.2])).run Try.prog w = .ok (.bool true) w := by rw [eql_res]; simp

end Go.Proofs.Ytjkleldoeojbbaa

namespace Go.Proofs.Ytjkleldoeojbbaa
open Go.RowKit
set_option linter.unusedVariables false

theorem len_dn (L : List Cl) (k s : Int) (v : ByteArray) : (dn L k s v).length = L.length + (if (wd L k s v).1 = 1 then 1 else 0) := by
  unfold dn
  split
  · rw [len_ins]
  · rfl
theorem cells_b (B : Nat) (w0 : World) (b : Nat) (L : List Cl) (w : World) (h : LedB B w0 w b L) :
    Calls Try.prog 117 #[.pointer (some ⟨b, 0, none⟩)] w fun e w' => ∃ v, e = .returned v ∧ OwnC w.heap.size w' v L ∧ Below w.heap.size w w' := by
  obtain ⟨m, h1, _⟩ := h
  exact cells_any b m L w h1
theorem neq_same (r : Rs) (w : World) : (binOp .neq 64 (.agg #[.int .i64 r.1, .int .i64 r.2.1, .string r.2.2]) (.agg #[.int .i64 r.1, .int .i64 r.2.1, .string r.2.2])).run Try.prog w = .ok (.bool false) w := by rw [neq_res]; simp
theorem wd_count (L : List Cl) : wd L 4 0 ByteArray.empty = (6, (L.length : Int), ByteArray.empty) := by simp [wd, ck]
theorem fits_count : (⟨4, 0, ByteArray.empty⟩ : Opn).fits := ⟨by dsimp only; decide, by dsimp only; decide, by dsimp only; decide⟩

end Go.Proofs.Ytjkleldoeojbbaa

namespace Go.Proofs.Ytjkleldoeojbbaa
open Go.RowKit
set_option linter.unusedVariables false

theorem map_ne_cells {w : World} {j b : Nat} {n : Nat} {L : List Cl} {u : Value} {i : Nat} (h : Own w j n L) (hc : w.cell? ⟨b, i, none⟩ = some u) : j ≠ b := by
  obtain ⟨es, c, hb, _⟩ := h
  rintro rfl
  simp [World.cell?, hb] at hc
/-- Two ledgers side by side, their memory from B on. -/
def Two (B : Nat) (w0 w : World) (b1 : Nat) (L1 : List Cl) (b2 : Nat) (L2 : List Cl) : Prop :=
  ∃ m1 m2, Led w b1 m1 L1 ∧ Led w b2 m2 L2 ∧ B ≤ b1 ∧ B ≤ b2 ∧ (∀ j, m1 = some j → B ≤ j) ∧ (∀ j, m2 = some j → B ≤ j) ∧ b1 ≠ b2 ∧ (∀ j, m1 = some j → m2 ≠ some j) ∧ Below B w0 w
theorem Two.swap {B b1 b2 : Nat} {w0 w : World} {L1 L2 : List Cl} (h : Two B w0 w b1 L1 b2 L2) : Two B w0 w b2 L2 b1 L1 := by
  obtain ⟨m1, m2, l1, l2, h1, h2, h3, h4, h5, h6, h7⟩ := h
  exact ⟨m2, m1, l2, l1, h2, h1, h4, h3, h5.symm, fun j e e' => h6 j e' e, h7⟩
theorem Two.fst {B b1 b2 : Nat} {w0 w : World} {L1 L2 : List Cl} (h : Two B w0 w b1 L1 b2 L2) : LedB B w0 w b1 L1 := by
  obtain ⟨m1, m2, l1, l2, h1, h2, h3, h4, h5, h6, h7⟩ := h
  exact ⟨m1, l1, h1, h3, h7⟩
theorem Two.snd {B b1 b2 : Nat} {w0 w : World} {L1 L2 : List Cl} (h : Two B w0 w b1 L1 b2 L2) : LedB B w0 w b2 L2 := h.swap.fst
theorem Two.bel {B b1 b2 : Nat} {w0 w : World} {L1 L2 : List Cl} (h : Two B w0 w b1 L1 b2 L2) : Below B w0 w := h.fst.bel
theorem Two.on {B b1 b2 : Nat} {w0 w w' : World} {L1 L2 : List Cl} (h : Two B w0 w b1 L1 b2 L2) (hb : Below w.heap.size w w') : Two B w0 w' b1 L1 b2 L2 := by
  obtain ⟨m1, m2, l1, l2, h1, h2, h3, h4, h5, h6, h7⟩ := h
  exact ⟨m1, m2, l1.upd (S := fun _ => False) (Upd.of_below hb) id (fun _ _ => id), l2.upd (S := fun _ => False) (Upd.of_below hb) id (fun _ _ => id), h1, h2, h3, h4, h5, h6, h7.trans (hb.mono (by have := l1.lt; omega))⟩
/-- A new ledger beside one. -/
theorem Two.new {B b1 : Nat} {w0 w w' : World} {L1 : List Cl} {b2 : Nat} {m2 : Option Nat} {L2 : List Cl} (h : LedB B w0 w b1 L1) (l2 : Led w' b2 m2 L2) (hb : Below w.heap.size w w') (h2 : w.heap.size ≤ b2) (h3 : ∀ j, m2 = some j → w.heap.size ≤ j) : Two B w0 w' b1 L1 b2 L2 := by
  obtain ⟨m1, l1, k1, k2, k3⟩ := h
  have hlt := l1.lt
  refine ⟨m1, m2, l1.upd (S := fun _ => False) (Upd.of_below hb) id (fun _ _ => id), l2, k1, by omega, k2, fun j e => by have := h3 j e; omega, by omega, fun j e e' => ?_, k3.trans (hb.mono (by omega))⟩
  have := h3 j e'
  have := l1.mlt e
  omega
/-- What Do of the first does to both; S: blocks that stay as they are. -/
theorem Two.took {B b1 b2 : Nat} {w0 w w' : World} {m1 m2 : Option Nat} {L1 L1' L2 : List Cl} (t : Took w b1 m1 L1' w') (l1 : Led w b1 m1 L1) (l2 : Led w b2 m2 L2) (h1 : B ≤ b1) (h2 : B ≤ b2) (h3 : ∀ j, m1 = some j → B ≤ j) (h4 : ∀ j, m2 = some j → B ≤ j) (h5 : b1 ≠ b2) (h6 : ∀ j, m1 = some j → m2 ≠ some j) (h7 : Below B w0 w) : Two B w0 w' b1 L1' b2 L2 := by
  obtain ⟨m1', hl, hmm, hu⟩ := t
  have hl2 : Led w' b2 m2 L2 := l2.upd hu (by
    rintro (e | e)
    · exact h5 e.symm
    · exact map_ne_cells (l1.sm _ e).2 l2.c0 rfl) (fun j e => by
    rintro (e' | e')
    · exact map_ne_cells (l2.sm j e).2 l1.c0 e'
    · exact h6 j e' e)
  refine ⟨m1', m2, hl, hl2, h1, h2, fun j e => ?_, h4, h5, fun j e e' => ?_, h7.trans (hu.below (by have := l1.lt; omega) (fun k hk => ?_))⟩
  · rcases hmm with h | ⟨i, h, hi⟩
    · exact h3 j (h ▸ e)
    · rw [h] at e; cases e; have := l1.lt; omega
  · rcases hmm with h | ⟨i, h, hi⟩
    · exact h6 j (h ▸ e) e'
    · rw [h] at e; cases e; have := l2.mlt e'; omega
  · rcases hk with rfl | hk
    · exact h1
    · exact h3 k hk
/-- Do of the first; a row of cells that is none of the ledger's own stays. -/
theorem do_2 (B : Nat) (w0 : World) (b1 b2 : Nat) (L1 L2 : List Cl) (k s : Int) (v : ByteArray) (hf : (⟨k, s, v⟩ : Opn).fits) (w : World) (h : Two B w0 w b1 L1 b2 L2) : Calls Try.prog 79 #[.pointer (some ⟨b1, 0, none⟩), .agg #[.int .i64 k, .int .i64 s, .string v]] w fun e w' => e = .returned (.agg #[.int .i64 (wd L1 k s v).1, .int .i64 (wd L1 k s v).2.1, .string (wd L1 k s v).2.2]) ∧ Two B w0 w' b1 (dn L1 k s v) b2 L2 ∧ (∀ g i u, g ≠ b1 → w.cell? ⟨g, i, none⟩ = some u → w'.cell? ⟨g, i, none⟩ = some u) ∧ w.heap.size ≤ w'.heap.size := by
  obtain ⟨m1, m2, l1, l2, h1, h2, h3, h4, h5, h6, h7⟩ := h
  refine (do3 b1 m1 L1 k s v hf w l1).mono fun e w' ⟨he, t⟩ => ⟨he, Two.took t l1 l2 h1 h2 h3 h4 h5 h6 h7, fun g i u hg hc => ?_, t.upd.size⟩
  refine (t.upd.cell (p := ⟨g, i, none⟩) (World.block_lt_of_cell? _ _ hc) ?_).trans hc
  rintro (e | e)
  · exact hg e
  · exact map_ne_cells (l1.sm _ e).2 hc rfl
/-- An operation that changes nothing. -/
def qt (k s : Int) (v : ByteArray) : Bool := decide (k = 3 ∨ k = 4 ∨ ck k s v ≠ 0)
theorem dn_quiet {k s : Int} {v : ByteArray} (h : qt k s v = true) (L : List Cl) : dn L k s v = L := by
  have h : k = 3 ∨ k = 4 ∨ ck k s v ≠ 0 := by simpa [qt] using h
  have : (wd L k s v).1 ≠ 1 := by
    unfold wd
    by_cases hc : ck k s v = 0
    · rcases h with rfl | rfl | h
      · simp [hc]; cases gv L s <;> simp
      · simp [hc]
      · exact absurd hc h
    · simp [hc]
  simp [dn, this]
/-- The mathematics of P4.10. -/
theorem gv_dn {L : List Cl} (h : Ok L) (k s : Int) (v : ByteArray) (t : Int) (ht : (wd L k s v).1 = 1 → (wd L k s v).2.1 ≠ t) : gv (dn L k s v) t = gv L t := by
  unfold dn
  split
  · rename_i e
    obtain ⟨_, _, _, _, h5⟩ := wd_written h e
    rw [gv_ins h5, if_neg (ht e)]
  · rfl
theorem wd_slot {L : List Cl} {k s : Int} {v : ByteArray} (hk : k = 1 ∨ k = 3) (h : (wd L k s v).1 = 1) : (wd L k s v).2.1 = s := by
  unfold wd at h ⊢
  by_cases hc : ck k s v = 0
  · rcases hk with rfl | rfl
    · simp only [hc] at h ⊢
      cases hg : gv L s <;> simp [hg] at h ⊢
    · simp only [hc] at h ⊢
      cases hg : gv L s <;> simp [hg] at h ⊢
  · simp [hc] at h
theorem wd_other {L L' : List Cl} {k s : Int} {v : ByteArray} (hk : k = 1 ∨ k = 3) (h : gv L' s = gv L s) : wd L' k s v = wd L k s v := by
  unfold wd
  rw [h]
  rcases hk with rfl | rfl <;> simp
theorem apart_math {L : List Cl} (h : Ok L) {k s : Int} {v : ByteArray} {k' s' : Int} {v' : ByteArray} (hk : k = 1 ∨ k = 3) (hk' : k' = 1 ∨ k' = 3) (hs : s ≠ s') :
    wd (dn L k s v) k' s' v' = wd L k' s' v' ∧ wd (dn L k' s' v') k s v = wd L k s v ∧ dn (dn L k s v) k' s' v' = dn (dn L k' s' v') k s v := by
  have e1 : wd (dn L k s v) k' s' v' = wd L k' s' v' := wd_other hk' (gv_dn h k s v s' (fun e => by rw [wd_slot hk e]; exact hs))
  have e2 : wd (dn L k' s' v') k s v = wd L k s v := wd_other hk (gv_dn h k' s' v' s (fun e => by rw [wd_slot hk' e]; exact hs.symm))
  refine ⟨e1, e2, ?_⟩
  refine up_ext ((h.dn k s v).dn k' s' v').up ((h.dn k' s' v').dn k s v).up (fun p => ?_)
  have u1 : dn (dn L k s v) k' s' v' = if (wd L k' s' v').1 = 1 then ins (wd L k' s' v').2 (dn L k s v) else dn L k s v := by
    rw [← e1]; rfl
  have u2 : dn (dn L k' s' v') k s v = if (wd L k s v).1 = 1 then ins (wd L k s v).2 (dn L k' s' v') else dn L k' s' v' := by
    rw [← e2]; rfl
  rw [u1, u2]
  unfold dn
  by_cases c1 : (wd L k s v).1 = 1 <;> by_cases c2 : (wd L k' s' v').1 = 1 <;> simp [c1, c2, mem_ins]
  constructor
  · rintro (h | h | h) <;> simp [h]
  · rintro (h | h | h) <;> simp [h]

end Go.Proofs.Ytjkleldoeojbbaa

namespace Go.Proofs.Ytjkleldoeojbbaa
open Go.RowKit Go.Maps
set_option linter.unusedVariables false

theorem size_zero {a : ByteArray} (h : a.size = 0) : a = ByteArray.empty := by
  obtain ⟨⟨x⟩⟩ := a
  cases x with
  | nil => rfl
  | cons y r => simp [ByteArray.size] at h
set_option maxRecDepth 100000 in
set_option maxHeartbeats 1000000 in
theorem refcheck (k s : Int) (v : ByteArray) (hf : (⟨k, s, v⟩ : Opn).fits) (w : World) : Calls Try.prog 31 #[.agg #[.int .i64 k, .int .i64 s, .string v]] w fun e w' => e = .returned (.int .i64 (ck k s v)) ∧ Below w.heap.size w w' := by
  have hv := hf.vl
  dsimp only at hv
  have hsz : (v.size : Int) ≤ 9223372036854775807 := by unfold maxLen at hv; omega
  clear hf hv
  by_cases k1 : k = 1
  · subst k1
    by_cases hs : s < 0 ∨ 1024 ≤ s
    · have e1 : ck 1 s v = 41 := by simp [ck, hs]
      rw [e1]
      clear e1
      go_enter Try.func31, Try.ntmps31
      go_wp2
      all_goals
        go_ret
        exact ⟨by first | rfl | (exfalso; omega) | (exfalso; simp_all), (Below.refl _ w).alloc (Nat.le_refl _) _⟩
    · have e1 : ck 1 s v = if 64 < v.size then 42 else 0 := by simp [ck, hs]
      rw [e1]
      clear e1
      by_cases hv : 64 < v.size
      · rw [if_pos hv]
        have hv' : ((64 : Int) < v.size) := by omega
        go_enter Try.func31, Try.ntmps31
        go_wp2
        all_goals
          go_ret
          exact ⟨by first | rfl | (exfalso; omega) | (exfalso; simp_all), (Below.refl _ w).alloc (Nat.le_refl _) _⟩
      · rw [if_neg hv]
        have hv' : ¬ ((64 : Int) < v.size) := by omega
        go_enter Try.func31, Try.ntmps31
        go_wp2
        all_goals
          go_ret
          exact ⟨by first | rfl | (exfalso; omega) | (exfalso; simp_all), (Below.refl _ w).alloc (Nat.le_refl _) _⟩
  by_cases k2 : k = 2
  · subst k2
    by_cases hs : s ≠ 0
    · have e1 : ck 2 s v = 41 := by simp [ck, hs]
      rw [e1]
      clear e1
      have hb : (s != 0) = true := by simp [hs]
      go_enter Try.func31, Try.ntmps31
      go_wp2
      all_goals
        go_ret
        exact ⟨by first | rfl | (exfalso; omega) | (exfalso; simp_all), (Below.refl _ w).alloc (Nat.le_refl _) _⟩
    · have e1 : ck 2 s v = if 64 < v.size then 42 else 0 := by simp [ck, hs]
      rw [e1]
      clear e1
      have hs : s = 0 := by omega
      subst hs
      by_cases hv : 64 < v.size
      · rw [if_pos hv]
        have hv' : ((64 : Int) < v.size) := by omega
        go_enter Try.func31, Try.ntmps31
        go_wp2
        all_goals
          go_ret
          exact ⟨by first | rfl | (exfalso; omega) | (exfalso; simp_all), (Below.refl _ w).alloc (Nat.le_refl _) _⟩
      · rw [if_neg hv]
        have hv' : ¬ ((64 : Int) < v.size) := by omega
        go_enter Try.func31, Try.ntmps31
        go_wp2
        all_goals
          go_ret
          exact ⟨by first | rfl | (exfalso; omega) | (exfalso; simp_all), (Below.refl _ w).alloc (Nat.le_refl _) _⟩
  by_cases k3 : k = 3
  · subst k3
    by_cases hs : s < 0 ∨ 1024 ≤ s
    · have e1 : ck 3 s v = 41 := by simp [ck, hs]
      rw [e1]
      clear e1
      go_enter Try.func31, Try.ntmps31
      go_wp2
      all_goals
        go_ret
        exact ⟨by first | rfl | (exfalso; omega) | (exfalso; simp_all), (Below.refl _ w).alloc (Nat.le_refl _) _⟩
    · have e1 : ck 3 s v = if 0 < v.size then 42 else 0 := by simp [ck, hs]
      rw [e1]
      clear e1
      by_cases hv : 0 < v.size
      · rw [if_pos hv]
        have hv' : ¬ (v.toList = []) := fun e => by
          rw [ByteArray.toList_eq] at e
          have : v.size = 0 := by simp [ByteArray.size, ← Array.length_toList, e]
          omega
        go_enter Try.func31, Try.ntmps31
        go_wp2
        all_goals
          go_ret
          exact ⟨by first | rfl | (exfalso; omega) | (exfalso; simp_all), (Below.refl _ w).alloc (Nat.le_refl _) _⟩
      · rw [if_neg hv]
        have hv' : v = ByteArray.empty := size_zero (by omega)
        subst hv'
        go_enter Try.func31, Try.ntmps31
        go_wp2
        all_goals
          go_ret
          exact ⟨by first | rfl | (exfalso; omega) | (exfalso; simp_all), (Below.refl _ w).alloc (Nat.le_refl _) _⟩
  by_cases k4 : k = 4
  · subst k4
    by_cases hs : s ≠ 0
    · have e1 : ck 4 s v = 41 := by simp [ck, hs]
      rw [e1]
      clear e1
      have hb : (s != 0) = true := by simp [hs]
      go_enter Try.func31, Try.ntmps31
      go_wp2
      all_goals
        go_ret
        exact ⟨by first | rfl | (exfalso; omega) | (exfalso; simp_all), (Below.refl _ w).alloc (Nat.le_refl _) _⟩
    · have e1 : ck 4 s v = if 0 < v.size then 42 else 0 := by simp [ck, hs]
      rw [e1]
      clear e1
      have hs : s = 0 := by omega
      subst hs
      by_cases hv : 0 < v.size
      · rw [if_pos hv]
        have hv' : ¬ (v.toList = []) := fun e => by
          rw [ByteArray.toList_eq] at e
          have : v.size = 0 := by simp [ByteArray.size, ← Array.length_toList, e]
          omega
        go_enter Try.func31, Try.ntmps31
        go_wp2
        all_goals
          go_ret
          exact ⟨by first | rfl | (exfalso; omega) | (exfalso; simp_all), (Below.refl _ w).alloc (Nat.le_refl _) _⟩
      · rw [if_neg hv]
        have hv' : v = ByteArray.empty := size_zero (by omega)
        subst hv'
        go_enter Try.func31, Try.ntmps31
        go_wp2
        all_goals
          go_ret
          exact ⟨by first | rfl | (exfalso; omega) | (exfalso; simp_all), (Below.refl _ w).alloc (Nat.le_refl _) _⟩
  have e1 : ck k s v = 40 := by simp [ck, k1, k2, k3, k4]
  rw [e1]
  have b1 : (k == 1) = false := by simp [k1]
  have b2 : (k == 2) = false := by simp [k2]
  have b3 : (k == 3) = false := by simp [k3]
  have b4 : (k == 4) = false := by simp [k4]
  go_enter Try.func31, Try.ntmps31
  go_wp2
  all_goals
    go_ret
    exact ⟨rfl, (Below.refl _ w).alloc (Nat.le_refl _) _⟩

end Go.Proofs.Ytjkleldoeojbbaa
