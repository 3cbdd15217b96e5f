import Derived.BigQuiet
import Derived.Deep.RegionHeld3
import Derived.Test.YtjpkdnndhjnkpaaF1
set_option maxRecDepth 100000
set_option linter.unusedVariables false
set_option linter.unusedSimpArgs false
namespace Go.Proofs.Ytjpkdnndhjnkpaa
open Go.RowKit Go.Maps
variable {w w' : World} {b mb n : Nat} {nn cc : Int} {pv rv : Value} {P R : List Pk} {M : Int → List UInt8 → Nat}
def sM (M : Int → List UInt8 → Nat) (p : Pk) (i : Nat) : Int → List UInt8 → Nat := fun t s => if t = p.t ∧ s = p.s then M t s ||| 2 ^ i else M t s
def sR (M : Int → List UInt8 → Nat) (R : List Pk) (p : Pk) (i : Nat) : List Pk := if M p.t p.s &&& 2 ^ i = 0 then R ++ [p] else R
theorem or_bit {m i : Nat} (h : m &&& 2 ^ i ≠ 0) : m ||| 2 ^ i = m := by
  have hb : m.testBit i = true := by
    cases hb : m.testBit i with
    | true => rfl
    | false =>
      exfalso
      apply h
      apply Nat.eq_of_testBit_eq
      intro j
      rw [Nat.testBit_and, Nat.testBit_two_pow, Nat.zero_testBit]
      by_cases e : i = j
      · subst e; simp [hb]
      · simp [e]
  apply Nat.eq_of_testBit_eq
  intro j
  rw [Nat.testBit_or, Nat.testBit_two_pow]
  by_cases e : i = j
  · subst e; simp [hb]
  · simp [e]
theorem sM_old {p : Pk} {i : Nat} (h : M p.t p.s &&& 2 ^ i ≠ 0) : sM M p i = M := by
  funext t s
  unfold sM
  split
  · rename_i e
    obtain ⟨rfl, rfl⟩ := e
    exact or_bit h
  · rfl
theorem pow32 {i : Nat} (hi : i < 32) : 2 ^ i < 4294967296 := Nat.lt_of_lt_of_le (Nat.pow_lt_pow_right (by omega) hi) (by decide)
theorem mod_u {i : Nat} (hi : i < 32) : (2 : Int) ^ i % 4294967296 = ((2 ^ i : Nat) : Int) := by
  have h : ((2 : Int) ^ i) = ((2 ^ i : Nat) : Int) := by simp
  have hp := pow32 hi
  rw [h]
  clear h
  revert hp
  generalize 2 ^ i = q
  intro hp
  omega
theorem and_u {m i : Nat} (hm : m < 4294967296) (hi : i < 32) : bits .and .u32 (m : Int) ((2 : Int) ^ i % 4294967296) = ((m &&& 2 ^ i : Nat) : Int) := by
  rw [mod_u hi]
  exact u32_and_nat m (2 ^ i) hm (pow32 hi)
theorem or_u {m i : Nat} (hm : m < 4294967296) (hi : i < 32) : bits .or .u32 (m : Int) ((2 : Int) ^ i % 4294967296) = ((m ||| 2 ^ i : Nat) : Int) := by
  rw [mod_u hi]
  exact u32_or_nat m (2 ^ i) hm (pow32 hi)
set_option maxHeartbeats 1000000 in
theorem keep_old (p : Pk) (i : Nat) (hf : p.f = (i : Int)) (hi : i < 32) (ht : (Lit.int .i64 p.t).wf = true) (hs : p.s.length ≤ 32768) (h : Net w b nn cc pv rv mb n P R M) (hM : M p.t p.s &&& 2 ^ i ≠ 0) : Calls Try.prog 76 #[.pointer (some ⟨b, 0, none⟩), p.val] w fun e w' => e = .returned (.tuple #[]) ∧ Below w.heap.size w w' := by
  have h4 := h.c4
  have hlt := h.lt
  have hlo : ∀ o k, (Instr.lookup 82 (.map (some mb)) (.agg #[.int .i64 p.t, .string (bst p.s)]) false).run Try.prog ((w.alloc o).drewN k) = .ok (.int .u32 (M p.t p.s : Int)) ((w.alloc o).drewN k) := fun o k => (h.mp.upd (S := fun _ => False) (((Upd.refl _ w).alloc o).drewN k) id).look ht (by unfold maxLen; omega)
  have hm : M p.t p.s < 4294967296 := by obtain ⟨f, _, h2⟩ := h.mp; exact (h2 _ _).2
  have y4 : ∀ o, (w.alloc o).cell? ⟨b, 4, none⟩ = some (.map (some mb)) := fun o => (World.cell?_alloc_past _ _ _ hlt).trans h4
  have hand := and_u hm hi
  have hne : ¬ ((M p.t p.s &&& 2 ^ i : Nat) : Int) = 0 := by omega
  have hp := pow32 hi
  unfold Pk.val
  rw [hf]
  clear h
  go_enter Try.func76, Try.ntmps76
  go_wp2_with fail
  go_quiet (fail)
  go_wp2
  refine bodyPost_ret (results_none rfl _ _ _) rfl ⟨rfl, ?_⟩
  exact belN ((Below.refl _ _).alloc (Nat.le_refl _) _) _
theorem Net.setRec {w3 : World} {rv' : Value} {n' : Nat} {p : Pk} {M' : Int → List UInt8 → Nat} (h : Net w b nn cc pv rv mb n P R M) (u : Upd (fun k => k = mb ∨ rv.ownBlock = some k) w w3) (hR : OwnY yP 0 w3 rv' (R ++ [p])) (hm : MapN w3 mb n' M') (hn' : n' ≤ R.length + 1) (hnew : rv'.ownBlock = rv.ownBlock ∨ ∃ k, rv'.ownBlock = some k ∧ w.heap.size ≤ k) (hs : p.s.length ≤ 32768) :
    Net (w3.setCell ⟨b, 3, none⟩ rv') b nn cc pv rv' mb n' P (R ++ [p]) M' ∧ Upd (fun k => k = b ∨ k = mb ∨ rv.ownBlock = some k) w (w3.setCell ⟨b, 3, none⟩ rv') := by
  have hb3 : b < w3.heap.size := Nat.lt_of_lt_of_le h.lt u.size
  have nb : ¬ (b = mb ∨ rv.ownBlock = some b) := fun e => e.elim (fun e => h.mne e.symm) h.rne
  have k3 := (u.cell (p := ⟨b, 3, none⟩) h.lt nb).trans h.c3
  have uo : Upd (fun k => k = b) w3 (w3.setCell ⟨b, 3, none⟩ rv') := (Upd.refl (fun k => k = b) w3).setCell (p := ⟨b, 3, none⟩) (.inl rfl) rv'
  have rne' : rv'.ownBlock ≠ some b := by
    rcases hnew with e | ⟨k, e, hk⟩
    · rw [e]; exact h.rne
    · rw [e]; intro e2; have := h.lt; cases e2; omega
  have rm' : rv'.ownBlock ≠ some mb := by
    rcases hnew with e | ⟨k, e, hk⟩
    · rw [e]; exact h.rm
    · rw [e]; intro e2; have := h.mp.lt; cases e2; omega
  have pr' : ∀ g, pv.ownBlock = some g → rv'.ownBlock ≠ some g := by
    intro g hg hr
    rcases hnew with e | ⟨k, e, hk⟩
    · exact h.pr g hg (e ▸ hr)
    · have := h.plt g hg; rw [e] at hr; cases hr; omega
  have hp3 : ∀ k, pv.ownBlock = some k → ¬ (k = mb ∨ rv.ownBlock = some k) := fun k hk e => e.elim (fun e => h.pm (e ▸ hk)) (fun e => h.pr k hk e)
  refine ⟨⟨by simpa using hb3, setc_ne ((u.cell (p := ⟨b, 0, none⟩) h.lt nb).trans h.c0) (by decide), setc_ne ((u.cell (p := ⟨b, 1, none⟩) h.lt nb).trans h.c1) (by decide), setc_ne ((u.cell (p := ⟨b, 2, none⟩) h.lt nb).trans h.c2) (by decide), setc_eq k3, setc_ne ((u.cell (p := ⟨b, 4, none⟩) h.lt nb).trans h.c4) (by decide), fun i => setf ((u.frozen (p := ⟨b, i, none⟩) h.lt nb).trans (h.fr i)), (h.pl.upd u hp3).upd uo (fun k hk e => h.pne (e ▸ hk)), hR.upd1 uo (fun g hg e => rne' (e ▸ hg)), hm.upd uo h.mne, by simpa using hn', h.mne, h.pne, rne', h.pm, rm', pr', fun g hg => by have := h.plt g hg; have := u.size; simp; omega, h.sp, fun q hq => ?_⟩, ?_⟩
  · rcases List.mem_append.1 hq with hq | hq
    · exact h.sr q hq
    · rw [List.mem_singleton.1 hq]; exact hs
  · exact (u.mono (fun k _ hk => .inr hk)).setCell (p := ⟨b, 3, none⟩) (.inl (.inl rfl)) rv'
theorem MapN.entry (h : MapN w mb n M) (hn : n < maxLen) {p : Pk} {i : Nat} (hi : i < 32) (ht : (Lit.int .i64 p.t).wf = true) (hs : p.s.length ≤ maxLen) :
    ∃ (st : Nat) (v0 : Value) (w1 w2 : World), (Instr.mapEntry 82 (.map (some mb)) (kv p.t p.s)).run Try.prog w = .ok (.tuple #[v0, .int .i64 (st : Int)]) w1 ∧ Upd (fun k => k = mb) w w1 ∧ w1.heap.size = w.heap.size ∧
      (Instr.lookup 82 (.map (some mb)) (kv p.t p.s) false).run Try.prog w1 = .ok (.int .u32 (M p.t p.s : Int)) w1 ∧
      (Instr.entryStore 82 (.map (some mb)) (.int .i64 (st : Int)) (.int .u32 ((M p.t p.s ||| 2 ^ i : Nat) : Int))).run Try.prog w1 = .ok () w2 ∧ Upd (fun k => k = mb) w w2 ∧ w2.heap.size = w.heap.size ∧ MapN w2 mb (n + 1) (sM M p i) := by
  obtain ⟨f, h1, h2⟩ := h
  obtain ⟨st, v0, w1, k1, k2, k3, k4, k5⟩ := h1.entry hn ht hs
  obtain ⟨w2, k6, k7, k8, k9⟩ := k5 ((M p.t p.s ||| 2 ^ i : Nat) : Int)
  refine ⟨st, v0, w1, w2, k1, k2, k3, by rw [k4, (h2 _ _).1], k6, k7, k8, _, k9, fun t s => ?_⟩
  unfold sM
  by_cases e : t = p.t ∧ s = p.s
  · obtain ⟨rfl, rfl⟩ := e
    simp only [and_self, if_true, Option.getD_some]
    refine ⟨trivial, ?_⟩
    have := (h2 p.t p.s).2
    have h3 := pow32 hi
    exact Nat.or_lt_two_pow (n := 32) this h3
  · rw [if_neg e, if_neg e]
    exact h2 t s
end Go.Proofs.Ytjpkdnndhjnkpaa
namespace Go.Proofs.Ytjpkdnndhjnkpaa
open Go.RowKit Go.Maps
variable {w w' : World} {b mb n : Nat} {nn cc : Int} {pv rv : Value} {P R : List Pk} {M : Int → List UInt8 → Nat}
set_option maxHeartbeats 2000000 in
theorem keep_new (p : Pk) (i : Nat) (hf : p.f = (i : Int)) (hi : i < 32) (ht : (Lit.int .i64 p.t).wf = true) (hs : p.s.length ≤ 32768) (h : Net w b nn cc pv rv mb n P R M) (hM : M p.t p.s &&& 2 ^ i = 0) (hl : (R.length + 1) * 32 ≤ 168884986026393) : Calls Try.prog 76 #[.pointer (some ⟨b, 0, none⟩), p.val] w fun e w' => e = .returned (.tuple #[]) ∧ ∃ rv', Net w' b nn cc pv rv' mb (n + 1) P (R ++ [p]) (sM M p i) ∧ Upd (fun k => k = b ∨ k = mb ∨ rv.ownBlock = some k) w w' ∧ (rv'.ownBlock = rv.ownBlock ∨ ∃ k, rv'.ownBlock = some k ∧ w.heap.size ≤ k) := by
  obtain ⟨ra, rcp, hrv, _⟩ := h.rc.form
  subst hrv
  have HN := hide h
  have h4 := h.c4
  have hlt := h.lt
  have hlo : ∀ o k, (Instr.lookup 82 (.map (some mb)) (.agg #[.int .i64 p.t, .string (bst p.s)]) false).run Try.prog ((w.alloc o).drewN k) = .ok (.int .u32 (M p.t p.s : Int)) ((w.alloc o).drewN k) := fun o k => (h.mp.upd (S := fun _ => False) (((Upd.refl _ w).alloc o).drewN k) id).look ht (by unfold maxLen; omega)
  have hm : M p.t p.s < 4294967296 := by obtain ⟨f, _, h2⟩ := h.mp; exact (h2 _ _).2
  have y4 : ∀ o, (w.alloc o).cell? ⟨b, 4, none⟩ = some (.map (some mb)) := fun o => (World.cell?_alloc_past _ _ _ hlt).trans h4
  have hand := and_u hm hi
  have hor := or_u hm hi
  rw [hM] at hand
  have hp := pow32 hi
  have hnm : n < maxLen := by have := h.hn; unfold maxLen; omega
  unfold Pk.val
  rw [hf]
  clear h
  go_enter Try.func76, Try.ntmps76
  go_wp2_with fail
  go_quiet (fail)
  have Ba := hide (belN ((Below.refl w.heap.size w).alloc (Nat.le_refl _) (.cells #[.int .i64 p.t, .string (bst p.s), .int .i64 (i : Int)] 105)) nq)
  have Na := hide (HN.out.later Ba.out)
  have z0 : ((w.alloc (.cells #[.int .i64 p.t, .string (bst p.s), .int .i64 (i : Int)] 105)).drewN nq).cell? ⟨w.heap.size, 0, none⟩ = some (.int .i64 p.t) := by simp
  have z1 : ((w.alloc (.cells #[.int .i64 p.t, .string (bst p.s), .int .i64 (i : Int)] 105)).drewN nq).cell? ⟨w.heap.size, 1, none⟩ = some (.string (bst p.s)) := by simp
  have z2 : ((w.alloc (.cells #[.int .i64 p.t, .string (bst p.s), .int .i64 (i : Int)] 105)).drewN nq).cell? ⟨w.heap.size, 2, none⟩ = some (.int .i64 (i : Int)) := by simp
  have zs : w.heap.size < ((w.alloc (.cells #[.int .i64 p.t, .string (bst p.s), .int .i64 (i : Int)] 105)).drewN nq).heap.size := by simp
  clear hlo y4 h4
  generalize (w.alloc (.cells #[.int .i64 p.t, .string (bst p.s), .int .i64 (i : Int)] 105)).drewN nq = wa at *
  have Nd := hide (Na.out.later (Below.refl _ _).drew)
  obtain ⟨st, v0, w1, w2, q1, q2, q3, q4, q5, q6, q7, q8⟩ := Nd.out.mp.entry hnm hi ht (by unfold maxLen; omega : p.s.length ≤ maxLen)
  unfold kv at q1 q4
  have hlt2 : b < wa.heap.size := Na.out.lt
  have hmb : ¬ b = mb := fun e => Na.out.mne e.symm
  have hqm : ¬ w.heap.size = mb := fun e => by have := HN.out.mp.lt; omega
  have a4 : wa.drew.cell? ⟨b, 4, none⟩ = some (.map (some mb)) := Nd.out.c4
  have b4 : w1.cell? ⟨b, 4, none⟩ = some (.map (some mb)) := (q2.cell (p := ⟨b, 4, none⟩) hlt2 hmb).trans a4
  have e0 : w1.cell? ⟨w.heap.size, 0, none⟩ = some (.int .i64 p.t) := (q2.cell (p := ⟨w.heap.size, 0, none⟩) zs hqm).trans z0
  have e1 : w1.cell? ⟨w.heap.size, 1, none⟩ = some (.string (bst p.s)) := (q2.cell (p := ⟨w.heap.size, 1, none⟩) zs hqm).trans z1
  have lo0 := Nd.out.mp.look ht (by unfold maxLen; omega : p.s.length ≤ maxLen)
  unfold kv at lo0
  have hor2 : (.int .u32 (bits .or .u32 (M p.t p.s : Int) ((2 : Int) ^ i % 4294967296)) : Value) = .int .u32 ((M p.t p.s ||| 2 ^ i : Nat) : Int) := by rw [hor]
  go_wp2_with fail
  go_region
  have u2 : Upd (fun k => k = mb) wa w2 := (Upd.of_below (Below.refl wa.heap.size wa).drew).trans q6
  have f0 : w2.cell? ⟨w.heap.size, 0, none⟩ = some (.int .i64 p.t) := (u2.cell (p := ⟨w.heap.size, 0, none⟩) zs hqm).trans z0
  have f1 : w2.cell? ⟨w.heap.size, 1, none⟩ = some (.string (bst p.s)) := (u2.cell (p := ⟨w.heap.size, 1, none⟩) zs hqm).trans z1
  have f2 : w2.cell? ⟨w.heap.size, 2, none⟩ = some (.int .i64 (i : Int)) := (u2.cell (p := ⟨w.heap.size, 2, none⟩) zs hqm).trans z2
  have zs2 : w.heap.size < w2.heap.size := Nat.lt_of_lt_of_le zs u2.size
  have b3 : w2.cell? ⟨b, 3, none⟩ = some (.slice ra R.length rcp) := (u2.cell (p := ⟨b, 3, none⟩) hlt2 hmb).trans Na.out.c3
  have fr3 : w2.frozen? ⟨b, 3, none⟩ = false := (u2.frozen (p := ⟨b, 3, none⟩) hlt2 hmb).trans (Na.out.fr 3)
  have O2 := hide (Na.out.rc.upd1 u2 (fun k hk e => Na.out.rm (e ▸ hk)))
  have M2 := hide q8
  have U2 := hide u2
  have hb2 : b < w2.heap.size := Nat.lt_of_lt_of_le hlt2 u2.size
  clear q1 q2 q3 q4 q5 q6 q7 q8 lo0 e0 e1 a4 b4 z0 z1 z2 u2 Nd
  have y3 : ∀ o, (w2.alloc o).cell? ⟨b, 3, none⟩ = some (.slice ra R.length rcp) := fun o => (World.cell?_alloc_past _ _ _ hb2).trans b3
  have UA : ∀ o, Hid (Below w2.heap.size w2 (w2.alloc o).drew) := fun o => ((Below.refl _ _).alloc (Nat.le_refl _) o).drew
  have SB : Hid (SlY yP (w2.alloc (.cells #[.int .i64 p.t, .string (bst p.s), .int .i64 (i : Int)] 105)).drew (some ⟨w2.heap.size, 0, none⟩) 1 1 [p]) := by
    have h1 := (one_pk w2 p).later (Below.refl _ _).drew
    rw [hf] at h1
    exact h1
  go_wp2_with fail
  go_region_law (refine stepY2 kP (by decide) rfl (.tmp 33) (.tmp 35) rfl 0 R (.slice ra R.length rcp) rfl (some ⟨w2.heap.size, 0, none⟩) 1 1 rfl [p] SB.out (O2.out.grow (UA _).out) (Nat.zero_le _) (by unfold maxLen; omega) hl ?_; intro v3 w3 k3 g3 n3; have r3 := gcell g3 (y3 _) (fun e => HN.out.rne e); have rf := gfroz g3 (b := b) (i := 3) (by simp; omega) (((UA _).out.frozen (p := ⟨b, 3, none⟩) hb2).trans fr3) (fun e => HN.out.rne e); obtain ⟨va, vc, hv3, _⟩ := k3.form; subst hv3)
  all_goals
    have hA := (UA (.cells #[.int .i64 p.t, .string (bst p.s), .int .i64 (i : Int)] 105)).out
    have u3 : Upd (fun k => (Value.slice ra R.length rcp).ownBlock = some k) w2 w3 := (Upd.of_below hA).trans (gupd g3 (fun k e => e))
    have uw : Upd (fun k => k = mb ∨ (Value.slice ra R.length rcp).ownBlock = some k) w w3 := ((Upd.of_below Ba.out).trans (U2.out.mono (fun k _ e => .inl e))).trans (u3.mono (fun k _ e => .inr e))
    have sz2 : w.heap.size ≤ w2.heap.size := by omega
    have n2 : (Value.slice va (R ++ [p]).length vc).ownBlock = (Value.slice ra R.length rcp).ownBlock ∨ ∃ k, (Value.slice va (R ++ [p]).length vc).ownBlock = some k ∧ w.heap.size ≤ k := n3.imp id (fun ⟨k, e1, e2⟩ => ⟨k, e1, Nat.le_trans (Nat.le_trans sz2 hA.size) e2⟩)
    obtain ⟨N1, U1⟩ := HN.out.setRec uw k3 (M2.out.upd u3 (fun e => HN.out.rm e)) (by have := HN.out.hn; omega) n2 hs
    rw [List.length_append] at N1 U1 n2
    simp only [List.length_cons, List.length_nil, Nat.zero_add] at N1 U1 n2
    have H1 := hide N1
    have H2 := hide U1
    have H3 := hide n2
    clear N1 U1 n2 uw u3 hA g3 k3 n3 r3 rf y3 UA SB O2 M2 U2 HN Na Ba b3 fr3 f0 f1 f2
    go_wp2
    go_end0
    exact ⟨rfl, _, H1.out, H2.out, H3.out⟩
end Go.Proofs.Ytjpkdnndhjnkpaa
namespace Go.Proofs.Ytjpkdnndhjnkpaa
open Go.RowKit Go.Maps
variable {w w' : World} {b mb n : Nat} {nn cc : Int} {pv rv : Value} {P R : List Pk} {M : Int → List UInt8 → Nat}
theorem SlY.bel8 {α : Type} {Y : Lay α} {w w' : World} {a : Option Addr} {n c : Nat} {l : List α} (h : SlY Y w a n c l) (hb : Below w.heap.size w w') : SlY Y w' a n c l := h.later hb
set_option maxHeartbeats 1000000 in
theorem inject_ok (x : Ap) (h : Net w b nn cc pv rv mb n P R M) (hx : x.In w) (ht : (Lit.int .i64 x.t).wf = true) (ha : adr nn cc x.t = true) (hs : x.s.length ≤ 32768) (hl : (P.length + 1) * 32 ≤ 168884986026393) : Calls Try.prog 35 #[.pointer (some ⟨b, 0, none⟩), x.val] w fun e w' => e = .returned (.int .i64 0) ∧ ∃ pv', Net w' b nn cc pv' rv mb n (P ++ [x.pk]) R M ∧ Upd (fun k => k = b ∨ pv.ownBlock = some k) w w' ∧ (pv'.ownBlock = pv.ownBlock ∨ ∃ k, pv'.ownBlock = some k ∧ w.heap.size ≤ k) := by
  have HN := hide h
  have HX := hide hx
  clear h hx
  have hi : (x.s.length : Int) ≤ 32768 := by omega
  have HA : ∀ o, Hid (Calls Try.prog 75 #[.pointer (some ⟨b, 0, none⟩), .int .i64 x.t] (w.alloc o) fun e w' => e = .returned (.bool true) ∧ w' = w.alloc o) := fun o => by
    have := isAddress_any x.t (HN.out.later ((Below.refl _ _).alloc (Nat.le_refl _) o)) ht
    rw [ha] at this
    exact this
  have HI : ∀ o, Hid (Calls Try.prog 73 #[x.val] (w.alloc o) fun e w' => e = .returned x.pk.val ∧ Below (w.alloc o).heap.size (w.alloc o) w') := fun o => incoming_any x _ (SlY.alloc8 HX.out o)
  unfold Ap.val at HI ⊢
  go_enter Try.func35, Try.ntmps35
  go_wp2_with fail
  refine (HA _).out.mono ?_
  rintro e w1 ⟨rfl, rfl⟩
  go_wp2_with fail
  refine (HI _).out.mono ?_
  rintro e w2 ⟨rfl, hb2⟩
  have hB : Below w.heap.size w w2 := ((Below.refl _ _).alloc (Nat.le_refl _) _).trans (hb2.mono (by simp))
  have HL := hide (lay_any x.pk (HN.out.later hB) hs hl)
  have HB := hide hB
  clear hb2 hB HI HA
  go_wp2_with fail
  refine HL.out.mono ?_
  rintro e w3 ⟨rfl, pv', N3, U3, n3⟩
  have H1 := hide N3
  have H2 := hide ((Upd.of_below HB.out).trans U3)
  have H3 : Hid (pv'.ownBlock = pv.ownBlock ∨ ∃ k, pv'.ownBlock = some k ∧ w.heap.size ≤ k) := n3.imp id (fun ⟨k, e1, e2⟩ => ⟨k, e1, Nat.le_trans HB.out.size e2⟩)
  clear N3 U3 n3 HL HB
  go_wp2
  go_ret
  exact ⟨rfl, _, H1.out, H2.out, H3.out⟩
set_option maxHeartbeats 1000000 in
theorem inject_bad (x : Ap) (h : Net w b nn cc pv rv mb n P R M) (ht : (Lit.int .i64 x.t).wf = true) (hs : adr nn cc x.t = false ∨ 32768 < x.s.length) : Calls Try.prog 35 #[.pointer (some ⟨b, 0, none⟩), x.val] w fun e w' => e = .returned (.int .i64 (if adr nn cc x.t = false then 140 else 142)) ∧ Below w.heap.size w w' := by
  have HN := hide h
  clear h
  have HA : ∀ o, Hid (Calls Try.prog 75 #[.pointer (some ⟨b, 0, none⟩), .int .i64 x.t] (w.alloc o) fun e w' => e = .returned (.bool (adr nn cc x.t)) ∧ w' = w.alloc o) := fun o => isAddress_any x.t (HN.out.later ((Below.refl _ _).alloc (Nat.le_refl _) o)) ht
  unfold Ap.val
  cases ha : adr nn cc x.t with
  | false =>
    rw [ha] at HA
    rw [if_pos rfl]
    go_enter Try.func35, Try.ntmps35
    go_wp2_with fail
    refine (HA _).out.mono ?_
    rintro e w1 ⟨rfl, rfl⟩
    go_wp2
    go_ret
    exact ⟨rfl, (Below.refl _ _).alloc (Nat.le_refl _) _⟩
  | true =>
    rw [ha] at HA hs
    have hs : 32768 < x.s.length := hs.elim (fun e => by cases e) id
    have hi : (32768 : Int) < (x.s.length : Int) := by omega
    rw [if_neg (by simp)]
    go_enter Try.func35, Try.ntmps35
    go_wp2_with fail
    refine (HA _).out.mono ?_
    rintro e w1 ⟨rfl, rfl⟩
    go_wp2
    go_ret
    exact ⟨rfl, (Below.refl _ _).alloc (Nat.le_refl _) _⟩
end Go.Proofs.Ytjpkdnndhjnkpaa
namespace Go.Proofs.Ytjpkdnndhjnkpaa
open Go.RowKit Go.Maps
variable {w w' : World} {b mb n : Nat} {nn cc : Int} {pv rv : Value} {P R : List Pk} {M : Int → List UInt8 → Nat}
theorem keep_any (p : Pk) (i : Nat) (hf : p.f = (i : Int)) (hi : i < 32) (ht : (Lit.int .i64 p.t).wf = true) (hs : p.s.length ≤ 32768) (h : Net w b nn cc pv rv mb n P R M) (hl : (R.length + 1) * 32 ≤ 168884986026393) : Calls Try.prog 76 #[.pointer (some ⟨b, 0, none⟩), p.val] w fun e w' => e = .returned (.tuple #[]) ∧ ∃ rv' n', Net w' b nn cc pv rv' mb n' P (sR M R p i) (sM M p i) ∧ Upd (fun k => k = b ∨ k = mb ∨ rv.ownBlock = some k) w w' ∧ (rv'.ownBlock = rv.ownBlock ∨ ∃ k, rv'.ownBlock = some k ∧ w.heap.size ≤ k) := by
  by_cases hM : M p.t p.s &&& 2 ^ i = 0
  · refine (keep_new p i hf hi ht hs h hM hl).mono ?_
    rintro e w' ⟨rfl, rv', h1, h2, h3⟩
    refine ⟨rfl, rv', n + 1, ?_, h2, h3⟩
    unfold sR
    rw [if_pos hM]
    exact h1
  · refine (keep_old p i hf hi ht hs h hM).mono ?_
    rintro e w' ⟨rfl, hb⟩
    refine ⟨rfl, rv, n, ?_, Upd.of_below hb, .inl rfl⟩
    unfold sR
    rw [if_neg hM, sM_old hM]
    exact h.later hb
theorem adr_lt {a : Int} (h : adr nn cc a = true) (h1 : nn ≤ 7) (h2 : cc ≤ 16) : ∃ i : Nat, a = (i : Int) ∧ i < 32 := by
  unfold adr at h
  simp only [Bool.or_eq_true, Bool.and_eq_true, decide_eq_true_eq] at h
  exact ⟨a.toNat, by omega, by omega⟩
set_option maxHeartbeats 1000000 in
theorem send_ok (x : Ap) (i : Nat) (h : Net w b nn cc pv rv mb n P R M) (hx : x.In w) (hf : x.f = (i : Int)) (hi : i < 32) (ht : (Lit.int .i64 x.t).wf = true) (hfa : adr nn cc x.f = true) (ha : adr nn cc x.t = true) (hs : x.s.length ≤ 32768) (hl : (P.length + 1) * 32 ≤ 168884986026393) (hr : (R.length + 1) * 32 ≤ 168884986026393) : Calls Try.prog 25 #[.pointer (some ⟨b, 0, none⟩), x.val] w fun e w' => e = .returned (.int .i64 0) ∧ ∃ pv' rv' n', Net w' b nn cc pv' rv' mb n' (P ++ [x.pk]) (sR M R x.pk i) (sM M x.pk i) ∧ Upd (fun k => k = b ∨ k = mb ∨ pv.ownBlock = some k ∨ rv.ownBlock = some k) w w' ∧ (pv'.ownBlock = pv.ownBlock ∨ ∃ k, pv'.ownBlock = some k ∧ w.heap.size ≤ k) ∧ (rv'.ownBlock = rv.ownBlock ∨ ∃ k, rv'.ownBlock = some k ∧ w.heap.size ≤ k) := by
  have HN := hide h
  have HX := hide hx
  clear h hx
  have wf : (Lit.int .i64 x.f).wf = true := wf_i64 (by omega)
  have HA : ∀ o, Hid (Calls Try.prog 75 #[.pointer (some ⟨b, 0, none⟩), .int .i64 x.f] (w.alloc o) fun e w' => e = .returned (.bool true) ∧ w' = w.alloc o) := fun o => by
    have := isAddress_any x.f (HN.out.later ((Below.refl _ _).alloc (Nat.le_refl _) o)) wf
    rw [hfa] at this
    exact this
  have HJ : ∀ o, Hid (Calls Try.prog 35 #[.pointer (some ⟨b, 0, none⟩), x.val] (w.alloc o) fun e w' => e = .returned (.int .i64 0) ∧ ∃ pv', Net w' b nn cc pv' rv mb n (P ++ [x.pk]) R M ∧ Upd (fun k => k = b ∨ pv.ownBlock = some k) (w.alloc o) w' ∧ (pv'.ownBlock = pv.ownBlock ∨ ∃ k, pv'.ownBlock = some k ∧ (w.alloc o).heap.size ≤ k)) := fun o => inject_ok x (HN.out.later ((Below.refl _ _).alloc (Nat.le_refl _) o)) (SlY.alloc8 HX.out o) ht ha hs hl
  have HF := hide hf
  clear hf
  unfold Ap.val at HJ ⊢
  go_enter Try.func25, Try.ntmps25
  go_wp2_with fail
  refine (HA _).out.mono ?_
  rintro e w1 ⟨rfl, rfl⟩
  go_wp2_with fail
  refine (HJ _).out.mono ?_
  rintro e w2 ⟨rfl, pv', N2, U2, n2⟩
  obtain ⟨a, c, hpv, hsl⟩ := N2.pl.sl
  subst hpv
  obtain ⟨q, o, ha2, hq, hlie⟩ := hsl.place (by simp)
  subst ha2
  have hlast : (P ++ [x.pk])[P.length]? = some x.pk := by simp
  have l0 : w2.cell? ⟨q, o + P.length * 3, none⟩ = some (.int .i64 x.t) := hlie _ _ hlast 0 _ rfl
  have l1 : w2.cell? ⟨q, o + P.length * 3 + 1, none⟩ = some (.string (bst x.s)) := hlie _ _ hlast 1 _ rfl
  have l2 : w2.cell? ⟨q, o + P.length * 3 + 2, none⟩ = some (.int .i64 x.f) := hlie _ _ hlast 2 _ rfl
  have c2 := N2.c2
  have hlen : (P ++ [x.pk]).length = P.length + 1 := by simp
  rw [hlen] at c2
  have hwr : IntKind.i64.wrap ((P.length : Int) + 1 - 1) = (P.length : Int) := by rw [IntKind.wrap_i64]; omega
  have hwr2 : IntKind.i64.wrap (P.length : Int) = (P.length : Int) := by rw [IntKind.wrap_i64]; omega
  have hix : (P.length : Int) < (P.length : Int) + 1 := by omega
  have hix2 : P.length < P.length + 1 := by omega
  have hcap := hsl.cap
  rw [hlen] at hcap
  have HK := hide (keep_any x.pk i HF.out hi ht hs (N2.later (Below.refl _ _).drew) hr)
  have hqx : ¬ (q = b ∨ q = mb ∨ rv.ownBlock = some q) := fun e => e.elim (fun e => N2.pne (by rw [← e]; rfl)) (fun e => e.elim (fun e => N2.pm (by rw [← e]; rfl)) (fun e => N2.pr q rfl e))
  have KF : Hid (∀ v, v.cell? ⟨b, 2, none⟩ = some (.slice (some ⟨q, o, none⟩) (P.length + 1) c) → Upd (fun k => k = b ∨ k = mb ∨ rv.ownBlock = some k) w2.drew v → v.cell? ⟨b, 2, none⟩ = some (.slice (some ⟨q, o, none⟩) (P.length + 1) c) ∧ v.cell? ⟨q, o + P.length * 3, none⟩ = some (.int .i64 x.t) ∧ v.cell? ⟨q, o + P.length * 3 + 1, none⟩ = some (.string (bst x.s)) ∧ v.cell? ⟨q, o + P.length * 3 + 2, none⟩ = some (.int .i64 x.f)) := fun v h2 u => ⟨h2, (u.cell (p := ⟨q, o + P.length * 3, none⟩) hq hqx).trans l0, (u.cell (p := ⟨q, o + P.length * 3 + 1, none⟩) hq hqx).trans l1, (u.cell (p := ⟨q, o + P.length * 3 + 2, none⟩) hq hqx).trans l2⟩
  have s0 := KF.out w2.drew c2 (Upd.refl _ _)
  have H2 := hide N2
  have U2' := hide (((Upd.refl (fun k => k = b ∨ pv.ownBlock = some k) w).alloc (.cells #[.int .i64 x.f, .int .i64 x.t, .slice x.a x.s.length x.c] 46)).trans U2)
  have H3 : Hid ((Value.slice (some ⟨q, o, none⟩) (P ++ [x.pk]).length c).ownBlock = pv.ownBlock ∨ ∃ k, (Value.slice (some ⟨q, o, none⟩) (P ++ [x.pk]).length c).ownBlock = some k ∧ w.heap.size ≤ k) := n2.imp id (fun ⟨k, e1, e2⟩ => ⟨k, e1, by simp at e2; omega⟩)
  have hz2 : w.heap.size ≤ w2.heap.size := by have := U2.size; simp at this; omega
  unfold Pk.val Ap.pk at HK
  clear N2 U2 n2 hsl hlie HJ HA l0 l1 l2 c2
  go_wp2_with fail
  go_region_held3 (fun v => v.cell? ⟨b, 2, none⟩ = some (.slice (some ⟨q, o, none⟩) (P.length + 1) c) ∧ v.cell? ⟨q, o + P.length * 3, none⟩ = some (.int .i64 x.t) ∧ v.cell? ⟨q, o + P.length * 3 + 1, none⟩ = some (.string (bst x.s)) ∧ v.cell? ⟨q, o + P.length * 3 + 2, none⟩ = some (.int .i64 x.f)) (first | with_reducible assumption | go_keep)
    (first | (go_at_call 76; refine HK.out.mono ?_; rintro e w3 ⟨rfl, rv', n', N3, U3, n3⟩; have s1 := KF.out w3 (by have := N3.c2; rw [List.length_append] at this; exact this) U3))
  go_wp2
  go_ret
  refine ⟨rfl, _, rv', n', N3, ?_, H3.out, n3.imp id (fun ⟨k, e1, e2⟩ => ⟨k, e1, Nat.le_trans hz2 e2⟩)⟩
  exact ((U2'.out.mono (fun k _ e => e.elim .inl (fun e => .inr (.inr (.inl e))))).trans (Upd.of_below (Below.refl _ _).drew)).trans (U3.mono (fun k _ e => e.elim .inl (fun e => .inr (e.elim .inl (fun e => .inr (.inr e))))))
end Go.Proofs.Ytjpkdnndhjnkpaa
namespace Go.Proofs.Ytjpkdnndhjnkpaa
open Go.RowKit Go.Maps
variable {w w' : World} {b mb n : Nat} {nn cc : Int} {pv rv : Value} {P R : List Pk} {M : Int → List UInt8 → Nat}
theorem netnew_any (a c : Int) (w : World) (h : 1 ≤ a ∧ a ≤ 7 ∧ 0 ≤ c ∧ c ≤ 16) : Calls Try.prog 10 #[.int .i64 a, .int .i64 c] w fun e w' => ∃ b mb, e = .returned (.tuple #[.pointer (some ⟨b, 0, none⟩), .int .i64 0]) ∧ Net w' b a c (.slice none 0 0) (.slice none 0 0) mb 0 [] [] (fun _ _ => 0) ∧ w.heap.size ≤ b ∧ w.heap.size ≤ mb ∧ Below w.heap.size w w' := by
  obtain ⟨h1, h2, h3, h4⟩ := h
  have e1 : ¬ a < 1 := by omega
  have e2 : ¬ 7 < a := by omega
  have e3 : ¬ c < 0 := by omega
  have e4 : ¬ 16 < c := by omega
  have hmm := @run_makeMap Try.prog
  have HM := hide (MapK.made w)
  clear h1 h2 h3 h4
  go_enter Try.func10, Try.ntmps10
  go_wp2
  refine bodyPost_ret (results_tmp2 rfl _ _ _) rfl ⟨w.heap.size + 1, rfl, w.heap.size, ?_, by omega, Nat.le_refl _, ?_⟩
  · have hB : Below (w.alloc (.map #[] 0)).heap.size (w.alloc (.map #[] 0)) ((w.alloc (.map #[] 0)).alloc (.cells #[.int .i64 a, .int .i64 c, .slice none 0 0, .slice none 0 0, .map (some w.heap.size)] 84)) := (Below.refl _ _).alloc (Nat.le_refl _) _
    refine ⟨by simp, by simp, by simp, by simp, by simp, by simp, fun i => by simp, .inl (OwnY.nil _ _ _), OwnY.nil _ _ _, ⟨_, HM.out.upd (S := fun _ => False) (Upd.of_below hB) id, fun t s => ⟨rfl, by show (0 : Nat) < _; decide⟩⟩, by simp, by omega, by simp [Value.ownBlock], by simp [Value.ownBlock], by simp [Value.ownBlock], by simp [Value.ownBlock], by simp [Value.ownBlock], by simp [Value.ownBlock], by simp, by simp⟩
  · exact bel8 ((Below.refl _ _).alloc (Nat.le_refl _) _) (Nat.le_refl _) _
theorem len14_any (h : Net w b nn cc pv rv mb n P R M) : Calls Try.prog 34 #[.pointer (some ⟨b, 0, none⟩)] w fun e w' => e = .returned (.int .i64 (P.length : Int)) ∧ w' = w := by
  have c2 := h.c2
  obtain ⟨a, c, rfl, _⟩ := h.pl.sl
  clear h
  go_enter Try.func34, Try.ntmps34
  go_wp2
  go_ret
  exact ⟨rfl, rfl⟩
theorem sent_any (h : Net w b nn cc pv rv mb n P R M) : Calls Try.prog 43 #[.pointer (some ⟨b, 0, none⟩)] w fun e w' => e = .returned (.int .i64 (R.length : Int)) ∧ w' = w := by
  have c3 := h.c3
  obtain ⟨a, c, rfl, _⟩ := h.rc.form
  clear h
  go_enter Try.func43, Try.ntmps43
  go_wp2
  go_ret
  exact ⟨rfl, rfl⟩
set_option maxHeartbeats 1000000 in
theorem tell_ok (L : List Pk) (a : Option Addr) (c k : Nat) (p : Pk) (w : World) (h : SlY yP w a L.length c L) (hk : L[k]? = some p) (hs : p.s.length ≤ 32768) : Calls Try.prog 70 #[.slice a L.length c, .int .i64 (k : Int)] w fun e w' => ∃ x : Ap, e = .returned (.tuple #[x.val, .int .i64 0]) ∧ x.pk = p ∧ x.Out w.heap.size w' ∧ Below w.heap.size w w' := by
  have hlt := (List.getElem?_eq_some_iff.1 hk).1
  obtain ⟨q, o, rfl, hq, hl⟩ := h.place (by intro e; rw [e] at hk; simp at hk)
  have l0 : w.cell? ⟨q, o + k * 3, none⟩ = some (.int .i64 p.t) := hl _ _ hk 0 _ rfl
  have l1 : w.cell? ⟨q, o + k * 3 + 1, none⟩ = some (.string (bst p.s)) := hl _ _ hk 1 _ rfl
  have l2 : w.cell? ⟨q, o + k * 3 + 2, none⟩ = some (.int .i64 p.f) := hl _ _ hk 2 _ rfl
  have HW : ∀ v, Hid (Calls Try.prog 77 #[.int .i64 (k : Int), .int .i64 (L.length : Int)] v fun e w' => e = .returned (.bool true) ∧ w' = v) := fun v => by
    have := isWithin_any (k : Int) (L.length : Int) v
    rw [decide_eq_true (show (0 : Int) ≤ k by omega), decide_eq_true (show (k : Int) < L.length by omega)] at this
    exact this
  have hcap := h.cap
  have hki : (k : Int) < (L.length : Int) := by omega
  have al : ∀ o' j x, w.cell? ⟨q, j, none⟩ = some x → (w.alloc o').cell? ⟨q, j, none⟩ = some x := fun o' j x hx => (World.cell?_alloc_past _ _ _ hq).trans hx
  have m0 := fun o' => al o' _ _ l0
  have m1 := fun o' => al o' _ _ l1
  have m2 := fun o' => al o' _ _ l2
  have HO : ∀ o', Hid (Calls Try.prog 84 #[p.val] (w.alloc o') fun e w' => ∃ x : Ap, e = .returned x.val ∧ x.pk = p ∧ x.Out (w.alloc o').heap.size w' ∧ Below (w.alloc o').heap.size (w.alloc o') w') := fun o' => outgoing_any p _ (by omega)
  unfold Pk.val at HO
  clear al hl h l0 l1 l2 hk hlt
  go_enter Try.func70, Try.ntmps70
  go_wp2_with fail
  refine (HW _).out.mono ?_
  rintro e w1 ⟨rfl, rfl⟩
  go_wp2_with fail
  refine (HO _).out.mono ?_
  rintro e w2 ⟨x, rfl, hx, ho, hb⟩
  have r0 : w2.cell? ⟨w.heap.size, 0, none⟩ = some (.int .i64 0) := (hb.cell (p := ⟨w.heap.size, 0, none⟩) (by simp)).trans (by go_simp)
  have r1 : w2.cell? ⟨w.heap.size, 1, none⟩ = some (.int .i64 0) := (hb.cell (p := ⟨w.heap.size, 1, none⟩) (by simp)).trans (by go_simp)
  have r2 : w2.cell? ⟨w.heap.size, 2, none⟩ = some (.slice none 0 0) := (hb.cell (p := ⟨w.heap.size, 2, none⟩) (by simp)).trans (by go_simp)
  have t0 : ∀ j, w2.frozen? ⟨w.heap.size, j, none⟩ = false := fun j => (hb.frozen (p := ⟨w.heap.size, j, none⟩) (by simp)).trans (by go_simp)
  have HX := hide hx
  have HP := hide ho
  have hzz : w.heap.size < w2.heap.size := by have := hb.size; simp at this; omega
  have HB := hide (((Below.refl w.heap.size w).alloc (Nat.le_refl _) (.cells #[.int .i64 0, .int .i64 0, .slice none 0 0] 46)).trans (hb.mono (by simp)))
  clear hx ho hb HO HW m0 m1 m2
  unfold Ap.val
  go_wp2
  refine bodyPost_ret (v := .tuple #[.agg #[.int .i64 x.f, .int .i64 x.t, .slice x.a x.s.length x.c], .int .i64 0]) (by simp [results, Try.results70, go_sem, r0, r1, r2]) rfl ⟨x, rfl, HX.out, ?_, ?_⟩
  · obtain ⟨g, hg, g1, g2⟩ := HP.out.some_
    simp at g1
    refine ⟨(HP.out.own.upd1 (set3 w2 w.heap.size _ _ _) (fun k hk e => ?_)).low (by simp), g, hg, by omega, by simpa using g2⟩
    have := (HP.out.own.blk k hk).1
    simp at this
    omega
  · exact HB.out.trans ((set3 w2 w.heap.size _ _ _).below HB.out.size (fun k hk => by omega))
theorem tell_bad (L : List Pk) (a : Option Addr) (c : Nat) (k : Int) (w : World) (hk : k < 0 ∨ (L.length : Int) ≤ k) : Calls Try.prog 70 #[.slice a L.length c, .int .i64 k] w fun e w' => e = .returned (.tuple #[.agg #[.int .i64 0, .int .i64 0, .slice none 0 0], .int .i64 141]) ∧ Below w.heap.size w w' := by
  have HW : ∀ v, Hid (Calls Try.prog 77 #[.int .i64 k, .int .i64 (L.length : Int)] v fun e w' => e = .returned (.bool false) ∧ w' = v) := fun v => by
    have := isWithin_any k (L.length : Int) v
    have e : (decide (0 ≤ k) && decide (k < (L.length : Int))) = false := by simp; omega
    rw [e] at this
    exact this
  go_enter Try.func70, Try.ntmps70
  go_wp2_with fail
  refine (HW _).out.mono ?_
  rintro e w1 ⟨rfl, rfl⟩
  go_wp2
  refine bodyPost_ret (v := .tuple #[.agg #[.int .i64 0, .int .i64 0, .slice none 0 0], .int .i64 141]) (by simp [results, Try.results70, go_sem]) rfl ⟨rfl, ?_⟩
  exact (Below.refl _ _).alloc (Nat.le_refl _) _
end Go.Proofs.Ytjpkdnndhjnkpaa
namespace Go.Proofs.Ytjpkdnndhjnkpaa
open Go.RowKit Go.Maps
variable {w w' : World} {b mb n : Nat} {nn cc : Int} {pv rv : Value} {P R : List Pk} {M : Int → List UInt8 → Nat}
theorem at_ok (k : Nat) (p : Pk) (h : Net w b nn cc pv rv mb n P R M) (hk : P[k]? = some p) : Calls Try.prog 18 #[.pointer (some ⟨b, 0, none⟩), .int .i64 (k : Int)] w fun e w' => ∃ x : Ap, e = .returned (.tuple #[x.val, .int .i64 0]) ∧ x.pk = p ∧ x.Out w.heap.size w' ∧ Below w.heap.size w w' := by
  have c2 := h.c2
  have hlt := h.lt
  have hs := h.sp p (List.mem_of_getElem? hk)
  obtain ⟨a, c, rfl, hsl⟩ := h.pl.sl
  have y2 : ∀ o, (w.alloc o).cell? ⟨b, 2, none⟩ = some (.slice a P.length c) := fun o => (World.cell?_alloc_past _ _ _ hlt).trans c2
  have HT : ∀ o, Hid (Calls Try.prog 70 #[.slice a P.length c, .int .i64 (k : Int)] (w.alloc o) fun e w' => ∃ x : Ap, e = .returned (.tuple #[x.val, .int .i64 0]) ∧ x.pk = p ∧ x.Out (w.alloc o).heap.size w' ∧ Below (w.alloc o).heap.size (w.alloc o) w') := fun o => tell_ok P a c k p _ (hsl.alloc8 o) hk hs
  clear h hsl hk hs
  go_enter Try.func18, Try.ntmps18
  go_wp2_with fail
  refine (HT _).out.mono ?_
  rintro e w2 ⟨x, rfl, hx, ho, hb⟩
  have r0 : w2.cell? ⟨w.heap.size, 0, none⟩ = some (.int .i64 0) := (hb.cell (p := ⟨w.heap.size, 0, none⟩) (by simp)).trans (by go_simp)
  have r1 : w2.cell? ⟨w.heap.size, 1, none⟩ = some (.int .i64 0) := (hb.cell (p := ⟨w.heap.size, 1, none⟩) (by simp)).trans (by go_simp)
  have r2 : w2.cell? ⟨w.heap.size, 2, none⟩ = some (.slice none 0 0) := (hb.cell (p := ⟨w.heap.size, 2, none⟩) (by simp)).trans (by go_simp)
  have t0 : ∀ j, w2.frozen? ⟨w.heap.size, j, none⟩ = false := fun j => (hb.frozen (p := ⟨w.heap.size, j, none⟩) (by simp)).trans (by go_simp)
  have HX := hide hx
  have HP := hide ho
  have HB := hide (((Below.refl w.heap.size w).alloc (Nat.le_refl _) (.cells #[.int .i64 0, .int .i64 0, .slice none 0 0] 46)).trans (hb.mono (by simp)))
  clear hx ho hb HT y2 c2
  unfold Ap.val
  go_wp2
  refine bodyPost_ret (v := .tuple #[.agg #[.int .i64 x.f, .int .i64 x.t, .slice x.a x.s.length x.c], .int .i64 0]) (by simp [results, Try.results18, go_sem, r0, r1, r2]) rfl ⟨x, rfl, HX.out, ?_, ?_⟩
  · obtain ⟨g, hg, g1, g2⟩ := HP.out.some_
    simp at g1
    refine ⟨(HP.out.own.upd1 (set3 w2 w.heap.size _ _ _) (fun k hk e => ?_)).low (by simp), g, hg, by omega, by simpa using g2⟩
    have := (HP.out.own.blk k hk).1
    simp at this
    omega
  · exact HB.out.trans ((set3 w2 w.heap.size _ _ _).below HB.out.size (fun k hk => by omega))
theorem at_bad (k : Int) (h : Net w b nn cc pv rv mb n P R M) (hk : k < 0 ∨ (P.length : Int) ≤ k) : Calls Try.prog 18 #[.pointer (some ⟨b, 0, none⟩), .int .i64 k] w fun e w' => e = .returned (.tuple #[.agg #[.int .i64 0, .int .i64 0, .slice none 0 0], .int .i64 141]) ∧ Below w.heap.size w w' := by
  have c2 := h.c2
  have hlt := h.lt
  obtain ⟨a, c, rfl, hsl⟩ := h.pl.sl
  have y2 : ∀ o, (w.alloc o).cell? ⟨b, 2, none⟩ = some (.slice a P.length c) := fun o => (World.cell?_alloc_past _ _ _ hlt).trans c2
  have HT := fun v => hide (tell_bad P a c k v hk)
  clear h hsl hk
  go_enter Try.func18, Try.ntmps18
  go_wp2_with fail
  refine (HT _).out.mono ?_
  rintro e w2 ⟨rfl, hb⟩
  have r0 : w2.cell? ⟨w.heap.size, 0, none⟩ = some (.int .i64 0) := (hb.cell (p := ⟨w.heap.size, 0, none⟩) (by simp)).trans (by go_simp)
  have r1 : w2.cell? ⟨w.heap.size, 1, none⟩ = some (.int .i64 0) := (hb.cell (p := ⟨w.heap.size, 1, none⟩) (by simp)).trans (by go_simp)
  have r2 : w2.cell? ⟨w.heap.size, 2, none⟩ = some (.slice none 0 0) := (hb.cell (p := ⟨w.heap.size, 2, none⟩) (by simp)).trans (by go_simp)
  have t0 : ∀ j, w2.frozen? ⟨w.heap.size, j, none⟩ = false := fun j => (hb.frozen (p := ⟨w.heap.size, j, none⟩) (by simp)).trans (by go_simp)
  have HB := hide (((Below.refl w.heap.size w).alloc (Nat.le_refl _) (.cells #[.int .i64 0, .int .i64 0, .slice none 0 0] 46)).trans (hb.mono (by simp)))
  clear hb HT y2 c2
  go_wp2
  refine bodyPost_ret (v := .tuple #[.agg #[.int .i64 0, .int .i64 0, .slice none 0 0], .int .i64 141]) (by simp [results, Try.results18, go_sem, r0, r1, r2]) rfl ⟨rfl, ?_⟩
  exact HB.out.trans ((set3 w2 w.heap.size _ _ _).below HB.out.size (fun k hk => by omega))
theorem clear_any (h : Net w b nn cc pv rv mb n P R M) : Calls Try.prog 32 #[.pointer (some ⟨b, 0, none⟩)] w fun e w' => e = .returned (.tuple #[]) ∧ Net w' b nn cc (.slice none 0 0) rv mb n [] R M ∧ Upd (fun k => k = b) w w' := by
  have c2 := h.c2
  have f2 := h.fr 2
  have HN := hide h
  obtain ⟨a, c, hpv, hsl⟩ := h.pl.sl
  subst hpv
  clear h hsl
  go_enter Try.func32, Try.ntmps32
  go_wp2
  go_end0
  have := HN.out.setPool (w3 := w) (pv' := .slice none 0 0) (P' := []) (Upd.refl _ _) (.inl (OwnY.nil _ _ _)) (.inr (.inl rfl)) (fun g hg => by cases hg) (fun p hp => by cases hp)
  exact ⟨rfl, this.1, (Upd.refl (fun k => k = b) w).setCell (p := ⟨b, 2, none⟩) (.inl rfl) _⟩
end Go.Proofs.Ytjpkdnndhjnkpaa
namespace Go.Proofs.Ytjpkdnndhjnkpaa
open Go.RowKit Go.Maps
variable {w w' : World} {b mb n : Nat} {nn cc : Int} {pv rv : Value} {P R : List Pk} {M : Int → List UInt8 → Nat}
def dr {α : Type} (L : List α) (k : Nat) : List α := L.take k ++ L.drop (k + 1)
theorem stepCut {ops : Array Oper} {o : Oper} {a : Act} {w : World} {K' : Act → World → Prop} {Q : Exit → Act → World → Prop} {E : Prop} (hg : o.guard = none) (s x : Operand)
    (ho : o.op = .call { callee := .builtin .append, args := #[s, x], argTypes := #[81, 81] }) (y : Addr) (k : Nat) (hs : a.eval s = .slice (some y) k k) (ad : Option Addr) (m c : Nat) (hx : a.eval x = .slice ad m c) (P news : List Pk) (hP : SlY yP w (some y) k k P) (hh : SlY yP w ad m c news) (hb : (k + m) * 32 ≤ 168884986026393)
    (hk : ∀ v' w', Pl w' v' (P ++ news) → Below w.heap.size w w' → (v'.ownBlock = some y.block ∨ ∃ k, v'.ownBlock = some k ∧ w.heap.size ≤ k ∧ k < w'.heap.size) → K' (a.put o.dst v') w') :
    if Region.wanted o (yielded ops a.tmps) = true then Oper.wp Try.prog o a w K' Q else E := by
  have hw : Region.wanted o (yielded ops a.tmps) = true := by simp [Region.wanted, hg]
  rw [if_pos hw]
  obtain rfl := hP.len
  have hrun : ∃ v' w', (Builtin.append_ #[81, 81] o.type #[.slice (some y) P.length P.length, .slice ad m c]).run Try.prog w = .ok v' w' ∧ Pl w' v' (P ++ news) ∧ Below w.heap.size w w' ∧ (v'.ownBlock = some y.block ∨ ∃ k, v'.ownBlock = some k ∧ w.heap.size ≤ k ∧ k < w'.heap.size) := by
    by_cases hm : m = 0
    · obtain ⟨v', w', h1, h2, h3, h4⟩ := run_appPl w o.type _ P (.inr ⟨y, rfl, hP⟩) ad m c news hh hb
      subst hm
      obtain rfl := List.eq_nil_of_length_eq_zero hh.len
      obtain ⟨zv, hinfo, hzc⟩ := kP.info
      obtain ⟨i0, hi, hz0, hz1, hz2⟩ := info_parts hinfo
      have hi' : Try.prog.info? 105 = some i0 := hi
      have hr : (Builtin.append_ #[81, 81] o.type #[.slice (some y) P.length P.length, .slice ad 0 c]).run Try.prog w = .ok (.slice (some y) P.length P.length) w := by
        cases ad with
        | none => simp [Builtin.append_, run_underlying Try.underlying81, sizeOf, typeInfo, hi', Builtin.lenOf, Builtin.firstCells, loadCells, loadCellsFrom, storeCells]
        | some z => simp [Builtin.append_, run_underlying Try.underlying81, sizeOf, typeInfo, hi', Builtin.lenOf, Builtin.firstCells, loadCells, loadCellsFrom, storeCells]
      exact ⟨_, _, hr, .inr ⟨y, by rw [List.append_nil], by rw [List.append_nil]; exact hP⟩, Below.refl _ _, .inl rfl⟩
    · obtain ⟨cap, w', h1, h2, h3⟩ := run_appF kP (by decide) w o.type y P news hP ad m c hh (by omega) (by unfold maxLen; omega) hb
      exact ⟨_, w', h1, .inl (h2.low (Nat.zero_le _)), h3, .inr ⟨_, rfl, Nat.le_refl _, (h2.blk _ rfl).2⟩⟩
  obtain ⟨v', w', hr, h2, h3, h4⟩ := hrun
  unfold Oper.wp execOp
  simp only [ho, resolve, invoke, builtin, Sem.run_bind, Sem.run_pure, Result.andThen_ok, List.map_toArray, List.map_cons, List.map_nil, hs, hx, hr]
  exact hk v' w' h2 h3 h4
theorem SlY.front8 {α : Type} {Y : Lay α} {w : World} {a : Option Addr} {n c k : Nat} {l : List α} (h : SlY Y w a n c l) (hk : k ≤ n) : SlY Y w a k k (l.take k) :=
  ⟨by rw [List.length_take, h.len]; omega, Nat.le_refl _, by have := h.cap; have := h.max; omega, (fun e => by have := h.nil e; omega), fun x hx => by
    rcases h.at_ x hx with e | ⟨q, o, rfl, hq, hl⟩
    · exact .inl (by rw [e]; simp)
    · refine .inr ⟨q, o, rfl, hq, fun i y hy => hl i y ?_⟩
      rw [List.getElem?_take] at hy
      split at hy
      · exact hy
      · cases hy⟩
theorem LieY.drop8 {α : Type} {Y : Lay α} {w : World} {q o : Nat} {l : List α} (h : LieY Y w q o l) (j : Nat) : LieY Y w q (o + j * Y.k) (l.drop j) := fun i x hx u v hv => by
  rw [List.getElem?_drop] at hx
  have := h _ _ hx u v hv
  rw [Nat.add_mul] at this
  rw [show o + j * Y.k + i * Y.k + u = o + (j * Y.k + i * Y.k) + u by omega]
  exact this
set_option maxHeartbeats 1000000 in
theorem drop_ok (k : Nat) (h : Net w b nn cc pv rv mb n P R M) (hk : k < P.length) (hl : P.length * 32 ≤ 168884986026393) : Calls Try.prog 29 #[.pointer (some ⟨b, 0, none⟩), .int .i64 (k : Int)] w fun e w' => e = .returned (.int .i64 0) ∧ ∃ pv', Net w' b nn cc pv' rv mb n (dr P k) R M ∧ Upd (fun k => k = b) w w' ∧ (pv'.ownBlock = pv.ownBlock ∨ ∃ k, pv'.ownBlock = some k ∧ w.heap.size ≤ k) := by
  have HN := hide h
  have c2 := h.c2
  have f2 := h.fr 2
  have hlt := h.lt
  obtain ⟨a, c, hpv, hsl⟩ := h.pl.sl
  subst hpv
  obtain ⟨q, o, ha, hq, hlie⟩ := hsl.place (by intro e; rw [e] at hk; simp at hk)
  subst ha
  have HW : ∀ v, Hid (Calls Try.prog 77 #[.int .i64 (k : Int), .int .i64 (P.length : Int)] v fun e w' => e = .returned (.bool true) ∧ w' = v) := fun v => by
    have := isWithin_any (k : Int) (P.length : Int) v
    rw [decide_eq_true (show (0 : Int) ≤ k by omega), decide_eq_true (show (k : Int) < P.length by omega)] at this
    exact this
  have hcap := hsl.cap
  have hmax := hsl.max
  unfold maxLen at hmax
  have i1 : (k : Int) ≤ (P.length : Int) := by omega
  have i2 : (k : Int) + 1 ≤ (P.length : Int) := by omega
  have hw1 : IntKind.i64.wrap ((k : Int) + 1) = (k : Int) + 1 := by rw [IntKind.wrap_i64]; omega
  have SF := hide ((hsl.front8 (Nat.le_of_lt hk)).later (Below.refl _ _).drew)
  have hsb : ∀ ad cr, (ad = none → False) → cr ≤ maxLen → P.length - (k + 1) ≤ cr → (∀ x, ad = some x → P.length = k + 1 ∨ x = ⟨q, o + (k + 1) * 3, none⟩) → SlY yP w.drew ad (P.length - (k + 1)) cr (P.drop (k + 1)) := fun ad cr h1 h2 h3 h4 => ⟨by simp, h3, h2, (fun e => (h1 e).elim), fun x hx => by
    rcases h4 x hx with e | e
    · exact .inl (List.drop_eq_nil_of_le (by omega))
    · subst e
      exact .inr ⟨q, _, rfl, hq, (hlie.drop8 (k + 1)).upd (S := fun _ => False) (Upd.of_below (Below.refl _ _).drew) hq id⟩⟩
  have z1 : (0 : Int) ≤ (k : Int) + 1 := by omega
  have SB := hide hsb
  clear h hsl hlie hsb
  by_cases hc : c = k + 1
  · subst hc
    have j1 : (k : Int) ≤ (k : Int) + 1 := by omega
    have j2 : k ≤ k + 1 := by omega
    have j3 : k + 1 ≤ P.length := by omega
    have hd0 : dr P k = P.take k ++ [] := by unfold dr; rw [List.drop_eq_nil_of_le (by omega)]
    have S0 : Hid (SlY yP w.drew (some ⟨q, o, none⟩) 0 0 []) := ⟨rfl, Nat.le_refl _, by unfold maxLen; omega, (fun e => by cases e), fun x hx => .inl rfl⟩
    have hl0 : (k + 0) * 32 ≤ 168884986026393 := by omega
    rw [hd0]
    clear hd0
    go_enter Try.func29, Try.ntmps29
    go_wp2_with fail
    refine (HW _).out.mono ?_
    rintro e w1 ⟨rfl, rfl⟩
    go_wp2_with fail
    go_region_law (refine stepCut rfl (.tmp 24) (.tmp 31) rfl ⟨q, o, none⟩ k rfl (some ⟨q, o, none⟩) 0 0 rfl (P.take k) [] SF.out S0.out hl0 ?_; intro v1 w2 k1 b1 n1; have q2 := (b1.cell (p := ⟨b, 2, none⟩) hlt).trans c2; have qf := (b1.frozen (p := ⟨b, 2, none⟩) hlt).trans f2; obtain ⟨va, vc, hv1, _⟩ := k1.sl; generalize (P.take k ++ []).length = ll at hv1; subst hv1)
    all_goals
      have u1 : Upd (fun k => (Value.slice (some ⟨q, o, none⟩) P.length (k + 1)).ownBlock = some k) w1 w2 := Upd.of_below ((Below.refl _ _).drew.trans b1)
      have hlt2 : ∀ g, (Value.slice va ll vc).ownBlock = some g → g < w2.heap.size := by
        rcases n1 with e | ⟨k', e, hk', hk2⟩
        · intro g hg
          rw [e] at hg
          cases hg
          exact Nat.lt_of_lt_of_le hq b1.size
        · intro g hg
          rw [e] at hg
          cases hg
          exact hk2
      obtain ⟨N1, U1⟩ := HN.out.setPool u1 k1 (n1.imp id (fun ⟨k', e1, e2, _⟩ => .inr ⟨k', e1, e2⟩)) hlt2 (fun p hp => HN.out.sp p (List.mem_of_mem_take (by simpa using hp)))
      have H1 := hide N1
      have U2 : Hid (Upd (fun k => k = b) w1 (w2.setCell ⟨b, 2, none⟩ (.slice va ll vc))) := ((Upd.of_below (S := fun k => k = b) ((Below.refl _ _).drew.trans b1))).setCell (p := ⟨b, 2, none⟩) (.inl rfl) _
      have H3 : Hid ((Value.slice va ll vc).ownBlock = some q ∨ ∃ k', (Value.slice va ll vc).ownBlock = some k' ∧ w1.heap.size ≤ k') := n1.imp id (fun ⟨k', e1, e2, _⟩ => ⟨k', e1, e2⟩)
      clear N1 U1 u1 k1 n1 b1 hlt2 q2 qf c2 f2 SF HN
      go_wp2
      go_ret
      exact ⟨rfl, _, H1.out, U2.out, H3.out⟩
  · have j2 : k ≤ c := by omega
    have j3 : k + 1 ≤ P.length := by omega
    have S0 := hide (SB.out (some ⟨q, o + (k + 1) * 3, none⟩) (c - (k + 1)) (fun e => by cases e) (by unfold maxLen; omega) (by omega) (fun x hx => .inr (by cases hx; rfl)))
    have hl0 : (k + (P.length - (k + 1))) * 32 ≤ 168884986026393 := by omega
    unfold dr
    go_enter Try.func29, Try.ntmps29
    go_wp2_with fail
    refine (HW _).out.mono ?_
    rintro e w1 ⟨rfl, rfl⟩
    go_wp2_with fail
    go_region_law (refine stepCut rfl (.tmp 24) (.tmp 31) rfl ⟨q, o, none⟩ k rfl (some ⟨q, o + (k + 1) * 3, none⟩) (P.length - (k + 1)) (c - (k + 1)) rfl (P.take k) (P.drop (k + 1)) SF.out S0.out hl0 ?_; intro v1 w2 k1 b1 n1; have q2 := (b1.cell (p := ⟨b, 2, none⟩) hlt).trans c2; have qf := (b1.frozen (p := ⟨b, 2, none⟩) hlt).trans f2; obtain ⟨va, vc, hv1, _⟩ := k1.sl; generalize (P.take k ++ P.drop (k + 1)).length = ll at hv1; subst hv1)
    all_goals
      have u1 : Upd (fun k => (Value.slice (some ⟨q, o, none⟩) P.length c).ownBlock = some k) w1 w2 := Upd.of_below ((Below.refl _ _).drew.trans b1)
      have hlt2 : ∀ g, (Value.slice va ll vc).ownBlock = some g → g < w2.heap.size := by
        rcases n1 with e | ⟨k', e, hk', hk2⟩
        · intro g hg
          rw [e] at hg
          cases hg
          exact Nat.lt_of_lt_of_le hq b1.size
        · intro g hg
          rw [e] at hg
          cases hg
          exact hk2
      obtain ⟨N1, U1⟩ := HN.out.setPool u1 k1 (n1.imp id (fun ⟨k', e1, e2, _⟩ => .inr ⟨k', e1, e2⟩)) hlt2 (fun p hp => HN.out.sp p ((List.mem_append.1 hp).elim List.mem_of_mem_take List.mem_of_mem_drop))
      have H1 := hide N1
      have U2 : Hid (Upd (fun k => k = b) w1 (w2.setCell ⟨b, 2, none⟩ (.slice va ll vc))) := ((Upd.of_below (S := fun k => k = b) ((Below.refl _ _).drew.trans b1))).setCell (p := ⟨b, 2, none⟩) (.inl rfl) _
      have H3 : Hid ((Value.slice va ll vc).ownBlock = some q ∨ ∃ k', (Value.slice va ll vc).ownBlock = some k' ∧ w1.heap.size ≤ k') := n1.imp id (fun ⟨k', e1, e2, _⟩ => ⟨k', e1, e2⟩)
      clear N1 U1 u1 k1 n1 b1 hlt2 q2 qf c2 f2 SF HN
      go_wp2
      go_ret
      exact ⟨rfl, _, H1.out, U2.out, H3.out⟩
end Go.Proofs.Ytjpkdnndhjnkpaa
namespace Go.Proofs.Ytjpkdnndhjnkpaa
open Go.RowKit Go.Maps
variable {w w' : World} {b mb n : Nat} {nn cc : Int} {pv rv : Value} {P R : List Pk} {M : Int → List UInt8 → Nat}
theorem drop_bad (k : Int) (h : Net w b nn cc pv rv mb n P R M) (hk : k < 0 ∨ (P.length : Int) ≤ k) : Calls Try.prog 29 #[.pointer (some ⟨b, 0, none⟩), .int .i64 k] w fun e w' => e = .returned (.int .i64 141) ∧ w' = w := by
  have c2 := h.c2
  obtain ⟨a, c, rfl, hsl⟩ := h.pl.sl
  have HW : ∀ v, Hid (Calls Try.prog 77 #[.int .i64 k, .int .i64 (P.length : Int)] v fun e w' => e = .returned (.bool false) ∧ w' = v) := fun v => by
    have := isWithin_any k (P.length : Int) v
    have e : (decide (0 ≤ k) && decide (k < (P.length : Int))) = false := by simp; omega
    rw [e] at this
    exact this
  clear h hsl hk
  go_enter Try.func29, Try.ntmps29
  go_wp2_with fail
  refine (HW _).out.mono ?_
  rintro e w1 ⟨rfl, rfl⟩
  go_wp2
  go_ret
  exact ⟨rfl, rfl⟩
theorem Ap.Out.upd8 {S : Nat → Prop} {B : Nat} {w w' : World} {x : Ap} (h : x.Out B w) (u : Upd S w w') (hs : ∀ k, B ≤ k → k < w.heap.size → ¬ S k) : x.Out B w' := by
  obtain ⟨g, hg, g1, g2⟩ := h.some_
  exact ⟨h.own.upd1 u (fun k hk => hs k (h.own.blk k hk).1 (h.own.blk k hk).2), g, hg, g1, Nat.lt_of_lt_of_le g2 u.size⟩
theorem Ap.Out.low8 {B B' : Nat} {w : World} {x : Ap} (h : x.Out B w) (hb : B' ≤ B) : x.Out B' w := by
  obtain ⟨g, hg, g1, g2⟩ := h.some_
  exact ⟨h.own.low hb, g, hg, Nat.le_trans hb g1, g2⟩
set_option maxHeartbeats 1000000 in
theorem take_ok (k : Nat) (p : Pk) (h : Net w b nn cc pv rv mb n P R M) (hk : P[k]? = some p) (hl : P.length * 32 ≤ 168884986026393) : Calls Try.prog 26 #[.pointer (some ⟨b, 0, none⟩), .int .i64 (k : Int)] w fun e w' => ∃ x : Ap, e = .returned (.tuple #[x.val, .int .i64 0]) ∧ x.pk = p ∧ x.Out w.heap.size w' ∧ ∃ pv', Net w' b nn cc pv' rv mb n (dr P k) R M ∧ Upd (fun k => k = b) w w' ∧ (pv'.ownBlock = pv.ownBlock ∨ ∃ k, pv'.ownBlock = some k ∧ w.heap.size ≤ k) := by
  have hkl : k < P.length := (List.getElem?_eq_some_iff.1 hk).1
  have HN := hide h
  have hlt := h.lt
  have HA : ∀ o, Hid (Calls Try.prog 18 #[.pointer (some ⟨b, 0, none⟩), .int .i64 (k : Int)] (w.alloc o) fun e w' => ∃ x : Ap, e = .returned (.tuple #[x.val, .int .i64 0]) ∧ x.pk = p ∧ x.Out (w.alloc o).heap.size w' ∧ Below (w.alloc o).heap.size (w.alloc o) w') := fun o => at_ok k p (HN.out.later ((Below.refl _ _).alloc (Nat.le_refl _) o)) hk
  have hmb := h.mp.lt
  have hpl := hide h.plt
  have hrl : Hid (∀ g, rv.ownBlock = some g → g < w.heap.size) := fun g hg => (h.rc.blk g hg).2
  clear h hk
  go_enter Try.func26, Try.ntmps26
  go_wp2_with fail
  refine (HA _).out.mono ?_
  rintro e w1 ⟨x, rfl, hx, ho, hb⟩
  have r0 : w1.cell? ⟨w.heap.size, 0, none⟩ = some (.int .i64 0) := (hb.cell (p := ⟨w.heap.size, 0, none⟩) (by simp)).trans (by go_simp)
  have r1 : w1.cell? ⟨w.heap.size, 1, none⟩ = some (.int .i64 0) := (hb.cell (p := ⟨w.heap.size, 1, none⟩) (by simp)).trans (by go_simp)
  have r2 : w1.cell? ⟨w.heap.size, 2, none⟩ = some (.slice none 0 0) := (hb.cell (p := ⟨w.heap.size, 2, none⟩) (by simp)).trans (by go_simp)
  have t0 : ∀ j, w1.frozen? ⟨w.heap.size, j, none⟩ = false := fun j => (hb.frozen (p := ⟨w.heap.size, j, none⟩) (by simp)).trans (by go_simp)
  have hzz : w.heap.size < w1.heap.size := by have := hb.size; simp at this; omega
  have HX := hide hx
  have HP := hide ho
  have HB := hide (((Below.refl w.heap.size w).alloc (Nat.le_refl _) (.cells #[.int .i64 0, .int .i64 0, .slice none 0 0] 46)).trans (hb.mono (by simp)))
  clear hx ho hb HA
  unfold Ap.val
  go_wp2_with fail
  have r0' : (w1.alloc (.cells #[.int .i64 x.f, .int .i64 x.t, .slice x.a x.s.length x.c] 46)).cell? ⟨w.heap.size, 0, none⟩ = some (.int .i64 0) := (World.cell?_alloc_past _ _ _ hzz).trans r0
  have r1' : (w1.alloc (.cells #[.int .i64 x.f, .int .i64 x.t, .slice x.a x.s.length x.c] 46)).cell? ⟨w.heap.size, 1, none⟩ = some (.int .i64 0) := (World.cell?_alloc_past _ _ _ hzz).trans r1
  have r2' : (w1.alloc (.cells #[.int .i64 x.f, .int .i64 x.t, .slice x.a x.s.length x.c] 46)).cell? ⟨w.heap.size, 2, none⟩ = some (.slice none 0 0) := (World.cell?_alloc_past _ _ _ hzz).trans r2
  have BB : Below w1.heap.size w1 (w1.alloc (.cells #[.int .i64 x.f, .int .i64 x.t, .slice x.a x.s.length x.c] 46)) := (Below.refl _ _).alloc (Nat.le_refl _) _
  have t0' : ∀ j, (w1.alloc (.cells #[.int .i64 x.f, .int .i64 x.t, .slice x.a x.s.length x.c] 46)).frozen? ⟨w.heap.size, j, none⟩ = false := fun j => (BB.frozen (p := ⟨w.heap.size, j, none⟩) hzz).trans (t0 j)
  have s0 : (w1.alloc (.cells #[.int .i64 x.f, .int .i64 x.t, .slice x.a x.s.length x.c] 46)).cell? ⟨w1.heap.size, 0, none⟩ = some (.int .i64 x.f) := by simp
  have s1 : (w1.alloc (.cells #[.int .i64 x.f, .int .i64 x.t, .slice x.a x.s.length x.c] 46)).cell? ⟨w1.heap.size, 1, none⟩ = some (.int .i64 x.t) := by simp
  have s2 : (w1.alloc (.cells #[.int .i64 x.f, .int .i64 x.t, .slice x.a x.s.length x.c] 46)).cell? ⟨w1.heap.size, 2, none⟩ = some (.slice x.a x.s.length x.c) := by simp
  have hs : w1.heap.size < (w1.alloc (.cells #[.int .i64 x.f, .int .i64 x.t, .slice x.a x.s.length x.c] 46)).heap.size := by simp
  have NB := hide (HN.out.later (HB.out.trans (BB.mono HB.out.size)))
  have WB := hide (HB.out.trans (BB.mono HB.out.size))
  have XB := hide (HP.out.upd8 (S := fun _ => False) (Upd.of_below BB) (fun _ _ _ => id))
  clear BB r0 r1 r2 t0 HB HP HN
  generalize w1.alloc (.cells #[.int .i64 x.f, .int .i64 x.t, .slice x.a x.s.length x.c] 46) = w2 at *
  have HD := hide (drop_ok k (NB.out.later (Below.refl _ _).drew) hkl hl)
  have nb : ¬ w.heap.size = b := by omega
  have nb2 : ¬ w1.heap.size = b := by omega
  have hq : w.heap.size < w2.heap.size := by omega
  go_region_with (refine HD.out.mono ?_; rintro e w3 ⟨rfl, pv', N3, U3, n3⟩; have a0 := (U3.cell (p := ⟨w.heap.size, 0, none⟩) hq nb).trans r0'; have a1 := (U3.cell (p := ⟨w.heap.size, 1, none⟩) hq nb).trans r1'; have a2 := (U3.cell (p := ⟨w.heap.size, 2, none⟩) hq nb).trans r2'; have a3 : ∀ j, w3.frozen? ⟨w.heap.size, j, none⟩ = false := fun j => (U3.frozen (p := ⟨w.heap.size, j, none⟩) hq nb).trans (t0' j); have b0 := (U3.cell (p := ⟨w1.heap.size, 0, none⟩) hs nb2).trans s0; have b1 := (U3.cell (p := ⟨w1.heap.size, 1, none⟩) hs nb2).trans s1; have b2 := (U3.cell (p := ⟨w1.heap.size, 2, none⟩) hs nb2).trans s2)
  all_goals
    have XC := hide ((XB.out.upd8 (S := fun _ => False) (Upd.of_below (Below.refl _ _).drew) (fun _ _ _ => id)).upd8 U3 (fun k h1 h2 e => by simp at h1; omega))
    have U4 := hide ((((Upd.of_below (S := fun k => k = b) WB.out).trans (Upd.of_below (Below.refl _ _).drew)).trans U3))
    have N4 := hide N3
    have n4 : Hid (pv'.ownBlock = pv.ownBlock ∨ ∃ k, pv'.ownBlock = some k ∧ w2.heap.size ≤ k) := n3
    clear N3 U3 n3 s0 s1 s2 r0' r1' r2' t0' HD NB WB XB
    go_wp2
    refine bodyPost_ret (v := .tuple #[.agg #[.int .i64 x.f, .int .i64 x.t, .slice x.a x.s.length x.c], .int .i64 0]) (by simp [results, Try.results26, go_sem, a0, a1, a2]) rfl ⟨x, rfl, HX.out, ?_, pv', ?_, ?_, ?_⟩
    · exact (XC.out.upd8 (set3 w3 w.heap.size _ _ _) (fun k h1 h2 e => by simp at h1; omega)).low8 (by simp)
    · refine N4.out.upd (set3 w3 w.heap.size _ _ _) (by omega) (by omega) (fun k hk e => ?_) (fun k hk e => ?_)
      · rcases n4.out with e1 | ⟨k1, e1, e2⟩
        · have := hpl.out k (e1 ▸ hk)
          omega
        · rw [e1] at hk
          cases hk
          omega
      · have := hrl.out k hk
        omega
    · exact ((U4.out.setCell (p := ⟨w.heap.size, 0, none⟩) (.inr (Nat.le_refl _)) _).setCell (p := ⟨w.heap.size, 1, none⟩) (.inr (Nat.le_refl _)) _).setCell (p := ⟨w.heap.size, 2, none⟩) (.inr (Nat.le_refl _)) _
    · exact n4.out.imp id (fun ⟨k, e1, e2⟩ => ⟨k, e1, by omega⟩)
end Go.Proofs.Ytjpkdnndhjnkpaa
