import Derived.Test.YtegfbebhgihcaaaNk5
namespace Go.Proofs.Ytegfbebhgihcaaa
open Go.RowKit Go.Maps
set_option linter.unusedVariables false
set_option linter.unusedSimpArgs false

variable {w w' : World} {b mb n : Nat} {nn cc : Int} {pv rv : Value} {P R : List Pk} {M : Int → List UInt8 → Nat}
set_option maxRecDepth 100000 in
set_option maxHeartbeats 2000000 in
theorem keep_new (p : Pk) (i : Nat) (hf : p.f = (i : Int)) (hi : i < 32) (ht : (Lit.int .i64 p.t).wf = true) (hs : p.s.length ≤ 32768) (h : Net w b nn cc pv rv mb n P R M) (hM : M p.t p.s &&& 2 ^ i = 0) (hl : (R.length + 1) * 32 ≤ 168884986026393) : Calls Try.prog 76 #[.pointer (some ⟨b, 0, none⟩), p.val] w fun e w' => e = .returned (.tuple #[]) ∧ ∃ rv', Net w' b nn cc pv rv' mb (n + 1) P (R ++ [p]) (sM M p i) ∧ Upd (fun k => k = b ∨ k = mb ∨ rv.ownBlock = some k) w w' ∧ (rv'.ownBlock = rv.ownBlock ∨ ∃ k, rv'.ownBlock = some k ∧ w.heap.size ≤ k) := by
  obtain ⟨ra, rcp, hrv, _⟩ := h.rc.form
  subst hrv
  have HN := hide h
  have h4 := h.c4
  have hlt := h.lt
  have hlo : ∀ o k, (Instr.lookup 82 (.map (some mb)) (.agg #[.int .i64 p.t, .string (bst p.s)]) false).run Try.prog ((w.alloc o).drewN k) = .ok (.int .u32 (M p.t p.s : Int)) ((w.alloc o).drewN k) := fun o k => (h.mp.upd (S := fun _ => False) (((Upd.refl _ w).alloc o).drewN k) id).look ht (by unfold maxLen; omega)
  have hm : M p.t p.s < 4294967296 := by obtain ⟨f, _, h2⟩ := h.mp; exact (h2 _ _).2
  have y4 : ∀ o, (w.alloc o).cell? ⟨b, 4, none⟩ = some (.map (some mb)) := fun o => (World.cell?_alloc_past _ _ _ hlt).trans h4
  have hand := and_u hm hi
  have hor := or_u hm hi
  rw [hM] at hand
  have hp := pow32 hi
  have hnm : n < maxLen := by have := h.hn; unfold maxLen; omega
  unfold Pk.val
  rw [hf]
  clear h
  go_enter Try.func76, Try.ntmps76
  go_wp2_with fail
  go_quiet (fail)
  have Ba := hide (belN ((Below.refl w.heap.size w).alloc (Nat.le_refl _) (.cells #[.int .i64 p.t, .string (bst p.s), .int .i64 (i : Int)] 105)) nq)
  have Na := hide (HN.out.later Ba.out)
  have z0 : ((w.alloc (.cells #[.int .i64 p.t, .string (bst p.s), .int .i64 (i : Int)] 105)).drewN nq).cell? ⟨w.heap.size, 0, none⟩ = some (.int .i64 p.t) := by simp
  have z1 : ((w.alloc (.cells #[.int .i64 p.t, .string (bst p.s), .int .i64 (i : Int)] 105)).drewN nq).cell? ⟨w.heap.size, 1, none⟩ = some (.string (bst p.s)) := by simp
  have z2 : ((w.alloc (.cells #[.int .i64 p.t, .string (bst p.s), .int .i64 (i : Int)] 105)).drewN nq).cell? ⟨w.heap.size, 2, none⟩ = some (.int .i64 (i : Int)) := by simp
  have zs : w.heap.size < ((w.alloc (.cells #[.int .i64 p.t, .string (bst p.s), .int .i64 (i : Int)] 105)).drewN nq).heap.size := by simp
  clear hlo y4 h4
  generalize (w.alloc (.cells #[.int .i64 p.t, .string (bst p.s), .int .i64 (i : Int)] 105)).drewN nq = wa at *
  have Nd := hide (Na.out.later (Below.refl _ _).drew)
  obtain ⟨st, v0, w1, w2, q1, q2, q3, q4, q5, q6, q7, q8⟩ := Nd.out.mp.entry hnm hi ht (by unfold maxLen; omega : p.s.length ≤ maxLen)
  unfold kv at q1 q4
  have hlt2 : b < wa.heap.size := Na.out.lt
  have hmb : ¬ b = mb := fun e => Na.out.mne e.symm
  have hqm : ¬ w.heap.size = mb := fun e => by have := HN.out.mp.lt; omega
  have a4 : wa.drew.cell? ⟨b, 4, none⟩ = some (.map (some mb)) := Nd.out.c4
  have b4 : w1.cell? ⟨b, 4, none⟩ = some (.map (some mb)) := (q2.cell (p := ⟨b, 4, none⟩) hlt2 hmb).trans a4
  have e0 : w1.cell? ⟨w.heap.size, 0, none⟩ = some (.int .i64 p.t) := (q2.cell (p := ⟨w.heap.size, 0, none⟩) zs hqm).trans z0
  have e1 : w1.cell? ⟨w.heap.size, 1, none⟩ = some (.string (bst p.s)) := (q2.cell (p := ⟨w.heap.size, 1, none⟩) zs hqm).trans z1
  have lo0 := Nd.out.mp.look ht (by unfold maxLen; omega : p.s.length ≤ maxLen)
  unfold kv at lo0
  have hor2 : (.int .u32 (bits .or .u32 (M p.t p.s : Int) ((2 : Int) ^ i % 4294967296)) : Value) = .int .u32 ((M p.t p.s ||| 2 ^ i : Nat) : Int) := by rw [hor]
  go_wp2_with fail
  go_region
  have u2 : Upd (fun k => k = mb) wa w2 := (Upd.of_below (Below.refl wa.heap.size wa).drew).trans q6
  have f0 : w2.cell? ⟨w.heap.size, 0, none⟩ = some (.int .i64 p.t) := (u2.cell (p := ⟨w.heap.size, 0, none⟩) zs hqm).trans z0
  have f1 : w2.cell? ⟨w.heap.size, 1, none⟩ = some (.string (bst p.s)) := (u2.cell (p := ⟨w.heap.size, 1, none⟩) zs hqm).trans z1
  have f2 : w2.cell? ⟨w.heap.size, 2, none⟩ = some (.int .i64 (i : Int)) := (u2.cell (p := ⟨w.heap.size, 2, none⟩) zs hqm).trans z2
  have zs2 : w.heap.size < w2.heap.size := Nat.lt_of_lt_of_le zs u2.size
  have b3 : w2.cell? ⟨b, 3, none⟩ = some (.slice ra R.length rcp) := (u2.cell (p := ⟨b, 3, none⟩) hlt2 hmb).trans Na.out.c3
  have fr3 : w2.frozen? ⟨b, 3, none⟩ = false := (u2.frozen (p := ⟨b, 3, none⟩) hlt2 hmb).trans (Na.out.fr 3)
  have O2 := hide (Na.out.rc.upd1 u2 (fun k hk e => Na.out.rm (e ▸ hk)))
  have M2 := hide q8
  have U2 := hide u2
  have hb2 : b < w2.heap.size := Nat.lt_of_lt_of_le hlt2 u2.size
  clear q1 q2 q3 q4 q5 q6 q7 q8 lo0 e0 e1 a4 b4 z0 z1 z2 u2 Nd
  have y3 : ∀ o, (w2.alloc o).cell? ⟨b, 3, none⟩ = some (.slice ra R.length rcp) := fun o => (World.cell?_alloc_past _ _ _ hb2).trans b3
  have UA : ∀ o, Hid (Below w2.heap.size w2 (w2.alloc o).drew) := fun o => ((Below.refl _ _).alloc (Nat.le_refl _) o).drew
  have SB : Hid (SlY yP (w2.alloc (.cells #[.int .i64 p.t, .string (bst p.s), .int .i64 (i : Int)] 105)).drew (some ⟨w2.heap.size, 0, none⟩) 1 1 [p]) := by
    have h1 := (one_pk w2 p).later (Below.refl _ _).drew
    rw [hf] at h1
    exact h1
  go_wp2_with fail
  go_region_law (refine stepY2 kP (by decide) rfl (.tmp 33) (.tmp 35) rfl 0 R (.slice ra R.length rcp) rfl (some ⟨w2.heap.size, 0, none⟩) 1 1 rfl [p] SB.out (O2.out.grow (UA _).out) (Nat.zero_le _) (by unfold maxLen; omega) hl ?_; intro v3 w3 k3 g3 n3; have r3 := gcell g3 (y3 _) (fun e => HN.out.rne e); have rf := gfroz g3 (b := b) (i := 3) (by simp; omega) (((UA _).out.frozen (p := ⟨b, 3, none⟩) hb2).trans fr3) (fun e => HN.out.rne e); obtain ⟨va, vc, hv3, _⟩ := k3.form; subst hv3)
  all_goals
    have hA := (UA (.cells #[.int .i64 p.t, .string (bst p.s), .int .i64 (i : Int)] 105)).out
    have u3 : Upd (fun k => (Value.slice ra R.length rcp).ownBlock = some k) w2 w3 := (Upd.of_below hA).trans (gupd g3 (fun k e => e))
    have uw : Upd (fun k => k = mb ∨ (Value.slice ra R.length rcp).ownBlock = some k) w w3 := ((Upd.of_below Ba.out).trans (U2.out.mono (fun k _ e => .inl e))).trans (u3.mono (fun k _ e => .inr e))
    have sz2 : w.heap.size ≤ w2.heap.size := by omega
    have n2 : (Value.slice va (R ++ [p]).length vc).ownBlock = (Value.slice ra R.length rcp).ownBlock ∨ ∃ k, (Value.slice va (R ++ [p]).length vc).ownBlock = some k ∧ w.heap.size ≤ k := n3.imp id (fun ⟨k, e1, e2⟩ => ⟨k, e1, Nat.le_trans (Nat.le_trans sz2 hA.size) e2⟩)
    obtain ⟨N1, U1⟩ := HN.out.setRec uw k3 (M2.out.upd u3 (fun e => HN.out.rm e)) (by have := HN.out.hn; omega) n2 hs
    rw [List.length_append] at N1 U1 n2
    simp only [List.length_cons, List.length_nil, Nat.zero_add] at N1 U1 n2
    have H1 := hide N1
    have H2 := hide U1
    have H3 := hide n2
    clear N1 U1 n2 uw u3 hA g3 k3 n3 r3 rf y3 UA SB O2 M2 U2 HN Na Ba b3 fr3 f0 f1 f2
    go_wp2
    go_end0
    exact ⟨rfl, _, H1.out, H2.out, H3.out⟩

end Go.Proofs.Ytegfbebhgihcaaa
