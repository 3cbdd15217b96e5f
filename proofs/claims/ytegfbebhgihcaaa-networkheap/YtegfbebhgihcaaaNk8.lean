import Derived.Test.YtegfbebhgihcaaaNk7
import Derived.Deep.RegionHeld3
namespace Go.Proofs.Ytegfbebhgihcaaa
open Go.RowKit Go.Maps
set_option linter.unusedVariables false
set_option linter.unusedSimpArgs false

variable {w w' : World} {b mb n : Nat} {nn cc : Int} {pv rv : Value} {P R : List Pk} {M : Int → List UInt8 → Nat}
/-- What keep does, known or not. -/
theorem keep_any (p : Pk) (i : Nat) (hf : p.f = (i : Int)) (hi : i < 32) (ht : (Lit.int .i64 p.t).wf = true) (hs : p.s.length ≤ 32768) (h : Net w b nn cc pv rv mb n P R M) (hl : (R.length + 1) * 32 ≤ 168884986026393) : Calls Try.prog 76 #[.pointer (some ⟨b, 0, none⟩), p.val] w fun e w' => e = .returned (.tuple #[]) ∧ ∃ rv' n', Net w' b nn cc pv rv' mb n' P (sR M R p i) (sM M p i) ∧ Upd (fun k => k = b ∨ k = mb ∨ rv.ownBlock = some k) w w' ∧ (rv'.ownBlock = rv.ownBlock ∨ ∃ k, rv'.ownBlock = some k ∧ w.heap.size ≤ k) := by
  by_cases hM : M p.t p.s &&& 2 ^ i = 0
  · refine (keep_new p i hf hi ht hs h hM hl).mono ?_
    rintro e w' ⟨rfl, rv', h1, h2, h3⟩
    refine ⟨rfl, rv', n + 1, ?_, h2, h3⟩
    unfold sR
    rw [if_pos hM]
    exact h1
  · refine (keep_old p i hf hi ht hs h hM).mono ?_
    rintro e w' ⟨rfl, hb⟩
    refine ⟨rfl, rv, n, ?_, Upd.of_below hb, .inl rfl⟩
    unfold sR
    rw [if_neg hM, sM_old hM]
    exact h.later hb
/-- An address is below 32. -/
theorem adr_lt {a : Int} (h : adr nn cc a = true) (h1 : nn ≤ 7) (h2 : cc ≤ 16) : ∃ i : Nat, a = (i : Int) ∧ i < 32 := by
  unfold adr at h
  simp only [Bool.or_eq_true, Bool.and_eq_true, decide_eq_true_eq] at h
  exact ⟨a.toNat, by omega, by omega⟩
set_option maxRecDepth 100000 in
set_option maxHeartbeats 1000000 in
theorem send_ok (x : Ap) (i : Nat) (h : Net w b nn cc pv rv mb n P R M) (hx : x.In w) (hf : x.f = (i : Int)) (hi : i < 32) (ht : (Lit.int .i64 x.t).wf = true) (hfa : adr nn cc x.f = true) (ha : adr nn cc x.t = true) (hs : x.s.length ≤ 32768) (hl : (P.length + 1) * 32 ≤ 168884986026393) (hr : (R.length + 1) * 32 ≤ 168884986026393) : Calls Try.prog 25 #[.pointer (some ⟨b, 0, none⟩), x.val] w fun e w' => e = .returned (.int .i64 0) ∧ ∃ pv' rv' n', Net w' b nn cc pv' rv' mb n' (P ++ [x.pk]) (sR M R x.pk i) (sM M x.pk i) ∧ Upd (fun k => k = b ∨ k = mb ∨ pv.ownBlock = some k ∨ rv.ownBlock = some k) w w' ∧ (pv'.ownBlock = pv.ownBlock ∨ ∃ k, pv'.ownBlock = some k ∧ w.heap.size ≤ k) ∧ (rv'.ownBlock = rv.ownBlock ∨ ∃ k, rv'.ownBlock = some k ∧ w.heap.size ≤ k) := by
  have HN := hide h
  have HX := hide hx
  clear h hx
  have wf : (Lit.int .i64 x.f).wf = true := wf_i64 (by omega)
  have HA : ∀ o, Hid (Calls Try.prog 75 #[.pointer (some ⟨b, 0, none⟩), .int .i64 x.f] (w.alloc o) fun e w' => e = .returned (.bool true) ∧ w' = w.alloc o) := fun o => by
    have := isAddress_any x.f (HN.out.later ((Below.refl _ _).alloc (Nat.le_refl _) o)) wf
    rw [hfa] at this
    exact this
  have HJ : ∀ o, Hid (Calls Try.prog 35 #[.pointer (some ⟨b, 0, none⟩), x.val] (w.alloc o) fun e w' => e = .returned (.int .i64 0) ∧ ∃ pv', Net w' b nn cc pv' rv mb n (P ++ [x.pk]) R M ∧ Upd (fun k => k = b ∨ pv.ownBlock = some k) (w.alloc o) w' ∧ (pv'.ownBlock = pv.ownBlock ∨ ∃ k, pv'.ownBlock = some k ∧ (w.alloc o).heap.size ≤ k)) := fun o => inject_ok x (HN.out.later ((Below.refl _ _).alloc (Nat.le_refl _) o)) (SlY.alloc8 HX.out o) ht ha hs hl
  have HF := hide hf
  clear hf
  unfold Ap.val at HJ ⊢
  go_enter Try.func25, Try.ntmps25
  go_wp2_with fail
  refine (HA _).out.mono ?_
  rintro e w1 ⟨rfl, rfl⟩
  go_wp2_with fail
  refine (HJ _).out.mono ?_
  rintro e w2 ⟨rfl, pv', N2, U2, n2⟩
  obtain ⟨a, c, hpv, hsl⟩ := N2.pl.sl
  subst hpv
  obtain ⟨q, o, ha2, hq, hlie⟩ := hsl.place (by simp)
  subst ha2
  have hlast : (P ++ [x.pk])[P.length]? = some x.pk := by simp
  have l0 : w2.cell? ⟨q, o + P.length * 3, none⟩ = some (.int .i64 x.t) := hlie _ _ hlast 0 _ rfl
  have l1 : w2.cell? ⟨q, o + P.length * 3 + 1, none⟩ = some (.string (bst x.s)) := hlie _ _ hlast 1 _ rfl
  have l2 : w2.cell? ⟨q, o + P.length * 3 + 2, none⟩ = some (.int .i64 x.f) := hlie _ _ hlast 2 _ rfl
  have c2 := N2.c2
  have hlen : (P ++ [x.pk]).length = P.length + 1 := by simp
  rw [hlen] at c2
  have hwr : IntKind.i64.wrap ((P.length : Int) + 1 - 1) = (P.length : Int) := by rw [IntKind.wrap_i64]; omega
  have hwr2 : IntKind.i64.wrap (P.length : Int) = (P.length : Int) := by rw [IntKind.wrap_i64]; omega
  have hix : (P.length : Int) < (P.length : Int) + 1 := by omega
  have hix2 : P.length < P.length + 1 := by omega
  have hcap := hsl.cap
  rw [hlen] at hcap
  have HK := hide (keep_any x.pk i HF.out hi ht hs (N2.later (Below.refl _ _).drew) hr)
  have hqx : ¬ (q = b ∨ q = mb ∨ rv.ownBlock = some q) := fun e => e.elim (fun e => N2.pne (by rw [← e]; rfl)) (fun e => e.elim (fun e => N2.pm (by rw [← e]; rfl)) (fun e => N2.pr q rfl e))
  have KF : Hid (∀ v, v.cell? ⟨b, 2, none⟩ = some (.slice (some ⟨q, o, none⟩) (P.length + 1) c) → Upd (fun k => k = b ∨ k = mb ∨ rv.ownBlock = some k) w2.drew v → v.cell? ⟨b, 2, none⟩ = some (.slice (some ⟨q, o, none⟩) (P.length + 1) c) ∧ v.cell? ⟨q, o + P.length * 3, none⟩ = some (.int .i64 x.t) ∧ v.cell? ⟨q, o + P.length * 3 + 1, none⟩ = some (.string (bst x.s)) ∧ v.cell? ⟨q, o + P.length * 3 + 2, none⟩ = some (.int .i64 x.f)) := fun v h2 u => ⟨h2, (u.cell (p := ⟨q, o + P.length * 3, none⟩) hq hqx).trans l0, (u.cell (p := ⟨q, o + P.length * 3 + 1, none⟩) hq hqx).trans l1, (u.cell (p := ⟨q, o + P.length * 3 + 2, none⟩) hq hqx).trans l2⟩
  have s0 := KF.out w2.drew c2 (Upd.refl _ _)
  have H2 := hide N2
  have U2' := hide (((Upd.refl (fun k => k = b ∨ pv.ownBlock = some k) w).alloc (.cells #[.int .i64 x.f, .int .i64 x.t, .slice x.a x.s.length x.c] 46)).trans U2)
  have H3 : Hid ((Value.slice (some ⟨q, o, none⟩) (P ++ [x.pk]).length c).ownBlock = pv.ownBlock ∨ ∃ k, (Value.slice (some ⟨q, o, none⟩) (P ++ [x.pk]).length c).ownBlock = some k ∧ w.heap.size ≤ k) := n2.imp id (fun ⟨k, e1, e2⟩ => ⟨k, e1, by simp at e2; omega⟩)
  have hz2 : w.heap.size ≤ w2.heap.size := by have := U2.size; simp at this; omega
  unfold Pk.val Ap.pk at HK
  clear N2 U2 n2 hsl hlie HJ HA l0 l1 l2 c2
  go_wp2_with fail
  go_region_held3 (fun v => v.cell? ⟨b, 2, none⟩ = some (.slice (some ⟨q, o, none⟩) (P.length + 1) c) ∧ v.cell? ⟨q, o + P.length * 3, none⟩ = some (.int .i64 x.t) ∧ v.cell? ⟨q, o + P.length * 3 + 1, none⟩ = some (.string (bst x.s)) ∧ v.cell? ⟨q, o + P.length * 3 + 2, none⟩ = some (.int .i64 x.f)) (first | with_reducible assumption | go_keep)
    (first | (go_at_call 76; refine HK.out.mono ?_; rintro e w3 ⟨rfl, rv', n', N3, U3, n3⟩; have s1 := KF.out w3 (by have := N3.c2; rw [List.length_append] at this; exact this) U3))
  go_wp2
  go_ret
  refine ⟨rfl, _, rv', n', N3, ?_, H3.out, n3.imp id (fun ⟨k, e1, e2⟩ => ⟨k, e1, Nat.le_trans hz2 e2⟩)⟩
  exact ((U2'.out.mono (fun k _ e => e.elim .inl (fun e => .inr (.inr (.inl e))))).trans (Upd.of_below (Below.refl _ _).drew)).trans (U3.mono (fun k _ e => e.elim .inl (fun e => .inr (e.elim .inl (fun e => .inr (.inr e))))))

end Go.Proofs.Ytegfbebhgihcaaa
