import Derived.Test.YtegfbebhgihcaaaNk6
namespace Go.Proofs.Ytegfbebhgihcaaa
open Go.RowKit Go.Maps
set_option linter.unusedVariables false
set_option linter.unusedSimpArgs false

variable {w w' : World} {b mb n : Nat} {nn cc : Int} {pv rv : Value} {P R : List Pk} {M : Int → List UInt8 → Nat}
theorem SlY.bel8 {α : Type} {Y : Lay α} {w w' : World} {a : Option Addr} {n c : Nat} {l : List α} (h : SlY Y w a n c l) (hb : Below w.heap.size w w') : SlY Y w' a n c l := h.later hb
set_option maxRecDepth 100000 in
set_option maxHeartbeats 1000000 in
theorem inject_ok (x : Ap) (h : Net w b nn cc pv rv mb n P R M) (hx : x.In w) (ht : (Lit.int .i64 x.t).wf = true) (ha : adr nn cc x.t = true) (hs : x.s.length ≤ 32768) (hl : (P.length + 1) * 32 ≤ 168884986026393) : Calls Try.prog 35 #[.pointer (some ⟨b, 0, none⟩), x.val] w fun e w' => e = .returned (.int .i64 0) ∧ ∃ pv', Net w' b nn cc pv' rv mb n (P ++ [x.pk]) R M ∧ Upd (fun k => k = b ∨ pv.ownBlock = some k) w w' ∧ (pv'.ownBlock = pv.ownBlock ∨ ∃ k, pv'.ownBlock = some k ∧ w.heap.size ≤ k) := by
  have HN := hide h
  have HX := hide hx
  clear h hx
  have hi : (x.s.length : Int) ≤ 32768 := by omega
  have HA : ∀ o, Hid (Calls Try.prog 75 #[.pointer (some ⟨b, 0, none⟩), .int .i64 x.t] (w.alloc o) fun e w' => e = .returned (.bool true) ∧ w' = w.alloc o) := fun o => by
    have := isAddress_any x.t (HN.out.later ((Below.refl _ _).alloc (Nat.le_refl _) o)) ht
    rw [ha] at this
    exact this
  have HI : ∀ o, Hid (Calls Try.prog 73 #[x.val] (w.alloc o) fun e w' => e = .returned x.pk.val ∧ Below (w.alloc o).heap.size (w.alloc o) w') := fun o => incoming_any x _ (SlY.alloc8 HX.out o)
  unfold Ap.val at HI ⊢
  go_enter Try.func35, Try.ntmps35
  go_wp2_with fail
  refine (HA _).out.mono ?_
  rintro e w1 ⟨rfl, rfl⟩
  go_wp2_with fail
  refine (HI _).out.mono ?_
  rintro e w2 ⟨rfl, hb2⟩
  have hB : Below w.heap.size w w2 := ((Below.refl _ _).alloc (Nat.le_refl _) _).trans (hb2.mono (by simp))
  have HL := hide (lay_any x.pk (HN.out.later hB) hs hl)
  have HB := hide hB
  clear hb2 hB HI HA
  go_wp2_with fail
  refine HL.out.mono ?_
  rintro e w3 ⟨rfl, pv', N3, U3, n3⟩
  have H1 := hide N3
  have H2 := hide ((Upd.of_below HB.out).trans U3)
  have H3 : Hid (pv'.ownBlock = pv.ownBlock ∨ ∃ k, pv'.ownBlock = some k ∧ w.heap.size ≤ k) := n3.imp id (fun ⟨k, e1, e2⟩ => ⟨k, e1, Nat.le_trans HB.out.size e2⟩)
  clear N3 U3 n3 HL HB
  go_wp2
  go_ret
  exact ⟨rfl, _, H1.out, H2.out, H3.out⟩
set_option maxRecDepth 100000 in
set_option maxHeartbeats 1000000 in
theorem inject_bad (x : Ap) (h : Net w b nn cc pv rv mb n P R M) (ht : (Lit.int .i64 x.t).wf = true) (hs : adr nn cc x.t = false ∨ 32768 < x.s.length) : Calls Try.prog 35 #[.pointer (some ⟨b, 0, none⟩), x.val] w fun e w' => e = .returned (.int .i64 (if adr nn cc x.t = false then 140 else 142)) ∧ Below w.heap.size w w' := by
  have HN := hide h
  clear h
  have HA : ∀ o, Hid (Calls Try.prog 75 #[.pointer (some ⟨b, 0, none⟩), .int .i64 x.t] (w.alloc o) fun e w' => e = .returned (.bool (adr nn cc x.t)) ∧ w' = w.alloc o) := fun o => isAddress_any x.t (HN.out.later ((Below.refl _ _).alloc (Nat.le_refl _) o)) ht
  unfold Ap.val
  cases ha : adr nn cc x.t with
  | false =>
    rw [ha] at HA
    rw [if_pos rfl]
    go_enter Try.func35, Try.ntmps35
    go_wp2_with fail
    refine (HA _).out.mono ?_
    rintro e w1 ⟨rfl, rfl⟩
    go_wp2
    go_ret
    exact ⟨rfl, (Below.refl _ _).alloc (Nat.le_refl _) _⟩
  | true =>
    rw [ha] at HA hs
    have hs : 32768 < x.s.length := hs.elim (fun e => by cases e) id
    have hi : (32768 : Int) < (x.s.length : Int) := by omega
    rw [if_neg (by simp)]
    go_enter Try.func35, Try.ntmps35
    go_wp2_with fail
    refine (HA _).out.mono ?_
    rintro e w1 ⟨rfl, rfl⟩
    go_wp2
    go_ret
    exact ⟨rfl, (Below.refl _ _).alloc (Nat.le_refl _) _⟩

end Go.Proofs.Ytegfbebhgihcaaa
