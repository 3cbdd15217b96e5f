import Derived.Test.YtcngfonnkaiplaaNkj
namespace Go.Proofs.Ytcngfonnkaiplaa
open Go.RowKit Go.Maps
set_option linter.unusedVariables false
set_option linter.unusedSimpArgs false

variable {w w' : World} {b : Nat}
theorem for_z (k : Int) (h : Zn w b) : Calls Try.prog 40 #[.pointer (some ⟨b, 0, none⟩), .int .i64 k] w fun e w' => e = .returned (.slice none 0 0) ∧ w' = w := by
  have c2 := h.c2
  clear h
  go_enter Try.func40, Try.ntmps40
  go_wp2_with fail
  go_loopw [5, 15] (fun v i wr => v = .slice none 0 0 ∧ i = .int .i64 0 ∧ wr = w) (fun _ _ _ => 0)
  case atStart => exact ⟨rfl, rfl, rfl⟩
  case round =>
    obtain ⟨rfl, rfl, rfl⟩ := hrel
    go_wp2
    go_ret
    exact ⟨rfl, rfl⟩
set_option maxRecDepth 100000 in
theorem each_z (h : Zn w b) : Calls Try.prog 41 #[.pointer (some ⟨b, 0, none⟩)] w fun e w' => (∃ v, e = .returned v) ∧ Below w.heap.size w w' := by
  have c2 := h.c2
  have hlt := h.lt
  have y2 : ∀ o, (w.alloc o).cell? ⟨b, 2, none⟩ = some (.slice none 0 0) := fun o => (World.cell?_alloc_past _ _ _ hlt).trans c2
  clear h
  go_enter Try.func41, Try.ntmps41
  go_wp2
  go_ret
  exact ⟨⟨_, rfl⟩, (Below.refl _ _).alloc (Nat.le_refl _) _⟩
set_option maxRecDepth 100000 in
set_option maxHeartbeats 1000000 in
theorem genuine_z (x : Ap) (h : Zn w b) (hx : x.In w) (ht : (Lit.int .i64 x.t).wf = true) : Calls Try.prog 22 #[.pointer (some ⟨b, 0, none⟩), x.val] w fun e w' => e = .returned (.bool false) ∧ Below w.heap.size w w' := by
  have hmx : x.s.length ≤ maxLen := by have := hx.cap; have := hx.max; omega
  have FACT : Hid (∀ v, Below w.heap.size w v → v.cell? ⟨b, 4, none⟩ = some (.map none) ∧ (Instr.lookup 82 (.map none) (.agg #[.int .i64 x.t, .string (bst x.s)]) false).run Try.prog v = .ok (.int .u32 0) v ∧ x.In v) := fun v hb => ⟨(hb.cell (p := ⟨b, 4, none⟩) h.lt).trans h.c4, look_nilK v ht hmx, SlY.later hx hb⟩
  have HI : Hid (∀ v, x.In v → Calls Try.prog 73 #[x.val] v fun e w' => e = .returned x.pk.val ∧ Below v.heap.size v w') := fun v hv => incoming_any x v hv
  clear h hx
  unfold Ap.val Pk.val Ap.pk at HI
  unfold Ap.val
  go_enter Try.func22, Try.ntmps22
  go_wp2_with fail
  have HB := B3.new w (.int .i64 x.f) (.int .i64 x.t) (.slice x.a x.s.length x.c) 46
  have HA : Below w.heap.size w (w.alloc (.cells #[.int .i64 x.f, .int .i64 x.t, .slice x.a x.s.length x.c] 46)).drew := ((Below.refl _ _).alloc (Nat.le_refl _) _).drew
  generalize hbs : w.heap.size = bs at *
  generalize hw0 : w.alloc (.cells #[.int .i64 x.f, .int .i64 x.t, .slice x.a x.s.length x.c] 46) = w0 at *
  have KF : Hid (∀ v, Below w0.heap.size w0.drew v → (v.cell? ⟨b, 4, none⟩ = some (.map none) ∧ v.cell? ⟨bs, 0, none⟩ = some (.int .i64 x.f) ∧ v.cell? ⟨bs, 1, none⟩ = some (.int .i64 x.t) ∧ v.cell? ⟨bs, 2, none⟩ = some (.slice x.a x.s.length x.c) ∧ (Instr.lookup 82 (.map none) (.agg #[.int .i64 x.t, .string (bst x.s)]) false).run Try.prog v = .ok (.int .u32 0) v) ∧ Below bs w v) := fun v hv => by
    have hv2 : Below bs w v := HA.trans (hv.mono (by have := HB.lt; simp; omega))
    have h3 := HB.bel ((Below.refl w0.heap.size w0).drew.trans hv)
    exact ⟨⟨(FACT.out v hv2).1, h3.c0, h3.c1, h3.c2, (FACT.out v hv2).2.1⟩, hv2⟩
  have HI0 := hide (HI.out w0.drew (FACT.out _ HA).2.2)
  have hfm := fld_mail x.t x.f (bst x.s)
  have s0 := (KF.out w0.drew (Below.refl _ _)).1
  clear HA HB hw0 HI FACT
  go_region_held3 (fun v => v.cell? ⟨b, 4, none⟩ = some (.map none) ∧ v.cell? ⟨bs, 0, none⟩ = some (.int .i64 x.f) ∧ v.cell? ⟨bs, 1, none⟩ = some (.int .i64 x.t) ∧ v.cell? ⟨bs, 2, none⟩ = some (.slice x.a x.s.length x.c) ∧ (Instr.lookup 82 (.map none) (.agg #[.int .i64 x.t, .string (bst x.s)]) false).run Try.prog v = .ok (.int .u32 0) v) (first | with_reducible assumption | go_keep)
    (first | (go_at_call 73; refine HI0.out.mono ?_; rintro e w3 ⟨rfl, hb3⟩; have s1 := (KF.out w3 hb3).1))
  have hfin := (KF.out w3 hb3).2
  subst hbs
  go_wp2
  go_ret
  exact ⟨rfl, hfin⟩

end Go.Proofs.Ytcngfonnkaiplaa
