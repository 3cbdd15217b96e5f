import Derived.Test.YtegfbebhgihcaaaNke
namespace Go.Proofs.Ytegfbebhgihcaaa
open Go.RowKit Go.Maps
set_option linter.unusedVariables false
set_option linter.unusedSimpArgs false

variable {w w' : World} {b mb n : Nat} {nn cc : Int} {pv rv : Value} {P R : List Pk} {M : Int → List UInt8 → Nat}
theorem fld_mail (t f : Int) (s : ByteArray) (w : World) : (Instr.field 105 (.agg #[.int .i64 t, .string s, .int .i64 f]) 0).run Try.prog w = .ok (.agg #[.int .i64 t, .string s]) w := by kernel_rfl
set_option maxRecDepth 100000 in
set_option maxHeartbeats 1000000 in
/-- Genuine: was it sent to that address? -/
theorem genuine_any (x : Ap) (h : Net w b nn cc pv rv mb n P R M) (hx : x.In w) (ht : (Lit.int .i64 x.t).wf = true) : Calls Try.prog 22 #[.pointer (some ⟨b, 0, none⟩), x.val] w fun e w' => e = .returned (.bool (!decide ((M x.t x.s : Int) = 0))) ∧ Below w.heap.size w w' := by
  have hmx : x.s.length ≤ maxLen := by have := hx.cap; have := hx.max; omega
  have FACT : Hid (∀ v, Below w.heap.size w v → v.cell? ⟨b, 4, none⟩ = some (.map (some mb)) ∧ (Instr.lookup 82 (.map (some mb)) (.agg #[.int .i64 x.t, .string (bst x.s)]) false).run Try.prog v = .ok (.int .u32 (M x.t x.s : Int)) v ∧ x.In v) := fun v hb => ⟨(hb.cell (p := ⟨b, 4, none⟩) h.lt).trans h.c4, (h.mp.upd (S := fun _ => False) (Upd.of_below hb) id).look ht hmx, SlY.later hx hb⟩
  have HI : Hid (∀ v, x.In v → Calls Try.prog 73 #[x.val] v fun e w' => e = .returned x.pk.val ∧ Below v.heap.size v w') := fun v hv => incoming_any x v hv
  generalize M x.t x.s = m at FACT ⊢
  clear h hx
  unfold Ap.val Pk.val Ap.pk at HI
  unfold Ap.val
  go_enter Try.func22, Try.ntmps22
  go_wp2_with fail
  have HB := B3.new w (.int .i64 x.f) (.int .i64 x.t) (.slice x.a x.s.length x.c) 46
  have HA : Below w.heap.size w (w.alloc (.cells #[.int .i64 x.f, .int .i64 x.t, .slice x.a x.s.length x.c] 46)).drew := ((Below.refl _ _).alloc (Nat.le_refl _) _).drew
  generalize hbs : w.heap.size = bs at *
  generalize hw0 : w.alloc (.cells #[.int .i64 x.f, .int .i64 x.t, .slice x.a x.s.length x.c] 46) = w0 at *
  have KF : Hid (∀ v, Below w0.heap.size w0.drew v → (v.cell? ⟨b, 4, none⟩ = some (.map (some mb)) ∧ v.cell? ⟨bs, 0, none⟩ = some (.int .i64 x.f) ∧ v.cell? ⟨bs, 1, none⟩ = some (.int .i64 x.t) ∧ v.cell? ⟨bs, 2, none⟩ = some (.slice x.a x.s.length x.c) ∧ (Instr.lookup 82 (.map (some mb)) (.agg #[.int .i64 x.t, .string (bst x.s)]) false).run Try.prog v = .ok (.int .u32 (m : Int)) v) ∧ Below bs w v) := fun v hv => by
    have hv2 : Below bs w v := HA.trans (hv.mono (by have := HB.lt; simp; omega))
    have h3 := HB.bel ((Below.refl w0.heap.size w0).drew.trans hv)
    exact ⟨⟨(FACT.out v hv2).1, h3.c0, h3.c1, h3.c2, (FACT.out v hv2).2.1⟩, hv2⟩
  have HI0 := hide (HI.out w0.drew (FACT.out _ HA).2.2)
  have hfm := fld_mail x.t x.f (bst x.s)
  have s0 := (KF.out w0.drew (Below.refl _ _)).1
  clear HA HB hw0 HI FACT
  go_region_held3 (fun v => v.cell? ⟨b, 4, none⟩ = some (.map (some mb)) ∧ v.cell? ⟨bs, 0, none⟩ = some (.int .i64 x.f) ∧ v.cell? ⟨bs, 1, none⟩ = some (.int .i64 x.t) ∧ v.cell? ⟨bs, 2, none⟩ = some (.slice x.a x.s.length x.c) ∧ (Instr.lookup 82 (.map (some mb)) (.agg #[.int .i64 x.t, .string (bst x.s)]) false).run Try.prog v = .ok (.int .u32 (m : Int)) v) (first | with_reducible assumption | go_keep)
    (first | (go_at_call 73; refine HI0.out.mono ?_; rintro e w3 ⟨rfl, hb3⟩; have s1 := (KF.out w3 hb3).1))
  have hfin := (KF.out w3 hb3).2
  subst hbs
  go_wp2
  go_ret
  exact ⟨rfl, hfin⟩

end Go.Proofs.Ytegfbebhgihcaaa
