import Derived.Test.YtegfbebhgihcaaaNkd
namespace Go.Proofs.Ytegfbebhgihcaaa
open Go.RowKit Go.Maps
set_option linter.unusedVariables false
set_option linter.unusedSimpArgs false

variable {w w' : World} {b mb n : Nat} {nn cc : Int} {pv rv : Value} {P R : List Pk} {M : Int → List UInt8 → Nat}
/-- A packet brought between addresses. -/
def fitP (x : Ap) : Pk := ⟨ad5 x.t, x.s.take 32768, ad5 x.f⟩
/-- A net of which only what matters outside is said: its blocks are none below B. -/
structure NetB (B : Nat) (w : World) (b : Nat) (nn cc : Int) (P : List Pk) (rl : Nat) : Prop where
  ex : ∃ pv rv mb n R M, Net w b nn cc pv rv mb n P R M ∧ B ≤ b ∧ B ≤ mb ∧ (∀ g, pv.ownBlock = some g → B ≤ g) ∧ (∀ g, rv.ownBlock = some g → B ≤ g) ∧ R.length ≤ rl
theorem sR_len (M : Int → List UInt8 → Nat) (R : List Pk) (p : Pk) (i : Nat) : (sR M R p i).length ≤ R.length + 1 := by
  unfold sR
  split <;> simp
set_option maxRecDepth 100000 in
/-- Send of what fits. -/
theorem send_b (B : Nat) (y : Ap) (rl : Nat) (w : World) (b : Nat) (P : List Pk) (h : NetB B w b 3 2 P rl) (hB : B ≤ w.heap.size) (hy : y.In w) (hs : y.s.length ≤ 32768) (hf : adr 3 2 y.f = true) (ht : adr 3 2 y.t = true) (hl : (P.length + 1) * 32 ≤ 168884986026393) (hr : (rl + 1) * 32 ≤ 168884986026393) :
    Calls Try.prog 25 #[.pointer (some ⟨b, 0, none⟩), y.val] w fun e w' => e = .returned (.int .i64 0) ∧ NetB B w' b 3 2 (P ++ [y.pk]) (rl + 1) ∧ Below B w w' := by
  obtain ⟨pv, rv, mb, n, R, M, h1, h2, h3, h4, h5, h6⟩ := h
  obtain ⟨i, hfi, hi⟩ := adr_lt hf (by omega) (by omega)
  obtain ⟨j, htj, hj⟩ := adr_lt ht (by omega) (by omega)
  refine (send_ok y i h1 hy hfi hi (wf_i64 (by omega)) hf ht hs hl (by omega)).mono ?_
  rintro e w' ⟨rfl, pv', rv', n', k1, k2, k3, k4⟩
  refine ⟨rfl, ⟨pv', rv', mb, n', _, _, k1, h2, h3, fun g hg => ?_, fun g hg => ?_, ?_⟩, k2.below hB (fun k hk => ?_)⟩
  · rcases k3 with e | ⟨k, e, hk⟩
    · exact h4 g (e ▸ hg)
    · rw [e] at hg; cases hg; omega
  · rcases k4 with e | ⟨k, e, hk⟩
    · exact h5 g (e ▸ hg)
    · rw [e] at hg; cases hg; omega
  · have := sR_len M R y.pk i
    omega
  · rcases hk with rfl | rfl | hk | hk
    · exact h2
    · exact h3
    · exact h4 k hk
    · exact h5 k hk
set_option maxRecDepth 100000 in
set_option maxHeartbeats 1000000 in
theorem filled_any (L : List Ap) (a : Option Addr) (c : Nat) (w : World) (h : SlY yA w a L.length c L) (hin : ∀ x ∈ L, x.In w ∧ x.s.length ≤ 140737488351232) (hl : L.length * 40 ≤ 140737488351232) :
    Calls Try.prog 36 #[.slice a L.length c] w fun e w' => ∃ b, e = .returned (.pointer (some ⟨b, 0, none⟩)) ∧ NetB w.heap.size w' b 3 2 (L.map fitP) L.length ∧ Below w.heap.size w w' := by
  have HM := hide (made_any w)
  have HL := hide h
  have HI := hide hin
  have hcap := h.cap
  clear h hin
  go_enter Try.func36, Try.ntmps36
  go_wp2_with fail
  refine HM.out.mono ?_
  rintro e w1 ⟨b, mb, rfl, h1, h2, h3, h4⟩
  have I0 : Hid (NetB w.heap.size w1 b 3 2 ((L.take 0).map fitP) 0 ∧ Below w.heap.size w w1) := ⟨⟨_, _, mb, 0, [], _, by simpa using h1, h2, h3, (fun g hg => by cases hg), (fun g hg => by cases hg), Nat.le_refl _⟩, h4⟩
  clear h1 h2 h3 h4 HM
  go_wp2_with fail
  go_loopw [4] (fun i wr => ∃ j : Nat, i = .int .i64 (j : Int) ∧ j ≤ L.length ∧ Hid (NetB w.heap.size wr b 3 2 ((L.take j).map fitP) j ∧ Below w.heap.size w wr)) (fun i _ => L.length - (intOf i).toNat)
  case atStart => exact ⟨0, rfl, Nat.zero_le _, I0⟩
  case round =>
    obtain ⟨j, rfl, hj, HJ⟩ := hrel
    by_cases hlt : j < L.length
    · have d1 : decide ((j : Int) < (L.length : Int)) = true := decide_eq_true (by omega)
      have i1 : (j : Int) < (L.length : Int) := by omega
      have hg := List.getElem?_eq_getElem hlt
      generalize hxe : L[j] = x at hg
      have hxm : x ∈ L := by rw [← hxe]; exact List.getElem_mem _
      obtain ⟨q, o, rfl, hq, hlie⟩ := HL.out.place (by intro e; rw [e] at hlt; simp at hlt)
      have hb := HJ.out.2
      have l0 : wr.cell? ⟨q, o + j * 3, none⟩ = some (.int .i64 x.f) := (hb.cell (p := ⟨q, _, none⟩) hq).trans (hlie _ _ hg 0 _ rfl)
      have l1 : wr.cell? ⟨q, o + j * 3 + 1, none⟩ = some (.int .i64 x.t) := (hb.cell (p := ⟨q, _, none⟩) hq).trans (hlie _ _ hg 1 _ rfl)
      have l2 : wr.cell? ⟨q, o + j * 3 + 2, none⟩ = some (.slice x.a x.s.length x.c) := (hb.cell (p := ⟨q, _, none⟩) hq).trans (hlie _ _ hg 2 _ rfl)
      have HF := hide (fit_any x wr (SlY.later (HI.out x hxm).1 hb) (by have := (HI.out x hxm).2; omega))
      have htk : (L.take (j + 1)).map fitP = (L.take j).map fitP ++ [fitP x] := by rw [List.take_add_one, hg]; simp
      have HTK := hide htk
      have hw1 : IntKind.i64.wrap ((j : Int) + 1) = ((j + 1 : Nat) : Int) := by rw [IntKind.wrap_i64]; omega
      unfold Ap.val at HF
      clear hb hlie hxe hxm hg I0 htk
      go_wp2_with fail
      refine HF.out.mono ?_
      rintro e w2 ⟨y, rfl, hy, hyi, hb2⟩
      have hyp := hy
      unfold Ap.pk at hy
      injection hy with y1 y2 y3
      have hN2 : NetB w.heap.size w2 b 3 2 ((L.take j).map fitP) j := by
        obtain ⟨pv, rv, mb, n, R, M, k1, k2⟩ := HJ.out.1
        exact ⟨pv, rv, mb, n, R, M, k1.later hb2, k2⟩
      have hB2 := HJ.out.2.trans (hb2.mono HJ.out.2.size)
      have HS := hide (send_b w.heap.size y j w2 b _ hN2 hB2.size hyi (by rw [y2, List.length_take]; omega) (by rw [y3]; exact ad5_adr _) (by rw [y1]; exact ad5_adr _) (by rw [List.length_map, List.length_take]; omega) (by omega))
      rw [hyp] at HS
      have HB2 := hide hB2
      unfold Ap.val at HS
      clear hyi hb2 hN2 hB2 y1 y2 y3 hyp HF HJ l0 l1 l2
      go_wp2_with fail
      refine HS.out.mono ?_
      rintro e w3 ⟨rfl, hN3, hB3⟩
      have H3 : Hid (NetB w.heap.size w3 b 3 2 ((L.take (j + 1)).map fitP) (j + 1) ∧ Below w.heap.size w w3) := ⟨by rw [HTK.out]; exact hN3, HB2.out.trans hB3⟩
      clear hN3 hB3 HS HB2
      go_wp2
      exact ⟨⟨j + 1, by go_num, by omega, H3⟩, by simp [intOf]; omega⟩
    · have d1 : decide ((j : Int) < (L.length : Int)) = false := decide_eq_false (by omega)
      have hj2 : j = L.length := by omega
      have HF : Hid (NetB w.heap.size wr b 3 2 (L.map fitP) L.length ∧ Below w.heap.size w wr) := by
        have := HJ.out
        rw [hj2, List.take_length] at this
        exact this
      clear HJ hj2 I0
      go_wp2
      go_ret
      exact ⟨_, rfl, HF.out.1, HF.out.2⟩
set_option maxRecDepth 100000 in
theorem within_any (k m : Int) (w : World) (hm : 0 ≤ m) (hm2 : m < 4611686018427387904) (hk : (Lit.int .i64 k).wf = true) : Calls Try.prog 37 #[.int .i64 k, .int .i64 m] w fun e w' => ∃ j : Nat, e = .returned (.int .i64 (j : Int)) ∧ (j : Int) ≤ m ∧ w' = w := by
  have hw1 : IntKind.i64.wrap (m + 1) = m + 1 := by rw [IntKind.wrap_i64]; omega
  have hne : ¬ m + 1 = 0 := by omega
  have b1 := Int.emod_nonneg k (show m + 1 ≠ 0 by omega)
  have b2 := Int.emod_lt_of_pos k (show 0 < m + 1 by omega)
  have e1 : -(m + 1) < k.tmod (m + 1) ∧ k.tmod (m + 1) < m + 1 := by
    have hn : ((m + 1).natAbs : Int) = m + 1 := Int.natAbs_of_nonneg (by omega)
    rw [Int.tmod_eq_emod]
    split <;> omega
  clear b1 b2
  have hw0 : IntKind.i64.wrap (k.tmod (m + 1)) = k.tmod (m + 1) := by rw [IntKind.wrap_i64]; omega
  by_cases h0 : k.tmod (m + 1) < 0
  · have d0 : decide (k.tmod (m + 1) < 0) = true := decide_eq_true h0
    have hw2 : IntKind.i64.wrap (k.tmod (m + 1) + m) = k.tmod (m + 1) + m := by rw [IntKind.wrap_i64]; omega
    have hw3 : IntKind.i64.wrap (k.tmod (m + 1) + m + 1) = k.tmod (m + 1) + m + 1 := by rw [IntKind.wrap_i64]; omega
    go_enter Try.func37, Try.ntmps37
    go_wp2
    go_ret
    exact ⟨(k.tmod (m + 1) + m + 1).toNat, by rw [Int.toNat_of_nonneg (by omega)]; rfl, by omega, rfl⟩
  · have d0 : decide (k.tmod (m + 1) < 0) = false := decide_eq_false h0
    go_enter Try.func37, Try.ntmps37
    go_wp2
    go_ret
    exact ⟨(k.tmod (m + 1)).toNat, by rw [Int.toNat_of_nonneg (by omega)]; rfl, by omega, rfl⟩

end Go.Proofs.Ytegfbebhgihcaaa
