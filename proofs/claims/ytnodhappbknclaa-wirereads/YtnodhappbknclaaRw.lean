import Derived.Test.YtnodhappbknclaaRu
namespace Go.Proofs.Ytnodhappbknclaa
open Go.RowKit
set_option linter.unusedVariables false

theorem wrap_le (n p : Nat) (h : p ≤ n) (hn : n ≤ 140737488351232) : IntKind.i64.wrap ((n : Int) - (p : Int)) = (n : Int) - (p : Int) := by
  have h1 : (0 : Int) ≤ (n : Int) - (p : Int) := by omega
  have h2 : (n : Int) - (p : Int) < 9223372036854775808 := by omega
  generalize (n : Int) - (p : Int) = x at *
  simp [IntKind.wrap, IntKind.bits, IntKind.signed]
  omega
theorem num_any (x : Int) (w : World) : Calls Try.prog 16 #[.int .i64 x] w fun e w' => e = .returned (.int .i64 x) ∧ w' = w := by
  go_enter Try.func16, Try.ntmps16
  go_wp2
  go_ret
  exact ⟨rfl, rfl⟩
theorem left_quiet (b : Nat) (a : Option Addr) (n c : Nat) (l : List Int) (p : Nat) (E : Int) (w : World) (k : Nat) (h : RSt w b a n c l p E) :
    Calls Try.prog 32 #[.pointer (some ⟨b, 0, none⟩)] (w.drewN k) fun e w' => e = .returned (.int .i64 ((n : Int) - (p : Int))) ∧ ∃ m, w' = w.drewN m := by
  refine (rd_left b a n c l p E (w.drewN k) (h.drawn' k)).mono ?_
  rintro e w' ⟨rfl, j, rfl⟩
  have := h.le
  exact ⟨ret_int (by omega), _, World.drewN_drewN _ _ _⟩
theorem end_quiet (b : Nat) (a : Option Addr) (n c : Nat) (l : List Int) (p : Nat) (E : Int) (w : World) (k : Nat) (h : RSt w b a n c l p E) :
    Calls Try.prog 33 #[.pointer (some ⟨b, 0, none⟩)] (w.drewN k) fun e w' => e = .returned (.int .i64 (endErr n p E)) ∧ ∃ m, w' = w.drewN m := by
  refine (rd_end b a n c l p E (w.drewN k) (h.drawn' k)).mono ?_
  rintro e w' ⟨rfl, j, rfl⟩
  exact ⟨rfl, _, World.drewN_drewN _ _ _⟩
theorem qend_quiet (b : Nat) (a : Option Addr) (n c p : Nat) (E : Int) (w : World) (k : Nat) (h : QSt w b a n c p E) (hm : n ≤ 9223372036854775807) :
    Calls Try.prog 34 #[.pointer (some ⟨b, 0, none⟩)] (w.drewN k) fun e w' => e = .returned (.int .i64 (endErr n p E)) ∧ ∃ m, w' = w.drewN m := by
  refine (rq_end b a n c p E (w.drewN k) (h.drawn k) hm).mono ?_
  rintro e w' ⟨rfl, j, rfl⟩
  exact ⟨rfl, _, World.drewN_drewN _ _ _⟩
theorem RSt.later' {w w' : World} {b : Nat} {a : Option Addr} {n c : Nat} {l : List Int} {p : Nat} {e : Int} (h : RSt w b a n c l p e) (hb : Below w.heap.size w w') : RSt w' b a n c l p e :=
  ⟨Nat.lt_of_lt_of_le h.lt hb.size, cell_later hb h.c0, cell_later hb h.c1, cell_later hb h.c2, cell_later hb h.c3, (hb.frozen (p := ⟨b, 2, none⟩) h.lt).trans h.f2, (hb.frozen (p := ⟨b, 3, none⟩) h.lt).trans h.f3, h.hs.later hb, h.cmax, h.ne, h.le⟩

set_option maxRecDepth 100000 in
set_option maxHeartbeats 4000000 in
theorem reads_walk (a0 : Option Addr) (len0 cap0 : Nat) (z0 : List Int) (a1 : Option Addr) (len1 cap1 : Nat) (w : World) (w0 : CameS w a0 len0 cap0 z0) (hgets : Gets w a1 len1) (hl1 : len1 ≤ 9223372036854775807) :
    Calls Try.prog 6 #[.slice a0 len0 cap0, .slice a1 len1 cap1] w fun e w' => e = .returned (.bool true) ∧ Below w.heap.size w w' := by
  obtain ⟨h0, m0, m1⟩ := Hs.ofS w0
  clear w0
  generalize z0.take len0 = l at *
  have kb := h0.byte
  go_enter Try.func6, Try.ntmps6
  go_wp2_with fail
  refine (given_new w.heap.size a0 len0 cap0 l _ (by simp) (by simp) (by simp) (by simp) (by simp) (by simp) (by simp) (by simp) (by simp) (h0.later ((Below.refl _ _).alloc (Nat.le_refl _) _)) m0).mono ?_
  rintro e w1 ⟨a1', c1, rfl, hx, hcm, hg, b1⟩
  have bw1 : Below w.heap.size w w1 := ((Below.refl _ _).alloc (Nat.le_refl _) _).trans b1
  clear b1
  go_wp2_with fail
  refine (newreader_any a1' len0 c1 l w1 hx (by omega)).mono ?_
  rintro e w2 ⟨r, a2, c2, rfl, hR, hr, b2⟩
  clear hx hcm
  have hrw := hR.lt
  have hx2 : ∀ x, a2 = some x → 0 < len0 → x.block ≠ w2.heap.size := by
    intro x hx hn
    obtain ⟨g, rfl, _⟩ := hR.ne x hx
    have h3 := hR.hs.row _ hx 0 (by rw [hR.hs.len]; exact hn)
    rw [Addr.add_lit] at h3
    have h4 : g < w2.heap.size := World.block_lt_of_cell? _ _ h3
    show g ≠ w2.heap.size
    omega
  have hdr : r ≠ w2.heap.size := by omega
  go_wp2_with fail
  have T0 : Both w1 (w2.alloc (Obj.cells #[Value.slice a0 len0 cap0, Value.int IntKind.i64 0, Value.int IntKind.i64 0] 59)) r w2.heap.size a0 a2 len0 cap0 c2 l 0 0 :=
    ⟨hR.later' ((Below.refl _ _).alloc (Nat.le_refl _) _), ⟨by simp, by simp, by simp, by simp, by simp, by simp, Nat.zero_le _⟩, b2.alloc b2.size _⟩
  have hb2 := b2.size
  have hdw : w1.heap.size ≤ w2.heap.size := hb2
  clear hR b2 hrw
  generalize w2.alloc (Obj.cells #[Value.slice a0 len0 cap0, Value.int IntKind.i64 0, Value.int IntKind.i64 0] 59) = W3 at *
  generalize w2.heap.size = dq at *
  have HK : ∀ wr w', Below w1.heap.size w1 wr → Only dq wr w' → Hs w' a0 len0 cap0 l := fun wr w' h1 h2 => h0.later (bw1.trans ((h1.trans (h2.below hdw)).mono bw1.size))
  go_loopw [9] (fun i wr => ∃ (k p : Nat) (E : Int), i = .int .i64 k ∧ k ≤ len1 ∧ Both w1 wr r dq a0 a2 len0 cap0 c2 l p E) (fun i _ => len1 - (intOf i).toNat)
  case atStart => exact ⟨0, 0, 0, rfl, Nat.zero_le _, T0⟩
  case round =>
    obtain ⟨k, p, E, rfl, hk, T⟩ := hrel
    clear T0
    by_cases hlt : k < len1
    · obtain ⟨gb, go, K, Mo, rfl, e1, e2, hMo⟩ := hgets k hlt
      have hgw : gb < w.heap.size := World.block_lt_of_cell? _ _ e1
      have bwr : Below w.heap.size w wr := bw1.trans (T.bel.mono bw1.size)
      have e1 := cell_later bwr e1
      have e2 := cell_later bwr e2
      clear hgets
      have hgr : gb ≠ r := by have := bw1.size; omega
      by_cases hK0 : K = 0
      · subst hK0
        go_wp2_with fail
        refine (ru_number r a2 len0 c2 l p E wr T.rst).mono ?_
        rintro e w3 ⟨rfl, R3, o3⟩
        go_wp2_with fail
        refine (qu_number dq a0 len0 cap0 l p E w3 (T.qst.apart o3 (Ne.symm hdr)) (fun w' h => HK w3 w' (T.bel.trans (o3.below hr)) h) (by omega)).mono ?_
        rintro e w4 ⟨rfl, Q4, o4⟩
        have T4 : Both w1 w4 r dq a0 a2 len0 cap0 c2 l _ _ := ⟨R3.apart o4 hdr hx2, Q4, (T.bel.trans (o3.below hr)).trans (o4.below hdw)⟩
        clear R3 Q4 o3 o4 T
        generalize p + sel E (tnSize (l.drop p)) = p' at *
        generalize selE E (tnErr (l.drop p)) = E' at *
        generalize sel E (tnVal (l.drop p)) = V at *
        go_wp2_with fail
        have HA := fun j => hide (rd_at r a2 len0 c2 l p' E' (w4.drewN j) (T4.rst.drawn' j))
        have HLf := fun j => hide (left_quiet r a2 len0 c2 l p' E' w4 j T4.rst)
        have HEn := fun j => hide (end_quiet r a2 len0 c2 l p' E' w4 j T4.rst)
        have HQe := fun j => hide (qend_quiet dq a0 len0 cap0 p' E' w4 j T4.qst (by omega))
        have HNu := fun x j => hide (num_any x (w4.drewN j))
        have q1 := T4.qst.c1
        have hple := T4.qst.le
        have HT4 := hide T4
        clear T4
        generalize endErr len0 p' E' = EE at *
        go_quiet ((first | (go_at_call 31; exact Calls.quiet_of_same (HA _).out) | (go_at_call 32; exact (HLf _).out) | (go_at_call 33; exact (HEn _).out) | (go_at_call 34; exact (HQe _).out) | (go_at_call 16; exact Calls.quiet_of_same (HNu _ _).out)))
        go_wp2
        have T4 := HT4.out
        exact ⟨⟨k + 1, p', E', by go_num, by omega, ⟨T4.rst.drawn' _, T4.qst.drawn _, below_drewN T4.bel _⟩⟩, by simp [intOf]; omega⟩
      · by_cases hK1 : K = 1
        · subst hK1
          go_wp2_with fail
          go_region_with (first | (go_at_call 26; refine (ru_int r a2 len0 c2 l p E Mo hMo _ (T.rst.later' ((Below.refl _ _).drew))).mono ?_; rintro e w3 ⟨rfl, R3, o3⟩; have e3 := (o3.cell (p := ⟨gb, go + k * 2 + 1, none⟩) hgr).trans e2) | (go_at_call 27; refine (qu_int dq a0 len0 cap0 l p E Mo hMo w3 (QSt.apart (T.qst.later ((Below.refl _ _).drew)) o3 (Ne.symm hdr)) (fun w' h => HK w3 w' (T.bel.drew.trans (o3.below hr)) h) (by omega)).mono ?_; rintro e w4 ⟨rfl, Q4, o4⟩))
          all_goals
            have T4 : Both w1 w4 r dq a0 a2 len0 cap0 c2 l _ _ := ⟨R3.apart o4 hdr hx2, Q4, (T.bel.drew.trans (o3.below hr)).trans (o4.below hdw)⟩
            clear R3 Q4 o3 o4 T
            generalize p + sel E (tcSize Mo (l.drop p)) = p' at *
            generalize selE E (tcErr Mo (l.drop p)) = E' at *
            generalize sel E (tcVal Mo (l.drop p)) = V at *
            go_wp2_with fail
            have HA := fun j => hide (rd_at r a2 len0 c2 l p' E' (w4.drewN j) (T4.rst.drawn' j))
            have HLf := fun j => hide (left_quiet r a2 len0 c2 l p' E' w4 j T4.rst)
            have HEn := fun j => hide (end_quiet r a2 len0 c2 l p' E' w4 j T4.rst)
            have HQe := fun j => hide (qend_quiet dq a0 len0 cap0 p' E' w4 j T4.qst (by omega))
            have HNu := fun x j => hide (num_any x (w4.drewN j))
            have q1 := T4.qst.c1
            have hple := T4.qst.le
            have hwr := wrap_le len0 p' hple m0
            have HT4 := hide T4
            clear T4
            generalize endErr len0 p' E' = EE at *
            go_quiet ((first | (go_at_call 31; exact Calls.quiet_of_same (HA _).out) | (go_at_call 32; exact (HLf _).out) | (go_at_call 33; exact (HEn _).out) | (go_at_call 34; exact (HQe _).out) | (go_at_call 16; exact Calls.quiet_of_same (HNu _ _).out)))
            go_wp2
            have T4 := HT4.out
            exact ⟨⟨k + 1, p', E', by go_num, by omega, ⟨T4.rst.drawn' _, T4.qst.drawn _, below_drewN T4.bel _⟩⟩, by simp [intOf]; omega⟩
        · by_cases hK2 : K = 2
          · subst hK2
            go_wp2_with fail
            go_region_with (first | (go_at_call 28; refine (ru_count r a2 len0 c2 l p E Mo hMo _ (T.rst.later' ((Below.refl _ _).drew))).mono ?_; rintro e w3 ⟨rfl, R3, o3⟩; have e3 := (o3.cell (p := ⟨gb, go + k * 2 + 1, none⟩) hgr).trans e2) | (go_at_call 27; refine (qu_int dq a0 len0 cap0 l p E Mo hMo w3 (QSt.apart (T.qst.later ((Below.refl _ _).drew)) o3 (Ne.symm hdr)) (fun w' h => HK w3 w' (T.bel.drew.trans (o3.below hr)) h) (by omega)).mono ?_; rintro e w4 ⟨rfl, Q4, o4⟩))
            all_goals
              have T4 : Both w1 w4 r dq a0 a2 len0 cap0 c2 l _ _ := ⟨R3.apart o4 hdr hx2, Q4, (T.bel.drew.trans (o3.below hr)).trans (o4.below hdw)⟩
              clear R3 Q4 o3 o4 T
              generalize p + sel E (tcSize Mo (l.drop p)) = p' at *
              generalize selE E (tcErr Mo (l.drop p)) = E' at *
              generalize sel E (tcVal Mo (l.drop p)) = V at *
              go_wp2_with fail
              have HA := fun j => hide (rd_at r a2 len0 c2 l p' E' (w4.drewN j) (T4.rst.drawn' j))
              have HLf := fun j => hide (left_quiet r a2 len0 c2 l p' E' w4 j T4.rst)
              have HEn := fun j => hide (end_quiet r a2 len0 c2 l p' E' w4 j T4.rst)
              have HQe := fun j => hide (qend_quiet dq a0 len0 cap0 p' E' w4 j T4.qst (by omega))
              have HNu := fun x j => hide (num_any x (w4.drewN j))
              have q1 := T4.qst.c1
              have hple := T4.qst.le
              have hwr := wrap_le len0 p' hple m0
              have HT4 := hide T4
              clear T4
              generalize endErr len0 p' E' = EE at *
              go_quiet ((first | (go_at_call 31; exact Calls.quiet_of_same (HA _).out) | (go_at_call 32; exact (HLf _).out) | (go_at_call 33; exact (HEn _).out) | (go_at_call 34; exact (HQe _).out) | (go_at_call 16; exact Calls.quiet_of_same (HNu _ _).out)))
              go_wp2
              have T4 := HT4.out
              exact ⟨⟨k + 1, p', E', by go_num, by omega, ⟨T4.rst.drawn' _, T4.qst.drawn _, below_drewN T4.bel _⟩⟩, by simp [intOf]; omega⟩
          · by_cases hK3 : K = 3
            · subst hK3
              go_wp2_with fail
              go_region_with (first | (go_at_call 29; refine (ru_text r a2 len0 c2 l p E Mo hMo _ (T.rst.later' ((Below.refl _ _).drew))).mono ?_; rintro e w3 ⟨rfl, R3, o3⟩; have e3 := (o3.cell (p := ⟨gb, go + k * 2 + 1, none⟩) hgr).trans e2) | (go_at_call 30; refine (qu_text dq a0 len0 cap0 l p E Mo hMo w3 (QSt.apart (T.qst.later ((Below.refl _ _).drew)) o3 (Ne.symm hdr)) (fun w' h => HK w3 w' (T.bel.drew.trans (o3.below hr)) h) (by omega)).mono ?_; rintro e w4 ⟨rfl, Q4, o4⟩))
              all_goals
                have T4 : Both w1 w4 r dq a0 a2 len0 cap0 c2 l _ _ := ⟨R3.apart o4 hdr hx2, Q4, (T.bel.drew.trans (o3.below hr)).trans (o4.below hdw)⟩
                clear R3 Q4 o3 o4 T
                generalize p + sel E (ttSize Mo (l.drop p)) = p' at *
                generalize selE E (ttErr Mo (l.drop p)) = E' at *
                generalize selL E (ttList Mo (l.drop p)) = V at *
                go_wp2_with fail
                have HA := fun j => hide (rd_at r a2 len0 c2 l p' E' (w4.drewN j) (T4.rst.drawn' j))
                have HLf := fun j => hide (left_quiet r a2 len0 c2 l p' E' w4 j T4.rst)
                have HEn := fun j => hide (end_quiet r a2 len0 c2 l p' E' w4 j T4.rst)
                have HQe := fun j => hide (qend_quiet dq a0 len0 cap0 p' E' w4 j T4.qst (by omega))
                have HNu := fun x j => hide (num_any x (w4.drewN j))
                have q1 := T4.qst.c1
                have hple := T4.qst.le
                have hwr := wrap_le len0 p' hple m0
                have HT4 := hide T4
                clear T4
                generalize endErr len0 p' E' = EE at *
                go_quiet ((first | (go_at_call 31; exact Calls.quiet_of_same (HA _).out) | (go_at_call 32; exact (HLf _).out) | (go_at_call 33; exact (HEn _).out) | (go_at_call 34; exact (HQe _).out) | (go_at_call 16; exact Calls.quiet_of_same (HNu _ _).out)))
                go_wp2
                have T4 := HT4.out
                exact ⟨⟨k + 1, p', E', by go_num, by omega, ⟨T4.rst.drawn' _, T4.qst.drawn _, below_drewN T4.bel _⟩⟩, by simp [intOf]; omega⟩
            · have hn0 : (K == 0) = false := by simp [hK0]
              have hn1 : (K == 1) = false := by simp [hK1]
              have hn2 : (K == 2) = false := by simp [hK2]
              have hn3 : (K == 3) = false := by simp [hK3]
              have T4 := T
              clear T hK0 hK1 hK2 hK3
              go_wp2_with fail
              have HA := fun j => hide (rd_at r a2 len0 c2 l p E (wr.drewN j) (T4.rst.drawn' j))
              have HLf := fun j => hide (left_quiet r a2 len0 c2 l p E wr j T4.rst)
              have HEn := fun j => hide (end_quiet r a2 len0 c2 l p E wr j T4.rst)
              have HQe := fun j => hide (qend_quiet dq a0 len0 cap0 p E wr j T4.qst (by omega))
              have HNu := fun x j => hide (num_any x (wr.drewN j))
              have q1 := T4.qst.c1
              have hple := T4.qst.le
              have HT4 := hide T4
              clear T4
              generalize endErr len0 p E = EE at *
              go_quiet ((first | (go_at_call 31; exact Calls.quiet_of_same (HA _).out) | (go_at_call 32; exact (HLf _).out) | (go_at_call 33; exact (HEn _).out) | (go_at_call 34; exact (HQe _).out) | (go_at_call 16; exact Calls.quiet_of_same (HNu _ _).out)))
              go_wp2
              have T4 := HT4.out
              exact ⟨⟨k + 1, p, E, by go_num, by omega, ⟨T4.rst.drawn' _, T4.qst.drawn _, below_drewN T4.bel _⟩⟩, by simp [intOf]; omega⟩
    · obtain rfl : k = len1 := by omega
      have HEn := hide (rd_end r a2 len0 c2 l p E wr T.rst)
      have hg2 := hg.later T.bel
      have bwr : Below w.heap.size w wr := bw1.trans (T.bel.mono bw1.size)
      clear hgets HK
      go_wp2_with fail
      refine HEn.out.mono ?_
      rintro e w5 ⟨rfl, j5, rfl⟩
      clear HEn
      have HQe := hide (rq_end dq a0 len0 cap0 p E (wr.drewN j5) (T.qst.drawn j5) (by omega))
      generalize endErr len0 p E = EE at *
      clear T
      go_wp2_with (go_at_call 16; go_in)
      refine HQe.out.mono ?_
      rintro e w5 ⟨rfl, j6, hw5⟩
      rw [World.drewN_drewN] at hw5
      rw [hw5]
      clear hw5 HQe
      have hg3 := hg2.later (below_drewN (Below.refl _ _) (j5 + j6))
      have bwr3 := below_drewN bwr (j5 + j6)
      generalize wr.drewN (j5 + j6) = w6 at *
      go_wp2_with fail
      refine (intact_one w.heap.size _ w6 hg3).mono ?_
      rintro e w7 ⟨rfl, b7⟩
      go_wp2_with fail
      refine (alive_any w7).mono ?_
      rintro e w8 ⟨rfl, b8⟩
      have bw7 := bwr3.trans (b7.mono bwr3.size)
      go_wp2
      go_ret
      exact ⟨rfl, bw7.trans (b8.mono bw7.size)⟩
#print axioms reads_walk

end Go.Proofs.Ytnodhappbknclaa
