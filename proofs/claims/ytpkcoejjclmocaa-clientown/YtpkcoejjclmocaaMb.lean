import Derived.Test.YtpkcoejjclmocaaMa
namespace Go.Proofs.Ytpkcoejjclmocaa
open Go.RowKit
set_option linter.unusedVariables false

theorem bh_snoc (p : Cl) : ∀ L : List Cl, bh (L ++ [p]) = max (bh L) (p.1 + 1)
  | [] => by simp only [List.nil_append, bh]; omega
  | y :: r => by simp only [List.cons_append, bh, bh_snoc p r]; omega
set_option maxRecDepth 100000 in
set_option maxHeartbeats 2000000 in
theorem refdo_any (D : List Cl) (a : Option Addr) (c : Nat) (k s : Int) (v : ByteArray) (hf : (⟨k, s, v⟩ : Opn).fits) (w : World) (h : SlC w (.slice a D.length c) D a c) (hok : Ok D) :
    Calls Try.prog 75 #[.slice a D.length c, .agg #[.int .i64 k, .int .i64 s, .string v]] w fun e w' => ∃ a' c', e = .returned (.tuple #[.slice a' (dn D k s v).length c', rV (wd D k s v)]) ∧ SlC w' (.slice a' (dn D k s v).length c') (dn D k s v) a' c' ∧ Below w.heap.size w w' ∧ (a' = a ∧ dn D k s v = D ∨ ∀ z, a' = some z → w.heap.size ≤ z.block) := by
  have hmx := h.max
  have hcap := h.cap
  unfold maxLen at hmx
  have hll := hok.len_le
  have hh := hide h
  have hoh := hide hok
  have hb0 : ∀ x, a = some x → D ≠ [] → ¬ x.block = w.heap.size + 1 := fun x hx hne => by
    obtain ⟨q, o, e, hq, _⟩ := h.place hne
    rw [hx] at e
    cases e
    dsimp only
    omega
  have hno := hide hb0
  clear h hok hb0
  have cc := fun W => refcheck k s v hf W
  by_cases hc : ck k s v = 0
  · rw [hc] at cc
    have cg := fun W hW => refget_any D a c s W hW
    obtain ⟨x, tk, hx, htk, hg⟩ : ∃ (x : ByteArray) (tk : Bool), (gv D s).getD ByteArray.empty = x ∧ (gv D s).isSome = tk ∧ gv D s = if tk then some x else none := by
      cases gv D s with
      | none => exact ⟨_, _, rfl, rfl, rfl⟩
      | some y => exact ⟨_, _, rfl, rfl, rfl⟩
    rw [hx, htk] at cg
    have hr : wd D k s v = if k = 1 then (if tk then (2, s, x) else (1, s, v)) else if k = 2 then (if bh D < 1024 then (1, bh D, v) else (3, 0, ByteArray.empty)) else if k = 3 then (if tk then (4, s, x) else (5, s, ByteArray.empty)) else (6, D.length, ByteArray.empty) := by
      unfold wd
      rw [hg]
      cases tk <;> simp [hc]
    have hrd : dn D k s v = if (wd D k s v).1 = 1 then ins (wd D k s v).2 D else D := rfl
    rw [hr] at hrd
    have hwh := hide hr
    have hdh := hide hrd
    have k4 : k = 1 ∨ k = 2 ∨ k = 3 ∨ k = 4 := by
      unfold ck at hc
      by_cases a1 : k = 1 ∨ k = 3
      · omega
      · by_cases a2 : k = 2 ∨ k = 4
        · omega
        · simp [a1, a2] at hc
    clear hr hrd hg hx htk hc
    rcases k4 with rfl | rfl | rfl | rfl
    · cases tk with
      | true =>
        have hwq := hide (show wd D _ s v = (2, s, x) by rw [hwh.out]; simp)
        have hdq := hide (show dn D _ s v = D by rw [hdh.out]; simp)
        go_enter Try.func75, Try.ntmps75
        go_wp2_with (first
          | (go_at_call 61; refine (cc _).mono ?_; rintro e w1 ⟨rfl, hb⟩; obtain ⟨y0, y1, y2, z0, z1, z2, zf0, zf1, zf2⟩ := box_facts hb; have hb5 : Below w.heap.size w w1 := (((Below.refl w.heap.size w).alloc (Nat.le_refl _) _).alloc (by simp) _).trans (hb.mono (by simp; omega)))
          | (go_at_call 78; refine (cg _ (hh.out.later hb5)).mono ?_; rintro e w2 ⟨rfl, h2⟩; subst h2))
        go_region_held3 (fun v' => v'.cell? ⟨w.heap.size, 1, none⟩ = some (.int .i64 s)) (first | go_keep | go_simp) (fail)
        go_wp2
        refine bodyPost_ret (v := .tuple #[.slice a D.length c, rV (2, s, x)]) (by simp [results, Try.results75, go_sem, rV, *] <;> rfl) rfl ⟨a, c, by rw [hdq.out, hwq.out], ?_, ?_, .inl ⟨rfl, hdq.out⟩⟩
        · rw [hdq.out]
          exact (hh.out.later (hb5.drew)).upd (S := fun i => i = w.heap.size + 1) ((((Upd.refl (fun i => i = w.heap.size + 1) _).setCell (p := ⟨w.heap.size + 1, 0, none⟩) (.inl rfl) _).setCell (p := ⟨w.heap.size + 1, 1, none⟩) (.inl rfl) _).setCell (p := ⟨w.heap.size + 1, 2, none⟩) (.inl rfl) _) hno.out
        · exact (((hb5.drew).setCell (p := ⟨w.heap.size + 1, 0, none⟩) (by simp) _).setCell (p := ⟨w.heap.size + 1, 1, none⟩) (by simp) _).setCell (p := ⟨w.heap.size + 1, 2, none⟩) (by simp) _
      | false =>
        have hwq := hide (show wd D _ s v = (1, s, v) by rw [hwh.out]; simp)
        have hdq := hide (show dn D _ s v = ins (s, v) D by rw [hdh.out]; simp)
        go_enter Try.func75, Try.ntmps75
        go_wp2_with (first
          | (go_at_call 61; refine (cc _).mono ?_; rintro e w1 ⟨rfl, hb⟩; obtain ⟨y0, y1, y2, z0, z1, z2, zf0, zf1, zf2⟩ := box_facts hb; have hb5 : Below w.heap.size w w1 := (((Below.refl w.heap.size w).alloc (Nat.le_refl _) _).alloc (by simp) _).trans (hb.mono (by simp; omega)))
          | (go_at_call 78; refine (cg _ (hh.out.later hb5)).mono ?_; rintro e w2 ⟨rfl, h2⟩; subst h2))
        have hsz2 : w.heap.size + 2 ≤ w2.heap.size := by simpa using hb.size
        have KS : ∀ v', Below w2.heap.size w2 v' → (v'.cell? ⟨w.heap.size, 1, none⟩ = some (.int .i64 s) ∧ v'.cell? ⟨w.heap.size, 2, none⟩ = some (.string v)) := fun v' b' => ⟨(b'.cell (p := ⟨w.heap.size, 1, none⟩) (by dsimp only; omega)).trans y1, (b'.cell (p := ⟨w.heap.size, 2, none⟩) (by dsimp only; omega)).trans y2⟩
        have KH := hide KS
        have hsl2 := hide (hh.out.later hb5)
        clear KS
        go_region_held3 (fun v' => v'.cell? ⟨w.heap.size, 1, none⟩ = some (.int .i64 s) ∧ v'.cell? ⟨w.heap.size, 2, none⟩ = some (.string v))
          (first | exact KH.out _ (Below.refl _ _).drew | exact KH.out _ (by assumption) | go_keep | (exact ⟨by go_simp, by go_simp⟩) | go_simp)
          (first | (go_at_call 79; refine (refput_any D a c (s, v) _ (hsl2.out.later (Below.refl _ _).drew) hll).mono ?_; rintro e w3 ⟨v3, rfl, o3, b3⟩; have hb3 : Below w2.heap.size w2 w3 := (Below.refl _ w2).drew.trans b3; obtain ⟨a3, c3, sl3', hz3'⟩ := o3.sl; have hv3 := sl3'.form; subst hv3; have sl3 := hide sl3'; have hz3 := hide hz3'; have zz0 := (hb3.cell (p := ⟨w.heap.size + 1, 0, none⟩) (by dsimp only; omega)).trans z0; have zz1 := (hb3.cell (p := ⟨w.heap.size + 1, 1, none⟩) (by dsimp only; omega)).trans z1; have zz2 := (hb3.cell (p := ⟨w.heap.size + 1, 2, none⟩) (by dsimp only; omega)).trans z2; have zg0 := (hb3.frozen (p := ⟨w.heap.size + 1, 0, none⟩) (by dsimp only; omega)).trans zf0; have zg1 := (hb3.frozen (p := ⟨w.heap.size + 1, 1, none⟩) (by dsimp only; omega)).trans zf1; have zg2 := (hb3.frozen (p := ⟨w.heap.size + 1, 2, none⟩) (by dsimp only; omega)).trans zf2; clear sl3' hz3' o3))
        go_wp2
        refine bodyPost_ret (v := .tuple #[.slice a3 (ins (s, v) D).length c3, rV (1, s, v)]) (by simp [results, Try.results75, go_sem, rV, *] <;> rfl) rfl ⟨a3, c3, by rw [hdq.out, hwq.out], ?_, ?_, .inr (fun z hz => by have := (hz3.out z hz).1; have e : (World.drew w2).heap.size = w2.heap.size := rfl; omega)⟩
        · rw [hdq.out]
          exact (sl3.out.later (belN (Below.refl _ w3) 0)).upd (S := fun i => i = w.heap.size + 1) ((((Upd.refl (fun i => i = w.heap.size + 1) _).setCell (p := ⟨w.heap.size + 1, 0, none⟩) (.inl rfl) _).setCell (p := ⟨w.heap.size + 1, 1, none⟩) (.inl rfl) _).setCell (p := ⟨w.heap.size + 1, 2, none⟩) (.inl rfl) _) (fun x hx _ hq => by have := (hz3.out x hx).1; have e : (World.drew w2).heap.size = w2.heap.size := rfl; omega)
        · exact (((hb5.trans (hb3.mono hb5.size)).setCell (p := ⟨w.heap.size + 1, 0, none⟩) (by simp) _).setCell (p := ⟨w.heap.size + 1, 1, none⟩) (by simp) _).setCell (p := ⟨w.heap.size + 1, 2, none⟩) (by simp) _
    · by_cases hbh : bh D < 1024
      · have hwq := hide (show wd D _ s v = (1, bh D, v) by rw [hwh.out]; simp [hbh])
        have hdq := hide (show dn D _ s v = ins (bh D, v) D by rw [hdh.out]; simp [hbh])
        go_enter Try.func75, Try.ntmps75
        go_wp2_with (first
          | (go_at_call 61; refine (cc _).mono ?_; rintro e w1 ⟨rfl, hb⟩; obtain ⟨y0, y1, y2, z0, z1, z2, zf0, zf1, zf2⟩ := box_facts hb; have hb5 : Below w.heap.size w w1 := (((Below.refl w.heap.size w).alloc (Nat.le_refl _) _).alloc (by simp) _).trans (hb.mono (by simp; omega)))
          | (go_at_call 78; refine (cg _ (hh.out.later hb5)).mono ?_; rintro e w2 ⟨rfl, h2⟩; subst h2))
        have hDh := hide hoh.out.may
        go_loopw [9, 8] (fun i t wr => ∃ j : Nat, i = .int .i64 (j : Int) ∧ t = .int .i64 (bh (D.take j)) ∧ j ≤ D.length ∧ wr = w2) (fun i _ _ => D.length - (intOf i).toNat)
        case atStart => exact ⟨0, rfl, rfl, Nat.zero_le _, rfl⟩
        case round =>
          obtain ⟨j, rfl, rfl, hj, hwr⟩ := hrel
          have hwr := hwr.symm
          subst hwr
          by_cases hlt : j < D.length
          · have hg : D[j]? = some D[j] := List.getElem?_eq_getElem hlt
            have hne : D ≠ [] := by rintro rfl; simp at hlt
            have htk : bh (D.take (j + 1)) = max (bh (D.take j)) (D[j].1 + 1) := by rw [List.take_add_one, hg]; exact bh_snoc _ _
            have hmj := hDh.out D[j] (List.getElem_mem hlt)
            obtain ⟨q, o, rfl, hq, hl⟩ := (hh.out.later hb5).place hne
            obtain ⟨e0, e1⟩ := hl j _ hg
            have hb1 := bh_le (L := D.take j) (fun p hp => (hDh.out p (List.mem_of_mem_take hp)).2.1)
            have hb2 := bh_nonneg (D.take j)
            clear hl hg
            generalize D[j] = p at *
            obtain ⟨s', v'⟩ := p
            dsimp only at e0 e1 htk hmj
            generalize hbt : bh (D.take j) = t at *
            by_cases hc : t ≤ s'
            · have hT := hide (show bh (D.take (j + 1)) = s' + 1 by rw [htk]; omega)
              clear htk
              have hcc : decide (t ≤ s') = true := by simp [hc]
              go_wp2
              go_round
              case rel => exact ⟨j + 1, by go_num, by rw [hT.out], by omega, by first | rfl | trivial⟩
              case measure => simp [intOf]; omega
            · have hT := hide (show bh (D.take (j + 1)) = t by rw [htk]; omega)
              clear htk
              have hcc : decide (t ≤ s') = false := by simp; omega
              go_wp2
              go_round
              case rel => exact ⟨j + 1, by go_num, by rw [hT.out], by omega, by first | rfl | trivial⟩
              case measure => simp [intOf]; omega
          · obtain rfl : j = D.length := by omega
            rw [List.take_of_length_le (Nat.le_refl _)]
            generalize hbg : bh D = t at *
            have hcc : decide ((1024 : Int) ≤ t) = false := by simp; omega
            go_wp2
            have hsz2 : w.heap.size + 2 ≤ w2.heap.size := by simpa using hb.size
            have KS : ∀ v', Below w2.heap.size w2 v' → (v'.cell? ⟨w.heap.size, 2, none⟩ = some (.string v)) := fun v' b' => (b'.cell (p := ⟨w.heap.size, 2, none⟩) (by dsimp only; omega)).trans y2
            have KH := hide KS
            have hsl2 := hide (hh.out.later hb5)
            clear KS
            go_region_held3 (fun v' => v'.cell? ⟨w.heap.size, 2, none⟩ = some (.string v))
              (first | exact KH.out _ (Below.refl _ _).drew | exact KH.out _ (by assumption) | go_keep | (exact ⟨by go_simp, by go_simp⟩) | go_simp)
              (first | (go_at_call 79; refine (refput_any D a c (t, v) _ (hsl2.out.later (Below.refl _ _).drew) hll).mono ?_; rintro e w3 ⟨v3, rfl, o3, b3⟩; have hb3 : Below w2.heap.size w2 w3 := (Below.refl _ w2).drew.trans b3; obtain ⟨a3, c3, sl3', hz3'⟩ := o3.sl; have hv3 := sl3'.form; subst hv3; have sl3 := hide sl3'; have hz3 := hide hz3'; have zz0 := (hb3.cell (p := ⟨w.heap.size + 1, 0, none⟩) (by dsimp only; omega)).trans z0; have zz1 := (hb3.cell (p := ⟨w.heap.size + 1, 1, none⟩) (by dsimp only; omega)).trans z1; have zz2 := (hb3.cell (p := ⟨w.heap.size + 1, 2, none⟩) (by dsimp only; omega)).trans z2; have zg0 := (hb3.frozen (p := ⟨w.heap.size + 1, 0, none⟩) (by dsimp only; omega)).trans zf0; have zg1 := (hb3.frozen (p := ⟨w.heap.size + 1, 1, none⟩) (by dsimp only; omega)).trans zf1; have zg2 := (hb3.frozen (p := ⟨w.heap.size + 1, 2, none⟩) (by dsimp only; omega)).trans zf2; clear sl3' hz3' o3))
            go_wp2
            refine bodyPost_ret (v := .tuple #[.slice a3 (ins (t, v) D).length c3, rV (1, t, v)]) (by simp [results, Try.results75, go_sem, rV, *] <;> rfl) rfl ⟨a3, c3, by rw [hdq.out, hwq.out], ?_, ?_, .inr (fun z hz => by have := (hz3.out z hz).1; have e : (World.drew w2).heap.size = w2.heap.size := rfl; omega)⟩
            · rw [hdq.out]
              exact (sl3.out.later (belN (Below.refl _ w3) 0)).upd (S := fun i => i = w.heap.size + 1) ((((Upd.refl (fun i => i = w.heap.size + 1) _).setCell (p := ⟨w.heap.size + 1, 0, none⟩) (.inl rfl) _).setCell (p := ⟨w.heap.size + 1, 1, none⟩) (.inl rfl) _).setCell (p := ⟨w.heap.size + 1, 2, none⟩) (.inl rfl) _) (fun x hx _ hq => by have := (hz3.out x hx).1; have e : (World.drew w2).heap.size = w2.heap.size := rfl; omega)
            · exact (((hb5.trans (hb3.mono hb5.size)).setCell (p := ⟨w.heap.size + 1, 0, none⟩) (by simp) _).setCell (p := ⟨w.heap.size + 1, 1, none⟩) (by simp) _).setCell (p := ⟨w.heap.size + 1, 2, none⟩) (by simp) _
      · have hwq := hide (show wd D _ s v = (3, 0, ByteArray.empty) by rw [hwh.out]; simp [hbh])
        have hdq := hide (show dn D _ s v = D by rw [hdh.out]; simp [hbh])
        go_enter Try.func75, Try.ntmps75
        go_wp2_with (first
          | (go_at_call 61; refine (cc _).mono ?_; rintro e w1 ⟨rfl, hb⟩; obtain ⟨y0, y1, y2, z0, z1, z2, zf0, zf1, zf2⟩ := box_facts hb; have hb5 : Below w.heap.size w w1 := (((Below.refl w.heap.size w).alloc (Nat.le_refl _) _).alloc (by simp) _).trans (hb.mono (by simp; omega)))
          | (go_at_call 78; refine (cg _ (hh.out.later hb5)).mono ?_; rintro e w2 ⟨rfl, h2⟩; subst h2))
        have hDh := hide hoh.out.may
        go_loopw [9, 8] (fun i t wr => ∃ j : Nat, i = .int .i64 (j : Int) ∧ t = .int .i64 (bh (D.take j)) ∧ j ≤ D.length ∧ wr = w2) (fun i _ _ => D.length - (intOf i).toNat)
        case atStart => exact ⟨0, rfl, rfl, Nat.zero_le _, rfl⟩
        case round =>
          obtain ⟨j, rfl, rfl, hj, hwr⟩ := hrel
          have hwr := hwr.symm
          subst hwr
          by_cases hlt : j < D.length
          · have hg : D[j]? = some D[j] := List.getElem?_eq_getElem hlt
            have hne : D ≠ [] := by rintro rfl; simp at hlt
            have htk : bh (D.take (j + 1)) = max (bh (D.take j)) (D[j].1 + 1) := by rw [List.take_add_one, hg]; exact bh_snoc _ _
            have hmj := hDh.out D[j] (List.getElem_mem hlt)
            obtain ⟨q, o, rfl, hq, hl⟩ := (hh.out.later hb5).place hne
            obtain ⟨e0, e1⟩ := hl j _ hg
            have hb1 := bh_le (L := D.take j) (fun p hp => (hDh.out p (List.mem_of_mem_take hp)).2.1)
            have hb2 := bh_nonneg (D.take j)
            clear hl hg
            generalize D[j] = p at *
            obtain ⟨s', v'⟩ := p
            dsimp only at e0 e1 htk hmj
            generalize hbt : bh (D.take j) = t at *
            by_cases hc : t ≤ s'
            · have hT := hide (show bh (D.take (j + 1)) = s' + 1 by rw [htk]; omega)
              clear htk
              have hcc : decide (t ≤ s') = true := by simp [hc]
              go_wp2
              go_round
              case rel => exact ⟨j + 1, by go_num, by rw [hT.out], by omega, by first | rfl | trivial⟩
              case measure => simp [intOf]; omega
            · have hT := hide (show bh (D.take (j + 1)) = t by rw [htk]; omega)
              clear htk
              have hcc : decide (t ≤ s') = false := by simp; omega
              go_wp2
              go_round
              case rel => exact ⟨j + 1, by go_num, by rw [hT.out], by omega, by first | rfl | trivial⟩
              case measure => simp [intOf]; omega
          · obtain rfl : j = D.length := by omega
            rw [List.take_of_length_le (Nat.le_refl _)]
            generalize hbg : bh D = t at *
            have hcc : decide ((1024 : Int) ≤ t) = true := by simp; omega
            go_wp2
            refine bodyPost_ret (v := .tuple #[.slice a D.length c, rV (3, 0, ByteArray.empty)]) (by simp [results, Try.results75, go_sem, rV, *] <;> rfl) rfl ⟨a, c, by rw [hdq.out, hwq.out], ?_, ?_, .inl ⟨rfl, hdq.out⟩⟩
            · rw [hdq.out]
              exact (hh.out.later (hb5)).upd (S := fun i => i = w.heap.size + 1) ((((Upd.refl (fun i => i = w.heap.size + 1) _).setCell (p := ⟨w.heap.size + 1, 0, none⟩) (.inl rfl) _).setCell (p := ⟨w.heap.size + 1, 1, none⟩) (.inl rfl) _).setCell (p := ⟨w.heap.size + 1, 2, none⟩) (.inl rfl) _) hno.out
            · exact (((hb5).setCell (p := ⟨w.heap.size + 1, 0, none⟩) (by simp) _).setCell (p := ⟨w.heap.size + 1, 1, none⟩) (by simp) _).setCell (p := ⟨w.heap.size + 1, 2, none⟩) (by simp) _
    · cases tk with
      | true =>
        have hwq := hide (show wd D _ s v = (4, s, x) by rw [hwh.out]; simp)
        have hdq := hide (show dn D _ s v = D by rw [hdh.out]; simp)
        go_enter Try.func75, Try.ntmps75
        go_wp2_with (first
          | (go_at_call 61; refine (cc _).mono ?_; rintro e w1 ⟨rfl, hb⟩; obtain ⟨y0, y1, y2, z0, z1, z2, zf0, zf1, zf2⟩ := box_facts hb; have hb5 : Below w.heap.size w w1 := (((Below.refl w.heap.size w).alloc (Nat.le_refl _) _).alloc (by simp) _).trans (hb.mono (by simp; omega)))
          | (go_at_call 78; refine (cg _ (hh.out.later hb5)).mono ?_; rintro e w2 ⟨rfl, h2⟩; subst h2))
        go_region_held3 (fun v' => v'.cell? ⟨w.heap.size, 1, none⟩ = some (.int .i64 s)) (first | go_keep | go_simp) (fail)
        go_wp2
        refine bodyPost_ret (v := .tuple #[.slice a D.length c, rV (4, s, x)]) (by simp [results, Try.results75, go_sem, rV, *] <;> rfl) rfl ⟨a, c, by rw [hdq.out, hwq.out], ?_, ?_, .inl ⟨rfl, hdq.out⟩⟩
        · rw [hdq.out]
          exact (hh.out.later (hb5.drew)).upd (S := fun i => i = w.heap.size + 1) ((((Upd.refl (fun i => i = w.heap.size + 1) _).setCell (p := ⟨w.heap.size + 1, 0, none⟩) (.inl rfl) _).setCell (p := ⟨w.heap.size + 1, 1, none⟩) (.inl rfl) _).setCell (p := ⟨w.heap.size + 1, 2, none⟩) (.inl rfl) _) hno.out
        · exact (((hb5.drew).setCell (p := ⟨w.heap.size + 1, 0, none⟩) (by simp) _).setCell (p := ⟨w.heap.size + 1, 1, none⟩) (by simp) _).setCell (p := ⟨w.heap.size + 1, 2, none⟩) (by simp) _
      | false =>
        have hwq := hide (show wd D _ s v = (5, s, ByteArray.empty) by rw [hwh.out]; simp)
        have hdq := hide (show dn D _ s v = D by rw [hdh.out]; simp)
        go_enter Try.func75, Try.ntmps75
        go_wp2_with (first
          | (go_at_call 61; refine (cc _).mono ?_; rintro e w1 ⟨rfl, hb⟩; obtain ⟨y0, y1, y2, z0, z1, z2, zf0, zf1, zf2⟩ := box_facts hb; have hb5 : Below w.heap.size w w1 := (((Below.refl w.heap.size w).alloc (Nat.le_refl _) _).alloc (by simp) _).trans (hb.mono (by simp; omega)))
          | (go_at_call 78; refine (cg _ (hh.out.later hb5)).mono ?_; rintro e w2 ⟨rfl, h2⟩; subst h2))
        go_region_held3 (fun v' => v'.cell? ⟨w.heap.size, 1, none⟩ = some (.int .i64 s)) (first | go_keep | go_simp) (fail)
        go_wp2
        refine bodyPost_ret (v := .tuple #[.slice a D.length c, rV (5, s, ByteArray.empty)]) (by simp [results, Try.results75, go_sem, rV, *] <;> rfl) rfl ⟨a, c, by rw [hdq.out, hwq.out], ?_, ?_, .inl ⟨rfl, hdq.out⟩⟩
        · rw [hdq.out]
          exact (hh.out.later (hb5.drew)).upd (S := fun i => i = w.heap.size + 1) ((((Upd.refl (fun i => i = w.heap.size + 1) _).setCell (p := ⟨w.heap.size + 1, 0, none⟩) (.inl rfl) _).setCell (p := ⟨w.heap.size + 1, 1, none⟩) (.inl rfl) _).setCell (p := ⟨w.heap.size + 1, 2, none⟩) (.inl rfl) _) hno.out
        · exact (((hb5.drew).setCell (p := ⟨w.heap.size + 1, 0, none⟩) (by simp) _).setCell (p := ⟨w.heap.size + 1, 1, none⟩) (by simp) _).setCell (p := ⟨w.heap.size + 1, 2, none⟩) (by simp) _
    · have hwq := hide (show wd D _ s v = (6, (D.length : Int), ByteArray.empty) by rw [hwh.out]; simp)
      have hdq := hide (show dn D _ s v = D by rw [hdh.out]; simp)
      go_enter Try.func75, Try.ntmps75
      go_wp2_with (first
        | (go_at_call 61; refine (cc _).mono ?_; rintro e w1 ⟨rfl, hb⟩; obtain ⟨y0, y1, y2, z0, z1, z2, zf0, zf1, zf2⟩ := box_facts hb; have hb5 : Below w.heap.size w w1 := (((Below.refl w.heap.size w).alloc (Nat.le_refl _) _).alloc (by simp) _).trans (hb.mono (by simp; omega)))
        | (go_at_call 78; refine (cg _ (hh.out.later hb5)).mono ?_; rintro e w2 ⟨rfl, h2⟩; subst h2))
      refine bodyPost_ret (v := .tuple #[.slice a D.length c, rV (6, (D.length : Int), ByteArray.empty)]) (by simp [results, Try.results75, go_sem, rV, *] <;> rfl) rfl ⟨a, c, by rw [hdq.out, hwq.out], ?_, ?_, .inl ⟨rfl, hdq.out⟩⟩
      · rw [hdq.out]
        exact (hh.out.later (hb5)).upd (S := fun i => i = w.heap.size + 1) ((((Upd.refl (fun i => i = w.heap.size + 1) _).setCell (p := ⟨w.heap.size + 1, 0, none⟩) (.inl rfl) _).setCell (p := ⟨w.heap.size + 1, 1, none⟩) (.inl rfl) _).setCell (p := ⟨w.heap.size + 1, 2, none⟩) (.inl rfl) _) hno.out
      · exact (((hb5).setCell (p := ⟨w.heap.size + 1, 0, none⟩) (by simp) _).setCell (p := ⟨w.heap.size + 1, 1, none⟩) (by simp) _).setCell (p := ⟨w.heap.size + 1, 2, none⟩) (by simp) _
  · have hr : wd D k s v = (0, 0, ByteArray.empty) := by simp [wd, hc]
    have hd : dn D k s v = D := by simp [dn, hr]
    have hwq := hide hr
    have hdq := hide hd
    have hne : (ck k s v != 0) = true := by simp [hc]
    clear hr hd
    go_enter Try.func75, Try.ntmps75
    go_wp2_with (go_at_call 61; refine (cc _).mono ?_; rintro e w1 ⟨rfl, hb⟩; obtain ⟨y0, y1, y2, z0, z1, z2, zf0, zf1, zf2⟩ := box_facts hb)
    have hb5 : Below w.heap.size w w1 := (((Below.refl w.heap.size w).alloc (Nat.le_refl _) _).alloc (by simp) _).trans (hb.mono (by simp; omega))
    refine bodyPost_ret (v := .tuple #[.slice a D.length c, rV (0, 0, ByteArray.empty)]) (by simp [results, Try.results75, go_sem, rV, *] <;> rfl) rfl ⟨a, c, by rw [hdq.out, hwq.out], ?_, ?_, .inl ⟨rfl, hdq.out⟩⟩
    · rw [hdq.out]
      exact (hh.out.later (hb5)).upd (S := fun i => i = w.heap.size + 1) ((((Upd.refl (fun i => i = w.heap.size + 1) _).setCell (p := ⟨w.heap.size + 1, 0, none⟩) (.inl rfl) _).setCell (p := ⟨w.heap.size + 1, 1, none⟩) (.inl rfl) _).setCell (p := ⟨w.heap.size + 1, 2, none⟩) (.inl rfl) _) hno.out
    · exact (((hb5).setCell (p := ⟨w.heap.size + 1, 0, none⟩) (by simp) _).setCell (p := ⟨w.heap.size + 1, 1, none⟩) (by simp) _).setCell (p := ⟨w.heap.size + 1, 2, none⟩) (by simp) _

end Go.Proofs.Ytpkcoejjclmocaa
