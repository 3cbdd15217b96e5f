import Derived.Test.YtacalgpdhgpmbaaMh
namespace Go.Proofs.Ytacalgpdhgpmbaa
open Go.RowKit
open Classical
set_option linter.unusedVariables false

/-- Three cells at a block. -/
def At3' (w : World) (g : Nat) (a b : Int) (c : ByteArray) : Prop := w.cell? ⟨g, 0, none⟩ = some (.int .i64 a) ∧ w.cell? ⟨g, 1, none⟩ = some (.int .i64 b) ∧ w.cell? ⟨g, 2, none⟩ = some (.string c)
theorem At3'.new (w : World) (a b : Int) (c : ByteArray) (T : TypeId) : At3' (w.alloc (.cells #[.int .i64 a, .int .i64 b, .string c] T)) w.heap.size a b c := by
  refine ⟨?_, ?_, ?_⟩
  all_goals go_simp
theorem At3'.on {w w' : World} {g : Nat} {a b : Int} {c : ByteArray} (h : At3' w g a b c) {B : Nat} (hb : Below B w w') (hg : g < B) : At3' w' g a b c :=
  ⟨(hb.cell (p := ⟨g, 0, none⟩) hg).trans h.1, (hb.cell (p := ⟨g, 1, none⟩) hg).trans h.2.1, (hb.cell (p := ⟨g, 2, none⟩) hg).trans h.2.2⟩
theorem At3'.kept {w w' : World} {g b : Nat} {x y : Int} {c : ByteArray} (h : At3' w g x y c) (K : ∀ g i u, g ≠ b → w.cell? ⟨g, i, none⟩ = some u → w'.cell? ⟨g, i, none⟩ = some u) (hg : g ≠ b) : At3' w' g x y c :=
  ⟨K _ _ _ hg h.1, K _ _ _ hg h.2.1, K _ _ _ hg h.2.2⟩
/-- The state of the law's loop: the ledger at b, the two arrays at g and h. -/
structure FSt (B : Nat) (w0 w : World) (b g h : Nat) (L : List Cl) : Prop where
  led : LedB B w0 w b L
  tk : Arr w g 50 (tkL L)
  vl : Arr w h 51 (vlL L)
theorem FSt.on {B : Nat} {w0 w w' : World} {b g h : Nat} {L : List Cl} (f : FSt B w0 w b g h L) (hb : Below w.heap.size w w') : FSt B w0 w' b g h L :=
  ⟨f.led.on hb, f.tk.upd (S := fun _ => False) (Upd.of_below hb) id, f.vl.upd (S := fun _ => False) (Upd.of_below hb) id⟩
theorem arr_not_map {w : World} {g : Nat} {t : TypeId} {xs : List Value} (h : Arr w g t xs) : ∀ es c, w.heap[g]? ≠ some (.map es c) := fun es c e => by
  rcases h.2 with ⟨e', _⟩ | ⟨g', cap, cur, e1, e2, e3, r⟩
  · cases e'
  · injection e1 with e1
    injection e1 with e1
    injection e1 with e1
    subst e1
    rw [e] at e3
    cases e3
/-- Do within the state: the ledger goes on, the arrays stay. -/
theorem do_fs (B : Nat) (w0 : World) (b g h : Nat) (L : List Cl) (k s : Int) (v : ByteArray) (hf : (⟨k, s, v⟩ : Opn).fits) (hgb : g ≠ b) (hhb : h ≠ b) (w : World) (f : FSt B w0 w b g h L) : Calls Try.prog 28 #[.pointer (some ⟨b, 0, none⟩), .agg #[.int .i64 k, .int .i64 s, .string v]] w fun e w' => e = .returned (.agg #[.int .i64 (wd L k s v).1, .int .i64 (wd L k s v).2.1, .string (wd L k s v).2.2]) ∧ LedB B w0 w' b (dn L k s v) ∧ Arr w' g 50 (tkL L) ∧ Arr w' h 51 (vlL L) ∧ (∀ g i u, g ≠ b → w.cell? ⟨g, i, none⟩ = some u → w'.cell? ⟨g, i, none⟩ = some u) ∧ w.heap.size ≤ w'.heap.size := by
  obtain ⟨⟨m, h1, h2, h3, h4⟩, ht, hv⟩ := f
  refine (do3 b m L k s v hf w h1).mono fun e w' ⟨he, t⟩ => ⟨he, LedB.took t h2 (by have := h1.lt; omega) h3 h4, ht.upd t.upd ?_, hv.upd t.upd ?_, t.keep h1, t.upd.size⟩
  · rintro (e | e)
    · exact hgb e
    · obtain ⟨es, c, hb, _⟩ := (h1.sm _ e).2
      exact arr_not_map ht es c hb
  · rintro (e | e)
    · exact hhb e
    · obtain ⟨es, c, hb, _⟩ := (h1.sm _ e).2
      exact arr_not_map hv es c hb
set_option maxRecDepth 100000 in
set_option maxHeartbeats 4000000 in
theorem first_walk (P : List Opn) (a : Option Addr) (cap : Nat) (w : World) (hP : Ops w a P) (hf : ∀ p ∈ P, p.fits) (hl : P.length * 32 ≤ 140737488351232) :
    Calls Try.prog 7 #[.slice a P.length cap] w fun e w' => e = .returned (.bool true) ∧ Below w.heap.size w w' := by
  have HP := hide hP
  have HF := hide hf
  clear hP hf
  have hlz : (P.length : Int) ≤ 9223372036854775807 := by omega
  go_enter Try.func7, Try.ntmps7
  go_wp2_with (first
    | (go_at_call 17; refine (new_b w.heap.size w w (Below.refl _ _) (Nat.le_refl _)).mono ?_; rintro e w1 ⟨rfl, l1, s1⟩; clear s1)
    | (go_at_call 16; refine (works_any _).mono ?_; rintro e w2 ⟨rfl, b2⟩; replace l1 := l1.on b2; clear b2)
    | (refine alloc_bools _ rfl rfl ?_; intro w3 t3 b3 s3; have l3 := l1.on b3; go_frame)
    | (refine alloc_strs _ rfl rfl ?_; intro w4 v4 b4 s4; have l4 := l3.on b4; have t4 := t3.upd (S := fun _ => False) (Upd.of_below b4) id; go_frame)
    | go_in)
  have hbG : w.heap.size < w2.heap.size := l1.lt.2
  have FS4 : FSt w.heap.size w w4 w.heap.size w2.heap.size w3.heap.size [] := ⟨l4, t4, v4⟩
  have hhb : w3.heap.size ≠ w.heap.size := by omega
  have hGH : w2.heap.size ≠ w3.heap.size := by omega
  have hgb : w2.heap.size ≠ w.heap.size := by omega
  have hge := hide (show w.heap.size ≤ w2.heap.size ∧ w.heap.size ≤ w3.heap.size from ⟨by omega, by omega⟩)
  clear l4 t4 v4 b4 s4 l3 t3 b3 s3 l1 hbG
  generalize w2.heap.size = G at *
  generalize w3.heap.size = H at *
  go_loopw [7, 6] (fun i n wr => ∃ j : Nat, i = .int .i64 (j : Int) ∧ n = .int .i64 ((pl [] (P.take j)).length : Int) ∧ j ≤ P.length ∧ FSt w.heap.size w wr w.heap.size G H (pl [] (P.take j))) (fun i _ _ => P.length - (intOf i).toNat)
  case atStart => exact ⟨0, rfl, rfl, Nat.zero_le _, FS4⟩
  case round =>
    obtain ⟨j, rfl, rfl, hj, F⟩ := hrel
    by_cases hlt : j < P.length
    · have hg : P[j]? = some P[j] := List.getElem?_eq_getElem hlt
      have ht := pl_take [] hg
      have hfj := HF.out P[j] (List.getElem_mem hlt)
      obtain ⟨q, o, ea, c0, c1, c2⟩ := HP.out.later F.led.bel j hlt
      generalize P[j] = p at *
      obtain ⟨k, s, v⟩ := p
      subst ea
      dsimp only at c0 c1 c2 ht
      have hth := hide ht
      have hok := F.led.ok
      have hll := hok.len_le
      generalize pl [] (P.take j) = L at *
      clear ht hg
      have hblt := F.led.lt.2
      have hgl := F.tk.lt
      have hhl := F.vl.lt
      obtain ⟨wA, hwA⟩ : ∃ wA, wr.alloc (.cells #[.int .i64 k, .int .i64 s, .string v] 23) = wA := ⟨_, rfl⟩
      have bA : Below wr.heap.size wr wA := by rw [← hwA]; exact (Below.refl _ wr).alloc (Nat.le_refl _) _
      have OA : At3' wA wr.heap.size k s v := by rw [← hwA]; exact At3'.new wr k s v _
      have FA := F.on bA
      have hsA : wr.heap.size < wA.heap.size := by rw [← hwA]; simp
      have cdd := do_fs w.heap.size w w.heap.size G H L k s v hfj hgb hhb wA FA
      have hAb : wr.heap.size ≠ w.heap.size := by omega
      have hAG : wr.heap.size ≠ G := by omega
      have hAH : wr.heap.size ≠ H := by omega
      have hbAh := hide bA
      have cck := fun W => check3 k s v hfj W
      have hFh := hide F
      obtain ⟨o0, o1, o2⟩ := hide OA
      clear F FA
      go_wp2_with fail
      refine cdd.mono ?_
      rintro e w5 ⟨rfl, l5, t5, v5, K5, s5⟩
      clear hwA cdd
      have hbA := hbAh.out
      obtain ⟨A, hA⟩ : ∃ A, wr.heap.size = A := ⟨_, rfl⟩
      rw [hA] at OA o0 o1 o2 hAb hAG hAH hsA ⊢
      have O5 := OA.kept K5 hAb
      obtain ⟨w6, hw6⟩ : ∃ w6, w5.alloc (.cells #[.int .i64 (wd L k s v).1, .int .i64 (wd L k s v).2.1, .string (wd L k s v).2.2] 53) = w6 := ⟨_, rfl⟩
      have b6 : Below w5.heap.size w5 w6 := by rw [← hw6]; exact (Below.refl _ w5).alloc (Nat.le_refl _) _
      have R6 : At3' w6 w5.heap.size (wd L k s v).1 (wd L k s v).2.1 (wd L k s v).2.2 := by rw [← hw6]; exact At3'.new w5 _ _ _ _
      have s6 : w5.heap.size < w6.heap.size := by rw [← hw6]; simp
      have O6 := O5.on b6 (by omega)
      have l6 := l5.on b6
      have t6 := t5.upd (S := fun _ => False) (Upd.of_below b6) id
      have v6 := v5.upd (S := fun _ => False) (Upd.of_below b6) id
      obtain ⟨R, hR⟩ : ∃ R, w5.heap.size = R := ⟨_, rfl⟩
      rw [hR] at R6 s6 s5
      have hRb : R ≠ w.heap.size := by have := l5.lt.2; omega
      have hRG : R ≠ G := by have := t5.lt; omega
      have hRH : R ≠ H := by have := v5.lt; omega
      have O6h := hide O6
      have R6h := hide R6
      obtain ⟨o0, o1, o2⟩ := hide O6
      obtain ⟨r0, r1, r2⟩ := hide R6
      have hdnw : dn L k s v = if (wd L k s v).1 = 1 then ins (wd L k s v).2 L else L := rfl
      have hwr := fun e => wd_written hok (k := k) (s := s) (v := v) e
      have hdh := hide hdnw
      have hwrh := hide hwr
      clear hdnw hwr K5 OA O5 l5 t5 v5 b6 R6 O6
      go_wp2_with fail
      refine (cck w6).mono ?_
      rintro e w7 ⟨rfl, b7⟩
      have l7 := l6.on b7
      have t7 := t6.upd (S := fun _ => False) (Upd.of_below b7) id
      have v7 := v6.upd (S := fun _ => False) (Upd.of_below b7) id
      clear o0 o1 o2 r0 r1 r2
      have hO7 : A < w6.heap.size := by omega
      have hR7 : R < w6.heap.size := by omega
      obtain ⟨o0, o1, o2⟩ := hide (O6h.out.on b7 hO7)
      obtain ⟨r0, r1, r2⟩ := hide (R6h.out.on b7 hR7)
      have l7h := hide l7
      have t7h := hide t7
      have v7h := hide v7
      clear l6 t6 v6 b7 l7 t7 v7 hw6 hA hR O6h R6h hO7 hR7
      by_cases hc : ck k s v = 0
      · have k4 : k = 1 ∨ k = 2 ∨ k = 3 ∨ k = 4 := by
          unfold ck at hc
          by_cases a1 : k = 1 ∨ k = 3
          · omega
          · by_cases a2 : k = 2 ∨ k = 4
            · omega
            · simp [a1, a2] at hc
        have hsl : (k = 1 ∨ k = 3 → 0 ≤ s ∧ s < 1024) := by
          intro hk
          unfold ck at hc
          by_cases a3 : s < 0 ∨ 1024 ≤ s
          · simp [hk, a3] at hc
          · omega
        rcases k4 with rfl | rfl | rfl | rfl
        · obtain ⟨sn, rfl⟩ : ∃ n : Nat, s = (n : Int) := ⟨s.toNat, by have := hsl (.inl rfl); omega⟩
          have hsn : sn < 1024 := by have := hsl (.inl rfl); omega
          have tc := t7h.out.cell (tk_get L hsn)
          have vc := v7h.out.cell (vl_get L hsn)
          cases hgx : gv L (sn : Int) with
          | some x =>
            rw [hgx] at tc vc
            dsimp only [Option.isSome, Option.getD] at tc vc
            have hw : wd L 1 (sn : Int) v = (2, (sn : Int), x) := by simp [wd, hc, hgx]
            have hq := hide (show dn L 1 (sn : Int) v = L by rw [hdh.out, hw]; simp)
            rw [hw] at r0 r1 r2
            simp only [hw]
            dsimp only at r0 r1 r2
            clear hw
            go_wp2
            go_quiet (fail)
            go_wp2
            go_round
            case rel => exact ⟨j + 1, by go_num, by rw [hth.out, hq.out], by omega, by rw [hth.out]; exact FSt.on ⟨l7h.out, by rw [hq.out]; exact t7h.out, by rw [hq.out]; exact v7h.out⟩ (belN (Below.refl _ w7) nq)⟩
            case measure => simp [intOf]; omega
          | none =>
            have hgn := hgx
            rw [hgx] at tc
            dsimp only [Option.isSome] at tc
            have hw : wd L 1 (sn : Int) v = (1, (sn : Int), v) := by simp [wd, hc, hgx]
            have hq := hide (show dn L 1 (sn : Int) v = ins ((sn : Int), v) L by rw [hdh.out, hw]; simp)
            rw [hw] at r0 r1 r2
            simp only [hw]
            dsimp only at r0 r1 r2
            have ft := t7h.out.free sn
            have fv := v7h.out.free sn
            clear hw
            go_wp2
            go_round
            case rel =>
              have uu : Upd (fun i => i = G ∨ i = H) w7 ((w7.setCell ⟨G, sn, none⟩ (.bool true)).setCell ⟨H, sn, none⟩ (.string v)) := ((Upd.refl _ w7).setCell (p := ⟨G, sn, none⟩) (.inl (.inl rfl)) _).setCell (p := ⟨H, sn, none⟩) (.inl (.inr rfl)) _
              refine ⟨j + 1, by go_num, by rw [hth.out, hq.out, len_ins]; simp, by omega, ?_⟩
              rw [hth.out]
              refine ⟨l7h.out.upd uu (fun k hk => ?_) (fun hk => ?_) (fun k hk => ?_), ?_, ?_⟩
              · rcases hk with rfl | rfl
                · exact hge.out.1
                · exact hge.out.2
              · rcases hk with e | e
                · exact hgb e.symm
                · exact hhb e.symm
              · rcases hk with rfl | rfl
                · exact arr_not_map t7h.out
                · exact arr_not_map v7h.out
              · rw [hq.out, ← tk_ins hgn]
                exact (t7h.out.set sn (.bool true)).upd (S := fun i => i = H) ((Upd.refl (fun i => i = H) _).setCell (p := ⟨H, sn, none⟩) (.inl rfl) _) hGH
              · rw [hq.out, ← vl_ins hgn]
                exact (v7h.out.upd (S := fun i => i = G) ((Upd.refl (fun i => i = G) w7).setCell (p := ⟨G, sn, none⟩) (.inl rfl) _) (Ne.symm hGH)).set sn (.string v)
            case measure => simp [intOf]; omega
        · by_cases hbh : bh L < 1024
          · obtain ⟨bn, hbn⟩ : ∃ n : Nat, bh L = (n : Int) := ⟨(bh L).toNat, by have := bh_nonneg L; omega⟩
            have hsn : bn < 1024 := by omega
            have hgn : gv L (bn : Int) = none := by rw [← hbn]; exact gv_bh L
            have tc := t7h.out.cell (tk_get L hsn)
            have vc := v7h.out.cell (vl_get L hsn)
            rw [hgn] at tc
            dsimp only [Option.isSome] at tc
            have hw : wd L 2 s v = (1, (bn : Int), v) := by simp [wd, hc, hbn]; omega
            have hq := hide (show dn L 2 s v = ins ((bn : Int), v) L by rw [hdh.out, hw]; simp)
            rw [hw] at r0 r1 r2
            simp only [hw]
            dsimp only at r0 r1 r2
            have ft := t7h.out.free bn
            have fv := v7h.out.free bn
            clear hw
            go_wp2
            go_round
            case rel =>
              have uu : Upd (fun i => i = G ∨ i = H) w7 ((w7.setCell ⟨G, bn, none⟩ (.bool true)).setCell ⟨H, bn, none⟩ (.string v)) := ((Upd.refl _ w7).setCell (p := ⟨G, bn, none⟩) (.inl (.inl rfl)) _).setCell (p := ⟨H, bn, none⟩) (.inl (.inr rfl)) _
              refine ⟨j + 1, by go_num, by rw [hth.out, hq.out, len_ins]; simp, by omega, ?_⟩
              rw [hth.out]
              refine ⟨l7h.out.upd uu (fun k hk => ?_) (fun hk => ?_) (fun k hk => ?_), ?_, ?_⟩
              · rcases hk with rfl | rfl
                · exact hge.out.1
                · exact hge.out.2
              · rcases hk with e | e
                · exact hgb e.symm
                · exact hhb e.symm
              · rcases hk with rfl | rfl
                · exact arr_not_map t7h.out
                · exact arr_not_map v7h.out
              · rw [hq.out, ← tk_ins hgn]
                exact (t7h.out.set bn (.bool true)).upd (S := fun i => i = H) ((Upd.refl (fun i => i = H) _).setCell (p := ⟨H, bn, none⟩) (.inl rfl) _) hGH
              · rw [hq.out, ← vl_ins hgn]
                exact (v7h.out.upd (S := fun i => i = G) ((Upd.refl (fun i => i = G) w7).setCell (p := ⟨G, bn, none⟩) (.inl rfl) _) (Ne.symm hGH)).set bn (.string v)
            case measure => simp [intOf]; omega
          · have hbl := hok.bh_le
            have hg23 : (gv L ((1023 : Nat) : Int)).isSome = true := by
              have hne : L ≠ [] := by rintro rfl; simp [bh] at hbh
              obtain ⟨p, hp, e⟩ := bh_mem (fun p hp => (hok.may p hp).1) hne
              have := gv_of_mem hok.up hp
              rw [show p.1 = ((1023 : Nat) : Int) by omega] at this
              rw [this]; rfl
            have tc := t7h.out.cell (tk_get L (show 1023 < 1024 by omega))
            rw [hg23] at tc
            have hw : wd L 2 s v = (3, 0, ByteArray.empty) := by simp [wd, hc, hbh]
            have hq := hide (show dn L 2 s v = L by rw [hdh.out, hw]; simp)
            rw [hw] at r0 r1 r2
            simp only [hw]
            dsimp only at r0 r1 r2
            clear hw
            go_wp2
            go_round
            case rel => exact ⟨j + 1, by go_num, by rw [hth.out, hq.out], by omega, by rw [hth.out]; exact ⟨l7h.out, by rw [hq.out]; exact t7h.out, by rw [hq.out]; exact v7h.out⟩⟩
            case measure => simp [intOf]; omega
        · obtain ⟨sn, rfl⟩ : ∃ n : Nat, s = (n : Int) := ⟨s.toNat, by have := hsl (.inr rfl); omega⟩
          have hsn : sn < 1024 := by have := hsl (.inr rfl); omega
          have tc := t7h.out.cell (tk_get L hsn)
          have vc := v7h.out.cell (vl_get L hsn)
          cases hgx : gv L (sn : Int) with
          | some x =>
            rw [hgx] at tc vc
            dsimp only [Option.isSome, Option.getD] at tc vc
            have hw : wd L 3 (sn : Int) v = (4, (sn : Int), x) := by simp [wd, hc, hgx]
            have hq := hide (show dn L 3 (sn : Int) v = L by rw [hdh.out, hw]; simp)
            rw [hw] at r0 r1 r2
            simp only [hw]
            dsimp only at r0 r1 r2
            clear hw
            go_wp2
            go_quiet (fail)
            go_wp2
            go_round
            case rel => exact ⟨j + 1, by go_num, by rw [hth.out, hq.out], by omega, by rw [hth.out]; exact FSt.on ⟨l7h.out, by rw [hq.out]; exact t7h.out, by rw [hq.out]; exact v7h.out⟩ (belN (Below.refl _ w7) nq)⟩
            case measure => simp [intOf]; omega
          | none =>
            rw [hgx] at tc
            dsimp only [Option.isSome] at tc
            have hw : wd L 3 (sn : Int) v = (5, (sn : Int), ByteArray.empty) := by simp [wd, hc, hgx]
            have hq := hide (show dn L 3 (sn : Int) v = L by rw [hdh.out, hw]; simp)
            rw [hw] at r0 r1 r2
            simp only [hw]
            dsimp only at r0 r1 r2
            clear hw
            go_wp2
            go_round
            case rel => exact ⟨j + 1, by go_num, by rw [hth.out, hq.out], by omega, by rw [hth.out]; exact ⟨l7h.out, by rw [hq.out]; exact t7h.out, by rw [hq.out]; exact v7h.out⟩⟩
            case measure => simp [intOf]; omega
        · have hw : wd L 4 s v = (6, (L.length : Int), ByteArray.empty) := by simp [wd, hc]
          have hq := hide (show dn L 4 s v = L by rw [hdh.out, hw]; simp)
          rw [hw] at r0 r1 r2
          simp only [hw]
          dsimp only at r0 r1 r2
          clear hw
          go_wp2
          go_round
          case rel => exact ⟨j + 1, by go_num, by rw [hth.out, hq.out], by omega, by rw [hth.out]; exact ⟨l7h.out, by rw [hq.out]; exact t7h.out, by rw [hq.out]; exact v7h.out⟩⟩
          case measure => simp [intOf]; omega
      · have hw : wd L k s v = (0, 0, ByteArray.empty) := by simp [wd, hc]
        have hq := hide (show dn L k s v = L by rw [hdh.out, hw]; simp)
        rw [hw] at r0 r1 r2
        simp only [hw]
        dsimp only at r0 r1 r2
        have bc' : (ck k s v != 0) = true := by simp [hc]
        have nq0 := fun W => neq_same (0, 0, ByteArray.empty) W
        dsimp only at nq0
        clear hw
        go_wp2
        go_round
        case rel => exact ⟨j + 1, by go_num, by rw [hth.out, hq.out], by omega, by rw [hth.out]; exact ⟨l7h.out, by rw [hq.out]; exact t7h.out, by rw [hq.out]; exact v7h.out⟩⟩
        case measure => simp [intOf]; omega
    · obtain rfl : j = P.length := by omega
      rw [List.take_of_length_le (Nat.le_refl _)] at F ⊢
      generalize pl [] P = L at *
      go_wp2
      go_loopw [10, 11, 12] (fun i _ _ ws => ∃ k : Nat, i = .int .i64 (k : Int) ∧ k ≤ 1024 ∧ FSt w.heap.size w ws w.heap.size G H L) (fun i _ _ _ => 1024 - (intOf i).toNat)
      case atStart => exact ⟨0, rfl, Nat.zero_le _, F⟩
      case round =>
        obtain ⟨k, rfl, hk, F2⟩ := hrel
        by_cases hlt2 : k < 1024
        · have cg := get_b w.heap.size w w.heap.size L (k : Int) (wf_i64 (by omega)) wr F2.led
          have F2h := hide F2
          have tc := F2.tk.cell (tk_get L hlt2)
          have vc := F2.vl.cell (vl_get L hlt2)
          have hgl := F2.tk.lt
          have hhl := F2.vl.lt
          cases hgk : gv L (k : Int) with
          | none =>
            rw [hgk] at cg tc vc
            dsimp only [Option.isSome, Option.getD] at cg tc vc
            clear F2
            go_wp2_with (go_at_call 29; refine cg.mono ?_; rintro e w5 ⟨rfl, b5⟩; have tc5 := (b5.cell (p := ⟨G, k, none⟩) hgl).trans tc; have vc5 := (b5.cell (p := ⟨H, k, none⟩) hhl).trans vc)
            go_round
            case rel => exact ⟨k + 1, by go_num, by omega, F2h.out.on b5⟩
            case measure => simp [intOf]; omega
          | some x =>
            rw [hgk] at cg tc vc
            dsimp only [Option.isSome, Option.getD] at cg tc vc
            clear F2
            go_wp2_with (go_at_call 29; refine cg.mono ?_; rintro e w5 ⟨rfl, b5⟩; have tc5 := (b5.cell (p := ⟨G, k, none⟩) hgl).trans tc; have vc5 := (b5.cell (p := ⟨H, k, none⟩) hhl).trans vc)
            go_round
            case rel => exact ⟨k + 1, by go_num, by omega, F2h.out.on b5⟩
            case measure => simp [intOf]; omega
        · obtain rfl : k = 1024 := by omega
          have cl := len_b w.heap.size w w.heap.size L wr F2.led
          have F2h := hide F2
          clear F2
          go_wp2_with (go_at_call 30; refine cl.mono ?_; rintro e w5 ⟨rfl, h5⟩; subst h5)
          go_ret
          exact ⟨rfl, F2h.out.led.bel⟩

theorem first_came (a : Option Addr) (len cap : Nat) (W : World) (h : CameO W a len cap) :
    Calls Try.prog 7 #[.slice a len cap] W fun e w' => e = .returned (.bool true) ∧ Below W.heap.size W w' := by
  obtain ⟨P, rfl, hP, hf, hl, _, _⟩ := h
  exact first_walk P a cap W hP hf hl

end Go.Proofs.Ytacalgpdhgpmbaa
