import Derived.Test.YtcchnaldanibgaaXc
import Derived.Test.YtcchnaldanibgaaVs
namespace Go.Proofs.Ytcchnaldanibgaa
open Go.RowKit
set_option linter.unusedVariables false
set_option linter.unusedSimpArgs false

theorem wp_region_quietC' {P : Program} {C : World → Prop} {id : Nat} {Q : Exit → Act → World → Prop} {a : Act} {w : World} {l : List Oper} (hm : P.follows .mixedOrders = true) (hB : Region.lexB .any l.toArray = true) (hC : C w.drew)
    (h : wpQuiet P l.toArray C (fun a' => ∀ w', C w' → Q .normal a' w') l a) : (Code.region id l.toArray true).wp P Q a w :=
  wp_region_quiet (C := C) hm hB hC (by simpa using h)
/-- Behind the growing of the first j lists (w2: the world ahead of it). -/
structure PG (w : World) (L : List Ent) (w2 : World) (j : Nat) (v : Value) (Gs : List Vec) (ws : World) : Prop where
  len : Gs.length = j
  own : OwnV w2.heap.size ws v Gs
  upd : Upd (bls L) w ws
  size : w2.heap.size ≤ ws.heap.size
  each : ∀ (t : Nat) (x : Vec), Gs[t]? = some x → ∃ e g', L[t]? = some e ∧ x.D = mkL t (e.n + 70) ∧ x.a = some ⟨g', 0, none⟩ ∧ (g' = e.g ∨ w2.heap.size ≤ g') ∧ OwnD 0 ws (.slice (some ⟨g', 0, none⟩) x.D.length x.c) x.D
  mks : ∀ (t : Nat) (e : Ent), L[t]? = some e → Sh ws e t ∧ (j ≤ t → Mk ws e t e.n)
/-- Behind m growings of one list. -/
structure PI (wi : World) (y : Ent) (t m : Nat) (v : Value) (ws : World) : Prop where
  own : OwnD 0 ws v (mkL t (y.n + m))
  at_ : ∃ g, v.ownBlock = some g ∧ (g = y.g ∨ wi.heap.size ≤ g)
  upd : Upd (· = y.g) wi ws
  sh : Sh ws y t
theorem mkL_ne {i n : Nat} (h : 0 < n) : mkL i n ≠ [] := fun e => by
  have := congrArg List.length e
  rw [mkL_length] at this
  simp at this
  omega
theorem PI.step {wi : World} {y : Ent} {t m : Nat} {v v' : Value} {wr wa w' : World} (h : PI wi y t m v wr) (b : Below wr.heap.size wr wa) (o : OwnD 0 w' v' (mkL t (y.n + m) ++ [((mkD t (y.n + m)).1, (mkD t (y.n + m)).2)])) (hg : wa.grownBy w' v.ownBlock) (ha : v'.ownBlock = v.ownBlock ∨ ∃ k, v'.ownBlock = some k ∧ wa.heap.size ≤ k ∧ Below wa.heap.size wa w') : PI wi y t (m + 1) v' w' := by
  have o2 : OwnD 0 w' v' (mkL t (y.n + m + 1)) := by rw [mkL_succ]; exact o
  obtain ⟨g, e1, e2⟩ := h.at_
  have ua : Upd (· = y.g) wi wa := h.upd.trans (Upd.of_below b)
  have sa : Sh wa y t := h.sh.upd (S := fun _ => False) (Upd.of_below b) id
  refine ⟨o2, ?_, ua.grownBy hg (fun k hk hlt => ?_), ?_⟩
  · rcases ha with ha | ⟨k, k1, k2, _⟩
    · exact ⟨g, ha.trans e1, e2⟩
    · exact ⟨k, k1, .inr (Nat.le_trans ua.size k2)⟩
  · rw [e1] at hk
    cases hk
    rcases e2 with e2 | e2
    · exact e2
    · omega
  · rcases ha with ha | ⟨k, k1, k2, k3⟩
    · by_cases hgy : g = y.g
      · subst hgy
        obtain ⟨a, c, hf, _⟩ := o2.form
        rw [e1] at ha
        subst hf
        match a, ha with
        | some x, ha =>
          obtain ⟨a', c', hf', _, _, _, hx⟩ := o2.form
          injection hf' with f1 f2 f3
          obtain ⟨g2, hx2, _⟩ := hx x f1.symm
          subst hx2
          have : g2 = y.g := Option.some.inj ha
          subst this
          exact Sh.of o2 (fun t' ht' => mkL_at _ _ _ (by omega))
      · exact sa.upd (upd_grown hg (S := fun k => v.ownBlock = some k) (fun k hk => hk)) (fun e => by rw [e1] at e; exact hgy (Option.some.inj e))
    · exact sa.upd (S := fun _ => False) (Upd.of_below k3) id
theorem PG.step {w : World} {L : List Ent} {w2 : World} {t : Nat} {v v' : Value} {Gs : List Vec} {wi wr wa w' : World} {y : Ent} {g c n : Nat} (h : PG w L w2 t v Gs wi) (p : PI wi y t 70 (.slice (some ⟨g, 0, none⟩) n c) wr) (hy : L[t]? = some y) (YL : ∀ (s : Nat) (e : Ent), L[s]? = some e → e.g < w2.heap.size) (dif : ∀ (i j : Nat) (e f : Ent), L[i]? = some e → L[j]? = some f → e.g = f.g → i = j) (hu : Upd (bls L) w w2)
    (b : Below wr.heap.size wr wa) (o : OwnV w2.heap.size w' v' (Gs ++ [⟨some ⟨g, 0, none⟩, c, mkL t (y.n + 70)⟩])) (hg : wa.grownBy w' v.ownBlock) (ov : OwnV w2.heap.size wa v Gs) : PG w L w2 (t + 1) v' (Gs ++ [⟨some ⟨g, 0, none⟩, c, mkL t (y.n + 70)⟩]) w' := by
  have ug := upd_grown hg (S := fun k => v.ownBlock = some k) (fun k hk => hk)
  have hgo : ∀ (s : Nat) (e : Ent), L[s]? = some e → ¬ v.ownBlock = some e.g := fun s e he hh => by
    have h1 := (ov.blk e.g hh).1
    have h2 := YL s e he
    omega
  have hn : n = (mkL t (y.n + 70)).length := by
    obtain ⟨a', c', hf', _⟩ := p.own.form
    injection hf' with f1 f2 f3
  refine ⟨by rw [List.length_append, h.len]; rfl, o, ?_, ?_, fun s x hx => ?_, fun s e he => ?_⟩
  · have u1 : Upd (bls L) w wr := h.upd.trans (p.upd.mono (fun k _ hk => ⟨y, List.mem_of_getElem? hy, hk⟩))
    exact (u1.trans (Upd.of_below b)).grownBy hg (fun k hk hlt => by
      have h1 := (ov.blk k hk).1
      have h2 := hu.size
      omega)
  · exact Nat.le_trans h.size (Nat.le_trans p.upd.size (Nat.le_trans b.size ug.size))
  · by_cases hs : s < t
    · rw [List.getElem?_append_left (by rw [h.len]; exact hs)] at hx
      obtain ⟨e, g', k1, k2, k3, k4, k5⟩ := h.each s x hx
      refine ⟨e, g', k1, k2, k3, k4, ?_⟩
      have m1 := k5.upd2 p.upd (fun k hk e' => by
        cases hk
        rcases k4 with k4 | k4
        · have := dif s t e y k1 hy (k4.symm.trans e')
          omega
        · have := YL t y hy
          have e'' : g' = y.g := e'
          omega)
      exact (m1.bel b (Nat.le_refl _)).grownV ov hg
    · have hst : s = t := by
        have := (List.getElem?_eq_some_iff.1 hx).1
        rw [List.length_append, h.len] at this
        simp at this
        omega
      subst hst
      rw [List.getElem?_append_right (by rw [h.len]; exact Nat.le_refl _), h.len, Nat.sub_self] at hx
      simp at hx
      subst hx
      obtain ⟨g', q1, q2⟩ := p.at_
      cases q1
      refine ⟨y, g, hy, rfl, rfl, ?_, ?_⟩
      · rcases q2 with q2 | q2
        · exact .inl q2
        · exact .inr (Nat.le_trans h.size q2)
      · show OwnD 0 w' (.slice (some ⟨g, 0, none⟩) (mkL s (y.n + 70)).length c) (mkL s (y.n + 70))
        rw [← hn]
        exact (p.own.bel b (Nat.le_refl _)).grownV ov hg
  · have sa : Sh wa e s := by
      by_cases hst : s = t
      · subst hst
        rw [hy] at he
        cases he
        exact p.sh.upd (S := fun _ => False) (Upd.of_below b) id
      · exact ((h.mks s e he).1.upd p.upd (fun e' => hst (dif s t e y he hy e'))).upd (S := fun _ => False) (Upd.of_below b) id
    refine ⟨sa.upd ug (hgo s e he), fun hts => ?_⟩
    have hst : s ≠ t := by omega
    exact ((((h.mks s e he).2 (by omega)).upd p.upd (fun e' => hst (dif s t e y he hy e'))).bel b).upd ug (hgo s e he)
set_option maxRecDepth 100000 in
set_option maxHeartbeats 2000000 in
theorem apartvec_any (b q c n : Nat) (L : List Ent) (w : World) (hc : w.cell? ⟨b, 2, none⟩ = some (.slice (some ⟨q, 0, none⟩) n c)) (hn : L.length = n) (hn0 : n ≤ c) (hn1 : c ≤ maxLen) (h : LB w q L) (own : ∀ i e, L[i]? = some e → Mk w e i 0) :
    Calls Try.prog 58 #[.pointer (some ⟨b, 0, none⟩)] w fun e w' => e = .returned (.bool true) ∧ Upd (bls L) w w' := by
  have LBH := hide h
  have HN := hide hn
  have hq := h.lt
  have hl := h.len
  unfold maxLen at hn1
  rw [hn] at hl
  clear h hn
  go_enter Try.func58, Try.ntmps58
  go_wp2
  go_loopw [4] (fun i wr => ∃ j : Nat, i = .int .i64 (j : Int) ∧ j ≤ n ∧ Upd (bls L) w wr ∧ ∀ t e, L[t]? = some e → Mk wr e t (if t < j then e.n else 0)) (fun i _ => n - (intOf i).toNat)
  case atStart => exact ⟨0, rfl, Nat.zero_le _, Upd.refl _ _, fun t e ht => by rw [if_neg (by omega)]; exact own t e ht⟩
  case round =>
    obtain ⟨j, rfl, hj, hu, hm⟩ := hrel
    have HM := hide hm
    clear hm
    by_cases hlt : j < n
    · obtain ⟨y, hy⟩ : ∃ y, L[j]? = some y := ⟨_, List.getElem?_eq_getElem (by rw [HN.out]; exact hlt)⟩
      have r0 := (LBH.out.upd hu).row j y hy
      obtain ⟨_, y0, y1⟩ := LBH.out.out j y hy
      have HY := hide hy
      have cp := (HM.out j y hy).cap
      unfold maxLen at cp
      obtain ⟨cp1, cp2⟩ := cp
      have hqr : q < wr.heap.size := Nat.lt_of_lt_of_le hq hu.size
      clear hy
      go_wp2
      go_loopw [5] (fun i ws => ∃ k : Nat, i = .int .i64 (k : Int) ∧ k ≤ y.n ∧ Upd (bls L) w ws ∧ Mk ws y j k ∧ ∀ t e, t ≠ j → L[t]? = some e → Mk ws e t (if t < j then e.n else 0)) (fun i _ => y.n - (intOf i).toNat)
      case atStart => exact ⟨0, rfl, Nat.zero_le _, hu, (HM.out j y HY.out).zero j, fun t e _ ht => HM.out t e ht⟩
      case round =>
        obtain ⟨k, rfl, hk, hu2, hm2, hm3⟩ := hrel
        have r1 := (LBH.out.upd hu2).row j y HY.out
        by_cases hlt2 : k < y.n
        · have M3 := hide hm3
          have M2 := hide hm2
          have hyS : bls L y.g := ⟨y, List.mem_of_getElem? HY.out, rfl⟩
          have KS : Hid (∀ v, Below wr.heap.size wr v → (Upd (bls L) w v ∧ v.cell? ⟨q, j, none⟩ = some (.slice (some ⟨y.g, 0, none⟩) y.n y.c) ∧ v.cell? ⟨y.g, k * 2, none⟩ = some (.int .u64 (cellOf v ⟨y.g, k * 2, none⟩)) ∧ v.cell? ⟨y.g, k * 2 + 1, none⟩ = some (.int .u64 (cellOf v ⟨y.g, k * 2 + 1, none⟩)) ∧ v.frozen? ⟨y.g, k * 2, none⟩ = false ∧ v.frozen? ⟨y.g, k * 2 + 1, none⟩ = false)) := fun v bv => Mk.held LBH.out HY.out (hu2.trans (Upd.of_below bv)) (M2.out.bel bv) hlt2
          have KS2 : Hid (∀ v, Below wr.heap.size wr v → _) := fun v bv => Mk.held (k := k) LBH.out HY.out ((hu2.trans (Upd.of_below bv)).sets hyS (k * 2) (k * 2 + 1) (.int .u64 (mkD j k).1) (.int .u64 (mkD j k).2)) ((M2.out.bel bv).set hlt2) hlt2
          have bd := (Below.refl wr.heap.size wr).drew
          clear hm2 hm3
          go_wp2_with fail
          go_region_held3 (fun v => Upd (bls L) w v ∧ v.cell? ⟨q, j, none⟩ = some (.slice (some ⟨y.g, 0, none⟩) y.n y.c) ∧ v.cell? ⟨y.g, k * 2, none⟩ = some (.int .u64 (cellOf v ⟨y.g, k * 2, none⟩)) ∧ v.cell? ⟨y.g, k * 2 + 1, none⟩ = some (.int .u64 (cellOf v ⟨y.g, k * 2 + 1, none⟩)) ∧ v.frozen? ⟨y.g, k * 2, none⟩ = false ∧ v.frozen? ⟨y.g, k * 2 + 1, none⟩ = false)
            (first | exact KS.out _ bd | exact KS.out _ (by assumption) | exact KS2.out _ (by assumption))
            (first
              | (go_at_call 76; refine (markdraw_any j k _ (by omega) (by omega)).mono ?_; rintro e v ⟨rfl, bv⟩; have bb : Below wr.heap.size wr v := Below.on (Nat.le_refl _) (by first | assumption | exact bd) bv; clear bv))
          have hu3 := (hu2.trans (Upd.of_below bb)).sets hyS (k * 2) (k * 2 + 1) (.int .u64 (mkD j k).1) (.int .u64 (mkD j k).2)
          have hm3 := (M2.out.bel bb).set hlt2
          have hm4 : ∀ t e, t ≠ j → L[t]? = some e → Mk ((v.setCell ⟨y.g, k * 2, none⟩ (.int .u64 (mkD j k).1)).setCell ⟨y.g, k * 2 + 1, none⟩ (.int .u64 (mkD j k).2)) e t (if t < j then e.n else 0) := fun t e ht he => by
            have hne : e.g ≠ y.g := fun hh => ht (LBH.out.dif t j e y he HY.out hh)
            exact (((M3.out t e ht he).bel bb).other (p := ⟨y.g, k * 2, none⟩) hne _).other (p := ⟨y.g, k * 2 + 1, none⟩) hne _
          clear KS KS2 M2 M3
          go_wp2
          go_round
          case rel => exact ⟨k + 1, by go_num, by omega, hu3, hm3, hm4⟩
          case measure => simp [intOf]; omega
        · obtain rfl : k = y.n := by omega
          have M3 := hide hm3
          have M2 := hide hm2
          clear hm2 hm3
          go_wp2
          go_round
          case rel =>
            refine ⟨j + 1, by go_num, by omega, hu2, fun t e ht => ?_⟩
            by_cases h1 : t = j
            · subst h1
              rw [if_pos (by omega)]
              have := HY.out
              rw [ht] at this
              cases this
              exact M2.out
            · have := M3.out t e h1 ht
              by_cases h2 : t < j
              · rw [if_pos h2] at this
                rw [if_pos (by omega)]
                exact this
              · rw [if_neg h2] at this
                rw [if_neg (by omega)]
                exact this
          case measure => simp [intOf]; omega
    · obtain rfl : j = n := by omega
      have M1 : Hid (∀ t e, L[t]? = some e → Mk wr e t e.n) := fun t e ht => by
        have := HM.out t e ht
        have hlt3 := (List.getElem?_eq_some_iff.1 ht).1
        rw [HN.out] at hlt3
        rw [if_pos hlt3] at this
        exact this
      clear HM own hc
      obtain ⟨w2, hw2⟩ : ∃ w2, w2 = wr := ⟨_, rfl⟩
      subst hw2
      go_wp2
      go_loopw [7, 6] (fun i v ws => ∃ t : Nat, i = .int .i64 (t : Int) ∧ t ≤ j ∧ ∃ Gs, PG w L w2 t v Gs ws) (fun i _ _ => j - (intOf i).toNat)
      case atStart => exact ⟨0, rfl, Nat.zero_le _, [], rfl, OwnV.nil _ _, hu, Nat.le_refl _, (fun t x hx => by cases hx), fun t e ht => ⟨(M1.out t e ht).sh, fun _ => M1.out t e ht⟩⟩
      case round =>
        obtain ⟨t, rfl, ht, Gs, ph⟩ := hrel
        have PP := hide ph
        have hu1 := ph.upd
        clear ph
        by_cases hlt2 : t < j
        · obtain ⟨y, hy⟩ : ∃ y, L[t]? = some y := ⟨_, List.getElem?_eq_getElem (by rw [HN.out]; exact hlt2)⟩
          have r0 := (LBH.out.upd hu1).row t y hy
          obtain ⟨_, y0, y1⟩ := LBH.out.out t y hy
          have HY := hide hy
          have mk := (PP.out.mks t y hy).2 (Nat.le_refl _)
          have OW := hide mk.own
          have SH := hide mk.sh
          have cp := mk.cap
          unfold maxLen at cp
          obtain ⟨cp1, cp2⟩ := cp
          have hqr : q < wr.heap.size := Nat.lt_of_lt_of_le hq hu1.size
          obtain ⟨wi, hwi⟩ : ∃ wi, wi = wr := ⟨_, rfl⟩
          subst hwi
          clear hy mk
          go_wp2
          go_loopw [9, 8] (fun i v ws => ∃ m : Nat, i = .int .i64 (m : Int) ∧ m ≤ 70 ∧ PI wi y t m v ws) (fun i _ _ => 70 - (intOf i).toNat)
          case atStart => exact ⟨0, rfl, by omega, OW.out, ⟨y.g, rfl, .inl rfl⟩, Upd.refl _ _, SH.out⟩
          case round =>
            obtain ⟨m, rfl, hm, pi⟩ := hrel
            have PJ := hide pi
            obtain ⟨a8, c8, hv8, k8, k8', _⟩ := pi.own.form
            rw [mkL_length] at hv8 k8
            unfold maxLen at k8'
            subst hv8
            clear pi
            by_cases hlt3 : m < 70
            · have MD : Hid (Calls Try.prog 76 #[.int .i64 (t : Int), .int .i64 ((y.n : Int) + (m : Int))] wr fun e w' => e = .returned (.agg #[.int .u64 (mkD t (y.n + m)).1, .int .u64 (mkD t (y.n + m)).2]) ∧ Below wr.heap.size wr w') := by
                have := markdraw_any t (y.n + m) wr (by omega) (by omega)
                rw [Int.natCast_add] at this
                exact this
              go_wp2_with fail
              refine MD.out.mono ?_
              rintro e w3 ⟨rfl, b3⟩
              have b4 : Below wr.heap.size wr (w3.alloc (.cells #[.int .u64 (mkD t (y.n + m)).1, .int .u64 (mkD t (y.n + m)).2] 26)) := b3.alloc b3.size _
              have HO := hide (PJ.out.own.bel b4 (Nat.le_refl _))
              go_wp2_with (at_builtin; go_must (refine app_drawN _ rfl _ _ rfl 0 (mkL t (y.n + m)) _ rfl ⟨w3.heap.size, 0, none⟩ rfl (mkD t (y.n + m)).1 (mkD t (y.n + m)).2 (by simp) (by simp [Addr.add]) HO.out (Nat.zero_le _) (by rw [mkL_length]; omega) (mkL_ne (by omega)) ?_))
              intro v' w4 o4 g4 at4
              have pj := PJ.out.step b4 o4 g4 (by simpa using at4)
              clear HO MD o4 g4 at4 PJ
              go_wp2
              go_round
              case rel => exact ⟨m + 1, by go_num, by omega, pj⟩
              case measure => simp [intOf]; omega
            · obtain rfl : m = 70 := by omega
              obtain ⟨g8, hg8, _⟩ := PJ.out.at_
              obtain ⟨x8, rfl⟩ : ∃ x8, a8 = some x8 := by
                match a8, hg8 with
                | some x8, _ => exact ⟨x8, rfl⟩
              obtain ⟨g9, hx8⟩ : ∃ g9, x8 = ⟨g9, 0, none⟩ := by
                obtain ⟨a', c', hf', _, _, _, hx⟩ := PJ.out.own.form
                injection hf' with f1 f2 f3
                obtain ⟨g2, hx2, _⟩ := hx x8 f1.symm
                exact ⟨g2, hx2⟩
              subst hx8
              have YL : ∀ (s : Nat) (e : Ent), L[s]? = some e → e.g < w2.heap.size := fun s e he => (M1.out s e he).lt
              have b5 : Below wr.heap.size wr (wr.alloc (.cells #[.slice (some ⟨g9, 0, none⟩) (y.n + 70) c8] 23)) := (Below.refl _ _).alloc (Nat.le_refl _) _
              have OV := hide ((PP.out.own.upd PJ.out.upd (fun k hk e => by have := YL t y HY.out; subst e; omega)).bel b5 (Nat.le_refl _))
              have hs7 := PP.out.size
              have hs8 := PJ.out.upd.size
              have GLn := hide PP.out.len
              clear hg8
              go_wp2_with (at_builtin; go_must (refine app_vec _ rfl _ _ rfl w2.heap.size Gs _ rfl ⟨wr.heap.size, 0, none⟩ rfl ⟨some ⟨g9, 0, none⟩, c8, mkL t (y.n + 70)⟩ (by rw [mkL_length]; simp) OV.out (by simp; omega) (by rw [GLn.out]; omega) ?_))
              intro v' w4 o4 g4
              have pg := PP.out.step PJ.out HY.out YL LBH.out.dif hu b5 o4 g4 OV.out
              clear OV o4 g4 PJ PP YL
              go_wp2
              go_round
              case rel => exact ⟨t + 1, by go_num, by omega, _, pg⟩
              case measure => simp [intOf]; omega
        · obtain rfl : t = j := by omega
          obtain ⟨a3, c3, hv3, m3, m3', p3⟩ := PP.out.own.form'
          rw [PP.out.len] at hv3 m3
          unfold maxLen at m3'
          subst hv3
          have P3 := hide p3
          clear p3
          obtain ⟨w5, hw5⟩ : ∃ w5, w5 = wr := ⟨_, rfl⟩
          subst hw5
          go_wp2
          go_loopw [10] (fun i ws => ∃ s : Nat, i = .int .i64 (s : Int) ∧ s ≤ t ∧ Below w5.heap.size w5 ws) (fun i _ => t - (intOf i).toNat)
          case atStart => exact ⟨0, rfl, Nat.zero_le _, Below.refl _ _⟩
          case round =>
            obtain ⟨s, rfl, hs, hb⟩ := hrel
            by_cases hlt3 : s < t
            · obtain ⟨x, hx⟩ : ∃ x, Gs[s]? = some x := ⟨_, List.getElem?_eq_getElem (by rw [PP.out.len]; exact hlt3)⟩
              obtain ⟨y, g', hy, hxD, hxa, _, hxo⟩ := PP.out.each s x hx
              obtain ⟨g3, rfl, _, hg3⟩ := P3.out (by rintro rfl; simp at hx)
              have r3 := PP.out.own.cell s x hx
              rw [hxD, mkL_length, hxa] at r3
              rw [hxD, mkL_length] at hxo
              have r1 := (LBH.out.upd hu1).row s y hy
              obtain ⟨_, y0, y1⟩ := LBH.out.out s y hy
              have hqr : q < w5.heap.size := Nat.lt_of_lt_of_le hq hu1.size
              have XO := hide hxo
              have SHY := hide (PP.out.mks s y hy).1
              have hgl := (hxo.blk g' rfl).2
              obtain ⟨_, cx, hfx, hc1, hc2, _⟩ := hxo.form
              rw [mkL_length] at hfx hc1
              injection hfx with f1 f2 f3
              subst f3
              clear f1 f2
              unfold maxLen at hc2
              have hgy := SHY.out.1
              generalize x.c = xc at *
              clear hx hxD hxa hxo
              have q3 := (hb.cell (p := ⟨g3, s, none⟩) hg3).trans r3
              go_wp2
              go_loopw [11] (fun i ws => ∃ k : Nat, i = .int .i64 (k : Int) ∧ k ≤ y.n + 70 ∧ Below w5.heap.size w5 ws) (fun i _ => y.n + 70 - (intOf i).toNat)
              case atStart => exact ⟨0, rfl, Nat.zero_le _, hb⟩
              case round =>
                obtain ⟨k, rfl, hk, hb2⟩ := hrel
                have q4 := (hb2.cell (p := ⟨g3, s, none⟩) hg3).trans r3
                by_cases hlt4 : k < y.n + 70
                · have MD : Hid (∀ v, Calls Try.prog 76 #[.int .i64 (s : Int), .int .i64 (k : Int)] v fun e w' => e = .returned (.agg #[.int .u64 (mkD s k).1, .int .u64 (mkD s k).2]) ∧ Below v.heap.size v w') := fun v => markdraw_any s k v (by omega) (by omega)
                  obtain ⟨e0, e1⟩ := XO.out.cell k (mkD s k) (mkL_at _ _ _ hlt4)
                  have bd := hb2.drew
                  by_cases hlt5 : k < y.n
                  · obtain ⟨e2, e3⟩ := SHY.out.2 k hlt5
                    generalize (mkD s k).1 = h0 at *
                    generalize (mkD s k).2 = l0 at *
                    have KS : Hid (∀ v, Below w5.heap.size w5 v → (Below w5.heap.size w5 v ∧ v.cell? ⟨g3, s, none⟩ = some (.slice (some ⟨g', 0, none⟩) (y.n + 70) xc) ∧ v.cell? ⟨g', k * 2, none⟩ = some (.int .u64 h0) ∧ v.cell? ⟨g', k * 2 + 1, none⟩ = some (.int .u64 l0) ∧ v.cell? ⟨q, s, none⟩ = some (.slice (some ⟨y.g, 0, none⟩) y.n y.c) ∧ v.cell? ⟨y.g, k * 2, none⟩ = some (.int .u64 h0) ∧ v.cell? ⟨y.g, k * 2 + 1, none⟩ = some (.int .u64 l0))) := fun v bv =>
                      ⟨bv, (bv.cell (p := ⟨g3, s, none⟩) hg3).trans r3, (bv.cell (p := ⟨g', k * 2, none⟩) hgl).trans e0, (bv.cell (p := ⟨g', k * 2 + 1, none⟩) hgl).trans e1, (bv.cell (p := ⟨q, s, none⟩) hqr).trans r1, (bv.cell (p := ⟨y.g, k * 2, none⟩) hgy).trans e2, (bv.cell (p := ⟨y.g, k * 2 + 1, none⟩) hgy).trans e3⟩
                    clear e0 e1 e2 e3 r1 r3 q3 PP P3 M1 LBH XO SHY HN
                    go_wp2_with fail
                    go_region_held3 (fun v => Below w5.heap.size w5 v ∧ v.cell? ⟨g3, s, none⟩ = some (.slice (some ⟨g', 0, none⟩) (y.n + 70) xc) ∧ v.cell? ⟨g', k * 2, none⟩ = some (.int .u64 h0) ∧ v.cell? ⟨g', k * 2 + 1, none⟩ = some (.int .u64 l0) ∧ v.cell? ⟨q, s, none⟩ = some (.slice (some ⟨y.g, 0, none⟩) y.n y.c) ∧ v.cell? ⟨y.g, k * 2, none⟩ = some (.int .u64 h0) ∧ v.cell? ⟨y.g, k * 2 + 1, none⟩ = some (.int .u64 l0))
                      (first | exact KS.out _ bd | exact KS.out _ (by assumption))
                      (first
                        | (go_at_call 76; refine (MD.out _).mono ?_; rintro e v ⟨rfl, bv⟩; have bb : Below w5.heap.size w5 v := Below.on (Nat.le_refl _) (by first | assumption | exact bd) bv; clear bv))
                    clear KS MD
                    go_wp2
                    go_round
                    case rel => exact ⟨k + 1, by go_num, by omega, bb⟩
                    case measure => simp [intOf]; omega
                  · have f5 : decide ((k : Int) < (y.n : Int)) = false := by simp; omega
                    generalize (mkD s k).1 = h0 at *
                    generalize (mkD s k).2 = l0 at *
                    have KS : Hid (∀ v, Below w5.heap.size w5 v → (Below w5.heap.size w5 v ∧ v.cell? ⟨g3, s, none⟩ = some (.slice (some ⟨g', 0, none⟩) (y.n + 70) xc) ∧ v.cell? ⟨g', k * 2, none⟩ = some (.int .u64 h0) ∧ v.cell? ⟨g', k * 2 + 1, none⟩ = some (.int .u64 l0) ∧ v.cell? ⟨q, s, none⟩ = some (.slice (some ⟨y.g, 0, none⟩) y.n y.c))) := fun v bv =>
                      ⟨bv, (bv.cell (p := ⟨g3, s, none⟩) hg3).trans r3, (bv.cell (p := ⟨g', k * 2, none⟩) hgl).trans e0, (bv.cell (p := ⟨g', k * 2 + 1, none⟩) hgl).trans e1, (bv.cell (p := ⟨q, s, none⟩) hqr).trans r1⟩
                    clear e0 e1 r1 r3 q3 PP P3 M1 LBH XO SHY HN
                    go_wp2_with fail
                    refine wp_region_quietC' (C := fun v => Below w5.heap.size w5 v ∧ v.cell? ⟨g3, s, none⟩ = some (.slice (some ⟨g', 0, none⟩) (y.n + 70) xc) ∧ v.cell? ⟨g', k * 2, none⟩ = some (.int .u64 h0) ∧ v.cell? ⟨g', k * 2 + 1, none⟩ = some (.int .u64 l0) ∧ v.cell? ⟨q, s, none⟩ = some (.slice (some ⟨y.g, 0, none⟩) y.n y.c)) (by kernel_rfl) (by kernel_rfl) (KS.out _ bd) ?_
                    refine BigFrame.wpQuiet_want (by rfl) (fun K hK => ⟨.slice (some ⟨g3, 0, none⟩) t c3, fun w' hw' => ?_, hK _ ?_⟩)
                    · go_simp
                    clear hK
                    simp only [Act.put, List.setIfInBounds_toArray, List.set_cons_zero, List.set_cons_succ]
                    refine BigFrame.wpQuiet_want (by rfl) (fun K hK => ⟨.int .i64 (s : Int), fun w' hw' => ?_, hK _ ?_⟩)
                    · go_simp
                    clear hK
                    simp only [Act.put, List.setIfInBounds_toArray, List.set_cons_zero, List.set_cons_succ]
                    refine BigFrame.wpQuiet_want (by rfl) (fun K hK => ⟨.pointer (some ⟨g3, s, none⟩), fun w' hw' => ?_, hK _ ?_⟩)
                    · go_simp
                    clear hK
                    simp only [Act.put, List.setIfInBounds_toArray, List.set_cons_zero, List.set_cons_succ]
                    refine BigFrame.wpQuiet_want (by rfl) (fun K hK => ⟨.slice (some ⟨g', 0, none⟩) (y.n + 70) xc, fun w' hw' => ?_, hK _ ?_⟩)
                    · (obtain ⟨_, e1, _⟩ := hw'; go_simp)
                    clear hK
                    simp only [Act.put, List.setIfInBounds_toArray, List.set_cons_zero, List.set_cons_succ]
                    refine BigFrame.wpQuiet_want (by rfl) (fun K hK => ⟨.int .i64 (k : Int), fun w' hw' => ?_, hK _ ?_⟩)
                    · go_simp
                    clear hK
                    simp only [Act.put, List.setIfInBounds_toArray, List.set_cons_zero, List.set_cons_succ]
                    refine BigFrame.wpQuiet_want (by rfl) (fun K hK => ⟨.pointer (some ⟨g', k * 2, none⟩), fun w' hw' => ?_, hK _ ?_⟩)
                    · go_simp
                    clear hK
                    simp only [Act.put, List.setIfInBounds_toArray, List.set_cons_zero, List.set_cons_succ]
                    refine BigFrame.wpQuiet_want (by rfl) (fun K hK => ⟨.agg #[.int .u64 h0, .int .u64 l0], fun w' hw' => ?_, hK _ ?_⟩)
                    · (obtain ⟨_, _, e1, e2, _⟩ := hw'; go_simp)
                    clear hK
                    simp only [Act.put, List.setIfInBounds_toArray, List.set_cons_zero, List.set_cons_succ]
                    refine BigFrame.wpQuiet_want (by rfl) (fun K hK => ⟨.int .i64 (s : Int), fun w' hw' => ?_, hK _ ?_⟩)
                    · go_simp
                    clear hK
                    simp only [Act.put, List.setIfInBounds_toArray, List.set_cons_zero, List.set_cons_succ]
                    refine BigFrame.wpQuiet_want (by rfl) (fun K hK => ⟨.int .i64 (k : Int), fun w' hw' => ?_, hK _ ?_⟩)
                    · go_simp
                    clear hK
                    simp only [Act.put, List.setIfInBounds_toArray, List.set_cons_zero, List.set_cons_succ]
                    refine BigFrame.wpQuiet_want (by rfl) (fun K hK => ⟨.agg #[.int .u64 h0, .int .u64 l0], fun w' hw' => ?_, hK _ ?_⟩)
                    · (go_simp; exact (MD.out w').mono (fun e w'' ⟨he, bv⟩ => ⟨he, KS.out w'' (Below.on (Nat.le_refl _) hw'.1 bv)⟩))
                    clear hK
                    simp only [Act.put, List.setIfInBounds_toArray, List.set_cons_zero, List.set_cons_succ]
                    refine BigFrame.wpQuiet_want (by rfl) (fun K hK => ⟨.bool false, fun w' hw' => ?_, hK _ ?_⟩)
                    · go_simp
                    clear hK
                    simp only [Act.put, List.setIfInBounds_toArray, List.set_cons_zero, List.set_cons_succ]
                    refine BigFrame.wpQuiet_want (by rfl) (fun K hK => ⟨.bool false, fun w' hw' => ?_, hK _ ?_⟩)
                    · go_simp
                    clear hK
                    simp only [Act.put, List.setIfInBounds_toArray, List.set_cons_zero, List.set_cons_succ]
                    refine BigFrame.wpQuiet_want (by rfl) (fun K hK => ⟨.int .i64 (k : Int), fun w' hw' => ?_, hK _ ?_⟩)
                    · go_simp
                    clear hK
                    simp only [Act.put, List.setIfInBounds_toArray, List.set_cons_zero, List.set_cons_succ]
                    refine BigFrame.wpQuiet_want (by rfl) (fun K hK => ⟨.slice (some ⟨q, 0, none⟩) t c, fun w' hw' => ?_, hK _ ?_⟩)
                    · go_simp
                    clear hK
                    simp only [Act.put, List.setIfInBounds_toArray, List.set_cons_zero, List.set_cons_succ]
                    refine BigFrame.wpQuiet_want (by rfl) (fun K hK => ⟨.int .i64 (s : Int), fun w' hw' => ?_, hK _ ?_⟩)
                    · go_simp
                    clear hK
                    simp only [Act.put, List.setIfInBounds_toArray, List.set_cons_zero, List.set_cons_succ]
                    refine BigFrame.wpQuiet_want (by rfl) (fun K hK => ⟨.pointer (some ⟨q, s, none⟩), fun w' hw' => ?_, hK _ ?_⟩)
                    · go_simp
                    clear hK
                    simp only [Act.put, List.setIfInBounds_toArray, List.set_cons_zero, List.set_cons_succ]
                    refine BigFrame.wpQuiet_want (by rfl) (fun K hK => ⟨.slice (some ⟨y.g, 0, none⟩) y.n y.c, fun w' hw' => ?_, hK _ ?_⟩)
                    · (obtain ⟨_, _, _, _, e1⟩ := hw'; go_simp)
                    clear hK
                    simp only [Act.put, List.setIfInBounds_toArray, List.set_cons_zero, List.set_cons_succ]
                    refine BigFrame.wpQuiet_want (by rfl) (fun K hK => ⟨.int .i64 (y.n : Int), fun w' hw' => ?_, hK _ ?_⟩)
                    · go_simp
                    clear hK
                    simp only [Act.put, List.setIfInBounds_toArray, List.set_cons_zero, List.set_cons_succ]
                    refine BigFrame.wpQuiet_want (by rfl) (fun K hK => ⟨.bool false, fun w' hw' => ?_, hK _ ?_⟩)
                    · go_simp
                    clear hK
                    simp only [Act.put, List.setIfInBounds_toArray, List.set_cons_zero, List.set_cons_succ]
                    refine BigFrame.wpQuiet_want (by rfl) (fun K hK => ⟨.bool false, fun w' hw' => ?_, hK _ ?_⟩)
                    · go_simp
                    clear hK
                    simp only [Act.put, List.setIfInBounds_toArray, List.set_cons_zero, List.set_cons_succ]
                    go_big_quiet_skip
                    go_big_quiet_skip
                    go_big_quiet_skip
                    go_big_quiet_skip
                    go_big_quiet_skip
                    go_big_quiet_skip
                    go_big_quiet_skip
                    go_big_quiet_skip
                    go_big_quiet_skip
                    go_big_quiet_skip
                    go_big_quiet_skip
                    refine BigFrame.wpQuiet_want (by rfl) (fun K hK => ⟨.bool false, fun w' hw' => ?_, hK _ ?_⟩)
                    · go_simp
                    clear hK
                    simp only [Act.put, List.setIfInBounds_toArray, List.set_cons_zero, List.set_cons_succ]
                    refine BigFrame.wpQuiet_want (by rfl) (fun K hK => ⟨.bool false, fun w' hw' => ?_, hK _ ?_⟩)
                    · go_simp
                    clear hK
                    simp only [Act.put, List.setIfInBounds_toArray, List.set_cons_zero, List.set_cons_succ]
                    refine wpQuiet_nil ?_
                    rintro v ⟨bb, _⟩
                    clear KS MD
                    go_wp2
                    go_round
                    case rel => exact ⟨k + 1, by go_num, by omega, bb⟩
                    case measure => simp [intOf]; omega
                · obtain rfl : k = y.n + 70 := by omega
                  clear PP P3 M1 LBH XO SHY HN
                  go_wp2
                  go_round
                  case rel => exact ⟨s + 1, by go_num, by omega, hb2⟩
                  case measure => simp [intOf]; omega
            · obtain rfl : s = t := by omega
              have hfin : Upd (bls L) w wr := hu1.trans (Upd.of_below hb)
              clear PP P3 M1 LBH HN
              go_wp2
              go_ret
              exact ⟨rfl, hfin⟩

end Go.Proofs.Ytcchnaldanibgaa
