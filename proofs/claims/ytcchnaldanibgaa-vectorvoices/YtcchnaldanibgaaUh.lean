import Derived.Test.YtcchnaldanibgaaUg
namespace Go.Proofs.Ytcchnaldanibgaa
open Go.RowKit
set_option linter.unusedVariables false
set_option linter.unusedSimpArgs false

def qV (L : List Voi) (i k : Nat) : Bool := ov (vD L k) (vD L i) (vN L i)
theorem pV_true {L : List Voi} (hok : okAll L) {i k : Nat} (hi : i < L.length) (hk : k < L.length) (h : qV L i k = true) : pV L i = true :=
  (pV_iff hok hi).2 ⟨vAt L k, vAt_mem hk, h⟩
theorem pV_false {L : List Voi} (hok : okAll L) {i : Nat} (hi : i < L.length) (h : ∀ k, k < L.length → qV L i k = false) : pV L i = false := by
  cases hp : pV L i with
  | false => rfl
  | true =>
    obtain ⟨m, hm, h2⟩ := (pV_iff hok hi).1 hp
    obtain ⟨k, hk⟩ := List.getElem?_of_mem hm
    have hlt := (List.getElem?_eq_some_iff.1 hk).1
    have := h k hlt
    unfold qV vD at this
    rw [vAt_some hk] at this
    unfold vD at h2
    rw [h2] at this
    cases this
/-- The document's Over of two voices of a list that may be. -/
theorem refoverV {L : List Voi} {w : World} {q o : Nat} (hl : LieW w q o L) (hok : okAll L) {i k : Nat} (hi : i < L.length) (hk : k < L.length) :
    Calls Try.prog 31 #[.slice (vAt L k).x.a (vAt L k).x.D.length (vAt L k).x.c, .agg #[.int .i64 (vAt L i).node, .slice (vAt L i).x.a (vAt L i).x.D.length (vAt L i).x.c]] w fun e w' => e = .returned (.bool (qV L i k)) ∧ Below w.heap.size w w' := by
  have h := refover_any (vAt L k).x.D (vAt L i).x.D (vAt L k).x.a (vAt L i).x.a (vAt L k).x.c (vAt L i).x.c (vAt L i).node w (hl k _ (vAt_get hk)).2.2 (hl i _ (vAt_get hi)).2.2
  obtain ⟨m1, l1⟩ := hok _ (vAt_mem hi)
  obtain ⟨_, l2⟩ := hok _ (vAt_mem hk)
  rw [decide_eq_true ⟨m1, l2.trans l1.symm⟩, Bool.true_and] at h
  exact h
set_option maxRecDepth 100000 in
set_option maxHeartbeats 1000000 in
theorem refcons_any (L : List Voi) (a : Option Addr) (n c : Nat) (w : World) (h : SlW w a n c L) :
    Calls Try.prog 26 #[.slice a n c] w fun e w' => ((okAll L ∧ ∃ r s, e = .returned (.tuple #[.int .i64 r, .int .i64 s, .int .i64 0]) ∧ isFirst (pV L) n r ∧ ((r = -1 ∧ s = -1) ∨ ∃ j : Nat, r = j ∧ j < n ∧ isFirst (qV L j) n s)) ∨ (¬ okAll L ∧ e = .returned (.tuple #[.int .i64 0, .int .i64 0, .int .i64 30]))) ∧ Below w.heap.size w w' := by
  have HW := hide h
  have k1 := h.cap
  have k2 := h.max
  have LN := hide h.len
  unfold maxLen at k2
  clear h
  go_enter Try.func26, Try.ntmps26
  go_wp2_with fail
  refine (refvoices_any L a n c w HW.out).mono ?_
  rintro e w1 ⟨⟨hok, rfl⟩ | ⟨hbad, rfl⟩, b1⟩
  · have OK := hide hok
    clear hok
    go_wp2_with fail
    go_loopw [6] (fun i wr => ∃ (k : Nat), i = .int .i64 (k : Int) ∧ k ≤ n ∧ (∀ j, j < k → pV L j = false) ∧ Below w.heap.size w wr) (fun i _ => n - (intOf i).toNat)
    case atStart => exact ⟨0, rfl, Nat.zero_le _, (fun j hj => by omega), b1⟩
    case round =>
      obtain ⟨i, rfl, hi, hno, hb⟩ := hrel
      by_cases hlt : i < n
      · have hiL : i < L.length := by rw [LN.out]; exact hlt
        obtain ⟨q, o, rfl, hq, hlie⟩ := HW.out.at_ (by rintro rfl; simp at hiL)
        have HLI := hide hlie
        have NO := hide hno
        obtain ⟨w0, hw0⟩ : ∃ w0, w0 = wr := ⟨_, rfl⟩
        subst hw0
        clear hlie hno
        go_wp2_with fail
        go_loopw [7] (fun i' wr => ∃ (k : Nat), i' = .int .i64 (k : Int) ∧ k ≤ n ∧ (∀ j, j < k → qV L i j = false) ∧ Below w.heap.size w wr) (fun i _ => n - (intOf i).toNat)
        case atStart => exact ⟨0, rfl, Nat.zero_le _, (fun j hj => by omega), hb⟩
        case round =>
          obtain ⟨k, rfl, hk, hno2, hb2⟩ := hrel
          by_cases hlt2 : k < n
          · have hkL : k < L.length := by rw [LN.out]; exact hlt2
            obtain ⟨p0, p1, _⟩ := HLI.out i _ (vAt_get hiL)
            have r1 := (HLI.out k _ (vAt_get hkL)).2.1
            have OVR : Hid (∀ v, Below w.heap.size w v → Calls Try.prog 31 #[.slice (vAt L k).x.a (vAt L k).x.D.length (vAt L k).x.c, .agg #[.int .i64 (vAt L i).node, .slice (vAt L i).x.a (vAt L i).x.D.length (vAt L i).x.c]] v fun e w' => e = .returned (.bool (qV L i k)) ∧ Below v.heap.size v w') := fun v bv => refoverV (HLI.out.bel hq bv) OK.out hiL hkL
            have KS : ∀ v, Below w.heap.size w v → (Below w.heap.size w v ∧ v.cell? ⟨q, o + i * 2, none⟩ = some (.int .i64 (vAt L i).node) ∧ v.cell? ⟨q, o + i * 2 + 1, none⟩ = some (.slice (vAt L i).x.a (vAt L i).x.D.length (vAt L i).x.c) ∧ v.cell? ⟨q, o + k * 2 + 1, none⟩ = some (.slice (vAt L k).x.a (vAt L k).x.D.length (vAt L k).x.c)) := fun v b =>
              ⟨b, (b.cell (p := ⟨q, o + i * 2, none⟩) hq).trans p0, (b.cell (p := ⟨q, o + i * 2 + 1, none⟩) hq).trans p1, (b.cell (p := ⟨q, o + k * 2 + 1, none⟩) hq).trans r1⟩
            have KH := hide KS
            have NO2 := hide hno2
            have PT := hide (fun hh => pV_true OK.out hiL hkL hh)
            clear KS p0 p1 r1 hno2
            generalize (vAt L i).node = yn at *
            generalize (vAt L i).x.a = ya at *
            generalize (vAt L i).x.c = yc at *
            generalize (vAt L i).x.D.length = yl at *
            generalize (vAt L k).x.a = za at *
            generalize (vAt L k).x.c = zc at *
            generalize (vAt L k).x.D.length = zl at *
            cases hqv : qV L i k with
            | true =>
              rw [hqv] at OVR
              have PT := hide (PT.out hqv)
              go_wp2_with fail
              go_region_held3 (fun v => Below w.heap.size w v ∧ v.cell? ⟨q, o + i * 2, none⟩ = some (.int .i64 yn) ∧ v.cell? ⟨q, o + i * 2 + 1, none⟩ = some (.slice ya yl yc) ∧ v.cell? ⟨q, o + k * 2 + 1, none⟩ = some (.slice za zl zc))
                (first | exact KH.out _ hb2.drew | exact KH.out _ (by assumption))
                (first
                  | (go_at_call 31; refine (OVR.out _ (by first | assumption | exact hb2.drew)).mono ?_; rintro e v ⟨rfl, bv⟩; have bb : Below w.heap.size w v := Below.on (Nat.le_refl _) (by first | assumption | exact hb2.drew) bv; clear bv))
              all_goals
                go_wp2
                go_ret3
                exact ⟨.inl ⟨OK.out, _, _, rfl, .inl ⟨i, hlt, PT.out, NO.out, rfl⟩, .inr ⟨i, rfl, hlt, .inl ⟨k, hlt2, hqv, NO2.out, rfl⟩⟩⟩, by assumption⟩
            | false =>
              rw [hqv] at OVR
              go_wp2_with fail
              go_region_held3 (fun v => Below w.heap.size w v ∧ v.cell? ⟨q, o + i * 2, none⟩ = some (.int .i64 yn) ∧ v.cell? ⟨q, o + i * 2 + 1, none⟩ = some (.slice ya yl yc) ∧ v.cell? ⟨q, o + k * 2 + 1, none⟩ = some (.slice za zl zc))
                (first | exact KH.out _ hb2.drew | exact KH.out _ (by assumption))
                (first
                  | (go_at_call 31; refine (OVR.out _ (by first | assumption | exact hb2.drew)).mono ?_; rintro e v ⟨rfl, bv⟩; have bb : Below w.heap.size w v := Below.on (Nat.le_refl _) (by first | assumption | exact hb2.drew) bv; clear bv))
              all_goals
                go_wp2
                go_round
                case rel =>
                  refine ⟨k + 1, by go_num, by omega, fun j hj => ?_, by assumption⟩
                  by_cases e : j < k
                  · exact NO2.out j e
                  · obtain rfl : j = k := by omega
                    exact hqv
                case measure => simp [intOf]; omega
          · obtain rfl : k = n := by omega
            have PF := hide (pV_false OK.out hiL (fun j hj => hno2 j (by rw [LN.out] at hj; exact hj)))
            clear hno2
            go_wp2
            go_round
            case rel =>
              refine ⟨i + 1, by go_num, by omega, fun j hj => ?_, hb2⟩
              by_cases e : j < i
              · exact NO.out j e
              · obtain rfl : j = i := by omega
                exact PF.out
            case measure => simp [intOf]; omega
      · obtain rfl : i = n := by omega
        have NO := hide hno
        clear hno
        go_wp2
        go_ret3
        exact ⟨.inl ⟨OK.out, _, _, rfl, .inr ⟨NO.out, rfl⟩, .inl ⟨rfl, rfl⟩⟩, hb⟩
  · have BAD := hide hbad
    clear hbad
    go_wp2
    go_ret3
    exact ⟨.inr ⟨BAD.out, rfl⟩, b1⟩
set_option maxRecDepth 100000 in
set_option maxHeartbeats 1000000 in
theorem refalive_any (L : List Voi) (a : Option Addr) (n c : Nat) (w : World) (h : SlW w a n c L) (hb32 : n * 32 ≤ 140737488355328) :
    Calls Try.prog 28 #[.slice a n c] w fun e w' => ((okAll L ∧ ∃ v, e = .returned (.tuple #[v, .int .i64 0]) ∧ OwnI w.heap.size w' v (outs (pV L) n)) ∨ (¬ okAll L ∧ e = .returned (.tuple #[.slice none 0 0, .int .i64 30]))) ∧ Below w.heap.size w w' := by
  have HW := hide h
  have k1 := h.cap
  have k2 := h.max
  have LN := hide h.len
  unfold maxLen at k2
  clear h
  go_enter Try.func28, Try.ntmps28
  go_wp2_with fail
  refine (refvoices_any L a n c w HW.out).mono ?_
  rintro e w1 ⟨⟨hok, rfl⟩ | ⟨hbad, rfl⟩, b1⟩
  · have OK := hide hok
    clear hok
    go_wp2_with fail
    go_loopw [6, 5] (fun i v wr => ∃ (k : Nat), i = .int .i64 (k : Int) ∧ k ≤ n ∧ OwnI w.heap.size wr v (outs (pV L) k) ∧ Below w.heap.size w wr) (fun i _ _ => n - (intOf i).toNat)
    case atStart => exact ⟨0, rfl, Nat.zero_le _, OwnI.nil _ _, b1⟩
    case round =>
      obtain ⟨i, rfl, hi, hoi, hb⟩ := hrel
      by_cases hlt : i < n
      · have hiL : i < L.length := by rw [LN.out]; exact hlt
        obtain ⟨q, o, rfl, hq, hlie⟩ := HW.out.at_ (by rintro rfl; simp at hiL)
        have HLI := hide hlie
        have HOI := hide hoi
        obtain ⟨w0, hw0⟩ : ∃ w0, w0 = wr := ⟨_, rfl⟩
        subst hw0
        have hs0 := hb.size
        clear hlie hoi
        go_wp2_with fail
        go_loopw [8, 7] (fun i' ovr wr => ∃ (k : Nat) (t : Bool), i' = .int .i64 (k : Int) ∧ ovr = .bool t ∧ k ≤ n ∧ ((t = true ∧ pV L i = true) ∨ (t = false ∧ ∀ j, j < k → qV L i j = false)) ∧ Below w0.heap.size w0 wr) (fun i _ _ => n - (intOf i).toNat)
        case atStart => exact ⟨0, false, rfl, rfl, Nat.zero_le _, .inr ⟨rfl, fun j hj => by omega⟩, Below.refl _ _⟩
        case round =>
          obtain ⟨k, t, rfl, rfl, hk, ht, hb2⟩ := hrel
          have hs2 := hb2.size
          by_cases hlt2 : k < n
          · rcases ht with ⟨rfl, hp⟩ | ⟨rfl, hno2⟩
            · go_wp2_with fail
              go_quiet (fail)
              go_wp2
              go_round
              case rel => exact ⟨k + 1, true, by go_num, rfl, by omega, .inl ⟨rfl, hp⟩, below_drewN hb2 nq⟩
              case measure => simp [intOf]; omega
            · have hkL : k < L.length := by rw [LN.out]; exact hlt2
              obtain ⟨p0, p1, _⟩ := HLI.out i _ (vAt_get hiL)
              have r1 := (HLI.out k _ (vAt_get hkL)).2.1
              have BW : Hid (∀ v, Below w0.heap.size w0 v → Below w.heap.size w v) := fun v bv => hb.trans (bv.mono hs0)
              have OVR : Hid (∀ v, Below w0.heap.size w0 v → Calls Try.prog 31 #[.slice (vAt L k).x.a (vAt L k).x.D.length (vAt L k).x.c, .agg #[.int .i64 (vAt L i).node, .slice (vAt L i).x.a (vAt L i).x.D.length (vAt L i).x.c]] v fun e w' => e = .returned (.bool (qV L i k)) ∧ Below v.heap.size v w') := fun v bv => refoverV (HLI.out.bel hq (BW.out v bv)) OK.out hiL hkL
              have KS : ∀ v, Below w0.heap.size w0 v → (Below w0.heap.size w0 v ∧ v.cell? ⟨q, o + i * 2, none⟩ = some (.int .i64 (vAt L i).node) ∧ v.cell? ⟨q, o + i * 2 + 1, none⟩ = some (.slice (vAt L i).x.a (vAt L i).x.D.length (vAt L i).x.c) ∧ v.cell? ⟨q, o + k * 2 + 1, none⟩ = some (.slice (vAt L k).x.a (vAt L k).x.D.length (vAt L k).x.c)) := fun v b' =>
                have b := BW.out v b'
                ⟨b', (b.cell (p := ⟨q, o + i * 2, none⟩) hq).trans p0, (b.cell (p := ⟨q, o + i * 2 + 1, none⟩) hq).trans p1, (b.cell (p := ⟨q, o + k * 2 + 1, none⟩) hq).trans r1⟩
              have KH := hide KS
              have NO2 := hide hno2
              have PT := hide (fun hh => pV_true OK.out hiL hkL hh)
              clear KS p0 p1 r1 hno2
              generalize (vAt L i).node = yn at *
              generalize (vAt L i).x.a = ya at *
              generalize (vAt L i).x.c = yc at *
              generalize (vAt L i).x.D.length = yl at *
              generalize (vAt L k).x.a = za at *
              generalize (vAt L k).x.c = zc at *
              generalize (vAt L k).x.D.length = zl at *
              have hqq : (qV L i k = true ∧ pV L i = true) ∨ (qV L i k = false ∧ ∀ j, j < k + 1 → qV L i j = false) := by
                cases hqv : qV L i k with
                | true => exact .inl ⟨rfl, PT.out hqv⟩
                | false =>
                  refine .inr ⟨rfl, fun j hj => ?_⟩
                  by_cases e : j < k
                  · exact NO2.out j e
                  · obtain rfl : j = k := by omega
                    exact hqv
              have QQ := hide hqq
              clear hqq PT NO2
              generalize qV L i k = tq at *
              go_wp2_with fail
              go_region_held3 (fun v => Below w0.heap.size w0 v ∧ v.cell? ⟨q, o + i * 2, none⟩ = some (.int .i64 yn) ∧ v.cell? ⟨q, o + i * 2 + 1, none⟩ = some (.slice ya yl yc) ∧ v.cell? ⟨q, o + k * 2 + 1, none⟩ = some (.slice za zl zc))
                (first | exact KH.out _ hb2.drew | exact KH.out _ (by assumption))
                (first
                  | (go_at_call 31; refine (OVR.out _ (by first | assumption | exact hb2.drew)).mono ?_; rintro e v ⟨rfl, bv⟩; have bb : Below w0.heap.size w0 v := Below.on (Nat.le_refl _) (by first | assumption | exact hb2.drew) bv; clear bv))
              all_goals
                go_wp2
                go_round
                case rel => exact ⟨k + 1, tq, by go_num, rfl, by omega, QQ.out, by assumption⟩
                case measure => simp [intOf]; omega
          · obtain rfl : k = n := by omega
            have hpt : (t = true ∧ pV L i = true) ∨ (t = false ∧ pV L i = false) := by
              rcases ht with ⟨h1, h2⟩ | ⟨h1, h2⟩
              · exact .inl ⟨h1, h2⟩
              · exact .inr ⟨h1, pV_false OK.out hiL (fun j hj => h2 j (by rw [LN.out] at hj; exact hj))⟩
            have ES := hide (outs_succ (pV L) i)
            have LE := hide (outs_le (pV L) i)
            have I1 := hide (HOI.out.bel hb2 (Nat.le_refl _))
            have bw2 : Below w.heap.size w wr := hb.trans (hb2.mono hs0)
            clear ht HOI
            generalize outs (pV L) i = OL at *
            rcases hpt with ⟨rfl, hp⟩ | ⟨rfl, hp⟩
            · rw [hp] at ES
              simp only [if_true, List.append_nil] at ES
              go_wp2
              go_round
              case rel => exact ⟨i + 1, by go_num, by omega, by rw [ES.out]; exact I1.out, bw2⟩
              case measure => simp [intOf]; omega
            · rw [hp] at ES
              simp only [Bool.false_eq_true, if_false] at ES
              have I2 := hide (I1.out.bel ((Below.refl _ _).alloc (Nat.le_refl _) (.cells #[.int .i64 (i : Int)] 3)) (Nat.le_refl _))
              clear I1
              go_wp2_with (at_builtin; go_must (refine app_int _ rfl (.tmp 41) (.tmp 43) rfl w.heap.size OL _ rfl ⟨wr.heap.size, 0, none⟩ rfl i (by simp) I2.out (by have := bw2.size; simp; omega) (by have := LE.out; omega) ?_))
              intro v' w3 o3 g3
              have b4 : Below w.heap.size w w3 := I2.out.grown (bw2.alloc bw2.size _) g3 (by have := bw2.size; simp; omega)
              have I3 := hide o3
              clear o3 g3 I2
              go_wp2
              go_round
              case rel => exact ⟨i + 1, by go_num, by omega, by rw [ES.out]; exact I3.out, b4⟩
              case measure => simp [intOf]; omega
      · obtain rfl : i = n := by omega
        have HOI := hide hoi
        clear hoi
        go_wp2
        go_ret2
        exact ⟨.inl ⟨OK.out, _, rfl, HOI.out⟩, hb⟩
  · have BAD := hide hbad
    clear hbad
    go_wp2
    go_ret2
    exact ⟨.inr ⟨BAD.out, rfl⟩, b1⟩

end Go.Proofs.Ytcchnaldanibgaa
