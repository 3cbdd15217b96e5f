import Derived.Test.YtaagoneajngdcaaIb
namespace Go.Proofs.Ytaagoneajngdcaa
open Go.RowKit
set_option linter.unusedVariables false
set_option linter.unusedSimpArgs false

theorem firstErr_append (A B : List Pt) : firstErr (A ++ B) = if firstErr A = 0 then firstErr B else firstErr A := by
  induction A with
  | nil => simp [firstErr]
  | cons p r ih =>
    by_cases h : p.err = 0
    · simp only [List.cons_append, firstErr, h, if_true]; exact ih
    · simp only [List.cons_append, firstErr, if_neg h]
theorem firstErr_at {P : List Pt} {k : Nat} (hk : k < P.length) (h0 : firstErr (P.take k) = 0) (he : P[k].err ≠ 0) : firstErr P = P[k].err := by
  have h : P = P.take k ++ (P[k] :: P.drop (k + 1)) := by rw [← List.drop_eq_getElem_cons hk, List.take_append_drop]
  have h2 : firstErr P = firstErr (P.take k ++ (P[k] :: P.drop (k + 1))) := congrArg firstErr h
  rw [h2, firstErr_append, if_pos h0, firstErr, if_neg he]
theorem Puts.take {w : World} {a : Option Addr} {P : List Pt} (h : Puts w a P) (k : Nat) : Puts w a (P.take k) := fun i hi => by
  have hi' : i < P.length := by rw [List.length_take] at hi; omega
  have e : (P.take k)[i] = P[i] := List.getElem_take
  rw [e]
  exact h i hi'
theorem Puts.later' {w w' : World} {a : Option Addr} {P : List Pt} (h : Puts w a P) (hb : Below w.heap.size w w') : Puts w' a P := by
  intro i hi
  obtain ⟨hf, b, o, ha, e0, e1, e2, e3, e4⟩ := h i hi
  exact ⟨hf, b, o, ha, cell_later hb e0, cell_later hb e1, cell_later hb e2, cell_later hb e3, cell_later hb e4⟩
def wOut (P : List Pt) : List Int := if firstErr P = 0 then allBytes P else []
set_option maxRecDepth 100000 in
set_option maxHeartbeats 2000000 in
theorem refwrite_any (P : List Pt) (a : Option Addr) (n c : Nat) (w : World) (hP : Puts w a P) (hlen : P.length = n) (hcap : n ≤ c) (hmx : n ≤ 9223372036854775807) (hLm : (allBytes P).length ≤ 140737488355328) (hsz : ∀ k (h : k < P.length), (allBytes (P.take k)).length + 9 + P[k].s.size ≤ 140737488355328) :
    Calls Try.prog 7 #[.slice a n c] w fun e w' => ∃ v', e = .returned (.tuple #[v', .int .i64 (firstErr P)]) ∧ Own w.heap.size w' v' (wOut P) ∧ Below w.heap.size w w' := by
  have HP := hide hP
  have HLN := hide hlen
  have HSZ := hide hsz
  have HL := hide hLm
  clear hP hlen hsz hLm
  go_enter Try.func7, Try.ntmps7
  go_wp2_with fail
  go_loopw [4, 5] (fun b i wr => ∃ k : Nat, i = .int .i64 (k : Int) ∧ k ≤ n ∧ firstErr (P.take k) = 0 ∧ Own w.heap.size wr b (allBytes (P.take k)) ∧ Below w.heap.size w wr) (fun _ i _ => n - (intOf i).toNat)
  case atStart => exact ⟨0, rfl, Nat.zero_le _, rfl, Own.nil _ _, Below.refl _ _⟩
  case round =>
    obtain ⟨k, rfl, hk, hE, hO, hB⟩ := hrel
    have HE := hide hE
    have HO := hide hO
    have HB := hide hB
    have hz := hB.size
    clear hE hO hB
    by_cases hlt : k < n
    · have hkP : k < P.length := by rw [HLN.out]; exact hlt
      obtain ⟨hf, gb, go, ha, e0, e1, e2, e3, e4⟩ := HP.out k hkP
      subst ha
      have e0 := cell_later HB.out e0
      have e1 := cell_later HB.out e1
      have e2 := cell_later HB.out e2
      have e3 := cell_later HB.out e3
      have e4 := cell_later HB.out e4
      have hs := HSZ.out k hkP
      have H1 := hide (refone_any P[k].K P[k].V P[k].N P[k].m P[k].s wr hf.1 hf.2.1 hf.2.2.2.1 (by omega))
      have HA := hide (firstErr_at hkP HE.out)
      have HT := hide (take_snoc P k hkP)
      have HPB := hide (pt_byte P[k] hf (by omega))
      have hpl : Hid (P[k].bytes.length ≤ 9 + P[k].s.size) := pt_short P[k] hf (by omega)
      have HX : Hid (ptErr P[k].K P[k].N P[k].m P[k].s = P[k].err) := rfl
      have HY : Hid (ptBytes P[k].K P[k].V P[k].N P[k].s = P[k].bytes) := rfl
      unfold putV at H1
      generalize P[k] = p at *
      obtain ⟨K, V, N, m, s⟩ := p
      dsimp only at *
      clear hf
      go_wp2_with fail
      refine H1.out.mono ?_
      rintro e w1 ⟨v1, rfl, o1, b1⟩
      have O1 := hide o1
      have B1 := hide b1
      clear o1 b1 H1 e0 e1 e2 e3 e4
      by_cases he : ptErr K N m s = 0
      · have hout : ptOut K V N m s = ptBytes K V N s := ptOut_ok he
        have O2 : Hid (Own wr.heap.size w1 v1 (ptBytes K V N s)) := by rw [← hout]; exact O1.out
        obtain ⟨g, n1, c1, hv, hs1, _⟩ := O2.out.hs (fun z hz => HPB.out z (by rw [← HY.out]; exact hz))
        subst hv
        have HS1 := hide hs1
        have hl1 : n1 ≤ 9 + s.size := by have := hs1.len; rw [HY.out] at this; have := hpl.out; omega
        have HE1 := hide he
        clear hout O1 hs1 he
        rw [HE1.out]
        go_wp2_with (at_builtin; go_must (refine app_hs _ rfl (.tmp 25) (.tmp 26) rfl w.heap.size (allBytes (P.take k)) _ rfl g n1 c1 rfl (ptBytes K V N s) HS1.out (HO.out.kept B1.out) (Nat.le_trans hz B1.out.size) (by omega) ?_))
        intro v2 w2 o2 _ g2
        have b2 : Below w.heap.size w w2 := (HO.out.kept B1.out).grown (HB.out.trans (B1.out.mono hz)) g2 (Nat.le_trans hz B1.out.size)
        have O3 := hide o2
        have B3 := hide b2
        clear o2 g2 b2 HS1 O2 HO B1 HB
        go_wp2
        go_round
        case rel => exact ⟨k + 1, by go_num, by omega, by rw [HT.out, firstErr_append, if_pos HE.out]; simp only [firstErr]; rw [if_pos (HX.out.symm.trans HE1.out)], by rw [HT.out, allBytes_snoc, ← HY.out]; exact O3.out, B3.out⟩
        case measure => simp [intOf]; omega
      · have hb : (ptErr K N m s != 0) = true := by simp [he]
        have hF : firstErr P = ptErr K N m s := (HA.out (fun h => he (HX.out.trans h))).trans HX.out.symm
        have HF := hide hF
        have HEN := hide he
        generalize ptErr K N m s = E at *
        clear HA hF he
        go_wp2
        go_ret2
        refine ⟨_, by rw [HF.out]; rfl, ?_, HB.out.trans (B1.out.mono hz)⟩
        unfold wOut
        rw [if_neg (by rw [HF.out]; exact HEN.out)]
        exact Own.nil _ _
    · obtain rfl : k = n := by omega
      have hT : P.take k = P := List.take_of_length_le (by rw [HLN.out]; exact Nat.le_refl _)
      have HE2 : Hid (firstErr P = 0) := by have := HE.out; rw [hT] at this; exact this
      have HO2 : Hid (Own w.heap.size wr u4 (allBytes P)) := by have := HO.out; rw [hT] at this; exact this
      clear hT HE HO
      go_wp2
      go_ret2
      refine ⟨_, by rw [HE2.out]; rfl, ?_, HB.out⟩
      unfold wOut
      rw [if_pos HE2.out]
      exact HO2.out

end Go.Proofs.Ytaagoneajngdcaa
