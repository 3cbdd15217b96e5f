import Derived.Test.YtpkcoejjclmocaaCi
namespace Go.Proofs.Ytpkcoejjclmocaa
open Go.RowKit Go.Maps
set_option linter.unusedVariables false
set_option linter.unusedSimpArgs false

theorem ops_own' {T : TypeId} {B : Nat} {w : World} {v : Value} {P : List Opn} (h : Own3 T B w v (P.map oT)) : ∃ a c, v = .slice a P.length c ∧ Ops w a P := by
  obtain ⟨a, c, rfl, _, _, h3, h4⟩ := h.form
  rw [List.length_map] at *
  refine ⟨a, c, rfl, ?_⟩
  cases a with
  | none =>
    have := (h3 rfl).1
    have hP : P = [] := by simpa using this
    subst hP
    intro i hi
    simp at hi
  | some x =>
    obtain ⟨g, rfl, _, _⟩ := h4 x rfl
    exact ops_own h
set_option maxRecDepth 100000 in
set_option maxHeartbeats 1000000 in
theorem refresults_any (L : List En) (a : Option Addr) (c n : Nat) (w : World) (h : SlY yE w a L.length c L) (hf : ∀ e ∈ L, e.fits) (hl : L.length ≤ 256) (hn : n ≤ L.length) :
    Calls Try.prog 40 #[.slice a L.length c, .int .i64 (n : Int)] w fun e w' => ∃ vr, e = .returned vr ∧ Own3 43 w.heap.size w' vr ((rsL L).take n) ∧ Below w.heap.size w w' := by
  have hmx := h.max
  have hcp := h.cap
  unfold maxLen at hmx
  have H := hide h
  have HF := hide hf
  clear h hf
  go_enter Try.func40, Try.ntmps40
  go_wp2
  go_loopw [6, 5] (fun i v wr => ∃ j : Nat, i = .int .i64 (j : Int) ∧ j ≤ n ∧ Own3 59 w.heap.size wr v (((L.take j).map En.o).map oT) ∧ Below w.heap.size w wr) (fun i _ _ => n - (intOf i).toNat)
  case atStart => exact ⟨0, rfl, Nat.zero_le _, Own3.nil _ _ _, Below.refl _ _⟩
  case round =>
    obtain ⟨j, rfl, hj, oR, hb⟩ := hrel
    by_cases hlt : j < n
    · have hg : L[j]? = some L[j] := List.getElem?_eq_getElem (by omega)
      obtain ⟨q, o, ea, hq, c0, c1, c2, c3, c4⟩ := (H.out.later hb).en hg
      have htk : ((L.take (j + 1)).map En.o).map oT = ((L.take j).map En.o).map oT ++ [oT L[j].o] := by rw [List.take_add_one, hg, List.map_append, List.map_append]; rfl
      have hln : (((L.take j).map En.o).map oT).length = j := by simp; omega
      generalize L[j] = e at *
      obtain ⟨C, N, ⟨k, s, v⟩⟩ := e
      dsimp only [oT] at c0 c1 c2 c3 c4 htk
      subst ea
      generalize ((L.take j).map En.o).map oT = X at *
      have hT := hide htk
      have hsz := hb.size
      have OR := hide oR
      have HLN := hide hln
      clear htk hg oR hln
      go_wp2_with (at_builtin; go_must (refine app3 tyOp _ rfl (.tmp 14) (.tmp 20) rfl w.heap.size X _ rfl ⟨wr.heap.size, 0, none⟩ 1 1 rfl [(k, s, v)] rfl ?yn (OR.out.alloc _) (by simp; omega) (by rw [HLN.out]; omega) ?yk))
      case yn => exact rcs_one3 _ (k, s, v) 59 wr.heap.size (At3.new wr k s v 59)
      case yk =>
        intro v3 w3 o3 hg3
        have oRR := OR.out.alloc (.cells #[.int .i64 k, .int .i64 s, .string v] 59)
        have b3 := hide ((hb.alloc hsz (.cells #[.int .i64 k, .int .i64 s, .string v] 59)).grown hg3 (by simp; omega) (fun k hk => (World.ownsRow.lt oRR k hk).1))
        have O3 := hide o3
        clear o3 hg3 oRR
        go_wp2
        go_round
        case rel => exact ⟨j + 1, by go_num, by omega, by rw [hT.out]; exact O3.out, b3.out⟩
        case measure => simp [intOf]; omega
    · obtain rfl : j = n := by omega
      obtain ⟨a1, c1, rfl, hops⟩ := ops_own' oR
      have hpl : ((L.take j).map En.o).length = j := by simp; omega
      have cr := refreplay_any ((L.take j).map En.o) a1 c1 wr hops (fun p hp => by
        obtain ⟨e, he, rfl⟩ := List.mem_map.1 hp
        exact (HF.out e (List.mem_of_mem_take he)).ow) (by rw [hpl]; omega)
      rw [show rl [] ((L.take j).map En.o) = (rsL L).take j from rsL_take L j] at cr
      generalize ((L.take j).map En.o).length = m at *
      clear oR hops hpl
      have hsz := hb.size
      go_wp2_with (go_at_call 60; refine cr.mono ?_; rintro e w6 ⟨vc, vr, rfl, o6, o7, b6⟩; have o8 := hide (o7.low hsz); have b8 := hide (hb.trans (b6.mono hsz)); clear o6 o7 b6)
      go_ret
      exact ⟨_, rfl, o8.out, b8.out⟩
set_option maxRecDepth 100000 in
theorem reflast_any (L : List En) (a : Option Addr) (c : Nat) (s : Int) (w : World) (h : SlY yE w a L.length c L) :
    Calls Try.prog 30 #[.slice a L.length c, .int .i64 s] w fun e w' => e = .returned (.int .i64 (lp L s : Nat)) ∧ w' = w := by
  have hmx := h.max
  have hcp := h.cap
  unfold maxLen at hmx
  have H := hide h
  clear h
  unfold lp
  go_enter Try.func30, Try.ntmps30
  go_wp2
  go_loopw [6, 5] (fun i p wr => ∃ j : Nat, i = .int .i64 (j : Int) ∧ j ≤ L.length ∧ p = .int .i64 (lpJ L s j : Nat) ∧ wr = w) (fun i _ _ => L.length - (intOf i).toNat)
  case atStart => exact ⟨0, rfl, Nat.zero_le _, rfl, rfl⟩
  case round =>
    obtain ⟨j, rfl, hj, rfl, hwr⟩ := hrel
    have hwr := hwr.symm
    subst hwr
    have hle := lpJ_le L s j
    by_cases hlt : j < L.length
    · have hg : L[j]? = some L[j] := List.getElem?_eq_getElem hlt
      obtain ⟨q, o, ea, hq, c0, c1, c2, c3, c4⟩ := H.out.en hg
      have hs := lpJ_succ s hg
      subst ea
      generalize L[j] = e at *
      by_cases hc : e.c = s
      · have hT : Hid (lpJ L s (j + 1) = j + 1) := by show _ = _; rw [hs, if_pos hc]
        have hd : (e.c == s) = true := by simpa using hc
        clear hs hg
        go_wp2
        go_round
        case rel => exact ⟨j + 1, by go_num, by omega, by rw [hT.out]; go_num, by first | rfl | trivial⟩
        case measure => simp [intOf]; omega
      · have hT : Hid (lpJ L s (j + 1) = lpJ L s j) := by show _ = _; rw [hs, if_neg hc]
        have hd : (e.c == s) = false := by simpa using hc
        clear hs hg
        go_wp2
        go_round
        case rel => exact ⟨j + 1, by go_num, by omega, by rw [hT.out], by first | rfl | trivial⟩
        case measure => simp [intOf]; omega
    · obtain rfl : j = L.length := by omega
      go_wp2
      go_ret
      exact ⟨rfl, rfl⟩

end Go.Proofs.Ytpkcoejjclmocaa
