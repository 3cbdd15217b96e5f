import Derived.Test.YtdddbfincmodjaaGCe
namespace Go.Proofs.Ytdddbfincmodjaa
open Go.RowKit Go.Maps
open Classical
set_option linter.unusedVariables false
set_option linter.unusedSimpArgs false

set_option maxRecDepth 100000 in
theorem refentry_any (C N k s : Int) (v : ByteArray) (hf : (⟨k, s, v⟩ : Opn).fits) (w : World) :
    Calls Try.prog 41 #[.agg #[.int .i64 C, .int .i64 N, .int .i64 k, .int .i64 s, .string v]] w fun e w' => e = .returned (.int .i64 (ckE ⟨C, N, ⟨k, s, v⟩⟩)) ∧ Below w.heap.size w w' := by
  have cc := fun W => refcheck k s v hf W
  have bA := (Below.refl w.heap.size w).alloc (Nat.le_refl _) (.cells #[.int .i64 C, .int .i64 N, .int .i64 k, .int .i64 s, .string v] 61)
  by_cases h1 : C < 0
  · have hE : Hid (ckE ⟨C, N, ⟨k, s, v⟩⟩ = 62) := by show _ = _; simp [ckE, h1]
    have d1 : decide (C < 0) = true := by simpa using h1
    go_enter Try.func41, Try.ntmps41
    go_wp2
    go_ret
    exact ⟨ret_int hE.out.symm, bA⟩
  · by_cases h2 : 16 ≤ C
    · have hE : Hid (ckE ⟨C, N, ⟨k, s, v⟩⟩ = 62) := by show _ = _; simp [ckE, h2]
      go_enter Try.func41, Try.ntmps41
      go_wp2
      go_ret
      exact ⟨ret_int hE.out.symm, bA⟩
    · by_cases h3 : N < 1
      · have hE : Hid (ckE ⟨C, N, ⟨k, s, v⟩⟩ = 63) := by show _ = _; simp [ckE, h1, h2, h3]
        go_enter Try.func41, Try.ntmps41
        go_wp2
        go_ret
        exact ⟨ret_int hE.out.symm, bA⟩
      · have hE : Hid (ckE ⟨C, N, ⟨k, s, v⟩⟩ = ck k s v) := by show _ = _; simp [ckE, h1, h2, h3]
        generalize ck k s v = x at *
        go_enter Try.func41, Try.ntmps41
        go_wp2_with (go_at_call 61; refine (cc _).mono ?_; rintro e w2 ⟨rfl, b2⟩)
        go_ret
        exact ⟨ret_int hE.out.symm, bA.trans (b2.mono (by simp))⟩
theorem tw_take_step {L : List En} {e p : En} {j : Nat} (h : L[j]? = some p) : tw (L.take (j + 1)) e = (tw (L.take j) e || (decide (p.c = e.c) && decide (e.n ≤ p.n))) := by
  rw [List.take_add_one, h]
  exact tw_snoc _ _ _
theorem tw_mono {L : List En} {e : En} {j i : Nat} (hji : j ≤ i) (h : tw (L.take j) e = true) : tw (L.take i) e = true := by
  unfold tw at h ⊢
  rw [List.any_eq_true] at h ⊢
  obtain ⟨x, hx, h2⟩ := h
  exact ⟨x, (List.take_subset_take_left L hji) hx, h2⟩
set_option maxRecDepth 100000 in
set_option maxHeartbeats 1000000 in
theorem reflog_any (L : List En) (a : Option Addr) (c : Nat) (room : Int) (w : World) (h : SlY yE w a L.length c L) (hf : ∀ e ∈ L, e.fits) :
    Calls Try.prog 20 #[.slice a L.length c, .int .i64 room] w fun e w' => e = .returned (.int .i64 (lg L room)) ∧ Below w.heap.size w w' := by
  have hmx := h.max
  have hcp := h.cap
  unfold maxLen at hmx
  have H := hide h
  have HF := hide hf
  clear h hf
  by_cases hl : room < (L.length : Int)
  · have hE : Hid (lg L room = 60) := by show _ = _; simp [lg, hl]
    go_enter Try.func20, Try.ntmps20
    go_wp2
    go_ret
    exact ⟨ret_int hE.out.symm, Below.refl _ _⟩
  · have HL : Hid (lg L room = lgA (L.take 0) (L.drop 0)) := by show _ = _; simp [lg, hl]
    go_enter Try.func20, Try.ntmps20
    go_wp2
    go_loopw [5] (fun i wr => ∃ j : Nat, i = .int .i64 (j : Int) ∧ j ≤ L.length ∧ Hid (lg L room = lgA (L.take j) (L.drop j)) ∧ Below w.heap.size w wr) (fun i _ => L.length - (intOf i).toNat)
    case atStart => exact ⟨0, rfl, Nat.zero_le _, HL, Below.refl _ _⟩
    case round =>
      obtain ⟨j, rfl, hj, hL, hb⟩ := hrel
      by_cases hlt : j < L.length
      · have hg : L[j]? = some L[j] := List.getElem?_eq_getElem hlt
        have hat := lgA_at hg
        have hfj := (HF.out L[j] (List.getElem_mem hlt)).ow
        obtain ⟨q, o, ea, hq, c0, c1, c2, c3, c4⟩ := (H.out.later hb).en hg
        have HE := hide (fun W (hb : Below w.heap.size w W) => (H.out.later hb).en hg)
        generalize hee : L[j] = e at *
        subst ea
        have ce := fun W => refentry_any e.c e.n e.o.k e.o.s e.o.v hfj W
        have hA := hide hat
        clear hat
        have hsz := hb.size
        have her : er (L.take j) e = if ckE e ≠ 0 then ckE e else if tw (L.take j) e then 64 else 0 := rfl
        have hER := hide her
        clear her
        have hx0 : ckE ⟨e.c, e.n, ⟨e.o.k, e.o.s, e.o.v⟩⟩ = ckE e := rfl
        rw [hx0] at ce
        generalize ckE e = x at *
        by_cases hx : x = 0
        · subst hx
          go_wp2_with (go_at_call 41; refine (ce _).mono ?_; rintro r w1 ⟨rfl, b1⟩)
          have hb1 := hb.trans (b1.mono hsz)
          clear c0 c1 c2 c3 c4
          go_loopw [7] (fun i wr => ∃ m : Nat, i = .int .i64 (m : Int) ∧ m ≤ j ∧ Hid (tw (L.take m) e = false) ∧ Below w.heap.size w wr) (fun i _ => j - (intOf i).toNat)
          case atStart => exact ⟨0, rfl, Nat.zero_le _, by show tw _ _ = _; simp [tw], hb1⟩
          case round =>
            obtain ⟨m, rfl, hm, htw, hbm⟩ := hrel
            by_cases hlm : m < j
            · have hgm : L[m]? = some L[m] := List.getElem?_eq_getElem (by omega)
              have hst := tw_take_step (e := e) hgm
              obtain ⟨q2, o2, ea2, hq2, d0, d1, d2, d3, d4⟩ := HE.out wr hbm
              cases ea2
              obtain ⟨q3, o3, ea3, hq3, f0, f1, f2, f3, f4⟩ := (H.out.later hbm).en hgm
              cases ea3
              generalize hpp : L[m] = p at *
              rw [htw.out] at hst
              have hST := hide hst
              clear hst hpp hgm hg hee
              obtain ⟨Ce, Ne, oe⟩ := e
              obtain ⟨Cp, Np, op⟩ := p
              dsimp only at *
              by_cases hc : Cp = Ce
              · subst hc
                by_cases hn : Ne ≤ Np
                · have hE : Hid (lg L room = 64) := by
                    show _ = _
                    have ht := tw_mono (L := L) (show m + 1 ≤ j by omega) (hST.out.trans (by simp [hn]))
                    rw [hL.out, hA.out, hER.out, ht]
                    simp
                  go_wp2
                  go_quiet (fail)
                  go_wp2
                  go_ret
                  exact ⟨ret_int hE.out.symm, belN hbm nq⟩
                · have hT : Hid (tw (L.take (m + 1)) ⟨Cp, Ne, oe⟩ = false) := by show _ = _; rw [hST.out]; simp [hn]
                  have hn' : decide (Ne ≤ Np) = false := by simpa using hn
                  go_wp2
                  go_quiet (fail)
                  go_wp2
                  go_round
                  case rel => exact ⟨m + 1, by go_num, by omega, hT, belN hbm nq⟩
                  case measure => simp [intOf]; omega
              · have hT : Hid (tw (L.take (m + 1)) ⟨Ce, Ne, oe⟩ = false) := by show _ = _; rw [hST.out]; simp [hc]
                have hd : decide (Cp = Ce) = false := by simpa using hc
                have hd2 : (Cp == Ce) = false := by simpa using hc
                go_wp2
                go_quiet (fail)
                go_wp2
                go_round
                case rel => exact ⟨m + 1, by go_num, by omega, hT, belN hbm nq⟩
                case measure => simp [intOf]; omega
            · obtain rfl : m = j := by omega
              have hE : Hid (lg L room = lgA (L.take (m + 1)) (L.drop (m + 1))) := by
                show _ = _
                rw [hL.out, hA.out, hER.out, htw.out]
                simp
              go_wp2
              go_round
              case rel => exact ⟨m + 1, by go_num, by omega, hE, hbm⟩
              case measure => simp [intOf]; omega
        · have hE : Hid (lg L room = x) := by show _ = _; rw [hL.out, hA.out, hER.out]; simp [hx]
          go_wp2_with (go_at_call 41; refine (ce _).mono ?_; rintro r w1 ⟨rfl, b1⟩)
          go_ret
          exact ⟨ret_int hE.out.symm, hb.trans (b1.mono hsz)⟩
      · obtain rfl : j = L.length := by omega
        have hE := hL.out
        rw [lgA_end] at hE
        have hEh := hide hE
        clear hE
        go_wp2
        go_ret
        exact ⟨ret_int hEh.out.symm, hb⟩
/-- A log and a number of its places. -/
theorem within_any (L : List En) (a : Option Addr) (c : Nat) (t : Int) (w : World) (h : SlY yE w a L.length c L) (hf : ∀ e ∈ L, e.fits) :
    Calls Try.prog 29 #[.slice a L.length c, .int .i64 t] w fun e w' => e = .returned (.int .i64 (ckB L 0 t)) ∧ Below w.heap.size w w' := by
  have cl := reflog_any L a c 256 w h hf
  have hmx := h.max
  have hcp := h.cap
  unfold maxLen at hmx
  clear h hf
  have hU : Hid (ckB L 0 t = if lg L 256 ≠ 0 then lg L 256 else if t < 0 ∨ (L.length : Int) < t then 50 else 0) := by
    show _ = _
    unfold ckB
    by_cases h1 : lg L 256 = 0
    · simp only [h1, ne_eq, not_true, if_false]
      by_cases h2 : t < 0 ∨ (L.length : Int) < t
      · rw [if_pos h2, if_pos (by omega)]
      · rw [if_neg h2, if_neg (by omega)]
    · simp [h1]
  generalize ckB L 0 t = y at *
  generalize lg L 256 = x at *
  by_cases hx : x = 0
  · subst hx
    by_cases h1 : t < 0
    · have hE : Hid (y = 50) := by show _ = _; rw [hU.out]; simp [h1]
      have d1 : decide (t < 0) = true := by simpa using h1
      go_enter Try.func29, Try.ntmps29
      go_wp2_with (go_at_call 20; refine cl.mono ?_; rintro e w1 ⟨rfl, b1⟩)
      go_ret
      exact ⟨ret_int hE.out.symm, b1⟩
    · by_cases h2 : (L.length : Int) < t
      · have hE : Hid (y = 50) := by show _ = _; rw [hU.out]; simp [h2]
        go_enter Try.func29, Try.ntmps29
        go_wp2_with (go_at_call 20; refine cl.mono ?_; rintro e w1 ⟨rfl, b1⟩)
        go_ret
        exact ⟨ret_int hE.out.symm, b1⟩
      · have hE : Hid (y = 0) := by show _ = _; rw [hU.out]; simp only [ne_eq, not_true, if_false]; rw [if_neg (by omega)]
        go_enter Try.func29, Try.ntmps29
        go_wp2_with (go_at_call 20; refine cl.mono ?_; rintro e w1 ⟨rfl, b1⟩)
        go_ret
        exact ⟨ret_int hE.out.symm, b1⟩
  · have hE : Hid (y = x) := by show _ = _; rw [hU.out]; simp [hx]
    have hd : decide (x = 0) = false := by simpa using hx
    go_enter Try.func29, Try.ntmps29
    go_wp2_with (go_at_call 20; refine cl.mono ?_; rintro e w1 ⟨rfl, b1⟩)
    go_ret
    exact ⟨ret_int hE.out.symm, b1⟩

end Go.Proofs.Ytdddbfincmodjaa

namespace Go.Proofs.Ytdddbfincmodjaa
open Go.RowKit Go.Maps
set_option linter.unusedVariables false
set_option linter.unusedSimpArgs false

theorem ops_own' {T : TypeId} {B : Nat} {w : World} {v : Value} {P : List Opn} (h : Own3 T B w v (P.map oT)) : ∃ a c, v = .slice a P.length c ∧ Ops w a P := by
  obtain ⟨a, c, rfl, _, _, h3, h4⟩ := h.form
  rw [List.length_map] at *
  refine ⟨a, c, rfl, ?_⟩
  cases a with
  | none =>
    have := (h3 rfl).1
    have hP : P = [] := by simpa using this
    subst hP
    intro i hi
    simp at hi
  | some x =>
    obtain ⟨g, rfl, _, _⟩ := h4 x rfl
    exact ops_own h
set_option maxRecDepth 100000 in
set_option maxHeartbeats 1000000 in
theorem refresults_any (L : List En) (a : Option Addr) (c n : Nat) (w : World) (h : SlY yE w a L.length c L) (hf : ∀ e ∈ L, e.fits) (hl : L.length ≤ 256) (hn : n ≤ L.length) :
    Calls Try.prog 40 #[.slice a L.length c, .int .i64 (n : Int)] w fun e w' => ∃ vr, e = .returned vr ∧ Own3 43 w.heap.size w' vr ((rsL L).take n) ∧ Below w.heap.size w w' := by
  have hmx := h.max
  have hcp := h.cap
  unfold maxLen at hmx
  have H := hide h
  have HF := hide hf
  clear h hf
  go_enter Try.func40, Try.ntmps40
  go_wp2
  go_loopw [6, 5] (fun i v wr => ∃ j : Nat, i = .int .i64 (j : Int) ∧ j ≤ n ∧ Own3 59 w.heap.size wr v (((L.take j).map En.o).map oT) ∧ Below w.heap.size w wr) (fun i _ _ => n - (intOf i).toNat)
  case atStart => exact ⟨0, rfl, Nat.zero_le _, Own3.nil _ _ _, Below.refl _ _⟩
  case round =>
    obtain ⟨j, rfl, hj, oR, hb⟩ := hrel
    by_cases hlt : j < n
    · have hg : L[j]? = some L[j] := List.getElem?_eq_getElem (by omega)
      obtain ⟨q, o, ea, hq, c0, c1, c2, c3, c4⟩ := (H.out.later hb).en hg
      have htk : ((L.take (j + 1)).map En.o).map oT = ((L.take j).map En.o).map oT ++ [oT L[j].o] := by rw [List.take_add_one, hg, List.map_append, List.map_append]; rfl
      have hln : (((L.take j).map En.o).map oT).length = j := by simp; omega
      generalize L[j] = e at *
      obtain ⟨C, N, ⟨k, s, v⟩⟩ := e
      dsimp only [oT] at c0 c1 c2 c3 c4 htk
      subst ea
      generalize ((L.take j).map En.o).map oT = X at *
      have hT := hide htk
      have hsz := hb.size
      have OR := hide oR
      have HLN := hide hln
      clear htk hg oR hln
      go_wp2_with (at_builtin; go_must (refine app3 tyOp _ rfl (.tmp 14) (.tmp 20) rfl w.heap.size X _ rfl ⟨wr.heap.size, 0, none⟩ 1 1 rfl [(k, s, v)] rfl ?yn (OR.out.alloc _) (by simp; omega) (by rw [HLN.out]; omega) ?yk))
      case yn => exact rcs_one3 _ (k, s, v) 59 wr.heap.size (At3.new wr k s v 59)
      case yk =>
        intro v3 w3 o3 hg3
        have oRR := OR.out.alloc (.cells #[.int .i64 k, .int .i64 s, .string v] 59)
        have b3 := hide ((hb.alloc hsz (.cells #[.int .i64 k, .int .i64 s, .string v] 59)).grown hg3 (by simp; omega) (fun k hk => (World.ownsRow.lt oRR k hk).1))
        have O3 := hide o3
        clear o3 hg3 oRR
        go_wp2
        go_round
        case rel => exact ⟨j + 1, by go_num, by omega, by rw [hT.out]; exact O3.out, b3.out⟩
        case measure => simp [intOf]; omega
    · obtain rfl : j = n := by omega
      obtain ⟨a1, c1, rfl, hops⟩ := ops_own' oR
      have hpl : ((L.take j).map En.o).length = j := by simp; omega
      have cr := refreplay_any ((L.take j).map En.o) a1 c1 wr hops (fun p hp => by
        obtain ⟨e, he, rfl⟩ := List.mem_map.1 hp
        exact (HF.out e (List.mem_of_mem_take he)).ow) (by rw [hpl]; omega)
      rw [show rl [] ((L.take j).map En.o) = (rsL L).take j from rsL_take L j] at cr
      generalize ((L.take j).map En.o).length = m at *
      clear oR hops hpl
      have hsz := hb.size
      go_wp2_with (go_at_call 60; refine cr.mono ?_; rintro e w6 ⟨vc, vr, rfl, o6, o7, b6⟩; have o8 := hide (o7.low hsz); have b8 := hide (hb.trans (b6.mono hsz)); clear o6 o7 b6)
      go_ret
      exact ⟨_, rfl, o8.out, b8.out⟩
set_option maxRecDepth 100000 in
theorem reflast_any (L : List En) (a : Option Addr) (c : Nat) (s : Int) (w : World) (h : SlY yE w a L.length c L) :
    Calls Try.prog 30 #[.slice a L.length c, .int .i64 s] w fun e w' => e = .returned (.int .i64 (lp L s : Nat)) ∧ w' = w := by
  have hmx := h.max
  have hcp := h.cap
  unfold maxLen at hmx
  have H := hide h
  clear h
  unfold lp
  go_enter Try.func30, Try.ntmps30
  go_wp2
  go_loopw [6, 5] (fun i p wr => ∃ j : Nat, i = .int .i64 (j : Int) ∧ j ≤ L.length ∧ p = .int .i64 (lpJ L s j : Nat) ∧ wr = w) (fun i _ _ => L.length - (intOf i).toNat)
  case atStart => exact ⟨0, rfl, Nat.zero_le _, rfl, rfl⟩
  case round =>
    obtain ⟨j, rfl, hj, rfl, hwr⟩ := hrel
    have hwr := hwr.symm
    subst hwr
    have hle := lpJ_le L s j
    by_cases hlt : j < L.length
    · have hg : L[j]? = some L[j] := List.getElem?_eq_getElem hlt
      obtain ⟨q, o, ea, hq, c0, c1, c2, c3, c4⟩ := H.out.en hg
      have hs := lpJ_succ s hg
      subst ea
      generalize L[j] = e at *
      by_cases hc : e.c = s
      · have hT : Hid (lpJ L s (j + 1) = j + 1) := by show _ = _; rw [hs, if_pos hc]
        have hd : (e.c == s) = true := by simpa using hc
        clear hs hg
        go_wp2
        go_round
        case rel => exact ⟨j + 1, by go_num, by omega, by rw [hT.out]; go_num, by first | rfl | trivial⟩
        case measure => simp [intOf]; omega
      · have hT : Hid (lpJ L s (j + 1) = lpJ L s j) := by show _ = _; rw [hs, if_neg hc]
        have hd : (e.c == s) = false := by simpa using hc
        clear hs hg
        go_wp2
        go_round
        case rel => exact ⟨j + 1, by go_num, by omega, by rw [hT.out], by first | rfl | trivial⟩
        case measure => simp [intOf]; omega
    · obtain rfl : j = L.length := by omega
      go_wp2
      go_ret
      exact ⟨rfl, rfl⟩

end Go.Proofs.Ytdddbfincmodjaa

namespace Go.Proofs.Ytdddbfincmodjaa
open Go.RowKit Go.Maps
set_option linter.unusedVariables false
set_option linter.unusedSimpArgs false

theorem OwnY.rw0 {B : Nat} {w : World} {g n c : Nat} {x : Rw} (h : OwnY yR B w (.slice (some ⟨g, 0, none⟩) n c) [x]) : w.cell? ⟨g, 0, none⟩ = some (.int .i64 x.c) ∧ w.cell? ⟨g, 1, none⟩ = some (.int .i64 x.n) ∧ w.cell? ⟨g, 2, none⟩ = some (.int .i64 x.p) ∧ w.cell? ⟨g, 3, none⟩ = some (.bool x.d) ∧ w.cell? ⟨g, 4, none⟩ = some (.int .i64 x.r.1) ∧ w.cell? ⟨g, 5, none⟩ = some (.int .i64 x.r.2.1) ∧ w.cell? ⟨g, 6, none⟩ = some (.string x.r.2.2) := by
  have := h.rw (i := 0) rfl
  simpa using this
/-- The row of a place, as the document tells it. -/
def rowD (R : List Rs) (i : Nat) (d : Bool) (e : En) : Rw := ⟨e.c, e.n, (i : Int) + 1, d, if d then R.getD i zR else zR⟩
theorem rowD_eq (R : List Rs) (k i : Nat) (e : En) : rowD R i (decide (i < k)) e = rwA R k i e := by
  unfold rowD rwA
  by_cases h : i < k <;> simp [h]
set_option maxRecDepth 100000 in
set_option maxHeartbeats 1000000 in
theorem refrow_any (L : List En) (a : Option Addr) (c i : Nat) (d : Bool) (e : En) (w : World) (h : SlY yE w a L.length c L) (hf : ∀ e ∈ L, e.fits) (hl : L.length ≤ 256) (he : L[i]? = some e) :
    Calls Try.prog 31 #[.slice a L.length c, .int .i64 ((i : Int) + 1), .bool d] w fun r w' => r = .returned (rowD (rsL L) i d e).val ∧ Below w.heap.size w w' := by
  have hi := (List.getElem?_eq_some_iff.1 he).1
  have hmx := h.max
  have hcp := h.cap
  unfold maxLen at hmx
  obtain ⟨q, o, ea, hq, c0, c1, c2, c3, c4⟩ := h.en he
  subst ea
  have H := hide h
  have HF := hide hf
  have HR : Hid (∀ x, ((rsL L).take (i + 1))[i]? = some x → (rsL L).getD i zR = x) := by
    intro x hx
    rw [List.getElem?_take, if_pos (by omega)] at hx
    rw [List.getD_eq_getElem?_getD, hx]
    rfl
  have HRl : Hid (∃ x, ((rsL L).take (i + 1))[i]? = some x) := ⟨_, List.getElem?_eq_getElem (by rw [List.length_take, rsL_length]; omega)⟩
  clear h hf he c2 c3 c4
  have hqn : ¬ q = w.heap.size := by omega
  have hqn2 : ¬ q = w.heap.size + 1 := by omega
  have hi0 : (0 : Int) ≤ (i : Int) := by omega
  have hi1 : (i : Int) < (L.length : Int) := by omega
  have hi2 : (i : Int) ≤ (L.length : Int) := by omega
  have hw2 : IntKind.i64.wrap (i : Int) = (i : Int) := by rw [IntKind.wrap_i64]; omega
  have hw3 : (i : Int) + 1 - 1 = (i : Int) := by omega
  have hw1 : IntKind.i64.wrap ((i : Int) + 1 - 1) = (i : Int) := by rw [IntKind.wrap_i64]; omega
  cases d with
  | false =>
    go_enter Try.func31, Try.ntmps31
    go_wp2
    go_region_held3 (fun v' => v'.cell? ⟨q, o + i * 5, none⟩ = some (.int .i64 e.c) ∧ v'.cell? ⟨q, o + i * 5 + 1, none⟩ = some (.int .i64 e.n)) (first | go_keep | (exact ⟨by go_simp, by go_simp⟩) | go_simp) (fail)
    go_wp2
    refine bodyPost_ret (v := .agg #[.int .i64 e.c, .int .i64 e.n, .int .i64 ((i : Int) + 1), .bool false, .int .i64 0, .int .i64 0, .string ByteArray.empty]) (by simp [results, Try.results31, go_sem] <;> rfl) rfl ⟨rfl, ?_⟩
    exact (((Below.refl _ w).alloc (Nat.le_refl _) _).alloc (by simp) _).drew
  | true =>
    have bZ := (Below.refl w.heap.size w).alloc (Nat.le_refl _) (.cells #[.int .i64 0, .int .i64 0, .int .i64 0, .bool false, .int .i64 0, .int .i64 0, .string ByteArray.empty] 57)
    have bX := ((Below.refl w.heap.size w).alloc (Nat.le_refl _) (.cells #[.int .i64 0, .int .i64 0, .int .i64 0, .bool false, .int .i64 0, .int .i64 0, .string ByteArray.empty] 57)).alloc (by simp) (.cells #[.int .i64 e.c, .int .i64 e.n, .int .i64 ((i : Int) + 1), .bool true, .int .i64 0, .int .i64 0, .string ByteArray.empty] 57)
    have cr := refresults_any L _ c (i + 1) _ (H.out.later bX.drew) HF.out hl (by omega)
    rw [show (((i + 1 : Nat)) : Int) = (i : Int) + 1 by omega] at cr
    have O1 := hide ((own_box kR w.heap.size w zRw (Nat.le_refl _)).alloc (.cells #[.int .i64 e.c, .int .i64 e.n, .int .i64 ((i : Int) + 1), .bool true, .int .i64 0, .int .i64 0, .string ByteArray.empty] 57))
    have O2 := hide (own_box kR w.heap.size (w.alloc (.cells #[.int .i64 0, .int .i64 0, .int .i64 0, .bool false, .int .i64 0, .int .i64 0, .string ByteArray.empty] 57)) ⟨e.c, e.n, (i : Int) + 1, true, zR⟩ (by simp))
    have BX := hide bX
    clear bZ bX
    go_enter Try.func31, Try.ntmps31
    go_wp2
    go_region_held3 (fun v' => v'.cell? ⟨q, o + i * 5, none⟩ = some (.int .i64 e.c) ∧ v'.cell? ⟨q, o + i * 5 + 1, none⟩ = some (.int .i64 e.n)) (first | go_keep | (exact ⟨by go_simp, by go_simp⟩) | go_simp) (fail)
    go_wp2_with fail
    refine cr.mono ?_
    rintro r w1 ⟨vr, rfl, o1, b1⟩
    obtain ⟨x, hx⟩ := HRl.out
    have hrx := HR.out x hx
    obtain ⟨av, cv, rfl, hv1, hv2, hv3, hv4⟩ := o1.form
    have hlen : ((rsL L).take (i + 1)).length = i + 1 := by rw [List.length_take, rsL_length]; omega
    obtain ⟨b, rfl⟩ : ∃ b, av = some ⟨b, 0, none⟩ := by
      cases av with
      | none => have := (hv3 rfl).1; rw [this] at hlen; simp at hlen
      | some z => obtain ⟨b, rfl, _⟩ := hv4 z rfl; exact ⟨b, rfl⟩
    obtain ⟨b', eb, hb1, hb2⟩ := hv4 _ rfl
    cases eb
    obtain ⟨r0, r1, r2⟩ := o1.cell i x hx
    obtain ⟨s0, s1, s2⟩ := x
    dsimp only at r0 r1 r2
    rw [hlen] at hv1 ⊢
    unfold maxLen at hv2
    have hE : Hid ((rowD (rsL L) i true e).val = .agg #[.int .i64 e.c, .int .i64 e.n, .int .i64 ((i : Int) + 1), .bool true, .int .i64 s0, .int .i64 s1, .string s2]) := by
      show _ = _
      unfold rowD
      rw [hrx]
      rfl
    have P1 : Hid (OwnY yR w.heap.size w1 (.slice (some ⟨w.heap.size, 0, none⟩) 1 1) [zRw]) := O1.out.drew.grow b1
    have P2 : Hid (OwnY yR w.heap.size w1 (.slice (some ⟨w.heap.size + 1, 0, none⟩) 1 1) [⟨e.c, e.n, (i : Int) + 1, true, zR⟩]) := by
      have O3 := O2.out
      rw [World.size_alloc] at O3
      exact O3.drew.grow b1
    have bb1 := hide (BX.out.drew.trans (b1.mono (by simp; omega)))
    have hz1 := b1.size
    have hz1' : w.heap.size + 1 + 1 ≤ w1.heap.size := by simpa using hz1
    clear o1 b1 hv3 hv4 hrx hx cr O1 O2 BX hz1 hlen
    go_wp2_with (first
      | (refine storeY kR _ rfl 43 (.tmp 33) (.tmp 32) rfl w.heap.size (w.heap.size + 1) 1 1 [⟨e.c, e.n, (i : Int) + 1, true, zR⟩] 0 4 _ ⟨e.c, e.n, (i : Int) + 1, true, (s0, s1, s2)⟩ _ rfl rfl rfl (by kernel_rfl) (by exact (by decide : 7 ≤ 7)) rfl P2.out ?_; intro w2 o2 u2 z2; obtain ⟨y0, y1, y2, y3, y4, y5, y6⟩ := OwnY.rw0 o2; dsimp only at y0 y1 y2 y3 y4 y5 y6; have P3 := hide (P1.out.upd1 u2 (fun g e => by cases e; show ¬ w.heap.size = w.heap.size + 1; omega)); clear o2)
      | (refine storeY kR _ rfl 57 (.tmp 6) (.tmp 34) rfl w.heap.size w.heap.size 1 1 [zRw] 0 0 _ ⟨e.c, e.n, (i : Int) + 1, true, (s0, s1, s2)⟩ _ rfl rfl rfl (by kernel_rfl) (by exact (by decide : 7 ≤ 7)) rfl P3.out ?_; intro w3 o3 u3 z3; obtain ⟨x0, x1, x2, x3, x4, x5, x6⟩ := OwnY.rw0 o3; dsimp only at x0 x1 x2 x3 x4 x5 x6; clear o3)
      | go_in)
    refine bodyPost_ret (v := .agg #[.int .i64 e.c, .int .i64 e.n, .int .i64 ((i : Int) + 1), .bool true, .int .i64 s0, .int .i64 s1, .string s2]) (by simp [results, Try.results31, go_sem, *] <;> rfl) rfl ⟨by rw [hE.out], ?_⟩
    exact bb1.out.trans ((u2.below (by omega) (fun k e => by subst e; omega)).trans (u3.below (by omega) (fun k e => by subst e; omega)))

end Go.Proofs.Ytdddbfincmodjaa

namespace Go.Proofs.Ytdddbfincmodjaa
open Go.RowKit Go.Maps
set_option linter.unusedVariables false
set_option linter.unusedSimpArgs false

theorem lo_place {L : List En} {n : Nat} {s : Int} {i : Nat} (h : lp L s = i + 1) : ∃ e, L[i]? = some e ∧ lo (rws L n) s = some (rwA (rsL L) n i e) := by
  have hle := lpJ_le L s L.length
  have hi : i < L.length := by unfold lp at h; omega
  refine ⟨_, List.getElem?_eq_getElem hi, ?_⟩
  rw [lo_all, h]
  simp only [Nat.add_eq_zero_iff, Nat.one_ne_zero, and_false, if_false, Nat.add_sub_cancel]
  exact rws_get n (List.getElem?_eq_getElem hi)
theorem lo_noplace {L : List En} {n : Nat} {s : Int} (h : lp L s = 0) : lo (rws L n) s = none := by rw [lo_all, h]; rfl
theorem rowD_val (R : List Rs) (i : Nat) (d : Bool) (e : En) : (rowD R i d e).val = .agg #[.int .i64 e.c, .int .i64 e.n, .int .i64 ((i : Int) + 1), .bool d, .int .i64 (if d then R.getD i zR else zR).1, .int .i64 (if d then R.getD i zR else zR).2.1, .string (if d then R.getD i zR else zR).2.2] := rfl
set_option maxRecDepth 100000 in
set_option maxHeartbeats 1000000 in
theorem reftable_any (L : List En) (a : Option Addr) (c : Nat) (k : Int) (w : World) (h : SlY yE w a L.length c L) (hf : ∀ e ∈ L, e.fits) :
    Calls Try.prog 11 #[.slice a L.length c, .int .i64 k] w fun e w' => ∃ v, e = .returned (.tuple #[v, .int .i64 (ckB L 0 k)]) ∧ OwnY yR w.heap.size w' v (tbl L k) ∧ Below w.heap.size w w' := by
  have ck := within_any L a c k w h hf
  have hmx := h.max
  have hcp := h.cap
  unfold maxLen at hmx
  have H := hide h
  have HF := hide hf
  clear h hf
  by_cases hx : ckB L 0 k = 0
  · obtain ⟨h1, _, h3, h4⟩ := ckB_zero hx
    have hT : Hid (tbl L k = tb L k.toNat 16) := by show _ = _; simp [tbl, hx]
    have hl : L.length ≤ 256 := by have := (lg_zero h1).1; omega
    rw [hx] at ck ⊢
    obtain ⟨n, rfl⟩ : ∃ n : Nat, k = (n : Int) := ⟨k.toNat, by omega⟩
    rw [Int.toNat_natCast] at hT
    have hn : n ≤ L.length := by omega
    clear hx h1 h3 h4
    have HS := hide (tb_succ L n)
    have HLN := hide (tb_length_le L n)
    go_enter Try.func11, Try.ntmps11
    go_wp2_with (go_at_call 29; refine ck.mono ?_; rintro e w1 ⟨rfl, b1⟩)
    go_loopw [8, 7] (fun i v wr => ∃ j : Nat, i = .int .i64 (j : Int) ∧ j ≤ 16 ∧ OwnY yR w.heap.size wr v (tb L n j) ∧ Below w.heap.size w wr) (fun i _ _ => 16 - (intOf i).toNat)
    case atStart => exact ⟨0, rfl, by omega, OwnY.nil _ _ _, b1⟩
    case round =>
      obtain ⟨j, rfl, hj, oT, hb⟩ := hrel
      have hsz := hb.size
      by_cases hlt : j < 16
      · have hs := HS.out j
        have hln := HLN.out j
        have cl := reflast_any L a c (j : Int) wr (H.out.later hb)
        cases hlp : lp L (j : Int) with
        | zero =>
          rw [lo_noplace hlp] at hs
          rw [hlp] at cl
          have TS := hide hs
          have OT := hide oT
          clear oT hs hlp
          go_wp2_with (go_at_call 30; refine cl.mono ?_; rintro e w2 ⟨rfl, hw2⟩; subst hw2)
          go_round
          case rel => exact ⟨j + 1, by go_num, by omega, by rw [TS.out]; exact OT.out, hb⟩
          case measure => simp [intOf]; omega
        | succ i =>
          obtain ⟨e, he, hlo⟩ := lo_place (n := n) hlp
          rw [hlo] at hs
          rw [hlp, show (((i + 1 : Nat)) : Int) = (i : Int) + 1 by omega] at cl
          have hi := (List.getElem?_eq_some_iff.1 he).1
          have cr := refrow_any L a c i (decide (i < n)) e wr (H.out.later hb) HF.out hl he
          have hrv := rowD_eq (rsL L) n i e
          rw [hrv] at cr
          generalize rwA (rsL L) n i e = r at *
          obtain ⟨C, N, P, d, s0, s1, s2⟩ := r
          dsimp only [Rw.val] at cr hs
          have TS := hide hs
          have OT := hide oT
          have hdd : decide ((i : Int) + 1 ≤ (n : Int)) = decide (i < n) := by rw [decide_eq_decide]; omega
          clear oT hs hlp hlo he hrv
          have SB := fun (W : World) => hide (sl_box (Y := yR) W ⟨C, N, P, d, s0, s1, s2⟩ 57)
          by_cases hin : i < n
          all_goals
            simp only [hin, decide_true, decide_false] at cr hdd
            go_wp2_with (first
              | (go_at_call 30; refine cl.mono ?_; rintro e w2 ⟨rfl, hw2⟩; subst hw2)
              | (go_at_call 31; refine cr.mono ?_; rintro e w3 ⟨rfl, b3⟩; have hz3 := b3.size)
              | (at_builtin; go_must (refine appY kR _ rfl (.tmp 25) (.tmp 32) rfl w.heap.size (tb L n j) _ rfl (some ⟨w3.heap.size, 0, none⟩) 1 1 rfl [⟨C, N, P, d, s0, s1, s2⟩] (SB w3).out ((OT.out.grow b3).alloc _) (by simp; omega) (by unfold maxLen; omega) (by show (_ + 1) * 64 ≤ _; omega) ?_; intro v5 w5 o5 g5 _; have oA := ((OT.out.grow b3).alloc (.cells #[.int .i64 C, .int .i64 N, .int .i64 P, .bool d, .int .i64 s0, .int .i64 s1, .string s2] 57)); have b5 := hide (oA.grown (hb.trans ((b3.mono hsz).trans ((Below.refl _ _).alloc (by omega) _))) g5 (by simp; omega)); have O5 := hide o5; clear o5 g5 oA)))
            go_round
            case rel => exact ⟨j + 1, by go_num, by omega, by rw [TS.out]; exact O5.out, b5.out⟩
            case measure => simp [intOf]; omega
      · obtain rfl : j = 16 := by omega
        have OT := hide oT
        clear oT
        go_wp2
        go_ret2
        exact ⟨_, rfl, by rw [hT.out]; exact OT.out, hb⟩
  · have hT : Hid (tbl L k = []) := by show _ = _; simp [tbl, hx]
    generalize ckB L 0 k = x at *
    go_enter Try.func11, Try.ntmps11
    go_wp2_with (go_at_call 29; refine ck.mono ?_; rintro e w1 ⟨rfl, b1⟩)
    go_ret2
    exact ⟨_, rfl, by rw [hT.out]; exact OwnY.nil _ _ _, b1⟩

end Go.Proofs.Ytdddbfincmodjaa

namespace Go.Proofs.Ytdddbfincmodjaa
open Go.RowKit Go.Maps
set_option linter.unusedVariables false
set_option linter.unusedSimpArgs false

set_option maxRecDepth 100000 in
set_option maxHeartbeats 4000000 in
theorem refask_any (L : List En) (a : Option Addr) (c : Nat) (k C N : Int) (w : World) (h : SlY yE w a L.length c L) (hf : ∀ e ∈ L, e.fits) :
    Calls Try.prog 17 #[.slice a L.length c, .int .i64 k, .int .i64 C, .int .i64 N] w fun e w' => e = .returned (.tuple #[.int .i64 (akV L k C N).1, rV (akV L k C N).2, .int .i64 (akE L k C N)]) ∧ Below w.heap.size w w' := by
  have bB := (Below.refl w.heap.size w).alloc (Nat.le_refl _) (.cells #[.int .i64 0, .int .i64 0, .string ByteArray.empty] 43)
  have ck := within_any L a c k _ (h.later bB) hf
  have hmx := h.max
  have hcp := h.cap
  unfold maxLen at hmx
  have H := hide (h.later bB)
  have HF := hide hf
  clear h hf
  by_cases hx : ckB L 0 k = 0
  · obtain ⟨h1, _, h3, h4⟩ := ckB_zero hx
    have hl : L.length ≤ 256 := by have := (lg_zero h1).1; omega
    rw [hx] at ck
    by_cases g1 : C < 0
    · have hE : Hid (akE L k C N = 62) := by show _ = _; simp [akE, hx, ckR, g1]
      have hVV : Hid (akV L k C N = (0, zR)) := by show _ = _; unfold akV; rw [hE.out]; simp
      have d1 : decide (C < 0) = true := by simpa using g1
      clear hx h1 h3 h4
      go_enter Try.func17, Try.ntmps17
      go_wp2_with (go_at_call 29; refine ck.mono ?_; rintro e w1 ⟨rfl, b1⟩; have hz := b1.size; obtain ⟨⟨q0, q1, q2⟩, p0, p1, p2⟩ := box3 b1 (by simp); have bb1 : Below w.heap.size w w1 := bB.trans (b1.mono (by simp)))
      refine bodyPost_ret (v := .tuple #[.int .i64 0, rV zR, .int .i64 62]) (by simp [results, Try.results17, go_sem, rV, zR, *] <;> rfl) rfl ⟨by rw [hVV.out, hE.out], ?_⟩
      exact ((bb1.setCell (p := ⟨w.heap.size, 0, none⟩) (Nat.le_refl _) _).setCell (p := ⟨w.heap.size, 1, none⟩) (Nat.le_refl _) _).setCell (p := ⟨w.heap.size, 2, none⟩) (Nat.le_refl _) _
    · by_cases g2 : 16 ≤ C
      · have hE : Hid (akE L k C N = 62) := by show _ = _; simp [akE, hx, ckR, g2]
        have hVV : Hid (akV L k C N = (0, zR)) := by show _ = _; unfold akV; rw [hE.out]; simp
        clear hx h1 h3 h4
        go_enter Try.func17, Try.ntmps17
        go_wp2_with (go_at_call 29; refine ck.mono ?_; rintro e w1 ⟨rfl, b1⟩; have hz := b1.size; obtain ⟨⟨q0, q1, q2⟩, p0, p1, p2⟩ := box3 b1 (by simp); have bb1 : Below w.heap.size w w1 := bB.trans (b1.mono (by simp)))
        refine bodyPost_ret (v := .tuple #[.int .i64 0, rV zR, .int .i64 62]) (by simp [results, Try.results17, go_sem, rV, zR, *] <;> rfl) rfl ⟨by rw [hVV.out, hE.out], ?_⟩
        exact ((bb1.setCell (p := ⟨w.heap.size, 0, none⟩) (Nat.le_refl _) _).setCell (p := ⟨w.heap.size, 1, none⟩) (Nat.le_refl _) _).setCell (p := ⟨w.heap.size, 2, none⟩) (Nat.le_refl _) _
      · by_cases g3 : N < 1
        · have hE : Hid (akE L k C N = 63) := by show _ = _; simp [akE, hx, ckR, g1, g2, g3]
          have hVV : Hid (akV L k C N = (0, zR)) := by show _ = _; unfold akV; rw [hE.out]; simp
          clear hx h1 h3 h4
          go_enter Try.func17, Try.ntmps17
          go_wp2_with (go_at_call 29; refine ck.mono ?_; rintro e w1 ⟨rfl, b1⟩; have hz := b1.size; obtain ⟨⟨q0, q1, q2⟩, p0, p1, p2⟩ := box3 b1 (by simp); have bb1 : Below w.heap.size w w1 := bB.trans (b1.mono (by simp)))
          refine bodyPost_ret (v := .tuple #[.int .i64 0, rV zR, .int .i64 63]) (by simp [results, Try.results17, go_sem, rV, zR, *] <;> rfl) rfl ⟨by rw [hVV.out, hE.out], ?_⟩
          exact ((bb1.setCell (p := ⟨w.heap.size, 0, none⟩) (Nat.le_refl _) _).setCell (p := ⟨w.heap.size, 1, none⟩) (Nat.le_refl _) _).setCell (p := ⟨w.heap.size, 2, none⟩) (Nat.le_refl _) _
        · have hE : Hid (akE L k C N = 0) := by show _ = _; simp [akE, hx, ckR, g1, g2, g3]
          have hV : Hid (akV L k C N = vd (lo (rws L k.toNat) C) N) := by show _ = _; unfold akV; rw [hE.out]; simp
          obtain ⟨n, rfl⟩ : ∃ n : Nat, k = (n : Int) := ⟨k.toNat, by omega⟩
          rw [Int.toNat_natCast] at hV
          have hn : n ≤ L.length := by omega
          clear hx h1 h3 h4
          cases hlp : lp L C with
          | zero =>
            have hVV : Hid (akV L (n : Int) C N = (1, zR)) := by show _ = _; rw [hV.out, lo_noplace hlp]; rfl
            clear hV
            go_enter Try.func17, Try.ntmps17
            go_wp2_with (first
              | (go_at_call 29; refine ck.mono ?_; rintro e w1 ⟨rfl, b1⟩; have hz := b1.size; obtain ⟨⟨q0, q1, q2⟩, p0, p1, p2⟩ := box3 b1 (by simp); have bb1 : Below w.heap.size w w1 := bB.trans (b1.mono (by simp)); have cl := fun hs => reflast_any L a c C w1 hs)
              | (go_at_call 30; rw [hlp] at cl; refine (cl (H.out.later b1)).mono ?_; rintro e w5 ⟨rfl, hw5⟩; subst hw5))
            refine bodyPost_ret (v := .tuple #[.int .i64 1, rV zR, .int .i64 0]) (by simp [results, Try.results17, go_sem, rV, zR, *] <;> rfl) rfl ⟨by rw [hVV.out, hE.out], ?_⟩
            exact ((bb1.setCell (p := ⟨w.heap.size, 0, none⟩) (Nat.le_refl _) _).setCell (p := ⟨w.heap.size, 1, none⟩) (Nat.le_refl _) _).setCell (p := ⟨w.heap.size, 2, none⟩) (Nat.le_refl _) _
          | succ i =>
            obtain ⟨e, he, hlo⟩ := lo_place (n := n) hlp
            have hi := (List.getElem?_eq_some_iff.1 he).1
            have hi0 : (0 : Int) ≤ (i : Int) := by omega
            have hi1 : (i : Int) < (L.length : Int) := by omega
            have hi2 : (i : Int) ≤ (L.length : Int) := by omega
            have hw2 : IntKind.i64.wrap (i : Int) = (i : Int) := by rw [IntKind.wrap_i64]; omega
            have hw3 : (i : Int) + 1 - 1 = (i : Int) := by omega
            have hne0 : ((i : Int) + 1 == 0) = false := by simp; omega
            have hne1 : ¬ (i : Int) + 1 = 0 := by omega
            have hcast : ((i + 1 : Nat) : Int) = (i : Int) + 1 := by omega
            rw [hlo] at hV
            have hV2 : Hid (akV L (n : Int) C N = if e.n < N then (1, zR) else if N < e.n then (4, zR) else if i < n then (3, (rsL L).getD i zR) else (2, zR)) := by
              show _ = _
              rw [hV.out]
              unfold vd rwA
              by_cases z1 : e.n < N
              · simp [z1]
              · by_cases z2 : N < e.n
                · simp [z1, z2]
                · by_cases z3 : i < n <;> simp [z1, z2, z3]
            have HE := hide he
            clear hV hlo
            by_cases hn1 : e.n < N
            · have hVV : Hid (akV L (n : Int) C N = (1, zR)) := by show _ = _; rw [hV2.out]; simp [hn1]
              clear hV2
              go_enter Try.func17, Try.ntmps17
              go_wp2_with (first
                | (go_at_call 29; refine ck.mono ?_; rintro e w1 ⟨rfl, b1⟩; have hz := b1.size; obtain ⟨⟨q0, q1, q2⟩, p0, p1, p2⟩ := box3 b1 (by simp); have bb1 : Below w.heap.size w w1 := bB.trans (b1.mono (by simp)); have cl := fun hs => reflast_any L a c C w1 hs)
                | (go_at_call 30; rw [hlp] at cl; refine (cl (H.out.later b1)).mono ?_; rintro e w5 ⟨rfl, hw5⟩; subst hw5; rw [hcast]; obtain ⟨q, o, ea, hq, c0, c1, c2, c3, c4⟩ := (H.out.later b1).en HE.out; cases ea))
              refine bodyPost_ret (v := .tuple #[.int .i64 1, rV zR, .int .i64 0]) (by simp [results, Try.results17, go_sem, rV, zR, *] <;> rfl) rfl ⟨by rw [hVV.out, hE.out], ?_⟩
              exact ((bb1.setCell (p := ⟨w.heap.size, 0, none⟩) (Nat.le_refl _) _).setCell (p := ⟨w.heap.size, 1, none⟩) (Nat.le_refl _) _).setCell (p := ⟨w.heap.size, 2, none⟩) (Nat.le_refl _) _
            · by_cases hn2 : N < e.n
              · have hVV : Hid (akV L (n : Int) C N = (4, zR)) := by show _ = _; rw [hV2.out]; simp [hn1, hn2]
                clear hV2
                go_enter Try.func17, Try.ntmps17
                go_wp2_with (first
                  | (go_at_call 29; refine ck.mono ?_; rintro e w1 ⟨rfl, b1⟩; have hz := b1.size; obtain ⟨⟨q0, q1, q2⟩, p0, p1, p2⟩ := box3 b1 (by simp); have bb1 : Below w.heap.size w w1 := bB.trans (b1.mono (by simp)); have cl := fun hs => reflast_any L a c C w1 hs)
                  | (go_at_call 30; rw [hlp] at cl; refine (cl (H.out.later b1)).mono ?_; rintro e w5 ⟨rfl, hw5⟩; subst hw5; rw [hcast]; obtain ⟨q, o, ea, hq, c0, c1, c2, c3, c4⟩ := (H.out.later b1).en HE.out; cases ea))
                refine bodyPost_ret (v := .tuple #[.int .i64 4, rV zR, .int .i64 0]) (by simp [results, Try.results17, go_sem, rV, zR, *] <;> rfl) rfl ⟨by rw [hVV.out, hE.out], ?_⟩
                exact ((bb1.setCell (p := ⟨w.heap.size, 0, none⟩) (Nat.le_refl _) _).setCell (p := ⟨w.heap.size, 1, none⟩) (Nat.le_refl _) _).setCell (p := ⟨w.heap.size, 2, none⟩) (Nat.le_refl _) _
              · by_cases hin : i < n
                · have hVV : Hid (akV L (n : Int) C N = (3, (rsL L).getD i zR)) := by show _ = _; rw [hV2.out]; simp [hn1, hn2, hin]
                  clear hV2
                  obtain ⟨C1, N1, P1, d1, s0, s1, s2, hrv, hgd⟩ : ∃ C1 N1 P1 d1 s0 s1 s2, rowD (rsL L) i true e = ⟨C1, N1, P1, d1, s0, s1, s2⟩ ∧ (rsL L).getD i zR = (s0, s1, s2) := ⟨_, _, _, _, _, _, _, rfl, rfl⟩
                  rw [hgd] at hVV
                  clear hgd
                  go_enter Try.func17, Try.ntmps17
                  have hin2 : (i : Int) + 1 ≤ (n : Int) := by omega
                  go_wp2_with (first
                    | (go_at_call 29; refine ck.mono ?_; rintro r w1 ⟨rfl, b1⟩; have hz := b1.size; have cl := fun hs => reflast_any L a c C w1 hs)
                    | (go_at_call 30; rw [hlp] at cl; refine (cl (H.out.later b1)).mono ?_; rintro r w5 ⟨rfl, hw5⟩; subst hw5; rw [hcast]; have cr := refrow_any L a c i true e w5 (H.out.later b1) HF.out hl HE.out; obtain ⟨q, o, ea, hq, c0, c1, c2, c3, c4⟩ := (H.out.later b1).en HE.out; cases ea)
                    | (go_at_call 31; rw [hrv] at cr; dsimp only [Rw.val] at cr; refine cr.mono ?_; rintro r w2 ⟨rfl, b2⟩; have b3 := b1.trans (b2.mono hz); obtain ⟨⟨q0, q1, q2⟩, p0, p1, p2⟩ := box3 b3 (by simp); have bb1 : Below w.heap.size w w2 := bB.trans (b3.mono (by simp)); have hz2 := b3.size; simp only [World.size_alloc] at hz2; have hzz : w.heap.size < w2.heap.size := (by omega); have A := (fun ob => (Below.refl w2.heap.size w2).alloc (Nat.le_refl _) ob); have q0 := (fun ob => ((A ob).cell (p := ⟨w.heap.size, 0, none⟩) hzz).trans q0); have q1 := (fun ob => ((A ob).cell (p := ⟨w.heap.size, 1, none⟩) hzz).trans q1); have q2 := (fun ob => ((A ob).cell (p := ⟨w.heap.size, 2, none⟩) hzz).trans q2); have p0 := (fun ob => ((A ob).frozen (p := ⟨w.heap.size, 0, none⟩) hzz).trans p0); have p1 := (fun ob => ((A ob).frozen (p := ⟨w.heap.size, 1, none⟩) hzz).trans p1); have p2 := (fun ob => ((A ob).frozen (p := ⟨w.heap.size, 2, none⟩) hzz).trans p2); clear b2 b3 b1 hz A cr cl))
                  have k4 : (w2.alloc (.cells #[.int .i64 C1, .int .i64 N1, .int .i64 P1, .bool d1, .int .i64 s0, .int .i64 s1, .string s2] 57)).cell? ⟨w2.heap.size, 4, none⟩ = some (.int .i64 s0) := by simp
                  have k5 : (w2.alloc (.cells #[.int .i64 C1, .int .i64 N1, .int .i64 P1, .bool d1, .int .i64 s0, .int .i64 s1, .string s2] 57)).cell? ⟨w2.heap.size, 5, none⟩ = some (.int .i64 s1) := by simp
                  have k6 : (w2.alloc (.cells #[.int .i64 C1, .int .i64 N1, .int .i64 P1, .bool d1, .int .i64 s0, .int .i64 s1, .string s2] 57)).cell? ⟨w2.heap.size, 6, none⟩ = some (.string s2) := by simp
                  have bbW : Below w.heap.size w (w2.alloc (.cells #[.int .i64 C1, .int .i64 N1, .int .i64 P1, .bool d1, .int .i64 s0, .int .i64 s1, .string s2] 57)) := bb1.alloc (by omega) _
                  have q0 := q0 (.cells #[.int .i64 C1, .int .i64 N1, .int .i64 P1, .bool d1, .int .i64 s0, .int .i64 s1, .string s2] 57)
                  have q1 := q1 (.cells #[.int .i64 C1, .int .i64 N1, .int .i64 P1, .bool d1, .int .i64 s0, .int .i64 s1, .string s2] 57)
                  have q2 := q2 (.cells #[.int .i64 C1, .int .i64 N1, .int .i64 P1, .bool d1, .int .i64 s0, .int .i64 s1, .string s2] 57)
                  have p0 := p0 (.cells #[.int .i64 C1, .int .i64 N1, .int .i64 P1, .bool d1, .int .i64 s0, .int .i64 s1, .string s2] 57)
                  have p1 := p1 (.cells #[.int .i64 C1, .int .i64 N1, .int .i64 P1, .bool d1, .int .i64 s0, .int .i64 s1, .string s2] 57)
                  have p2 := p2 (.cells #[.int .i64 C1, .int .i64 N1, .int .i64 P1, .bool d1, .int .i64 s0, .int .i64 s1, .string s2] 57)
                  have hne : w.heap.size ≠ w2.heap.size := by omega
                  have hne2 : w2.heap.size ≠ w.heap.size := by omega
                  clear c0 c1 c2 c3 c4
                  generalize (w2.alloc (.cells #[.int .i64 C1, .int .i64 N1, .int .i64 P1, .bool d1, .int .i64 s0, .int .i64 s1, .string s2] 57)) = W at *
                  generalize w2.heap.size = g7 at *
                  go_region_held3 (fun v' => v'.cell? ⟨g7, 4, none⟩ = some (.int .i64 s0) ∧ v'.cell? ⟨g7, 5, none⟩ = some (.int .i64 s1) ∧ v'.cell? ⟨g7, 6, none⟩ = some (.string s2)) (first | go_keep | (exact ⟨by go_simp, by go_simp, by go_simp⟩) | go_simp) (fail)
                  go_wp2
                  refine bodyPost_ret (v := .tuple #[.int .i64 3, rV (s0, s1, s2), .int .i64 0]) (by simp [results, Try.results17, go_sem, rV, zR, *] <;> rfl) rfl ⟨by rw [hVV.out, hE.out], ?_⟩
                  exact (((bbW.drew).setCell (p := ⟨w.heap.size, 0, none⟩) (Nat.le_refl _) _).setCell (p := ⟨w.heap.size, 1, none⟩) (Nat.le_refl _) _).setCell (p := ⟨w.heap.size, 2, none⟩) (Nat.le_refl _) _
                · have hVV : Hid (akV L (n : Int) C N = (2, zR)) := by show _ = _; rw [hV2.out]; simp [hn1, hn2, hin]
                  have hin2 : ¬ (i : Int) + 1 ≤ (n : Int) := by omega
                  clear hV2
                  go_enter Try.func17, Try.ntmps17
                  go_wp2_with (first
                    | (go_at_call 29; refine ck.mono ?_; rintro e w1 ⟨rfl, b1⟩; have hz := b1.size; obtain ⟨⟨q0, q1, q2⟩, p0, p1, p2⟩ := box3 b1 (by simp); have bb1 : Below w.heap.size w w1 := bB.trans (b1.mono (by simp)); have cl := fun hs => reflast_any L a c C w1 hs)
                    | (go_at_call 30; rw [hlp] at cl; refine (cl (H.out.later b1)).mono ?_; rintro e w5 ⟨rfl, hw5⟩; subst hw5; rw [hcast]; obtain ⟨q, o, ea, hq, c0, c1, c2, c3, c4⟩ := (H.out.later b1).en HE.out; cases ea))
                  refine bodyPost_ret (v := .tuple #[.int .i64 2, rV zR, .int .i64 0]) (by simp [results, Try.results17, go_sem, rV, zR, *] <;> rfl) rfl ⟨by rw [hVV.out, hE.out], ?_⟩
                  exact ((bb1.setCell (p := ⟨w.heap.size, 0, none⟩) (Nat.le_refl _) _).setCell (p := ⟨w.heap.size, 1, none⟩) (Nat.le_refl _) _).setCell (p := ⟨w.heap.size, 2, none⟩) (Nat.le_refl _) _
  · have hE : Hid (akE L k C N = ckB L 0 k) := by show _ = _; simp [akE, hx]
    have hVV : Hid (akV L k C N = (0, zR)) := by show _ = _; unfold akV; rw [hE.out]; simp [hx]
    generalize ckB L 0 k = x at *
    go_enter Try.func17, Try.ntmps17
    go_wp2_with (go_at_call 29; refine ck.mono ?_; rintro e w1 ⟨rfl, b1⟩; have hz := b1.size; obtain ⟨⟨q0, q1, q2⟩, p0, p1, p2⟩ := box3 b1 (by simp); have bb1 : Below w.heap.size w w1 := bB.trans (b1.mono (by simp)))
    refine bodyPost_ret (v := .tuple #[.int .i64 0, rV zR, .int .i64 x]) (by simp [results, Try.results17, go_sem, rV, zR, *] <;> rfl) rfl ⟨by rw [hVV.out, hE.out], ?_⟩
    exact ((bb1.setCell (p := ⟨w.heap.size, 0, none⟩) (Nat.le_refl _) _).setCell (p := ⟨w.heap.size, 1, none⟩) (Nat.le_refl _) _).setCell (p := ⟨w.heap.size, 2, none⟩) (Nat.le_refl _) _

end Go.Proofs.Ytdddbfincmodjaa

namespace Go.Proofs.Ytdddbfincmodjaa
open Go.RowKit Go.Maps
set_option linter.unusedVariables false
set_option linter.unusedSimpArgs false

theorem rws_step {L : List En} {n m i : Nat} {e : En} (hm : m ≤ i) (hin : i < n) (he : L[i]? = some e) : ((rws L n).take (i + 1)).drop m = ((rws L n).take i).drop m ++ [⟨e.c, e.n, (i : Int) + 1, true, (rsL L).getD i zR⟩] := by
  have hi := (List.getElem?_eq_some_iff.1 he).1
  rw [List.take_add_one, rws_get n he, List.drop_append_of_le_length (by rw [List.length_take, rws_length]; omega)]
  simp [rwA, hin]
set_option maxRecDepth 100000 in
set_option maxHeartbeats 2000000 in
theorem refbetween_any (L : List En) (a : Option Addr) (c : Nat) (f t : Int) (w : World) (h : SlY yE w a L.length c L) (hf : ∀ e ∈ L, e.fits) :
    Calls Try.prog 19 #[.slice a L.length c, .int .i64 f, .int .i64 t] w fun e w' => ∃ v, e = .returned (.tuple #[v, .int .i64 (ckB L f t)]) ∧ OwnY yR w.heap.size w' v (btw L f t) ∧ Below w.heap.size w w' := by
  have cl := reflog_any L a c 256 w h hf
  have hmx := h.max
  have hcp := h.cap
  unfold maxLen at hmx
  have H := hide h
  have HF := hide hf
  clear h hf
  by_cases hx : lg L 256 = 0
  · by_cases hy : f < 0 ∨ (L.length : Int) < t ∨ t < f
    · have hE : Hid (ckB L f t = 50) := by show _ = _; simp [ckB, hx, hy]
      have hT : Hid (btw L f t = []) := by show _ = _; unfold btw; rw [hE.out]; simp
      rw [hx] at cl
      clear hx
      by_cases y1 : f < 0
      · have d1 : decide (f < 0) = true := by simpa using y1
        clear hy
        go_enter Try.func19, Try.ntmps19
        go_wp2_with (go_at_call 20; refine cl.mono ?_; rintro e w1 ⟨rfl, b1⟩)
        go_ret2
        exact ⟨_, by rw [hE.out]; rfl, by rw [hT.out]; exact OwnY.nil _ _ _, b1⟩
      · have d1 : decide (f < 0) = false := by simpa using y1
        by_cases y2 : (L.length : Int) < f
        · have d2 : decide ((L.length : Int) < f) = true := by simpa using y2
          clear hy
          go_enter Try.func19, Try.ntmps19
          go_wp2_with (go_at_call 20; refine cl.mono ?_; rintro e w1 ⟨rfl, b1⟩)
          go_ret2
          exact ⟨_, by rw [hE.out]; rfl, by rw [hT.out]; exact OwnY.nil _ _ _, b1⟩
        · have d2 : decide ((L.length : Int) < f) = false := by simpa using y2
          by_cases y3 : t < 0
          · have d3 : decide (t < 0) = true := by simpa using y3
            clear hy
            go_enter Try.func19, Try.ntmps19
            go_wp2_with (go_at_call 20; refine cl.mono ?_; rintro e w1 ⟨rfl, b1⟩)
            go_ret2
            exact ⟨_, by rw [hE.out]; rfl, by rw [hT.out]; exact OwnY.nil _ _ _, b1⟩
          · have d3 : decide (t < 0) = false := by simpa using y3
            by_cases y4 : (L.length : Int) < t
            · have d4 : decide ((L.length : Int) < t) = true := by simpa using y4
              clear hy
              go_enter Try.func19, Try.ntmps19
              go_wp2_with (go_at_call 20; refine cl.mono ?_; rintro e w1 ⟨rfl, b1⟩)
              go_ret2
              exact ⟨_, by rw [hE.out]; rfl, by rw [hT.out]; exact OwnY.nil _ _ _, b1⟩
            · have d4 : decide ((L.length : Int) < t) = false := by simpa using y4
              have y5 : t < f := by omega
              have d5 : decide (t < f) = true := by simpa using y5
              clear hy
              go_enter Try.func19, Try.ntmps19
              go_wp2_with (go_at_call 20; refine cl.mono ?_; rintro e w1 ⟨rfl, b1⟩)
              go_ret2
              exact ⟨_, by rw [hE.out]; rfl, by rw [hT.out]; exact OwnY.nil _ _ _, b1⟩
    · have hE : Hid (ckB L f t = 0) := by show _ = _; simp [ckB, hx, hy]
      have hT : Hid (btw L f t = ((rws L t.toNat).take t.toNat).drop f.toNat) := by show _ = _; unfold btw; rw [hE.out]; simp
      have hl : L.length ≤ 256 := by have := (lg_zero hx).1; omega
      rw [hx] at cl
      obtain ⟨n, rfl⟩ : ∃ n : Nat, t = (n : Int) := ⟨t.toNat, by omega⟩
      obtain ⟨m, rfl⟩ : ∃ m : Nat, f = (m : Int) := ⟨f.toNat, by omega⟩
      rw [Int.toNat_natCast, Int.toNat_natCast] at hT
      have hn : n ≤ L.length := by omega
      have hmn : m ≤ n := by omega
      have hn' : (n : Int) ≤ (L.length : Int) := by omega
      have hmn' : (m : Int) ≤ (n : Int) := by omega
      have hml' : (m : Int) ≤ (L.length : Int) := by omega
      clear hx hy
      go_enter Try.func19, Try.ntmps19
      go_wp2_with (first
        | (go_at_call 20; refine cl.mono ?_; rintro e w1 ⟨rfl, b1⟩; have cr := refresults_any L a c n w1 (H.out.later b1) HF.out hl hn; have hz1 := b1.size)
        | (go_at_call 40; refine cr.mono ?_; rintro e w2 ⟨vr, rfl, o2, b2⟩; have O2 := hide (o2.low hz1); have B2 := hide (b1.trans (b2.mono hz1)); clear o2 b2 b1 cr))
      obtain ⟨av, cv, rfl, hv1, hv2, hv3, hv4⟩ := O2.out.form
      have hlen : ((rsL L).take n).length = n := by rw [List.length_take, rsL_length]; omega
      have hav : Hid (m < n → ∃ b, av = some ⟨b, 0, none⟩) := fun hlt => by
        cases av with
        | none => have := (hv3 rfl).1; rw [this] at hlen; simp at hlen; omega
        | some z => obtain ⟨b, rfl, _⟩ := hv4 z rfl; exact ⟨b, rfl⟩
      have hRg : Hid (∀ j, j < n → ((rsL L).take n)[j]? = some ((rsL L).getD j zR)) := by
        intro j hj
        rw [List.getElem?_take, if_pos hj, List.getD_eq_getElem?_getD, List.getElem?_eq_getElem (by rw [rsL_length]; omega)]
        rfl
      rw [hlen] at hv1 O2 ⊢
      unfold maxLen at hv2
      have hst : Hid (((rws L n).take m).drop m = []) := by show _ = _; rw [List.drop_of_length_le (by rw [List.length_take]; omega)]
      have hrl := hide (rws_length L n)
      clear hv3 hv4 hlen
      go_loopw [11, 10] (fun p v wr => ∃ i : Nat, p = .int .i64 ((i : Int) + 1) ∧ m ≤ i ∧ i ≤ n ∧ OwnY yR w.heap.size wr v (((rws L n).take i).drop m) ∧ Own3 43 w.heap.size wr (.slice av n cv) ((rsL L).take n) ∧ Below w.heap.size w wr) (fun p _ _ => n + 1 - (intOf p).toNat)
      case atStart => exact ⟨m, rfl, Nat.le_refl _, hmn, by rw [hst.out]; exact OwnY.nil _ _ _, O2.out, B2.out⟩
      case round =>
        obtain ⟨i, rfl, hmi, hin, oT, oR, hb⟩ := hrel
        have hsz := hb.size
        by_cases hlt : i < n
        · have he : L[i]? = some L[i] := List.getElem?_eq_getElem (by omega)
          have hs := rws_step hmi hlt he
          have hsl : (((rws L n).take i).drop m).length ≤ 256 := by rw [List.length_drop, List.length_take, hrl.out]; omega
          have cr := refrow_any L a c i false L[i] wr (H.out.later hb) HF.out hl he
          obtain ⟨b, rfl⟩ := hav.out (by omega)
          obtain ⟨r0, r1, r2⟩ := oR.cell i _ (hRg.out i hlt)
          obtain ⟨_, _, ev, _, _, _, hv4⟩ := oR.form
          have hbl : b < wr.heap.size := by
            injection ev with ev
            obtain ⟨b', e1, _, h5⟩ := hv4 _ ev.symm
            cases e1
            exact h5
          clear hv4 ev
          rw [rowD_val] at cr
          simp only [Bool.false_eq_true, if_false, zR] at cr
          generalize L[i] = e at *
          generalize (rsL L).getD i zR = r at *
          obtain ⟨s0, s1, s2⟩ := r
          dsimp only at r0 r1 r2
          generalize ((rws L n).take i).drop m = X at *
          have TS := hide hs
          have OT := hide oT
          have OR := hide oR
          have hi0 : (0 : Int) ≤ (i : Int) := by omega
          have hi1 : (i : Int) < (n : Int) := by omega
          have hi2 : (i : Int) ≤ (n : Int) := by omega
          have hw2 : IntKind.i64.wrap (i : Int) = (i : Int) := by rw [IntKind.wrap_i64]; omega
          have hw3 : (i : Int) + 1 - 1 = (i : Int) := by omega
          have hwl : (i : Int) + 1 ≤ (n : Int) := by omega
          clear oT oR hs he
          go_wp2_with fail
          refine cr.mono ?_
          rintro r w3 ⟨rfl, b3⟩
          have hz3 := b3.size
          have OB := hide (own_box kR w.heap.size w3 ⟨e.c, e.n, (i : Int) + 1, false, zR⟩ (by omega))
          have RR : Hid (∀ W, Upd (fun x => x = w3.heap.size) (w3.alloc (.cells #[.int .i64 e.c, .int .i64 e.n, .int .i64 ((i : Int) + 1), .bool false, .int .i64 0, .int .i64 0, .string ByteArray.empty] 57)) W → W.cell? ⟨b, i * 3, none⟩ = some (.int .i64 s0) ∧ W.cell? ⟨b, i * 3 + 1, none⟩ = some (.int .i64 s1) ∧ W.cell? ⟨b, i * 3 + 2, none⟩ = some (.string s2)) := fun W u => by
            have bA := (b3.mono (Nat.le_refl _)).alloc hz3 (.cells #[.int .i64 e.c, .int .i64 e.n, .int .i64 ((i : Int) + 1), .bool false, .int .i64 0, .int .i64 0, .string ByteArray.empty] 57)
            have hne : ¬ b = w3.heap.size := by omega
            exact ⟨(u.cell (p := ⟨b, i * 3, none⟩) (by simp; omega) hne).trans ((bA.cell (p := ⟨b, i * 3, none⟩) hbl).trans r0), (u.cell (p := ⟨b, i * 3 + 1, none⟩) (by simp; omega) hne).trans ((bA.cell (p := ⟨b, i * 3 + 1, none⟩) hbl).trans r1), (u.cell (p := ⟨b, i * 3 + 2, none⟩) (by simp; omega) hne).trans ((bA.cell (p := ⟨b, i * 3 + 2, none⟩) hbl).trans r2)⟩
          have b4 := hide (b3.alloc hz3 (.cells #[.int .i64 e.c, .int .i64 e.n, .int .i64 ((i : Int) + 1), .bool false, .int .i64 0, .int .i64 0, .string ByteArray.empty] 57))
          have SB := fun (W : World) => hide (sl_box (Y := yR) W ⟨e.c, e.n, (i : Int) + 1, true, s0, s1, s2⟩ 57)
          clear r0 r1 r2 b3 cr
          go_wp2_with (first
            | (refine storeY kR _ rfl 4 (.tmp 54) (.const (.bool true)) rfl w.heap.size w3.heap.size 1 1 [⟨e.c, e.n, (i : Int) + 1, false, zR⟩] 0 3 _ ⟨e.c, e.n, (i : Int) + 1, true, zR⟩ _ rfl rfl rfl (by kernel_rfl) (by exact (by decide : 4 ≤ 7)) rfl OB.out ?_; intro w4 o4 u4 z4; obtain ⟨r0, r1, r2⟩ := RR.out w4 u4; have O4 := hide o4; clear o4)
            | (refine storeY kR _ rfl 43 (.tmp 60) (.tmp 59) rfl w.heap.size w3.heap.size 1 1 [⟨e.c, e.n, (i : Int) + 1, true, zR⟩] 0 4 _ ⟨e.c, e.n, (i : Int) + 1, true, (s0, s1, s2)⟩ _ rfl rfl rfl (by kernel_rfl) (by exact (by decide : 7 ≤ 7)) rfl O4.out ?_; intro w5 o5 u5 z5; obtain ⟨y0, y1, y2, y3, y4, y5, y6⟩ := OwnY.rw0 o5; dsimp only at y0 y1 y2 y3 y4 y5 y6; have U5 := hide (u4.trans u5); have z5' : w5.heap.size = w3.heap.size + 1 := (by rw [z5, z4]; simp); have Z5 := hide z5'; clear o5 z5 z4 z5' u4 u5)
            | (at_builtin; go_must (refine appY kR _ rfl (.tmp 61) (.tmp 63) rfl w.heap.size X _ rfl (some ⟨w5.heap.size, 0, none⟩) 1 1 rfl [⟨e.c, e.n, (i : Int) + 1, true, s0, s1, s2⟩] (SB w5).out (((OT.out.grow b4.out).upd1 U5.out (fun g hg => by have := (OT.out.blk g hg).2; show ¬ g = w3.heap.size; omega)).alloc _) (by have := Z5.out; simp; omega) (by unfold maxLen; omega) (by show (_ + 1) * 64 ≤ _; omega) ?yk))
            | go_in)
          case yk =>
            intro v6 w6 o6 g6 _
            have oA := ((OT.out.grow b4.out).upd1 U5.out (fun g hg => by have := (OT.out.blk g hg).2; show ¬ g = w3.heap.size; omega)).alloc (.cells #[.int .i64 e.c, .int .i64 e.n, .int .i64 ((i : Int) + 1), .bool true, .int .i64 s0, .int .i64 s1, .string s2] 57)
            have oC := ((OR.out.grow b4.out).upd1 U5.out (fun g hg => by cases hg; show ¬ b = w3.heap.size; omega)).alloc (.cells #[.int .i64 e.c, .int .i64 e.n, .int .i64 ((i : Int) + 1), .bool true, .int .i64 s0, .int .i64 s1, .string s2] 57)
            have bl : Below w.heap.size w w5 := hb.trans ((b4.out.mono hsz).trans (U5.out.below (by simp; omega) (fun k hk => by subst hk; omega)))
            have b6 := hide (oA.grown (bl.alloc (by have := Z5.out; omega) _) g6 (by have := Z5.out; simp; omega))
            have o7 : Hid (Own3 43 w.heap.size w6 (.slice (some ⟨b, 0, none⟩) n cv) ((rsL L).take n)) := World.ownsRow.kept oC g6 (.inr (fun hq => by
              obtain ⟨c1, f1, k1⟩ := oA.kind hq.symm
              rcases oC.2 with ⟨e1, _⟩ | ⟨g1, _, cur, e1, _, hb1, _⟩
              · cases e1
              · injection e1 with e1
                injection e1 with e1
                cases e1
                rw [hb1] at k1
                cases k1))
            have O6 := hide o6
            clear o6 g6 oA oC bl
            go_wp2
            go_round
            case rel => exact ⟨i + 1, by go_num, by omega, by omega, by rw [TS.out]; exact O6.out, o7.out, b6.out⟩
            case measure => simp [intOf]; omega
        · obtain rfl : i = n := by omega
          have OT := hide oT
          clear oT oR
          go_wp2
          go_ret2
          exact ⟨_, by rw [hE.out]; rfl, by rw [hT.out]; exact OT.out, hb⟩
  · have hE : Hid (ckB L f t = lg L 256) := by show _ = _; simp [ckB, hx]
    have hT : Hid (btw L f t = []) := by show _ = _; unfold btw; rw [hE.out]; simp [hx]
    generalize lg L 256 = x at *
    go_enter Try.func19, Try.ntmps19
    go_wp2_with (go_at_call 20; refine cl.mono ?_; rintro e w1 ⟨rfl, b1⟩)
    go_ret2
    exact ⟨_, by rw [hE.out]; rfl, by rw [hT.out]; exact OwnY.nil _ _ _, b1⟩

end Go.Proofs.Ytdddbfincmodjaa
