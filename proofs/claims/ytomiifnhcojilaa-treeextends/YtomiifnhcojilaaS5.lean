import Derived.Test.YtomiifnhcojilaaS4
namespace Go.Proofs.Ytomiifnhcojilaa
open Go.RowKit Go.Maps
open Classical
set_option linter.unusedVariables false
set_option linter.unusedSimpArgs false

/-- A Hasher that has taken these bytes. -/
def HI (w : World) (q : Nat) (B : List Int) : Prop := ∃ R : List Int, BB w q 113 (hC true (stF B).l R (B.length : Int)) ∧ R.length = 64 ∧ R.take (B.length % 64) = rem9 B
theorem HI.later {w w' : World} {q : Nat} {B : List Int} (h : HI w q B) (hb : Below w.heap.size w w') : HI w' q B := by
  obtain ⟨R, h1, h2, h3⟩ := h
  exact ⟨R, h1.later hb, h2, h3⟩
theorem HI.upd {S : Nat → Prop} {w w' : World} {q : Nat} {B : List Int} (h : HI w q B) (u : Upd S w w') (hs : ¬ S q) : HI w' q B := by
  obtain ⟨R, h1, h2, h3⟩ := h
  exact ⟨R, h1.upd u hs, h2, h3⟩
theorem HI.lt {w : World} {q : Nat} {B : List Int} (h : HI w q B) : q < w.heap.size := by
  obtain ⟨R, h1, h2, h3⟩ := h
  exact h1.lt
theorem copyN19 {P : Program} (w : World) (dT sT ty elem : TypeId) (k : Nat) (d a : Option Addr) (dn dc c : Nat)
    (hu : P.underlying dT = some (.slice elem)) (hs : (P.info? elem).map (·.size) = some k) :
    (Builtin.copy_ #[dT, sT] ty #[.slice d dn dc, .slice a 0 c]).run P w = .ok (goInt 0) w := by
  cases hq : P.info? elem with
  | none => simp [hq] at hs
  | some i =>
    have hi : i.size = k := by simpa [hq] using hs
    cases a <;> cases d <;> simp [Builtin.copy_, run_underlying hu, Builtin.lenOf, Builtin.firstCells, sizeOf, typeInfo, hq, hi, loadCells, loadCellsFrom, storeCells]
theorem copyM19 {P : Program} (w : World) (dT sT ty elem : TypeId) (g off dLen dCap : Nat) (a : Addr) (sLen sCap : Nat) (cur : Array Value) (t : TypeId) (cs : List Value)
    (hu : P.underlying dT = some (.slice elem)) (hs : (P.info? elem).map (·.size) = some 1)
    (hg : w.heap[g]? = some (.cells cur t (0, 0))) (hn : cs.length = min sLen dLen)
    (hsrc : ∀ j v, cs[j]? = some v → w.cell? (a.add j) = some v) (hfit : off + cs.length ≤ cur.size) (h1 : ∀ v ∈ cs, v.oneCell' = true) :
    (Builtin.copy_ #[dT, sT] ty #[.slice (some ⟨g, off, none⟩) dLen dCap, .slice (some a) sLen sCap]).run P w =
      .ok (goInt (min sLen dLen : Nat)) (w.setRow g (cur.toList.take off ++ cs ++ cur.toList.drop (off + cs.length)).toArray) := by
  have hl := run_loadCells_list (P := P) w a cs hsrc
  have hst := run_storeCells_at (P := P) g off t cs 0 cur w hg (by omega) h1
  rw [Nat.add_zero] at hst
  have hmin : min dLen sLen = min sLen dLen := Nat.min_comm _ _
  cases hq : P.info? elem with
  | none => simp [hq] at hs
  | some i =>
    have hi : i.size = 1 := by simpa [hq] using hs
    rw [hn] at hl
    simp [Builtin.copy_, run_underlying hu, Builtin.lenOf, Builtin.firstCells, sizeOf, typeInfo, hq, hi, hl, hst, hmin]
theorem hC_put {m : Bool} {W R X : List Int} {n : Int} (hW : W.length = 8) (o : Nat) (h : o + X.length ≤ R.length) : (hC m W R n).take (9 + o) ++ X.map bV ++ (hC m W R n).drop (9 + o + (X.map bV).length) = hC m W (R.take o ++ X ++ R.drop (o + X.length)) n := by
  have e : hC m W R n = (.bool m :: W.map uV) ++ ((R.map bV) ++ [.int .i64 n]) := by simp [hC]
  have l9 : (Value.bool m :: W.map uV).length = 9 := by simp [hW]
  rw [e, show 9 + o = (Value.bool m :: W.map uV).length + o by rw [l9], List.take_length_add_append, Nat.add_assoc, List.drop_length_add_append, List.length_map, List.take_append_of_le_length (by rw [List.length_map]; omega), List.drop_append_of_le_length (by rw [List.length_map]; omega)]
  simp [hC, List.map_take, List.map_drop]
theorem copyH {w : World} {q : Nat} {m : Bool} {W R : List Int} {n : Int} (hB : BB w q 113 (hC m W R n)) (hW : W.length = 8) (hR : R.length = 64) (o dn dc : Nat) (hd : o + dn ≤ 64) (ty : TypeId) {a : Option Addr} {c : Nat} {b : List Int} (h : SlY yB9 w a b.length c b) :
    ∃ w', (Builtin.copy_ #[73, 73] ty #[.slice (some ⟨q, 9 + o, none⟩) dn dc, .slice a b.length c]).run Try.prog w = .ok (.int .i64 ((min b.length dn : Nat) : Int)) w' ∧ BB w' q 113 (hC m W (R.take o ++ b.take dn ++ R.drop (o + (b.take dn).length)) n) ∧ Upd (fun k => k = q) w w' := by
  by_cases hb : b = []
  · subst hb
    refine ⟨w, ?_, ?_, Upd.refl _ _⟩
    · have := copyN19 (P := Try.prog) w 73 73 ty 5 1 (some ⟨q, 9 + o, none⟩) a dn dc c Try.underlying73 i1b
      rw [List.length_nil, Nat.zero_min]
      exact this
    · rw [List.take_nil, List.append_nil, List.length_nil, Nat.add_zero, List.take_append_drop]
      exact hB
  · obtain ⟨q2, o2, rfl, hq2, hl⟩ := h.place hb
    have hlen : ((b.take dn).map bV).length = min b.length dn := by rw [List.length_map, List.length_take, Nat.min_comm]
    have hc74 := hC_len (m := m) (n := n) hW hR
    have := copyM19 (P := Try.prog) w 73 73 ty 5 q (9 + o) dn dc ⟨q2, o2, none⟩ b.length c _ _ ((b.take dn).map bV) Try.underlying73 i1b hB hlen (fun j v hv => by
      rw [List.getElem?_map, List.getElem?_take] at hv
      split at hv
      · cases hx : b[j]? with
        | none => rw [hx] at hv; cases hv
        | some x =>
          rw [hx] at hv
          obtain rfl := Option.some.inj hv
          have := hl j x hx 0 _ rfl
          simpa [yB9, Addr.add_lit, bV] using this
      · cases hv) (by rw [hlen, List.size_toArray, hc74]; omega) (fun v hv => by
      obtain ⟨x, _, rfl⟩ := List.mem_map.1 hv
      rfl)
    refine ⟨_, this, ?_, ⟨rfl, rfl, rfl, by simp [World.setRow], fun k hk hn => setRow_other w q k _ hn⟩⟩
    unfold BB
    rw [setRow_heap w q _ _ _ _ hB, List.toList_toArray, hC_put hW o (by rw [List.length_take]; omega)]
theorem BB.rest {w : World} {q : Nat} {m : Bool} {W R : List Int} {n : Int} (hB : BB w q 113 (hC m W R n)) (hW : W.length = 8) (hR : R.length = 64) : SlY yB9 w (some ⟨q, 9, none⟩) 64 64 R := by
  refine ⟨hR, Nat.le_refl _, by unfold maxLen; decide, (fun e => by cases e), fun x hx => .inr ⟨q, 9, (Option.some.inj hx).symm, hB.lt, fun i x hx j v hv => ?_⟩⟩
  obtain ⟨hi, rfl⟩ := List.getElem?_eq_some_iff.1 hx
  have hj : j = 0 := by
    cases j with
    | zero => rfl
    | succ j => simp [yB9] at hv
  subst hj
  obtain rfl : Value.int .u8 R[i] = v := by simpa [yB9] using hv
  have := (hB.cell (9 + i)).trans (hC_r hW hi)
  rw [List.getD_eq_getElem?_getD, List.getElem?_eq_getElem hi] at this
  simpa [yB9] using this
theorem setCells_at {q : Nat} {T : TypeId} : ∀ (vs : List Value) (o : Nat) (w : World) (cs : List Value), BB w q T cs → o + vs.length ≤ cs.length → BB (w.setCells q o vs) q T (cs.take o ++ vs ++ cs.drop (o + vs.length))
  | [], o, w, cs, h, _ => by simpa [World.setCells] using h
  | v :: r, o, w, cs, h, hl => by
    simp only [List.length_cons] at hl
    have := setCells_at r (o + 1) _ _ (h.set1 o v) (by rw [List.length_set]; omega)
    have e : (cs.set o v).take (o + 1) ++ r ++ (cs.set o v).drop (o + 1 + r.length) = cs.take o ++ (v :: r) ++ cs.drop (o + (v :: r).length) := by
      rw [List.drop_set_of_lt (by omega), List.take_set, List.length_cons, show o + 1 + r.length = o + (r.length + 1) by omega]
      congr 1
      rw [List.take_succ_eq_append_getElem (by omega), List.set_append_right _ _ (by rw [List.length_take]; omega), List.length_take, Nat.min_eq_left (by omega), Nat.sub_self]
      simp
    rw [e] at this
    exact this
theorem stRest {w : World} {q : Nat} {m : Bool} {W R Z : List Int} {n : Int} (hB : BB w q 113 (hC m W R n)) (hW : W.length = 8) (hR : R.length = 64) (hZ : Z.length = 64) : (Instr.storeAt 111 (.pointer (some ⟨q, 9, none⟩)) (.agg (Z.map bV).toArray)).run Try.prog w = .ok () (w.setCells q 9 (Z.map bV)) ∧ BB (w.setCells q 9 (Z.map bV)) q 113 (hC m W Z n) := by
  have hc74 := hC_len (m := m) (n := n) hW hR
  have hz : (Z.map bV).length = 64 := by rw [len_bV, hZ]
  refine ⟨?_, ?_⟩
  · exact run_storeAt_mid (P := Try.prog) w q 9 111 (Z.map bV).toArray (fun j hj => ⟨by rw [hB.cell, List.getElem?_eq_getElem (by rw [hc74]; rw [List.size_toArray, hz] at hj; omega)]; rfl, hB.free _⟩) (by rw [List.size_toArray, hz]; exact i64b) (one_b _)
  · have := setCells_at (Z.map bV) 9 w _ hB (by rw [hz, hc74]; omega)
    rw [show (9 : Nat) = 9 + 0 from rfl, hC_put hW 0 (by omega), List.take_zero, List.nil_append, List.drop_of_length_le (by omega), List.append_nil] at this
    exact this
theorem faH (q k o : Nat) (hk : (k = 0 ∧ o = 0) ∨ (k = 1 ∧ o = 1) ∨ (k = 2 ∧ o = 9) ∨ (k = 3 ∧ o = 73)) (w : World) : (Instr.fieldAt 113 (.pointer (some ⟨q, 0, none⟩)) k).run Try.prog w = .ok (.pointer (some ⟨q, o, none⟩)) w := by
  rcases hk with ⟨rfl, rfl⟩ | ⟨rfl, rfl⟩ | ⟨rfl, rfl⟩ | ⟨rfl, rfl⟩
  · go_simp
  · go_simp
  · go_simp
  · go_simp
def adB (q o c k : Nat) : Addr := if c = k then ⟨q, o, none⟩ else ⟨q, o + k, none⟩
theorem slFromB (q o n c k : Nat) (h1 : k ≤ n) (h2 : n ≤ c) (w : World) : (Instr.sliceAt 73 (.slice (some ⟨q, o, none⟩) n c) (some (.int .i64 (k : Int))) none none).run Try.prog w = .ok (.slice (some (adB q o c k)) (n - k) (c - k)) w := by
  have e1 : (0 : Int) ≤ (k : Int) := by omega
  have e2 : (k : Int) ≤ (n : Int) := by omega
  have e3 : (n : Int) ≤ (c : Int) := by omega
  unfold adB
  by_cases h : c = k
  · subst h
    go_simp
    first | done | simp
  · rw [if_neg h]
    go_simp
    first | done | simp [h]
theorem slToB (q o n c k : Nat) (h1 : k ≤ n) (h2 : k ≤ c) (w : World) : (Instr.sliceAt 73 (.slice (some ⟨q, o, none⟩) n c) none (some (.int .i64 (k : Int))) none).run Try.prog w = .ok (.slice (some ⟨q, o, none⟩) k c) w := by
  have e1 : (0 : Int) ≤ (k : Int) := by omega
  have e2 : (k : Int) ≤ (c : Int) := by omega
  go_simp
theorem slRest (q at_ : Nat) (h : at_ < 64) (w : World) : (Instr.sliceAt 111 (.pointer (some ⟨q, 9, none⟩)) (some (.int .i64 (at_ : Int))) none none).run Try.prog w = .ok (.slice (some ⟨q, 9 + at_, none⟩) (64 - at_) (64 - at_)) w := by
  have e1 : (0 : Int) ≤ (at_ : Int) := by omega
  have e2 : (at_ : Int) ≤ 64 := by omega
  have e3 : ¬ 64 = at_ := by omega
  go_simp
  first | done | simp [e3]
theorem slAll (q : Nat) (w : World) : (Instr.sliceAt 111 (.pointer (some ⟨q, 9, none⟩)) none none none).run Try.prog w = .ok (.slice (some ⟨q, 9, none⟩) 64 64) w := by go_simp
theorem ex_sl19 {o : Oper} {ρ : Operand → Value} {s : TypeId} {x : Operand} {lo hi mx : Option Operand} {X V : Value} {l h m : Option Value} {w : World} (ho : o.op = .slice s x lo hi mx) (hx : ρ x = X) (hl : lo.map ρ = l) (hh : hi.map ρ = h) (hm : mx.map ρ = m) (hr : (Instr.sliceAt s X l h m).run Try.prog w = .ok V w) : (execOp ρ o).run Try.prog w = .ok (.value V) w := by
  unfold execOp
  simp only [ho, hx, hl, hh, hm]
  simp [hr]
/-- What is left of a slice behind its first k. -/
theorem SlY.from9 {w : World} {q o n c : Nat} {D : List Int} (h : SlY yB9 w (some ⟨q, o, none⟩) n c D) (k : Nat) (hk : k ≤ n) : SlY yB9 w (some (adB q o c k)) (n - k) (c - k) (D.drop k) := by
  refine ⟨by rw [List.length_drop, h.len], by have := h.cap; omega, by have := h.max; omega, (fun e => by cases e), fun x hx => ?_⟩
  obtain rfl := Option.some.inj hx
  by_cases hd : D.drop k = []
  · exact .inl hd
  · refine .inr ?_
    have hlt : k < D.length := by
      rcases Nat.lt_or_ge k D.length with h2 | h2
      · exact h2
      · exact absurd (List.drop_eq_nil_of_le h2) hd
    obtain ⟨q', o', e, hq, hl⟩ := h.place (by rintro rfl; simp at hlt)
    obtain ⟨rfl, rfl⟩ : q = q' ∧ o = o' := by simpa using e
    have hne : ¬ c = k := by have := h.cap; have := h.len; omega
    refine ⟨q, o + k, by rw [adB, if_neg hne], hq, fun i y hy j v hv => ?_⟩
    rw [List.getElem?_drop] at hy
    have := hl (k + i) y hy j v hv
    rw [show o + (k + i) * yB9.k + j = o + k + i * yB9.k + j by show o + (k + i) * 1 + j = o + k + i * 1 + j; omega] at this
    exact this
def lenV : Value → Nat
  | .slice _ n _ => n
  | _ => 0
theorem v_loopM {c : Code} {Q : Exit → Act → World → Prop} {T0 : Array Value} {w0 : World} (x : Nat) (I : Nat → Array Value → World → Prop) (hx : ∀ r T w, I r T w → lenV (T.getD x undef) = r) {r0 : Nat} (h0 : I r0 T0 w0)
    (round : ∀ r T w, I r T w → c.wp Try.prog (Exit.then (fun a' w' => ∃ T' r', a' = ⟨T', []⟩ ∧ r' < r ∧ I r' T' w') Q) ⟨T, []⟩ w) : (Code.loop c).wp Try.prog Q ⟨T0, []⟩ w0 := by
  refine wp_loop (fun a w => ∃ r T, a = ⟨T, []⟩ ∧ I r T w) (fun a w => lenV (a.tmps.getD x undef)) ⟨r0, T0, rfl, h0⟩ ?_
  rintro a w ⟨r, T, rfl, hI⟩
  refine Code.wp_mono (fun e a' w' h => ?_) (round r T w hI)
  cases e with
  | normal =>
    obtain ⟨T', r', rfl, hr, hI'⟩ := h
    refine ⟨⟨r', T', rfl, hI'⟩, ?_⟩
    show lenV (T'.getD x undef) < lenV (T.getD x undef)
    rw [hx _ _ _ hI', hx _ _ _ hI]
    exact hr
  | _ => exact h
/-- Amid the taking: P has been taken, D is left. -/
def JT (B b : List Int) (q : Nat) (w : World) (T : Array Value) (w' : World) (r : Nat) : Prop :=
  ∃ (a : Option Addr) (c : Nat) (P D R : List Int), Rp T 65 [(1, gw true (.slice a r c)), (0, gw true (.pointer (some ⟨q, 0, none⟩)))] ∧ Hid (r = D.length ∧ b = P ++ D ∧ (B ++ P).length % 64 = 0 ∧ BB w' q 113 (hC true (stF (B ++ P)).l R ((B.length + b.length : Nat) : Int)) ∧ R.length = 64 ∧ SlY yB9 w' a D.length c D ∧ (∀ z, a = some z → D ≠ [] → z.block ≠ q) ∧ Upd (fun k => k = q) w w')
theorem Rp.get {T : Array Value} {n : Nat} {L : List (Nat × Value)} (h : Rp T n L) {j : Nat} {v : Value} (e : look L j = some (gw true v)) : T.getD j undef = v := getD_of (h.at_ j _ e)
set_option maxRecDepth 100000 in
set_option maxHeartbeats 2000000 in
theorem take19 (q : Nat) (B b : List Int) (a : Option Addr) (c : Nat) (w : World) (hB : HI w q B) (h : SlY yB9 w a b.length c b) (hnq : ∀ z, a = some z → b ≠ [] → z.block ≠ q) (hl : B.length + b.length < 4611686018427387904) :
    Calls Try.prog 74 #[.pointer (some ⟨q, 0, none⟩), .slice a b.length c] w fun e w' => e = .returned (.tuple #[]) ∧ HI w' q (B ++ b) ∧ Upd (fun k => k = q) w w' := by
  go_enter Try.func74, Try.ntmps74
  go_upto_region 0 with fail
  refine wp_region_lit ?_
  refine vl_gen (fun T => Rp T 65 [(1, gw true (.slice a b.length c)), (0, gw true (.pointer (some ⟨q, 0, none⟩)))]) (((Rp.nil rfl).cons rfl).cons rfl) (fun Z0 q0 => ?_)
  have hql := hB.lt
  obtain ⟨R, hB, hR, hRt⟩ := hB
  have hat : B.length % 64 < 64 := Nat.mod_lt _ (by decide)
  have cn := (hB.cell 73).trans (hC_n (St.len _) hR)
  refine q0.t (.pointer (some ⟨q, 0, none⟩)) (ex_move rfl (q0.e (j := 0) rfl)) fun _ q1 => ?_;clear q0
  refine q1.t (.pointer (some ⟨q, 0, none⟩)) (ex_nil rfl (q1.e (j := 6) rfl)) fun _ q2 => ?_;clear q1
  refine q2.t (.pointer (some ⟨q, 73, none⟩)) (ex_fa rfl (q2.e (j := 7) rfl) (faH q 3 73 (by decide) _)) fun _ q3 => ?_;clear q2
  refine q3.t (.int .i64 ((B.length : Nat) : Int)) (ex_ld rfl (q3.e (j := 8) rfl) (ldI18 cn)) fun _ q4 => ?_;clear q3
  refine q4.t (.int .i64 ((B.length % 64 : Nat) : Int)) (ex_bin rfl (q4.e (j := 9) rfl) rfl (remC _ _ B.length 64 (by decide) (by omega) _)) fun _ q5 => ?_;clear q4
  refine q5.t (.int .i64 ((B.length % 64 : Nat) : Int)) (ex_assign rfl (q5.e (j := 10) rfl)) fun _ q6 => ?_;clear q5
  refine wpList_nil ?_
  go_upto_region 1 with fail
  refine wp_region_lit ?_
  refine q6.t (.pointer (some ⟨q, 0, none⟩)) (ex_move rfl (q6.e (j := 0) rfl)) fun _ q7 => ?_;clear q6
  refine q7.t (.pointer (some ⟨q, 0, none⟩)) (ex_nil rfl (q7.e (j := 11) rfl)) fun _ q8 => ?_;clear q7
  refine q8.t (.pointer (some ⟨q, 73, none⟩)) (ex_fa rfl (q8.e (j := 12) rfl) (faH q 3 73 (by decide) _)) fun _ q9 => ?_;clear q8
  refine q9.t (.int .i64 ((B.length : Nat) : Int)) (ex_ld rfl (q9.e (j := 13) rfl) (ldI18 cn)) fun _ q10 => ?_;clear q9
  refine q10.t (.slice a b.length c) (ex_move rfl (q10.e (j := 1) rfl)) fun _ q11 => ?_;clear q10
  refine q11.t (.int .i64 ((b.length : Nat) : Int)) (ex_lenG rfl rfl Try.underlying73 (q11.e (j := 15) rfl)) fun _ q12 => ?_;clear q11
  refine q12.t (.int .i64 (((B.length + b.length) : Nat) : Int)) (ex_bin rfl (q12.e (j := 14) rfl) (q12.e (j := 16) rfl) (addC9 _ _ B.length b.length (by omega) _)) fun _ q13 => ?_;clear q12
  refine q13.t (.pointer (some ⟨q, 0, none⟩)) (ex_nil rfl (q13.e (j := 11) rfl)) fun _ q14 => ?_;clear q13
  refine q14.t (.pointer (some ⟨q, 73, none⟩)) (ex_fa rfl (q14.e (j := 18) rfl) (faH q 3 73 (by decide) _)) fun _ q15 => ?_;clear q14
  obtain ⟨w1, hw1⟩ : ∃ z, z = w.setCell ⟨q, 73, none⟩ (.int .i64 (((B.length + b.length) : Nat) : Int)) := ⟨_, rfl⟩
  refine vs w1 (want_none rfl) (ex_st rfl (q15.e (j := 19) rfl) (q15.e (j := 17) rfl) (by rw [hw1]; exact stI18 cn (hB.free _))) rfl ?_
  have B1 : BB w1 q 113 (hC true (stF B).l R (((B.length + b.length) : Nat) : Int)) := by
    have := hB.set1 73 (.int .i64 (((B.length + b.length) : Nat) : Int))
    rw [hC_setn (St.len _) hR] at this
    rw [hw1]
    exact this
  have u1 : Upd (fun k => k = q) w w1 := by rw [hw1]; exact upd1 _ _ _ _
  clear hw1 cn
  have s1 : SlY yB9 w1 a b.length c b := h.upd u1 (fun z hz hne => hnq z hz hne)
  have q16 := ((((Rp.nil q15.z).cons (q15.a 0 rfl)).cons (q15.a 1 rfl)).cons (q15.a 4 rfl))
  clear q15
  refine wpList_nil ?_
  go_upto_region 2 with fail
  refine wp_region_lit ?_
  refine q16.t (.int .i64 ((B.length % 64 : Nat) : Int)) (ex_move rfl (q16.e (j := 4) rfl)) fun _ q17 => ?_;clear q16
  refine q17.t (.bool (decide (0 < ((B.length % 64 : Nat) : Int)))) (ex_bin rfl (q17.e (j := 20) rfl) rfl (gtrC _ _ _ _ _)) fun _ q18 => ?_;clear q17
  have q19 := (((((Rp.nil q18.z).cons (q18.a 0 rfl)).cons (q18.a 1 rfl)).cons (q18.a 4 rfl)).cons (q18.a 21 rfl))
  clear q18
  refine wpList_nil ?_
  go_upto_if 21 with fail
  refine v_cut18 (fun T w2 => ∃ r, JT B b q w T w2 r) ?_ ?_
  · by_cases hz : B.length % 64 = 0
    · have q19x := q19.a 21 rfl
      rw [decide_eq_false (by omega)] at q19x
      refine wp_cond_false (ev q19x rfl) ?_
      go_wp2
      have q20 := (((Rp.nil q19.z).cons (q19.a 0 rfl)).cons (q19.a 1 rfl))
      clear q19
      exact ⟨_, rfl, b.length, a, c, [], b, R, q20, rfl, rfl, by rw [List.append_nil]; exact hz, by rw [List.append_nil]; exact B1, hR, s1, hnq, u1⟩
    · have q19x := q19.a 21 rfl
      rw [decide_eq_true (by omega)] at q19x
      refine wp_cond_true (ev q19x rfl) ?_
      obtain ⟨o, ho⟩ : ∃ o, o = B.length % 64 := ⟨_, rfl⟩
      rw [← ho] at q19 hRt hat
      clear q19x
      go_upto_region 3 with fail
      refine wp_region_lit ?_
      refine q19.t (.pointer (some ⟨q, 0, none⟩)) (ex_move rfl (q19.e (j := 0) rfl)) fun _ q20 => ?_;clear q19
      refine q20.t (.pointer (some ⟨q, 0, none⟩)) (ex_nil rfl (q20.e (j := 22) rfl)) fun _ q21 => ?_;clear q20
      refine q21.t (.pointer (some ⟨q, 9, none⟩)) (ex_fa rfl (q21.e (j := 23) rfl) (faH q 2 9 (by decide) _)) fun _ q22 => ?_;clear q21
      refine q22.t (.int .i64 ((o : Nat) : Int)) (ex_move rfl (q22.e (j := 4) rfl)) fun _ q23 => ?_;clear q22
      refine q23.t (.slice (some ⟨q, 9 + o, none⟩) (64 - o) (64 - o)) (ex_sl19 rfl (q23.e (j := 24) rfl) (congrArg some (q23.e (j := 25) rfl)) rfl rfl (slRest q o hat _)) fun _ q24 => ?_;clear q23
      refine q24.t (.slice a b.length c) (ex_move rfl (q24.e (j := 1) rfl)) fun _ q25 => ?_;clear q24
      obtain ⟨w2, hcp, B2, u2⟩ := copyH B1 (St.len _) hR o (64 - o) (64 - o) (by omega) 3 s1
      have hbt : (b.take (64 - o)).length = min b.length (64 - o) := by rw [List.length_take, Nat.min_comm]
      have s2 : SlY yB9 w2 a b.length c b := s1.upd u2 (fun z hz hne => hnq z hz hne)
      have uw2 : Upd (fun k => k = q) w w2 := u1.trans18 u2 (fun _ _ h => h)
      refine vw (.int .i64 ((min b.length (64 - o) : Nat) : Int)) w2 (want_none rfl) (ex_copy18 rfl (q25.e (j := 26) rfl) (q25.e (j := 27) rfl) hcp) rfl q25.z (by decide) (q25.k fun _ q26 => ?_);clear q25
      refine q26.t (.int .i64 ((min b.length (64 - o) : Nat) : Int)) (ex_assign rfl (q26.e (j := 28) rfl)) fun _ q27 => ?_;clear q26
      have q28 := (((((Rp.nil q27.z).cons (q27.a 0 rfl)).cons (q27.a 1 rfl)).cons (q27.a 4 rfl)).cons (q27.a 5 rfl))
      clear q27
      refine wpList_nil ?_
      go_upto_region 4 with fail
      refine wp_region_lit ?_
      refine q28.t (.int .i64 ((o : Nat) : Int)) (ex_move rfl (q28.e (j := 4) rfl)) fun _ q29 => ?_;clear q28
      refine q29.t (.int .i64 ((min b.length (64 - o) : Nat) : Int)) (ex_move rfl (q29.e (j := 5) rfl)) fun _ q30 => ?_;clear q29
      refine q30.t (.int .i64 ((o + min b.length (64 - o) : Nat) : Int)) (ex_bin rfl (q30.e (j := 29) rfl) (q30.e (j := 30) rfl) (addC9 _ _ o (min b.length (64 - o)) (by omega) _)) fun _ q31 => ?_;clear q30
      refine q31.t (.bool (decide (((o + min b.length (64 - o) : Nat) : Int) < 64))) (ex_bin rfl (q31.e (j := 31) rfl) rfl (lssC _ _ _ _ _)) fun _ q32 => ?_;clear q31
      have q33 := ((((((Rp.nil q32.z).cons (q32.a 0 rfl)).cons (q32.a 1 rfl)).cons (q32.a 4 rfl)).cons (q32.a 5 rfl)).cons (q32.a 32 rfl))
      clear q32
      refine wpList_nil ?_
      by_cases hs : o + b.length < 64
      · have q33x := q33.a 32 rfl
        rw [decide_eq_true (by omega)] at q33x
        go_upto_if 32 with fail
        refine wp_cond_true (ev q33x rfl) ?_
        go_wp2
        refine bodyPost_ret (results_none rfl _ _ _) rfl ?_
        refine ⟨rfl, ⟨R.take o ++ b.take (64 - o) ++ R.drop (o + (b.take (64 - o)).length), ?_, ?_, ?_⟩, uw2⟩
        · rw [(stF_less B b (by omega)).1, List.length_append]
          exact B2
        · simp only [List.length_append, List.length_take, List.length_drop]
          omega
        · rw [(stF_less B b (by omega)).2, List.length_append, ← hRt, List.take_of_length_le (show b.length ≤ 64 - o by omega)]
          have e1 : (B.length + b.length) % 64 = (R.take o ++ b).length := by rw [List.length_append, List.length_take]; omega
          rw [e1, List.take_left]
      · have hK : min b.length (64 - o) = 64 - o := by omega
        rw [hK] at q33
        have q33x := q33.a 32 rfl
        rw [decide_eq_false (by omega)] at q33x
        have hb1 : (b.take (64 - o)).length = 64 - o := by omega
        rw [hb1, List.drop_of_length_le (show R.length ≤ o + (64 - o) by omega), List.append_nil] at B2
        obtain ⟨R2, hR2⟩ : ∃ R2, R2 = R.take o ++ b.take (64 - o) := ⟨_, rfl⟩
        have hR2l : R2.length = 64 := by rw [hR2, List.length_append, List.length_take, hb1]; omega
        rw [← hR2] at B2
        have hst : stF (B ++ b.take (64 - o)) = blkF (stF B) R2 := by
          rw [stF_fill B _ (by omega), hR2, hRt]
        go_upto_region 5 with fail
        refine wp_cond_false (ev q33x rfl) ?_
        clear q33x
        have q34 := ((((Rp.nil q33.z).cons (q33.a 0 rfl)).cons (q33.a 1 rfl)).cons (q33.a 5 rfl))
        clear q33
        go_upto_region 5 with fail
        refine vg_start (fun _ => false) (fun _ => True) (by kernel_rfl) ?_
        have hd : Below w2.heap.size w2 w2.drew := (Below.refl _ _).drew
        have hzd : w2.drew.heap.size = w2.heap.size := rfl
        generalize w2.drew = d at *
        have B2d := B2.later hd
        have s2d := s2.later hd
        have ud : Upd (fun k => k = q) w d := uw2.trans18 (Upd.of_below hd) (fun _ _ h => h)
        refine vg_takeW 0 true (.pointer (some ⟨q, 0, none⟩)) rfl (by kernel_rfl) (by kernel_rfl) (by kernel_rfl) (by kernel_rfl) (want_none rfl) (fun hc v => ex_move rfl (q34.e (j := 0) rfl)) rfl q34.z (by decide) (fun _ => trivial) (q34.k fun _ q35 => ?_);clear q34
        refine vg_takeW 1 true (.pointer (some ⟨q, 0, none⟩)) rfl (by kernel_rfl) (by kernel_rfl) (by kernel_rfl) (by kernel_rfl) (want_none rfl) (fun hc v => ex_nil rfl (q35.e (j := 33) rfl)) rfl q35.z (by decide) (fun _ => trivial) (q35.k fun _ q36 => ?_);clear q35
        refine vg_takeW 2 true (.pointer (some ⟨q, 1, none⟩)) rfl (by kernel_rfl) (by kernel_rfl) (by kernel_rfl) (by kernel_rfl) (want_none rfl) (fun hc v => ex_fa rfl (q36.e (j := 34) rfl) (faH q 1 1 (by decide) _)) rfl q36.z (by decide) (fun _ => trivial) (q36.k fun _ q37 => ?_);clear q36
        refine vg_takeW 3 true (.pointer (some ⟨q, 0, none⟩)) rfl (by kernel_rfl) (by kernel_rfl) (by kernel_rfl) (by kernel_rfl) (want_none rfl) (fun hc v => ex_move rfl (q37.e (j := 0) rfl)) rfl q37.z (by decide) (fun _ => trivial) (q37.k fun _ q38 => ?_);clear q37
        refine vg_takeW 4 true (.pointer (some ⟨q, 0, none⟩)) rfl (by kernel_rfl) (by kernel_rfl) (by kernel_rfl) (by kernel_rfl) (want_none rfl) (fun hc v => ex_nil rfl (q38.e (j := 36) rfl)) rfl q38.z (by decide) (fun _ => trivial) (q38.k fun _ q39 => ?_);clear q38
        refine vg_takeW 5 true (.pointer (some ⟨q, 9, none⟩)) rfl (by kernel_rfl) (by kernel_rfl) (by kernel_rfl) (by kernel_rfl) (want_none rfl) (fun hc v => ex_fa rfl (q39.e (j := 37) rfl) (faH q 2 9 (by decide) _)) rfl q39.z (by decide) (fun _ => trivial) (q39.k fun _ q40 => ?_);clear q39
        refine vg_takeW 6 true (.slice (some ⟨q, 9, none⟩) 64 64) rfl (by kernel_rfl) (by kernel_rfl) (by kernel_rfl) (by kernel_rfl) (want_none rfl) (fun hc v => ex_sl19 rfl (q40.e (j := 38) rfl) rfl rfl rfl (slAll q _)) rfl q40.z (by decide) (fun _ => trivial) (q40.k fun _ q41 => ?_);clear q40
        refine vg_call 7 rfl (by kernel_rfl) (want_none rfl) (ex_call rfl (by simp only [List.map_toArray, List.map_cons, List.map_nil, (q41.e (j := 35) rfl), (q41.e (j := 39) rfl), evc] <;> rfl) rfl) (mix_any q true (stF B) R2 _ R2 (some ⟨q, 9, none⟩) 64 d B2d (B2d.rest (St.len _) hR2l) hR2l) rfl q41.z (by decide) ?_
        rintro e d2 ⟨rfl, B3, u3⟩
        refine ⟨_, rfl, trivial, q41.k fun _ q42 => ?_⟩;clear q41
        have ud2 : Upd (fun k => k = q) w d2 := ud.trans18 u3 (fun _ _ h => h)
        have s3 : SlY yB9 d2 a b.length c b := s2d.upd u3 (fun z hz hne => hnq z hz hne)
        refine vg_done (by kernel_rfl) ?_
        have q43 := ((((Rp.nil q42.z).cons (q42.a 0 rfl)).cons (q42.a 1 rfl)).cons (q42.a 5 rfl))
        clear q42
        go_upto_region 6 with fail
        refine wp_region_lit ?_
        refine q43.t (.pointer (some ⟨q, 0, none⟩)) (ex_move rfl (q43.e (j := 0) rfl)) fun _ q44 => ?_;clear q43
        refine q44.t (.agg ((List.replicate 64 (0 : Int)).map bV).toArray) (ex_build rfl (by kernel_rfl)) fun _ q45 => ?_;clear q44
        refine q45.t (.pointer (some ⟨q, 0, none⟩)) (ex_nil rfl (q45.e (j := 41) rfl)) fun _ q46 => ?_;clear q45
        refine q46.t (.pointer (some ⟨q, 9, none⟩)) (ex_fa rfl (q46.e (j := 43) rfl) (faH q 2 9 (by decide) _)) fun _ q47 => ?_;clear q46
        obtain ⟨hst2, B4⟩ := stRest B3 (St.len _) hR2l (Z := List.replicate 64 0) (by simp)
        obtain ⟨d3, hd3⟩ : ∃ z, z = d2.setCells q 9 ((List.replicate 64 (0 : Int)).map bV) := ⟨_, rfl⟩
        rw [← hd3] at hst2 B4
        have u4 : Upd (fun k => k = q) d2 d3 := by rw [hd3]; exact upd18 _ _ _ _
        clear hd3
        have ud3 : Upd (fun k => k = q) w d3 := ud2.trans18 u4 (fun _ _ h => h)
        have s4 : SlY yB9 d3 a b.length c b := s3.upd u4 (fun z hz hne => hnq z hz hne)
        refine vs d3 (want_none rfl) (ex_st rfl (q47.e (j := 44) rfl) (q47.e (j := 42) rfl) hst2) rfl ?_
        have q48 := ((((Rp.nil q47.z).cons (q47.a 0 rfl)).cons (q47.a 1 rfl)).cons (q47.a 5 rfl))
        clear q47
        refine wpList_nil ?_
        go_upto_region 7 with fail
        refine wp_region_lit ?_
        refine q48.t (.slice a b.length c) (ex_move rfl (q48.e (j := 1) rfl)) fun _ q49 => ?_;clear q48
        refine q49.t (.int .i64 ((64 - o : Nat) : Int)) (ex_move rfl (q49.e (j := 5) rfl)) fun _ q50 => ?_;clear q49
        obtain ⟨qa, oa, hqa, hqal, _⟩ := s4.place (by rintro rfl; simp at hs; omega)
        subst hqa
        have hcap := s4.cap
        refine q50.t (.slice (some (adB qa oa c (64 - o))) (b.length - (64 - o)) (c - (64 - o))) (ex_sl19 rfl (q50.e (j := 45) rfl) (congrArg some (q50.e (j := 46) rfl)) rfl rfl (slFromB qa oa b.length c (64 - o) (by omega) hcap _)) fun _ q51 => ?_;clear q50
        refine q51.t (.slice (some (adB qa oa c (64 - o))) (b.length - (64 - o)) (c - (64 - o))) (ex_assign rfl (q51.e (j := 47) rfl)) fun _ q52 => ?_;clear q51
        have q53 := (((Rp.nil q52.z).cons (q52.a 0 rfl)).cons (q52.a 1 rfl))
        clear q52
        refine wpList_nil ?_
        have s5 := s4.from9 (64 - o) (by omega)
        have hdl : (b.drop (64 - o)).length = b.length - (64 - o) := List.length_drop ..
        rw [← hst] at B4
        exact ⟨_, rfl, _, _, _, b.take (64 - o), b.drop (64 - o), _, q53, hdl.symm, (List.take_append_drop _ _).symm, by rw [List.length_append, hb1]; omega, B4, by simp, by rw [hdl]; exact s5, fun z hz hne => by obtain rfl := Option.some.inj hz; have := hnq _ rfl (by rintro rfl; simp at hne); show (adB qa oa c (64 - o)).block ≠ q; unfold adB; split <;> exact this, ud3⟩
  · rintro T w2 ⟨r0, hJ⟩
    go_upto_region 8 with fail
    refine v_loopM 1 (fun r T w2 => JT B b q w T w2 r) (fun r T w2 hh => by obtain ⟨a, c, P, D, R, h1, _⟩ := hh; rw [h1.get rfl]; rfl) hJ ?_
    clear hJ
    intro r T w2 hh
    obtain ⟨a2, c2, P, D, R2, q100, HJ⟩ := hh
    obtain ⟨rfl, hPD, hm, B2, hR2, s2, hn2, u2⟩ := HJ.out
    clear HJ
    have hpl : b.length = P.length + D.length := by rw [hPD, List.length_append]
    have hm2 := hm
    rw [List.length_append] at hm2
    by_cases hit : 64 ≤ D.length
    · go_upto_region 8 with fail
      refine wp_region_lit ?_
      refine q100.t (.slice a2 D.length c2) (ex_move rfl (q100.e (j := 1) rfl)) fun _ q101 => ?_;clear q100
      refine q101.t (.int .i64 ((D.length : Nat) : Int)) (ex_lenG rfl rfl Try.underlying73 (q101.e (j := 48) rfl)) fun _ q102 => ?_;clear q101
      refine q102.t (.bool (decide ((64 : Int) ≤ ((D.length : Nat) : Int)))) (ex_bin rfl (q102.e (j := 49) rfl) rfl (geqC _ _ _ _ _)) fun _ q103 => ?_;clear q102
      refine wpList_nil ?_
      have q103x := q103.a 50 rfl
      rw [decide_eq_true (by omega)] at q103x
      obtain ⟨qa, oa, hqa, hqal, _⟩ := s2.place (by rintro rfl; simp at hit)
      subst hqa
      have hcap := s2.cap
      have hnqa := hn2 _ rfl (by rintro rfl; simp at hit)
      go_upto_region 9 with fail
      refine wp_cond_true (ev q103x rfl) ?_
      clear q103x
      have q104 := (((Rp.nil q103.z).cons (q103.a 0 rfl)).cons (q103.a 1 rfl))
      clear q103
      go_upto_region 9 with fail
      refine vg_start (fun _ => false) (fun _ => True) (by kernel_rfl) ?_
      have hd : Below w2.heap.size w2 w2.drew := (Below.refl _ _).drew
      have hzd : w2.drew.heap.size = w2.heap.size := rfl
      generalize w2.drew = d at *
      have B2d := B2.later hd
      have s2d := s2.later hd
      have ud : Upd (fun k => k = q) w d := u2.trans18 (Upd.of_below hd) (fun _ _ h => h)
      have h64 : (D.take 64).length = 64 := by rw [List.length_take]; omega
      refine vg_takeW 0 true (.pointer (some ⟨q, 0, none⟩)) rfl (by kernel_rfl) (by kernel_rfl) (by kernel_rfl) (by kernel_rfl) (want_none rfl) (fun hc v => ex_move rfl (q104.e (j := 0) rfl)) rfl q104.z (by decide) (fun _ => trivial) (q104.k fun _ q105 => ?_);clear q104
      refine vg_takeW 1 true (.pointer (some ⟨q, 0, none⟩)) rfl (by kernel_rfl) (by kernel_rfl) (by kernel_rfl) (by kernel_rfl) (want_none rfl) (fun hc v => ex_nil rfl (q105.e (j := 51) rfl)) rfl q105.z (by decide) (fun _ => trivial) (q105.k fun _ q106 => ?_);clear q105
      refine vg_takeW 2 true (.pointer (some ⟨q, 1, none⟩)) rfl (by kernel_rfl) (by kernel_rfl) (by kernel_rfl) (by kernel_rfl) (want_none rfl) (fun hc v => ex_fa rfl (q106.e (j := 52) rfl) (faH q 1 1 (by decide) _)) rfl q106.z (by decide) (fun _ => trivial) (q106.k fun _ q107 => ?_);clear q106
      refine vg_takeW 3 true (.slice (some ⟨qa, oa, none⟩) D.length c2) rfl (by kernel_rfl) (by kernel_rfl) (by kernel_rfl) (by kernel_rfl) (want_none rfl) (fun hc v => ex_move rfl (q107.e (j := 1) rfl)) rfl q107.z (by decide) (fun _ => trivial) (q107.k fun _ q108 => ?_);clear q107
      refine vg_takeW 4 true (.slice (some ⟨qa, oa, none⟩) 64 c2) rfl (by kernel_rfl) (by kernel_rfl) (by kernel_rfl) (by kernel_rfl) (want_none rfl) (fun hc v => ex_sl19 rfl (q108.e (j := 54) rfl) rfl rfl rfl (slToB qa oa D.length c2 64 hit (by omega) _)) rfl q108.z (by decide) (fun _ => trivial) (q108.k fun _ q109 => ?_);clear q108
      refine vg_call 5 rfl (by kernel_rfl) (want_none rfl) (ex_call rfl (by simp only [List.map_toArray, List.map_cons, List.map_nil, (q109.e (j := 53) rfl), (q109.e (j := 55) rfl), evc] <;> rfl) rfl) (mix_any q true (stF (B ++ P)) R2 _ (D.take 64) (some ⟨qa, oa, none⟩) c2 d B2d (s2d.take 64 hit) h64) rfl q109.z (by decide) ?_
      rintro e d2 ⟨rfl, B3, u3⟩
      refine ⟨_, rfl, trivial, q109.k fun _ q110 => ?_⟩;clear q109
      have ud2 : Upd (fun k => k = q) w d2 := ud.trans18 u3 (fun _ _ h => h)
      have s3 : SlY yB9 d2 (some ⟨qa, oa, none⟩) D.length c2 D := s2d.upd u3 (fun z hz hne => hn2 z hz hne)
      refine vg_done (by kernel_rfl) ?_
      have q111 := (((Rp.nil q110.z).cons (q110.a 0 rfl)).cons (q110.a 1 rfl))
      clear q110
      go_upto_region 10 with fail
      refine wp_region_lit ?_
      refine q111.t (.slice (some ⟨qa, oa, none⟩) D.length c2) (ex_move rfl (q111.e (j := 1) rfl)) fun _ q112 => ?_;clear q111
      refine q112.t (.slice (some (adB qa oa c2 64)) (D.length - 64) (c2 - 64)) (ex_sl19 rfl (q112.e (j := 57) rfl) rfl rfl rfl (slFromB qa oa D.length c2 64 hit hcap _)) fun _ q113 => ?_;clear q112
      refine q113.t (.slice (some (adB qa oa c2 64)) (D.length - 64) (c2 - 64)) (ex_assign rfl (q113.e (j := 58) rfl)) fun _ q114 => ?_;clear q113
      have q115 := (((Rp.nil q114.z).cons (q114.a 0 rfl)).cons (q114.a 1 rfl))
      clear q114
      refine wpList_nil ?_
      have s5 := s3.from9 64 hit
      have hdl : (D.drop 64).length = D.length - 64 := List.length_drop ..
      have hst : stF (B ++ (P ++ D.take 64)) = blkF (stF (B ++ P)) (D.take 64) := by rw [← List.append_assoc]; exact stF_block _ _ hm h64
      rw [← hst] at B3
      exact ⟨_, D.length - 64, rfl, by omega, _, _, P ++ D.take 64, D.drop 64, R2, q115, hdl.symm, by rw [List.append_assoc, List.take_append_drop]; exact hPD, by rw [List.length_append, List.length_append, h64]; omega, B3, hR2, by rw [hdl]; exact s5, fun z hz hne => by obtain rfl := Option.some.inj hz; show (adB qa oa c2 64).block ≠ q; unfold adB; split <;> exact hnqa, ud2⟩
    · go_upto_region 8 with fail
      refine wp_region_lit ?_
      refine q100.t (.slice a2 D.length c2) (ex_move rfl (q100.e (j := 1) rfl)) fun _ q101 => ?_;clear q100
      refine q101.t (.int .i64 ((D.length : Nat) : Int)) (ex_lenG rfl rfl Try.underlying73 (q101.e (j := 48) rfl)) fun _ q102 => ?_;clear q101
      refine q102.t (.bool (decide ((64 : Int) ≤ ((D.length : Nat) : Int)))) (ex_bin rfl (q102.e (j := 49) rfl) rfl (geqC _ _ _ _ _)) fun _ q103 => ?_;clear q102
      refine wpList_nil ?_
      have q103x := q103.a 50 rfl
      rw [decide_eq_false (by omega)] at q103x
      go_upto_region 11 with fail
      refine wp_cond_false (ev q103x rfl) ?_
      clear q103x
      go_upto_region 11 with fail
      refine wp_region_lit ?_
      refine q103.t (.pointer (some ⟨q, 0, none⟩)) (ex_move rfl (q103.e (j := 0) rfl)) fun _ q104 => ?_;clear q103
      refine q104.t (.pointer (some ⟨q, 0, none⟩)) (ex_nil rfl (q104.e (j := 59) rfl)) fun _ q105 => ?_;clear q104
      refine q105.t (.pointer (some ⟨q, 9, none⟩)) (ex_fa rfl (q105.e (j := 60) rfl) (faH q 2 9 (by decide) _)) fun _ q106 => ?_;clear q105
      refine q106.t (.slice (some ⟨q, 9, none⟩) 64 64) (ex_sl19 rfl (q106.e (j := 61) rfl) rfl rfl rfl (slAll q _)) fun _ q107 => ?_;clear q106
      refine q107.t (.slice a2 D.length c2) (ex_move rfl (q107.e (j := 1) rfl)) fun _ q108 => ?_;clear q107
      obtain ⟨w3, hcp, B3, u3⟩ := copyH B2 (St.len _) hR2 0 64 64 (by omega) 3 s2
      have uw3 : Upd (fun k => k = q) w w3 := u2.trans18 u3 (fun _ _ h => h)
      refine vw (.int .i64 ((min D.length 64 : Nat) : Int)) w3 (want_none rfl) (ex_copy18 rfl (q108.e (j := 62) rfl) (q108.e (j := 63) rfl) hcp) rfl q108.z (by decide) (q108.k fun _ q109 => ?_);clear q108
      refine wpList_nil ?_
      go_wp2
      go_end0
      rw [List.take_of_length_le (show D.length ≤ 64 by omega), List.take_zero, List.nil_append, Nat.zero_add] at B3
      have e0 : B ++ b = (B ++ P) ++ D := by rw [hPD, List.append_assoc]
      have hls := stF_less (B ++ P) D (by omega)
      have hrm : rem9 (B ++ P) = [] := List.eq_nil_of_length_eq_zero (by rw [rem_len]; exact hm)
      refine ⟨rfl, ⟨D ++ R2.drop D.length, ?_, ?_, ?_⟩, uw3⟩
      · rw [e0, hls.1, ← e0, List.length_append]
        exact B3
      · rw [List.length_append, List.length_drop]
        omega
      · rw [e0, hls.2, hrm, List.nil_append, ← e0, List.length_append, show (B.length + b.length) % 64 = D.length by omega, List.take_left]

end Go.Proofs.Ytomiifnhcojilaa
