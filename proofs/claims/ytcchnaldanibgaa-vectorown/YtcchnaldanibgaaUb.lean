import Derived.Test.YtcchnaldanibgaaUa
namespace Go.Proofs.Ytcchnaldanibgaa
open Go.RowKit
set_option linter.unusedVariables false
set_option linter.unusedSimpArgs false

/-- Voices as cells. -/
def wcs : List Voi → List Value
  | [] => []
  | m :: r => .int .i64 m.node :: .slice m.x.a m.x.D.length m.x.c :: wcs r
theorem wcs_append : ∀ l m : List Voi, wcs (l ++ m) = wcs l ++ wcs m
  | [], m => rfl
  | d :: r, m => by simp only [wcs, List.cons_append, wcs_append r m]
theorem wcs_get0 : ∀ (l : List Voi) (i : Nat) (d : Voi), l[i]? = some d → (wcs l)[i * 2]? = some (.int .i64 d.node)
  | [], i, d, h => by simp at h
  | x :: r, 0, d, h => by simp at h; subst h; simp [wcs]
  | x :: r, i + 1, d, h => by
    have e : (i + 1) * 2 = i * 2 + 1 + 1 := by omega
    rw [e]
    simp only [wcs, List.getElem?_cons_succ] at h ⊢
    exact wcs_get0 r i d h
theorem wcs_get1 : ∀ (l : List Voi) (i : Nat) (d : Voi), l[i]? = some d → (wcs l)[i * 2 + 1]? = some (.slice d.x.a d.x.D.length d.x.c)
  | [], i, d, h => by simp at h
  | x :: r, 0, d, h => by simp at h; subst h; simp [wcs]
  | x :: r, i + 1, d, h => by
    have e : (i + 1) * 2 + 1 = i * 2 + 1 + 1 + 1 := by omega
    rw [e]
    simp only [wcs, List.getElem?_cons_succ] at h ⊢
    exact wcs_get1 r i d h
/-- A slice of voices of the call's own. -/
def OwnW (B : Nat) (w : World) (v : Value) (l : List Voi) : Prop := w.ownsRow B 56 2 v l.length (wcs l)
theorem OwnW.nil (B : Nat) (w : World) : OwnW B w (.slice none 0 0) [] := World.ownsRow_nil w B 56 2
theorem OwnW.alloc {B : Nat} {w : World} {v : Value} {l : List Voi} (h : OwnW B w v l) (o : Obj) : OwnW B (w.alloc o) v l := World.ownsRow.alloc h o
theorem OwnW.grown {B : Nat} {w0 w w' : World} {v : Value} {l : List Voi} (ho : OwnW B w v l) (h0 : Below B w0 w) (hg : w.grownBy w' v.ownBlock) (hB : B ≤ w.heap.size) : Below B w0 w' :=
  h0.grown hg hB (fun k hk => (World.ownsRow.lt ho k hk).1)
theorem OwnW.form {B : Nat} {w : World} {v : Value} {l : List Voi} (h : OwnW B w v l) : ∃ a c, v = .slice a l.length c ∧ l.length ≤ c ∧ c ≤ maxLen ∧ (l ≠ [] → ∃ g, a = some ⟨g, 0, none⟩ ∧ B ≤ g ∧ g < w.heap.size ∧ ∀ i m, l[i]? = some m → w.cell? ⟨g, i * 2, none⟩ = some (.int .i64 m.node) ∧ w.cell? ⟨g, i * 2 + 1, none⟩ = some (.slice m.x.a m.x.D.length m.x.c)) := by
  have h' := h
  rcases h.2 with ⟨e1, e2⟩ | ⟨g, cap, cur, e1, e2, e3, e4, e5, _⟩
  · exact ⟨none, 0, by rw [e1, e2], by omega, by unfold maxLen; omega, fun hh => absurd (List.eq_nil_of_length_eq_zero e2) hh⟩
  · refine ⟨_, cap, e1, e4, e5, fun _ => ⟨g, rfl, e2, ?_, fun i m hm => ?_⟩⟩
    · rcases Nat.lt_or_ge g w.heap.size with h' | h'
      · exact h'
      · rw [Array.getElem?_eq_none h'] at e3; cases e3
    · rw [e1] at h'
      have t0 := World.ownsRow.cells h' (g := g) rfl _ _ (wcs_get0 l i m hm)
      have t1 := World.ownsRow.cells h' (g := g) rfl _ _ (wcs_get1 l i m hm)
      rw [Addr.add_lit, Nat.zero_add] at t0 t1
      exact ⟨t0, t1⟩
theorem info_voice : (Try.prog.info? 56).map (fun i => (i.zero, i.size, i.bytes)) = some (some (.agg #[.int .i64 0, .slice none 0 0]), 2, 32) := by kernel_rfl
theorem app_voice (w : World) {ops : Array Oper} {rest : List Oper} {o : Oper} {a : Act} {Q : Exit → Act → World → Prop} (hgd : o.guard = none) (s x : Operand)
    (ho : o.op = .call { callee := .builtin .append, args := #[s, x], argTypes := #[54, 54] }) (B : Nat) (L : List Voi) (v : Value) (hs : a.eval s = v)
    (ad : Addr) (hx : a.eval x = .slice (some ad) 1 1) (m : Voi) (hc : w.cell? ad = some (.int .i64 m.node)) (hc1 : w.cell? (ad.add 1) = some (.slice m.x.a m.x.D.length m.x.c)) (hown : OwnW B w v L) (hB : B ≤ w.heap.size) (hb : (L.length + 1) * 32 ≤ 140737488355328)
    (hk : ∀ v' w', OwnW B w' v' (L ++ [m]) → w.grownBy w' v.ownBlock → wpList Try.prog ops Q rest (a.put o.dst v') w') : wpList Try.prog ops Q (o :: rest) a w := by
  refine wpList_plain hgd fun K hK => ?_
  obtain ⟨i0, hi, hz0, hz1, hz2⟩ := info_parts info_voice
  obtain ⟨v', w', hr, h2, h3, h4⟩ := run_append_own (P := Try.prog) w B 54 o.type 56 i0 (.agg #[.int .i64 0, .slice none 0 0]) 2 32 Try.underlying54 hi hz0 hz1 hz2 rfl (by decide) v L.length (wcs L) hown ad 1 1 [.int .i64 m.node, .slice m.x.a m.x.D.length m.x.c] rfl (by
    intro j u hu
    match j, hu with
    | 0, hu => simp at hu; subst hu; obtain ⟨b, o, s⟩ := ad; exact hc
    | 1, hu => simp at hu; subst hu; exact hc1
    | j + 2, hu => simp at hu) (by intro u hu; simp at hu; rcases hu with rfl | rfl <;> rfl) (by unfold maxLen; omega) hb hB
  unfold Oper.wp execOp
  simp only [ho, resolve, invoke, builtin, Sem.run_bind, Sem.run_pure, Result.andThen_ok, List.map_toArray, List.map_cons, List.map_nil, hs, hx, hr]
  refine hK _ _ (hk v' w' ?_ h3)
  have : wcs (L ++ [m]) = wcs L ++ [.int .i64 m.node, .slice m.x.a m.x.D.length m.x.c] := by rw [wcs_append]; rfl
  unfold OwnW
  rw [this, List.length_append]
  exact h2

/-- A slice of bools. -/
structure SlB (w : World) (a : Option Addr) (n c : Nat) (f : Nat → Bool) : Prop where
  cap : n ≤ c
  max : c ≤ maxLen
  at_ : 0 < n → ∃ q o, a = some ⟨q, o, none⟩ ∧ q < w.heap.size ∧ ∀ i, i < n → w.cell? ⟨q, o + i, none⟩ = some (.bool (f i))
theorem SlB.bel {w w' : World} {a : Option Addr} {n c : Nat} {f : Nat → Bool} (h : SlB w a n c f) (b : Below w.heap.size w w') : SlB w' a n c f :=
  ⟨h.cap, h.max, fun hn => by
    obtain ⟨q, o, e, hq, hc⟩ := h.at_ hn
    exact ⟨q, o, e, Nat.lt_of_lt_of_le hq b.size, fun i hi => (b.cell (p := ⟨q, o + i, none⟩) hq).trans (hc i hi)⟩⟩
/-- A slice of voices that came in. -/
structure SlW (w : World) (a : Option Addr) (n c : Nat) (L : List Voi) : Prop where
  len : L.length = n
  cap : n ≤ c
  max : c ≤ maxLen
  at_ : L ≠ [] → ∃ q o, a = some ⟨q, o, none⟩ ∧ q < w.heap.size ∧ LieW w q o L
theorem SlW.bel {w w' : World} {a : Option Addr} {n c : Nat} {L : List Voi} (h : SlW w a n c L) (b : Below w.heap.size w w') : SlW w' a n c L :=
  ⟨h.len, h.cap, h.max, fun hn => by
    obtain ⟨q, o, e, hq, hc⟩ := h.at_ hn
    exact ⟨q, o, e, Nat.lt_of_lt_of_le hq b.size, hc.bel hq b⟩⟩
/-- The voices at the places that are picked. -/
def partL (L : List Voi) (F : Nat → Bool) : Nat → List Voi
  | 0 => []
  | k + 1 => if F k then partL L F k ++ [vAt L k] else partL L F k
theorem partL_le (L : List Voi) (F : Nat → Bool) : ∀ n, (partL L F n).length ≤ n
  | 0 => Nat.le_refl _
  | n + 1 => by
    unfold partL
    have := partL_le L F n
    split
    · rw [List.length_append]; simp; omega
    · omega
theorem partL_mem (L : List Voi) (F : Nat → Bool) : ∀ n m, m ∈ partL L F n → ∃ i, i < n ∧ F i = true ∧ m = vAt L i
  | 0, m, h => by cases h
  | n + 1, m, h => by
    unfold partL at h
    split at h
    · rename_i hf
      rcases List.mem_append.1 h with h | h
      · obtain ⟨i, h1, h2⟩ := partL_mem L F n m h
        exact ⟨i, by omega, h2⟩
      · exact ⟨n, by omega, hf, by simpa using h⟩
    · obtain ⟨i, h1, h2⟩ := partL_mem L F n m h
      exact ⟨i, by omega, h2⟩
set_option maxRecDepth 100000 in
set_option maxHeartbeats 1000000 in
theorem part_any (L : List Voi) (al : Option Addr) (n c : Nat) (ap : Option Addr) (np cp : Nat) (f : Nat → Bool) (w : World) (h : SlW w al n c L) (hp : SlB w ap np cp f) (hb : n * 32 ≤ 140737488355328) :
    Calls Try.prog 33 #[.slice al n c, .slice ap np cp] w fun e w' => ∃ v, e = .returned v ∧ OwnW w.heap.size w' v (partL L (fun i => decide (i < np) && f i) n) ∧ Below w.heap.size w w' := by
  have HW := hide h
  have HP := hide hp
  have k1 := h.cap
  have k2 := h.max
  have k3 := hp.cap
  have k4 := hp.max
  unfold maxLen at k2 k4
  clear h hp
  go_enter Try.func33, Try.ntmps33
  go_wp2_with fail
  go_loopw [6, 5] (fun i v wr => ∃ (k : Nat), i = .int .i64 (k : Int) ∧ k ≤ n ∧ OwnW w.heap.size wr v (partL L (fun i => decide (i < np) && f i) k) ∧ Below w.heap.size w wr) (fun i _ _ => n - (intOf i).toNat)
  case atStart => exact ⟨0, rfl, Nat.zero_le _, OwnW.nil _ _, Below.refl _ _⟩
  case round =>
    obtain ⟨k, rfl, hk, ho, hb2⟩ := hrel
    have hsz := hb2.size
    by_cases hlt : k < n
    · have hlL : k < L.length := by rw [HW.out.len]; exact hlt
      obtain ⟨q, o, rfl, hq, hlie⟩ := HW.out.at_ (by rintro rfl; simp at hlL)
      have hy := vAt_get hlL
      obtain ⟨p0, p1, _⟩ := hlie k _ hy
      have t0 := (hb2.cell (p := ⟨q, o + k * 2, none⟩) hq).trans p0
      have t1 := (hb2.cell (p := ⟨q, o + k * 2 + 1, none⟩) hq).trans p1
      have PS : Hid (partL L (fun i => decide (i < np) && f i) (k + 1) = if (decide (k < np) && f k) then partL L (fun i => decide (i < np) && f i) k ++ [vAt L k] else partL L (fun i => decide (i < np) && f i) k) := rfl
      have LE := hide (partL_le L (fun i => decide (i < np) && f i) k)
      have HO := hide ho
      clear p0 p1 hlie hy ho hlL
      generalize partL L (fun i => decide (i < np) && f i) k = PL at *
      generalize vAt L k = m at *
      obtain ⟨mn, ma, mc, mD⟩ := m
      simp only at t0 t1
      by_cases hkp : k < np
      · obtain ⟨qp, op, rfl, hqp, hcp⟩ := HP.out.at_ (by omega)
        have e0 := (hb2.cell (p := ⟨qp, op + k, none⟩) hqp).trans (hcp k hkp)
        clear hcp
        cases hf : f k with
        | true =>
          rw [hf] at e0
          rw [hf, decide_eq_true hkp] at PS
          simp only [Bool.and_self, if_true] at PS
          have OA := hide (HO.out.alloc (.cells #[.int .i64 mn, .slice ma mD.length mc] 56))
          clear HO
          go_wp2_with (at_builtin; go_must (refine app_voice _ rfl (.tmp 23) (.tmp 28) rfl w.heap.size PL _ rfl ⟨wr.heap.size, 0, none⟩ rfl ⟨mn, ma, mc, mD⟩ (by simp) (by simp [Addr.add]) OA.out (by simp; omega) (by have := LE.out; omega) ?_))
          intro v' w2 o2 g2
          have b2 : Below w.heap.size w w2 := OA.out.grown (hb2.alloc hsz _) g2 (by simp; omega)
          have O2 := hide o2
          clear OA o2 g2
          go_wp2
          go_round
          case rel => exact ⟨k + 1, by go_num, by omega, by rw [PS.out]; exact O2.out, b2⟩
          case measure => simp [intOf]; omega
        | false =>
          rw [hf] at e0
          rw [hf] at PS
          simp only [Bool.and_false, Bool.false_eq_true, if_false] at PS
          go_wp2
          go_round
          case rel => exact ⟨k + 1, by go_num, by omega, by rw [PS.out]; exact HO.out, hb2⟩
          case measure => simp [intOf]; omega
      · rw [decide_eq_false hkp] at PS
        simp only [Bool.false_and, Bool.false_eq_true, if_false] at PS
        go_wp2
        go_round
        case rel => exact ⟨k + 1, by go_num, by omega, by rw [PS.out]; exact HO.out, hb2⟩
        case measure => simp [intOf]; omega
    · obtain rfl : k = n := by omega
      have HO := hide ho
      clear ho
      go_wp2
      go_ret
      exact ⟨_, rfl, HO.out, hb2⟩

end Go.Proofs.Ytcchnaldanibgaa
