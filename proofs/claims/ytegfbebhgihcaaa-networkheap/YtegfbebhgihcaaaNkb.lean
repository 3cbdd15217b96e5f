import Derived.Test.YtegfbebhgihcaaaNka
namespace Go.Proofs.Ytegfbebhgihcaaa
open Go.RowKit Go.Maps
set_option linter.unusedVariables false
set_option linter.unusedSimpArgs false

variable {w w' : World} {b mb n : Nat} {nn cc : Int} {pv rv : Value} {P R : List Pk} {M : Int → List UInt8 → Nat}
/-- The list without one place. -/
def dr {α : Type} (L : List α) (k : Nat) : List α := L.take k ++ L.drop (k + 1)
/-- 'append(s[:k:k], s[k+1:]...)' at an operation of a region that draws its order: nothing that was there is changed. -/
theorem stepCut {ops : Array Oper} {o : Oper} {a : Act} {w : World} {K' : Act → World → Prop} {Q : Exit → Act → World → Prop} {E : Prop} (hg : o.guard = none) (s x : Operand)
    (ho : o.op = .call { callee := .builtin .append, args := #[s, x], argTypes := #[81, 81] }) (y : Addr) (k : Nat) (hs : a.eval s = .slice (some y) k k) (ad : Option Addr) (m c : Nat) (hx : a.eval x = .slice ad m c) (P news : List Pk) (hP : SlY yP w (some y) k k P) (hh : SlY yP w ad m c news) (hb : (k + m) * 32 ≤ 168884986026393)
    (hk : ∀ v' w', Pl w' v' (P ++ news) → Below w.heap.size w w' → (v'.ownBlock = some y.block ∨ ∃ k, v'.ownBlock = some k ∧ w.heap.size ≤ k ∧ k < w'.heap.size) → K' (a.put o.dst v') w') :
    if Region.wanted o (yielded ops a.tmps) = true then Oper.wp Try.prog o a w K' Q else E := by
  have hw : Region.wanted o (yielded ops a.tmps) = true := by simp [Region.wanted, hg]
  rw [if_pos hw]
  obtain rfl := hP.len
  have hrun : ∃ v' w', (Builtin.append_ #[81, 81] o.type #[.slice (some y) P.length P.length, .slice ad m c]).run Try.prog w = .ok v' w' ∧ Pl w' v' (P ++ news) ∧ Below w.heap.size w w' ∧ (v'.ownBlock = some y.block ∨ ∃ k, v'.ownBlock = some k ∧ w.heap.size ≤ k ∧ k < w'.heap.size) := by
    by_cases hm : m = 0
    · obtain ⟨v', w', h1, h2, h3, h4⟩ := run_appPl w o.type _ P (.inr ⟨y, rfl, hP⟩) ad m c news hh hb
      subst hm
      obtain rfl := List.eq_nil_of_length_eq_zero hh.len
      obtain ⟨zv, hinfo, hzc⟩ := kP.info
      obtain ⟨i0, hi, hz0, hz1, hz2⟩ := info_parts hinfo
      have hi' : Try.prog.info? 105 = some i0 := hi
      have hr : (Builtin.append_ #[81, 81] o.type #[.slice (some y) P.length P.length, .slice ad 0 c]).run Try.prog w = .ok (.slice (some y) P.length P.length) w := by
        cases ad with
        | none => simp [Builtin.append_, run_underlying Try.underlying81, sizeOf, typeInfo, hi', Builtin.lenOf, Builtin.firstCells, loadCells, loadCellsFrom, storeCells]
        | some z => simp [Builtin.append_, run_underlying Try.underlying81, sizeOf, typeInfo, hi', Builtin.lenOf, Builtin.firstCells, loadCells, loadCellsFrom, storeCells]
      exact ⟨_, _, hr, .inr ⟨y, by rw [List.append_nil], by rw [List.append_nil]; exact hP⟩, Below.refl _ _, .inl rfl⟩
    · obtain ⟨cap, w', h1, h2, h3⟩ := run_appF kP (by decide) w o.type y P news hP ad m c hh (by omega) (by unfold maxLen; omega) hb
      exact ⟨_, w', h1, .inl (h2.low (Nat.zero_le _)), h3, .inr ⟨_, rfl, Nat.le_refl _, (h2.blk _ rfl).2⟩⟩
  obtain ⟨v', w', hr, h2, h3, h4⟩ := hrun
  unfold Oper.wp execOp
  simp only [ho, resolve, invoke, builtin, Sem.run_bind, Sem.run_pure, Result.andThen_ok, List.map_toArray, List.map_cons, List.map_nil, hs, hx, hr]
  exact hk v' w' h2 h3 h4
/-- A slice's beginning without room; what is behind a place. -/
theorem SlY.front8 {α : Type} {Y : Lay α} {w : World} {a : Option Addr} {n c k : Nat} {l : List α} (h : SlY Y w a n c l) (hk : k ≤ n) : SlY Y w a k k (l.take k) :=
  ⟨by rw [List.length_take, h.len]; omega, Nat.le_refl _, by have := h.cap; have := h.max; omega, (fun e => by have := h.nil e; omega), fun x hx => by
    rcases h.at_ x hx with e | ⟨q, o, rfl, hq, hl⟩
    · exact .inl (by rw [e]; simp)
    · refine .inr ⟨q, o, rfl, hq, fun i y hy => hl i y ?_⟩
      rw [List.getElem?_take] at hy
      split at hy
      · exact hy
      · cases hy⟩
theorem LieY.drop8 {α : Type} {Y : Lay α} {w : World} {q o : Nat} {l : List α} (h : LieY Y w q o l) (j : Nat) : LieY Y w q (o + j * Y.k) (l.drop j) := fun i x hx u v hv => by
  rw [List.getElem?_drop] at hx
  have := h _ _ hx u v hv
  rw [Nat.add_mul] at this
  rw [show o + j * Y.k + i * Y.k + u = o + (j * Y.k + i * Y.k) + u by omega]
  exact this
set_option maxRecDepth 100000 in
set_option maxHeartbeats 1000000 in
theorem drop_ok (k : Nat) (h : Net w b nn cc pv rv mb n P R M) (hk : k < P.length) (hl : P.length * 32 ≤ 168884986026393) : Calls Try.prog 29 #[.pointer (some ⟨b, 0, none⟩), .int .i64 (k : Int)] w fun e w' => e = .returned (.int .i64 0) ∧ ∃ pv', Net w' b nn cc pv' rv mb n (dr P k) R M ∧ Upd (fun k => k = b) w w' ∧ (pv'.ownBlock = pv.ownBlock ∨ ∃ k, pv'.ownBlock = some k ∧ w.heap.size ≤ k) := by
  have HN := hide h
  have c2 := h.c2
  have f2 := h.fr 2
  have hlt := h.lt
  obtain ⟨a, c, hpv, hsl⟩ := h.pl.sl
  subst hpv
  obtain ⟨q, o, ha, hq, hlie⟩ := hsl.place (by intro e; rw [e] at hk; simp at hk)
  subst ha
  have HW : ∀ v, Hid (Calls Try.prog 77 #[.int .i64 (k : Int), .int .i64 (P.length : Int)] v fun e w' => e = .returned (.bool true) ∧ w' = v) := fun v => by
    have := isWithin_any (k : Int) (P.length : Int) v
    rw [decide_eq_true (show (0 : Int) ≤ k by omega), decide_eq_true (show (k : Int) < P.length by omega)] at this
    exact this
  have hcap := hsl.cap
  have hmax := hsl.max
  unfold maxLen at hmax
  have i1 : (k : Int) ≤ (P.length : Int) := by omega
  have i2 : (k : Int) + 1 ≤ (P.length : Int) := by omega
  have hw1 : IntKind.i64.wrap ((k : Int) + 1) = (k : Int) + 1 := by rw [IntKind.wrap_i64]; omega
  have SF := hide ((hsl.front8 (Nat.le_of_lt hk)).later (Below.refl _ _).drew)
  have hsb : ∀ ad cr, (ad = none → False) → cr ≤ maxLen → P.length - (k + 1) ≤ cr → (∀ x, ad = some x → P.length = k + 1 ∨ x = ⟨q, o + (k + 1) * 3, none⟩) → SlY yP w.drew ad (P.length - (k + 1)) cr (P.drop (k + 1)) := fun ad cr h1 h2 h3 h4 => ⟨by simp, h3, h2, (fun e => (h1 e).elim), fun x hx => by
    rcases h4 x hx with e | e
    · exact .inl (List.drop_eq_nil_of_le (by omega))
    · subst e
      exact .inr ⟨q, _, rfl, hq, (hlie.drop8 (k + 1)).upd (S := fun _ => False) (Upd.of_below (Below.refl _ _).drew) hq id⟩⟩
  have z1 : (0 : Int) ≤ (k : Int) + 1 := by omega
  have SB := hide hsb
  clear h hsl hlie hsb
  by_cases hc : c = k + 1
  · subst hc
    have j1 : (k : Int) ≤ (k : Int) + 1 := by omega
    have j2 : k ≤ k + 1 := by omega
    have j3 : k + 1 ≤ P.length := by omega
    have hd0 : dr P k = P.take k ++ [] := by unfold dr; rw [List.drop_eq_nil_of_le (by omega)]
    have S0 : Hid (SlY yP w.drew (some ⟨q, o, none⟩) 0 0 []) := ⟨rfl, Nat.le_refl _, by unfold maxLen; omega, (fun e => by cases e), fun x hx => .inl rfl⟩
    have hl0 : (k + 0) * 32 ≤ 168884986026393 := by omega
    rw [hd0]
    clear hd0
    go_enter Try.func29, Try.ntmps29
    go_wp2_with fail
    refine (HW _).out.mono ?_
    rintro e w1 ⟨rfl, rfl⟩
    go_wp2_with fail
    go_region_law (refine stepCut rfl (.tmp 24) (.tmp 31) rfl ⟨q, o, none⟩ k rfl (some ⟨q, o, none⟩) 0 0 rfl (P.take k) [] SF.out S0.out hl0 ?_; intro v1 w2 k1 b1 n1; have q2 := (b1.cell (p := ⟨b, 2, none⟩) hlt).trans c2; have qf := (b1.frozen (p := ⟨b, 2, none⟩) hlt).trans f2; obtain ⟨va, vc, hv1, _⟩ := k1.sl; generalize (P.take k ++ []).length = ll at hv1; subst hv1)
    all_goals
      have u1 : Upd (fun k => (Value.slice (some ⟨q, o, none⟩) P.length (k + 1)).ownBlock = some k) w1 w2 := Upd.of_below ((Below.refl _ _).drew.trans b1)
      have hlt2 : ∀ g, (Value.slice va ll vc).ownBlock = some g → g < w2.heap.size := by
        rcases n1 with e | ⟨k', e, hk', hk2⟩
        · intro g hg
          rw [e] at hg
          cases hg
          exact Nat.lt_of_lt_of_le hq b1.size
        · intro g hg
          rw [e] at hg
          cases hg
          exact hk2
      obtain ⟨N1, U1⟩ := HN.out.setPool u1 k1 (n1.imp id (fun ⟨k', e1, e2, _⟩ => .inr ⟨k', e1, e2⟩)) hlt2 (fun p hp => HN.out.sp p (List.mem_of_mem_take (by simpa using hp)))
      have H1 := hide N1
      have U2 : Hid (Upd (fun k => k = b) w1 (w2.setCell ⟨b, 2, none⟩ (.slice va ll vc))) := ((Upd.of_below (S := fun k => k = b) ((Below.refl _ _).drew.trans b1))).setCell (p := ⟨b, 2, none⟩) (.inl rfl) _
      have H3 : Hid ((Value.slice va ll vc).ownBlock = some q ∨ ∃ k', (Value.slice va ll vc).ownBlock = some k' ∧ w1.heap.size ≤ k') := n1.imp id (fun ⟨k', e1, e2, _⟩ => ⟨k', e1, e2⟩)
      clear N1 U1 u1 k1 n1 b1 hlt2 q2 qf c2 f2 SF HN
      go_wp2
      go_ret
      exact ⟨rfl, _, H1.out, U2.out, H3.out⟩
  · have j2 : k ≤ c := by omega
    have j3 : k + 1 ≤ P.length := by omega
    have S0 := hide (SB.out (some ⟨q, o + (k + 1) * 3, none⟩) (c - (k + 1)) (fun e => by cases e) (by unfold maxLen; omega) (by omega) (fun x hx => .inr (by cases hx; rfl)))
    have hl0 : (k + (P.length - (k + 1))) * 32 ≤ 168884986026393 := by omega
    unfold dr
    go_enter Try.func29, Try.ntmps29
    go_wp2_with fail
    refine (HW _).out.mono ?_
    rintro e w1 ⟨rfl, rfl⟩
    go_wp2_with fail
    go_region_law (refine stepCut rfl (.tmp 24) (.tmp 31) rfl ⟨q, o, none⟩ k rfl (some ⟨q, o + (k + 1) * 3, none⟩) (P.length - (k + 1)) (c - (k + 1)) rfl (P.take k) (P.drop (k + 1)) SF.out S0.out hl0 ?_; intro v1 w2 k1 b1 n1; have q2 := (b1.cell (p := ⟨b, 2, none⟩) hlt).trans c2; have qf := (b1.frozen (p := ⟨b, 2, none⟩) hlt).trans f2; obtain ⟨va, vc, hv1, _⟩ := k1.sl; generalize (P.take k ++ P.drop (k + 1)).length = ll at hv1; subst hv1)
    all_goals
      have u1 : Upd (fun k => (Value.slice (some ⟨q, o, none⟩) P.length c).ownBlock = some k) w1 w2 := Upd.of_below ((Below.refl _ _).drew.trans b1)
      have hlt2 : ∀ g, (Value.slice va ll vc).ownBlock = some g → g < w2.heap.size := by
        rcases n1 with e | ⟨k', e, hk', hk2⟩
        · intro g hg
          rw [e] at hg
          cases hg
          exact Nat.lt_of_lt_of_le hq b1.size
        · intro g hg
          rw [e] at hg
          cases hg
          exact hk2
      obtain ⟨N1, U1⟩ := HN.out.setPool u1 k1 (n1.imp id (fun ⟨k', e1, e2, _⟩ => .inr ⟨k', e1, e2⟩)) hlt2 (fun p hp => HN.out.sp p ((List.mem_append.1 hp).elim List.mem_of_mem_take List.mem_of_mem_drop))
      have H1 := hide N1
      have U2 : Hid (Upd (fun k => k = b) w1 (w2.setCell ⟨b, 2, none⟩ (.slice va ll vc))) := ((Upd.of_below (S := fun k => k = b) ((Below.refl _ _).drew.trans b1))).setCell (p := ⟨b, 2, none⟩) (.inl rfl) _
      have H3 : Hid ((Value.slice va ll vc).ownBlock = some q ∨ ∃ k', (Value.slice va ll vc).ownBlock = some k' ∧ w1.heap.size ≤ k') := n1.imp id (fun ⟨k', e1, e2, _⟩ => ⟨k', e1, e2⟩)
      clear N1 U1 u1 k1 n1 b1 hlt2 q2 qf c2 f2 SF HN
      go_wp2
      go_ret
      exact ⟨rfl, _, H1.out, U2.out, H3.out⟩

end Go.Proofs.Ytegfbebhgihcaaa
