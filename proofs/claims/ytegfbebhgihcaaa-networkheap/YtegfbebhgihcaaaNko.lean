import Derived.Test.YtegfbebhgihcaaaNkn
import Derived.Test.YtegfbebhgihcaaaNkk
namespace Go.Proofs.Ytegfbebhgihcaaa
open Go.RowKit Go.Maps
set_option linter.unusedVariables false
set_option linter.unusedSimpArgs false

/-- Whole numbers in a row. -/
def yJ : Lay Int := ⟨3, 74, 1, 8, fun x => [.int .i64 x], 0⟩
theorem kJ : yJ.Ok := ⟨by decide, fun x => rfl, fun x u h => by
    simp [yJ] at h
    subst h
    rfl, Try.underlying74, ⟨.int .i64 0, by kernel_rfl, rfl⟩⟩
theorem SlY.intJ {w : World} {a : Option Addr} {n c : Nat} {L : List Int} (h : SlY yJ w a n c L) {j : Nat} {x : Int} (hx : L[j]? = some x) : ∃ q o, a = some ⟨q, o, none⟩ ∧ q < w.heap.size ∧ w.cell? ⟨q, o + j, none⟩ = some (.int .i64 x) := by
  obtain ⟨q, o, ea, hq, hl⟩ := h.place (by rintro rfl; simp at hx)
  have := hl j x hx 0 _ rfl
  rw [show o + j * yJ.k + 0 = o + j by show o + j * 1 + 0 = o + j; omega] at this
  exact ⟨q, o, ea, hq, this⟩
theorem NetB.later {B : Nat} {w w' : World} {b : Nat} {nn cc : Int} {P : List Pk} {rl : Nat} (h : NetB B w b nn cc P rl) (hb : Below w.heap.size w w') : NetB B w' b nn cc P rl := by
  obtain ⟨pv, rv, mb, n, R, M, k1, k2⟩ := h.ex
  exact ⟨pv, rv, mb, n, R, M, k1.later hb, k2⟩
theorem NetB.lt {B : Nat} {w : World} {b : Nat} {nn cc : Int} {P : List Pk} {rl : Nat} (h : NetB B w b nn cc P rl) : b < w.heap.size ∧ B ≤ b := by
  obtain ⟨pv, rv, mb, n, R, M, k1, k2, _⟩ := h.ex
  exact ⟨k1.lt, k2⟩
/-- Take of what is in a place. -/
theorem take_b (B : Nat) (k : Nat) (p : Pk) (rl : Nat) (w : World) (b : Nat) (P : List Pk) (h : NetB B w b 3 2 P rl) (hB : B ≤ w.heap.size) (hk : P[k]? = some p) (hl : P.length * 32 ≤ 168884986026393) :
    Calls Try.prog 26 #[.pointer (some ⟨b, 0, none⟩), .int .i64 (k : Int)] w fun e w' => ∃ x : Ap, e = .returned (.tuple #[x.val, .int .i64 0]) ∧ x.pk = p ∧ x.Out w.heap.size w' ∧ NetB B w' b 3 2 (dr P k) rl ∧ Upd (fun k => k = b) w w' := by
  obtain ⟨pv, rv, mb, n, R, M, h1, h2, h3, h4, h5, h6⟩ := h
  refine (take_ok k p h1 hk hl).mono ?_
  rintro e w' ⟨x, rfl, hx, ho, pv', N, U, n'⟩
  refine ⟨x, rfl, hx, ho, ⟨pv', rv, mb, n, R, M, N, h2, h3, fun g hg => ?_, h5, h6⟩, U⟩
  rcases n' with e | ⟨k', e, hk'⟩
  · exact h4 g (e ▸ hg)
  · rw [e] at hg; cases hg; omega
theorem len14_b {B : Nat} {w : World} {b : Nat} {nn cc : Int} {P : List Pk} {rl : Nat} (h : NetB B w b nn cc P rl) : Calls Try.prog 34 #[.pointer (some ⟨b, 0, none⟩)] w fun e w' => e = .returned (.int .i64 (P.length : Int)) ∧ w' = w := by
  obtain ⟨pv, rv, mb, n, R, M, h1, _⟩ := h.ex
  exact len14_any h1
theorem take_0 {B : Nat} {w : World} {b : Nat} {rl : Nat} (h : NetB B w b 3 2 [] rl) : Calls Try.prog 26 #[.pointer (some ⟨b, 0, none⟩), .int .i64 0] w fun e w' => e = .returned (.tuple #[.agg #[.int .i64 0, .int .i64 0, .slice none 0 0], .int .i64 141]) ∧ Below w.heap.size w w' := by
  obtain ⟨pv, rv, mb, n, R, M, h1, _⟩ := h.ex
  exact take_gen _ 0 141 141 w (fun o => at_bad 0 (h1.later ((Below.refl _ _).alloc (Nat.le_refl _) o)) (.inr (by simp))) (fun v hb => drop_bad 0 (h1.later hb) (.inr (by simp)))
theorem SlY.front9 {α : Type} {Y : Lay α} {w : World} {a : Option Addr} {n c k : Nat} {l : List α} (h : SlY Y w a n c l) (hk : k ≤ n) : SlY Y w a k c (l.take k) :=
  ⟨by rw [List.length_take, h.len]; omega, by have := h.cap; omega, h.max, (fun e => by have := h.nil e; omega), fun x hx => by
    rcases h.at_ x hx with e | ⟨q, o, rfl, hq, hl⟩
    · exact .inl (by rw [e]; simp)
    · exact .inr ⟨q, o, rfl, hq, fun i y hy j u hu => by
        rw [List.getElem?_take] at hy
        split at hy
        · exact hl i y hy j u hu
        · cases hy⟩⟩
theorem SlY.rest9 {α : Type} {Y : Lay α} {w : World} {q o n c k : Nat} {l : List α} (h : SlY Y w (some ⟨q, o, none⟩) n c l) (hk : k + 1 ≤ n) (ad : Option Addr) (h1 : ad = none → False) (h4 : ∀ x, ad = some x → n = k + 1 ∨ x = ⟨q, o + (k + 1) * Y.k, none⟩) : SlY Y w ad (n - (k + 1)) (c - (k + 1)) (l.drop (k + 1)) := by
  have hl := h.len
  have hc := h.cap
  refine ⟨by rw [List.length_drop, hl], by omega, by have := h.max; omega, (fun e => (h1 e).elim), fun x hx => ?_⟩
  rcases h4 x hx with e | e
  · exact .inl (List.drop_eq_nil_of_le (by omega))
  · rcases h.at_ _ rfl with e' | ⟨q', o', e', hq, hlie⟩
    · exact .inl (by rw [e']; simp)
    · cases e'
      subst e
      exact .inr ⟨q, _, rfl, hq, hlie.drop8 (k + 1)⟩
set_option maxRecDepth 100000 in
/-- A call of CopyPackets, in a region that draws its order. -/
theorem step_cpks {ops : Array Oper} {o : Oper} {a : Act} {w : World} {K' : Act → World → Prop} {Q : Exit → Act → World → Prop} {E : Prop} (hg : o.guard = none) (x : Operand)
    (ho : o.op = .call { callee := .value (.func 39), args := #[x], argTypes := #[60] }) (ad : Option Addr) (n c : Nat) (hx : a.eval x = .slice ad n c) (L : List Ap) (hn : L.length = n) (h : SlY yA w ad n c L) (hin : ∀ x ∈ L, x.In w ∧ x.s.length ≤ 140737488351232) (hl : L.length * 40 ≤ 140737488351232)
    (hK : ∀ v' L' w', Lf w.heap.size w' v' L' (L.map Ap.pk) → Below w.heap.size w w' → K' (a.put o.dst v') w') :
    if Region.wanted o (yielded ops a.tmps) = true then Oper.wp Try.prog o a w K' Q else E := by
  have hw : Region.wanted o (yielded ops a.tmps) = true := by simp [Region.wanted, hg]
  subst hn
  rw [if_pos hw]
  have hr : (execOp a.eval o).run Try.prog w = .ok (.enter 39 #[.slice ad L.length c]) w := by
    unfold execOp
    simp only [ho, resolve, invoke, Sem.run_bind, List.map_toArray, List.map_cons, List.map_nil, hx]
    rfl
  unfold Oper.wp
  rw [hr, Oper.upon_enter]
  refine (copypks_any L ad c w h hin hl).mono ?_
  rintro e w' ⟨v', L', rfl, h1, h2⟩
  exact hK v' L' w' h1 h2
theorem map_dr {α β : Type} (f : α → β) (L : List α) (k : Nat) : (dr L k).map f = dr (L.map f) k := by
  unfold dr
  rw [List.map_append, List.map_take, List.map_drop]
theorem dr_len {α : Type} {L : List α} {k : Nat} (h : k < L.length) : (dr L k).length = L.length - 1 := by
  unfold dr
  rw [List.length_append, List.length_take, List.length_drop]
  omega
set_option maxRecDepth 100000 in
set_option maxHeartbeats 4000000 in
theorem orders14 (L : List Ap) (a : Option Addr) (c : Nat) (O : List Int) (ao : Option Addr) (co : Nat) (w : World) (h : SlY yA w a L.length c L) (hin : ∀ x ∈ L, x.In w ∧ x.s.length ≤ 140737488351232) (hl : L.length * 40 ≤ 140737488351232) (ho : SlY yJ w ao O.length co O) (hO : ∀ k ∈ O, (Lit.int .i64 k).wf = true) :
    Calls Try.prog 6 #[.slice a L.length c, .slice ao O.length co] w fun e w' => e = .returned (.bool true) ∧ Below w.heap.size w w' := by
  have HF := hide (filled_any L a c w h hin hl)
  have HO := hide ho
  have HOw := hide hO
  clear h hin ho hO
  go_enter Try.func6, Try.ntmps6
  go_wp2_with fail
  refine HF.out.mono ?_
  rintro e w1 ⟨b, rfl, N1, b1⟩
  have HN1 := hide N1
  have HB1 := hide b1
  clear N1 b1 HF
  go_wp2_with fail
  refine (works14 w1).mono ?_
  rintro e w2 ⟨rfl, b2⟩
  have HN2 := hide (HN1.out.later b2)
  have HB2 := hide (HB1.out.trans (b2.mono HB1.out.size))
  have hbB := (HN1.out.later b2).lt
  clear b2 HN1 HB1
  have HPl := hide (pool_any b (L.map fitP) L.length w.heap.size w2 HN2.out (by rw [List.length_map]; omega))
  go_wp2_with fail
  refine HPl.out.mono ?_
  rintro e w3 ⟨v, K0, rfl, O3, b3⟩
  have hK0 : K0.length = L.length := by have := O3.lf.len; rw [List.length_map] at this; exact this
  obtain ⟨va, vc, hv, _⟩ := O3.own.form
  rw [hK0] at hv
  subst hv
  have I0 : Hid (Lf w2.heap.size w3 (.slice va L.length vc) K0 (L.map fitP) ∧ NetB w.heap.size w3 b 3 2 (L.map fitP) L.length ∧ Below w.heap.size w w3) := ⟨O3.lf, HN2.out.later b3, HB2.out.trans (b3.mono HB2.out.size)⟩
  have hz2 := HB2.out.size
  have SZ := hide b3.size
  clear O3 b3 HPl HN2 HB2
  go_wp2_with fail
  go_loopw [6, 7] (fun v i wr => ∃ (t : Nat) (K : List Ap) (Q : List Pk), i = .int .i64 (t : Int) ∧ t + Q.length = L.length ∧ Hid (Lf w2.heap.size wr v K Q ∧ NetB w.heap.size wr b 3 2 Q L.length ∧ Below w.heap.size w wr ∧ w2.heap.size ≤ wr.heap.size)) (fun v _ _ => match v with | .slice _ n _ => n | _ => 0)
  case atStart => exact ⟨0, K0, L.map fitP, rfl, by rw [List.length_map]; omega, I0.out.1, I0.out.2.1, I0.out.2.2, SZ.out⟩
  case round =>
    obtain ⟨t, K, Q, rfl, ht, HJ⟩ := hrel
    clear I0 hK0
    obtain ⟨ka, kc, hv, S0, _⟩ := HJ.out.1.own.sl kA
    subst hv
    have HKQ := hide HJ.out.1.len
    have HT0 := hide ht
    have HSL : Hid (∀ z ∈ K, z.s.length ≤ 140737488351232) := fun z hz => by
      obtain ⟨pv, rv, mb, n, R, M, k1, _⟩ := HJ.out.2.1.ex
      have h2 : z.s.length ≤ 32768 := k1.sp z.pk (by rw [← HJ.out.1.pk]; exact List.mem_map_of_mem hz)
      omega
    have hQm : Q.length ≤ L.length := by omega
    have hKm : K.length ≤ L.length := by have := HKQ.out; omega
    have htm : t ≤ L.length := by omega
    clear ht
    by_cases hq : Q = []
    · subst hq
      have hk0 : K = [] := List.eq_nil_of_length_eq_zero HKQ.out
      subst hk0
      have HT := hide (take_0 HJ.out.2.1)
      have HW := hide HJ.out.2.2.1
      have HN := hide HJ.out.2.1
      clear HJ S0
      go_wp2_with fail
      refine HT.out.mono ?_
      rintro e w4 ⟨rfl, b4⟩
      have b5 := b4.trans (((Below.refl _ w4).alloc (Nat.le_refl _) (.cells #[.int .i64 0, .int .i64 0, .slice none 0 0] 46)).mono b4.size)
      have HLn := hide (len14_b (HN.out.later b5))
      have HW5 := hide (HW.out.trans (b5.mono HW.out.size))
      clear b4 b5 HT HN HW
      go_wp2_with fail
      refine HLn.out.mono ?_
      rintro e w_ ⟨rfl, hy_⟩
      rw [hy_]; clear hy_ w_
      go_wp2
      go_ret
      exact ⟨rfl, HW5.out⟩
    · have hQ0 : 0 < Q.length := List.length_pos_iff.2 hq
      have hK1 : 0 < K.length := by have := HKQ.out; omega
      obtain ⟨q, o, hka, hqz, hlie⟩ := S0.place (by intro e; rw [e] at hK1; simp at hK1)
      subst hka
      have d0 : decide ((0 : Int) < (K.length : Int)) = true := decide_eq_true (by omega)
      have hwt : IntKind.i64.wrap ((t : Int) + 1) = ((t + 1 : Nat) : Int) := by rw [IntKind.wrap_i64]; omega
      have hwk : IntKind.i64.wrap ((K.length : Int) - 1) = (K.length : Int) - 1 := by rw [IntKind.wrap_i64]; omega
      have hcapK := S0.cap
      have HS0 := hide S0
      have HLIE := hide hlie
      clear S0 hlie
      by_cases htO : t < O.length
      · have dt : decide ((t : Int) < (O.length : Int)) = true := decide_eq_true (by omega)
        have it : (t : Int) < (O.length : Int) := by omega
        have hgO := List.getElem?_eq_getElem htO
        have hwf := HOw.out _ (List.mem_of_getElem? hgO)
        generalize O[t] = z at hgO hwf
        obtain ⟨qo, oo, hao, hqo, co0⟩ := HO.out.intJ hgO
        subst hao
        have lo0 : wr.cell? ⟨qo, oo + t, none⟩ = some (.int .i64 z) := (HJ.out.2.2.1.cell (p := ⟨qo, _, none⟩) hqo).trans co0
        have HWi := hide (within_any z ((K.length : Int) - 1) wr (by omega) (by omega) hwf)
        clear hgO hwf co0
        go_wp2_with fail
        refine HWi.out.mono ?_
        rintro e w_ ⟨k, rfl, hkm, hy_⟩
        rw [hy_]; clear hy_ w_ HWi lo0
        have hk : k < K.length := by omega
        clear hkm
        have hg := List.getElem?_eq_getElem hk
        generalize hye : K[k] = y at hg
        have hym : y ∈ K := List.mem_of_getElem? hg
        have hQk : Q[k]? = some y.pk := by rw [← HJ.out.1.pk, List.getElem?_map, hg]; rfl
        have HTk := hide (take_b w.heap.size k y.pk L.length wr b Q HJ.out.2.1 HJ.out.2.2.1.size hQk (by omega))
        have HYM := hide hym
        have HG := hide hg
        clear hQk hye hym hg
        go_wp2_with fail
        refine HTk.out.mono ?_
        rintro e w4 ⟨x, rfl, hx, hxo, N4, U4⟩
        have HX := hide hx
        have hz4 := U4.size
        have hbb := HJ.out.2.1.lt
        have hnb : ∀ j, w2.heap.size ≤ j → ¬ j = b := fun j hj e => by omega
        have HJ4 : Hid (Lf w2.heap.size w4 (.slice (some ⟨q, o, none⟩) K.length kc) K Q ∧ NetB w.heap.size w4 b 3 2 (dr Q k) L.length ∧ Below w.heap.size w w4 ∧ w2.heap.size ≤ w4.heap.size) := ⟨HJ.out.1.upd U4 (fun j h1 _ => hnb j h1), N4, HJ.out.2.2.1.trans (U4.below HJ.out.2.2.1.size (fun j hj => by omega)), Nat.le_trans HJ.out.2.2.2 hz4⟩
        have HXO := hide hxo
        clear hx hxo N4 U4 HTk HJ HS0 HLIE hqz hbb
        unfold Ap.val
        go_wp2_with fail
        have B5 := (Below.refl _ w4).alloc (Nat.le_refl _) (.cells #[.int .i64 x.f, .int .i64 x.t, .slice x.a x.s.length x.c] 46)
        have HBX := hide (B3.new w4 (.int .i64 x.f) (.int .i64 x.t) (.slice x.a x.s.length x.c) 46)
        have HJ5 : Hid (Lf w2.heap.size (w4.alloc (.cells #[.int .i64 x.f, .int .i64 x.t, .slice x.a x.s.length x.c] 46)) (.slice (some ⟨q, o, none⟩) K.length kc) K Q ∧ NetB w.heap.size (w4.alloc (.cells #[.int .i64 x.f, .int .i64 x.t, .slice x.a x.s.length x.c] 46)) b 3 2 (dr Q k) L.length ∧ Below w.heap.size w (w4.alloc (.cells #[.int .i64 x.f, .int .i64 x.t, .slice x.a x.s.length x.c] 46)) ∧ w2.heap.size ≤ (w4.alloc (.cells #[.int .i64 x.f, .int .i64 x.t, .slice x.a x.s.length x.c] 46)).heap.size ∧ x.In (w4.alloc (.cells #[.int .i64 x.f, .int .i64 x.t, .slice x.a x.s.length x.c] 46))) := ⟨HJ4.out.1.grow B5, HJ4.out.2.1.later B5, HJ4.out.2.2.1.trans (B5.mono HJ4.out.2.2.1.size), Nat.le_trans HJ4.out.2.2.2 B5.size, SlY.later HXO.out.sl B5⟩
        clear B5 HJ4 HXO
        generalize w4.alloc (.cells #[.int .i64 x.f, .int .i64 x.t, .slice x.a x.s.length x.c] 46) = w5 at *
        generalize w4.heap.size = qx at *
        have KF : Hid (∀ v', Below w5.heap.size w5.drew v' → v'.cell? ⟨qx, 0, none⟩ = some (.int .i64 x.f) ∧ v'.cell? ⟨qx, 1, none⟩ = some (.int .i64 x.t) ∧ v'.cell? ⟨qx, 2, none⟩ = some (.slice x.a x.s.length x.c) ∧ v'.cell? ⟨q, o + k * 3, none⟩ = some (.int .i64 y.f) ∧ v'.cell? ⟨q, o + k * 3 + 1, none⟩ = some (.int .i64 y.t) ∧ v'.cell? ⟨q, o + k * 3 + 2, none⟩ = some (.slice y.a y.s.length y.c)) := fun v' hv' => by
          have hb' := (Below.refl w5.heap.size w5).drew.trans hv'
          have h3 := HBX.out.bel hb'
          obtain ⟨q', o', e', hq', hl'⟩ := (OwnY.sl' kA HJ5.out.1.own).place (by intro e; rw [e] at hK1; simp at hK1)
          cases e'
          exact ⟨h3.c0, h3.c1, h3.c2, (hb'.cell (p := ⟨q, _, none⟩) hq').trans (hl' _ _ HG.out 0 _ rfl), (hb'.cell (p := ⟨q, _, none⟩) hq').trans (hl' _ _ HG.out 1 _ rfl), (hb'.cell (p := ⟨q, _, none⟩) hq').trans (hl' _ _ HG.out 2 _ rfl)⟩
        have s0 := KF.out w5.drew (Below.refl _ _)
        have HSm := hide (same14_eq x y w5.drew (SlY.later HJ5.out.2.2.2.2 (Below.refl _ _).drew) ((HJ5.out.1.ow y HYM.out).grow (Below.refl _ _).drew).sl HX.out)
        have ik : (k : Int) < (K.length : Int) := by omega
        have HLn : Hid (∀ v', Below w5.heap.size w5.drew v' → Calls Try.prog 34 #[.pointer (some ⟨b, 0, none⟩)] v' fun e w' => e = .returned (.int .i64 ((K.length : Int) - 1)) ∧ w' = v') := fun v' hv' => by
          have := len14_b (HJ5.out.2.1.later ((Below.refl w5.heap.size w5).drew.trans hv'))
          rw [dr_len (show k < Q.length by have := HKQ.out; omega), show ((Q.length - 1 : Nat) : Int) = (K.length : Int) - 1 by have := HKQ.out; omega] at this
          exact this
        unfold Ap.val at HSm
        go_region_held3 (fun v => v.cell? ⟨qx, 0, none⟩ = some (.int .i64 x.f) ∧ v.cell? ⟨qx, 1, none⟩ = some (.int .i64 x.t) ∧ v.cell? ⟨qx, 2, none⟩ = some (.slice x.a x.s.length x.c) ∧ v.cell? ⟨q, o + k * 3, none⟩ = some (.int .i64 y.f) ∧ v.cell? ⟨q, o + k * 3 + 1, none⟩ = some (.int .i64 y.t) ∧ v.cell? ⟨q, o + k * 3 + 2, none⟩ = some (.slice y.a y.s.length y.c)) (first | with_reducible assumption | go_keep)
          (first | (go_at_call 20; refine HSm.out.mono ?_; rintro e w6 ⟨rfl, b6⟩; have s1 := KF.out w6 b6) | (go_at_call 34; refine (HLn.out w6 b6).mono ?_; rintro e w_ ⟨rfl, hy_⟩; rw [hy_]; clear hy_ w_))
        have b56 := (Below.refl w5.heap.size w5).drew.trans b6
        have HJ6 : Hid (Lf w2.heap.size w6.drew (.slice (some ⟨q, o, none⟩) K.length kc) K Q ∧ NetB w.heap.size w6.drew b 3 2 (dr Q k) L.length ∧ Below w.heap.size w w6.drew ∧ w2.heap.size ≤ w6.heap.size) := ⟨(HJ5.out.1.grow b56).grow (Below.refl _ _).drew, (HJ5.out.2.1.later b56).later (Below.refl _ _).drew, (HJ5.out.2.2.1.trans (b56.mono HJ5.out.2.2.1.size)).drew, Nat.le_trans HJ5.out.2.2.2.1 b56.size⟩
        clear b56 b6 HJ5 KF s0 s1 HSm HLn HBX HX HG HYM
        have hw2 : IntKind.i64.wrap ((k : Int) + 1) = (k : Int) + 1 := by rw [IntKind.wrap_i64]; omega
        have i0 : (0 : Int) ≤ (k : Int) := by omega
        have i1 : (k : Int) ≤ (K.length : Int) := by omega
        have i2 : (k : Int) + 1 ≤ (K.length : Int) := by omega
        have i3 : (0 : Int) ≤ (k : Int) + 1 := by omega
        have i4 : (k : Int) ≤ (kc : Int) := by omega
        have j1 : k ≤ K.length := by omega
        have j2 : k + 1 ≤ K.length := by omega
        have j3 : k ≤ kc := by omega
        have SF := hide ((OwnY.sl' kA HJ6.out.1.own).front9 (Nat.le_of_lt hk))
        have HTL : Hid ((K.take k).length = k) := by show _ = _; rw [List.length_take]; omega
        have HIN : Hid (∀ z ∈ K.take k, z.In w6.drew ∧ z.s.length ≤ 140737488351232) := fun z hz => ⟨(HJ6.out.1.ow z (List.mem_of_mem_take hz)).sl, HSL.out z (List.mem_of_mem_take hz)⟩
        have HDL : Hid (∀ v', Below w6.heap.size w6.drew v' → ∀ ad, (ad = none → False) → (∀ x, ad = some x → K.length = k + 1 ∨ x = ⟨q, o + (k + 1) * 3, none⟩) → SlY yA v' ad (K.length - (k + 1)) (kc - (k + 1)) (K.drop (k + 1))) := fun v' hv' ad h1 h4 => SlY.rest9 ((OwnY.sl' kA HJ6.out.1.own).later hv') j2 ad h1 h4
        have hb40 : (k + (K.length - (k + 1))) * 40 ≤ 140737488355328 := by omega
        have htk40 : (K.take k).length * 40 ≤ 140737488351232 := by have := HTL.out; omega
        have HFIN : Hid (∀ v7 L7 w7 v8 w8, Lf w6.heap.size w7 v7 L7 ((K.take k).map Ap.pk) → Below w6.heap.size w6.drew w7 → OwnY yA w6.heap.size w8 v8 (L7 ++ K.drop (k + 1)) → w7.grownBy w8 v7.ownBlock → Lf w2.heap.size w8 v8 (L7 ++ K.drop (k + 1)) (dr Q k) ∧ NetB w.heap.size w8 b 3 2 (dr Q k) L.length ∧ Below w.heap.size w w8 ∧ w2.heap.size ≤ w8.heap.size) := fun v7 L7 w7 v8 w8 F7 b7 o8 g8 => by
          have b8 : Below w6.heap.size w6.drew w8 := F7.own.grown b7 g8 b7.size
          refine ⟨⟨o8.low HJ6.out.2.2.2, fun z hz => ?_, ?_⟩, HJ6.out.2.1.later b8, HJ6.out.2.2.1.trans (b8.mono HJ6.out.2.2.1.size), Nat.le_trans HJ6.out.2.2.2 b8.size⟩
          · rcases List.mem_append.1 hz with hz | hz
            · exact ((F7.ow z hz).grownA F7.own g8).low HJ6.out.2.2.2
            · exact ((HJ6.out.1.ow z (List.mem_of_mem_drop hz)).grow b7).grownA F7.own g8
          · rw [List.map_append, F7.pk, ← HJ6.out.1.pk, ← map_dr]
            unfold dr
            rw [List.map_append]
        have H7L : Hid (∀ v7 L7 w7, Lf w6.heap.size w7 v7 L7 ((K.take k).map Ap.pk) → L7.length = k) := fun v7 L7 w7 F7 => by have := F7.len; rw [List.length_map] at this; exact this.trans HTL.out
        have hfin : ∀ ll, ll = k + (K.length - (k + 1)) → ll < K.length := fun ll h => by omega
        have HDR : Hid ((dr Q k).length = Q.length - 1) := dr_len (show k < Q.length by have := HKQ.out; omega)
        clear i4
        by_cases hc : kc = k + 1
        · subst hc
          have i4 : (k : Int) ≤ (k : Int) + 1 := by omega
          have hKk : K.length - (k + 1) = 0 := by omega
          have HD0 : Hid (∀ v', Below w6.heap.size w6.drew v' → SlY yA v' (some ⟨q, o, none⟩) 0 0 (K.drop (k + 1))) := fun v' hv' => by
            have := HDL.out v' hv' (some ⟨q, o, none⟩) (fun e => by cases e) (fun x _ => .inl (by omega))
            rw [hKk, Nat.sub_self] at this
            exact this
          have hb41 : (k + 0) * 40 ≤ 140737488355328 := by omega
          have HKk := hide hKk
          clear hKk
          go_wp2_with fail
          go_region_law (first | (refine step_cpks rfl (.tmp 72) rfl (some ⟨q, o, none⟩) k (k + 1) (by kernel_rfl) (K.take k) HTL.out SF.out HIN.out htk40 ?_; intro v7 L7 w7 F7 b7; obtain ⟨va7, vc7, hv7, _⟩ := F7.own.form; subst hv7) | (refine stepY kA rfl (.tmp 73) (.tmp 77) rfl w6.heap.size L7 (.slice va7 L7.length vc7) (by kernel_rfl) (some ⟨q, o, none⟩) (0) (0) (by kernel_rfl) (K.drop (k + 1)) (HD0.out w7 b7) F7.own b7.size (by unfold maxLen; have := H7L.out _ _ _ F7; omega) (by have := H7L.out _ _ _ F7; rw [this]; exact hb41) ?_; intro v8 w8 o8 g8 n8; obtain ⟨va8, vc8, hv8, _⟩ := o8.form; generalize hll : (L7 ++ K.drop (k + 1)).length = ll at hv8; subst hv8))
          all_goals
            have hF := hide (HFIN.out _ L7 w7 _ w8 F7 b7 o8 g8)
            have hll2 : ll < K.length := hfin ll (by rw [← hll, List.length_append, List.length_drop, H7L.out _ _ _ F7])
            clear F7 b7 o8 g8 n8 hll HFIN H7L HD0 HDL SF HIN hfin HJ6
            go_wp2
            exact ⟨⟨t + 1, L7 ++ K.drop (k + 1), dr Q k, by go_num, by have := HDR.out; have := HT0.out; omega, hF⟩, by first | exact hll2 | (simp; omega)⟩
        · have HD0 : Hid (∀ v', Below w6.heap.size w6.drew v' → SlY yA v' (some ⟨q, o + (k + 1) * 3, none⟩) (K.length - (k + 1)) (kc - (k + 1)) (K.drop (k + 1))) := fun v' hv' => HDL.out v' hv' (some ⟨q, o + (k + 1) * 3, none⟩) (fun e => by cases e) (fun x hx => .inr (by cases hx; rfl))
          have i4 : (k : Int) ≤ (kc : Int) := by omega
          go_wp2_with fail
          go_region_law (first | (refine step_cpks rfl (.tmp 72) rfl (some ⟨q, o, none⟩) k (kc) (by kernel_rfl) (K.take k) HTL.out SF.out HIN.out htk40 ?_; intro v7 L7 w7 F7 b7; obtain ⟨va7, vc7, hv7, _⟩ := F7.own.form; subst hv7) | (refine stepY kA rfl (.tmp 73) (.tmp 77) rfl w6.heap.size L7 (.slice va7 L7.length vc7) (by kernel_rfl) (some ⟨q, o + (k + 1) * 3, none⟩) (K.length - (k + 1)) (kc - (k + 1)) (by kernel_rfl) (K.drop (k + 1)) (HD0.out w7 b7) F7.own b7.size (by unfold maxLen; have := H7L.out _ _ _ F7; omega) (by have := H7L.out _ _ _ F7; rw [this]; exact hb40) ?_; intro v8 w8 o8 g8 n8; obtain ⟨va8, vc8, hv8, _⟩ := o8.form; generalize hll : (L7 ++ K.drop (k + 1)).length = ll at hv8; subst hv8))
          all_goals
            have hF := hide (HFIN.out _ L7 w7 _ w8 F7 b7 o8 g8)
            have hll2 : ll < K.length := hfin ll (by rw [← hll, List.length_append, List.length_drop, H7L.out _ _ _ F7])
            clear F7 b7 o8 g8 n8 hll HFIN H7L HD0 HDL SF HIN hfin HJ6
            go_wp2
            exact ⟨⟨t + 1, L7 ++ K.drop (k + 1), dr Q k, by go_num, by have := HDR.out; have := HT0.out; omega, hF⟩, by first | exact hll2 | (simp; omega)⟩
      · have dt : decide ((t : Int) < (O.length : Int)) = false := decide_eq_false (by omega)
        obtain ⟨k, HK0⟩ : ∃ k : Nat, Hid (k = 0 ∧ Value.int .i64 0 = .int .i64 (k : Int)) := ⟨0, rfl, rfl⟩
        have hk : k < K.length := by have := HK0.out.1; omega
        go_wp2_with fail
        rw [HK0.out.2]
        clear HK0
        have hg := List.getElem?_eq_getElem hk
        generalize hye : K[k] = y at hg
        have hym : y ∈ K := List.mem_of_getElem? hg
        have hQk : Q[k]? = some y.pk := by rw [← HJ.out.1.pk, List.getElem?_map, hg]; rfl
        have HTk := hide (take_b w.heap.size k y.pk L.length wr b Q HJ.out.2.1 HJ.out.2.2.1.size hQk (by omega))
        have HYM := hide hym
        have HG := hide hg
        clear hQk hye hym hg
        go_wp2_with fail
        refine HTk.out.mono ?_
        rintro e w4 ⟨x, rfl, hx, hxo, N4, U4⟩
        have HX := hide hx
        have hz4 := U4.size
        have hbb := HJ.out.2.1.lt
        have hnb : ∀ j, w2.heap.size ≤ j → ¬ j = b := fun j hj e => by omega
        have HJ4 : Hid (Lf w2.heap.size w4 (.slice (some ⟨q, o, none⟩) K.length kc) K Q ∧ NetB w.heap.size w4 b 3 2 (dr Q k) L.length ∧ Below w.heap.size w w4 ∧ w2.heap.size ≤ w4.heap.size) := ⟨HJ.out.1.upd U4 (fun j h1 _ => hnb j h1), N4, HJ.out.2.2.1.trans (U4.below HJ.out.2.2.1.size (fun j hj => by omega)), Nat.le_trans HJ.out.2.2.2 hz4⟩
        have HXO := hide hxo
        clear hx hxo N4 U4 HTk HJ HS0 HLIE hqz hbb
        unfold Ap.val
        go_wp2_with fail
        have B5 := (Below.refl _ w4).alloc (Nat.le_refl _) (.cells #[.int .i64 x.f, .int .i64 x.t, .slice x.a x.s.length x.c] 46)
        have HBX := hide (B3.new w4 (.int .i64 x.f) (.int .i64 x.t) (.slice x.a x.s.length x.c) 46)
        have HJ5 : Hid (Lf w2.heap.size (w4.alloc (.cells #[.int .i64 x.f, .int .i64 x.t, .slice x.a x.s.length x.c] 46)) (.slice (some ⟨q, o, none⟩) K.length kc) K Q ∧ NetB w.heap.size (w4.alloc (.cells #[.int .i64 x.f, .int .i64 x.t, .slice x.a x.s.length x.c] 46)) b 3 2 (dr Q k) L.length ∧ Below w.heap.size w (w4.alloc (.cells #[.int .i64 x.f, .int .i64 x.t, .slice x.a x.s.length x.c] 46)) ∧ w2.heap.size ≤ (w4.alloc (.cells #[.int .i64 x.f, .int .i64 x.t, .slice x.a x.s.length x.c] 46)).heap.size ∧ x.In (w4.alloc (.cells #[.int .i64 x.f, .int .i64 x.t, .slice x.a x.s.length x.c] 46))) := ⟨HJ4.out.1.grow B5, HJ4.out.2.1.later B5, HJ4.out.2.2.1.trans (B5.mono HJ4.out.2.2.1.size), Nat.le_trans HJ4.out.2.2.2 B5.size, SlY.later HXO.out.sl B5⟩
        clear B5 HJ4 HXO
        generalize w4.alloc (.cells #[.int .i64 x.f, .int .i64 x.t, .slice x.a x.s.length x.c] 46) = w5 at *
        generalize w4.heap.size = qx at *
        have KF : Hid (∀ v', Below w5.heap.size w5.drew v' → v'.cell? ⟨qx, 0, none⟩ = some (.int .i64 x.f) ∧ v'.cell? ⟨qx, 1, none⟩ = some (.int .i64 x.t) ∧ v'.cell? ⟨qx, 2, none⟩ = some (.slice x.a x.s.length x.c) ∧ v'.cell? ⟨q, o + k * 3, none⟩ = some (.int .i64 y.f) ∧ v'.cell? ⟨q, o + k * 3 + 1, none⟩ = some (.int .i64 y.t) ∧ v'.cell? ⟨q, o + k * 3 + 2, none⟩ = some (.slice y.a y.s.length y.c)) := fun v' hv' => by
          have hb' := (Below.refl w5.heap.size w5).drew.trans hv'
          have h3 := HBX.out.bel hb'
          obtain ⟨q', o', e', hq', hl'⟩ := (OwnY.sl' kA HJ5.out.1.own).place (by intro e; rw [e] at hK1; simp at hK1)
          cases e'
          exact ⟨h3.c0, h3.c1, h3.c2, (hb'.cell (p := ⟨q, _, none⟩) hq').trans (hl' _ _ HG.out 0 _ rfl), (hb'.cell (p := ⟨q, _, none⟩) hq').trans (hl' _ _ HG.out 1 _ rfl), (hb'.cell (p := ⟨q, _, none⟩) hq').trans (hl' _ _ HG.out 2 _ rfl)⟩
        have s0 := KF.out w5.drew (Below.refl _ _)
        have HSm := hide (same14_eq x y w5.drew (SlY.later HJ5.out.2.2.2.2 (Below.refl _ _).drew) ((HJ5.out.1.ow y HYM.out).grow (Below.refl _ _).drew).sl HX.out)
        have ik : (k : Int) < (K.length : Int) := by omega
        have HLn : Hid (∀ v', Below w5.heap.size w5.drew v' → Calls Try.prog 34 #[.pointer (some ⟨b, 0, none⟩)] v' fun e w' => e = .returned (.int .i64 ((K.length : Int) - 1)) ∧ w' = v') := fun v' hv' => by
          have := len14_b (HJ5.out.2.1.later ((Below.refl w5.heap.size w5).drew.trans hv'))
          rw [dr_len (show k < Q.length by have := HKQ.out; omega), show ((Q.length - 1 : Nat) : Int) = (K.length : Int) - 1 by have := HKQ.out; omega] at this
          exact this
        unfold Ap.val at HSm
        go_region_held3 (fun v => v.cell? ⟨qx, 0, none⟩ = some (.int .i64 x.f) ∧ v.cell? ⟨qx, 1, none⟩ = some (.int .i64 x.t) ∧ v.cell? ⟨qx, 2, none⟩ = some (.slice x.a x.s.length x.c) ∧ v.cell? ⟨q, o + k * 3, none⟩ = some (.int .i64 y.f) ∧ v.cell? ⟨q, o + k * 3 + 1, none⟩ = some (.int .i64 y.t) ∧ v.cell? ⟨q, o + k * 3 + 2, none⟩ = some (.slice y.a y.s.length y.c)) (first | with_reducible assumption | go_keep)
          (first | (go_at_call 20; refine HSm.out.mono ?_; rintro e w6 ⟨rfl, b6⟩; have s1 := KF.out w6 b6) | (go_at_call 34; refine (HLn.out w6 b6).mono ?_; rintro e w_ ⟨rfl, hy_⟩; rw [hy_]; clear hy_ w_))
        have b56 := (Below.refl w5.heap.size w5).drew.trans b6
        have HJ6 : Hid (Lf w2.heap.size w6.drew (.slice (some ⟨q, o, none⟩) K.length kc) K Q ∧ NetB w.heap.size w6.drew b 3 2 (dr Q k) L.length ∧ Below w.heap.size w w6.drew ∧ w2.heap.size ≤ w6.heap.size) := ⟨(HJ5.out.1.grow b56).grow (Below.refl _ _).drew, (HJ5.out.2.1.later b56).later (Below.refl _ _).drew, (HJ5.out.2.2.1.trans (b56.mono HJ5.out.2.2.1.size)).drew, Nat.le_trans HJ5.out.2.2.2.1 b56.size⟩
        clear b56 b6 HJ5 KF s0 s1 HSm HLn HBX HX HG HYM
        have hw2 : IntKind.i64.wrap ((k : Int) + 1) = (k : Int) + 1 := by rw [IntKind.wrap_i64]; omega
        have i0 : (0 : Int) ≤ (k : Int) := by omega
        have i1 : (k : Int) ≤ (K.length : Int) := by omega
        have i2 : (k : Int) + 1 ≤ (K.length : Int) := by omega
        have i3 : (0 : Int) ≤ (k : Int) + 1 := by omega
        have i4 : (k : Int) ≤ (kc : Int) := by omega
        have j1 : k ≤ K.length := by omega
        have j2 : k + 1 ≤ K.length := by omega
        have j3 : k ≤ kc := by omega
        have SF := hide ((OwnY.sl' kA HJ6.out.1.own).front9 (Nat.le_of_lt hk))
        have HTL : Hid ((K.take k).length = k) := by show _ = _; rw [List.length_take]; omega
        have HIN : Hid (∀ z ∈ K.take k, z.In w6.drew ∧ z.s.length ≤ 140737488351232) := fun z hz => ⟨(HJ6.out.1.ow z (List.mem_of_mem_take hz)).sl, HSL.out z (List.mem_of_mem_take hz)⟩
        have HDL : Hid (∀ v', Below w6.heap.size w6.drew v' → ∀ ad, (ad = none → False) → (∀ x, ad = some x → K.length = k + 1 ∨ x = ⟨q, o + (k + 1) * 3, none⟩) → SlY yA v' ad (K.length - (k + 1)) (kc - (k + 1)) (K.drop (k + 1))) := fun v' hv' ad h1 h4 => SlY.rest9 ((OwnY.sl' kA HJ6.out.1.own).later hv') j2 ad h1 h4
        have hb40 : (k + (K.length - (k + 1))) * 40 ≤ 140737488355328 := by omega
        have htk40 : (K.take k).length * 40 ≤ 140737488351232 := by have := HTL.out; omega
        have HFIN : Hid (∀ v7 L7 w7 v8 w8, Lf w6.heap.size w7 v7 L7 ((K.take k).map Ap.pk) → Below w6.heap.size w6.drew w7 → OwnY yA w6.heap.size w8 v8 (L7 ++ K.drop (k + 1)) → w7.grownBy w8 v7.ownBlock → Lf w2.heap.size w8 v8 (L7 ++ K.drop (k + 1)) (dr Q k) ∧ NetB w.heap.size w8 b 3 2 (dr Q k) L.length ∧ Below w.heap.size w w8 ∧ w2.heap.size ≤ w8.heap.size) := fun v7 L7 w7 v8 w8 F7 b7 o8 g8 => by
          have b8 : Below w6.heap.size w6.drew w8 := F7.own.grown b7 g8 b7.size
          refine ⟨⟨o8.low HJ6.out.2.2.2, fun z hz => ?_, ?_⟩, HJ6.out.2.1.later b8, HJ6.out.2.2.1.trans (b8.mono HJ6.out.2.2.1.size), Nat.le_trans HJ6.out.2.2.2 b8.size⟩
          · rcases List.mem_append.1 hz with hz | hz
            · exact ((F7.ow z hz).grownA F7.own g8).low HJ6.out.2.2.2
            · exact ((HJ6.out.1.ow z (List.mem_of_mem_drop hz)).grow b7).grownA F7.own g8
          · rw [List.map_append, F7.pk, ← HJ6.out.1.pk, ← map_dr]
            unfold dr
            rw [List.map_append]
        have H7L : Hid (∀ v7 L7 w7, Lf w6.heap.size w7 v7 L7 ((K.take k).map Ap.pk) → L7.length = k) := fun v7 L7 w7 F7 => by have := F7.len; rw [List.length_map] at this; exact this.trans HTL.out
        have hfin : ∀ ll, ll = k + (K.length - (k + 1)) → ll < K.length := fun ll h => by omega
        have HDR : Hid ((dr Q k).length = Q.length - 1) := dr_len (show k < Q.length by have := HKQ.out; omega)
        clear i4
        by_cases hc : kc = k + 1
        · subst hc
          have i4 : (k : Int) ≤ (k : Int) + 1 := by omega
          have hKk : K.length - (k + 1) = 0 := by omega
          have HD0 : Hid (∀ v', Below w6.heap.size w6.drew v' → SlY yA v' (some ⟨q, o, none⟩) 0 0 (K.drop (k + 1))) := fun v' hv' => by
            have := HDL.out v' hv' (some ⟨q, o, none⟩) (fun e => by cases e) (fun x _ => .inl (by omega))
            rw [hKk, Nat.sub_self] at this
            exact this
          have hb41 : (k + 0) * 40 ≤ 140737488355328 := by omega
          have HKk := hide hKk
          clear hKk
          go_wp2_with fail
          go_region_law (first | (refine step_cpks rfl (.tmp 72) rfl (some ⟨q, o, none⟩) k (k + 1) (by kernel_rfl) (K.take k) HTL.out SF.out HIN.out htk40 ?_; intro v7 L7 w7 F7 b7; obtain ⟨va7, vc7, hv7, _⟩ := F7.own.form; subst hv7) | (refine stepY kA rfl (.tmp 73) (.tmp 77) rfl w6.heap.size L7 (.slice va7 L7.length vc7) (by kernel_rfl) (some ⟨q, o, none⟩) (0) (0) (by kernel_rfl) (K.drop (k + 1)) (HD0.out w7 b7) F7.own b7.size (by unfold maxLen; have := H7L.out _ _ _ F7; omega) (by have := H7L.out _ _ _ F7; rw [this]; exact hb41) ?_; intro v8 w8 o8 g8 n8; obtain ⟨va8, vc8, hv8, _⟩ := o8.form; generalize hll : (L7 ++ K.drop (k + 1)).length = ll at hv8; subst hv8))
          all_goals
            have hF := hide (HFIN.out _ L7 w7 _ w8 F7 b7 o8 g8)
            have hll2 : ll < K.length := hfin ll (by rw [← hll, List.length_append, List.length_drop, H7L.out _ _ _ F7])
            clear F7 b7 o8 g8 n8 hll HFIN H7L HD0 HDL SF HIN hfin HJ6
            go_wp2
            exact ⟨⟨t + 1, L7 ++ K.drop (k + 1), dr Q k, by go_num, by have := HDR.out; have := HT0.out; omega, hF⟩, by first | exact hll2 | (simp; omega)⟩
        · have HD0 : Hid (∀ v', Below w6.heap.size w6.drew v' → SlY yA v' (some ⟨q, o + (k + 1) * 3, none⟩) (K.length - (k + 1)) (kc - (k + 1)) (K.drop (k + 1))) := fun v' hv' => HDL.out v' hv' (some ⟨q, o + (k + 1) * 3, none⟩) (fun e => by cases e) (fun x hx => .inr (by cases hx; rfl))
          have i4 : (k : Int) ≤ (kc : Int) := by omega
          go_wp2_with fail
          go_region_law (first | (refine step_cpks rfl (.tmp 72) rfl (some ⟨q, o, none⟩) k (kc) (by kernel_rfl) (K.take k) HTL.out SF.out HIN.out htk40 ?_; intro v7 L7 w7 F7 b7; obtain ⟨va7, vc7, hv7, _⟩ := F7.own.form; subst hv7) | (refine stepY kA rfl (.tmp 73) (.tmp 77) rfl w6.heap.size L7 (.slice va7 L7.length vc7) (by kernel_rfl) (some ⟨q, o + (k + 1) * 3, none⟩) (K.length - (k + 1)) (kc - (k + 1)) (by kernel_rfl) (K.drop (k + 1)) (HD0.out w7 b7) F7.own b7.size (by unfold maxLen; have := H7L.out _ _ _ F7; omega) (by have := H7L.out _ _ _ F7; rw [this]; exact hb40) ?_; intro v8 w8 o8 g8 n8; obtain ⟨va8, vc8, hv8, _⟩ := o8.form; generalize hll : (L7 ++ K.drop (k + 1)).length = ll at hv8; subst hv8))
          all_goals
            have hF := hide (HFIN.out _ L7 w7 _ w8 F7 b7 o8 g8)
            have hll2 : ll < K.length := hfin ll (by rw [← hll, List.length_append, List.length_drop, H7L.out _ _ _ F7])
            clear F7 b7 o8 g8 n8 hll HFIN H7L HD0 HDL SF HIN hfin HJ6
            go_wp2
            exact ⟨⟨t + 1, L7 ++ K.drop (k + 1), dr Q k, by go_num, by have := HDR.out; have := HT0.out; omega, hF⟩, by first | exact hll2 | (simp; omega)⟩

end Go.Proofs.Ytegfbebhgihcaaa
