import Derived.Test.YtegfbebhgihcaaaNke
namespace Go.Proofs.Ytegfbebhgihcaaa
open Go.RowKit Go.Maps
set_option linter.unusedVariables false
set_option linter.unusedSimpArgs false

variable {w w' : World} {b mb n : Nat} {nn cc : Int} {pv rv : Value} {P R : List Pk} {M : Int → List UInt8 → Nat}
/-- One packet of the outer kind in a new block, as a slice. -/
theorem one_ap (w : World) (x : Ap) : SlY yA (w.alloc (.cells #[.int .i64 x.f, .int .i64 x.t, .slice x.a x.s.length x.c] 46)) (some ⟨w.heap.size, 0, none⟩) 1 1 [x] :=
  ⟨rfl, Nat.le_refl _, by unfold maxLen; omega, (fun e => by cases e), fun z hz => .inr ⟨w.heap.size, 0, by cases hz; rfl, by simp, fun i y hy j u hu => by
    match i, hy with
    | 0, hy =>
      simp at hy
      subst hy
      have hj : j < 3 := (List.getElem?_eq_some_iff.1 hu).1
      match j, hj with
      | 0, _ => simp [yA] at hu; subst hu; simp
      | 1, _ => simp [yA] at hu; subst hu; simp
      | 2, _ => simp [yA] at hu; subst hu; simp
    | i + 1, hy => simp at hy⟩⟩
/-- Packets that came out of a net, each with bytes of its own. -/
structure Outs (B : Nat) (w : World) (v : Value) (L : List Ap) (P : List Pk) : Prop where
  own : OwnY yA B w v L
  out : ∀ x ∈ L, x.Out B w
  pk : L.map Ap.pk = P
theorem Ap.Out.grownA {B B' : Nat} {w w' : World} {x : Ap} {v : Value} {L : List Ap} (h : x.Out B w) (hv : OwnY yA B' w v L) (hg : w.grownBy w' v.ownBlock) : x.Out B w' := by
  obtain ⟨g, e1, e2, e3⟩ := h.some_
  exact ⟨h.own.grownZ hv (by decide) hg, g, e1, e2, Nat.lt_of_lt_of_le e3 hg.size⟩
theorem Ap.Out.grow {B : Nat} {w w' : World} {x : Ap} (h : x.Out B w) (hb : Below w.heap.size w w') : x.Out B w' := h.upd8 (S := fun _ => False) (Upd.of_below hb) (fun _ _ _ => id)
theorem one_ap1 (w : World) (o : Obj) (x : Ap) : SlY yA ((w.alloc o).alloc (.cells #[.int .i64 x.f, .int .i64 x.t, .slice x.a x.s.length x.c] 46)) (some ⟨w.heap.size + 1, 0, none⟩) 1 1 [x] := by
  have h := one_ap (w.alloc o) x
  rw [show (w.alloc o).heap.size = w.heap.size + 1 by simp] at h
  exact h
set_option maxRecDepth 100000 in
set_option maxHeartbeats 1000000 in
theorem pool_any (b : Nat) (P : List Pk) (rl B : Nat) (w : World) (h : NetB B w b nn cc P rl) (hl : (P.length + 1) * 40 ≤ 140737488355328) :
    Calls Try.prog 33 #[.pointer (some ⟨b, 0, none⟩)] w fun e w' => ∃ v L, e = .returned v ∧ Outs w.heap.size w' v L P ∧ Below w.heap.size w w' := by
  obtain ⟨pv, rv, mb, n, R, M, k1, _⟩ := h.ex
  have HN := hide k1
  clear h k1
  go_enter Try.func33, Try.ntmps33
  go_wp2_with fail
  go_loopw [3, 4] (fun v i wr => ∃ (j : Nat) (L : List Ap), i = .int .i64 (j : Int) ∧ j ≤ P.length ∧ Hid (Outs w.heap.size wr v L (P.take j) ∧ Below w.heap.size w wr)) (fun _ i _ => P.length - (intOf i).toNat)
  case atStart => exact ⟨0, [], rfl, Nat.zero_le _, ⟨⟨OwnY.nil _ _ _, (fun x hx => by cases hx), rfl⟩, Below.refl _ _⟩⟩
  case round =>
    obtain ⟨j, L, rfl, hj, HJ⟩ := hrel
    have HLn := hide (len14_any (HN.out.later HJ.out.2))
    have hlj : L.length = j := by
      have := congrArg List.length HJ.out.1.pk
      rw [List.length_map, List.length_take] at this
      omega
    by_cases hlt : j < P.length
    · have d1 : decide ((j : Int) < (P.length : Int)) = true := decide_eq_true (by omega)
      have i1 : (j : Int) < (P.length : Int) := by omega
      have hg := List.getElem?_eq_getElem hlt
      generalize P[j] = p at hg
      have HA := hide (at_ok j p (HN.out.later HJ.out.2) hg)
      have HTK : Hid (P.take (j + 1) = P.take j ++ [p]) := by show _ = _; rw [List.take_add_one, hg]; simp
      have hw1 : IntKind.i64.wrap ((j : Int) + 1) = ((j + 1 : Nat) : Int) := by rw [IntKind.wrap_i64]; omega
      have hlj2 : (L.length + 1) * 40 ≤ 140737488355328 := by omega
      have HLJ := hide hlj
      clear hg hlj
      go_wp2_with fail
      refine HLn.out.mono ?_
      rintro e wr' ⟨rfl, hwr⟩
      subst hwr
      go_wp2_with fail
      refine HA.out.mono ?_
      rintro e w2 ⟨x, rfl, hx, ho, hb⟩
      have HX := hide hx
      have HO := hide ho
      have hb0 := HJ.out.2
      have O2 := HJ.out.1.own.grow hb
      have HB2 := hide (hb0.trans (hb.mono hb0.size))
      have HS2 : Hid (∀ z ∈ L, z.Out w.heap.size w2) := fun z hz => (HJ.out.1.out z hz).upd8 (S := fun _ => False) (Upd.of_below hb) (fun _ _ _ => id)
      have HPK := hide HJ.out.1.pk
      have hsz := hide hb0.size
      obtain ⟨va, vc, hv, _⟩ := O2.form
      have HO2 := hide O2
      have hz2 : w.heap.size ≤ w2.heap.size := HB2.out.size
      clear hx ho hb hb0 O2 HA HLn
      subst hv
      unfold Ap.val
      have BB : ∀ o o', Hid (Below w2.heap.size w2 ((w2.alloc o).alloc o')) := fun o o' => ((Below.refl _ w2).alloc (Nat.le_refl _) o).alloc (by simp) o'
      go_wp2_with (at_builtin; go_must (refine appY kA _ rfl (.tmp 21) (.tmp 23) rfl w.heap.size L (.slice va L.length vc) rfl (some ⟨w2.heap.size + 1, 0, none⟩) 1 1 rfl [x] (one_ap1 w2 _ x) ((HO2.out.alloc _).alloc _) (by simp; omega) (by unfold maxLen; omega) hlj2 ?_))
      intro v3 w3 o3 g3 n3
      have HF : Hid (Outs w.heap.size w3 v3 (L ++ [x]) (P.take (j + 1)) ∧ Below w.heap.size w w3) := by
        have OA := HO2.out.grow (BB (.cells #[.int .i64 x.f, .int .i64 x.t, .slice x.a x.s.length x.c] 46) (.cells #[.int .i64 x.f, .int .i64 x.t, .slice x.a x.s.length x.c] 46)).out
        have BA := HB2.out.trans ((BB (.cells #[.int .i64 x.f, .int .i64 x.t, .slice x.a x.s.length x.c] 46) (.cells #[.int .i64 x.f, .int .i64 x.t, .slice x.a x.s.length x.c] 46)).out.mono hz2)
        refine ⟨⟨o3, fun z hz => ?_, ?_⟩, OA.grown BA g3 (by simp; omega)⟩
        · rcases List.mem_append.1 hz with hz | hz
          · exact ((HS2.out z hz).grow (BB _ _).out).grownA OA g3
          · simp at hz
            subst hz
            exact ((HO.out.low8 hsz.out).grow (BB _ _).out).grownA OA g3
        · rw [List.map_append, HPK.out, HTK.out]
          simp [HX.out]
      have hlen : (L ++ [x]).length = j + 1 := by rw [List.length_append, HLJ.out]; rfl
      clear o3 g3 n3 BB HO2 HS2 HO HPK HB2 HX
      go_wp2
      exact ⟨⟨j + 1, L ++ [x], by go_num, by omega, HF⟩, by simp [intOf]; omega⟩
    · have d1 : decide ((j : Int) < (P.length : Int)) = false := decide_eq_false (by omega)
      have hj2 : j = P.length := by omega
      have HF : Hid (Outs w.heap.size wr u3 L P ∧ Below w.heap.size w wr) := by
        have := HJ.out
        rw [hj2, List.take_length] at this
        exact this
      clear HJ hj2 hlj
      go_wp2_with fail
      refine HLn.out.mono ?_
      rintro e wr' ⟨rfl, hwr⟩
      subst hwr
      go_wp2
      go_ret
      exact ⟨_, L, rfl, HF.out.1, HF.out.2⟩

end Go.Proofs.Ytegfbebhgihcaaa
