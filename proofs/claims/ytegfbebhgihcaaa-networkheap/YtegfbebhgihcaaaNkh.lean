import Derived.Test.YtegfbebhgihcaaaNkg
import Derived.Lib.SlBytesConst
namespace Go.Proofs.Ytegfbebhgihcaaa
open Go.RowKit Go.Maps
set_option linter.unusedVariables false
set_option linter.unusedSimpArgs false

variable {w w' : World} {b mb n : Nat} {nn cc : Int} {pv rv : Value} {P R : List Pk} {M : Int → List UInt8 → Nat}
set_option maxRecDepth 100000 in
set_option maxHeartbeats 1000000 in
/-- Send to what is no address. -/
theorem send_to (x : Ap) (h : Net w b nn cc pv rv mb n P R M) (hf : (Lit.int .i64 x.f).wf = true) (ht : (Lit.int .i64 x.t).wf = true) (hfa : adr nn cc x.f = true) (ha : adr nn cc x.t = false) : Calls Try.prog 25 #[.pointer (some ⟨b, 0, none⟩), x.val] w fun e w' => e = .returned (.int .i64 140) ∧ Below w.heap.size w w' := by
  have HN := hide h
  clear h
  have HA : ∀ o, Hid (Calls Try.prog 75 #[.pointer (some ⟨b, 0, none⟩), .int .i64 x.f] (w.alloc o) fun e w' => e = .returned (.bool true) ∧ w' = w.alloc o) := fun o => by
    have := isAddress_any x.f (HN.out.later ((Below.refl _ _).alloc (Nat.le_refl _) o)) hf
    rw [hfa] at this
    exact this
  have HJ : ∀ o, Hid (Calls Try.prog 35 #[.pointer (some ⟨b, 0, none⟩), x.val] (w.alloc o) fun e w' => e = .returned (.int .i64 140) ∧ Below (w.alloc o).heap.size (w.alloc o) w') := fun o => by
    have := inject_bad x (HN.out.later ((Below.refl _ _).alloc (Nat.le_refl _) o)) ht (.inl ha)
    rw [if_pos ha] at this
    exact this
  unfold Ap.val at HJ ⊢
  go_enter Try.func25, Try.ntmps25
  go_wp2_with fail
  refine (HA _).out.mono ?_
  rintro e w1 ⟨rfl, rfl⟩
  go_wp2_with fail
  refine (HJ _).out.mono ?_
  rintro e w2 ⟨rfl, b2⟩
  have hb := ((Below.refl _ w).alloc (Nat.le_refl _) _).trans (b2.mono (by simp))
  clear b2
  go_wp2
  go_ret
  exact ⟨rfl, hb⟩
theorem cell_m (w : World) (v : Value) (t : TypeId) (r : Nat × Nat) : (w.alloc (.cells #[v] t r)).cell? ⟨w.heap.size, 0, none⟩ = some v := by
  have h : (w.alloc (.cells #[v] t r)).heap[w.heap.size]? = some (.cells #[v] t r) := by
    show (w.heap.push _)[w.heap.size]? = _
    simp
  unfold World.cell?
  rw [h]
  rfl
theorem one_u (w : World) (t : TypeId) : SlY yU (w.alloc (.cells #[.int .u8 97] t (1, 2))) (some ⟨w.heap.size, 0, none⟩) 1 1 [97] :=
  ⟨rfl, Nat.le_refl _, by unfold maxLen; omega, (fun e => by cases e), fun z hz => .inr ⟨w.heap.size, 0, by cases hz; rfl, by simp, fun i y hy j u hu => by
    match i, hy with
    | 0, hy =>
      simp at hy
      subst hy
      have hj : j < 1 := (List.getElem?_eq_some_iff.1 hu).1
      match j, hj with
      | 0, _ => simp [yU] at hu; subst hu; exact cell_m w _ _ _
    | i + 1, hy => simp at hy⟩⟩
theorem conv_a (w : World) : (convert 44 44 (.slice (some ⟨w.heap.size, 0, none⟩) 1 1)).run Try.prog (w.alloc (.cells #[.int .u8 97] 5)) = .ok (.slice (some ⟨w.heap.size, 0, none⟩) 1 1) (w.alloc (.cells #[.int .u8 97] 5 (1, 2))) :=
  Go.Lib.run_convert_bytes_const w 44 5 #[.int .u8 97] 1 1 Try.underlying44 Try.underlying5
set_option maxRecDepth 100000 in
set_option maxHeartbeats 2000000 in
theorem works14 (w : World) : Calls Try.prog 12 #[] w fun e w' => e = .returned (.bool true) ∧ Below w.heap.size w w' := by
  have HM := hide (netnew_any 2 1 w (by omega))
  go_enter Try.func12, Try.ntmps12
  go_wp2_with fail
  refine HM.out.mono ?_
  rintro e w1 ⟨b, mb, rfl, h1, h2, h3, h4⟩
  have HN1 := hide h1
  have HB1 := hide h4
  have hz1 := h4.size
  have hcv := conv_a w1
  have hlb := h1.lt
  clear h1 h4 HM
  go_wp2_with fail
  have HB2 := hide ((Below.refl _ w1).alloc (Nat.le_refl _) (.cells #[.int .u8 97] 5 (1, 2)))
  have HX : Hid ((⟨0, 1, some ⟨w1.heap.size, 0, none⟩, 1, [97]⟩ : Ap).In (w1.alloc (.cells #[.int .u8 97] 5 (1, 2)))) := one_u w1 5
  have HZ : (w1.alloc (.cells #[.int .u8 97] 5 (1, 2))).heap.size = w1.heap.size + 1 := by simp
  generalize w1.alloc (.cells #[.int .u8 97] 5 (1, 2)) = w2 at *
  have HB3 := hide ((Below.refl _ w2).alloc (Nat.le_refl _) (.cells #[.int .i64 0, .int .i64 1, .slice (some ⟨w1.heap.size, 0, none⟩) 1 1] 46))
  have HQ := hide (B3.new w2 (.int .i64 0) (.int .i64 1) (.slice (some ⟨w1.heap.size, 0, none⟩) 1 1) 46)
  rw [HZ] at HQ
  have HZ3 : (w2.alloc (.cells #[.int .i64 0, .int .i64 1, .slice (some ⟨w1.heap.size, 0, none⟩) 1 1] 46)).heap.size = w1.heap.size + 2 := by simp [HZ]
  generalize w2.alloc (.cells #[.int .i64 0, .int .i64 1, .slice (some ⟨w1.heap.size, 0, none⟩) 1 1] 46) = w3 at *
  have HB13 : Hid (Below w1.heap.size w1 w3) := HB2.out.trans (HB3.out.mono (by omega))
  have HX3 : Hid ((⟨0, 1, some ⟨w1.heap.size, 0, none⟩, 1, [97]⟩ : Ap).In w3) := SlY.later HX.out HB3.out
  have HS := hide (send_ok ⟨0, 1, some ⟨w1.heap.size, 0, none⟩, 1, [97]⟩ 0 (HN1.out.later HB13.out) HX3.out rfl (by omega) rfl rfl rfl (by show 1 ≤ 32768; decide) (by decide) (by decide))
  clear HB2 HB3 HX HZ hcv
  refine HS.out.mono ?_
  rintro e w4 ⟨rfl, pv4, rv4, n4, N4, U4, k4, k4'⟩
  have HN4 := hide N4
  have hq4 : Hid (B3 w4 (w1.heap.size + 1) (.int .i64 0) (.int .i64 1) (.slice (some ⟨w1.heap.size, 0, none⟩) 1 1)) := HQ.out.upd U4 (fun e => by have := HN1.out.mp.lt; rcases e with e | e | e | e <;> first | omega | cases e)
  have HL4 := hide (len14_any N4)
  have HW4 : Hid (Below w.heap.size w w4) := HB1.out.trans ((HB13.out.mono hz1).trans (U4.below (by omega) (fun k hk => by have := HN1.out.mp.lt; rcases hk with e | e | e | e <;> first | omega | cases e)))
  have HX4 : Hid ((⟨0, 1, some ⟨w1.heap.size, 0, none⟩, 1, [97]⟩ : Ap).In w4) := SlY.upd HX3.out U4 (fun z hz _ e => by have := HN1.out.mp.lt; cases hz; have e' : w1.heap.size = b ∨ w1.heap.size = mb ∨ none = some w1.heap.size ∨ none = some w1.heap.size := e; rcases e' with e | e | e | e <;> first | omega | cases e)
  have HS5 := hide (send_to ⟨0, 2, none, 0, []⟩ N4 rfl rfl rfl rfl)
  clear N4 HS U4 HB13 HX3 HQ
  go_wp2_with fail
  refine HL4.out.mono ?_
  rintro e w4' ⟨rfl, hy_⟩
  rw [hy_]; clear hy_ w4'
  go_wp2_with fail
  refine HS5.out.mono ?_
  rintro e w5 ⟨rfl, b5⟩
  have N5 := HN4.out.later b5
  have HQ5 := hide (hq4.out.bel b5)
  have HW5 := hide (HW4.out.trans (b5.mono HW4.out.size))
  have HX5 := hide (SlY.later HX4.out b5)
  clear b5 HS5 HL4 HN4 HW4 HX4 hq4
  have HT := hide (take_ok 0 ⟨1, [97], 0⟩ N5 rfl (by show 1 * 32 ≤ _; decide))
  have hbl := N5.lt
  have hz5 := HW5.out.size
  clear N5
  go_wp2_with fail
  refine HT.out.mono ?_
  rintro e w6 ⟨x, rfl, hx, ho, pv6, N6, U6, k6⟩
  have hxp : x.f = 0 ∧ x.t = 1 ∧ x.s = [97] := by
    unfold Ap.pk at hx
    injection hx with e1 e2 e3
    exact ⟨e3, e1, e2⟩
  obtain ⟨xf, xt, xa, xc, xs⟩ := x
  obtain ⟨rfl, rfl, rfl⟩ := hxp
  have HQ6 := HQ5.out.upd U6 (fun e => by have := HQ5.out.lt; omega)
  have HX6 := SlY.upd HX5.out U6 (fun z hz _ e => by cases hz; have e' : w1.heap.size = b := e; omega)
  have HW6 := HW5.out.trans (U6.below hz5 (fun k hk => by omega))
  have ho6 := ho.sl
  clear HT hx ho HQ5 HX5 HW5 U6 k6
  have HB7 := (Below.refl _ w6).alloc (Nat.le_refl _) (.cells #[.int .i64 0, .int .i64 1, .slice xa 1 xc] 46)
  have HQ7 := hide (B3.new w6 (.int .i64 0) (.int .i64 1) (.slice xa 1 xc) 46)
  have HP7 := hide (HQ6.bel HB7)
  have HX7 := hide (SlY.later HX6 HB7)
  have HY7 := hide (SlY.later ho6 HB7)
  have HN7 := hide (N6.later HB7)
  have HW7 := hide (HW6.trans (HB7.mono HW6.size))
  have p0 := HP7.out.c0
  have p1 := HP7.out.c1
  have p2 := HP7.out.c2
  clear HB7 HQ6 HX6 HW6 ho6 N6
  unfold Ap.val
  dsimp only [List.length_cons, List.length_nil]
  go_wp2_with fail
  generalize w6.alloc (.cells #[.int .i64 0, .int .i64 1, .slice xa 1 xc] 46) = w7 at *
  have HSm := hide (same14_eq ⟨0, 1, some ⟨w1.heap.size, 0, none⟩, 1, [97]⟩ ⟨0, 1, xa, xc, [97]⟩ w7 HX7.out HY7.out rfl)
  clear p0 p1 p2
  refine HSm.out.mono ?_
  rintro e w8 ⟨rfl, b8⟩
  have HN8 := hide (HN7.out.later b8)
  have HQ8 := HQ7.out.bel b8
  have HY8 : Hid ((⟨0, 1, xa, xc, [97]⟩ : Ap).In w8) := SlY.later HY7.out b8
  have HW8 := hide (HW7.out.trans (b8.mono HW7.out.size))
  have HL8 := hide (len14_any HN8.out)
  have q0 := HQ8.c0
  have q1 := HQ8.c1
  have q2 := HQ8.c2
  clear b8 HSm HN7 HQ7 HY7 HW7 HQ8 HX7 HP7
  go_wp2_with fail
  refine HL8.out.mono ?_
  rintro e w8' ⟨rfl, hy_⟩
  rw [hy_]; clear hy_ w8' HL8
  have HG := hide (genuine_any ⟨0, 1, xa, xc, [97]⟩ HN8.out HY8.out rfl)
  go_wp2_with fail
  refine HG.out.mono ?_
  rintro e w9 ⟨he, b9⟩
  have he' : e = .returned (.bool true) := he.trans (congrArg (fun z => Ending.returned (.bool z)) (by simp [sM, Ap.pk]))
  subst he'
  have HS9 := hide (sent_any (HN8.out.later b9))
  have HW9 := hide (HW8.out.trans (b9.mono HW8.out.size))
  clear b9 HG HW8 HN8 he
  go_wp2_with fail
  refine HS9.out.mono ?_
  rintro e w9' ⟨he, hy_⟩
  have he' : e = .returned (.int .i64 1) := he.trans (congrArg (fun z => Ending.returned (.int .i64 z)) (by simp [sR, Ap.pk]))
  subst he'
  rw [hy_]; clear hy_ w9' HS9 he
  go_wp2
  go_ret
  exact ⟨rfl, HW9.out⟩

end Go.Proofs.Ytegfbebhgihcaaa
