import Derived.Test.YtolnkoneilipeaaKb
namespace Go.Proofs.Ytolnkoneilipeaa
open Go.RowKit Go.Maps
open Classical
set_option linter.unusedVariables false
set_option linter.unusedSimpArgs false

/-- 'make', as far as it goes. -/
theorem makeYw {α : Type} {Y : Lay α} (K : Y.Ok) (w : World) {ops : Array Oper} {rest : List Oper} {o : Oper} {a : Act} {Q : Exit → Act → World → Prop} (hgd : o.guard = none) (x : Operand)
    (ho : o.op = .makeSlice Y.ST x x) (n : Nat) (hx : a.eval x = .int .i64 (n : Int)) (hm : n ≤ maxLen) (hb : n * Y.by_ ≤ 281474976710656)
    (h : ∀ w', OwnY Y w.heap.size w' (.slice (some ⟨w.heap.size, 0, none⟩) n n) (List.replicate n Y.z) → Below w.heap.size w w' → wpList Try.prog ops Q rest (a.put o.dst (.slice (some ⟨w.heap.size, 0, none⟩) n n)) w') : wpList Try.prog ops Q (o :: rest) a w := by
  obtain ⟨zv, hinfo, hzc⟩ := K.info
  obtain ⟨i0, hi, hz0, hz1, hz2⟩ := info_parts hinfo
  unfold maxLen at hm
  have hsz : (i0.bytes : Int) * (n : Int) ≤ 281474976710656 := by
    have h : ((n * Y.by_ : Nat) : Int) ≤ 281474976710656 := by omega
    rw [Int.natCast_mul, Int.mul_comm] at h
    rw [hz2]
    omega
  have hr := run_make (P := Try.prog) w Y.ST Y.T i0 zv K.und hi hz0 .i64 .i64 n n (by omega) (Int.le_refl _) hsz (by omega)
  rw [Int.toNat_natCast, hz1] at hr
  refine wpList_plain hgd fun K' hK' => ?_
  unfold Oper.wp execOp
  simp only [ho, hx, Sem.run_bind, Sem.run_pure, hr, Result.andThen_ok]
  refine hK' _ _ (h _ ?_ ((Below.refl _ _).alloc (Nat.le_refl _) _))
  unfold OwnY
  rw [List.length_replicate, ← madeY K hzc]
  exact World.ownsRow_lit w _ n (Nat.le_refl _) (by unfold maxLen; omega) (size_madeCells _ _)
/-- How many entries pieces have together. -/
def tot (L : List (SV En)) : Nat := (L.map (fun x => x.D.length)).sum
def flat (L : List (SV En)) : List En := L.flatMap SV.D
theorem flat_length : ∀ L : List (SV En), (flat L).length = tot L
  | [] => rfl
  | x :: r => by simp only [flat, tot, List.flatMap_cons, List.length_append, List.map_cons, List.sum_cons]; have := flat_length r; unfold flat tot at this; rw [this]
theorem tot_step {L : List (SV En)} {j : Nat} {x : SV En} (h : L[j]? = some x) : tot (L.take (j + 1)) = tot (L.take j) + x.D.length := by
  rw [List.take_add_one, h]; simp [tot]
theorem flat_step {L : List (SV En)} {j : Nat} {x : SV En} (h : L[j]? = some x) : flat (L.take (j + 1)) = flat (L.take j) ++ x.D := by
  rw [List.take_add_one, h]; simp [flat]
theorem tot_le (L : List (SV En)) (j : Nat) : tot (L.take j) ≤ tot L := by
  have : tot L = tot (L.take j) + tot (L.drop j) := by
    conv => lhs; rw [← List.take_append_drop j L]
    simp only [tot, List.map_append, List.sum_append]
  omega
theorem put_next {α : Type} (P D : List α) (z : α) (r : Nat) : put (P ++ List.replicate r z) P.length D = (P ++ D) ++ List.replicate (r - D.length) z := by
  unfold put
  rw [List.take_append_of_le_length (Nat.le_refl _), List.take_length, List.drop_append, List.drop_of_length_le (by omega), Nat.add_sub_cancel_left, List.drop_replicate, List.nil_append]
theorem SlY.sl1 {w : World} {a : Option Addr} {n c : Nat} {L : List (SV En)} (h : SlY zE w a n c L) {j : Nat} {x : SV En} (hx : L[j]? = some x) : ∃ q o, a = some ⟨q, o, none⟩ ∧ q < w.heap.size ∧ w.cell? ⟨q, o + j, none⟩ = some (.slice x.a x.D.length x.c) := by
  obtain ⟨q, o, ea, hq, hl⟩ := h.place (by rintro rfl; simp at hx)
  have := hl j x hx 0 _ rfl
  have e : o + j * zE.k + 0 = o + j := by show o + j * 1 + 0 = o + j; omega
  rw [e] at this
  exact ⟨q, o, ea, hq, this⟩
set_option maxRecDepth 100000 in
set_option maxHeartbeats 1000000 in
theorem lay_any (L : List (SV En)) (a : Option Addr) (n c : Nat) (w : World) (h : SlY zE w a n c L) (hx : ∀ x ∈ L, SlY yE w x.a x.D.length x.c x.D) (ht : tot L * 48 ≤ 281474976710656) :
    Calls Try.prog 16 #[.slice a n c] w fun e w' => e = .returned (.slice (some ⟨w.heap.size, 0, none⟩) (tot L) (tot L)) ∧ OwnY yE w.heap.size w' (.slice (some ⟨w.heap.size, 0, none⟩) (tot L) (tot L)) (flat L) ∧ Below w.heap.size w w' := by
  have hmx := h.max
  have hcp := h.cap
  have hln := h.len
  unfold maxLen at hmx
  have H := hide h
  have HX := hide hx
  have HN := hide hln
  clear h hx hln
  obtain ⟨T, hT⟩ : ∃ T, T = tot L := ⟨_, rfl⟩
  have HT := hide hT
  rw [← hT] at ht ⊢
  clear hT
  go_enter Try.func16, Try.ntmps16
  go_wp2
  go_loopw [12, 3] (fun i s wr => ∃ j A : Nat, i = .int .i64 (j : Int) ∧ j ≤ n ∧ s = .int .i64 (A : Int) ∧ Hid (A = tot (L.take j)) ∧ wr = w) (fun i _ _ => n - (intOf i).toNat)
  case atStart => exact ⟨0, 0, rfl, Nat.zero_le _, rfl, by show 0 = tot (L.take 0); simp [tot], rfl⟩
  case round =>
    obtain ⟨j, A, rfl, hj, rfl, hA, e1⟩ := hrel
    have e1 := e1.symm
    subst e1
    by_cases hlt : j < n
    · have hjl : j < L.length := by rw [HN.out]; exact hlt
      have hd : L[j]? = some L[j] := List.getElem?_eq_getElem hjl
      obtain ⟨q, o, rfl, hq, hc⟩ := H.out.sl1 hd
      have hst := tot_step hd
      have hle := tot_le L (j + 1)
      rw [hst, ← hA.out, ← HT.out] at hle
      have hb : A + L[j].D.length ≤ 5864062014806 := by omega
      have HS : Hid (A + L[j].D.length = tot (L.take (j + 1))) := by show _ = _; rw [hst, ← hA.out]
      clear hst hle hA hd
      generalize L[j] = x at *
      obtain ⟨xa, xc, xD⟩ := x
      dsimp only at hc hb HS
      generalize xD.length = m at *
      go_wp2
      go_round
      case rel => exact ⟨j + 1, A + m, by go_num, by omega, by go_num, HS, trivial⟩
      case measure => simp [intOf]; omega
    · obtain rfl : j = n := by omega
      have hA2 : A = T := by rw [hA.out, HT.out, List.take_of_length_le (by rw [HN.out]; exact Nat.le_refl _)]
      subst hA2
      clear hA
      go_wp2_with (at_make; go_must (refine makeYw kE _ rfl (.tmp 21) rfl A rfl (by unfold maxLen; omega) ht ?zk))
      intro w1 o1 b1
      have HO : Hid (OwnY yE w.heap.size w1 (.slice (some ⟨w.heap.size, 0, none⟩) A A) (flat (L.take 0) ++ List.replicate (A - 0) yE.z)) := by
        show OwnY _ _ _ _ _
        simpa [flat] using o1
      clear o1
      have HK : Hid (tot L = A) := HT.out.symm
      clear HT
      go_wp2
      go_loopw [25, 7] (fun i s ws => ∃ j2 B : Nat, i = .int .i64 (j2 : Int) ∧ j2 ≤ j ∧ s = .int .i64 (B : Int) ∧ Hid (B = tot (L.take j2)) ∧ Hid (OwnY yE w.heap.size ws (.slice (some ⟨w.heap.size, 0, none⟩) A A) (flat (L.take j2) ++ List.replicate (A - B) yE.z)) ∧ Below w.heap.size w ws) (fun i _ _ => j - (intOf i).toNat)
      case atStart => exact ⟨0, 0, rfl, Nat.zero_le _, rfl, by show 0 = tot (L.take 0); simp [tot], HO, b1⟩
      case round =>
        obtain ⟨j2, B, rfl, hj2, rfl, hB, hO, hb⟩ := hrel
        have hsz := hb.size
        by_cases hlt2 : j2 < j
        · have hjl : j2 < L.length := by rw [HN.out]; exact hlt2
          have hd : L[j2]? = some L[j2] := List.getElem?_eq_getElem hjl
          obtain ⟨q, o, rfl, hq, hc⟩ := (H.out.later hb).sl1 hd
          have hxs := (HX.out _ (List.getElem_mem hjl)).later hb
          have hst := tot_step hd
          have hfs := flat_step hd
          have hle := tot_le L (j2 + 1)
          rw [hst, ← hB.out, HK.out] at hle
          have HS : Hid (B + L[j2].D.length = tot (L.take (j2 + 1))) := by show _ = _; rw [hst, ← hB.out]
          have HP : Hid (put (flat (L.take j2) ++ List.replicate (A - B) yE.z) B L[j2].D = flat (L.take (j2 + 1)) ++ List.replicate (A - (B + L[j2].D.length)) yE.z) := by
            show _ = _
            have hl2 : (flat (L.take j2)).length = B := by rw [flat_length, hB.out]
            have := put_next (flat (L.take j2)) L[j2].D yE.z (A - B)
            rw [hl2] at this
            rw [this, hfs, Nat.sub_sub]
          clear hst hB hd hfs
          generalize L[j2] = x at *
          obtain ⟨xa, xc, xD⟩ := x
          dsimp only at hc hle HS HP hxs
          generalize hm : xD.length = m at *
          have HM := hide hm
          have HXS := hide hxs
          clear hm hxs
          have hbb : (B : Int) + (m : Int) ≤ 5864062014806 := by omega
          by_cases hBA : B = A
          · obtain rfl : m = 0 := by omega
            obtain rfl : xD = [] := List.eq_nil_of_length_eq_zero HM.out
            subst hBA
            have HP2 : Hid (put (flat (L.take j2) ++ List.replicate (B - B) yE.z) 0 [] = flat (L.take (j2 + 1)) ++ List.replicate (B - (B + 0)) yE.z) := by
              show _ = _
              rw [← HP.out]
              simp [put]
            go_wp2_with (refine copyY kE _ rfl (.tmp 32) (.tmp 33) rfl w.heap.size w.heap.size 0 0 0 B xc 0 xa _ [] rfl rfl hO.out HXS.out (by omega) (by omega) ?zc)
            intro w2 o2 u2 s2
            have o2 : OwnY yE w.heap.size w2 (Value.slice (some ⟨w.heap.size, 0, none⟩) B B) (flat (L.take (j2 + 1)) ++ List.replicate (B - (B + 0)) yE.z) := by
              rw [← HP2.out]
              simpa using o2
            have b2 : Below w.heap.size w w2 := hb.trans (u2.below hsz (fun k e => by omega))
            go_wp2
            go_round
            case rel => exact ⟨j2 + 1, B + 0, by go_num, by omega, by go_num, HS, hide o2, b2⟩
            case measure => simp [intOf]; omega
          · have hlt3 : B < A := by omega
            go_wp2_with (refine copyY kE _ rfl (.tmp 32) (.tmp 33) rfl w.heap.size w.heap.size (A - B) (A - B) B A xc m xa _ xD rfl rfl hO.out HXS.out (by omega) (by omega) ?zd)
            intro w2 o2 u2 s2
            rw [HP.out] at o2
            have b2 : Below w.heap.size w w2 := hb.trans (u2.below hsz (fun k e => by omega))
            go_wp2
            go_round
            case rel => exact ⟨j2 + 1, B + m, by go_num, by omega, by go_num, HS, hide o2, b2⟩
            case measure => simp [intOf]; omega
        · obtain rfl : j2 = j := by omega
          have hA2 : B = A := by rw [hB.out, ← HK.out, List.take_of_length_le (by rw [HN.out]; exact Nat.le_refl _)]
          subst hA2
          have hO2 := hO.out
          rw [Nat.sub_self, List.replicate_zero, List.append_nil, List.take_of_length_le (by rw [HN.out]; exact Nat.le_refl _)] at hO2
          have hO3 := hide hO2
          clear hO2 hO hB
          go_wp2
          go_ret
          exact ⟨rfl, hO3.out, hb⟩

end Go.Proofs.Ytolnkoneilipeaa
