import Derived.Test.YtcmjhaljbmhpgaaGreatGSw
import Derived.Test.YtcmjhaljbmhpgaaGreatSf8
namespace Go.Proofs.YtcmjhaljbmhpgaaGreat
open Go.RowKit Go.Maps
open Classical
set_option linter.unusedVariables false
set_option linter.unusedSimpArgs false

set_option maxRecDepth 100000 in
set_option maxHeartbeats 1000000 in
/-- slices.DeleteFunc over a row of the call's own. -/
theorem An.delete_any (p : An → Bool) (f : Nat) (lb : Array Value) (eg : ∀ args w, (callFunc f args).run Tryz.prog w = .ok (.enter f args) w) (L : List An) (n g B : Nat) (w : World) (hn : L.length = n) (h : OwnY yAnV B w (.slice (some ⟨g, 0, none⟩) n n) L) (hB : B ≤ w.heap.size)
    (hp : ∀ (W : World) (x : An), Upd (· = g) w W → Calls Tryz.prog f (#[x.val] ++ lb) W fun e w' => e = .returned (.bool (p x)) ∧ Below W.heap.size W w') :
    Calls Tryz.prog 119 #[.slice (some ⟨g, 0, none⟩) n n, .func (.func f) #[] lb] w fun e w' => ∃ m : Nat, e = .returned (.slice (some ⟨g, 0, none⟩) m n) ∧ OwnY yAnV B w' (.slice (some ⟨g, 0, none⟩) m n) (L.filter (fun x => !p x)) ∧ Below B w w' := by
  have hgb : B ≤ g ∧ g < w.heap.size := by
    obtain ⟨_, _, ee, _, _, _, h4⟩ := h.form
    injection ee with ee
    obtain ⟨g', e2, h6, h5⟩ := h4 _ ee.symm
    cases e2
    exact ⟨h6, h5⟩
  have hnm : n ≤ 9223372036854775807 := by have := (h.sl' kAnV).max; unfold maxLen at this; omega
  have O := hide h
  have HN := hide hn
  have HP := hide hp
  have CI := hide (An.index_any p f lb eg L (some ⟨g, 0, none⟩) n n w (h.sl' kAnV) (fun W x hW => (hp W x (Upd.of_below hW)).mono fun e w' hq => ⟨hq.1, hW.trans (hq.2.mono hW.size)⟩))
  clear h hn hp
  cases hf : L.findIdx? p with
  | none =>
    have hix : ix p L = -1 := by unfold ix; rw [hf]
    have hfl : Hid (L.filter (fun x => !p x) = L) := by
      show _ = _
      rw [List.filter_eq_self]
      intro x hx
      have := (List.findIdx?_eq_none_iff.1 hf) x hx
      simp [this]
    rw [hix] at CI
    clear hf hix
    go_enter Tryz.func119, Tryz.ntmps119
    go_wp2_with fail
    refine CI.out.mono ?_
    rintro e w1 ⟨rfl, b1⟩
    have O1 := hide (O.out.grow b1)
    clear CI
    dsimp only
    go_wp2
    go_ret
    exact ⟨n, rfl, by rw [hfl.out]; exact O1.out, b1.mono hB⟩
  | some i0 =>
    have hix : ix p L = (i0 : Int) := by unfold ix; rw [hf]
    obtain ⟨hil, hpi, hno⟩ := List.findIdx?_eq_some_iff_getElem.1 hf
    have hin : i0 < n := by rw [← HN.out]; exact hil
    have hst : Hid (L.take i0 = (L.take (i0 + 1)).filter (fun x => !p x)) := by
      show _ = _
      rw [List.take_add_one, List.getElem?_eq_getElem hil, Option.toList_some, List.filter_append, List.filter_cons, hpi]
      simp only [Bool.not_true, Bool.false_eq_true, if_false, List.filter_nil, List.append_nil]
      symm
      rw [List.filter_eq_self]
      intro x hx
      obtain ⟨j, hj, rfl⟩ := List.mem_iff_getElem.1 hx
      rw [List.length_take] at hj
      have := hno j (by omega)
      rw [List.getElem_take]
      simpa using this
    rw [hix] at CI
    clear hf hix hno hpi
    have hm1 : ((i0 : Int) == -1) = false := by rw [beq_eq_false_iff_ne]; omega
    have hw1 : IntKind.i64.wrap ((i0 : Int) + 1) = (i0 : Int) + 1 := by rw [IntKind.wrap_i64]; omega
    go_enter Tryz.func119, Tryz.ntmps119
    go_wp2_with fail
    refine CI.out.mono ?_
    rintro e w1 ⟨rfl, b1⟩
    have O1 := hide (O.out.grow b1)
    clear CI O
    dsimp only
    go_wp2_with fail
    go_loopw [6, 5] (fun jj ii wr => ∃ (i j : Nat) (XX : List An), ii = .int .i64 (i : Int) ∧ jj = .int .i64 (j : Int) ∧ i < j ∧ j ≤ n ∧ Hid (OwnY yAnV B wr (.slice (some ⟨g, 0, none⟩) n n) XX) ∧ Hid (XX.take i = (L.take j).filter (fun x => !p x) ∧ XX.drop j = L.drop j) ∧ Hid (Upd (· = g) w wr)) (fun jj _ _ => n - (intOf jj).toNat)
    case atStart => exact ⟨i0, i0 + 1, L, rfl, by go_num, by omega, by omega, O1, ⟨hst.out, rfl⟩, Upd.of_below b1⟩
    case round =>
      clear b1 O1 hst
      obtain ⟨i, j, XX, rfl, rfl, hij, hj, hO, hX, hU⟩ := hrel
      have hXl : Hid (XX.length = n) := (hO.out.sl' kAnV).len
      have hUs := hU.out.size
      by_cases hlt : j < n
      · have hjl : j < L.length := by rw [HN.out]; exact hlt
        have hgx : XX[j]? = some L[j] := by
          have h1 : (XX.drop j)[0]? = (L.drop j)[0]? := by rw [hX.out.2]
          rw [List.getElem?_drop, List.getElem?_drop, Nat.add_zero, List.getElem?_eq_getElem hjl] at h1
          exact h1
        obtain ⟨q, o, ea, hq, y0, y1, y2, y3, y4, y5⟩ := (hO.out.sl' kAnV).AnV hgx
        cases ea
        simp only [Nat.zero_add] at y0 y1 y2 y3 y4 y5
        have hcall := fun W hW => HP.out W L[j] hW
        have hskip : Hid (p L[j] = true → XX.take i = (L.take (j + 1)).filter (fun x => !p x)) := fun hpx => by
          rw [hX.out.1, List.take_add_one, List.getElem?_eq_getElem hjl, Option.toList_some, List.filter_append, List.filter_cons, hpx]
          simp
        have hkeep : Hid (p L[j] = false → (XX.set i L[j]).take (i + 1) = (L.take (j + 1)).filter (fun x => !p x)) := fun hpx => by
          have hi2 : i < XX.length := by rw [hXl.out]; omega
          rw [List.take_add_one, List.getElem?_set_self hi2, Option.toList_some, List.take_set_of_le (Nat.le_refl _), hX.out.1, List.take_add_one, List.getElem?_eq_getElem hjl, Option.toList_some, List.filter_append, List.filter_cons, hpx]
          simp
        have hdrop : Hid (XX.drop (j + 1) = L.drop (j + 1) ∧ ∀ x, (XX.set i x).drop (j + 1) = L.drop (j + 1)) := by
          have h1 : XX.drop (j + 1) = L.drop (j + 1) := by
            rw [← List.drop_drop, ← List.drop_drop, hX.out.2]
          exact ⟨h1, fun x => by rw [List.drop_set_of_lt (by omega)]; exact h1⟩
        have hgi : Hid (XX[i]? = some (XX[i]'(by rw [hXl.out]; omega))) := List.getElem?_eq_getElem _
        clear hgx hX
        generalize L[j] = x at *
        unfold An.val at hcall
        have bA : Below wr.heap.size wr (wr.alloc (.cells #[.int .i64 x.n, .int .u64 x.h, .int .u64 x.l, .int .i64 x.v, .int .i64 x.c, .slice x.s.a x.s.D.length x.s.c] 132)) := (Below.refl _ wr).alloc (Nat.le_refl _) _
        have UA := hide (hU.out.trans (Upd.of_below bA))
        have OA := hide (hO.out.alloc (.cells #[.int .i64 x.n, .int .u64 x.h, .int .u64 x.l, .int .i64 x.v, .int .i64 x.c, .slice x.s.a x.s.D.length x.s.c] 132))
        have hcl := hide (hcall _ UA.out)
        clear hO hU bA hcall
        cases hpx : p x with
        | true =>
          have ht := hide (hskip.out hpx)
          clear hskip hkeep
          go_wp2_with (go_at_fn f; refine (hpx ▸ hcl.out).mono ?_; rintro e w2 ⟨rfl, b2⟩)
          go_round
          case rel => exact ⟨i, j + 1, XX, rfl, by go_num, by omega, by omega, OA.out.grow b2, ⟨ht.out, hdrop.out.1⟩, UA.out.trans (Upd.of_below b2)⟩
          case measure => simp [intOf]; omega
        | false =>
          have ht := hide (hkeep.out hpx)
          clear hskip hkeep
          generalize hXi : (XX[i]'(by rw [hXl.out]; omega)) = xi at hgi
          clear hXi
          have hii : (i : Int) < (n : Int) := by omega
          go_wp2_with (first
            | (go_at_fn f; refine (hpx ▸ hcl.out).mono ?_; rintro e w2 ⟨rfl, b2⟩; have O2 := hide (OA.out.grow b2); have U2 := hide (UA.out.trans (Upd.of_below b2)); have z2 := b2.size; have hbx := x.box wr w2 (by simpa using b2); obtain ⟨z0, z1, z2, z3, z4, z5⟩ := hbx; clear b2)
            | (refine storeY kAnV _ rfl 132 (.tmp 33) (.tmp 32) rfl B g n n XX i 0 xi x _ rfl rfl hgi.out (by kernel_rfl) (by exact (by decide : 6 ≤ 6)) rfl O2.out ?_; intro w3 o3 u3 z3; have O3 := hide o3; have U3 := hide (U2.out.trans u3); clear o3 u3)
            | go_in)
          go_round
          case rel => exact ⟨i + 1, j + 1, XX.set i x, by go_num, by go_num, by omega, by omega, O3, ⟨ht.out, hdrop.out.2 x⟩, U3⟩
          case measure => simp [intOf]; omega
      · obtain rfl : j = n := by omega
        have hii : (i : Int) ≤ (j : Int) := by omega
        have hi1 : ¬ (j = i) := by omega
        go_wp2_with (refine clearY kAnV _ rfl (.tmp 38) rfl B g i (j - i) j j (j - i) XX rfl hO.out (by omega) (by omega) ?zk)
        intro w2 o2 u2 z2
        have O2 := o2.pre kAnV i (by omega)
        have e1 : (Go.Proofs.YtcmjhaljbmhpgaaGreat.put XX i (List.replicate (j - i) yAnV.z)).take i = L.filter (fun x => !p x) := by
          have hl : (XX.take i).length = i := by rw [List.length_take, hXl.out]; omega
          unfold Go.Proofs.YtcmjhaljbmhpgaaGreat.put
          rw [List.append_assoc, List.take_append_of_le_length (by omega), List.take_of_length_le (by omega), hX.out.1, List.take_of_length_le (by rw [HN.out]; exact Nat.le_refl _)]
        rw [e1] at O2
        have O3 := hide O2
        have U3 := hide (hU.out.trans u2)
        clear o2 u2 O2 e1 hO hX
        go_wp2
        go_ret
        exact ⟨i, rfl, O3.out, U3.out.below hB (fun k e => by subst e; exact hgb.1)⟩
theorem An.f60 (args : Array Value) (w : World) : (callFunc 120 args).run Tryz.prog w = .ok (.enter 120 args) w := enters_of Tryz.func120 (by kernel_rfl) rfl args w
set_option maxRecDepth 100000 in
set_option maxHeartbeats 1000000 in
theorem An.over_any (D : List (Int × Int)) (x : An) (a : Option Addr) (n c b : Nat) (w : World) (hb : b < w.heap.size) (hc : w.cell? ⟨b, 0, none⟩ = some (.slice a n c)) (hD : SlY yD w a n c D) : Calls Tryz.prog 120 #[x.val, .pointer (some ⟨b, 0, none⟩)] w fun e w' => e = .returned (.bool (ovr D x.n x.h x.l)) ∧ Below w.heap.size w w' := by
  have hbW : b ≠ w.heap.size := by omega
  have HB : Hid (∀ v, Below (w.heap.size + 1) (w.alloc (.cells #[.int .i64 x.n, .int .u64 x.h, .int .u64 x.l, .int .i64 x.v, .int .i64 x.c, .slice x.s.a x.s.D.length x.s.c] 132)) v → Below w.heap.size w v) := fun v hv => ((Below.refl _ w).alloc (Nat.le_refl _) _).trans (hv.mono (by omega))
  have KH : Hid (∀ v, Below (w.heap.size + 1) (w.alloc (.cells #[.int .i64 x.n, .int .u64 x.h, .int .u64 x.l, .int .i64 x.v, .int .i64 x.c, .slice x.s.a x.s.D.length x.s.c] 132)) v → (v.cell? ⟨w.heap.size, 0, none⟩ = some (.int .i64 x.n) ∧ v.cell? ⟨w.heap.size, 1, none⟩ = some (.int .u64 x.h) ∧ v.cell? ⟨w.heap.size, 2, none⟩ = some (.int .u64 x.l) ∧ v.cell? ⟨w.heap.size, 3, none⟩ = some (.int .i64 x.v) ∧ v.cell? ⟨w.heap.size, 4, none⟩ = some (.int .i64 x.c) ∧ v.cell? ⟨w.heap.size, 5, none⟩ = some (.slice x.s.a x.s.D.length x.s.c)) ∧ v.cell? ⟨b, 0, none⟩ = some (.slice a n c)) := fun v hv => ⟨x.box w v hv, ((HB.out v hv).cell (p := ⟨b, 0, none⟩) hb).trans hc⟩
  have CO := hide (fun W (hW : Below w.heap.size w W) => isover_any D a n c x.n x.h x.l W (hD.later hW))
  generalize ovr D x.n x.h x.l = V at *
  clear hc hD
  show Calls Tryz.prog 120 #[.agg #[.int .i64 x.n, .int .u64 x.h, .int .u64 x.l, .int .i64 x.v, .int .i64 x.c, .slice x.s.a x.s.D.length x.s.c], .pointer (some ⟨b, 0, none⟩)] w _
  go_enter Tryz.func120, Tryz.ntmps120
  go_wp2_with fail
  refine region_q9 (C := fun v => Below (w.heap.size + 1) (w.alloc (.cells #[.int .i64 x.n, .int .u64 x.h, .int .u64 x.l, .int .i64 x.v, .int .i64 x.c, .slice x.s.a x.s.D.length x.s.c] 132)) v) (by kernel_rfl) (by kernel_rfl) (Below.refl _ _).drew ?_
  refine wqv (u := .slice a n c) (by kernel_rfl) (fun v hv => by obtain ⟨_, y0⟩ := KH.out v hv; go_simp) ?_
  simp only [Act.put, List.setIfInBounds_toArray, List.set_cons_zero, List.set_cons_succ]
  refine wqv (u := x.val) (by kernel_rfl) (fun v hv => by obtain ⟨⟨y0, y1, y2, y3, y4, y5⟩, _⟩ := KH.out v hv; go_simp; rfl) ?_
  simp only [Act.put, List.setIfInBounds_toArray, List.set_cons_zero, List.set_cons_succ]
  refine wqv (u := .iface 132 x.val) (by kernel_rfl) (fun v hv => by kernel_rfl) ?_
  simp only [Act.put, List.setIfInBounds_toArray, List.set_cons_zero, List.set_cons_succ]
  refine wqi (fid := 207) (args := #[x.val]) (AS := #[]) (V := .iface 132 x.val) (u := .int .i64 x.n) (by kernel_rfl) _ _ rfl (by kernel_rfl) (by kernel_rfl) (fun v => x.ifnode v) (fun v hv => (x.node_any v).mono fun e w' h => ⟨h.1, hv.trans (h.2.mono (by have := hv.size; rwa [World.size_alloc] at this))⟩) ?_
  simp only [Act.put, List.setIfInBounds_toArray, List.set_cons_zero, List.set_cons_succ]
  refine wqv (u := x.val) (by kernel_rfl) (fun v hv => by obtain ⟨⟨y0, y1, y2, y3, y4, y5⟩, _⟩ := KH.out v hv; go_simp; rfl) ?_
  simp only [Act.put, List.setIfInBounds_toArray, List.set_cons_zero, List.set_cons_succ]
  refine wqv (u := .iface 132 x.val) (by kernel_rfl) (fun v hv => by kernel_rfl) ?_
  simp only [Act.put, List.setIfInBounds_toArray, List.set_cons_zero, List.set_cons_succ]
  refine wqi (fid := 204) (args := #[x.val]) (AS := #[]) (V := .iface 132 x.val) (u := .agg #[.int .u64 x.h, .int .u64 x.l]) (by kernel_rfl) _ _ rfl (by kernel_rfl) (by kernel_rfl) (fun v => x.ifdraw v) (fun v hv => (x.draw_any v).mono fun e w' h => ⟨h.1, hv.trans (h.2.mono (by have := hv.size; rwa [World.size_alloc] at this))⟩) ?_
  simp only [Act.put, List.setIfInBounds_toArray, List.set_cons_zero, List.set_cons_succ]
  refine wqc (fid := 97) (args := #[.slice a n c, .int .i64 x.n, .agg #[.int .u64 x.h, .int .u64 x.l]]) (u := .bool V) (by kernel_rfl) (fun v => by kernel_rfl) (fun v hv => (CO.out v (HB.out v hv)).mono fun e w' h => ⟨h.1, hv.trans (h.2.mono (by have := hv.size; rwa [World.size_alloc] at this))⟩) ?_
  simp only [Act.put, List.setIfInBounds_toArray, List.set_cons_zero, List.set_cons_succ]
  refine wqv (u := .bool V) (by kernel_rfl) (fun v hv => by kernel_rfl) ?_
  simp only [Act.put, List.setIfInBounds_toArray, List.set_cons_zero, List.set_cons_succ]
  refine wqnil (fun v hv => ?_)
  have BV := hide (HB.out v hv)
  clear hv KH CO HB
  go_wp2
  go_ret
  exact ⟨rfl, BV.out⟩
/-- The votes of lives that a vector does not know to be over. -/
def An.prn (L : List An) (D : List (Int × Int)) : List An := L.filter (fun x => !ovr D x.n x.h x.l)
set_option maxRecDepth 100000 in
set_option maxHeartbeats 1000000 in
theorem An.prune_any (L : List An) (D : List (Int × Int)) (a : Option Addr) (vn vc n g B : Nat) (w : World) (hn : L.length = n) (h : OwnY yAnV B w (.slice (some ⟨g, 0, none⟩) n n) L) (hB : B ≤ w.heap.size) (hD : SlY yD w a vn vc D) (hDg : ∀ z, a = some z → D ≠ [] → z.block ≠ g) :
    Calls Tryz.prog 86 #[.slice (some ⟨g, 0, none⟩) n n, .slice a vn vc] w fun e w' => ∃ m : Nat, e = .returned (.slice (some ⟨g, 0, none⟩) m n) ∧ OwnY yAnV B w' (.slice (some ⟨g, 0, none⟩) m n) (An.prn L D) ∧ Below B w w' := by
  have hgl : g < w.heap.size := by
    obtain ⟨_, _, ee, _, _, _, h4⟩ := h.form
    injection ee with ee
    obtain ⟨g', e2, _, h5⟩ := h4 _ ee.symm
    cases e2
    exact h5
  have b1 : Below w.heap.size w (w.alloc (.cells #[.slice a vn vc] 31)) := (Below.refl _ w).alloc (Nat.le_refl _) _
  have O1 := h.alloc (.cells #[.slice a vn vc] 31)
  have cd := An.delete_any (fun x => ovr D x.n x.h x.l) 120 #[.pointer (some ⟨w.heap.size, 0, none⟩)] An.f60 L n g B (w.alloc (.cells #[.slice a vn vc] 31)) hn O1 (by simp; omega) (fun W x hU => An.over_any D x a vn vc w.heap.size W (by have := hU.size; simp at this; omega) ((hU.cell (p := ⟨w.heap.size, 0, none⟩) (by simp) (by show ¬ (w.heap.size = g); omega)).trans (by simp)) ((hD.later b1).upd hU (fun z hz hne => hDg z hz hne)))
  have CD := hide cd
  have B1 := hide b1
  clear cd b1 O1 h hD hDg
  go_enter Tryz.func86, Tryz.ntmps86
  go_wp2_with fail
  refine CD.out.mono ?_
  rintro e w2 ⟨m, rfl, o2, b2⟩
  have O2 := hide o2
  clear o2 CD
  dsimp only
  go_wp2
  go_ret
  exact ⟨m, rfl, O2.out, (B1.out.mono hB).trans b2⟩

end Go.Proofs.YtcmjhaljbmhpgaaGreat
