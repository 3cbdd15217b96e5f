import Derived.Test.YtcmjhaljbmhpgaaGreatSwt
namespace Go.Proofs.YtcmjhaljbmhpgaaGreat
open Go.RowKit Go.Maps
open Classical
set_option linter.unusedVariables false
set_option linter.unusedSimpArgs false

set_option maxRecDepth 100000 in
set_option maxHeartbeats 1000000 in
/-- The document's PruneAnswers. -/
theorem refpruneanswers_any (L : List An) (D : List (Int × Int)) (a av : Option Addr) (n k vn vc : Nat) (w : World) (h : SlY yAnA w a n k L) (hD : SlY yD w av vn vc D) (hlogs : ∀ x ∈ L, x.In w ∧ x.s.D.length * 48 ≤ 140737488351232) (hm : n * 64 ≤ 140737488355328) :
    Calls Tryz.prog 39 #[.slice a n k, .slice av vn vc] w fun e w' => ∃ v R, e = .returned v ∧ OwnY yAnA w.heap.size w' v R ∧ An.Cop w.heap.size w' (An.prn L D) R ∧ Below w.heap.size w w' := by
  have hmx := h.max
  have hcp := h.cap
  have hln := h.len
  unfold maxLen at hmx
  have H := hide h
  have HD := hide hD
  have HN := hide hln
  have HLL := hide hlogs
  clear h hln hD hlogs
  have HP : Hid (∀ v w', OwnY yAnA w.heap.size w' v (An.prn (L.take n) D) → OwnY yAnA w.heap.size w' v (An.prn L D)) := fun v w' ho => by
    rwa [List.take_of_length_le (by rw [HN.out]; exact Nat.le_refl _)] at ho
  go_enter Tryz.func39, Tryz.ntmps39
  go_wp2
  go_loopw [6, 5] (fun i v wr => ∃ (j : Nat) (v5 : Value), i = .int .i64 (j : Int) ∧ j ≤ n ∧ v = v5 ∧ Hid (OwnY yAnA w.heap.size wr v5 (An.prn (L.take j) D)) ∧ Hid (Below w.heap.size w wr)) (fun i _ _ => n - (intOf i).toNat)
  case atStart => exact ⟨0, _, rfl, Nat.zero_le _, rfl, OwnY.nil _ _ _, Below.refl _ _⟩
  case round =>
    obtain ⟨j, v5, rfl, hj, hv5, hO, hbl⟩ := hrel
    have hv5 := hv5.symm
    subst hv5
    by_cases hlt : j < n
    · have hjl : j < L.length := by rw [HN.out]; exact hlt
      have hg : L[j]? = some L[j] := List.getElem?_eq_getElem hjl
      have hpl : Hid ((An.prn (L.take j) D).length ≤ j) := by
        show _ ≤ _
        unfold An.prn
        refine Nat.le_trans (List.length_filter_le _ _) ?_
        rw [List.length_take]
        omega
      have hst : Hid (An.prn (L.take (j + 1)) D = An.prn (L.take j) D ++ (if ovr D L[j].n L[j].h L[j].l = true then [] else [L[j]])) := by
        show _ = _
        unfold An.prn
        rw [List.take_add_one, hg, Option.toList_some, List.filter_append]
        congr 1
        cases hV : ovr D L[j].n L[j].h L[j].l <;> simp [hV]
      obtain ⟨q, o, ea, hq, _⟩ := (H.out.later hbl.out).AnA hg
      have KS : Hid (∀ v, Below w.heap.size w v → v.cell? ⟨q, o + j * 6, none⟩ = some (.int .i64 L[j].n) ∧ v.cell? ⟨q, o + j * 6 + 1, none⟩ = some (.int .u64 L[j].h) ∧ v.cell? ⟨q, o + j * 6 + 2, none⟩ = some (.int .u64 L[j].l) ∧ v.cell? ⟨q, o + j * 6 + 3, none⟩ = some (.int .i64 L[j].v) ∧ v.cell? ⟨q, o + j * 6 + 4, none⟩ = some (.int .i64 L[j].c) ∧ v.cell? ⟨q, o + j * 6 + 5, none⟩ = some (.slice L[j].s.a L[j].s.D.length L[j].s.c)) := fun v hv => by
        obtain ⟨q', o', ea', _, y0, y1, y2, y3, y4, y5⟩ := (H.out.later hv).AnA hg
        rw [ea] at ea'
        cases ea'
        exact ⟨y0, y1, y2, y3, y4, y5⟩
      cases ea
      clear hg
      generalize L[j] = x at *
      have co := hide (fun W (hW : Below w.heap.size w W) => refover_any D av vn vc x.n x.h x.l W (HD.out.later hW))
      generalize ovr D x.n x.h x.l = V at *
      have zr := hbl.out.size
      have s0 := KS.out _ hbl.out.drew
      generalize An.prn (L.take j) D = PJ at *
      go_wp2_with fail
      go_region_held3 (fun v => v.cell? ⟨q, o + j * 6, none⟩ = some (.int .i64 x.n) ∧ v.cell? ⟨q, o + j * 6 + 1, none⟩ = some (.int .u64 x.h) ∧ v.cell? ⟨q, o + j * 6 + 2, none⟩ = some (.int .u64 x.l) ∧ v.cell? ⟨q, o + j * 6 + 3, none⟩ = some (.int .i64 x.v) ∧ v.cell? ⟨q, o + j * 6 + 4, none⟩ = some (.int .i64 x.c) ∧ v.cell? ⟨q, o + j * 6 + 5, none⟩ = some (.slice x.s.a x.s.D.length x.s.c)) (with_reducible assumption) (first
        | (go_at_call 55; refine (co.out _ hbl.out.drew).mono ?_; rintro e w2 ⟨rfl, b2⟩; have C2 := hide ((Below.refl wr.heap.size wr).drew.trans b2); have D2 := hide (hbl.out.trans (C2.out.mono zr)); have s2 := KS.out w2 D2.out; clear b2))
      obtain ⟨t0, t1, t2, t3, t4, t5⟩ := KS.out w2 D2.out
      have O2 := hide (hO.out.grow C2.out)
      clear hO co
      cases V with
      | true =>
        have hst2 : Hid (OwnY yAnA w.heap.size w2 v5 (An.prn (L.take (j + 1)) D)) := by show OwnY _ _ _ _ _; rw [hst.out, if_pos rfl, List.append_nil]; exact O2.out
        go_wp2
        go_round
        case rel => exact ⟨j + 1, v5, by go_num, by omega, rfl, hst2, D2⟩
        case measure => first | (simp [intOf]; done) | (simp [intOf]; omega)
      | false =>
        have SB : Hid (SlY yAnA (w2.alloc (.cells #[.int .i64 x.n, .int .u64 x.h, .int .u64 x.l, .int .i64 x.v, .int .i64 x.c, .slice x.s.a x.s.D.length x.s.c] 69)) (some ⟨w2.heap.size, 0, none⟩) 1 1 [x]) := sl_box (Y := yAnA) w2 x 69
        have D3 := hide (D2.out.alloc D2.out.size (.cells #[.int .i64 x.n, .int .u64 x.h, .int .u64 x.l, .int .i64 x.v, .int .i64 x.c, .slice x.s.a x.s.D.length x.s.c] 69))
        have O3 := hide (O2.out.alloc (.cells #[.int .i64 x.n, .int .u64 x.h, .int .u64 x.l, .int .i64 x.v, .int .i64 x.c, .slice x.s.a x.s.D.length x.s.c] 69))
        have z3 : w.heap.size ≤ (w2.alloc (.cells #[.int .i64 x.n, .int .u64 x.h, .int .u64 x.l, .int .i64 x.v, .int .i64 x.c, .slice x.s.a x.s.D.length x.s.c] 69)).heap.size := D3.out.size
        go_upto_region 6 with fail
        go_wp2_with (at_builtin; go_must (refine appY kAnA _ rfl (.tmp 26) (.tmp 31) rfl w.heap.size PJ _ rfl (some ⟨w2.heap.size, 0, none⟩) 1 1 rfl [x] SB.out O3.out z3 (by unfold maxLen; have := hpl.out; omega) (by show (_ + 1) * 64 ≤ _; have := hpl.out; omega) ?_))
        intro v' w4 o4 g4 e4
        have D4 := hide (O3.out.grown D3.out g4 z3)
        have O4 : Hid (OwnY yAnA w.heap.size w4 v' (An.prn (L.take (j + 1)) D)) := by show OwnY _ _ _ _ _; rw [hst.out, if_neg (by simp)]; exact o4
        clear o4 g4 e4
        go_wp2
        go_round
        case rel => exact ⟨j + 1, v', by go_num, by omega, rfl, O4, D4⟩
        case measure => first | (simp [intOf]; done) | (simp [intOf]; omega)
    · obtain rfl : j = n := by omega
      have O9 := hide (HP.out _ _ hO.out)
      clear hO HP
      obtain ⟨a9, c9, rfl, s9, _⟩ := O9.out.sl kAnA
      have hl9 : (An.prn L D).length ≤ j := by unfold An.prn; have := List.length_filter_le (fun x => !ovr D x.n x.h x.l) L; rw [HN.out] at this; exact this
      have CC := hide (An.refcopy_any (An.prn L D) a9 _ c9 wr s9 (fun x hx => ⟨(HLL.out x (List.mem_filter.1 hx).1).1.later hbl.out, (HLL.out x (List.mem_filter.1 hx).1).2⟩) (by omega))
      clear s9 O9
      have zr := hbl.out.size
      go_wp2_with fail
      refine CC.out.mono ?_
      rintro e w9 ⟨v9, R9, rfl, o9, k9, b9⟩
      have P9 := hide (show OwnY yAnA w.heap.size w9 v9 R9 ∧ An.Cop w.heap.size w9 (An.prn L D) R9 ∧ Below w.heap.size w w9 from ⟨o9.low zr, k9.low zr, hbl.out.trans (b9.mono zr)⟩)
      clear o9 k9 b9 CC
      dsimp only
      go_wp2
      go_ret
      first | exact ⟨_, rfl, R9, P9.out⟩ | exact ⟨_, _, rfl, P9.out⟩

end Go.Proofs.YtcmjhaljbmhpgaaGreat
