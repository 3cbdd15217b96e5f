import Derived.Lib.SlBytesConst
import Derived.Deep.SlicePairs
import Derived.Test.YtabiimmpjllcpaaDoorRows
import Derived.Deep.RegionLaw
import Derived.Lib.ConvBytes
import Derived.Test.YtabiimmpjllcpaaDoorB1
namespace Go.Proofs.YtabiimmpjllcpaaDoor
open Go.RowKit Go.Maps
open Classical
set_option linter.unusedVariables false
set_option linter.unusedSimpArgs false
theorem vj_valC {ops : Array Oper} {rest : List Oper} {o : Oper} {a : Act} {C : World → Prop} {Q : Act → Prop} {u : Value} (hw : Region.wanted o (yielded ops a.tmps) = true) (h : ∀ v, C v → (execOp a.eval o).run Tryd.prog v = .ok (.value u) v) (hk : VJ ops C Q rest (a.put o.dst u)) : VJ ops C Q (o :: rest) a := ⟨wq_valC hw h hk.out⟩
theorem vj_bin {ops : Array Oper} {rest : List Oper} {o : Oper} {a : Act} {C : World → Prop} {Q : Act → Prop} {u X Y : Value} {op : BinOp} {ty ty' : TypeId} {x y : Operand} (hw : Region.wanted o (yielded ops a.tmps) = true) (ho : o.op = .binOp op ty x y ty') (hx : a.eval x = X) (hy : a.eval y = Y) (h : ∀ v, (do eqGuard op ty x y X Y; binOp op ty X Y : Sem Value).run Tryd.prog v = .ok u v) (hk : VJ ops C Q rest (a.put o.dst u)) : VJ ops C Q (o :: rest) a := ⟨wq_bin hw ho hx hy h hk.out⟩
theorem vj_call {ops : Array Oper} {rest : List Oper} {o : Oper} {a : Act} {C : World → Prop} {Q : Act → Prop} {fid : FuncId} {args : Array Value} {u : Value} (hw : Region.wanted o (yielded ops a.tmps) = true) (hr : ∀ v, (execOp a.eval o).run Tryd.prog v = .ok (.enter fid args) v) (hc : ∀ v, C v → Calls Tryd.prog fid args v (fun e w' => e = .returned u ∧ C w')) (hk : VJ ops C Q rest (a.put o.dst u)) : VJ ops C Q (o :: rest) a := ⟨wq_call hw hr hc hk.out⟩
theorem vj_skip {ops : Array Oper} {rest : List Oper} {o : Oper} {a : Act} {C : World → Prop} {Q : Act → Prop} (hw : Region.wanted o (yielded ops a.tmps) = false) (hk : VJ ops C Q rest (a.put o.dst undef)) : VJ ops C Q (o :: rest) a := ⟨BigFrame.wpQuiet_skip hw hk.out⟩
set_option maxRecDepth 100000 in
set_option maxHeartbeats 2000000 in
theorem keeps_12 (f r p : Int) (u : Bool) (m : Mg) (a1 a2 : Option Addr) (nl cl nv cv : Nat) (at_ : Int) (w : World) (hf1 : 1 ≤ f) (hf2 : f ≤ 3) (D : List (Int × Int)) (h : SlY yD w a2 nv cv D) : Calls Tryd.prog 23 #[.agg #[.int .i64 f, .int .i64 r, .int .i64 p, .bool u], m.val (.slice a1 nl cl) (.slice a2 nv cv), .int .i64 at_, .int .u8 12] w fun e w' => e = .returned (.bool (owB m D)) ∧ Below w.heap.size w w' := by
  have hlen := h.len
  have hcv := h.cap
  have hmx := h.max
  unfold maxLen at hmx
  have wrp : IntKind.i64.wrap ((nv : Int) - 1) = (nv : Int) - 1 := by rw [IntKind.wrap_i64]; omega
  have HS := hide h
  clear h
  by_cases hd : m.d = (0, 0)
  · have V : Hid (owB m D = false) := by simp [Hid, owB, hd]
    go_enter Tryd.func23, Tryd.ntmps23
    go_upto_region 1 with (refine boxMk rfl (.tmp 1) rfl m _ _ rfl ?_; intro q1 w1 hq1 M1 b1 z1)
    have hB : Below w.heap.size w w1 := ((Below.refl _ _).alloc (Nat.le_refl _) _).trans (b1.mono (by simp))
    have HB := hide hB
    have c0 : w1.cell? ⟨w.heap.size, 0, none⟩ = some (.int .i64 f) := (b1.cell (p := ⟨w.heap.size, 0, none⟩) (by simp)).trans (by simp)
    have c1 : w1.cell? ⟨w.heap.size, 1, none⟩ = some (.int .i64 r) := (b1.cell (p := ⟨w.heap.size, 1, none⟩) (by simp)).trans (by simp)
    have hq2 : q1 = w.heap.size + 1 := by first | exact hq1 | simpa using hq1
    subst hq2
    have x1 := M1.cell 1 _ rfl
    have x17 := M1.cell 17 _ rfl
    have x14 := M1.cell 14 _ rfl
    have x15 := M1.cell 15 _ rfl
    have hz1 : w.heap.size + 1 < w1.heap.size := M1.lt
    clear M1 b1 z1 hB hq1
    go_wp2_with fail
    have X17 := hide x17
    have X1 := hide x1
    have X14 := hide x14
    have X15 := hide x15
    refine vq_start (C := fun v => Below w1.heap.size w1 v) (by kernel_rfl) (by kernel_rfl) (Below.refl _ _).drew ?_
    clear x17 x1 x14 x15 c1 c0
    refine vj_valC (u := .pointer (some ⟨w.heap.size + 1, 14, none⟩)) rfl (fun v hv => by go_simp) ?_
    simp only [Act.put, List.setIfInBounds_toArray, List.set_cons_zero, List.set_cons_succ]
    refine vj_valC (u := .agg #[.int .u64 m.d.1, .int .u64 m.d.2]) rfl (fun v hv => by have e := (hv.cell (p := ⟨w.heap.size + 1, 14, none⟩) hz1).trans X14.out; have e2 := (hv.cell (p := ⟨w.heap.size + 1, 15, none⟩) hz1).trans X15.out; go_simp) ?_
    simp only [Act.put, List.setIfInBounds_toArray, List.set_cons_zero, List.set_cons_succ]
    refine vj_valC (u := .agg #[.int .u64 0, .int .u64 0]) rfl (fun v hv => by go_simp) ?_
    simp only [Act.put, List.setIfInBounds_toArray, List.set_cons_zero, List.set_cons_succ]
    refine vj_bin (u := .bool false) rfl rfl rfl rfl (fun v => (neqDr _ _ m.d (0, 0) v).trans (by rw [decide_eq_true hd]; rfl)) ?_
    simp only [Act.put, List.setIfInBounds_toArray, List.set_cons_zero, List.set_cons_succ]
    refine vj_valC (u := .bool false) (by kernel_rfl) (fun v hv => by kernel_rfl) ?_
    simp only [Act.put, List.setIfInBounds_toArray, List.set_cons_zero, List.set_cons_succ]
    refine vj_skip (by kernel_rfl) ?_
    simp only [Act.put, List.setIfInBounds_toArray, List.set_cons_zero, List.set_cons_succ]
    refine vj_skip (by kernel_rfl) ?_
    simp only [Act.put, List.setIfInBounds_toArray, List.set_cons_zero, List.set_cons_succ]
    refine vj_skip (by kernel_rfl) ?_
    simp only [Act.put, List.setIfInBounds_toArray, List.set_cons_zero, List.set_cons_succ]
    refine vj_skip (by kernel_rfl) ?_
    simp only [Act.put, List.setIfInBounds_toArray, List.set_cons_zero, List.set_cons_succ]
    refine vj_skip (by kernel_rfl) ?_
    simp only [Act.put, List.setIfInBounds_toArray, List.set_cons_zero, List.set_cons_succ]
    refine vj_skip (by kernel_rfl) ?_
    simp only [Act.put, List.setIfInBounds_toArray, List.set_cons_zero, List.set_cons_succ]
    refine vj_skip (by kernel_rfl) ?_
    simp only [Act.put, List.setIfInBounds_toArray, List.set_cons_zero, List.set_cons_succ]
    refine vj_valC (u := .bool false) (by kernel_rfl) (fun v hv => by kernel_rfl) ?_
    simp only [Act.put, List.setIfInBounds_toArray, List.set_cons_zero, List.set_cons_succ]
    refine vj_valC (u := .bool false) (by kernel_rfl) (fun v hv => by kernel_rfl) ?_
    simp only [Act.put, List.setIfInBounds_toArray, List.set_cons_zero, List.set_cons_succ]
    refine vj_skip (by kernel_rfl) ?_
    simp only [Act.put, List.setIfInBounds_toArray, List.set_cons_zero, List.set_cons_succ]
    refine vj_skip (by kernel_rfl) ?_
    simp only [Act.put, List.setIfInBounds_toArray, List.set_cons_zero, List.set_cons_succ]
    refine vj_skip (by kernel_rfl) ?_
    simp only [Act.put, List.setIfInBounds_toArray, List.set_cons_zero, List.set_cons_succ]
    refine vj_skip (by kernel_rfl) ?_
    simp only [Act.put, List.setIfInBounds_toArray, List.set_cons_zero, List.set_cons_succ]
    refine vj_skip (by kernel_rfl) ?_
    simp only [Act.put, List.setIfInBounds_toArray, List.set_cons_zero, List.set_cons_succ]
    refine vj_skip (by kernel_rfl) ?_
    simp only [Act.put, List.setIfInBounds_toArray, List.set_cons_zero, List.set_cons_succ]
    refine vj_skip (by kernel_rfl) ?_
    simp only [Act.put, List.setIfInBounds_toArray, List.set_cons_zero, List.set_cons_succ]
    refine vj_skip (by kernel_rfl) ?_
    simp only [Act.put, List.setIfInBounds_toArray, List.set_cons_zero, List.set_cons_succ]
    refine vj_skip (by kernel_rfl) ?_
    simp only [Act.put, List.setIfInBounds_toArray, List.set_cons_zero, List.set_cons_succ]
    refine vj_valC (u := .bool false) (by kernel_rfl) (fun v hv => by kernel_rfl) ?_
    simp only [Act.put, List.setIfInBounds_toArray, List.set_cons_zero, List.set_cons_succ]
    refine vj_valC (u := .bool false) (by kernel_rfl) (fun v hv => by kernel_rfl) ?_
    simp only [Act.put, List.setIfInBounds_toArray, List.set_cons_zero, List.set_cons_succ]
    refine vq_nil (fun v hv => ?_)
    have BV := hide (HB.out.trans (hv.mono HB.out.size))
    clear hv
    go_wp2
    go_ret
    exact ⟨by rw [V.out]; rfl, BV.out⟩
  · by_cases hw : inR m.nd 0 ((nv : Int) - 1) = true
    · have WQ := hide hw
      obtain ⟨i, hi, hiv⟩ : ∃ i : Nat, m.nd = (i : Int) ∧ i < nv := by
        unfold inR at hw
        simp at hw
        exact ⟨m.nd.toNat, by omega, by omega⟩
      obtain ⟨dd, hdd⟩ : ∃ dd, D[i]? = some dd := ⟨_, List.getElem?_eq_getElem (by rw [hlen]; exact hiv)⟩
      obtain ⟨q2, o2, rfl, hqs, y0, y1⟩ := HS.out.dw hdd
      have V : Hid (owB m D = decide (m.d = dd)) := by
        show _ = _
        have hn : m.nd.toNat = i := by omega
        unfold owB
        rw [hlen, hw, hn, hdd]
        simp [hd, eq_comm]
      clear hw hdd
      go_enter Tryd.func23, Tryd.ntmps23
      go_upto_region 1 with (refine boxMk rfl (.tmp 1) rfl m _ _ rfl ?_; intro q1 w1 hq1 M1 b1 z1)
      have hB : Below w.heap.size w w1 := ((Below.refl _ _).alloc (Nat.le_refl _) _).trans (b1.mono (by simp))
      have HB := hide hB
      have c0 : w1.cell? ⟨w.heap.size, 0, none⟩ = some (.int .i64 f) := (b1.cell (p := ⟨w.heap.size, 0, none⟩) (by simp)).trans (by simp)
      have c1 : w1.cell? ⟨w.heap.size, 1, none⟩ = some (.int .i64 r) := (b1.cell (p := ⟨w.heap.size, 1, none⟩) (by simp)).trans (by simp)
      have hq2 : q1 = w.heap.size + 1 := by first | exact hq1 | simpa using hq1
      subst hq2
      have x1 := M1.cell 1 _ rfl
      have x17 := M1.cell 17 _ rfl
      have x14 := M1.cell 14 _ rfl
      have x15 := M1.cell 15 _ rfl
      have hz1 : w.heap.size + 1 < w1.heap.size := M1.lt
      have hqw : q2 < w1.heap.size := Nat.lt_of_lt_of_le hqs HB.out.size
      have Z0 := hide ((HB.out.cell (p := ⟨q2, o2 + i * 2, none⟩) hqs).trans y0)
      have Z1 := hide ((HB.out.cell (p := ⟨q2, o2 + i * 2 + 1, none⟩) hqs).trans y1)
      clear y0 y1
      clear M1 b1 z1 hB hq1
      go_wp2_with fail
      have X17 := hide x17
      have X1 := hide x1
      have X14 := hide x14
      have X15 := hide x15
      refine vq_start (C := fun v => Below w1.heap.size w1 v) (by kernel_rfl) (by kernel_rfl) (Below.refl _ _).drew ?_
      clear x17 x1 x14 x15 c1 c0
      refine vj_valC (u := .pointer (some ⟨w.heap.size + 1, 14, none⟩)) rfl (fun v hv => by go_simp) ?_
      simp only [Act.put, List.setIfInBounds_toArray, List.set_cons_zero, List.set_cons_succ]
      refine vj_valC (u := .agg #[.int .u64 m.d.1, .int .u64 m.d.2]) rfl (fun v hv => by have e := (hv.cell (p := ⟨w.heap.size + 1, 14, none⟩) hz1).trans X14.out; have e2 := (hv.cell (p := ⟨w.heap.size + 1, 15, none⟩) hz1).trans X15.out; go_simp) ?_
      simp only [Act.put, List.setIfInBounds_toArray, List.set_cons_zero, List.set_cons_succ]
      refine vj_valC (u := .agg #[.int .u64 0, .int .u64 0]) rfl (fun v hv => by go_simp) ?_
      simp only [Act.put, List.setIfInBounds_toArray, List.set_cons_zero, List.set_cons_succ]
      refine vj_bin (u := .bool true) rfl rfl rfl rfl (fun v => (neqDr _ _ m.d (0, 0) v).trans (by rw [decide_eq_false hd]; rfl)) ?_
      simp only [Act.put, List.setIfInBounds_toArray, List.set_cons_zero, List.set_cons_succ]
      refine vj_valC (u := .bool true) (by kernel_rfl) (fun v hv => by kernel_rfl) ?_
      simp only [Act.put, List.setIfInBounds_toArray, List.set_cons_zero, List.set_cons_succ]
      refine vj_valC (u := .pointer (some ⟨w.heap.size + 1, 1, none⟩)) rfl (fun v hv => by go_simp) ?_
      simp only [Act.put, List.setIfInBounds_toArray, List.set_cons_zero, List.set_cons_succ]
      refine vj_valC (u := .int .i64 m.nd) rfl (fun v hv => by have e := (hv.cell (p := ⟨w.heap.size + 1, 1, none⟩) hz1).trans X1.out; go_simp) ?_
      simp only [Act.put, List.setIfInBounds_toArray, List.set_cons_zero, List.set_cons_succ]
      refine vj_valC (u := .pointer (some ⟨w.heap.size + 1, 17, none⟩)) rfl (fun v hv => by go_simp) ?_
      simp only [Act.put, List.setIfInBounds_toArray, List.set_cons_zero, List.set_cons_succ]
      refine vj_valC (u := .slice (some ⟨q2, o2, none⟩) nv cv) rfl (fun v hv => by have e := (hv.cell (p := ⟨w.heap.size + 1, 17, none⟩) hz1).trans X17.out; go_simp) ?_
      simp only [Act.put, List.setIfInBounds_toArray, List.set_cons_zero, List.set_cons_succ]
      refine vj_valC (u := .int .i64 (nv : Int)) rfl (fun v hv => by go_simp) ?_
      simp only [Act.put, List.setIfInBounds_toArray, List.set_cons_zero, List.set_cons_succ]
      refine vj_valC (u := .int .i64 ((nv : Int) - 1)) rfl (fun v hv => by have e := wrp; go_simp; try exact e) ?_
      simp only [Act.put, List.setIfInBounds_toArray, List.set_cons_zero, List.set_cons_succ]
      refine vj_call (u := .bool true) (fid := 40) (args := #[.int .i64 m.nd, .int .i64 0, .int .i64 ((nv : Int) - 1)]) rfl (fun v => by unfold execOp; simp only [resolve, invoke, Sem.run_bind, List.map_toArray, List.map_cons, List.map_nil]; rfl) (fun v hv => (withinM_any m.nd 0 ((nv : Int) - 1) v).mono (fun e v' h => ⟨h.1.trans (by rw [WQ.out]), by rw [h.2]; exact hv⟩)) ?_
      simp only [Act.put, List.setIfInBounds_toArray, List.set_cons_zero, List.set_cons_succ]
      refine vj_valC (u := .bool true) (by kernel_rfl) (fun v hv => by kernel_rfl) ?_
      simp only [Act.put, List.setIfInBounds_toArray, List.set_cons_zero, List.set_cons_succ]
      refine vj_valC (u := .bool true) (by kernel_rfl) (fun v hv => by kernel_rfl) ?_
      simp only [Act.put, List.setIfInBounds_toArray, List.set_cons_zero, List.set_cons_succ]
      refine vj_valC (u := .pointer (some ⟨w.heap.size + 1, 14, none⟩)) rfl (fun v hv => by go_simp) ?_
      simp only [Act.put, List.setIfInBounds_toArray, List.set_cons_zero, List.set_cons_succ]
      refine vj_valC (u := .agg #[.int .u64 m.d.1, .int .u64 m.d.2]) rfl (fun v hv => by have e := (hv.cell (p := ⟨w.heap.size + 1, 14, none⟩) hz1).trans X14.out; have e2 := (hv.cell (p := ⟨w.heap.size + 1, 15, none⟩) hz1).trans X15.out; go_simp) ?_
      simp only [Act.put, List.setIfInBounds_toArray, List.set_cons_zero, List.set_cons_succ]
      refine vj_valC (u := .pointer (some ⟨w.heap.size + 1, 17, none⟩)) rfl (fun v hv => by go_simp) ?_
      simp only [Act.put, List.setIfInBounds_toArray, List.set_cons_zero, List.set_cons_succ]
      refine vj_valC (u := .slice (some ⟨q2, o2, none⟩) nv cv) rfl (fun v hv => by have e := (hv.cell (p := ⟨w.heap.size + 1, 17, none⟩) hz1).trans X17.out; go_simp) ?_
      simp only [Act.put, List.setIfInBounds_toArray, List.set_cons_zero, List.set_cons_succ]
      refine vj_valC (u := .pointer (some ⟨w.heap.size + 1, 1, none⟩)) rfl (fun v hv => by go_simp) ?_
      simp only [Act.put, List.setIfInBounds_toArray, List.set_cons_zero, List.set_cons_succ]
      refine vj_valC (u := .int .i64 (i : Int)) rfl (fun v hv => by have e := (hv.cell (p := ⟨w.heap.size + 1, 1, none⟩) hz1).trans X1.out; rw [hi] at e; go_simp) ?_
      simp only [Act.put, List.setIfInBounds_toArray, List.set_cons_zero, List.set_cons_succ]
      refine vj_valC (u := .pointer (some ⟨q2, o2 + i * 2, none⟩)) rfl (fun v hv => by go_simp) ?_
      simp only [Act.put, List.setIfInBounds_toArray, List.set_cons_zero, List.set_cons_succ]
      refine vj_valC (u := .agg #[.int .u64 dd.1, .int .u64 dd.2]) rfl (fun v hv => by have e := (hv.cell (p := ⟨q2, o2 + i * 2, none⟩) hqw).trans Z0.out; have e2 := (hv.cell (p := ⟨q2, o2 + i * 2 + 1, none⟩) hqw).trans Z1.out; go_simp) ?_
      simp only [Act.put, List.setIfInBounds_toArray, List.set_cons_zero, List.set_cons_succ]
      refine vj_bin (u := .bool (decide (m.d = dd))) rfl rfl rfl rfl (fun v => eqlDr _ _ m.d dd v) ?_
      simp only [Act.put, List.setIfInBounds_toArray, List.set_cons_zero, List.set_cons_succ]
      refine vj_valC (u := .bool (decide (m.d = dd))) (by kernel_rfl) (fun v hv => by kernel_rfl) ?_
      simp only [Act.put, List.setIfInBounds_toArray, List.set_cons_zero, List.set_cons_succ]
      refine vj_valC (u := .bool (decide (m.d = dd))) (by kernel_rfl) (fun v hv => by kernel_rfl) ?_
      simp only [Act.put, List.setIfInBounds_toArray, List.set_cons_zero, List.set_cons_succ]
      refine vq_nil (fun v hv => ?_)
      have BV := hide (HB.out.trans (hv.mono HB.out.size))
      clear hv
      go_wp2
      go_ret
      exact ⟨by rw [V.out]; rfl, BV.out⟩
    · have hw' : inR m.nd 0 ((nv : Int) - 1) = false := by simpa using hw
      have WQ := hide hw'
      have V : Hid (owB m D = false) := by
        show _ = _
        unfold owB
        rw [hlen, hw']
        simp
      clear hw hw'
      go_enter Tryd.func23, Tryd.ntmps23
      go_upto_region 1 with (refine boxMk rfl (.tmp 1) rfl m _ _ rfl ?_; intro q1 w1 hq1 M1 b1 z1)
      have hB : Below w.heap.size w w1 := ((Below.refl _ _).alloc (Nat.le_refl _) _).trans (b1.mono (by simp))
      have HB := hide hB
      have c0 : w1.cell? ⟨w.heap.size, 0, none⟩ = some (.int .i64 f) := (b1.cell (p := ⟨w.heap.size, 0, none⟩) (by simp)).trans (by simp)
      have c1 : w1.cell? ⟨w.heap.size, 1, none⟩ = some (.int .i64 r) := (b1.cell (p := ⟨w.heap.size, 1, none⟩) (by simp)).trans (by simp)
      have hq2 : q1 = w.heap.size + 1 := by first | exact hq1 | simpa using hq1
      subst hq2
      have x1 := M1.cell 1 _ rfl
      have x17 := M1.cell 17 _ rfl
      have x14 := M1.cell 14 _ rfl
      have x15 := M1.cell 15 _ rfl
      have hz1 : w.heap.size + 1 < w1.heap.size := M1.lt
      clear M1 b1 z1 hB hq1
      go_wp2_with fail
      have X17 := hide x17
      have X1 := hide x1
      have X14 := hide x14
      have X15 := hide x15
      refine vq_start (C := fun v => Below w1.heap.size w1 v) (by kernel_rfl) (by kernel_rfl) (Below.refl _ _).drew ?_
      clear x17 x1 x14 x15 c1 c0
      refine vj_valC (u := .pointer (some ⟨w.heap.size + 1, 14, none⟩)) rfl (fun v hv => by go_simp) ?_
      simp only [Act.put, List.setIfInBounds_toArray, List.set_cons_zero, List.set_cons_succ]
      refine vj_valC (u := .agg #[.int .u64 m.d.1, .int .u64 m.d.2]) rfl (fun v hv => by have e := (hv.cell (p := ⟨w.heap.size + 1, 14, none⟩) hz1).trans X14.out; have e2 := (hv.cell (p := ⟨w.heap.size + 1, 15, none⟩) hz1).trans X15.out; go_simp) ?_
      simp only [Act.put, List.setIfInBounds_toArray, List.set_cons_zero, List.set_cons_succ]
      refine vj_valC (u := .agg #[.int .u64 0, .int .u64 0]) rfl (fun v hv => by go_simp) ?_
      simp only [Act.put, List.setIfInBounds_toArray, List.set_cons_zero, List.set_cons_succ]
      refine vj_bin (u := .bool true) rfl rfl rfl rfl (fun v => (neqDr _ _ m.d (0, 0) v).trans (by rw [decide_eq_false hd]; rfl)) ?_
      simp only [Act.put, List.setIfInBounds_toArray, List.set_cons_zero, List.set_cons_succ]
      refine vj_valC (u := .bool true) (by kernel_rfl) (fun v hv => by kernel_rfl) ?_
      simp only [Act.put, List.setIfInBounds_toArray, List.set_cons_zero, List.set_cons_succ]
      refine vj_valC (u := .pointer (some ⟨w.heap.size + 1, 1, none⟩)) rfl (fun v hv => by go_simp) ?_
      simp only [Act.put, List.setIfInBounds_toArray, List.set_cons_zero, List.set_cons_succ]
      refine vj_valC (u := .int .i64 m.nd) rfl (fun v hv => by have e := (hv.cell (p := ⟨w.heap.size + 1, 1, none⟩) hz1).trans X1.out; go_simp) ?_
      simp only [Act.put, List.setIfInBounds_toArray, List.set_cons_zero, List.set_cons_succ]
      refine vj_valC (u := .pointer (some ⟨w.heap.size + 1, 17, none⟩)) rfl (fun v hv => by go_simp) ?_
      simp only [Act.put, List.setIfInBounds_toArray, List.set_cons_zero, List.set_cons_succ]
      refine vj_valC (u := .slice a2 nv cv) rfl (fun v hv => by have e := (hv.cell (p := ⟨w.heap.size + 1, 17, none⟩) hz1).trans X17.out; go_simp) ?_
      simp only [Act.put, List.setIfInBounds_toArray, List.set_cons_zero, List.set_cons_succ]
      refine vj_valC (u := .int .i64 (nv : Int)) rfl (fun v hv => by go_simp) ?_
      simp only [Act.put, List.setIfInBounds_toArray, List.set_cons_zero, List.set_cons_succ]
      refine vj_valC (u := .int .i64 ((nv : Int) - 1)) rfl (fun v hv => by have e := wrp; go_simp; try exact e) ?_
      simp only [Act.put, List.setIfInBounds_toArray, List.set_cons_zero, List.set_cons_succ]
      refine vj_call (u := .bool false) (fid := 40) (args := #[.int .i64 m.nd, .int .i64 0, .int .i64 ((nv : Int) - 1)]) rfl (fun v => by unfold execOp; simp only [resolve, invoke, Sem.run_bind, List.map_toArray, List.map_cons, List.map_nil]; rfl) (fun v hv => (withinM_any m.nd 0 ((nv : Int) - 1) v).mono (fun e v' h => ⟨h.1.trans (by rw [WQ.out]), by rw [h.2]; exact hv⟩)) ?_
      simp only [Act.put, List.setIfInBounds_toArray, List.set_cons_zero, List.set_cons_succ]
      refine vj_valC (u := .bool false) (by kernel_rfl) (fun v hv => by kernel_rfl) ?_
      simp only [Act.put, List.setIfInBounds_toArray, List.set_cons_zero, List.set_cons_succ]
      refine vj_valC (u := .bool false) (by kernel_rfl) (fun v hv => by kernel_rfl) ?_
      simp only [Act.put, List.setIfInBounds_toArray, List.set_cons_zero, List.set_cons_succ]
      refine vj_skip (by kernel_rfl) ?_
      simp only [Act.put, List.setIfInBounds_toArray, List.set_cons_zero, List.set_cons_succ]
      refine vj_skip (by kernel_rfl) ?_
      simp only [Act.put, List.setIfInBounds_toArray, List.set_cons_zero, List.set_cons_succ]
      refine vj_skip (by kernel_rfl) ?_
      simp only [Act.put, List.setIfInBounds_toArray, List.set_cons_zero, List.set_cons_succ]
      refine vj_skip (by kernel_rfl) ?_
      simp only [Act.put, List.setIfInBounds_toArray, List.set_cons_zero, List.set_cons_succ]
      refine vj_skip (by kernel_rfl) ?_
      simp only [Act.put, List.setIfInBounds_toArray, List.set_cons_zero, List.set_cons_succ]
      refine vj_skip (by kernel_rfl) ?_
      simp only [Act.put, List.setIfInBounds_toArray, List.set_cons_zero, List.set_cons_succ]
      refine vj_skip (by kernel_rfl) ?_
      simp only [Act.put, List.setIfInBounds_toArray, List.set_cons_zero, List.set_cons_succ]
      refine vj_skip (by kernel_rfl) ?_
      simp only [Act.put, List.setIfInBounds_toArray, List.set_cons_zero, List.set_cons_succ]
      refine vj_skip (by kernel_rfl) ?_
      simp only [Act.put, List.setIfInBounds_toArray, List.set_cons_zero, List.set_cons_succ]
      refine vj_valC (u := .bool false) (by kernel_rfl) (fun v hv => by kernel_rfl) ?_
      simp only [Act.put, List.setIfInBounds_toArray, List.set_cons_zero, List.set_cons_succ]
      refine vj_valC (u := .bool false) (by kernel_rfl) (fun v hv => by kernel_rfl) ?_
      simp only [Act.put, List.setIfInBounds_toArray, List.set_cons_zero, List.set_cons_succ]
      refine vq_nil (fun v hv => ?_)
      have BV := hide (HB.out.trans (hv.mono HB.out.size))
      clear hv
      go_wp2
      go_ret
      exact ⟨by rw [V.out]; rfl, BV.out⟩
def keepB (f r : Int) (m : Mg) (L : List En) (D : List (Int × Int)) (j : Nat) (q : Nat) : Bool :=
  match q with
  | 0 => blB m L.length D.length j
  | 1 => inR m.nd 0 (2 * f)
  | 2 => prB f m
  | 3 => inR m.vw 0 4294967296
  | 4 => inR m.vw 1 4294967296
  | 5 => decide (0 ≤ m.ls) && decide (m.ls < m.vw)
  | 6 => inR m.p 0 r
  | 7 => inR m.p 1 r
  | 8 => apB m.p m.r.1 r
  | 9 => inR m.cm 0 r
  | 10 => inR m.cm 0 (L.length : Int)
  | 11 => !decide (m.d = (0, 0))
  | 12 => owB m D
  | 13 => decide ((chk [m.e] 1).1 = 0)
  | 14 => decide ((chk [m.e] 1).1 = 0) && (decide (m.e.o.k = 3) || decide (m.e.o.k = 4))
  | 15 => nmB m.e
  | 16 => resB m.r.1 m.r.2.1 m.r.2.2
  | 17 => resB m.r.1 m.r.2.1 m.r.2.2 && rdB m.r.1
  | 18 => decide ((chk L r).1 = 0)
  | 19 => plB f r m L
  | 20 => decide ((D.length : Int) = 2 * f + 1)
  | _ => false
theorem keeps_all (f r p : Int) (u : Bool) (m : Mg) (a1 a2 : Option Addr) (cl cv : Nat) (L : List En) (D : List (Int × Int)) (j q : Nat) (hj : j < 10) (hq : q < 21) (w : World) (hf1 : 1 ≤ f) (hf2 : f ≤ 3) (h1 : SlY yE w a1 L.length cl L) (hfit : ∀ e ∈ L, e.fits) (h2 : SlY yD w a2 D.length cv D) (hfe : m.e.fits) :
    Calls Tryd.prog 23 #[.agg #[.int .i64 f, .int .i64 r, .int .i64 p, .bool u], m.val (.slice a1 L.length cl) (.slice a2 D.length cv), .int .i64 (j : Int), .int .u8 (q : Int)] w fun e w' => e = .returned (.bool (keepB f r m L D j q)) ∧ Below w.heap.size w w' := by
  match q, hq with
  | 0, _ => exact keeps_0 f r p u m a1 a2 _ cl _ cv j w hf1 hf2 hj
  | 1, _ => exact keeps_1 f r p u m a1 a2 _ cl _ cv _ w hf1 hf2
  | 2, _ => exact keeps_2 f r p u m a1 a2 _ cl _ cv _ w hf1 hf2
  | 3, _ => exact keeps_3 f r p u m a1 a2 _ cl _ cv _ w hf1 hf2
  | 4, _ => exact keeps_4 f r p u m a1 a2 _ cl _ cv _ w hf1 hf2
  | 5, _ => exact keeps_5 f r p u m a1 a2 _ cl _ cv _ w hf1 hf2
  | 6, _ => exact keeps_6 f r p u m a1 a2 _ cl _ cv _ w hf1 hf2
  | 7, _ => exact keeps_7 f r p u m a1 a2 _ cl _ cv _ w hf1 hf2
  | 8, _ => exact keeps_8 f r p u m a1 a2 _ cl _ cv _ w hf1 hf2
  | 9, _ => exact keeps_9 f r p u m a1 a2 _ cl _ cv _ w hf1 hf2
  | 10, _ => exact keeps_10 f r p u m a1 a2 _ cl _ cv _ w hf1 hf2
  | 11, _ => exact keeps_11 f r p u m a1 a2 _ cl _ cv _ w hf1 hf2
  | 12, _ => exact keeps_12 f r p u m a1 a2 _ cl _ cv _ w hf1 hf2 D h2
  | 13, _ => exact keeps_13 f r p u m a1 a2 _ cl _ cv _ w hf1 hf2 hfe
  | 14, _ => exact keeps_14 f r p u m a1 a2 _ cl _ cv _ w hf1 hf2 hfe
  | 15, _ => exact keeps_15 f r p u m a1 a2 _ cl _ cv _ w hf1 hf2 hfe
  | 16, _ => exact keeps_16 f r p u m a1 a2 _ cl _ cv _ w hf1 hf2
  | 17, _ => exact keeps_17 f r p u m a1 a2 _ cl _ cv _ w hf1 hf2
  | 18, _ => exact keeps_18 f r p u m a1 a2 _ cl _ cv _ w hf1 hf2 L h1 hfit
  | 19, _ => exact keeps_19 f r p u m a1 a2 _ cl _ cv _ w hf1 hf2 L h1 hfit
  | 20, _ => exact keeps_20 f r p u m a1 a2 _ cl _ cv _ w hf1 hf2
  | (n + 21), hn => exact absurd hn (by omega)
def tabR : List (List Nat) := [[0, 0, 0, 0, 0, 0, 0, 0, 0, 0], [0, 0, 0, 0, 0, 0, 13, 0, 0, 0], [1, 3, 0, 8, 0, 0, 15, 16, 0, 0], [2, 3, 0, 7, 9, 0, 13, 0, 0, 20], [1, 3, 0, 6, 0, 0, 0, 0, 0, 20], [2, 3, 0, 0, 9, 0, 0, 0, 0, 20], [1, 4, 0, 0, 0, 0, 0, 0, 0, 20], [1, 4, 5, 0, 10, 0, 0, 0, 18, 20], [2, 4, 0, 0, 10, 0, 0, 0, 18, 20], [1, 0, 0, 0, 0, 12, 0, 0, 0, 20], [1, 3, 0, 0, 10, 11, 0, 0, 19, 20], [1, 3, 0, 0, 0, 0, 0, 0, 0, 20], [1, 3, 0, 0, 10, 0, 0, 0, 18, 20], [0, 0, 0, 6, 0, 0, 14, 0, 0, 0], [1, 3, 0, 0, 9, 0, 15, 17, 0, 0]]
def tabA (k j : Nat) : Nat := ((tabR[k]?).getD []).getD j 0
theorem tabA_lt : ∀ k, k < 15 → ∀ j, j < 10 → tabA k j < 21 := by decide
def ckM (c : Cf) (m : Mg) (L : List En) (D : List (Int × Int)) : Int := if cfB c = false then 1 else if kdB m.k = false then 70 else if (List.range 10).all (fun j => keepB c.f c.r m L D j (tabA m.k.toNat j)) then 0 else 71
structure Tab (w : World) : Prop where
  lt : 0 < w.heap.size
  cell : ∀ k j, k < 15 → j < 10 → w.cell? ⟨0, k * 10 + j, none⟩ = some (.int .u8 (tabA k j : Int))
theorem Tab.later {w w' : World} (h : Tab w) {B : Nat} (hb : Below B w w') (hB : 0 < B) : Tab w' :=
  ⟨Nat.lt_of_lt_of_le h.lt hb.size, fun k j hk hj => (hb.cell (p := ⟨0, k * 10 + j, none⟩) hB).trans (h.cell k j hk hj)⟩
theorem cfB_f {c : Cf} (h : cfB c = true) : 1 ≤ c.f ∧ c.f ≤ 3 := by
  unfold cfB inR at h
  simp at h
  omega
theorem rowIx0 (v0 v1 v2 v3 v4 v5 v6 v7 v8 v9 : Int) (w : World) : Sem.run Tryd.prog (Instr.index 71 (.agg #[.int .u8 v0, .int .u8 v1, .int .u8 v2, .int .u8 v3, .int .u8 v4, .int .u8 v5, .int .u8 v6, .int .u8 v7, .int .u8 v8, .int .u8 v9]) (.int .i64 0)) w = .ok (.int .u8 v0) w := by kernel_rfl
theorem rowIx1 (v0 v1 v2 v3 v4 v5 v6 v7 v8 v9 : Int) (w : World) : Sem.run Tryd.prog (Instr.index 71 (.agg #[.int .u8 v0, .int .u8 v1, .int .u8 v2, .int .u8 v3, .int .u8 v4, .int .u8 v5, .int .u8 v6, .int .u8 v7, .int .u8 v8, .int .u8 v9]) (.int .i64 1)) w = .ok (.int .u8 v1) w := by kernel_rfl
theorem rowIx2 (v0 v1 v2 v3 v4 v5 v6 v7 v8 v9 : Int) (w : World) : Sem.run Tryd.prog (Instr.index 71 (.agg #[.int .u8 v0, .int .u8 v1, .int .u8 v2, .int .u8 v3, .int .u8 v4, .int .u8 v5, .int .u8 v6, .int .u8 v7, .int .u8 v8, .int .u8 v9]) (.int .i64 2)) w = .ok (.int .u8 v2) w := by kernel_rfl
theorem rowIx3 (v0 v1 v2 v3 v4 v5 v6 v7 v8 v9 : Int) (w : World) : Sem.run Tryd.prog (Instr.index 71 (.agg #[.int .u8 v0, .int .u8 v1, .int .u8 v2, .int .u8 v3, .int .u8 v4, .int .u8 v5, .int .u8 v6, .int .u8 v7, .int .u8 v8, .int .u8 v9]) (.int .i64 3)) w = .ok (.int .u8 v3) w := by kernel_rfl
theorem rowIx4 (v0 v1 v2 v3 v4 v5 v6 v7 v8 v9 : Int) (w : World) : Sem.run Tryd.prog (Instr.index 71 (.agg #[.int .u8 v0, .int .u8 v1, .int .u8 v2, .int .u8 v3, .int .u8 v4, .int .u8 v5, .int .u8 v6, .int .u8 v7, .int .u8 v8, .int .u8 v9]) (.int .i64 4)) w = .ok (.int .u8 v4) w := by kernel_rfl
theorem rowIx5 (v0 v1 v2 v3 v4 v5 v6 v7 v8 v9 : Int) (w : World) : Sem.run Tryd.prog (Instr.index 71 (.agg #[.int .u8 v0, .int .u8 v1, .int .u8 v2, .int .u8 v3, .int .u8 v4, .int .u8 v5, .int .u8 v6, .int .u8 v7, .int .u8 v8, .int .u8 v9]) (.int .i64 5)) w = .ok (.int .u8 v5) w := by kernel_rfl
theorem rowIx6 (v0 v1 v2 v3 v4 v5 v6 v7 v8 v9 : Int) (w : World) : Sem.run Tryd.prog (Instr.index 71 (.agg #[.int .u8 v0, .int .u8 v1, .int .u8 v2, .int .u8 v3, .int .u8 v4, .int .u8 v5, .int .u8 v6, .int .u8 v7, .int .u8 v8, .int .u8 v9]) (.int .i64 6)) w = .ok (.int .u8 v6) w := by kernel_rfl
theorem rowIx7 (v0 v1 v2 v3 v4 v5 v6 v7 v8 v9 : Int) (w : World) : Sem.run Tryd.prog (Instr.index 71 (.agg #[.int .u8 v0, .int .u8 v1, .int .u8 v2, .int .u8 v3, .int .u8 v4, .int .u8 v5, .int .u8 v6, .int .u8 v7, .int .u8 v8, .int .u8 v9]) (.int .i64 7)) w = .ok (.int .u8 v7) w := by kernel_rfl
theorem rowIx8 (v0 v1 v2 v3 v4 v5 v6 v7 v8 v9 : Int) (w : World) : Sem.run Tryd.prog (Instr.index 71 (.agg #[.int .u8 v0, .int .u8 v1, .int .u8 v2, .int .u8 v3, .int .u8 v4, .int .u8 v5, .int .u8 v6, .int .u8 v7, .int .u8 v8, .int .u8 v9]) (.int .i64 8)) w = .ok (.int .u8 v8) w := by kernel_rfl
theorem rowIx9 (v0 v1 v2 v3 v4 v5 v6 v7 v8 v9 : Int) (w : World) : Sem.run Tryd.prog (Instr.index 71 (.agg #[.int .u8 v0, .int .u8 v1, .int .u8 v2, .int .u8 v3, .int .u8 v4, .int .u8 v5, .int .u8 v6, .int .u8 v7, .int .u8 v8, .int .u8 v9]) (.int .i64 9)) w = .ok (.int .u8 v9) w := by kernel_rfl
theorem rowIx (k j : Nat) (hj : j < 10) (w : World) : Sem.run Tryd.prog (Instr.index 71 (.agg #[.int .u8 (tabA k 0 : Int), .int .u8 (tabA k 1 : Int), .int .u8 (tabA k 2 : Int), .int .u8 (tabA k 3 : Int), .int .u8 (tabA k 4 : Int), .int .u8 (tabA k 5 : Int), .int .u8 (tabA k 6 : Int), .int .u8 (tabA k 7 : Int), .int .u8 (tabA k 8 : Int), .int .u8 (tabA k 9 : Int)]) (.int .i64 (j : Int))) w = .ok (.int .u8 (tabA k j : Int)) w := by
  match j, hj with
  | 0, _ => exact rowIx0 _ _ _ _ _ _ _ _ _ _ w
  | 1, _ => exact rowIx1 _ _ _ _ _ _ _ _ _ _ w
  | 2, _ => exact rowIx2 _ _ _ _ _ _ _ _ _ _ w
  | 3, _ => exact rowIx3 _ _ _ _ _ _ _ _ _ _ w
  | 4, _ => exact rowIx4 _ _ _ _ _ _ _ _ _ _ w
  | 5, _ => exact rowIx5 _ _ _ _ _ _ _ _ _ _ w
  | 6, _ => exact rowIx6 _ _ _ _ _ _ _ _ _ _ w
  | 7, _ => exact rowIx7 _ _ _ _ _ _ _ _ _ _ w
  | 8, _ => exact rowIx8 _ _ _ _ _ _ _ _ _ _ w
  | 9, _ => exact rowIx9 _ _ _ _ _ _ _ _ _ _ w
set_option maxRecDepth 100000 in
set_option maxHeartbeats 4000000 in
theorem checkM_any (c : Cf) (m : Mg) (a1 a2 : Option Addr) (cl cv : Nat) (L : List En) (D : List (Int × Int)) (w : World) (hT : Tab w) (h1 : SlY yE w a1 L.length cl L) (hfit : ∀ e ∈ L, e.fits) (h2 : SlY yD w a2 D.length cv D) (hfe : m.e.fits) :
    Calls Tryd.prog 9 #[c.val, m.val (.slice a1 L.length cl) (.slice a2 D.length cv)] w fun e w' => e = .returned (.int .i64 (ckM c m L D)) ∧ Below w.heap.size w w' := by
  have HT := hide hT
  have H1 := hide h1
  have H2 := hide h2
  have H0 := hT.lt
  clear hT h1 h2
  have HC := hide (fun W => configMayBe_any c W)
  have HV : Hid (c.val = .agg #[.int .i64 c.f, .int .i64 c.r, .int .i64 c.p, .bool c.u]) := rfl
  rw [HV.out] at HC ⊢
  by_cases hc : cfB c = true
  · obtain ⟨hf1, hf2⟩ := cfB_f hc
    by_cases hk : kdB m.k = true
    · obtain ⟨k, hkk, hk1, hk2⟩ : ∃ k : Nat, m.k = (k : Int) ∧ 1 ≤ k ∧ k < 15 := by
        unfold kdB inR at hk
        simp at hk
        exact ⟨m.k.toNat, by omega, by omega, by omega⟩
      have V : Hid (ckM c m L D = if (List.range 10).all (fun j => keepB c.f c.r m L D j (tabA k j)) then 0 else 71) := by
        show _ = _
        unfold ckM
        rw [hc, hk, hkk]
        simp
      have HK := hide (fun W => isKind_any m.k W)
      rw [hk, hkk] at HK
      rw [hc] at HC
      clear hk hc
      go_enter Tryd.func9, Tryd.ntmps9
      go_wp2_with (refine boxMk rfl (.tmp 1) rfl m _ _ rfl ?_; intro q1 w1 hq1 M1 b1 z1; have c0 : w1.cell? ⟨w.heap.size, 0, none⟩ = some (.int .i64 c.f) := (b1.cell (p := ⟨w.heap.size, 0, none⟩) (by simp)).trans (by simp); have c1 : w1.cell? ⟨w.heap.size, 1, none⟩ = some (.int .i64 c.r) := (b1.cell (p := ⟨w.heap.size, 1, none⟩) (by simp)).trans (by simp); have c2 : w1.cell? ⟨w.heap.size, 2, none⟩ = some (.int .i64 c.p) := (b1.cell (p := ⟨w.heap.size, 2, none⟩) (by simp)).trans (by simp); have c3 : w1.cell? ⟨w.heap.size, 3, none⟩ = some (.bool c.u) := (b1.cell (p := ⟨w.heap.size, 3, none⟩) (by simp)).trans (by simp))
      have hq2 : q1 = w.heap.size + 1 := by first | exact hq1 | simpa using hq1
      subst hq2
      have hB1 : Below w.heap.size w w1 := ((Below.refl _ _).alloc (Nat.le_refl _) _).trans (b1.mono (by simp))
      refine (HC.out w1).mono ?_
      rintro e w2 ⟨rfl, b2⟩
      have hs2 : w1.heap.size ≤ w2.heap.size := b2.size
      have g0 := (b2.cell (p := ⟨w.heap.size, 0, none⟩) (by show w.heap.size < w1.heap.size; omega)).trans c0
      have g1 := (b2.cell (p := ⟨w.heap.size, 1, none⟩) (by show w.heap.size < w1.heap.size; omega)).trans c1
      have g2 := (b2.cell (p := ⟨w.heap.size, 2, none⟩) (by show w.heap.size < w1.heap.size; omega)).trans c2
      have g3 := (b2.cell (p := ⟨w.heap.size, 3, none⟩) (by show w.heap.size < w1.heap.size; omega)).trans c3
      have M2 := M1.bel b2
      have B2 := hide (hB1.trans (b2.mono (by omega)))
      have x0 : w2.cell? ⟨w.heap.size + 1, 0, none⟩ = some (.int .i64 (k : Int)) := by rw [← hkk]; exact M2.cell 0 _ rfl
      have HM := hide M2
      have HKK := hide hkk
      clear hkk
      have hz1 := z1
      clear c0 c1 c2 c3 M1 b1 M2 hB1 b2 hq1 z1
      have HZ := hide hz1
      have HS2 := hide hs2
      clear hz1 hs2
      dsimp only
      go_wp2_with fail
      refine (HK.out _).mono ?_
      rintro e w3 ⟨rfl, rfl⟩
      have T2 := HT.out.later B2.out H0
      have y0 : w3.cell? ⟨0, k * 10, none⟩ = some (.int .u8 (tabA k 0 : Int)) := T2.cell k 0 hk2 (by omega)
      have y1 : w3.cell? ⟨0, k * 10 + 1, none⟩ = some (.int .u8 (tabA k 1 : Int)) := T2.cell k 1 hk2 (by omega)
      have y2 : w3.cell? ⟨0, k * 10 + 2, none⟩ = some (.int .u8 (tabA k 2 : Int)) := T2.cell k 2 hk2 (by omega)
      have y3 : w3.cell? ⟨0, k * 10 + 3, none⟩ = some (.int .u8 (tabA k 3 : Int)) := T2.cell k 3 hk2 (by omega)
      have y4 : w3.cell? ⟨0, k * 10 + 4, none⟩ = some (.int .u8 (tabA k 4 : Int)) := T2.cell k 4 hk2 (by omega)
      have y5 : w3.cell? ⟨0, k * 10 + 5, none⟩ = some (.int .u8 (tabA k 5 : Int)) := T2.cell k 5 hk2 (by omega)
      have y6 : w3.cell? ⟨0, k * 10 + 6, none⟩ = some (.int .u8 (tabA k 6 : Int)) := T2.cell k 6 hk2 (by omega)
      have y7 : w3.cell? ⟨0, k * 10 + 7, none⟩ = some (.int .u8 (tabA k 7 : Int)) := T2.cell k 7 hk2 (by omega)
      have y8 : w3.cell? ⟨0, k * 10 + 8, none⟩ = some (.int .u8 (tabA k 8 : Int)) := T2.cell k 8 hk2 (by omega)
      have y9 : w3.cell? ⟨0, k * 10 + 9, none⟩ = some (.int .u8 (tabA k 9 : Int)) := T2.cell k 9 hk2 (by omega)
      have HT2 := hide T2
      clear T2
      dsimp only
      go_wp2_with fail
      have HMk := hide hk2
      clear hk1 x0 y0 y1 y2 y3 y4 y5 y6 y7 y8 y9
      go_loopw [20] (fun i wr => ∃ j : Nat, i = .int .i64 (j : Int) ∧ j ≤ 10 ∧ (∀ t, t < j → keepB c.f c.r m L D t (tabA k t) = true) ∧ Below w.heap.size w wr ∧ MBox wr (w.heap.size + 1) m (.slice a1 L.length cl) (.slice a2 D.length cv) ∧ wr.cell? ⟨w.heap.size, 0, none⟩ = some (.int .i64 c.f) ∧ wr.cell? ⟨w.heap.size, 1, none⟩ = some (.int .i64 c.r) ∧ wr.cell? ⟨w.heap.size, 2, none⟩ = some (.int .i64 c.p) ∧ wr.cell? ⟨w.heap.size, 3, none⟩ = some (.bool c.u)) (fun i _ => 10 - (intOf i).toNat)
      case atStart => exact ⟨0, rfl, by omega, fun t ht => absurd ht (by omega), B2.out, HM.out, g0, g1, g2, g3⟩
      case round =>
        clear g0 g1 g2 g3 HM B2
        obtain ⟨j, rfl, hj, hall, br, mr, r0, r1, r2, r3⟩ := hrel
        have HA := hide hall
        have HBr := hide br
        have HMr := hide mr
        clear hall br mr
        by_cases hlt : j < 10
        · have KA := hide (keeps_all c.f c.r c.p c.u m a1 a2 cl cv L D j (tabA k j) hlt (tabA_lt k HMk.out j hlt) _ hf1 hf2 (H1.out.later HBr.out) hfit (H2.out.later HBr.out) hfe)
          cases hkp : keepB c.f c.r m L D j (tabA k j)
          · rw [hkp] at KA
            have N := hide hkp
            clear hkp
            go_wp2_with fail
            rw [rowIx k j hlt]
            go_wp2_with (refine loadM rfl (.tmp 3) rfl (w.heap.size + 1) m _ _ rfl HMr.out ?_)
            refine KA.out.mono ?_
            rintro e w5 ⟨rfl, b5⟩
            have B5 := hide (HBr.out.trans (b5.mono HBr.out.size))
            clear b5
            dsimp only
            go_wp2
            go_ret
            refine ⟨?_, B5.out⟩
            rw [V.out, if_neg (fun hh => by
              have := (List.all_eq_true.1 hh) j (List.mem_range.2 hlt)
              rw [N.out] at this
              cases this)]
            rfl
          · rw [hkp] at KA
            have N := hide hkp
            clear hkp
            go_wp2_with fail
            rw [rowIx k j hlt]
            go_wp2_with (refine loadM rfl (.tmp 3) rfl (w.heap.size + 1) m _ _ rfl HMr.out ?_)
            refine KA.out.mono ?_
            rintro e w5 ⟨rfl, b5⟩
            have l1 := HMr.out.lt
            have B5 := hide (HBr.out.trans (b5.mono HBr.out.size))
            have M5 := hide (HMr.out.bel b5)
            have s0 := hide ((b5.cell (p := ⟨w.heap.size, 0, none⟩) (Nat.lt_of_succ_lt l1)).trans r0)
            have s1 := hide ((b5.cell (p := ⟨w.heap.size, 1, none⟩) (Nat.lt_of_succ_lt l1)).trans r1)
            have s2 := hide ((b5.cell (p := ⟨w.heap.size, 2, none⟩) (Nat.lt_of_succ_lt l1)).trans r2)
            have s3 := hide ((b5.cell (p := ⟨w.heap.size, 3, none⟩) (Nat.lt_of_succ_lt l1)).trans r3)
            clear b5 l1
            dsimp only
            go_wp2
            go_round
            case rel => exact ⟨j + 1, by go_num, by omega, fun t ht => by
              rcases Nat.lt_succ_iff_lt_or_eq.1 ht with h | h
              · exact HA.out t h
              · subst h; exact N.out, B5.out, M5.out, s0.out, s1.out, s2.out, s3.out⟩
            case measure => simp [intOf]; omega
        · have hj10 : j = 10 := by omega
          subst hj10
          go_wp2
          go_ret
          refine ⟨?_, HBr.out⟩
          rw [V.out, if_pos (List.all_eq_true.2 (fun t ht => HA.out t (List.mem_range.1 ht)))]
          rfl
    · have hk0 : kdB m.k = false := by simpa using hk
      have V : Hid (ckM c m L D = 70) := by
        show _ = _
        unfold ckM
        rw [hc, hk0]
        simp
      have HK := hide (fun W => isKind_any m.k W)
      rw [hk0] at HK
      rw [hc] at HC
      clear hk hc hk0
      go_enter Tryd.func9, Tryd.ntmps9
      go_wp2_with (refine boxMk rfl (.tmp 1) rfl m _ _ rfl ?_; intro q1 w1 hq1 M1 b1 z1; have c0 : w1.cell? ⟨w.heap.size, 0, none⟩ = some (.int .i64 c.f) := (b1.cell (p := ⟨w.heap.size, 0, none⟩) (by simp)).trans (by simp); have c1 : w1.cell? ⟨w.heap.size, 1, none⟩ = some (.int .i64 c.r) := (b1.cell (p := ⟨w.heap.size, 1, none⟩) (by simp)).trans (by simp); have c2 : w1.cell? ⟨w.heap.size, 2, none⟩ = some (.int .i64 c.p) := (b1.cell (p := ⟨w.heap.size, 2, none⟩) (by simp)).trans (by simp); have c3 : w1.cell? ⟨w.heap.size, 3, none⟩ = some (.bool c.u) := (b1.cell (p := ⟨w.heap.size, 3, none⟩) (by simp)).trans (by simp))
      have hq2 : q1 = w.heap.size + 1 := by first | exact hq1 | simpa using hq1
      subst hq2
      have hB1 : Below w.heap.size w w1 := ((Below.refl _ _).alloc (Nat.le_refl _) _).trans (b1.mono (by simp))
      refine (HC.out w1).mono ?_
      rintro e w2 ⟨rfl, b2⟩
      have hs2 : w1.heap.size ≤ w2.heap.size := b2.size
      have g0 := (b2.cell (p := ⟨w.heap.size, 0, none⟩) (by show w.heap.size < w1.heap.size; omega)).trans c0
      have g1 := (b2.cell (p := ⟨w.heap.size, 1, none⟩) (by show w.heap.size < w1.heap.size; omega)).trans c1
      have g2 := (b2.cell (p := ⟨w.heap.size, 2, none⟩) (by show w.heap.size < w1.heap.size; omega)).trans c2
      have g3 := (b2.cell (p := ⟨w.heap.size, 3, none⟩) (by show w.heap.size < w1.heap.size; omega)).trans c3
      have M2 := M1.bel b2
      have B2 := hide (hB1.trans (b2.mono (by omega)))
      have x0 := M2.cell 0 _ rfl
      have HM := hide M2
      have hz1 := z1
      clear c0 c1 c2 c3 M1 b1 M2 hB1 b2 hq1 z1
      have HZ := hide hz1
      have HS2 := hide hs2
      clear hz1 hs2
      dsimp only
      go_wp2_with fail
      refine (HK.out _).mono ?_
      rintro e w3 ⟨rfl, rfl⟩
      dsimp only
      go_wp2
      go_ret
      exact ⟨by rw [V.out]; rfl, B2.out⟩
  · have hc0 : cfB c = false := by simpa using hc
    have V : Hid (ckM c m L D = 1) := by
      show _ = _
      unfold ckM
      rw [hc0]
      simp
    rw [hc0] at HC
    clear hc hc0
    go_enter Tryd.func9, Tryd.ntmps9
    go_wp2_with (refine boxMk rfl (.tmp 1) rfl m _ _ rfl ?_; intro q1 w1 hq1 M1 b1 z1; have c0 : w1.cell? ⟨w.heap.size, 0, none⟩ = some (.int .i64 c.f) := (b1.cell (p := ⟨w.heap.size, 0, none⟩) (by simp)).trans (by simp); have c1 : w1.cell? ⟨w.heap.size, 1, none⟩ = some (.int .i64 c.r) := (b1.cell (p := ⟨w.heap.size, 1, none⟩) (by simp)).trans (by simp); have c2 : w1.cell? ⟨w.heap.size, 2, none⟩ = some (.int .i64 c.p) := (b1.cell (p := ⟨w.heap.size, 2, none⟩) (by simp)).trans (by simp); have c3 : w1.cell? ⟨w.heap.size, 3, none⟩ = some (.bool c.u) := (b1.cell (p := ⟨w.heap.size, 3, none⟩) (by simp)).trans (by simp))
    have hq2 : q1 = w.heap.size + 1 := by first | exact hq1 | simpa using hq1
    subst hq2
    have hB1 : Below w.heap.size w w1 := ((Below.refl _ _).alloc (Nat.le_refl _) _).trans (b1.mono (by simp))
    refine (HC.out w1).mono ?_
    rintro e w2 ⟨rfl, b2⟩
    have hs2 : w1.heap.size ≤ w2.heap.size := b2.size
    have g0 := (b2.cell (p := ⟨w.heap.size, 0, none⟩) (by show w.heap.size < w1.heap.size; omega)).trans c0
    have g1 := (b2.cell (p := ⟨w.heap.size, 1, none⟩) (by show w.heap.size < w1.heap.size; omega)).trans c1
    have g2 := (b2.cell (p := ⟨w.heap.size, 2, none⟩) (by show w.heap.size < w1.heap.size; omega)).trans c2
    have g3 := (b2.cell (p := ⟨w.heap.size, 3, none⟩) (by show w.heap.size < w1.heap.size; omega)).trans c3
    have M2 := M1.bel b2
    have B2 := hide (hB1.trans (b2.mono (by omega)))
    have x0 := M2.cell 0 _ rfl
    have HM := hide M2
    have hz1 := z1
    clear c0 c1 c2 c3 M1 b1 M2 hB1 b2 hq1 z1
    have HZ := hide hz1
    have HS2 := hide hs2
    clear hz1 hs2
    dsimp only
    go_wp2
    go_ret
    exact ⟨by rw [V.out]; rfl, B2.out⟩
theorem ixVec (q o n cv nd : Nat) (h : nd < n) (w : World) : (Instr.indexAt 36 (.slice (some ⟨q, o, none⟩) n cv) (.int .i64 (nd : Int))).run Tryd.prog w = .ok (.pointer (some ⟨q, o + nd * 2, none⟩)) w := by
  have h1 : (nd : Int) < (n : Int) := by omega
  go_simp
theorem ldDrAt {w : World} {q p : Nat} {x y : Int} (h0 : w.cell? ⟨q, p, none⟩ = some (.int .u64 x)) (h1 : w.cell? ⟨q, p + 1, none⟩ = some (.int .u64 y)) : (Instr.loadAt 33 (.pointer (some ⟨q, p, none⟩))).run Tryd.prog w = .ok (.agg #[.int .u64 x, .int .u64 y]) w := by
  go_simp
def drF (d : Int × Int) : Prop := 0 ≤ d.1 ∧ d.1 < 18446744073709551616 ∧ 0 ≤ d.2 ∧ d.2 < 18446744073709551616
def enF (e : En) : Prop := 0 ≤ e.c ∧ e.c ≤ 9223372036854775807 ∧ 0 ≤ e.n ∧ e.n ≤ 9223372036854775807 ∧ 0 ≤ e.o.k ∧ e.o.k ≤ 9223372036854775807 ∧ 0 ≤ e.o.s ∧ e.o.s ≤ 9223372036854775807 ∧ e.o.v.size ≤ 64
def dsBy (D : List (Int × Int)) : List Int := D.flatMap fun d => drBy d.1.toNat d.2.toNat
def veBy (D : List (Int × Int)) : List Int := M.form D.length ++ dsBy D
def enBy (e : En) : List Int := nmBy e.c.toNat e.n.toNat ++ opBy e.o.k.toNat e.o.s.toNat e.o.v
def esBy (L : List En) : List Int := L.flatMap enBy
def lgBy (L : List En) : List Int := M.form L.length ++ esBy L
theorem dsBy_next {D : List (Int × Int)} {j : Nat} {d : Int × Int} (h : D[j]? = some d) : dsBy (D.take (j + 1)) = dsBy (D.take j) ++ drBy d.1.toNat d.2.toNat := by
  unfold dsBy
  rw [List.take_add_one, h]
  simp
theorem esBy_next {D : List En} {j : Nat} {d : En} (h : D[j]? = some d) : esBy (D.take (j + 1)) = esBy (D.take j) ++ enBy d := by
  unfold esBy
  rw [List.take_add_one, h]
  simp
theorem drBy_le {x y : Nat} (hx : x < 2 ^ 64) (hy : y < 2 ^ 64) : (drBy x y).length ≤ 18 := by
  unfold drBy
  have := form_le hx
  have := form_le hy
  rw [List.length_append]
  omega
theorem nmBy_le {x y : Nat} (hx : x < 2 ^ 64) (hy : y < 2 ^ 64) : (nmBy x y).length ≤ 18 := by
  unfold nmBy
  have := form_le hx
  have := form_le hy
  rw [List.length_append]
  omega
theorem opBy_le {x y : Nat} {v : ByteArray} (hx : x < 2 ^ 64) (hy : y < 2 ^ 64) (hv : v.size ≤ 64) : (opBy x y v).length ≤ 82 + 9 := by
  unfold opBy
  have := form_le hx
  have := form_le hy
  have := form_le (show v.size < 2 ^ 64 by omega)
  rw [List.length_append, List.length_append, List.length_append, Wi.sb_length]
  omega
theorem form_small {x : Nat} (h : x < 256) : (M.form x).length ≤ 2 := by
  rw [M.form_length]
  have : M.nb x ≤ 1 := by
    have h1 : M.bl x ≤ 8 := (M.bl_le x 8).2 (by omega)
    unfold M.nb
    omega
  omega
theorem dsBy_le : ∀ (D : List (Int × Int)), (∀ d ∈ D, drF d) → (dsBy D).length ≤ 18 * D.length
  | [], _ => by simp [dsBy]
  | d :: r, h => by
    have h1 := h d (by simp)
    have h2 := dsBy_le r (fun x hx => h x (by simp [hx]))
    have h3 := drBy_le (x := d.1.toNat) (y := d.2.toNat) (by have := h1.2.1; have := h1.1; omega) (by have := h1.2.2.2; have := h1.2.2.1; omega)
    have e : dsBy (d :: r) = drBy d.1.toNat d.2.toNat ++ dsBy r := rfl
    rw [e, List.length_append, List.length_cons]
    omega
theorem enBy_le {e : En} (h : enF e) : (enBy e).length ≤ 102 := by
  obtain ⟨c0, c1, n0, n1, k0, k1, s0, s1, hv⟩ := h
  have e1 : (enBy e) = nmBy e.c.toNat e.n.toNat ++ opBy e.o.k.toNat e.o.s.toNat e.o.v := rfl
  have a := form_le (show e.c.toNat < 2 ^ 64 by omega)
  have b := form_le (show e.n.toNat < 2 ^ 64 by omega)
  have c := form_le (show e.o.k.toNat < 2 ^ 64 by omega)
  have d := form_le (show e.o.s.toNat < 2 ^ 64 by omega)
  have f := form_small (show e.o.v.size < 256 by omega)
  rw [e1]
  unfold nmBy opBy
  simp only [List.length_append, Wi.sb_length]
  omega
theorem esBy_le : ∀ (D : List En), (∀ d ∈ D, enF d) → (esBy D).length ≤ 102 * D.length
  | [], _ => by simp [esBy]
  | d :: r, h => by
    have h2 := esBy_le r (fun x hx => h x (by simp [hx]))
    have h3 := enBy_le (h d (by simp))
    have e : esBy (d :: r) = enBy d ++ esBy r := rfl
    rw [e, List.length_append, List.length_cons]
    omega
theorem addJ (j : Nat) (hj : j < 4611686018427387904) (x y : Operand) (w : World) : (do eqGuard .add 3 x y (.int .i64 (j : Int)) (.int .i64 1); binOp .add 3 (.int .i64 (j : Int)) (.int .i64 1) : Sem Value).run Tryd.prog w = .ok (.int .i64 ((j + 1 : Nat) : Int)) w := by
  have h1 : IntKind.i64.wrap ((j : Int) + 1) = ((j + 1 : Nat) : Int) := by rw [IntKind.wrap_i64]; omega
  go_simp
theorem stDr (w : World) (x y : Int) : (Instr.storeAt 33 (.pointer (some ⟨w.heap.size, 0, none⟩)) (.agg #[.int .u64 x, .int .u64 y])).run Tryd.prog (w.alloc (.cells #[.int .u64 0, .int .u64 0] 33)) = .ok () (w.alloc (.cells #[.int .u64 x, .int .u64 y] 33)) := by
  go_simp
theorem stEn (w : World) (c n k s : Int) (v : ByteArray) : (Instr.storeAt 28 (.pointer (some ⟨w.heap.size, 0, none⟩)) (.agg #[.int .i64 c, .int .i64 n, .int .i64 k, .int .i64 s, .string v])).run Tryd.prog (w.alloc (.cells #[.int .i64 0, .int .i64 0, .int .i64 0, .int .i64 0, .string ⟨#[]⟩] 28)) = .ok () (w.alloc (.cells #[.int .i64 c, .int .i64 n, .int .i64 k, .int .i64 s, .string v] 28)) := by
  go_simp
theorem ldEnAt {w : World} {q p : Nat} {c n k s : Int} {v : ByteArray} (h0 : w.cell? ⟨q, p, none⟩ = some (.int .i64 c)) (h1 : w.cell? ⟨q, p + 1, none⟩ = some (.int .i64 n)) (h2 : w.cell? ⟨q, p + 2, none⟩ = some (.int .i64 k)) (h3 : w.cell? ⟨q, p + 3, none⟩ = some (.int .i64 s)) (h4 : w.cell? ⟨q, p + 4, none⟩ = some (.string v)) : (Instr.loadAt 28 (.pointer (some ⟨q, p, none⟩))).run Tryd.prog w = .ok (.agg #[.int .i64 c, .int .i64 n, .int .i64 k, .int .i64 s, .string v]) w := by
  go_simp
theorem ldOpAt {w : World} {q p : Nat} {k s : Int} {v : ByteArray} (h2 : w.cell? ⟨q, p, none⟩ = some (.int .i64 k)) (h3 : w.cell? ⟨q, p + 1, none⟩ = some (.int .i64 s)) (h4 : w.cell? ⟨q, p + 2, none⟩ = some (.string v)) : (Instr.loadAt 26 (.pointer (some ⟨q, p, none⟩))).run Tryd.prog w = .ok (.agg #[.int .i64 k, .int .i64 s, .string v]) w := by
  go_simp
theorem ixEnt (q o n cv nd : Nat) (h : nd < n) (w : World) : (Instr.indexAt 34 (.slice (some ⟨q, o, none⟩) n cv) (.int .i64 (nd : Int))).run Tryd.prog w = .ok (.pointer (some ⟨q, o + nd * 5, none⟩)) w := by
  have h1 : (nd : Int) < (n : Int) := by omega
  go_simp
set_option maxRecDepth 100000 in
set_option maxHeartbeats 4000000 in
theorem wvector_tk (B b : Nat) (l : List Int) (L : List (Int × Int)) (a : Option Addr) (cv : Nat) (w0 w : World) (hB : B ≤ b) (h0 : Below w0.heap.size w0 w) (hB0 : w0.heap.size ≤ B) (hD : SlY yD w0 a L.length cv L) (hfit : ∀ d ∈ L, drF d) (h : Wi.WOkT w b l) (h7 : L.length ≤ 7) (hl : l.length + 162 ≤ 140737488355328) :
    Calls Tryd.prog 66 #[.pointer (some ⟨b, 0, none⟩), .slice a L.length cv] w fun e w' => e = .returned (.tuple #[]) ∧ Wi.WOkT w' b (l ++ veBy L) ∧ Below B w w' ∧ Wi.TKp w w' := by
  go_enter Tryd.func66, Tryd.ntmps66
  go_upto_region 0 with fail
  refine wp_region_lit ?_
  refine vl_gen (fun T => T.size = 22 ∧ T[0]? = some (gw true (.pointer (some ⟨b, 0, none⟩))) ∧ T[1]? = some (gw true (.slice a L.length cv))) ⟨rfl, rfl, rfl⟩ (fun T0 ⟨hz, s0, s1⟩ => ?_)
  refine vt _ (ex_move rfl (ev s0 rfl)) hz (fun A0_1 zz kk s6x => ?_)
  replace s0 := kt kk s0
  replace s1 := kt kk s1
  clear kk hz
  have hz := zz
  have s6 := s6x
  clear zz s6x
  refine vt (.pointer (some ⟨b, 0, none⟩)) (ex_nil rfl (ev s6 rfl)) hz (fun A0_2 zz kk s7x => ?_)
  replace s0 := kt kk s0
  replace s1 := kt kk s1
  clear kk hz s6
  have hz := zz
  have s7 := s7x
  clear zz s7x A0_1
  refine vt (.pointer (some ⟨b, 0, none⟩)) (ex_fa rfl (ev s7 rfl) (by go_simp)) hz (fun A0_3 zz kk s8x => ?_)
  replace s0 := kt kk s0
  replace s1 := kt kk s1
  clear kk hz s7
  have hz := zz
  have s8 := s8x
  clear zz s8x A0_2
  refine vt _ (ex_move rfl (ev s1 rfl)) hz (fun A0_4 zz kk s9x => ?_)
  replace s0 := kt kk s0
  replace s1 := kt kk s1
  replace s8 := kt kk s8
  clear kk hz
  have hz := zz
  have s9 := s9x
  clear zz s9x A0_3
  refine vt (.int .i64 ((L.length : Nat) : Int)) (ex_lenV rfl rfl (ev s9 rfl)) hz (fun A0_5 zz kk s10x => ?_)
  replace s0 := kt kk s0
  replace s1 := kt kk s1
  replace s8 := kt kk s8
  clear kk hz s9
  have hz := zz
  have s10 := s10x
  clear zz s10x A0_4
  refine vcallP (want_none rfl) (ex_call rfl (by simp only [List.map_toArray, List.map_cons, List.map_nil, (ev s8 rfl), (ev s10 rfl), evc] <;> rfl) rfl) (Wi.count_tk B b l L.length 7 w hB h (by omega) h7 (by omega)) rfl hz (by decide) ?_
  rintro e w1 ⟨rfl, hO1, hb1, ht1⟩
  refine ⟨_, rfl, fun A0_6 zz kk s11x => ?_⟩
  replace s0 := kt kk s0
  replace s1 := kt kk s1
  clear kk hz s8 s10
  have hz := zz
  have s11 := s11x
  clear zz s11x A0_5
  refine wpList_nil ?_
  go_upto_region 1 with fail
  refine wp_region_lit ?_
  refine vt _ (ex_move rfl (ev s1 rfl)) hz (fun A1_1 zz kk s12x => ?_)
  replace s0 := kt kk s0
  clear kk hz s1 s11
  have hz := zz
  have s12 := s12x
  clear zz s12x
  refine vt (.int .i64 ((L.length : Nat) : Int)) (ex_lenV rfl rfl (ev s12 rfl)) hz (fun A1_2 zz kk s13x => ?_)
  replace s0 := kt kk s0
  replace s12 := kt kk s12
  clear kk hz
  have hz := zz
  have s13 := s13x
  clear zz s13x A1_1
  refine vt (.int .i64 0) (ex_move rfl rfl) hz (fun A1_3 zz kk s14x => ?_)
  replace s0 := kt kk s0
  replace s12 := kt kk s12
  replace s13 := kt kk s13
  clear kk hz
  have hz := zz
  have s14 := s14x
  clear zz s14x A1_2
  refine wpList_nil ?_
  go_upto_region 2 with fail
  refine v_loop 14 L.length (fun j T wr => T.size = 22 ∧ T[0]? = some (gw true (.pointer (some ⟨b, 0, none⟩))) ∧ T[12]? = some (gw true (.slice a L.length cv)) ∧ T[13]? = some (gw true (.int .i64 ((L.length : Nat) : Int))) ∧ T[14]? = some (gw true (.int .i64 (j : Int))) ∧ Hid (Wi.WOkT wr b (l ++ M.form L.length ++ dsBy (L.take j)) ∧ Below B w wr ∧ Wi.TKp w wr)) (fun j T w h => h.2.2.2.2.1) ⟨hz, s0, s12, s13, s14, by simpa [dsBy] using hO1, hb1, ht1⟩ ?_
  intro j R0 wr hj hh
  clear hz s0 s12 s13 s14
  obtain ⟨hz, s0, s12, s13, s14, HI⟩ := hh
  go_upto_region 2 with fail
  refine wp_region_lit ?_
  refine vt (.bool (decide ((j : Int) < (L.length : Int)))) (ex_bin rfl (ev s14 rfl) (ev s13 rfl) (lssC _ _ _ _ _)) hz (fun A2_1 zz kk s15x => ?_)
  replace s0 := kt kk s0
  replace s12 := kt kk s12
  replace s13 := kt kk s13
  replace s14 := kt kk s14
  clear kk hz
  have hz := zz
  have s15 := s15x
  clear zz s15x
  refine wpList_nil ?_
  go_upto_region 3 with fail
  cases e2 : decide ((j : Int) < (L.length : Int))
  · refine wp_cond_false ((ev s15 rfl).trans (congrArg Value.bool e2)) ?_
    have hjl : j = L.length := by have := of_decide_eq_false e2; omega
    have HJ := hide hjl
    clear e2 hjl
    go_wp2
    go_end0
    have hI := HI.out
    rw [HJ.out, List.take_length] at hI
    exact ⟨rfl, by simpa [veBy] using hI.1, hI.2⟩
  refine wp_cond_true ((ev s15 rfl).trans (congrArg Value.bool e2)) ?_
  have hlt2 : j < L.length := by have := of_decide_eq_true e2; omega
  clear s15 e2
  go_upto_region 3 with fail
  refine wp_region_lit ?_
  obtain ⟨d, hd⟩ : ∃ d, L[j]? = some d := ⟨_, List.getElem?_eq_getElem hlt2⟩
  have hsl := hD.later (h0.trans (HI.out.2.1.mono hB0))
  obtain ⟨q, o, rfl, hq, hlie⟩ := hsl.place (fun e => by rw [e] at hlt2; simp at hlt2)
  have hdf := hfit d (List.mem_of_getElem? hd)
  obtain ⟨x, hx⟩ := Int.eq_ofNat_of_zero_le hdf.1
  obtain ⟨y, hy⟩ := Int.eq_ofNat_of_zero_le hdf.2.2.1
  have e0 : wr.cell? ⟨q, o + j * 2, none⟩ = some (.int .u64 (x : Int)) := by rw [← hx]; exact hlie j d hd 0 _ rfl
  have e1 : wr.cell? ⟨q, o + j * 2 + 1, none⟩ = some (.int .u64 (y : Int)) := by rw [← hy]; exact hlie j d hd 1 _ rfl
  have hdx := hdf.2.1
  have hdy := hdf.2.2.2
  rw [hx] at hdx
  rw [hy] at hdy
  have enx : drBy d.1.toNat d.2.toNat = drBy x y := by rw [hx, hy]; rfl
  obtain ⟨w5, hw5⟩ : ∃ w5, w5 = wr.alloc (.cells #[.int .u64 (x : Int), .int .u64 (y : Int)] 33) := ⟨_, rfl⟩
  have hs5 : w5.heap.size = wr.heap.size + 1 := by rw [hw5]; simp
  have hb5 : Below wr.heap.size wr w5 := by rw [hw5]; exact (Below.refl _ _).alloc (Nat.le_refl _) _
  have HQ : Hid (∀ vv, Wi.TKp w5 vv → ∀ (ii : Nat) (uu : Value), ([.int .u64 (x : Int), .int .u64 (y : Int)] : List Value)[ii]? = some uu → vv.cell? ⟨wr.heap.size, ii, none⟩ = some uu) := fun vv hv ii uu hx => by
    rw [hv.cell (p := ⟨wr.heap.size, ii, none⟩) (by rw [hs5]; exact Nat.lt_succ_self _) (by rw [hw5]; exact Wi.not_wtyp_box _ _ _ (by decide))]
    rw [hw5]
    exact cell_box _ _ _ _ _ (by simpa using hx)
  have hO5 := HI.out.1.later hb5
  have hlen : ((l ++ M.form L.length ++ dsBy (L.take j)).length) ≤ l.length + 9 + 18 * 7 := by
    have f1 := form_le (show L.length < 2 ^ 64 by omega)
    have f2 := dsBy_le (L.take j) (fun x hx => hfit x (List.mem_of_mem_take hx))
    rw [List.length_append, List.length_append]
    rw [List.length_take] at f2
    omega
  refine vt (.pointer (some ⟨q, o + j * 2, none⟩)) (ex_ix rfl (ev s12 rfl) (ev s14 rfl) (ixVec _ _ _ _ _ hlt2 _)) hz (fun A3_1 zz kk s16x => ?_)
  replace s0 := kt kk s0
  replace s12 := kt kk s12
  replace s13 := kt kk s13
  replace s14 := kt kk s14
  clear kk hz
  have hz := zz
  have s16 := s16x
  clear zz s16x
  refine vt (.agg #[.int .u64 (x : Int), .int .u64 (y : Int)]) (ex_ld rfl (ev s16 rfl) (ldDrAt e0 e1)) hz (fun A3_2 zz kk s17x => ?_)
  replace s0 := kt kk s0
  replace s12 := kt kk s12
  replace s13 := kt kk s13
  replace s14 := kt kk s14
  clear kk hz s16
  have hz := zz
  have s17 := s17x
  clear zz s17x A3_1
  refine vw (.pointer (some ⟨wr.heap.size, 0, none⟩)) (wr.alloc (.cells #[.int .u64 0, .int .u64 0] 33)) (want_none rfl) (ex_al rfl (by go_simp)) rfl hz (by decide) (fun A3_3 zz kk s5x => ?_)
  replace s0 := kt kk s0
  replace s12 := kt kk s12
  replace s13 := kt kk s13
  replace s14 := kt kk s14
  replace s17 := kt kk s17
  clear kk hz
  have hz := zz
  have s5 := s5x
  clear zz s5x A3_2
  refine vs w5 (want_none rfl) (ex_st rfl (ev s5 rfl) (ev s17 rfl) (by rw [hw5]; exact stDr _ _ _ )) rfl ?_
  refine wpList_nil ?_
  go_upto_region 4 with fail
  refine wp_region_lit ?_
  refine vt _ (ex_move rfl (ev s0 rfl)) hz (fun A4_1 zz kk s18x => ?_)
  replace s0 := kt kk s0
  replace s5 := kt kk s5
  replace s12 := kt kk s12
  replace s13 := kt kk s13
  replace s14 := kt kk s14
  clear kk hz s17
  have hz := zz
  have s18 := s18x
  clear zz s18x
  refine vt (.agg #[.int .u64 (x : Int), .int .u64 (y : Int)]) (ex_ld rfl (ev s5 rfl) (ldDrAt (HQ.out w5 (Wi.TKp.refl w5) 0 _ rfl) (HQ.out w5 (Wi.TKp.refl w5) 1 _ rfl))) hz (fun A4_2 zz kk s19x => ?_)
  replace s0 := kt kk s0
  replace s5 := kt kk s5
  replace s12 := kt kk s12
  replace s13 := kt kk s13
  replace s14 := kt kk s14
  replace s18 := kt kk s18
  clear kk hz
  have hz := zz
  have s19 := s19x
  clear zz s19x A4_1
  refine vcallP (want_none rfl) (ex_call rfl (by simp only [List.map_toArray, List.map_cons, List.map_nil, (ev s18 rfl), (ev s19 rfl), evc] <;> rfl) rfl) (wdraw_tk B b (l ++ M.form L.length ++ dsBy (L.take j)) x y w5 hB hO5 (by omega) (by omega) (Nat.le_trans (Nat.add_le_add_right hlen 18) (by omega))) rfl hz (by decide) ?_
  rintro e w6 ⟨rfl, hO6, hb6, ht6⟩
  refine ⟨_, rfl, fun A4_3 zz kk s20x => ?_⟩
  replace s0 := kt kk s0
  replace s5 := kt kk s5
  replace s12 := kt kk s12
  replace s13 := kt kk s13
  replace s14 := kt kk s14
  clear kk hz s18 s19
  have hz := zz
  have s20 := s20x
  clear zz s20x A4_2
  refine wpList_nil ?_
  go_upto_region 5 with fail
  refine wp_region_lit ?_
  refine vt (.int .i64 ((j + 1 : Nat) : Int)) (ex_bin rfl (ev s14 rfl) rfl (addJ j (by omega) _ _ _)) hz (fun A5_1 zz kk s21x => ?_)
  replace s0 := kt kk s0
  replace s12 := kt kk s12
  replace s13 := kt kk s13
  replace s14 := kt kk s14
  clear kk hz s5 s20
  have hz := zz
  have s21 := s21x
  clear zz s21x
  refine vt _ (ex_move rfl (ev s21 rfl)) hz (fun A5_2 zz kk s14x => ?_)
  replace s0 := kt kk s0
  replace s12 := kt kk s12
  replace s13 := kt kk s13
  clear kk hz s21 s14
  have hz := zz
  have s14 := s14x
  clear zz s14x A5_1
  refine wpList_nil ?_
  have nx : dsBy (L.take (j + 1)) = dsBy (L.take j) ++ drBy x y := by rw [dsBy_next hd, enx]
  have hsz := HI.out.2.1.size
  exact ⟨_, rfl, by omega, hz, s0, s12, s13, s14, by rw [nx]; simpa only [List.append_assoc] using hO6, HI.out.2.1.trans ((hb5.mono (by have := HI.out.1.lt; omega)).trans (hb6)), HI.out.2.2.trans ((Wi.TKp.of_below hb5).trans (ht6))⟩
set_option maxRecDepth 100000 in
set_option maxHeartbeats 4000000 in
theorem wlog_tk (B b : Nat) (l : List Int) (L : List En) (a : Option Addr) (cv : Nat) (w0 w : World) (hB : B ≤ b) (h0 : Below w0.heap.size w0 w) (hB0 : w0.heap.size ≤ B) (hD : SlY yE w0 a L.length cv L) (hfit : ∀ d ∈ L, enF d) (h : Wi.WOkT w b l) (h7 : L.length ≤ 256) (hl : l.length + 26300 ≤ 140737488355328) :
    Calls Tryd.prog 65 #[.pointer (some ⟨b, 0, none⟩), .slice a L.length cv] w fun e w' => e = .returned (.tuple #[]) ∧ Wi.WOkT w' b (l ++ lgBy L) ∧ Below B w w' ∧ Wi.TKp w w' := by
  go_enter Tryd.func65, Tryd.ntmps65
  go_upto_region 0 with fail
  refine wp_region_lit ?_
  refine vl_gen (fun T => T.size = 26 ∧ T[0]? = some (gw true (.pointer (some ⟨b, 0, none⟩))) ∧ T[1]? = some (gw true (.slice a L.length cv))) ⟨rfl, rfl, rfl⟩ (fun T0 ⟨hz, s0, s1⟩ => ?_)
  refine vt _ (ex_move rfl (ev s0 rfl)) hz (fun A0_1 zz kk s6x => ?_)
  replace s0 := kt kk s0
  replace s1 := kt kk s1
  clear kk hz
  have hz := zz
  have s6 := s6x
  clear zz s6x
  refine vt (.pointer (some ⟨b, 0, none⟩)) (ex_nil rfl (ev s6 rfl)) hz (fun A0_2 zz kk s7x => ?_)
  replace s0 := kt kk s0
  replace s1 := kt kk s1
  clear kk hz s6
  have hz := zz
  have s7 := s7x
  clear zz s7x A0_1
  refine vt (.pointer (some ⟨b, 0, none⟩)) (ex_fa rfl (ev s7 rfl) (by go_simp)) hz (fun A0_3 zz kk s8x => ?_)
  replace s0 := kt kk s0
  replace s1 := kt kk s1
  clear kk hz s7
  have hz := zz
  have s8 := s8x
  clear zz s8x A0_2
  refine vt _ (ex_move rfl (ev s1 rfl)) hz (fun A0_4 zz kk s9x => ?_)
  replace s0 := kt kk s0
  replace s1 := kt kk s1
  replace s8 := kt kk s8
  clear kk hz
  have hz := zz
  have s9 := s9x
  clear zz s9x A0_3
  refine vt (.int .i64 ((L.length : Nat) : Int)) (ex_lenE rfl rfl (ev s9 rfl)) hz (fun A0_5 zz kk s10x => ?_)
  replace s0 := kt kk s0
  replace s1 := kt kk s1
  replace s8 := kt kk s8
  clear kk hz s9
  have hz := zz
  have s10 := s10x
  clear zz s10x A0_4
  refine vcallP (want_none rfl) (ex_call rfl (by simp only [List.map_toArray, List.map_cons, List.map_nil, (ev s8 rfl), (ev s10 rfl), evc] <;> rfl) rfl) (Wi.count_tk B b l L.length 256 w hB h (by omega) h7 (by omega)) rfl hz (by decide) ?_
  rintro e w1 ⟨rfl, hO1, hb1, ht1⟩
  refine ⟨_, rfl, fun A0_6 zz kk s11x => ?_⟩
  replace s0 := kt kk s0
  replace s1 := kt kk s1
  clear kk hz s8 s10
  have hz := zz
  have s11 := s11x
  clear zz s11x A0_5
  refine wpList_nil ?_
  go_upto_region 1 with fail
  refine wp_region_lit ?_
  refine vt _ (ex_move rfl (ev s1 rfl)) hz (fun A1_1 zz kk s12x => ?_)
  replace s0 := kt kk s0
  clear kk hz s1 s11
  have hz := zz
  have s12 := s12x
  clear zz s12x
  refine vt (.int .i64 ((L.length : Nat) : Int)) (ex_lenE rfl rfl (ev s12 rfl)) hz (fun A1_2 zz kk s13x => ?_)
  replace s0 := kt kk s0
  replace s12 := kt kk s12
  clear kk hz
  have hz := zz
  have s13 := s13x
  clear zz s13x A1_1
  refine vt (.int .i64 0) (ex_move rfl rfl) hz (fun A1_3 zz kk s14x => ?_)
  replace s0 := kt kk s0
  replace s12 := kt kk s12
  replace s13 := kt kk s13
  clear kk hz
  have hz := zz
  have s14 := s14x
  clear zz s14x A1_2
  refine wpList_nil ?_
  go_upto_region 2 with fail
  refine v_loop 14 L.length (fun j T wr => T.size = 26 ∧ T[0]? = some (gw true (.pointer (some ⟨b, 0, none⟩))) ∧ T[12]? = some (gw true (.slice a L.length cv)) ∧ T[13]? = some (gw true (.int .i64 ((L.length : Nat) : Int))) ∧ T[14]? = some (gw true (.int .i64 (j : Int))) ∧ Hid (Wi.WOkT wr b (l ++ M.form L.length ++ esBy (L.take j)) ∧ Below B w wr ∧ Wi.TKp w wr)) (fun j T w h => h.2.2.2.2.1) ⟨hz, s0, s12, s13, s14, by simpa [esBy] using hO1, hb1, ht1⟩ ?_
  intro j R0 wr hj hh
  clear hz s0 s12 s13 s14
  obtain ⟨hz, s0, s12, s13, s14, HI⟩ := hh
  go_upto_region 2 with fail
  refine wp_region_lit ?_
  refine vt (.bool (decide ((j : Int) < (L.length : Int)))) (ex_bin rfl (ev s14 rfl) (ev s13 rfl) (lssC _ _ _ _ _)) hz (fun A2_1 zz kk s15x => ?_)
  replace s0 := kt kk s0
  replace s12 := kt kk s12
  replace s13 := kt kk s13
  replace s14 := kt kk s14
  clear kk hz
  have hz := zz
  have s15 := s15x
  clear zz s15x
  refine wpList_nil ?_
  go_upto_region 3 with fail
  cases e2 : decide ((j : Int) < (L.length : Int))
  · refine wp_cond_false ((ev s15 rfl).trans (congrArg Value.bool e2)) ?_
    have hjl : j = L.length := by have := of_decide_eq_false e2; omega
    have HJ := hide hjl
    clear e2 hjl
    go_wp2
    go_end0
    have hI := HI.out
    rw [HJ.out, List.take_length] at hI
    exact ⟨rfl, by simpa [lgBy] using hI.1, hI.2⟩
  refine wp_cond_true ((ev s15 rfl).trans (congrArg Value.bool e2)) ?_
  have hlt2 : j < L.length := by have := of_decide_eq_true e2; omega
  clear s15 e2
  go_upto_region 3 with fail
  refine wp_region_lit ?_
  obtain ⟨d, hd⟩ : ∃ d, L[j]? = some d := ⟨_, List.getElem?_eq_getElem hlt2⟩
  have hsl := hD.later (h0.trans (HI.out.2.1.mono hB0))
  obtain ⟨q, o, rfl, hq, hlie⟩ := hsl.place (fun e => by rw [e] at hlt2; simp at hlt2)
  have hdf := hfit d (List.mem_of_getElem? hd)
  obtain ⟨c, hc0⟩ := Int.eq_ofNat_of_zero_le hdf.1
  obtain ⟨n, hn0⟩ := Int.eq_ofNat_of_zero_le hdf.2.2.1
  obtain ⟨k, hk0⟩ := Int.eq_ofNat_of_zero_le hdf.2.2.2.2.1
  obtain ⟨s, hs0⟩ := Int.eq_ofNat_of_zero_le hdf.2.2.2.2.2.2.1
  obtain ⟨v, hv0⟩ : ∃ v, d.o.v = v := ⟨_, rfl⟩
  have hvs : v.size ≤ 64 := by rw [← hv0]; exact hdf.2.2.2.2.2.2.2.2
  have e0 : wr.cell? ⟨q, o + j * 5, none⟩ = some (.int .i64 (c : Int)) := by rw [← hc0]; exact hlie j d hd 0 _ rfl
  have e1 : wr.cell? ⟨q, o + j * 5 + 1, none⟩ = some (.int .i64 (n : Int)) := by rw [← hn0]; exact hlie j d hd 1 _ rfl
  have e2 : wr.cell? ⟨q, o + j * 5 + 2, none⟩ = some (.int .i64 (k : Int)) := by rw [← hk0]; exact hlie j d hd 2 _ rfl
  have e3 : wr.cell? ⟨q, o + j * 5 + 3, none⟩ = some (.int .i64 (s : Int)) := by rw [← hs0]; exact hlie j d hd 3 _ rfl
  have e4 : wr.cell? ⟨q, o + j * 5 + 4, none⟩ = some (.string v) := by rw [← hv0]; exact hlie j d hd 4 _ rfl
  have h1 := hdf.2.1
  have h2 := hdf.2.2.2.1
  have h3 := hdf.2.2.2.2.2.1
  have h4 := hdf.2.2.2.2.2.2.2.1
  rw [hc0] at h1
  rw [hn0] at h2
  rw [hk0] at h3
  rw [hs0] at h4
  have enx : enBy d = nmBy c n ++ opBy k s v := by unfold enBy; rw [hc0, hn0, hk0, hs0, hv0]; rfl
  obtain ⟨w5, hw5⟩ : ∃ w5, w5 = wr.alloc (.cells #[.int .i64 (c : Int), .int .i64 (n : Int), .int .i64 (k : Int), .int .i64 (s : Int), .string v] 28) := ⟨_, rfl⟩
  have hs5 : w5.heap.size = wr.heap.size + 1 := by rw [hw5]; simp
  have hb5 : Below wr.heap.size wr w5 := by rw [hw5]; exact (Below.refl _ _).alloc (Nat.le_refl _) _
  have HQ : Hid (∀ vv, Wi.TKp w5 vv → ∀ (ii : Nat) (uu : Value), ([.int .i64 (c : Int), .int .i64 (n : Int), .int .i64 (k : Int), .int .i64 (s : Int), .string v] : List Value)[ii]? = some uu → vv.cell? ⟨wr.heap.size, ii, none⟩ = some uu) := fun vv hv ii uu hx => by
    rw [hv.cell (p := ⟨wr.heap.size, ii, none⟩) (by rw [hs5]; exact Nat.lt_succ_self _) (by rw [hw5]; exact Wi.not_wtyp_box _ _ _ (by decide))]
    rw [hw5]
    exact cell_box _ _ _ _ _ (by simpa using hx)
  have hO5 := HI.out.1.later hb5
  have hlen : ((l ++ M.form L.length ++ esBy (L.take j)).length) ≤ l.length + 9 + 102 * 256 := by
    have f1 := form_le (show L.length < 2 ^ 64 by omega)
    have f2 := esBy_le (L.take j) (fun x hx => hfit x (List.mem_of_mem_take hx))
    rw [List.length_append, List.length_append]
    rw [List.length_take] at f2
    omega
  have hlen2 : (nmBy c n).length ≤ 18 := nmBy_le (by omega) (by omega)
  refine vt (.pointer (some ⟨q, o + j * 5, none⟩)) (ex_ix rfl (ev s12 rfl) (ev s14 rfl) (ixEnt _ _ _ _ _ hlt2 _)) hz (fun A3_1 zz kk s16x => ?_)
  replace s0 := kt kk s0
  replace s12 := kt kk s12
  replace s13 := kt kk s13
  replace s14 := kt kk s14
  clear kk hz
  have hz := zz
  have s16 := s16x
  clear zz s16x
  refine vt (.agg #[.int .i64 (c : Int), .int .i64 (n : Int), .int .i64 (k : Int), .int .i64 (s : Int), .string v]) (ex_ld rfl (ev s16 rfl) (ldEnAt e0 e1 e2 e3 e4)) hz (fun A3_2 zz kk s17x => ?_)
  replace s0 := kt kk s0
  replace s12 := kt kk s12
  replace s13 := kt kk s13
  replace s14 := kt kk s14
  clear kk hz s16
  have hz := zz
  have s17 := s17x
  clear zz s17x A3_1
  refine vw (.pointer (some ⟨wr.heap.size, 0, none⟩)) (wr.alloc (.cells #[.int .i64 0, .int .i64 0, .int .i64 0, .int .i64 0, .string ⟨#[]⟩] 28)) (want_none rfl) (ex_al rfl (by go_simp)) rfl hz (by decide) (fun A3_3 zz kk s5x => ?_)
  replace s0 := kt kk s0
  replace s12 := kt kk s12
  replace s13 := kt kk s13
  replace s14 := kt kk s14
  replace s17 := kt kk s17
  clear kk hz
  have hz := zz
  have s5 := s5x
  clear zz s5x A3_2
  refine vs w5 (want_none rfl) (ex_st rfl (ev s5 rfl) (ev s17 rfl) (by rw [hw5]; exact stEn _ _ _ _ _ _)) rfl ?_
  refine wpList_nil ?_
  go_upto_region 4 with fail
  refine wp_region_lit ?_
  refine vt _ (ex_move rfl (ev s0 rfl)) hz (fun A4_1 zz kk s18x => ?_)
  replace s0 := kt kk s0
  replace s5 := kt kk s5
  replace s12 := kt kk s12
  replace s13 := kt kk s13
  replace s14 := kt kk s14
  clear kk hz s17
  have hz := zz
  have s18 := s18x
  clear zz s18x
  refine vt (.agg #[.int .i64 (c : Int), .int .i64 (n : Int), .int .i64 (k : Int), .int .i64 (s : Int), .string v]) (ex_ld rfl (ev s5 rfl) (ldEnAt (HQ.out w5 (Wi.TKp.refl w5) 0 _ rfl) (HQ.out w5 (Wi.TKp.refl w5) 1 _ rfl) (HQ.out w5 (Wi.TKp.refl w5) 2 _ rfl) (HQ.out w5 (Wi.TKp.refl w5) 3 _ rfl) (HQ.out w5 (Wi.TKp.refl w5) 4 _ rfl))) hz (fun A4_2 zz kk s19x => ?_)
  replace s0 := kt kk s0
  replace s5 := kt kk s5
  replace s12 := kt kk s12
  replace s13 := kt kk s13
  replace s14 := kt kk s14
  replace s18 := kt kk s18
  clear kk hz
  have hz := zz
  have s19 := s19x
  clear zz s19x A4_1
  refine vcallP (want_none rfl) (ex_call rfl (by simp only [List.map_toArray, List.map_cons, List.map_nil, (ev s18 rfl), (ev s19 rfl), evc] <;> rfl) rfl) (wname_tk B b (l ++ M.form L.length ++ esBy (L.take j)) c n k s v w5 hB hO5 (by omega) (by omega) (Nat.le_trans (Nat.add_le_add_right hlen 18) (by omega))) rfl hz (by decide) ?_
  rintro e w6 ⟨rfl, hO6, hb6, ht6⟩
  refine ⟨_, rfl, fun A4_3 zz kk s20x => ?_⟩
  replace s0 := kt kk s0
  replace s5 := kt kk s5
  replace s12 := kt kk s12
  replace s13 := kt kk s13
  replace s14 := kt kk s14
  clear kk hz s18 s19
  have hz := zz
  have s20 := s20x
  clear zz s20x A4_2
  refine wpList_nil ?_
  go_upto_region 5 with fail
  refine wp_region_lit ?_
  refine vt _ (ex_move rfl (ev s0 rfl)) hz (fun A5_1 zz kk s21x => ?_)
  replace s0 := kt kk s0
  replace s5 := kt kk s5
  replace s12 := kt kk s12
  replace s13 := kt kk s13
  replace s14 := kt kk s14
  clear kk hz s20
  have hz := zz
  have s21 := s21x
  clear zz s21x
  refine vt (.pointer (some ⟨wr.heap.size, 2, none⟩)) (ex_fa rfl (ev s5 rfl) (by go_simp)) hz (fun A5_2 zz kk s22x => ?_)
  replace s0 := kt kk s0
  replace s12 := kt kk s12
  replace s13 := kt kk s13
  replace s14 := kt kk s14
  replace s21 := kt kk s21
  clear kk hz s5
  have hz := zz
  have s22 := s22x
  clear zz s22x A5_1
  refine vt (.agg #[.int .i64 (k : Int), .int .i64 (s : Int), .string v]) (ex_ld rfl (ev s22 rfl) (ldOpAt (HQ.out w6 ht6 2 _ rfl) (HQ.out w6 ht6 3 _ rfl) (HQ.out w6 ht6 4 _ rfl))) hz (fun A5_3 zz kk s23x => ?_)
  replace s0 := kt kk s0
  replace s12 := kt kk s12
  replace s13 := kt kk s13
  replace s14 := kt kk s14
  replace s21 := kt kk s21
  clear kk hz s22
  have hz := zz
  have s23 := s23x
  clear zz s23x A5_2
  refine vcallP (want_none rfl) (ex_call rfl (by simp only [List.map_toArray, List.map_cons, List.map_nil, (ev s21 rfl), (ev s23 rfl), evc] <;> rfl) rfl) (wop_tk B b ((l ++ M.form L.length ++ esBy (L.take j)) ++ nmBy c n) k s v w6 hB hO6 (by omega) (by omega) hvs (by rw [List.length_append]; exact Nat.le_trans (Nat.add_le_add_right (Nat.add_le_add hlen hlen2) 91) (by omega))) rfl hz (by decide) ?_
  rintro e w7 ⟨rfl, hO7, hb7, ht7⟩
  refine ⟨_, rfl, fun A5_4 zz kk s24x => ?_⟩
  replace s0 := kt kk s0
  replace s12 := kt kk s12
  replace s13 := kt kk s13
  replace s14 := kt kk s14
  clear kk hz s21 s23
  have hz := zz
  have s24 := s24x
  clear zz s24x A5_3
  refine wpList_nil ?_
  go_upto_region 6 with fail
  refine wp_region_lit ?_
  refine vt (.int .i64 ((j + 1 : Nat) : Int)) (ex_bin rfl (ev s14 rfl) rfl (addJ j (by omega) _ _ _)) hz (fun A6_1 zz kk s25x => ?_)
  replace s0 := kt kk s0
  replace s12 := kt kk s12
  replace s13 := kt kk s13
  replace s14 := kt kk s14
  clear kk hz s24
  have hz := zz
  have s25 := s25x
  clear zz s25x
  refine vt _ (ex_move rfl (ev s25 rfl)) hz (fun A6_2 zz kk s14x => ?_)
  replace s0 := kt kk s0
  replace s12 := kt kk s12
  replace s13 := kt kk s13
  clear kk hz s25 s14
  have hz := zz
  have s14 := s14x
  clear zz s14x A6_1
  refine wpList_nil ?_
  have nx : esBy (L.take (j + 1)) = esBy (L.take j) ++ (nmBy c n ++ opBy k s v) := by rw [esBy_next hd, enx]
  have hsz := HI.out.2.1.size
  exact ⟨_, rfl, by omega, hz, s0, s12, s13, s14, by rw [nx]; simpa only [List.append_assoc] using hO7, HI.out.2.1.trans ((hb5.mono (by have := HI.out.1.lt; omega)).trans (hb6.trans hb7)), HI.out.2.2.trans ((Wi.TKp.of_below hb5).trans (ht6.trans ht7))⟩
theorem int_tkI (B b : Nat) (l : List Int) (x : Int) (w : World) (hB : B ≤ b) (h : Wi.WOkT w b l) (h0 : 0 ≤ x) (h1 : x ≤ 9223372036854775807) (hl : l.length + 9 ≤ 140737488355328) :
    Calls Tryd.prog 36 #[.pointer (some ⟨b, 0, none⟩), .int .i64 x] w fun e w' => e = .returned (.tuple #[]) ∧ Wi.WOkT w' b (l ++ M.form x.toNat) ∧ Below B w w' ∧ Wi.TKp w w' := by
  obtain ⟨n, rfl⟩ := Int.eq_ofNat_of_zero_le h0
  exact Wi.int_tk B b l n w hB h (by omega) hl
theorem wdraw_I (B b : Nat) (l : List Int) (d : Int × Int) (w : World) (hB : B ≤ b) (h : Wi.WOkT w b l) (hd : drF d) (hl : l.length + 18 ≤ 140737488355328) :
    Calls Tryd.prog 61 #[.pointer (some ⟨b, 0, none⟩), .agg #[.int .u64 d.1, .int .u64 d.2]] w fun e w' => e = .returned (.tuple #[]) ∧ Wi.WOkT w' b (l ++ drBy d.1.toNat d.2.toNat) ∧ Below B w w' ∧ Wi.TKp w w' := by
  obtain ⟨x, y⟩ := d
  obtain ⟨a, b', c, e⟩ := hd
  dsimp only at a b' c e ⊢
  obtain ⟨n, rfl⟩ := Int.eq_ofNat_of_zero_le a
  obtain ⟨k, rfl⟩ := Int.eq_ofNat_of_zero_le c
  exact wdraw_tk B b l n k w hB h (by omega) (by omega) hl
theorem wname_I (B b : Nat) (l : List Int) (e : En) (w : World) (hB : B ≤ b) (h : Wi.WOkT w b l) (he : 0 ≤ e.c ∧ e.c ≤ 9223372036854775807 ∧ 0 ≤ e.n ∧ e.n ≤ 9223372036854775807) (hl : l.length + 18 ≤ 140737488355328) :
    Calls Tryd.prog 62 #[.pointer (some ⟨b, 0, none⟩), .agg #[.int .i64 e.c, .int .i64 e.n, .int .i64 e.o.k, .int .i64 e.o.s, .string e.o.v]] w fun r w' => r = .returned (.tuple #[]) ∧ Wi.WOkT w' b (l ++ nmBy e.c.toNat e.n.toNat) ∧ Below B w w' ∧ Wi.TKp w w' := by
  obtain ⟨c, n, ⟨k, s, v⟩⟩ := e
  dsimp only at he ⊢
  obtain ⟨a1, a2, a3, a4⟩ := he
  obtain ⟨c', rfl⟩ := Int.eq_ofNat_of_zero_le a1
  obtain ⟨n', rfl⟩ := Int.eq_ofNat_of_zero_le a3
  exact wname_tk B b l c' n' k s v w hB h (by omega) (by omega) hl
theorem wop_I (B b : Nat) (l : List Int) (k s : Int) (v : ByteArray) (w : World) (hB : B ≤ b) (h : Wi.WOkT w b l) (he : 0 ≤ k ∧ k ≤ 9223372036854775807 ∧ 0 ≤ s ∧ s ≤ 9223372036854775807 ∧ v.size ≤ 64) (hl : l.length + 91 ≤ 140737488355328) :
    Calls Tryd.prog 63 #[.pointer (some ⟨b, 0, none⟩), .agg #[.int .i64 k, .int .i64 s, .string v]] w fun r w' => r = .returned (.tuple #[]) ∧ Wi.WOkT w' b (l ++ opBy k.toNat s.toNat v) ∧ Below B w w' ∧ Wi.TKp w w' := by
  obtain ⟨a1, a2, a3, a4, a5⟩ := he
  obtain ⟨k', rfl⟩ := Int.eq_ofNat_of_zero_le a1
  obtain ⟨s', rfl⟩ := Int.eq_ofNat_of_zero_le a3
  exact wop_tk B b l k' s' v w hB h (by omega) (by omega) a5 hl
theorem wresult_I (B b : Nat) (l : List Int) (r : Int × Int × ByteArray) (w : World) (hB : B ≤ b) (h : Wi.WOkT w b l) (he : 0 ≤ r.1 ∧ r.1 ≤ 9223372036854775807 ∧ 0 ≤ r.2.1 ∧ r.2.1 ≤ 9223372036854775807 ∧ r.2.2.size ≤ 64) (hl : l.length + 91 ≤ 140737488355328) :
    Calls Tryd.prog 64 #[.pointer (some ⟨b, 0, none⟩), .agg #[.int .i64 r.1, .int .i64 r.2.1, .string r.2.2]] w fun r' w' => r' = .returned (.tuple #[]) ∧ Wi.WOkT w' b (l ++ opBy r.1.toNat r.2.1.toNat r.2.2) ∧ Below B w w' ∧ Wi.TKp w w' := by
  obtain ⟨k, s, v⟩ := r
  dsimp only at he ⊢
  obtain ⟨a1, a2, a3, a4, a5⟩ := he
  obtain ⟨k', rfl⟩ := Int.eq_ofNat_of_zero_le a1
  obtain ⟨s', rfl⟩ := Int.eq_ofNat_of_zero_le a3
  exact wresult_tk B b l k' s' v w hB h (by omega) (by omega) a5 hl
structure mgF (m : Mg) (L : List En) (D : List (Int × Int)) : Prop where
  kd : 0 ≤ m.k ∧ m.k ≤ 9223372036854775807
  nd : 0 ≤ m.nd ∧ m.nd ≤ 9223372036854775807
  vw : 0 ≤ m.vw ∧ m.vw ≤ 9223372036854775807
  ls : 0 ≤ m.ls ∧ m.ls ≤ 9223372036854775807
  p : 0 ≤ m.p ∧ m.p ≤ 9223372036854775807
  cm : 0 ≤ m.cm ∧ m.cm ≤ 9223372036854775807
  d : drF m.d
  e : enF m.e
  r : 0 ≤ m.r.1 ∧ m.r.1 ≤ 9223372036854775807 ∧ 0 ≤ m.r.2.1 ∧ m.r.2.1 ≤ 9223372036854775807 ∧ m.r.2.2.size ≤ 64
  es : ∀ e ∈ L, enF e
  lL : L.length ≤ 256
  ds : ∀ d ∈ D, drF d
  lD : D.length ≤ 7
def colBy (m : Mg) (L : List En) (D : List (Int × Int)) (j : Nat) (op : Bool) : List Int :=
  match j with
  | 0 => M.form m.nd.toNat
  | 1 => M.form m.vw.toNat
  | 2 => M.form m.ls.toNat
  | 3 => M.form m.p.toNat
  | 4 => M.form m.cm.toNat
  | 5 => drBy m.d.1.toNat m.d.2.toNat
  | 6 => nmBy m.e.c.toNat m.e.n.toNat ++ (if op then opBy m.e.o.k.toNat m.e.o.s.toNat m.e.o.v else [])
  | 7 => opBy m.r.1.toNat m.r.2.1.toNat m.r.2.2
  | 8 => lgBy L
  | 9 => veBy D
  | _ => []
theorem Wi.not_wtyp_kind {w : World} {q : Nat} {c : Array Value} {t : TypeId} {f : Nat × Nat} (h : w.heap[q]? = some (.cells c t f)) (ht : ¬ (t = 5 ∨ t = 90 ∨ t = 64)) : ¬ Wi.wtyp w q := by
  rintro ⟨c', f', t', e, h'⟩
  rw [h] at e
  cases e
  exact ht h'
theorem MBox.tk {w w' : World} {q : Nat} {m : Mg} {s t : Value} (h : MBox w q m s t) (u : Wi.TKp w w') : MBox w' q m s t := by
  obtain ⟨c, f, hk⟩ := h.kind
  exact h.upd u (Wi.not_wtyp_kind hk (by decide))
theorem MBox.faOp (q : Nat) (w : World) : (Instr.fieldAt 28 (.pointer (some ⟨q, 3, none⟩)) 2).run Tryd.prog w = .ok (.pointer (some ⟨q, 5, none⟩)) w := by
  go_simp
theorem MBox.ldOp {w : World} {q : Nat} {m : Mg} {s t : Value} (h : MBox w q m s t) : (Instr.loadAt 26 (.pointer (some ⟨q, 5, none⟩))).run Tryd.prog w = .ok (.agg #[.int .i64 m.e.o.k, .int .i64 m.e.o.s, .string m.e.o.v]) w := by
  obtain ⟨x0, x1, x2, x3, x4, x5, x6, x7, x8, x9, x10, x11, x12, x13, x14, x15, x16, x17⟩ := h.all
  go_simp
theorem neqU8 (x y : Operand) (a b : Int) (w : World) : (do eqGuard .neq 70 x y (.int .u8 a) (.int .u8 b); binOp .neq 70 (.int .u8 a) (.int .u8 b) : Sem Value).run Tryd.prog w = .ok (.bool (!decide (a = b))) w := by
  go_simp
  by_cases h : a = b <;> simp [h]
set_option maxRecDepth 100000 in
set_option maxHeartbeats 4000000 in
theorem wfield_0 (B b : Nat) (l : List Int) (m : Mg) (a1 a2 : Option Addr) (cl cv : Nat) (L : List En) (D : List (Int × Int)) (q : Int) (w0 w : World) (hB : B ≤ b) (h0 : Below w0.heap.size w0 w) (hB0 : w0.heap.size ≤ B) (hL : SlY yE w0 a1 L.length cl L) (hD : SlY yD w0 a2 D.length cv D) (hm : mgF m L D) (h : Wi.WOkT w b l) (hl : l.length + 30000 ≤ 140737488355328) :
    Calls Tryd.prog 37 #[.pointer (some ⟨b, 0, none⟩), m.val (.slice a1 L.length cl) (.slice a2 D.length cv), .int .i64 0, .int .u8 q] w fun e w' => e = .returned (.tuple #[]) ∧ Wi.WOkT w' b (l ++ colBy m L D 0 (!decide (q = 15))) ∧ Below B w w' ∧ Wi.TKp w w' := by
  have hlt := h.lt
  go_enter Tryd.func37, Tryd.ntmps37
  go_upto_region 3 with (refine boxMk rfl (.tmp 1) rfl m _ _ rfl ?_; intro q1 w1 hq1 M1 hBw z1; subst hq1)
  have hO1 := h.later hBw
  have hBl : B ≤ w.heap.size := by omega
  have HM : Hid (∀ v, Wi.TKp w1 v → MBox v w.heap.size m (.slice a1 L.length cl) (.slice a2 D.length cv)) := fun v hv => M1.tk hv
  have hT1 := Wi.TKp.refl w1
  refine vh_start (fun v => Wi.TKp w1 v) (by kernel_rfl) ?_
  have hS : Wi.TKp w1 w1.drew := (Wi.TKp.refl w1).drewN 1
  refine vh_gen (fun T => T.size = 86 ∧ T[0]? = some (gw true (.pointer (some ⟨b, 0, none⟩))) ∧ T[3]? = some (gw true (.int .u8 q)) ∧ T[5]? = some (gw true (.pointer (some ⟨w.heap.size, 0, none⟩)))) ⟨rfl, rfl, rfl, rfl⟩ (fun T0 ⟨hz, s0, s3, s5⟩ => ?_)
  refine vh_take 0 true (.pointer (some ⟨b, 0, none⟩)) rfl (by kernel_rfl) (by kernel_rfl) (by kernel_rfl) (want_none rfl) (fun hc v hv => ex_move rfl (ev s0 rfl)) rfl hz (by decide) hS (fun A_1 zz kk s11x => ?_)
  replace s0 := kt kk s0
  replace s3 := kt kk s3
  replace s5 := kt kk s5
  clear kk hz
  have hz := zz
  have s11 := s11x
  clear zz s11x
  refine vh_take 1 true (.pointer (some ⟨b, 0, none⟩)) rfl (by kernel_rfl) (by kernel_rfl) (by kernel_rfl) (want_none rfl) (fun hc v hv => ex_nil rfl (ev s11 rfl)) rfl hz (by decide) hS (fun A_2 zz kk s12x => ?_)
  replace s0 := kt kk s0
  replace s3 := kt kk s3
  replace s5 := kt kk s5
  clear kk hz s11
  have hz := zz
  have s12 := s12x
  clear zz s12x A_1
  refine vh_take 2 true (.pointer (some ⟨b, 0, none⟩)) rfl (by kernel_rfl) (by kernel_rfl) (by kernel_rfl) (want_none rfl) (fun hc v hv => ex_fa rfl (ev s12 rfl) (by go_simp)) rfl hz (by decide) hS (fun A_3 zz kk s13x => ?_)
  replace s0 := kt kk s0
  replace s3 := kt kk s3
  replace s5 := kt kk s5
  clear kk hz s12
  have hz := zz
  have s13 := s13x
  clear zz s13x A_2
  refine vh_take 3 true (.pointer (some ⟨w.heap.size, 1, none⟩)) rfl (by kernel_rfl) (by kernel_rfl) (by kernel_rfl) (want_none rfl) (fun hc v hv => ex_fa rfl (ev s5 rfl) (MBox.faNode _ _)) rfl hz (by decide) hS (fun A_4 zz kk s14x => ?_)
  replace s0 := kt kk s0
  replace s3 := kt kk s3
  replace s5 := kt kk s5
  replace s13 := kt kk s13
  clear kk hz
  have hz := zz
  have s14 := s14x
  clear zz s14x A_3
  refine vh_take 4 true (.int .i64 m.nd) rfl (by kernel_rfl) (by kernel_rfl) (by kernel_rfl) (want_none rfl) (fun hc v hv => ex_ld rfl (ev s14 rfl) ((HM.out v hv).ldNode)) rfl hz (by decide) hS (fun A_5 zz kk s15x => ?_)
  replace s0 := kt kk s0
  replace s3 := kt kk s3
  replace s5 := kt kk s5
  replace s13 := kt kk s13
  clear kk hz s14
  have hz := zz
  have s15 := s15x
  clear zz s15x A_4
  refine vh_call 5 rfl (by kernel_rfl) (want_none rfl) (ex_call rfl (by simp only [List.map_toArray, List.map_cons, List.map_nil, (ev s13 rfl), (ev s15 rfl), evc] <;> rfl) rfl) (int_tkI B b l m.nd w1.drew hB hO1.drew hm.nd.1 hm.nd.2 (by omega)) rfl hz (by decide) ?_
  rintro e w2 ⟨rfl, hO2, hb2, ht2⟩
  refine ⟨_, rfl, (hS.trans ht2), fun A_6 zz kk s16x => ?_⟩
  have hb3 : Below B w1 w2 := (Below.refl _ _).drew.trans hb2
  have ht3 : Wi.TKp w1 w2 := ((Wi.TKp.refl w1).drewN 1).trans ht2
  replace s0 := kt kk s0
  replace s3 := kt kk s3
  replace s5 := kt kk s5
  clear kk hz s13 s15
  have hz := zz
  have s16 := s16x
  clear zz s16x A_5
  refine vh_done (by kernel_rfl) ?_
  go_wp2
  go_end0
  exact ⟨rfl, hO2, (hBw.mono hBl).trans hb3, (Wi.TKp.of_below hBw).trans ht3⟩
set_option maxRecDepth 100000 in
set_option maxHeartbeats 4000000 in
theorem wfield_1 (B b : Nat) (l : List Int) (m : Mg) (a1 a2 : Option Addr) (cl cv : Nat) (L : List En) (D : List (Int × Int)) (q : Int) (w0 w : World) (hB : B ≤ b) (h0 : Below w0.heap.size w0 w) (hB0 : w0.heap.size ≤ B) (hL : SlY yE w0 a1 L.length cl L) (hD : SlY yD w0 a2 D.length cv D) (hm : mgF m L D) (h : Wi.WOkT w b l) (hl : l.length + 30000 ≤ 140737488355328) :
    Calls Tryd.prog 37 #[.pointer (some ⟨b, 0, none⟩), m.val (.slice a1 L.length cl) (.slice a2 D.length cv), .int .i64 1, .int .u8 q] w fun e w' => e = .returned (.tuple #[]) ∧ Wi.WOkT w' b (l ++ colBy m L D 1 (!decide (q = 15))) ∧ Below B w w' ∧ Wi.TKp w w' := by
  have hlt := h.lt
  go_enter Tryd.func37, Tryd.ntmps37
  go_upto_region 5 with (refine boxMk rfl (.tmp 1) rfl m _ _ rfl ?_; intro q1 w1 hq1 M1 hBw z1; subst hq1)
  have hO1 := h.later hBw
  have hBl : B ≤ w.heap.size := by omega
  have HM : Hid (∀ v, Wi.TKp w1 v → MBox v w.heap.size m (.slice a1 L.length cl) (.slice a2 D.length cv)) := fun v hv => M1.tk hv
  have hT1 := Wi.TKp.refl w1
  refine vh_start (fun v => Wi.TKp w1 v) (by kernel_rfl) ?_
  have hS : Wi.TKp w1 w1.drew := (Wi.TKp.refl w1).drewN 1
  refine vh_gen (fun T => T.size = 86 ∧ T[0]? = some (gw true (.pointer (some ⟨b, 0, none⟩))) ∧ T[3]? = some (gw true (.int .u8 q)) ∧ T[5]? = some (gw true (.pointer (some ⟨w.heap.size, 0, none⟩)))) ⟨rfl, rfl, rfl, rfl⟩ (fun T0 ⟨hz, s0, s3, s5⟩ => ?_)
  refine vh_take 0 true (.pointer (some ⟨b, 0, none⟩)) rfl (by kernel_rfl) (by kernel_rfl) (by kernel_rfl) (want_none rfl) (fun hc v hv => ex_move rfl (ev s0 rfl)) rfl hz (by decide) hS (fun A_1 zz kk s19x => ?_)
  replace s0 := kt kk s0
  replace s3 := kt kk s3
  replace s5 := kt kk s5
  clear kk hz
  have hz := zz
  have s19 := s19x
  clear zz s19x
  refine vh_take 1 true (.pointer (some ⟨b, 0, none⟩)) rfl (by kernel_rfl) (by kernel_rfl) (by kernel_rfl) (want_none rfl) (fun hc v hv => ex_nil rfl (ev s19 rfl)) rfl hz (by decide) hS (fun A_2 zz kk s20x => ?_)
  replace s0 := kt kk s0
  replace s3 := kt kk s3
  replace s5 := kt kk s5
  clear kk hz s19
  have hz := zz
  have s20 := s20x
  clear zz s20x A_1
  refine vh_take 2 true (.pointer (some ⟨b, 0, none⟩)) rfl (by kernel_rfl) (by kernel_rfl) (by kernel_rfl) (want_none rfl) (fun hc v hv => ex_fa rfl (ev s20 rfl) (by go_simp)) rfl hz (by decide) hS (fun A_3 zz kk s21x => ?_)
  replace s0 := kt kk s0
  replace s3 := kt kk s3
  replace s5 := kt kk s5
  clear kk hz s20
  have hz := zz
  have s21 := s21x
  clear zz s21x A_2
  refine vh_take 3 true (.pointer (some ⟨w.heap.size, 2, none⟩)) rfl (by kernel_rfl) (by kernel_rfl) (by kernel_rfl) (want_none rfl) (fun hc v hv => ex_fa rfl (ev s5 rfl) (MBox.faView _ _)) rfl hz (by decide) hS (fun A_4 zz kk s22x => ?_)
  replace s0 := kt kk s0
  replace s3 := kt kk s3
  replace s5 := kt kk s5
  replace s21 := kt kk s21
  clear kk hz
  have hz := zz
  have s22 := s22x
  clear zz s22x A_3
  refine vh_take 4 true (.int .i64 m.vw) rfl (by kernel_rfl) (by kernel_rfl) (by kernel_rfl) (want_none rfl) (fun hc v hv => ex_ld rfl (ev s22 rfl) ((HM.out v hv).ldView)) rfl hz (by decide) hS (fun A_5 zz kk s23x => ?_)
  replace s0 := kt kk s0
  replace s3 := kt kk s3
  replace s5 := kt kk s5
  replace s21 := kt kk s21
  clear kk hz s22
  have hz := zz
  have s23 := s23x
  clear zz s23x A_4
  refine vh_call 5 rfl (by kernel_rfl) (want_none rfl) (ex_call rfl (by simp only [List.map_toArray, List.map_cons, List.map_nil, (ev s21 rfl), (ev s23 rfl), evc] <;> rfl) rfl) (int_tkI B b l m.vw w1.drew hB hO1.drew hm.vw.1 hm.vw.2 (by omega)) rfl hz (by decide) ?_
  rintro e w2 ⟨rfl, hO2, hb2, ht2⟩
  refine ⟨_, rfl, (hS.trans ht2), fun A_6 zz kk s24x => ?_⟩
  have hb3 : Below B w1 w2 := (Below.refl _ _).drew.trans hb2
  have ht3 : Wi.TKp w1 w2 := ((Wi.TKp.refl w1).drewN 1).trans ht2
  replace s0 := kt kk s0
  replace s3 := kt kk s3
  replace s5 := kt kk s5
  clear kk hz s21 s23
  have hz := zz
  have s24 := s24x
  clear zz s24x A_5
  refine vh_done (by kernel_rfl) ?_
  go_wp2
  go_end0
  exact ⟨rfl, hO2, (hBw.mono hBl).trans hb3, (Wi.TKp.of_below hBw).trans ht3⟩
set_option maxRecDepth 100000 in
set_option maxHeartbeats 4000000 in
theorem wfield_2 (B b : Nat) (l : List Int) (m : Mg) (a1 a2 : Option Addr) (cl cv : Nat) (L : List En) (D : List (Int × Int)) (q : Int) (w0 w : World) (hB : B ≤ b) (h0 : Below w0.heap.size w0 w) (hB0 : w0.heap.size ≤ B) (hL : SlY yE w0 a1 L.length cl L) (hD : SlY yD w0 a2 D.length cv D) (hm : mgF m L D) (h : Wi.WOkT w b l) (hl : l.length + 30000 ≤ 140737488355328) :
    Calls Tryd.prog 37 #[.pointer (some ⟨b, 0, none⟩), m.val (.slice a1 L.length cl) (.slice a2 D.length cv), .int .i64 2, .int .u8 q] w fun e w' => e = .returned (.tuple #[]) ∧ Wi.WOkT w' b (l ++ colBy m L D 2 (!decide (q = 15))) ∧ Below B w w' ∧ Wi.TKp w w' := by
  have hlt := h.lt
  go_enter Tryd.func37, Tryd.ntmps37
  go_upto_region 7 with (refine boxMk rfl (.tmp 1) rfl m _ _ rfl ?_; intro q1 w1 hq1 M1 hBw z1; subst hq1)
  have hO1 := h.later hBw
  have hBl : B ≤ w.heap.size := by omega
  have HM : Hid (∀ v, Wi.TKp w1 v → MBox v w.heap.size m (.slice a1 L.length cl) (.slice a2 D.length cv)) := fun v hv => M1.tk hv
  have hT1 := Wi.TKp.refl w1
  refine vh_start (fun v => Wi.TKp w1 v) (by kernel_rfl) ?_
  have hS : Wi.TKp w1 w1.drew := (Wi.TKp.refl w1).drewN 1
  refine vh_gen (fun T => T.size = 86 ∧ T[0]? = some (gw true (.pointer (some ⟨b, 0, none⟩))) ∧ T[3]? = some (gw true (.int .u8 q)) ∧ T[5]? = some (gw true (.pointer (some ⟨w.heap.size, 0, none⟩)))) ⟨rfl, rfl, rfl, rfl⟩ (fun T0 ⟨hz, s0, s3, s5⟩ => ?_)
  refine vh_take 0 true (.pointer (some ⟨b, 0, none⟩)) rfl (by kernel_rfl) (by kernel_rfl) (by kernel_rfl) (want_none rfl) (fun hc v hv => ex_move rfl (ev s0 rfl)) rfl hz (by decide) hS (fun A_1 zz kk s27x => ?_)
  replace s0 := kt kk s0
  replace s3 := kt kk s3
  replace s5 := kt kk s5
  clear kk hz
  have hz := zz
  have s27 := s27x
  clear zz s27x
  refine vh_take 1 true (.pointer (some ⟨b, 0, none⟩)) rfl (by kernel_rfl) (by kernel_rfl) (by kernel_rfl) (want_none rfl) (fun hc v hv => ex_nil rfl (ev s27 rfl)) rfl hz (by decide) hS (fun A_2 zz kk s28x => ?_)
  replace s0 := kt kk s0
  replace s3 := kt kk s3
  replace s5 := kt kk s5
  clear kk hz s27
  have hz := zz
  have s28 := s28x
  clear zz s28x A_1
  refine vh_take 2 true (.pointer (some ⟨b, 0, none⟩)) rfl (by kernel_rfl) (by kernel_rfl) (by kernel_rfl) (want_none rfl) (fun hc v hv => ex_fa rfl (ev s28 rfl) (by go_simp)) rfl hz (by decide) hS (fun A_3 zz kk s29x => ?_)
  replace s0 := kt kk s0
  replace s3 := kt kk s3
  replace s5 := kt kk s5
  clear kk hz s28
  have hz := zz
  have s29 := s29x
  clear zz s29x A_2
  refine vh_take 3 true (.pointer (some ⟨w.heap.size, 13, none⟩)) rfl (by kernel_rfl) (by kernel_rfl) (by kernel_rfl) (want_none rfl) (fun hc v hv => ex_fa rfl (ev s5 rfl) (MBox.faLast _ _)) rfl hz (by decide) hS (fun A_4 zz kk s30x => ?_)
  replace s0 := kt kk s0
  replace s3 := kt kk s3
  replace s5 := kt kk s5
  replace s29 := kt kk s29
  clear kk hz
  have hz := zz
  have s30 := s30x
  clear zz s30x A_3
  refine vh_take 4 true (.int .i64 m.ls) rfl (by kernel_rfl) (by kernel_rfl) (by kernel_rfl) (want_none rfl) (fun hc v hv => ex_ld rfl (ev s30 rfl) ((HM.out v hv).ldLast)) rfl hz (by decide) hS (fun A_5 zz kk s31x => ?_)
  replace s0 := kt kk s0
  replace s3 := kt kk s3
  replace s5 := kt kk s5
  replace s29 := kt kk s29
  clear kk hz s30
  have hz := zz
  have s31 := s31x
  clear zz s31x A_4
  refine vh_call 5 rfl (by kernel_rfl) (want_none rfl) (ex_call rfl (by simp only [List.map_toArray, List.map_cons, List.map_nil, (ev s29 rfl), (ev s31 rfl), evc] <;> rfl) rfl) (int_tkI B b l m.ls w1.drew hB hO1.drew hm.ls.1 hm.ls.2 (by omega)) rfl hz (by decide) ?_
  rintro e w2 ⟨rfl, hO2, hb2, ht2⟩
  refine ⟨_, rfl, (hS.trans ht2), fun A_6 zz kk s32x => ?_⟩
  have hb3 : Below B w1 w2 := (Below.refl _ _).drew.trans hb2
  have ht3 : Wi.TKp w1 w2 := ((Wi.TKp.refl w1).drewN 1).trans ht2
  replace s0 := kt kk s0
  replace s3 := kt kk s3
  replace s5 := kt kk s5
  clear kk hz s29 s31
  have hz := zz
  have s32 := s32x
  clear zz s32x A_5
  refine vh_done (by kernel_rfl) ?_
  go_wp2
  go_end0
  exact ⟨rfl, hO2, (hBw.mono hBl).trans hb3, (Wi.TKp.of_below hBw).trans ht3⟩
set_option maxRecDepth 100000 in
set_option maxHeartbeats 4000000 in
theorem wfield_3 (B b : Nat) (l : List Int) (m : Mg) (a1 a2 : Option Addr) (cl cv : Nat) (L : List En) (D : List (Int × Int)) (q : Int) (w0 w : World) (hB : B ≤ b) (h0 : Below w0.heap.size w0 w) (hB0 : w0.heap.size ≤ B) (hL : SlY yE w0 a1 L.length cl L) (hD : SlY yD w0 a2 D.length cv D) (hm : mgF m L D) (h : Wi.WOkT w b l) (hl : l.length + 30000 ≤ 140737488355328) :
    Calls Tryd.prog 37 #[.pointer (some ⟨b, 0, none⟩), m.val (.slice a1 L.length cl) (.slice a2 D.length cv), .int .i64 3, .int .u8 q] w fun e w' => e = .returned (.tuple #[]) ∧ Wi.WOkT w' b (l ++ colBy m L D 3 (!decide (q = 15))) ∧ Below B w w' ∧ Wi.TKp w w' := by
  have hlt := h.lt
  go_enter Tryd.func37, Tryd.ntmps37
  go_upto_region 9 with (refine boxMk rfl (.tmp 1) rfl m _ _ rfl ?_; intro q1 w1 hq1 M1 hBw z1; subst hq1)
  have hO1 := h.later hBw
  have hBl : B ≤ w.heap.size := by omega
  have HM : Hid (∀ v, Wi.TKp w1 v → MBox v w.heap.size m (.slice a1 L.length cl) (.slice a2 D.length cv)) := fun v hv => M1.tk hv
  have hT1 := Wi.TKp.refl w1
  refine vh_start (fun v => Wi.TKp w1 v) (by kernel_rfl) ?_
  have hS : Wi.TKp w1 w1.drew := (Wi.TKp.refl w1).drewN 1
  refine vh_gen (fun T => T.size = 86 ∧ T[0]? = some (gw true (.pointer (some ⟨b, 0, none⟩))) ∧ T[3]? = some (gw true (.int .u8 q)) ∧ T[5]? = some (gw true (.pointer (some ⟨w.heap.size, 0, none⟩)))) ⟨rfl, rfl, rfl, rfl⟩ (fun T0 ⟨hz, s0, s3, s5⟩ => ?_)
  refine vh_take 0 true (.pointer (some ⟨b, 0, none⟩)) rfl (by kernel_rfl) (by kernel_rfl) (by kernel_rfl) (want_none rfl) (fun hc v hv => ex_move rfl (ev s0 rfl)) rfl hz (by decide) hS (fun A_1 zz kk s35x => ?_)
  replace s0 := kt kk s0
  replace s3 := kt kk s3
  replace s5 := kt kk s5
  clear kk hz
  have hz := zz
  have s35 := s35x
  clear zz s35x
  refine vh_take 1 true (.pointer (some ⟨b, 0, none⟩)) rfl (by kernel_rfl) (by kernel_rfl) (by kernel_rfl) (want_none rfl) (fun hc v hv => ex_nil rfl (ev s35 rfl)) rfl hz (by decide) hS (fun A_2 zz kk s36x => ?_)
  replace s0 := kt kk s0
  replace s3 := kt kk s3
  replace s5 := kt kk s5
  clear kk hz s35
  have hz := zz
  have s36 := s36x
  clear zz s36x A_1
  refine vh_take 2 true (.pointer (some ⟨b, 0, none⟩)) rfl (by kernel_rfl) (by kernel_rfl) (by kernel_rfl) (want_none rfl) (fun hc v hv => ex_fa rfl (ev s36 rfl) (by go_simp)) rfl hz (by decide) hS (fun A_3 zz kk s37x => ?_)
  replace s0 := kt kk s0
  replace s3 := kt kk s3
  replace s5 := kt kk s5
  clear kk hz s36
  have hz := zz
  have s37 := s37x
  clear zz s37x A_2
  refine vh_take 3 true (.pointer (some ⟨w.heap.size, 11, none⟩)) rfl (by kernel_rfl) (by kernel_rfl) (by kernel_rfl) (want_none rfl) (fun hc v hv => ex_fa rfl (ev s5 rfl) (MBox.faPlace _ _)) rfl hz (by decide) hS (fun A_4 zz kk s38x => ?_)
  replace s0 := kt kk s0
  replace s3 := kt kk s3
  replace s5 := kt kk s5
  replace s37 := kt kk s37
  clear kk hz
  have hz := zz
  have s38 := s38x
  clear zz s38x A_3
  refine vh_take 4 true (.int .i64 m.p) rfl (by kernel_rfl) (by kernel_rfl) (by kernel_rfl) (want_none rfl) (fun hc v hv => ex_ld rfl (ev s38 rfl) ((HM.out v hv).ldPlace)) rfl hz (by decide) hS (fun A_5 zz kk s39x => ?_)
  replace s0 := kt kk s0
  replace s3 := kt kk s3
  replace s5 := kt kk s5
  replace s37 := kt kk s37
  clear kk hz s38
  have hz := zz
  have s39 := s39x
  clear zz s39x A_4
  refine vh_call 5 rfl (by kernel_rfl) (want_none rfl) (ex_call rfl (by simp only [List.map_toArray, List.map_cons, List.map_nil, (ev s37 rfl), (ev s39 rfl), evc] <;> rfl) rfl) (int_tkI B b l m.p w1.drew hB hO1.drew hm.p.1 hm.p.2 (by omega)) rfl hz (by decide) ?_
  rintro e w2 ⟨rfl, hO2, hb2, ht2⟩
  refine ⟨_, rfl, (hS.trans ht2), fun A_6 zz kk s40x => ?_⟩
  have hb3 : Below B w1 w2 := (Below.refl _ _).drew.trans hb2
  have ht3 : Wi.TKp w1 w2 := ((Wi.TKp.refl w1).drewN 1).trans ht2
  replace s0 := kt kk s0
  replace s3 := kt kk s3
  replace s5 := kt kk s5
  clear kk hz s37 s39
  have hz := zz
  have s40 := s40x
  clear zz s40x A_5
  refine vh_done (by kernel_rfl) ?_
  go_wp2
  go_end0
  exact ⟨rfl, hO2, (hBw.mono hBl).trans hb3, (Wi.TKp.of_below hBw).trans ht3⟩
set_option maxRecDepth 100000 in
set_option maxHeartbeats 4000000 in
theorem wfield_4 (B b : Nat) (l : List Int) (m : Mg) (a1 a2 : Option Addr) (cl cv : Nat) (L : List En) (D : List (Int × Int)) (q : Int) (w0 w : World) (hB : B ≤ b) (h0 : Below w0.heap.size w0 w) (hB0 : w0.heap.size ≤ B) (hL : SlY yE w0 a1 L.length cl L) (hD : SlY yD w0 a2 D.length cv D) (hm : mgF m L D) (h : Wi.WOkT w b l) (hl : l.length + 30000 ≤ 140737488355328) :
    Calls Tryd.prog 37 #[.pointer (some ⟨b, 0, none⟩), m.val (.slice a1 L.length cl) (.slice a2 D.length cv), .int .i64 4, .int .u8 q] w fun e w' => e = .returned (.tuple #[]) ∧ Wi.WOkT w' b (l ++ colBy m L D 4 (!decide (q = 15))) ∧ Below B w w' ∧ Wi.TKp w w' := by
  have hlt := h.lt
  go_enter Tryd.func37, Tryd.ntmps37
  go_upto_region 11 with (refine boxMk rfl (.tmp 1) rfl m _ _ rfl ?_; intro q1 w1 hq1 M1 hBw z1; subst hq1)
  have hO1 := h.later hBw
  have hBl : B ≤ w.heap.size := by omega
  have HM : Hid (∀ v, Wi.TKp w1 v → MBox v w.heap.size m (.slice a1 L.length cl) (.slice a2 D.length cv)) := fun v hv => M1.tk hv
  have hT1 := Wi.TKp.refl w1
  refine vh_start (fun v => Wi.TKp w1 v) (by kernel_rfl) ?_
  have hS : Wi.TKp w1 w1.drew := (Wi.TKp.refl w1).drewN 1
  refine vh_gen (fun T => T.size = 86 ∧ T[0]? = some (gw true (.pointer (some ⟨b, 0, none⟩))) ∧ T[3]? = some (gw true (.int .u8 q)) ∧ T[5]? = some (gw true (.pointer (some ⟨w.heap.size, 0, none⟩)))) ⟨rfl, rfl, rfl, rfl⟩ (fun T0 ⟨hz, s0, s3, s5⟩ => ?_)
  refine vh_take 0 true (.pointer (some ⟨b, 0, none⟩)) rfl (by kernel_rfl) (by kernel_rfl) (by kernel_rfl) (want_none rfl) (fun hc v hv => ex_move rfl (ev s0 rfl)) rfl hz (by decide) hS (fun A_1 zz kk s43x => ?_)
  replace s0 := kt kk s0
  replace s3 := kt kk s3
  replace s5 := kt kk s5
  clear kk hz
  have hz := zz
  have s43 := s43x
  clear zz s43x
  refine vh_take 1 true (.pointer (some ⟨b, 0, none⟩)) rfl (by kernel_rfl) (by kernel_rfl) (by kernel_rfl) (want_none rfl) (fun hc v hv => ex_nil rfl (ev s43 rfl)) rfl hz (by decide) hS (fun A_2 zz kk s44x => ?_)
  replace s0 := kt kk s0
  replace s3 := kt kk s3
  replace s5 := kt kk s5
  clear kk hz s43
  have hz := zz
  have s44 := s44x
  clear zz s44x A_1
  refine vh_take 2 true (.pointer (some ⟨b, 0, none⟩)) rfl (by kernel_rfl) (by kernel_rfl) (by kernel_rfl) (want_none rfl) (fun hc v hv => ex_fa rfl (ev s44 rfl) (by go_simp)) rfl hz (by decide) hS (fun A_3 zz kk s45x => ?_)
  replace s0 := kt kk s0
  replace s3 := kt kk s3
  replace s5 := kt kk s5
  clear kk hz s44
  have hz := zz
  have s45 := s45x
  clear zz s45x A_2
  refine vh_take 3 true (.pointer (some ⟨w.heap.size, 12, none⟩)) rfl (by kernel_rfl) (by kernel_rfl) (by kernel_rfl) (want_none rfl) (fun hc v hv => ex_fa rfl (ev s5 rfl) (MBox.faCommit _ _)) rfl hz (by decide) hS (fun A_4 zz kk s46x => ?_)
  replace s0 := kt kk s0
  replace s3 := kt kk s3
  replace s5 := kt kk s5
  replace s45 := kt kk s45
  clear kk hz
  have hz := zz
  have s46 := s46x
  clear zz s46x A_3
  refine vh_take 4 true (.int .i64 m.cm) rfl (by kernel_rfl) (by kernel_rfl) (by kernel_rfl) (want_none rfl) (fun hc v hv => ex_ld rfl (ev s46 rfl) ((HM.out v hv).ldCommit)) rfl hz (by decide) hS (fun A_5 zz kk s47x => ?_)
  replace s0 := kt kk s0
  replace s3 := kt kk s3
  replace s5 := kt kk s5
  replace s45 := kt kk s45
  clear kk hz s46
  have hz := zz
  have s47 := s47x
  clear zz s47x A_4
  refine vh_call 5 rfl (by kernel_rfl) (want_none rfl) (ex_call rfl (by simp only [List.map_toArray, List.map_cons, List.map_nil, (ev s45 rfl), (ev s47 rfl), evc] <;> rfl) rfl) (int_tkI B b l m.cm w1.drew hB hO1.drew hm.cm.1 hm.cm.2 (by omega)) rfl hz (by decide) ?_
  rintro e w2 ⟨rfl, hO2, hb2, ht2⟩
  refine ⟨_, rfl, (hS.trans ht2), fun A_6 zz kk s48x => ?_⟩
  have hb3 : Below B w1 w2 := (Below.refl _ _).drew.trans hb2
  have ht3 : Wi.TKp w1 w2 := ((Wi.TKp.refl w1).drewN 1).trans ht2
  replace s0 := kt kk s0
  replace s3 := kt kk s3
  replace s5 := kt kk s5
  clear kk hz s45 s47
  have hz := zz
  have s48 := s48x
  clear zz s48x A_5
  refine vh_done (by kernel_rfl) ?_
  go_wp2
  go_end0
  exact ⟨rfl, hO2, (hBw.mono hBl).trans hb3, (Wi.TKp.of_below hBw).trans ht3⟩
set_option maxRecDepth 100000 in
set_option maxHeartbeats 4000000 in
theorem wfield_5 (B b : Nat) (l : List Int) (m : Mg) (a1 a2 : Option Addr) (cl cv : Nat) (L : List En) (D : List (Int × Int)) (q : Int) (w0 w : World) (hB : B ≤ b) (h0 : Below w0.heap.size w0 w) (hB0 : w0.heap.size ≤ B) (hL : SlY yE w0 a1 L.length cl L) (hD : SlY yD w0 a2 D.length cv D) (hm : mgF m L D) (h : Wi.WOkT w b l) (hl : l.length + 30000 ≤ 140737488355328) :
    Calls Tryd.prog 37 #[.pointer (some ⟨b, 0, none⟩), m.val (.slice a1 L.length cl) (.slice a2 D.length cv), .int .i64 5, .int .u8 q] w fun e w' => e = .returned (.tuple #[]) ∧ Wi.WOkT w' b (l ++ colBy m L D 5 (!decide (q = 15))) ∧ Below B w w' ∧ Wi.TKp w w' := by
  have hlt := h.lt
  go_enter Tryd.func37, Tryd.ntmps37
  go_upto_region 13 with (refine boxMk rfl (.tmp 1) rfl m _ _ rfl ?_; intro q1 w1 hq1 M1 hBw z1; subst hq1)
  have hO1 := h.later hBw
  have hBl : B ≤ w.heap.size := by omega
  have HM : Hid (∀ v, Wi.TKp w1 v → MBox v w.heap.size m (.slice a1 L.length cl) (.slice a2 D.length cv)) := fun v hv => M1.tk hv
  have hT1 := Wi.TKp.refl w1
  refine wp_region_lit ?_
  refine vl_gen (fun T => T.size = 86 ∧ T[0]? = some (gw true (.pointer (some ⟨b, 0, none⟩))) ∧ T[3]? = some (gw true (.int .u8 q)) ∧ T[5]? = some (gw true (.pointer (some ⟨w.heap.size, 0, none⟩)))) ⟨rfl, rfl, rfl, rfl⟩ (fun T0 ⟨hz, s0, s3, s5⟩ => ?_)
  refine vt _ (ex_move rfl (ev s0 rfl)) hz (fun A_1 zz kk s51x => ?_)
  replace s0 := kt kk s0
  replace s3 := kt kk s3
  replace s5 := kt kk s5
  clear kk hz
  have hz := zz
  have s51 := s51x
  clear zz s51x
  refine vt (.pointer (some ⟨w.heap.size, 14, none⟩)) (ex_fa rfl (ev s5 rfl) (MBox.faDraw _ _)) hz (fun A_2 zz kk s52x => ?_)
  replace s0 := kt kk s0
  replace s3 := kt kk s3
  replace s5 := kt kk s5
  replace s51 := kt kk s51
  clear kk hz
  have hz := zz
  have s52 := s52x
  clear zz s52x A_1
  refine vt (.agg #[.int .u64 m.d.1, .int .u64 m.d.2]) (ex_ld rfl (ev s52 rfl) ((HM.out w1 hT1).ldDraw)) hz (fun A_3 zz kk s53x => ?_)
  replace s0 := kt kk s0
  replace s3 := kt kk s3
  replace s5 := kt kk s5
  replace s51 := kt kk s51
  clear kk hz s52
  have hz := zz
  have s53 := s53x
  clear zz s53x A_2
  refine vcallP (want_none rfl) (ex_call rfl (by simp only [List.map_toArray, List.map_cons, List.map_nil, (ev s51 rfl), (ev s53 rfl), evc] <;> rfl) rfl) (wdraw_I B b l m.d w1 hB hO1 hm.d (by omega)) rfl hz (by decide) ?_
  rintro e w2 ⟨rfl, hO2, hb2, ht2⟩
  refine ⟨_, rfl, fun A_4 zz kk s54x => ?_⟩
  have hb3 := hb2
  have ht3 := ht2
  replace s0 := kt kk s0
  replace s3 := kt kk s3
  replace s5 := kt kk s5
  clear kk hz s51 s53
  have hz := zz
  have s54 := s54x
  clear zz s54x A_3
  refine wpList_nil ?_
  go_wp2
  go_end0
  exact ⟨rfl, hO2, (hBw.mono hBl).trans hb3, (Wi.TKp.of_below hBw).trans ht3⟩
set_option maxRecDepth 100000 in
set_option maxHeartbeats 4000000 in
theorem wfield_6 (B b : Nat) (l : List Int) (m : Mg) (a1 a2 : Option Addr) (cl cv : Nat) (L : List En) (D : List (Int × Int)) (q : Int) (w0 w : World) (hB : B ≤ b) (h0 : Below w0.heap.size w0 w) (hB0 : w0.heap.size ≤ B) (hL : SlY yE w0 a1 L.length cl L) (hD : SlY yD w0 a2 D.length cv D) (hm : mgF m L D) (h : Wi.WOkT w b l) (hl : l.length + 30000 ≤ 140737488355328) :
    Calls Tryd.prog 37 #[.pointer (some ⟨b, 0, none⟩), m.val (.slice a1 L.length cl) (.slice a2 D.length cv), .int .i64 6, .int .u8 q] w fun e w' => e = .returned (.tuple #[]) ∧ Wi.WOkT w' b (l ++ colBy m L D 6 (!decide (q = 15))) ∧ Below B w w' ∧ Wi.TKp w w' := by
  have hlt := h.lt
  go_enter Tryd.func37, Tryd.ntmps37
  go_upto_region 15 with (refine boxMk rfl (.tmp 1) rfl m _ _ rfl ?_; intro q1 w1 hq1 M1 hBw z1; subst hq1)
  have hO1 := h.later hBw
  have hBl : B ≤ w.heap.size := by omega
  have HM : Hid (∀ v, Wi.TKp w1 v → MBox v w.heap.size m (.slice a1 L.length cl) (.slice a2 D.length cv)) := fun v hv => M1.tk hv
  have hT1 := Wi.TKp.refl w1
  refine wp_region_lit ?_
  refine vl_gen (fun T => T.size = 86 ∧ T[0]? = some (gw true (.pointer (some ⟨b, 0, none⟩))) ∧ T[3]? = some (gw true (.int .u8 q)) ∧ T[5]? = some (gw true (.pointer (some ⟨w.heap.size, 0, none⟩)))) ⟨rfl, rfl, rfl, rfl⟩ (fun T0 ⟨hz, s0, s3, s5⟩ => ?_)
  refine vt _ (ex_move rfl (ev s0 rfl)) hz (fun A_1 zz kk s57x => ?_)
  replace s0 := kt kk s0
  replace s3 := kt kk s3
  replace s5 := kt kk s5
  clear kk hz
  have hz := zz
  have s57 := s57x
  clear zz s57x
  refine vt (.pointer (some ⟨w.heap.size, 3, none⟩)) (ex_fa rfl (ev s5 rfl) (MBox.faEntry _ _)) hz (fun A_2 zz kk s58x => ?_)
  replace s0 := kt kk s0
  replace s3 := kt kk s3
  replace s5 := kt kk s5
  replace s57 := kt kk s57
  clear kk hz
  have hz := zz
  have s58 := s58x
  clear zz s58x A_1
  refine vt (.agg #[.int .i64 m.e.c, .int .i64 m.e.n, .int .i64 m.e.o.k, .int .i64 m.e.o.s, .string m.e.o.v]) (ex_ld rfl (ev s58 rfl) ((HM.out w1 hT1).ldEntry)) hz (fun A_3 zz kk s59x => ?_)
  replace s0 := kt kk s0
  replace s3 := kt kk s3
  replace s5 := kt kk s5
  replace s57 := kt kk s57
  clear kk hz s58
  have hz := zz
  have s59 := s59x
  clear zz s59x A_2
  refine vcallP (want_none rfl) (ex_call rfl (by simp only [List.map_toArray, List.map_cons, List.map_nil, (ev s57 rfl), (ev s59 rfl), evc] <;> rfl) rfl) (wname_I B b l m.e w1 hB hO1 ⟨hm.e.1, hm.e.2.1, hm.e.2.2.1, hm.e.2.2.2.1⟩ (by omega)) rfl hz (by decide) ?_
  rintro e w2 ⟨rfl, hO2, hb2, ht2⟩
  refine ⟨_, rfl, fun A_4 zz kk s60x => ?_⟩
  have hb3 := hb2
  have ht3 := ht2
  replace s0 := kt kk s0
  replace s3 := kt kk s3
  replace s5 := kt kk s5
  clear kk hz s57 s59
  have hz := zz
  have s60 := s60x
  clear zz s60x A_3
  refine wpList_nil ?_
  go_upto_region 16 with fail
  refine wp_region_lit ?_
  refine vt _ (ex_move rfl (ev s3 rfl)) hz (fun C_1 zz kk s61x => ?_)
  replace s0 := kt kk s0
  replace s3 := kt kk s3
  replace s5 := kt kk s5
  clear kk hz s60
  have hz := zz
  have s61 := s61x
  clear zz s61x
  refine vt (.bool (!decide (q = 15))) (ex_bin rfl (ev s61 rfl) rfl (neqU8 _ _ _ _ _)) hz (fun C_2 zz kk s62x => ?_)
  replace s0 := kt kk s0
  replace s3 := kt kk s3
  replace s5 := kt kk s5
  clear kk hz s61
  have hz := zz
  have s62 := s62x
  clear zz s62x C_1
  refine wpList_nil ?_
  go_upto_region 17 with fail
  cases e6 : !decide (q = 15)
  · refine wp_cond_false ((ev s62 rfl).trans (congrArg Value.bool e6)) ?_
    go_wp2
    go_end0
    exact ⟨rfl, by rw [e6]; simpa [colBy] using hO2, (hBw.mono hBl).trans hb3, (Wi.TKp.of_below hBw).trans ht3⟩
  refine wp_cond_true ((ev s62 rfl).trans (congrArg Value.bool e6)) ?_
  go_upto_region 17 with fail
  refine wp_region_lit ?_
  refine vt _ (ex_move rfl (ev s0 rfl)) hz (fun D_1 zz kk s63x => ?_)
  replace s0 := kt kk s0
  replace s5 := kt kk s5
  clear kk hz s3 s62
  have hz := zz
  have s63 := s63x
  clear zz s63x
  refine vt (.pointer (some ⟨w.heap.size, 3, none⟩)) (ex_fa rfl (ev s5 rfl) (MBox.faEntry _ _)) hz (fun D_2 zz kk s64x => ?_)
  replace s0 := kt kk s0
  replace s63 := kt kk s63
  clear kk hz s5
  have hz := zz
  have s64 := s64x
  clear zz s64x D_1
  refine vt (.pointer (some ⟨w.heap.size, 5, none⟩)) (ex_fa rfl (ev s64 rfl) (MBox.faOp _ _)) hz (fun D_3 zz kk s65x => ?_)
  replace s0 := kt kk s0
  replace s63 := kt kk s63
  clear kk hz s64
  have hz := zz
  have s65 := s65x
  clear zz s65x D_2
  refine vt (.agg #[.int .i64 m.e.o.k, .int .i64 m.e.o.s, .string m.e.o.v]) (ex_ld rfl (ev s65 rfl) ((HM.out w2 ht2).ldOp)) hz (fun D_4 zz kk s66x => ?_)
  replace s0 := kt kk s0
  replace s63 := kt kk s63
  clear kk hz s65
  have hz := zz
  have s66 := s66x
  clear zz s66x D_3
  refine vcallP (want_none rfl) (ex_call rfl (by simp only [List.map_toArray, List.map_cons, List.map_nil, (ev s63 rfl), (ev s66 rfl), evc] <;> rfl) rfl) (wop_I B b _ m.e.o.k m.e.o.s m.e.o.v w2 hB hO2 ⟨hm.e.2.2.2.2.1, hm.e.2.2.2.2.2.1, hm.e.2.2.2.2.2.2.1, hm.e.2.2.2.2.2.2.2.1, hm.e.2.2.2.2.2.2.2.2⟩ (by rw [List.length_append]; have := nmBy_le (x := m.e.c.toNat) (y := m.e.n.toNat) (by have := hm.e.2.1; have := hm.e.1; omega) (by have := hm.e.2.2.2.1; have := hm.e.2.2.1; omega); omega)) rfl hz (by decide) ?_
  rintro e w3 ⟨rfl, hO3, hb4, ht4⟩
  refine ⟨_, rfl, fun D_5 zz kk s67x => ?_⟩
  replace s0 := kt kk s0
  clear kk hz s63 s66
  have hz := zz
  have s67 := s67x
  clear zz s67x D_4
  refine wpList_nil ?_
  go_wp2
  go_end0
  exact ⟨rfl, by rw [e6]; simpa [colBy, List.append_assoc] using hO3, (hBw.mono hBl).trans (hb3.trans hb4), (Wi.TKp.of_below hBw).trans (ht3.trans ht4)⟩
set_option maxRecDepth 100000 in
set_option maxHeartbeats 4000000 in
theorem wfield_7 (B b : Nat) (l : List Int) (m : Mg) (a1 a2 : Option Addr) (cl cv : Nat) (L : List En) (D : List (Int × Int)) (q : Int) (w0 w : World) (hB : B ≤ b) (h0 : Below w0.heap.size w0 w) (hB0 : w0.heap.size ≤ B) (hL : SlY yE w0 a1 L.length cl L) (hD : SlY yD w0 a2 D.length cv D) (hm : mgF m L D) (h : Wi.WOkT w b l) (hl : l.length + 30000 ≤ 140737488355328) :
    Calls Tryd.prog 37 #[.pointer (some ⟨b, 0, none⟩), m.val (.slice a1 L.length cl) (.slice a2 D.length cv), .int .i64 7, .int .u8 q] w fun e w' => e = .returned (.tuple #[]) ∧ Wi.WOkT w' b (l ++ colBy m L D 7 (!decide (q = 15))) ∧ Below B w w' ∧ Wi.TKp w w' := by
  have hlt := h.lt
  go_enter Tryd.func37, Tryd.ntmps37
  go_upto_region 19 with (refine boxMk rfl (.tmp 1) rfl m _ _ rfl ?_; intro q1 w1 hq1 M1 hBw z1; subst hq1)
  have hO1 := h.later hBw
  have hBl : B ≤ w.heap.size := by omega
  have HM : Hid (∀ v, Wi.TKp w1 v → MBox v w.heap.size m (.slice a1 L.length cl) (.slice a2 D.length cv)) := fun v hv => M1.tk hv
  have hT1 := Wi.TKp.refl w1
  refine wp_region_lit ?_
  refine vl_gen (fun T => T.size = 86 ∧ T[0]? = some (gw true (.pointer (some ⟨b, 0, none⟩))) ∧ T[3]? = some (gw true (.int .u8 q)) ∧ T[5]? = some (gw true (.pointer (some ⟨w.heap.size, 0, none⟩)))) ⟨rfl, rfl, rfl, rfl⟩ (fun T0 ⟨hz, s0, s3, s5⟩ => ?_)
  refine vt _ (ex_move rfl (ev s0 rfl)) hz (fun A_1 zz kk s70x => ?_)
  replace s0 := kt kk s0
  replace s3 := kt kk s3
  replace s5 := kt kk s5
  clear kk hz
  have hz := zz
  have s70 := s70x
  clear zz s70x
  refine vt (.pointer (some ⟨w.heap.size, 8, none⟩)) (ex_fa rfl (ev s5 rfl) (MBox.faResult _ _)) hz (fun A_2 zz kk s71x => ?_)
  replace s0 := kt kk s0
  replace s3 := kt kk s3
  replace s5 := kt kk s5
  replace s70 := kt kk s70
  clear kk hz
  have hz := zz
  have s71 := s71x
  clear zz s71x A_1
  refine vt (.agg #[.int .i64 m.r.1, .int .i64 m.r.2.1, .string m.r.2.2]) (ex_ld rfl (ev s71 rfl) ((HM.out w1 hT1).ldResult)) hz (fun A_3 zz kk s72x => ?_)
  replace s0 := kt kk s0
  replace s3 := kt kk s3
  replace s5 := kt kk s5
  replace s70 := kt kk s70
  clear kk hz s71
  have hz := zz
  have s72 := s72x
  clear zz s72x A_2
  refine vcallP (want_none rfl) (ex_call rfl (by simp only [List.map_toArray, List.map_cons, List.map_nil, (ev s70 rfl), (ev s72 rfl), evc] <;> rfl) rfl) (wresult_I B b l m.r w1 hB hO1 hm.r (by omega)) rfl hz (by decide) ?_
  rintro e w2 ⟨rfl, hO2, hb2, ht2⟩
  refine ⟨_, rfl, fun A_4 zz kk s73x => ?_⟩
  have hb3 := hb2
  have ht3 := ht2
  replace s0 := kt kk s0
  replace s3 := kt kk s3
  replace s5 := kt kk s5
  clear kk hz s70 s72
  have hz := zz
  have s73 := s73x
  clear zz s73x A_3
  refine wpList_nil ?_
  go_wp2
  go_end0
  exact ⟨rfl, hO2, (hBw.mono hBl).trans hb3, (Wi.TKp.of_below hBw).trans ht3⟩
set_option maxRecDepth 100000 in
set_option maxHeartbeats 4000000 in
theorem wfield_8 (B b : Nat) (l : List Int) (m : Mg) (a1 a2 : Option Addr) (cl cv : Nat) (L : List En) (D : List (Int × Int)) (q : Int) (w0 w : World) (hB : B ≤ b) (h0 : Below w0.heap.size w0 w) (hB0 : w0.heap.size ≤ B) (hL : SlY yE w0 a1 L.length cl L) (hD : SlY yD w0 a2 D.length cv D) (hm : mgF m L D) (h : Wi.WOkT w b l) (hl : l.length + 30000 ≤ 140737488355328) :
    Calls Tryd.prog 37 #[.pointer (some ⟨b, 0, none⟩), m.val (.slice a1 L.length cl) (.slice a2 D.length cv), .int .i64 8, .int .u8 q] w fun e w' => e = .returned (.tuple #[]) ∧ Wi.WOkT w' b (l ++ colBy m L D 8 (!decide (q = 15))) ∧ Below B w w' ∧ Wi.TKp w w' := by
  have hlt := h.lt
  go_enter Tryd.func37, Tryd.ntmps37
  go_upto_region 21 with (refine boxMk rfl (.tmp 1) rfl m _ _ rfl ?_; intro q1 w1 hq1 M1 hBw z1; subst hq1)
  have hO1 := h.later hBw
  have hBl : B ≤ w.heap.size := by omega
  have HM : Hid (∀ v, Wi.TKp w1 v → MBox v w.heap.size m (.slice a1 L.length cl) (.slice a2 D.length cv)) := fun v hv => M1.tk hv
  have hT1 := Wi.TKp.refl w1
  refine wp_region_lit ?_
  refine vl_gen (fun T => T.size = 86 ∧ T[0]? = some (gw true (.pointer (some ⟨b, 0, none⟩))) ∧ T[3]? = some (gw true (.int .u8 q)) ∧ T[5]? = some (gw true (.pointer (some ⟨w.heap.size, 0, none⟩)))) ⟨rfl, rfl, rfl, rfl⟩ (fun T0 ⟨hz, s0, s3, s5⟩ => ?_)
  refine vt _ (ex_move rfl (ev s0 rfl)) hz (fun A_1 zz kk s76x => ?_)
  replace s0 := kt kk s0
  replace s3 := kt kk s3
  replace s5 := kt kk s5
  clear kk hz
  have hz := zz
  have s76 := s76x
  clear zz s76x
  refine vt (.pointer (some ⟨w.heap.size, 16, none⟩)) (ex_fa rfl (ev s5 rfl) (MBox.faLog _ _)) hz (fun A_2 zz kk s77x => ?_)
  replace s0 := kt kk s0
  replace s3 := kt kk s3
  replace s5 := kt kk s5
  replace s76 := kt kk s76
  clear kk hz
  have hz := zz
  have s77 := s77x
  clear zz s77x A_1
  refine vt (.slice a1 L.length cl) (ex_ld rfl (ev s77 rfl) ((HM.out w1 hT1).ldLog)) hz (fun A_3 zz kk s78x => ?_)
  replace s0 := kt kk s0
  replace s3 := kt kk s3
  replace s5 := kt kk s5
  replace s76 := kt kk s76
  clear kk hz s77
  have hz := zz
  have s78 := s78x
  clear zz s78x A_2
  refine vcallP (want_none rfl) (ex_call rfl (by simp only [List.map_toArray, List.map_cons, List.map_nil, (ev s76 rfl), (ev s78 rfl), evc] <;> rfl) rfl) (wlog_tk B b l L a1 cl w0 w1 hB (h0.trans (hBw.mono h0.size)) hB0 hL hm.es hO1 hm.lL (by omega)) rfl hz (by decide) ?_
  rintro e w2 ⟨rfl, hO2, hb2, ht2⟩
  refine ⟨_, rfl, fun A_4 zz kk s79x => ?_⟩
  have hb3 := hb2
  have ht3 := ht2
  replace s0 := kt kk s0
  replace s3 := kt kk s3
  replace s5 := kt kk s5
  clear kk hz s76 s78
  have hz := zz
  have s79 := s79x
  clear zz s79x A_3
  refine wpList_nil ?_
  go_wp2
  go_end0
  exact ⟨rfl, hO2, (hBw.mono hBl).trans hb3, (Wi.TKp.of_below hBw).trans ht3⟩
set_option maxRecDepth 100000 in
set_option maxHeartbeats 4000000 in
theorem wfield_9 (B b : Nat) (l : List Int) (m : Mg) (a1 a2 : Option Addr) (cl cv : Nat) (L : List En) (D : List (Int × Int)) (q : Int) (w0 w : World) (hB : B ≤ b) (h0 : Below w0.heap.size w0 w) (hB0 : w0.heap.size ≤ B) (hL : SlY yE w0 a1 L.length cl L) (hD : SlY yD w0 a2 D.length cv D) (hm : mgF m L D) (h : Wi.WOkT w b l) (hl : l.length + 30000 ≤ 140737488355328) :
    Calls Tryd.prog 37 #[.pointer (some ⟨b, 0, none⟩), m.val (.slice a1 L.length cl) (.slice a2 D.length cv), .int .i64 9, .int .u8 q] w fun e w' => e = .returned (.tuple #[]) ∧ Wi.WOkT w' b (l ++ colBy m L D 9 (!decide (q = 15))) ∧ Below B w w' ∧ Wi.TKp w w' := by
  have hlt := h.lt
  go_enter Tryd.func37, Tryd.ntmps37
  go_upto_region 23 with (refine boxMk rfl (.tmp 1) rfl m _ _ rfl ?_; intro q1 w1 hq1 M1 hBw z1; subst hq1)
  have hO1 := h.later hBw
  have hBl : B ≤ w.heap.size := by omega
  have HM : Hid (∀ v, Wi.TKp w1 v → MBox v w.heap.size m (.slice a1 L.length cl) (.slice a2 D.length cv)) := fun v hv => M1.tk hv
  have hT1 := Wi.TKp.refl w1
  refine wp_region_lit ?_
  refine vl_gen (fun T => T.size = 86 ∧ T[0]? = some (gw true (.pointer (some ⟨b, 0, none⟩))) ∧ T[3]? = some (gw true (.int .u8 q)) ∧ T[5]? = some (gw true (.pointer (some ⟨w.heap.size, 0, none⟩)))) ⟨rfl, rfl, rfl, rfl⟩ (fun T0 ⟨hz, s0, s3, s5⟩ => ?_)
  refine vt _ (ex_move rfl (ev s0 rfl)) hz (fun A_1 zz kk s82x => ?_)
  replace s0 := kt kk s0
  replace s3 := kt kk s3
  replace s5 := kt kk s5
  clear kk hz
  have hz := zz
  have s82 := s82x
  clear zz s82x
  refine vt (.pointer (some ⟨w.heap.size, 17, none⟩)) (ex_fa rfl (ev s5 rfl) (MBox.faVector _ _)) hz (fun A_2 zz kk s83x => ?_)
  replace s0 := kt kk s0
  replace s3 := kt kk s3
  replace s5 := kt kk s5
  replace s82 := kt kk s82
  clear kk hz
  have hz := zz
  have s83 := s83x
  clear zz s83x A_1
  refine vt (.slice a2 D.length cv) (ex_ld rfl (ev s83 rfl) ((HM.out w1 hT1).ldVector)) hz (fun A_3 zz kk s84x => ?_)
  replace s0 := kt kk s0
  replace s3 := kt kk s3
  replace s5 := kt kk s5
  replace s82 := kt kk s82
  clear kk hz s83
  have hz := zz
  have s84 := s84x
  clear zz s84x A_2
  refine vcallP (want_none rfl) (ex_call rfl (by simp only [List.map_toArray, List.map_cons, List.map_nil, (ev s82 rfl), (ev s84 rfl), evc] <;> rfl) rfl) (wvector_tk B b l D a2 cv w0 w1 hB (h0.trans (hBw.mono h0.size)) hB0 hD hm.ds hO1 hm.lD (by omega)) rfl hz (by decide) ?_
  rintro e w2 ⟨rfl, hO2, hb2, ht2⟩
  refine ⟨_, rfl, fun A_4 zz kk s85x => ?_⟩
  have hb3 := hb2
  have ht3 := ht2
  replace s0 := kt kk s0
  replace s3 := kt kk s3
  replace s5 := kt kk s5
  clear kk hz s82 s84
  have hz := zz
  have s85 := s85x
  clear zz s85x A_3
  refine wpList_nil ?_
  go_wp2
  go_end0
  exact ⟨rfl, hO2, (hBw.mono hBl).trans hb3, (Wi.TKp.of_below hBw).trans ht3⟩
theorem wfield_all (B b : Nat) (l : List Int) (m : Mg) (a1 a2 : Option Addr) (cl cv : Nat) (L : List En) (D : List (Int × Int)) (j : Nat) (hj : j < 10) (q : Int) (w0 w : World) (hB : B ≤ b) (h0 : Below w0.heap.size w0 w) (hB0 : w0.heap.size ≤ B) (hL : SlY yE w0 a1 L.length cl L) (hD : SlY yD w0 a2 D.length cv D) (hm : mgF m L D) (h : Wi.WOkT w b l) (hl : l.length + 30000 ≤ 140737488355328) :
    Calls Tryd.prog 37 #[.pointer (some ⟨b, 0, none⟩), m.val (.slice a1 L.length cl) (.slice a2 D.length cv), .int .i64 (j : Int), .int .u8 q] w fun e w' => e = .returned (.tuple #[]) ∧ Wi.WOkT w' b (l ++ colBy m L D j (!decide (q = 15))) ∧ Below B w w' ∧ Wi.TKp w w' := by
  match j, hj with
  | 0, _ => exact wfield_0 B b l m a1 a2 cl cv L D q w0 w hB h0 hB0 hL hD hm h hl
  | 1, _ => exact wfield_1 B b l m a1 a2 cl cv L D q w0 w hB h0 hB0 hL hD hm h hl
  | 2, _ => exact wfield_2 B b l m a1 a2 cl cv L D q w0 w hB h0 hB0 hL hD hm h hl
  | 3, _ => exact wfield_3 B b l m a1 a2 cl cv L D q w0 w hB h0 hB0 hL hD hm h hl
  | 4, _ => exact wfield_4 B b l m a1 a2 cl cv L D q w0 w hB h0 hB0 hL hD hm h hl
  | 5, _ => exact wfield_5 B b l m a1 a2 cl cv L D q w0 w hB h0 hB0 hL hD hm h hl
  | 6, _ => exact wfield_6 B b l m a1 a2 cl cv L D q w0 w hB h0 hB0 hL hD hm h hl
  | 7, _ => exact wfield_7 B b l m a1 a2 cl cv L D q w0 w hB h0 hB0 hL hD hm h hl
  | 8, _ => exact wfield_8 B b l m a1 a2 cl cv L D q w0 w hB h0 hB0 hL hD hm h hl
  | 9, _ => exact wfield_9 B b l m a1 a2 cl cv L D q w0 w hB h0 hB0 hL hD hm h hl
  | (k + 10), hk => exact absurd hk (by omega)
theorem ckA_lgA : ∀ (L past : List En), (ckA past L).1 = lgA past L
  | [], past => rfl
  | e :: r, past => by
    unfold ckA lgA
    by_cases h : er past e ≠ 0
    · rw [if_pos h, if_pos h]
    · rw [if_neg h, if_neg h]; exact ckA_lgA r _
theorem chk_lg {r : Int} (h1 : 1 ≤ r) (h2 : r ≤ 256) (L : List En) : (chk L r).1 = lg L r := by
  unfold chk lg
  rw [if_neg (by omega)]
  by_cases h : r < L.length
  · rw [if_pos h, if_pos h]
  · rw [if_neg h, if_neg h]; exact ckA_lgA L []
theorem chk_one (e : En) : (chk [e] 1).1 = ckE e := by
  rw [chk_lg (by decide) (by decide)]
  show (if (1 : Int) < ((1 : Nat) : Int) then 60 else lgA [] [e]) = ckE e
  rw [if_neg (by decide)]
  show (if er [] e ≠ 0 then er [] e else 0) = ckE e
  have he : er [] e = ckE e := by
    unfold er
    by_cases h : ckE e ≠ 0
    · rw [if_pos h]
    · rw [if_neg h]
      have h0 : ckE e = 0 := by omega
      rw [h0]
      rfl
  rw [he]
  by_cases h : ckE e ≠ 0
  · rw [if_pos h]
  · rw [if_neg h]; omega
theorem nmB_en (e : En) (k : Int) (hk : k = 2 ∨ k = 14) : nmB e = enK k e := by
  unfold nmB enK
  rw [if_pos hk, chk_one]
  have h : ckE (nmE e) = if e.c < 0 ∨ 16 ≤ e.c then 62 else if e.n < 1 then 63 else 0 := rfl
  rw [Bool.eq_iff_iff, h]
  simp only [Bool.and_eq_true, decide_eq_true_eq]
  constructor
  · rintro ⟨⟨a, b, c⟩, d⟩
    split at d
    · omega
    · split at d
      · omega
      · exact ⟨by omega, by omega, by omega, a, b, c⟩
  · rintro ⟨a1, a2, a3, a, b, c⟩
    exact ⟨⟨a, b, c⟩, by rw [if_neg (by omega), if_neg (by omega)]⟩
theorem tmod_in {x n : Int} (hx : 0 ≤ x) (hn : 0 < n) : 0 ≤ x.tmod n ∧ x.tmod n < n := ⟨Int.tmod_nonneg _ hx, Int.tmod_lt_of_pos _ hn⟩
theorem apB_iff (p c r : Int) : (apB p c r = true) = ((c = 7 ∧ p = 0) ∨ (¬ c = 7 ∧ 1 ≤ p ∧ p ≤ r)) := by
  unfold apB inR
  by_cases h : c = 7 <;> simp [h]
theorem lg_len {L : List En} {r : Int} (h : lg L r = 0) : (L.length : Int) ≤ r := by
  unfold lg at h
  by_cases hr : r < L.length
  · rw [if_pos hr] at h; omega
  · omega
structure CfB (w : World) (q : Nat) (c : Cf) : Prop where
  lt : q < w.heap.size
  cell : ∀ i x, ([.int .i64 c.f, .int .i64 c.r, .int .i64 c.p, .bool c.u] : List Value)[i]? = some x → w.cell? ⟨q, i, none⟩ = some x
theorem CfB.bel {w w' : World} {q : Nat} {c : Cf} (h : CfB w q c) (hb : Below w.heap.size w w') : CfB w' q c := ⟨Nat.lt_of_lt_of_le h.lt hb.size, fun i x hx => (hb.cell (p := ⟨q, i, none⟩) h.lt).trans (h.cell i x hx)⟩
theorem CfB.ldAll {w : World} {q : Nat} {c : Cf} (h : CfB w q c) : (Instr.loadAt 23 (.pointer (some ⟨q, 0, none⟩))).run Tryd.prog w = .ok (.agg #[.int .i64 c.f, .int .i64 c.r, .int .i64 c.p, .bool c.u]) w := by
  have c0 := h.cell 0 _ rfl
  have c1 := h.cell 1 _ rfl
  have c2 := h.cell 2 _ rfl
  have c3 := h.cell 3 _ rfl
  go_simp
theorem MBox.ldAll {w : World} {q : Nat} {m : Mg} {s t : Value} (h : MBox w q m s t) : (Instr.loadAt 38 (.pointer (some ⟨q, 0, none⟩))).run Tryd.prog w = .ok (m.val s t) w := by
  obtain ⟨x0, x1, x2, x3, x4, x5, x6, x7, x8, x9, x10, x11, x12, x13, x14, x15, x16, x17⟩ := h.all
  go_simp
  rfl
theorem cfB_r {c : Cf} (h : cfB c = true) : 1 ≤ c.r ∧ c.r ≤ 256 := by
  unfold cfB inR at h
  simp at h
  omega
def colsBy (m : Mg) (L : List En) (D : List (Int × Int)) (k j : Nat) : List Int := (List.range j).flatMap fun i => if tabA k i = 0 then [] else colBy m L D i (!decide ((tabA k i : Int) = 15))
def mbBy (m : Mg) (L : List En) (D : List (Int × Int)) (k : Nat) : List Int := M.form k ++ colsBy m L D k 10
theorem colsBy_next (m : Mg) (L : List En) (D : List (Int × Int)) (k j : Nat) : colsBy m L D k (j + 1) = colsBy m L D k j ++ (if tabA k j = 0 then [] else colBy m L D j (!decide ((tabA k j : Int) = 15))) := by
  unfold colsBy
  rw [List.range_succ, List.flatMap_append]
  simp
theorem colsBy_none {m : Mg} {L : List En} {D : List (Int × Int)} {k j : Nat} (h : (tabA k j : Int) = 0) : colsBy m L D k (j + 1) = colsBy m L D k j := by
  rw [colsBy_next, if_pos (by omega)]
  simp
theorem colsBy_some {m : Mg} {L : List En} {D : List (Int × Int)} {k j : Nat} (h : ¬ (tabA k j : Int) = 0) : colsBy m L D k (j + 1) = colsBy m L D k j ++ colBy m L D j (!decide ((tabA k j : Int) = 15)) := by
  rw [colsBy_next, if_neg (by omega)]
theorem colBy_le {m : Mg} {L : List En} {D : List (Int × Int)} (hm : mgF m L D) (j : Nat) (op : Bool) : (colBy m L D j op).length ≤ if j = 8 then 26130 else 150 := by
  have fl : ∀ {x : Int}, 0 ≤ x ∧ x ≤ 9223372036854775807 → (M.form x.toNat).length ≤ 9 := fun h => form_le (by omega)
  match j with
  | 0 => have := fl hm.nd; show (M.form _).length ≤ 150; omega
  | 1 => have := fl hm.vw; show (M.form _).length ≤ 150; omega
  | 2 => have := fl hm.ls; show (M.form _).length ≤ 150; omega
  | 3 => have := fl hm.p; show (M.form _).length ≤ 150; omega
  | 4 => have := fl hm.cm; show (M.form _).length ≤ 150; omega
  | 5 =>
    have := drBy_le (x := m.d.1.toNat) (y := m.d.2.toNat) (by have := hm.d.1; have := hm.d.2.1; omega) (by have := hm.d.2.2.1; have := hm.d.2.2.2; omega)
    show (drBy _ _).length ≤ 150
    omega
  | 6 =>
    have h1 := nmBy_le (x := m.e.c.toNat) (y := m.e.n.toNat) (by have := hm.e.1; have := hm.e.2.1; omega) (by have := hm.e.2.2.1; have := hm.e.2.2.2.1; omega)
    have h2 := opBy_le (x := m.e.o.k.toNat) (y := m.e.o.s.toNat) (by have := hm.e.2.2.2.2.1; have := hm.e.2.2.2.2.2.1; omega) (by have := hm.e.2.2.2.2.2.2.1; have := hm.e.2.2.2.2.2.2.2.1; omega) hm.e.2.2.2.2.2.2.2.2
    show (nmBy _ _ ++ _).length ≤ 150
    rw [List.length_append]
    cases op
    · simp; omega
    · simp only [if_true]; omega
  | 7 =>
    have h2 := opBy_le (x := m.r.1.toNat) (y := m.r.2.1.toNat) (by have := hm.r.1; have := hm.r.2.1; omega) (by have := hm.r.2.2.1; have := hm.r.2.2.2.1; omega) hm.r.2.2.2.2
    show (opBy _ _ _).length ≤ 150
    omega
  | 8 =>
    have h1 := esBy_le L hm.es
    have h2 := hm.lL
    have h3 := form_le (show L.length < 2 ^ 64 by omega)
    show (M.form _ ++ _).length ≤ 26130
    rw [List.length_append]
    omega
  | 9 =>
    have h1 := dsBy_le D hm.ds
    have h2 := hm.lD
    have h3 := form_le (show D.length < 2 ^ 64 by omega)
    show (M.form _ ++ _).length ≤ 150
    rw [List.length_append]
    omega
  | (n + 10) => rw [if_neg (by omega)]; exact Nat.zero_le _
theorem tabA_out {k j : Nat} (hj : 10 ≤ j) : tabA k j = 0 := by
  unfold tabA
  by_cases hk : k < 15
  · rw [List.getD_eq_getElem?_getD]
    match k, hk with
    | 0, _ | 1, _ | 2, _ | 3, _ | 4, _ | 5, _ | 6, _ | 7, _ | 8, _ | 9, _ | 10, _ | 11, _ | 12, _ | 13, _ | 14, _ => simp [tabR, List.getElem?_eq_none, hj]
  · rw [List.getElem?_eq_none (show tabR.length ≤ k by show 15 ≤ k; omega)]
    rfl
theorem colsBy_le {m : Mg} {L : List En} {D : List (Int × Int)} (hm : mgF m L D) (k j : Nat) : (colsBy m L D k j).length ≤ 28000 := by
    have key : ∀ j, j ≤ 10 → (colsBy m L D k j).length ≤ 150 * j + if j ≤ 8 then 0 else 26130 := by
      intro j
      induction j with
      | zero => intro _; simp [colsBy]
      | succ j ih =>
        intro hj
        have h1 := ih (by omega)
        have h2 := colBy_le hm j (!decide ((tabA k j : Int) = 15))
        rw [colsBy_next, List.length_append]
        by_cases h0 : tabA k j = 0
        · rw [if_pos h0]
          simp only [List.length_nil]
          split at h1 <;> split <;> omega
        · rw [if_neg h0]
          split at h1 <;> split at h2 <;> split <;> omega
    by_cases hj : j ≤ 10
    · have := key j hj
      split at this <;> omega
    · have e : ∀ n, colsBy m L D k (10 + n) = colsBy m L D k 10 := by
        intro n
        induction n with
        | zero => rfl
        | succ n ih => rw [show 10 + (n + 1) = (10 + n) + 1 from rfl, colsBy_next, if_pos (tabA_out (by omega)), List.append_nil, ih]
      have := key 10 (Nat.le_refl _)
      rw [show j = 10 + (j - 10) by omega, e]
      simp at this
      omega
theorem ixTab (k : Nat) (hk : k < 15) (w : World) : (Instr.indexAt 72 (.pointer (some ⟨0, 0, none⟩)) (.int .i64 (k : Int))).run Tryd.prog w = .ok (.pointer (some ⟨0, k * 10, none⟩)) w := by
  have h1 : (k : Int) < 15 := by omega
  go_simp
theorem ldRow {w : World} (h : Tab w) {k : Nat} (hk : k < 15) : (Instr.loadAt 71 (.pointer (some ⟨0, k * 10, none⟩))).run Tryd.prog w = .ok (.agg #[.int .u8 (tabA k 0 : Int), .int .u8 (tabA k 1 : Int), .int .u8 (tabA k 2 : Int), .int .u8 (tabA k 3 : Int), .int .u8 (tabA k 4 : Int), .int .u8 (tabA k 5 : Int), .int .u8 (tabA k 6 : Int), .int .u8 (tabA k 7 : Int), .int .u8 (tabA k 8 : Int), .int .u8 (tabA k 9 : Int)]) w := by
  have y0 : w.cell? ⟨0, k * 10, none⟩ = some (.int .u8 (tabA k 0 : Int)) := h.cell k 0 hk (by omega)
  have y1 := h.cell k 1 hk (by omega)
  have y2 := h.cell k 2 hk (by omega)
  have y3 := h.cell k 3 hk (by omega)
  have y4 := h.cell k 4 hk (by omega)
  have y5 := h.cell k 5 hk (by omega)
  have y6 := h.cell k 6 hk (by omega)
  have y7 := h.cell k 7 hk (by omega)
  have y8 := h.cell k 8 hk (by omega)
  have y9 := h.cell k 9 hk (by omega)
  go_simp
theorem ex_index {o : Oper} {ρ : Operand → Value} {s : TypeId} {x y : Operand} {X Y V : Value} {w : World} (ho : o.op = .index s x y) (hx : ρ x = X) (hy : ρ y = Y) (hr : (Instr.index s X Y).run Tryd.prog w = .ok V w) : (execOp ρ o).run Tryd.prog w = .ok (.value V) w := by
  unfold execOp
  simp only [ho, hx, hy, Sem.run_bind, hr, Result.andThen_ok]
  rfl
theorem ex_ext {o : Oper} {ρ : Operand → Value} {x : Operand} {i : Nat} {X V : Value} {w : World} (ho : o.op = .extract x i) (hx : ρ x = X) (hr : (Instr.extract X i).run Tryd.prog w = .ok V w) : (execOp ρ o).run Tryd.prog w = .ok (.value V) w := by
  unfold execOp
  simp only [ho, hx, Sem.run_bind, hr, Result.andThen_ok]
  rfl
set_option maxRecDepth 100000 in
set_option maxHeartbeats 4000000 in
theorem wmessage_tk (B b : Nat) (l : List Int) (m : Mg) (k : Nat) (hmk : m.k = (k : Int)) (hk2 : k < 15) (a1 a2 : Option Addr) (cl cv : Nat) (L : List En) (D : List (Int × Int)) (w0 w : World) (hB : B ≤ b) (hB1 : 0 < B) (hT : Tab w) (h0 : Below w0.heap.size w0 w) (hB0 : w0.heap.size ≤ B) (hL : SlY yE w0 a1 L.length cl L) (hD : SlY yD w0 a2 D.length cv D) (hm : mgF m L D) (h : Wi.WOkT w b l) (hl : l.length + 100000 ≤ 140737488355328) :
    Calls Tryd.prog 18 #[.pointer (some ⟨b, 0, none⟩), m.val (.slice a1 L.length cl) (.slice a2 D.length cv)] w fun e w' => e = .returned (.tuple #[]) ∧ Wi.WOkT w' b (l ++ mbBy m L D k) ∧ Below B w w' ∧ Wi.TKp w w' := by
  have hlt0 := h.lt
  go_enter Tryd.func18, Tryd.ntmps18
  go_upto_region 1 with (refine boxMk rfl (.tmp 1) rfl m _ _ rfl ?_; intro q1 w1 hq1 M1 hBw z1; subst hq1)
  have hO1 := h.later hBw
  have hBl : B ≤ w.heap.size := by omega
  have HM : Hid (∀ v, Wi.TKp w1 v → MBox v w.heap.size m (.slice a1 L.length cl) (.slice a2 D.length cv)) := fun v hv => M1.tk hv
  have HK : Hid (∀ v, Wi.TKp w1 v → (Instr.loadAt 24 (.pointer (some ⟨w.heap.size, 0, none⟩))).run Tryd.prog v = .ok (.int .i64 (k : Int)) v) := fun v hv => by rw [← hmk]; exact (HM.out v hv).ldKind
  have HTB : Hid (∀ v, Below B w1 v → Tab v) := fun v hv => (hT.later hBw (Nat.lt_of_lt_of_le hB1 hBl)).later hv hB1
  have HLEN : Hid (∀ j, (l ++ M.form k ++ colsBy m L D k j).length + 30000 ≤ 140737488355328) := fun j => by
    have f1 := form_le (show k < 2 ^ 64 by omega)
    have f2 := colsBy_le hm k j
    rw [List.length_append, List.length_append]
    omega
  refine vh_start (fun v => Wi.TKp w1 v) (by kernel_rfl) ?_
  have hS : Wi.TKp w1 w1.drew := (Wi.TKp.refl w1).drewN 1
  refine vh_gen (fun T => T.size = 28 ∧ T[0]? = some (gw true (.pointer (some ⟨b, 0, none⟩))) ∧ T[3]? = some (gw true (.pointer (some ⟨w.heap.size, 0, none⟩)))) ⟨rfl, rfl, rfl⟩ (fun T0 ⟨hz, s0, s3⟩ => ?_)
  refine vh_take 0 true (.pointer (some ⟨b, 0, none⟩)) rfl (by kernel_rfl) (by kernel_rfl) (by kernel_rfl) (want_none rfl) (fun hc v hv => ex_move rfl (ev s0 rfl)) rfl hz (by decide) hS (fun A1_1 zz kk s6x => ?_)
  replace s0 := kt kk s0
  replace s3 := kt kk s3
  clear kk hz
  have hz := zz
  have s6 := s6x
  clear zz s6x
  refine vh_take 1 true (.pointer (some ⟨b, 0, none⟩)) rfl (by kernel_rfl) (by kernel_rfl) (by kernel_rfl) (want_none rfl) (fun hc v hv => ex_nil rfl (ev s6 rfl)) rfl hz (by decide) hS (fun A1_2 zz kk s7x => ?_)
  replace s0 := kt kk s0
  replace s3 := kt kk s3
  clear kk hz s6
  have hz := zz
  have s7 := s7x
  clear zz s7x A1_1
  refine vh_take 2 true (.pointer (some ⟨b, 0, none⟩)) rfl (by kernel_rfl) (by kernel_rfl) (by kernel_rfl) (want_none rfl) (fun hc v hv => ex_fa rfl (ev s7 rfl) (by go_simp)) rfl hz (by decide) hS (fun A1_3 zz kk s8x => ?_)
  replace s0 := kt kk s0
  replace s3 := kt kk s3
  clear kk hz s7
  have hz := zz
  have s8 := s8x
  clear zz s8x A1_2
  refine vh_take 3 true (.pointer (some ⟨w.heap.size, 0, none⟩)) rfl (by kernel_rfl) (by kernel_rfl) (by kernel_rfl) (want_none rfl) (fun hc v hv => ex_fa rfl (ev s3 rfl) (MBox.faKind _ _)) rfl hz (by decide) hS (fun A1_4 zz kk s9x => ?_)
  replace s0 := kt kk s0
  replace s3 := kt kk s3
  replace s8 := kt kk s8
  clear kk hz
  have hz := zz
  have s9 := s9x
  clear zz s9x A1_3
  refine vh_take 4 true (.int .i64 (k : Int)) rfl (by kernel_rfl) (by kernel_rfl) (by kernel_rfl) (want_none rfl) (fun hc v hv => ex_ld rfl (ev s9 rfl) (HK.out v hv)) rfl hz (by decide) hS (fun A1_5 zz kk s10x => ?_)
  replace s0 := kt kk s0
  replace s3 := kt kk s3
  replace s8 := kt kk s8
  clear kk hz s9
  have hz := zz
  have s10 := s10x
  clear zz s10x A1_4
  refine vh_call 5 rfl (by kernel_rfl) (want_none rfl) (ex_call rfl (by simp only [List.map_toArray, List.map_cons, List.map_nil, (ev s8 rfl), (ev s10 rfl), evc] <;> rfl) rfl) (Wi.int_tk B b l k w1.drew hB hO1.drew (by omega) (by omega)) rfl hz (by decide) ?_
  rintro e w2 ⟨rfl, hO2, hb2, ht2⟩
  refine ⟨_, rfl, (hS.trans ht2), fun A1_6 zz kk s11x => ?_⟩
  have hb3 : Below B w1 w2 := (Below.refl _ _).drew.trans hb2
  have ht3 : Wi.TKp w1 w2 := ((Wi.TKp.refl w1).drewN 1).trans ht2
  clear hb2 ht2 hS
  replace s0 := kt kk s0
  replace s3 := kt kk s3
  clear kk hz s8 s10
  have hz := zz
  have s11 := s11x
  clear zz s11x A1_5
  refine vh_done (by kernel_rfl) ?_
  go_upto_region 2 with fail
  refine wp_region_lit ?_
  refine vt (.pointer (some ⟨w.heap.size, 0, none⟩)) (ex_fa rfl (ev s3 rfl) (MBox.faKind _ _)) hz (fun A2_1 zz kk s12x => ?_)
  replace s0 := kt kk s0
  replace s3 := kt kk s3
  clear kk hz s11
  have hz := zz
  have s12 := s12x
  clear zz s12x
  refine vt (.int .i64 (k : Int)) (ex_ld rfl (ev s12 rfl) (HK.out w2 ht3)) hz (fun A2_2 zz kk s13x => ?_)
  replace s0 := kt kk s0
  replace s3 := kt kk s3
  clear kk hz s12
  have hz := zz
  have s13 := s13x
  clear zz s13x A2_1
  refine vt (.pointer (some ⟨0, k * 10, none⟩)) (ex_ix rfl rfl (ev s13 rfl) (ixTab k hk2 _)) hz (fun A2_3 zz kk s14x => ?_)
  replace s0 := kt kk s0
  replace s3 := kt kk s3
  clear kk hz s13
  have hz := zz
  have s14 := s14x
  clear zz s14x A2_2
  refine vt (.agg #[.int .u8 (tabA k 0 : Int), .int .u8 (tabA k 1 : Int), .int .u8 (tabA k 2 : Int), .int .u8 (tabA k 3 : Int), .int .u8 (tabA k 4 : Int), .int .u8 (tabA k 5 : Int), .int .u8 (tabA k 6 : Int), .int .u8 (tabA k 7 : Int), .int .u8 (tabA k 8 : Int), .int .u8 (tabA k 9 : Int)]) (ex_ld rfl (ev s14 rfl) (ldRow (HTB.out w2 hb3) hk2)) hz (fun A2_4 zz kk s15x => ?_)
  replace s0 := kt kk s0
  replace s3 := kt kk s3
  clear kk hz s14
  have hz := zz
  have s15 := s15x
  clear zz s15x A2_3
  refine vt (.int .i64 0) (ex_move rfl rfl) hz (fun A2_5 zz kk s16x => ?_)
  replace s0 := kt kk s0
  replace s3 := kt kk s3
  replace s15 := kt kk s15
  clear kk hz
  have hz := zz
  have s16 := s16x
  clear zz s16x A2_4
  refine wpList_nil ?_
  go_upto_region 3 with fail
  refine v_loop 16 10 (fun j T wr => T.size = 28 ∧ T[0]? = some (gw true (.pointer (some ⟨b, 0, none⟩))) ∧ T[3]? = some (gw true (.pointer (some ⟨w.heap.size, 0, none⟩))) ∧ T[15]? = some (gw true (.agg #[.int .u8 (tabA k 0 : Int), .int .u8 (tabA k 1 : Int), .int .u8 (tabA k 2 : Int), .int .u8 (tabA k 3 : Int), .int .u8 (tabA k 4 : Int), .int .u8 (tabA k 5 : Int), .int .u8 (tabA k 6 : Int), .int .u8 (tabA k 7 : Int), .int .u8 (tabA k 8 : Int), .int .u8 (tabA k 9 : Int)])) ∧ T[16]? = some (gw true (.int .i64 (j : Int))) ∧ Hid (Wi.WOkT wr b (l ++ M.form k ++ colsBy m L D k j) ∧ Below B w1 wr ∧ Wi.TKp w1 wr)) (fun j T w h => h.2.2.2.2.1) ⟨hz, s0, s3, s15, s16, by simpa [colsBy] using hO2, hb3, ht3⟩ ?_
  intro j R0 wr hj hh
  clear hz s0 s3 s15 s16
  obtain ⟨hz, s0, s3, s15, s16, HI⟩ := hh
  go_upto_region 3 with fail
  refine wp_region_lit ?_
  refine vt (.bool (decide ((j : Int) < 10))) (ex_bin rfl (ev s16 rfl) rfl (lssC _ _ _ _ _)) hz (fun A3_1 zz kk s17x => ?_)
  replace s0 := kt kk s0
  replace s3 := kt kk s3
  replace s15 := kt kk s15
  replace s16 := kt kk s16
  clear kk hz
  have hz := zz
  have s17 := s17x
  clear zz s17x
  refine wpList_nil ?_
  go_upto_region 4 with fail
  cases e3 : decide ((j : Int) < 10)
  · refine wp_cond_false ((ev s17 rfl).trans (congrArg Value.bool e3)) ?_
    have hjl : j = 10 := by have := of_decide_eq_false e3; omega
    have HJ := hide hjl
    clear e3 hjl
    go_wp2
    go_end0
    have hI := HI.out
    rw [HJ.out] at hI
    exact ⟨rfl, by simpa [mbBy, List.append_assoc] using hI.1, (hBw.mono hBl).trans hI.2.1, (Wi.TKp.of_below hBw).trans hI.2.2⟩
  refine wp_cond_true ((ev s17 rfl).trans (congrArg Value.bool e3)) ?_
  have hlt : j < 10 := by have := of_decide_eq_true e3; omega
  clear s17 e3
  go_upto_region 4 with fail
  refine wp_region_lit ?_
  refine vt _ (ex_move rfl (ev s16 rfl)) hz (fun A4_1 zz kk s18x => ?_)
  replace s0 := kt kk s0
  replace s3 := kt kk s3
  replace s15 := kt kk s15
  replace s16 := kt kk s16
  clear kk hz
  have hz := zz
  have s18 := s18x
  clear zz s18x
  refine vt (.int .u8 (tabA k j : Int)) (ex_index rfl (ev s15 rfl) (ev s16 rfl) (rowIx k j hlt _)) hz (fun A4_2 zz kk s19x => ?_)
  replace s0 := kt kk s0
  replace s3 := kt kk s3
  replace s15 := kt kk s15
  replace s16 := kt kk s16
  replace s18 := kt kk s18
  clear kk hz
  have hz := zz
  have s19 := s19x
  clear zz s19x A4_1
  refine vt _ (ex_assign rfl (ev s18 rfl)) hz (fun A4_3 zz kk s4x => ?_)
  replace s0 := kt kk s0
  replace s3 := kt kk s3
  replace s15 := kt kk s15
  replace s16 := kt kk s16
  replace s19 := kt kk s19
  clear kk hz s18
  have hz := zz
  have s4 := s4x
  clear zz s4x A4_2
  refine vt _ (ex_assign rfl (ev s19 rfl)) hz (fun A4_4 zz kk s5x => ?_)
  replace s0 := kt kk s0
  replace s3 := kt kk s3
  replace s4 := kt kk s4
  replace s15 := kt kk s15
  replace s16 := kt kk s16
  clear kk hz s19
  have hz := zz
  have s5 := s5x
  clear zz s5x A4_3
  refine wpList_nil ?_
  go_upto_region 5 with fail
  refine wp_region_lit ?_
  refine vt _ (ex_move rfl (ev s5 rfl)) hz (fun A5_1 zz kk s20x => ?_)
  replace s0 := kt kk s0
  replace s3 := kt kk s3
  replace s4 := kt kk s4
  replace s5 := kt kk s5
  replace s15 := kt kk s15
  replace s16 := kt kk s16
  clear kk hz
  have hz := zz
  have s20 := s20x
  clear zz s20x
  refine vt (.bool (!decide ((tabA k j : Int) = 0))) (ex_bin rfl (ev s20 rfl) rfl (neqU8 _ _ _ _ _)) hz (fun A5_2 zz kk s21x => ?_)
  replace s0 := kt kk s0
  replace s3 := kt kk s3
  replace s4 := kt kk s4
  replace s5 := kt kk s5
  replace s15 := kt kk s15
  replace s16 := kt kk s16
  clear kk hz s20
  have hz := zz
  have s21 := s21x
  clear zz s21x A5_1
  refine wpList_nil ?_
  go_upto_region 6 with fail
  cases e5 : !decide ((tabA k j : Int) = 0)
  · refine wp_cond_false ((ev s21 rfl).trans (congrArg Value.bool e5)) ?_
    clear s21
    go_upto_region 7 with fail
    refine wp_region_lit ?_
    refine vt (.int .i64 ((j + 1 : Nat) : Int)) (ex_bin rfl (ev s16 rfl) rfl (addJ j (by omega) _ _ _)) hz (fun A7_1 zz kk s27x => ?_)
    replace s0 := kt kk s0
    replace s3 := kt kk s3
    replace s15 := kt kk s15
    replace s16 := kt kk s16
    clear kk hz s4 s5
    have hz := zz
    have s27 := s27x
    clear zz s27x
    refine vt _ (ex_move rfl (ev s27 rfl)) hz (fun A7_2 zz kk s16x => ?_)
    replace s0 := kt kk s0
    replace s3 := kt kk s3
    replace s15 := kt kk s15
    clear kk hz s27 s16
    have hz := zz
    have s16 := s16x
    clear zz s16x A7_1
    refine wpList_nil ?_
    exact ⟨_, rfl, by omega, hz, s0, s3, s15, s16, by rw [colsBy_none (by simpa using e5)]; exact HI.out.1, HI.out.2.1, HI.out.2.2⟩
  refine wp_cond_true ((ev s21 rfl).trans (congrArg Value.bool e5)) ?_
  clear s21
  go_upto_region 6 with fail
  refine wp_region_lit ?_
  refine vt _ (ex_move rfl (ev s0 rfl)) hz (fun A6_1 zz kk s22x => ?_)
  replace s0 := kt kk s0
  replace s3 := kt kk s3
  replace s4 := kt kk s4
  replace s5 := kt kk s5
  replace s15 := kt kk s15
  replace s16 := kt kk s16
  clear kk hz
  have hz := zz
  have s22 := s22x
  clear zz s22x
  refine vt (m.val (.slice a1 L.length cl) (.slice a2 D.length cv)) (ex_ld rfl (ev s3 rfl) ((HM.out wr HI.out.2.2).ldAll)) hz (fun A6_2 zz kk s23x => ?_)
  replace s0 := kt kk s0
  replace s3 := kt kk s3
  replace s4 := kt kk s4
  replace s5 := kt kk s5
  replace s15 := kt kk s15
  replace s16 := kt kk s16
  replace s22 := kt kk s22
  clear kk hz
  have hz := zz
  have s23 := s23x
  clear zz s23x A6_1
  refine vt _ (ex_move rfl (ev s4 rfl)) hz (fun A6_3 zz kk s24x => ?_)
  replace s0 := kt kk s0
  replace s3 := kt kk s3
  replace s5 := kt kk s5
  replace s15 := kt kk s15
  replace s16 := kt kk s16
  replace s22 := kt kk s22
  replace s23 := kt kk s23
  clear kk hz s4
  have hz := zz
  have s24 := s24x
  clear zz s24x A6_2
  refine vt _ (ex_move rfl (ev s5 rfl)) hz (fun A6_4 zz kk s25x => ?_)
  replace s0 := kt kk s0
  replace s3 := kt kk s3
  replace s15 := kt kk s15
  replace s16 := kt kk s16
  replace s22 := kt kk s22
  replace s23 := kt kk s23
  replace s24 := kt kk s24
  clear kk hz s5
  have hz := zz
  have s25 := s25x
  clear zz s25x A6_3
  refine vcallP (want_none rfl) (ex_call rfl (by simp only [List.map_toArray, List.map_cons, List.map_nil, (ev s22 rfl), (ev s23 rfl), (ev s24 rfl), (ev s25 rfl), evc] <;> rfl) rfl) (wfield_all B b (l ++ M.form k ++ colsBy m L D k j) m a1 a2 cl cv L D j hlt (tabA k j : Int) w0 wr hB (h0.trans ((hBw.mono h0.size).trans (HI.out.2.1.mono hB0))) hB0 hL hD hm HI.out.1 (by have := HLEN.out j; omega)) rfl hz (by decide) ?_
  rintro e w7 ⟨rfl, hO7, hb7, ht7⟩
  refine ⟨_, rfl, fun A6_5 zz kk s26x => ?_⟩
  replace s0 := kt kk s0
  replace s3 := kt kk s3
  replace s15 := kt kk s15
  replace s16 := kt kk s16
  clear kk hz s22 s23 s24 s25
  have hz := zz
  have s26 := s26x
  clear zz s26x A6_4
  refine wpList_nil ?_
  go_upto_region 7 with fail
  refine wp_region_lit ?_
  refine vt (.int .i64 ((j + 1 : Nat) : Int)) (ex_bin rfl (ev s16 rfl) rfl (addJ j (by omega) _ _ _)) hz (fun A7_1 zz kk s27x => ?_)
  replace s0 := kt kk s0
  replace s3 := kt kk s3
  replace s15 := kt kk s15
  replace s16 := kt kk s16
  clear kk hz s26
  have hz := zz
  have s27 := s27x
  clear zz s27x
  refine vt _ (ex_move rfl (ev s27 rfl)) hz (fun A7_2 zz kk s16x => ?_)
  replace s0 := kt kk s0
  replace s3 := kt kk s3
  replace s15 := kt kk s15
  clear kk hz s27 s16
  have hz := zz
  have s16 := s16x
  clear zz s16x A7_1
  refine wpList_nil ?_
  exact ⟨_, rfl, by omega, hz, s0, s3, s15, s16, by rw [colsBy_some (by simpa using e5)]; simpa only [List.append_assoc] using hO7, HI.out.2.1.trans hb7, HI.out.2.2.trans ht7⟩
end Go.Proofs.YtabiimmpjllcpaaDoor
namespace Go.Proofs.YtabiimmpjllcpaaDoor.Wi
open Go.RowKit
set_option linter.unusedVariables false
theorem bytes_any (b : Nat) (l : List Int) (w : World) (h : WOk w b l) (hl : l.length ≤ 140737488355328) :
    Calls Tryd.prog 19 #[.pointer (some ⟨b, 0, none⟩)] w fun e w' => ∃ v, e = .returned (.tuple #[v, .int .i64 0]) ∧ Own w.heap.size w' v l ∧ Below w.heap.size w w' := by
  rcases h with ⟨rfl, h⟩ | ⟨q, g, n, c, h⟩
  · refine (bytes_new b w h).mono ?_
    rintro e w' ⟨rfl, rfl⟩
    exact ⟨_, rfl, Own.nil _ _, Below.refl _ _⟩
  · exact bytes_has b q g n c l w h hl
structure Pt where
  K : Int
  V : Int
  N : Int
  m : Int
  s : ByteArray
def Pt.err (p : Pt) : Int := ptErr p.K p.N p.m p.s
def Pt.bytes (p : Pt) : List Int := ptBytes p.K p.V p.N p.s
def Pt.val (p : Pt) : Value := putV p.K p.V p.N p.m p.s
def Pt.fits (p : Pt) : Prop := 0 ≤ p.V ∧ p.V < 18446744073709551616 ∧ -9223372036854775808 ≤ p.N ∧ p.N ≤ 9223372036854775807 ∧ -9223372036854775808 ≤ p.m ∧ p.m ≤ 9223372036854775807
theorem take_snoc (P : List Pt) (k : Nat) (h : k < P.length) : P.take (k + 1) = P.take k ++ [P[k]] := by rw [List.take_add_one, List.getElem?_eq_getElem h]; rfl
def Puts (w : World) (a : Option Addr) (P : List Pt) : Prop := ∀ i (h : i < P.length), P[i].fits ∧ ∃ b o, a = some ⟨b, o, none⟩ ∧ w.cell? ⟨b, o + i * 5, none⟩ = some (.int .i64 P[i].K) ∧ w.cell? ⟨b, o + i * 5 + 1, none⟩ = some (.int .u64 P[i].V) ∧ w.cell? ⟨b, o + i * 5 + 2, none⟩ = some (.int .i64 P[i].N) ∧ w.cell? ⟨b, o + i * 5 + 3, none⟩ = some (.int .i64 P[i].m) ∧ w.cell? ⟨b, o + i * 5 + 4, none⟩ = some (.string P[i].s)
def tnErr : List Int → Int
  | [] => 10
  | k :: d => if 8 < k then 12 else if (d.length : Int) < k then 10 else if 0 < k ∧ d.getD 0 0 = 0 then 12 else 0
def tnVal (l : List Int) : Nat := if tnErr l = 0 then M.rb ((l.drop 1).take (l.getD 0 0).toNat) else 0
def tnSize (l : List Int) : Nat := if tnErr l = 0 then 1 + (l.getD 0 0).toNat else 0
theorem tn_bad {l : List Int} (h : tnErr l ≠ 0) : tnVal l = 0 ∧ tnSize l = 0 := by unfold tnVal tnSize; rw [if_neg h, if_neg h]; exact ⟨rfl, rfl⟩
theorem ret3 {a b c : Int} {a' b' c' : Int} (h1 : a = a') (h2 : b = b') (h3 : c = c') : Ending.returned (.tuple #[.int .u64 a, .int .i64 b, .int .i64 c]) = .returned (.tuple #[.int .u64 a', .int .i64 b', .int .i64 c']) := by rw [h1, h2, h3]
def TnPost (l : List Int) (w : World) (e : Ending) (w' : World) : Prop := e = .returned (.tuple #[.int .u64 (tnVal l), .int .i64 (tnSize l), .int .i64 (tnErr l)]) ∧ ∃ k, w' = w.drewN k
theorem TnPost.mk_bad {l : List Int} {w : World} {E : Int} (k : Nat) (h : tnErr l = E) (hE : E ≠ 0) : TnPost l w (.returned (.tuple #[.int .u64 0, .int .i64 0, .int .i64 E])) (w.drewN k) := by
  obtain ⟨h1, h2⟩ := tn_bad (l := l) (by rw [h]; exact hE)
  exact ⟨ret3 (by rw [h1]; rfl) (by rw [h2]; rfl) h.symm, k, rfl⟩
theorem tn_none (a : Option Addr) (c : Nat) (w : World) :
    Calls Tryd.prog 97 #[.slice a 0 c] w fun e w' => TnPost [] w e w' := by
  go_enter Tryd.func97, Tryd.ntmps97
  go_wp2
  go_ret3
  exact TnPost.mk_bad 0 rfl (by decide)
theorem rb_step64 (v : Nat) (z : Int) (hv : v < 72057594037927936) (h0 : 0 ≤ z) (h1 : z < 256) : bits .or .u64 ((v : Int) * 256 % 18446744073709551616) (z % 18446744073709551616) = ((v * 256 + z.toNat : Nat) : Int) := by
  obtain ⟨n, rfl⟩ := Int.eq_ofNat_of_zero_le h0
  have e1 : ((v : Int) * 256 % 18446744073709551616) = ((v * 2 ^ 8 : Nat) : Int) := by omega
  have e2 : ((n : Int) % 18446744073709551616) = (n : Int) := by omega
  rw [e1, e2, u64_or_nat _ _ (by omega) (by omega), M.or_low v n 8 (by omega)]
  simp
theorem tnErr_form {k : Int} {d : List Int} (h : 8 < k) : tnErr (k :: d) = 12 := by simp only [tnErr]; rw [if_pos h]
theorem tnErr_short {k : Int} {d : List Int} (h : ¬ 8 < k) (h2 : (d.length : Int) < k) : tnErr (k :: d) = 10 := by simp only [tnErr]; rw [if_neg h, if_pos h2]
theorem tnErr_zero {k : Int} {d : List Int} (h : ¬ 8 < k) (h2 : ¬ (d.length : Int) < k) (h3 : 0 < k) (h4 : d.getD 0 0 = 0) : tnErr (k :: d) = 12 := by simp only [tnErr]; rw [if_neg h, if_neg h2, if_pos ⟨h3, h4⟩]
theorem tnErr_ok {k : Int} {d : List Int} (h : ¬ 8 < k) (h2 : ¬ (d.length : Int) < k) (h3 : ¬ (0 < k ∧ d.getD 0 0 = 0)) : tnErr (k :: d) = 0 := by simp only [tnErr]; rw [if_neg h, if_neg h2, if_neg h3]
theorem TnPost.mk_ok {k : Int} {d : List Int} {w : World} (j : Nat) (h : tnErr (k :: d) = 0) {v s : Int} (hv : v = (M.rb (d.take k.toNat) : Nat)) (hs : s = ((1 + k.toNat : Nat) : Int)) : TnPost (k :: d) w (.returned (.tuple #[.int .u64 v, .int .i64 s, .int .i64 0])) (w.drewN j) := by
  refine ⟨ret3 ?_ ?_ h.symm, j, rfl⟩
  · unfold tnVal; rw [if_pos h, hv]; rfl
  · unfold tnSize; rw [if_pos h, hs]; rfl
set_option maxHeartbeats 400000 in
theorem tn_one (b o : Nat) (k : Int) (w : World) (hk0 : 0 ≤ k) (hk1 : k < 256) (h0 : w.cell? ⟨b, o, none⟩ = some (.int .u8 k)) :
    Calls Tryd.prog 97 #[.slice (some ⟨b, o, none⟩) 1 1] w fun e w' => TnPost [k] w e w' := by
  by_cases h8 : 8 < k
  · have H := hide (tnErr_form (d := []) h8)
    go_enter Tryd.func97, Tryd.ntmps97
    go_wp2
    go_quiet (fail)
    go_wp2
    go_ret3
    exact TnPost.mk_bad nq H.out (by decide)
  · by_cases hp : 0 < k
    · have H := hide (tnErr_short (d := []) h8 (by simpa using hp))
      go_enter Tryd.func97, Tryd.ntmps97
      go_wp2
      go_quiet (fail)
      go_wp2
      go_ret3
      exact TnPost.mk_bad nq H.out (by decide)
    · obtain rfl : k = 0 := by omega
      have H := hide (tnErr_ok (k := 0) (d := []) h8 (by simp) (by simp))
      go_enter Tryd.func97, Tryd.ntmps97
      go_wp2
      go_quiet (fail)
      go_wp2
      go_loop [7, 8, 36] (fun v _ i => v = .int .u64 0 ∧ i = .int .i64 0) (fun _ _ _ => 0)
      case atStart => exact ⟨rfl, rfl⟩
      case round =>
        obtain ⟨rfl, rfl⟩ := hrel
        go_wp2
        go_ret3
        exact TnPost.mk_ok nq H.out rfl rfl
set_option maxRecDepth 100000 in
set_option maxHeartbeats 1000000 in
theorem tn_more (b o n c : Nat) (k : Int) (d : List Int) (w : World) (hn : d.length = n) (hc : n + 1 ≤ c) (hc2 : 2 ≤ c) (hmx : c ≤ maxLen) (hr : Row w ⟨b, o, none⟩ (k :: d)) (hb : ∀ z ∈ k :: d, 0 ≤ z ∧ z < 256) :
    Calls Tryd.prog 97 #[.slice (some ⟨b, o, none⟩) (n + 1) c] w fun e w' => TnPost (k :: d) w e w' := by
  obtain ⟨hk0, hk1⟩ := hb k (by simp)
  unfold maxLen at hmx
  have h0 : w.cell? ⟨b, o, none⟩ = some (.int .u8 k) := hr 0 (by simp)
  have hd : ∀ i, i < n → w.cell? ⟨b, o + 1 + i, none⟩ = some (.int .u8 (d.getD i 0)) := by
    intro i hi
    have := hr (i + 1) (by simp; omega)
    rw [Addr.add_lit] at this
    rw [show o + 1 + i = o + (i + 1) from by omega, this]
    rfl
  have hnc : (n : Int) + 1 ≤ (c : Int) := by omega
  by_cases h8 : 8 < k
  · have H := hide (tnErr_form (d := d) h8)
    clear hr hd hb hn
    go_enter Tryd.func97, Tryd.ntmps97
    go_wp2
    go_quiet (fail)
    go_wp2
    go_ret3
    exact TnPost.mk_bad nq H.out (by decide)
  · by_cases hs : (n : Int) < k
    · have H := hide (tnErr_short (d := d) h8 (by rw [hn]; exact hs))
      clear hr hd hb hn
      go_enter Tryd.func97, Tryd.ntmps97
      go_wp2
      go_quiet (fail)
      go_wp2
      go_ret3
      exact TnPost.mk_bad nq H.out (by decide)
    · by_cases hz : 0 < k ∧ d.getD 0 0 = 0
      · have H := hide (tnErr_zero h8 (by rw [hn]; exact hs) hz.1 hz.2)
        have hd0 := hd 0 (by omega)
        rw [hz.2, Nat.add_zero] at hd0
        obtain ⟨hz1, _⟩ := hz
        clear hr hd hb hn
        go_enter Tryd.func97, Tryd.ntmps97
        go_wp2
        go_quiet (fail)
        go_wp2
        go_ret3
        exact TnPost.mk_bad nq H.out (by decide)
      · have H := hide (tnErr_ok h8 (by rw [hn]; exact hs) hz)
        obtain ⟨K, rfl⟩ := Int.eq_ofNat_of_zero_le hk0
        have hbd : ∀ z ∈ d, 0 ≤ z ∧ z < 256 := fun z hz => hb z (by simp [hz])
        have hKn : K ≤ n := by omega
        have hlen := hide hn
        by_cases hp : 0 < K
        · have hd0 := hd 0 (by omega)
          rw [Nat.add_zero] at hd0
          have hzb : (d[0]?.getD 0 == 0) = false := by
            rw [beq_eq_false_iff_ne]
            intro h
            exact hz ⟨by omega, h⟩
          have HD := hide hd
          clear hr hb hn hz hd
          go_enter Tryd.func97, Tryd.ntmps97
          go_wp2
          go_quiet (fail)
          go_wp2
          go_loop [7, 8, 36] (fun v _ i => ∃ j : Nat, j ≤ K ∧ i = .int .i64 j ∧ v = .int .u64 (M.rb (d.take j) : Nat)) (fun _ _ i => K - (intOf i).toNat)
          case atStart => exact ⟨0, Nat.zero_le _, rfl, rfl⟩
          case round =>
            obtain ⟨j, hj, rfl, rfl⟩ := hrel
            by_cases hlt : j < K
            · have hcell := HD.out j (by omega)
              have hdl : j < d.length := by rw [hlen.out]; omega
              have hz : 0 ≤ d.getD j 0 ∧ d.getD j 0 < 256 := hbd _ (by simp [List.getD, hdl])
              have hv : M.rb (d.take j) < 256 ^ 7 := Nat.lt_of_lt_of_le (M.rb_lt (d.take j) (fun z hz => hbd z (List.mem_of_mem_take hz))) (Nat.pow_le_pow_right (by omega) (by simp; omega))
              have HV := hide (rb_step64 (M.rb (d.take j)) (d.getD j 0) (by omega) hz.1 hz.2)
              have HT := hide (M.rb_take d j hdl)
              clear hv hz hdl
              go_wp2
              go_round
              case rel => exact ⟨j + 1, by omega, by go_num, int_eq (by rw [HT.out]; exact HV.out)⟩
              case measure => simp [intOf]; omega
            · obtain rfl : j = K := by omega
              go_wp2
              go_ret3
              exact TnPost.mk_ok nq H.out rfl (by simp)
        · obtain rfl : K = 0 := by omega
          clear hr hb hn hz hd
          go_enter Tryd.func97, Tryd.ntmps97
          go_wp2
          go_quiet (fail)
          go_wp2
          go_loop [7, 8, 36] (fun v _ i => v = .int .u64 0 ∧ i = .int .i64 0) (fun _ _ _ => 0)
          case atStart => exact ⟨rfl, rfl⟩
          case round =>
            obtain ⟨rfl, rfl⟩ := hrel
            go_wp2
            go_ret3
            exact TnPost.mk_ok nq H.out rfl rfl
theorem tn_any (a : Option Addr) (n c : Nat) (l : List Int) (w : World) (h : Hs w a n c l) (hm : c ≤ maxLen) :
    Calls Tryd.prog 97 #[.slice a n c] w fun e w' => TnPost l w e w' := by
  cases l with
  | nil =>
    obtain rfl : n = 0 := h.len.symm
    exact tn_none a c w
  | cons k d =>
    have hn : n = d.length + 1 := h.len.symm
    subst hn
    cases a with
    | none => cases (h.nil rfl).1
    | some x =>
      obtain ⟨b, o, rfl⟩ := h.flat (by omega)
      have hr := h.row _ rfl
      have hcap := h.cap
      by_cases hc : 2 ≤ c
      · exact tn_more b o d.length c k d w rfl hcap hc hm hr h.byte
      · obtain rfl : c = 1 := by omega
        obtain rfl : d = [] := List.eq_nil_of_length_eq_zero (by omega)
        obtain ⟨h1, h2⟩ := h.byte k (by simp)
        exact tn_one b o k w h1 h2 (hr 0 (by simp))
end Go.Proofs.YtabiimmpjllcpaaDoor.Wi
namespace Go.Proofs.YtabiimmpjllcpaaDoor.Wi
set_option linter.unusedVariables false
/-! A number's one form: what is read without an error is the number's form. -/
theorem dig_snoc (v K i : Nat) (z : Int) (h0 : 0 ≤ z) (h1 : z < 256) (hi : i < K) : M.dig (v * 256 + z.toNat) (K + 1) i = M.dig v K i := by
  unfold M.dig
  have e : 8 * (K + 1 - 1 - i) = 8 + 8 * (K - 1 - i) := by omega
  rw [e, Nat.shiftRight_eq_div_pow, Nat.shiftRight_eq_div_pow, Nat.pow_add, ← Nat.div_div_eq_div_mul, show (v * 256 + z.toNat) / 2 ^ 8 = v from by omega]
theorem digs_rb (ds : List Int) (h : ∀ z ∈ ds, 0 ≤ z ∧ z < 256) : M.digs (M.rb ds) ds.length ds.length = ds := by
  induction hn : ds.length generalizing ds with
  | zero =>
    have : ds = [] := List.eq_nil_of_length_eq_zero hn
    subst this
    rfl
  | succ K ih =>
    obtain ⟨e, z, rfl⟩ : ∃ e z, ds = e ++ [z] := by
      refine ⟨ds.dropLast, ds.getLast (by intro h; rw [h] at hn; simp at hn), ?_⟩
      exact (List.dropLast_concat_getLast _).symm
    have hz := h z (by simp)
    have he : e.length = K := by simpa using hn
    rw [M.rb_snoc, M.digs_succ]
    have h1 : M.digs (M.rb e * 256 + z.toNat) (K + 1) K = M.digs (M.rb e) K K := by
      unfold M.digs
      apply List.map_congr_left
      intro i hi
      exact dig_snoc _ _ _ _ hz.1 hz.2 (by simpa using hi)
    rw [h1, ih e (fun y hy => h y (by simp [hy])) he]
    congr 1
    unfold M.dig
    rw [show 8 * (K + 1 - 1 - K) = 0 from by omega, Nat.shiftRight_zero, show (M.rb e * 256 + z.toNat) % 256 = z.toNat from by omega]
    rw [Int.toNat_of_nonneg hz.1]
theorem rb_ge (z : Int) (r : List Int) (hz : 1 ≤ z) : 256 ^ r.length ≤ M.rb (z :: r) := by
  have key : ∀ (r : List Int) (v : Nat), v * 256 ^ r.length ≤ r.foldl (fun v z => v * 256 + z.toNat) v := by
    intro r
    induction r with
    | nil => intro v; simp
    | cons y r ih =>
      intro v
      refine Nat.le_trans ?_ (ih (v * 256 + y.toNat))
      simp only [List.length_cons, Nat.pow_succ]
      rw [Nat.mul_comm (256 ^ r.length) 256, ← Nat.mul_assoc]
      exact Nat.mul_le_mul_right _ (by omega)
  have := key r z.toNat
  have h2 : 1 * 256 ^ r.length ≤ z.toNat * 256 ^ r.length := Nat.mul_le_mul_right _ (by omega)
  have h3 : M.rb (z :: r) = r.foldl (fun v z => v * 256 + z.toNat) z.toNat := by simp [M.rb]
  rw [h3]
  omega
theorem pow256 (k : Nat) : (256 : Nat) ^ k = 2 ^ (8 * k) := by rw [show (256 : Nat) = 2 ^ 8 from rfl, ← Nat.pow_mul]
theorem nb_rb (ds : List Int) (h : ∀ z ∈ ds, 0 ≤ z ∧ z < 256) (hf : 0 < ds.length → ds.getD 0 0 ≠ 0) : M.nb (M.rb ds) = ds.length := by
  have h1 : M.bl (M.rb ds) ≤ 8 * ds.length := by rw [M.bl_le, ← pow256]; exact M.rb_lt ds h
  cases ds with
  | nil => rfl
  | cons z r =>
    have hz := h z (by simp)
    have hz1 : z ≠ 0 := hf (by simp)
    have h2 := rb_ge z r (by omega)
    have h3 : ¬ M.bl (M.rb (z :: r)) ≤ 8 * r.length := by rw [M.bl_le, ← pow256]; omega
    simp only [List.length_cons] at h1 ⊢
    unfold M.nb
    omega
theorem form_rb (ds : List Int) (h : ∀ z ∈ ds, 0 ≤ z ∧ z < 256) (hf : 0 < ds.length → ds.getD 0 0 ≠ 0) : M.form (M.rb ds) = (ds.length : Int) :: ds := by
  unfold M.form
  rw [nb_rb ds h hf, digs_rb ds h]
theorem tn_form (l : List Int) (h : ∀ z ∈ l, 0 ≤ z ∧ z < 256) (he : tnErr l = 0) : M.form (tnVal l) = l.take (tnSize l) ∧ 1 ≤ tnSize l ∧ tnVal l < 2 ^ 64 ∧ ∀ k, k < tnSize l → tnErr (l.take k) = 10 := by
  cases l with
  | nil => simp [tnErr] at he
  | cons k d =>
    have hk := h k (by simp)
    obtain ⟨K, rfl⟩ := Int.eq_ofNat_of_zero_le hk.1
    have hv : tnVal ((K : Int) :: d) = M.rb (d.take K) := by unfold tnVal; rw [if_pos he]; simp
    have hs : tnSize ((K : Int) :: d) = 1 + K := by unfold tnSize; rw [if_pos he]; simp
    simp only [tnErr] at he
    split at he
    · cases he
    · split at he
      · cases he
      · split at he
        · cases he
        · rename_i q1 q2 q3
          have hlen : (d.take K).length = K := by simp; omega
          have hby : ∀ z ∈ d.take K, 0 ≤ z ∧ z < 256 := fun z hz => h z (by simp [List.mem_of_mem_take hz])
          have hf : 0 < (d.take K).length → (d.take K).getD 0 0 ≠ 0 := by
            intro hp h0
            rw [hlen] at hp
            apply q3
            refine ⟨by omega, ?_⟩
            rw [List.getD_eq_getElem?_getD, List.getElem?_take_of_lt hp, ← List.getD_eq_getElem?_getD] at h0
            exact h0
          refine ⟨?_, by omega, ?_, ?_⟩
          · rw [hv, hs, form_rb _ hby hf, hlen, Nat.add_comm, List.take_succ_cons]
          · rw [hv]
            have h1 := M.rb_lt _ hby
            rw [hlen] at h1
            exact Nat.lt_of_lt_of_le h1 (by rw [pow256]; exact Nat.pow_le_pow_right (by omega) (by omega))
          · intro j hj
            rw [hs] at hj
            cases j with
            | zero => rfl
            | succ j =>
              rw [List.take_succ_cons]
              exact tnErr_short q1 (by rw [List.length_take]; omega)
end Go.Proofs.YtabiimmpjllcpaaDoor.Wi
namespace Go.Proofs.YtabiimmpjllcpaaDoor.Wi
open Go.RowKit
set_option linter.unusedVariables false
theorem rb_digs (v k : Nat) (hv : v < 256 ^ k) : ∀ j, j ≤ k → M.rb (M.digs v k j) = v / 256 ^ (k - j)
  | 0, _ => by
    rw [Nat.sub_zero, Nat.div_eq_of_lt hv]
    rfl
  | j + 1, h => by
    have ih := rb_digs v k hv j (by omega)
    rw [M.digs_succ, M.rb_snoc, ih]
    have e1 : k - j = (k - (j + 1)) + 1 := by omega
    have e2 : (M.dig v k j).toNat = v / 256 ^ (k - (j + 1)) % 256 := by
      unfold M.dig
      rw [Int.toNat_natCast, Nat.shiftRight_eq_div_pow, show k - 1 - j = k - (j + 1) from by omega, pow256]
    rw [e2, e1, Nat.pow_succ, ← Nat.div_div_eq_div_mul]
    omega
theorem nb_pow (v : Nat) : v < 256 ^ M.nb v := by
  rw [pow256]
  have := (M.bl_le v (8 * M.nb v)).1 (by unfold M.nb; omega)
  exact this
theorem nb_pos (v : Nat) (h : 0 < M.nb v) : 256 ^ (M.nb v - 1) ≤ v := by
  rw [pow256]
  refine Nat.not_lt.1 fun h2 => ?_
  have := (M.bl_le v (8 * (M.nb v - 1))).2 h2
  unfold M.nb at h this
  omega
theorem dig_first (v : Nat) (h : 0 < M.nb v) : M.dig v (M.nb v) 0 ≠ 0 := by
  have h1 := nb_pow v
  have h2 := nb_pos v h
  unfold M.dig
  rw [Nat.shiftRight_eq_div_pow, Nat.sub_zero, ← pow256]
  have h3 : 1 ≤ v / 256 ^ (M.nb v - 1) := (Nat.one_le_div_iff (Nat.pow_pos (by omega))).2 h2
  have h4 : v / 256 ^ (M.nb v - 1) < 256 := by
    rw [Nat.div_lt_iff_lt_mul (Nat.pow_pos (by omega)), Nat.mul_comm, ← Nat.pow_succ, Nat.succ_eq_add_one, Nat.sub_add_cancel h]
    exact h1
  omega
theorem tn_read (x : Nat) (hx : x < 2 ^ 64) (rest : List Int) : tnErr (M.form x ++ rest) = 0 ∧ tnVal (M.form x ++ rest) = x ∧ tnSize (M.form x ++ rest) = (M.form x).length := by
  have hn := M.nb_le x hx
  have hl := M.digs_length x (M.nb x) (M.nb x)
  have e : M.form x ++ rest = (M.nb x : Int) :: (M.digs x (M.nb x) (M.nb x) ++ rest) := rfl
  have he : tnErr (M.form x ++ rest) = 0 := by
    rw [e]
    refine tnErr_ok (by omega) (by rw [List.length_append, hl]; omega) ?_
    rintro ⟨h1, h2⟩
    have h3 : 0 < M.nb x := by omega
    refine dig_first x h3 ?_
    rw [List.getD_eq_getElem?_getD, List.getElem?_append_left (by rw [hl]; exact h3)] at h2
    simpa [M.digs, h3] using h2
  refine ⟨he, ?_, ?_⟩
  · unfold tnVal
    rw [if_pos he, e]
    have h3 : ((M.digs x (M.nb x) (M.nb x) ++ rest).take (M.nb x)) = M.digs x (M.nb x) (M.nb x) := by
      rw [List.take_append_of_le_length (by rw [hl]; exact Nat.le_refl _), List.take_of_length_le (by rw [hl]; exact Nat.le_refl _)]
    show M.rb ((M.digs x (M.nb x) (M.nb x) ++ rest).take (M.nb x : Int).toNat) = x
    rw [Int.toNat_natCast, h3, rb_digs x (M.nb x) (nb_pow x) _ (Nat.le_refl _), Nat.sub_self, Nat.pow_zero, Nat.div_one]
  · unfold tnSize
    rw [if_pos he, e, M.form_length]
    show 1 + (M.nb x : Int).toNat = _
    rw [Int.toNat_natCast]; omega
end Go.Proofs.YtabiimmpjllcpaaDoor.Wi
namespace Go.Proofs.YtabiimmpjllcpaaDoor.Wi
open Go.RowKit
set_option linter.unusedVariables false
structure RSt (w : World) (b : Nat) (a : Option Addr) (n c : Nat) (l : List Int) (p : Nat) (err : Int) : Prop where
  lt : b < w.heap.size
  c0 : w.cell? ⟨b, 0, none⟩ = some (.bool true)
  c1 : w.cell? ⟨b, 1, none⟩ = some (.slice a n c)
  c2 : w.cell? ⟨b, 2, none⟩ = some (.int .i64 p)
  c3 : w.cell? ⟨b, 3, none⟩ = some (.int .i64 err)
  f2 : w.frozen? ⟨b, 2, none⟩ = false
  f3 : w.frozen? ⟨b, 3, none⟩ = false
  hs : Hs w a n c l
  cmax : c ≤ maxLen
  ne : ∀ x, a = some x → ∃ g, x = ⟨g, 0, none⟩ ∧ g ≠ b
  le : p ≤ n
theorem Row.far {w : World} {g : Nat} {l : List Int} (h : Row w ⟨g, 0, none⟩ l) {p : Addr} (hp : p.block ≠ g) (u : Value) : Row (w.setCell p u) ⟨g, 0, none⟩ l := by
  intro i hi
  have h1 := h i hi
  rw [Addr.add_lit] at h1 ⊢
  rw [World.cell?_of_block (w := w) (Below.heap_setCell w p u g (fun e => hp e.symm))]
  exact h1
theorem Hs.far {w : World} {a : Option Addr} {n c : Nat} {l : List Int} (h : Hs w a n c l) {b : Nat} (hne : ∀ x, a = some x → ∃ g, x = ⟨g, 0, none⟩ ∧ g ≠ b) (k : Nat) (u : Value) : Hs (w.setCell ⟨b, k, none⟩ u) a n c l := by
  refine ⟨h.len, h.cap, fun x hx => ?_, h.nil, h.byte⟩
  obtain ⟨g, rfl, hg⟩ := hne x hx
  exact (h.row _ hx).far (by show b ≠ g; exact fun e => hg e.symm) u
theorem Hs.rest {w : World} {g n c : Nat} {l : List Int} (h : Hs w (some ⟨g, 0, none⟩) n c l) (p : Nat) (hp : p ≤ n) : Hs w (some ⟨g, p, none⟩) (n - p) (c - p) (l.drop p) := by
  refine ⟨by rw [List.length_drop, h.len], by have := h.cap; omega, fun x hx => ?_, fun hx => by (cases hx), fun z hz => h.byte z (List.mem_of_mem_drop hz)⟩
  cases hx
  have := (h.row _ rfl).drop p
  rwa [Nat.zero_add] at this
theorem Hs.rest_end {w : World} {g n c : Nat} {l : List Int} (h : Hs w (some ⟨g, 0, none⟩) n c l) (hp : n = c) : Hs w (some ⟨g, 0, none⟩) 0 0 (l.drop c) := by
  have hl : l.drop c = [] := List.drop_eq_nil_of_le (by rw [h.len]; omega)
  rw [hl]
  exact ⟨rfl, Nat.le_refl _, fun x hx i hi => by (simp at hi), fun hx => by (cases hx), fun z hz => by (cases hz)⟩
theorem tn_quiet (a : Option Addr) (n c : Nat) (l : List Int) (w : World) (k : Nat) (h : Hs w a n c l) (hm : c ≤ maxLen) :
    Calls Tryd.prog 97 #[.slice a n c] (w.drewN k) fun e w' => e = .returned (.tuple #[.int .u64 (tnVal l), .int .i64 (tnSize l), .int .i64 (tnErr l)]) ∧ ∃ m, w' = w.drewN m := by
  refine (tn_any a n c l (w.drewN k) (h.later (below_drewN (Below.refl _ _) k)) hm).mono ?_
  rintro e w' ⟨rfl, j, rfl⟩
  exact ⟨rfl, _, World.drewN_drewN _ _ _⟩
theorem tnSize_le (l : List Int) (h : ∀ z ∈ l, 0 ≤ z ∧ z < 256) : tnSize l ≤ l.length ∧ tnSize l ≤ 9 := by
  cases l with
  | nil => exact ⟨by simp [tnSize, tnErr], by simp [tnSize, tnErr]⟩
  | cons k d =>
    by_cases he : tnErr (k :: d) = 0
    · have hk := h k (by simp)
      have : tnSize (k :: d) = 1 + k.toNat := by unfold tnSize; rw [if_pos he]; rfl
      simp only [tnErr] at he
      split at he
      · cases he
      · split at he
        · cases he
        · rename_i h1 h2
          rw [this]
          simp only [List.length_cons]
          omega
    · rw [(tn_bad he).2]
      exact ⟨Nat.zero_le _, Nat.zero_le _⟩
theorem step_any (b : Nat) (p S : Nat) (E v3 : Int) (w : World) (c2 : w.cell? ⟨b, 2, none⟩ = some (.int .i64 p)) (c3 : w.cell? ⟨b, 3, none⟩ = some (.int .i64 v3)) (f2 : w.frozen? ⟨b, 2, none⟩ = false) (f3 : w.frozen? ⟨b, 3, none⟩ = false) (hb : p + S ≤ 9223372036854775807) :
    Calls Tryd.prog 96 #[.pointer (some ⟨b, 0, none⟩), .int .i64 S, .int .i64 E] w fun e w' => e = .returned (.tuple #[]) ∧ w' = (w.setCell ⟨b, 2, none⟩ (.int .i64 ((p + S : Nat) : Int))).setCell ⟨b, 3, none⟩ (.int .i64 E) := by
  have hb1 : (p : Int) + (S : Int) ≤ 9223372036854775807 := by omega
  go_enter Tryd.func96, Tryd.ntmps96
  go_wp2
  go_end0
  exact ⟨rfl, rfl⟩
set_option maxRecDepth 100000 in
set_option maxHeartbeats 400000 in
theorem number_core (b : Nat) (a a' : Option Addr) (n c : Nat) (l : List Int) (p : Nat) (w : World) (h : RSt w b a n c l p 0) (n' c' : Nat) (h' : Hs w a' n' c' (l.drop p)) (ha : (∃ g, a = some ⟨g, 0, none⟩ ∧ p < c ∧ a' = some ⟨g, p, none⟩ ∧ n' = n - p ∧ c' = c - p) ∨ (∃ g, a = some ⟨g, 0, none⟩ ∧ n = p ∧ c = p ∧ a' = some ⟨g, 0, none⟩ ∧ n' = 0 ∧ c' = 0) ∨ (a = none ∧ n = 0 ∧ c = 0 ∧ p = 0 ∧ a' = none ∧ n' = 0 ∧ c' = 0)) :
    Calls Tryd.prog 87 #[.pointer (some ⟨b, 0, none⟩)] w fun e w' => e = .returned (.int .u64 (tnVal (l.drop p))) ∧ ∃ k, w' = ((w.setCell ⟨b, 2, none⟩ (.int .i64 ((p + tnSize (l.drop p) : Nat) : Int))).setCell ⟨b, 3, none⟩ (.int .i64 (tnErr (l.drop p)))).drewN k := by
  obtain ⟨hlt, c0, c1, c2, c3, f2, f3, hs, cmax, ne, hle⟩ := h
  have hcap := hs.cap
  have hc' : c' ≤ maxLen := by
    rcases ha with ⟨g, _, _, _, _, hc⟩ | ⟨g, _, _, _, _, _, hc⟩ | ⟨_, _, _, _, _, _, hc⟩ <;> omega
  have HQ := fun k => hide (tn_quiet a' n' c' (l.drop p) w k h' hc')
  have hsz := tnSize_le (l.drop p) h'.byte
  have hln : (l.drop p).length = n - p := by rw [List.length_drop, hs.len]
  unfold maxLen at cmax
  clear hs ne h'
  generalize tnVal (l.drop p) = V at *
  generalize tnSize (l.drop p) = S at *
  generalize tnErr (l.drop p) = E at *
  have hS : S ≤ 9 := hsz.2
  have hb1 : p + S ≤ 9223372036854775807 := by omega
  clear hsz hln hc'
  have HS := fun k => hide (step_any b p S E 0 (w.drewN k) c2 c3 f2 f3 hb1)
  rcases ha with ⟨g, rfl, hpc, rfl, rfl, rfl⟩ | ⟨g, rfl, rfl, rfl, rfl, rfl, rfl⟩ | ⟨rfl, rfl, rfl, rfl, rfl, rfl, rfl⟩
  all_goals
    go_enter Tryd.func87, Tryd.ntmps87
    go_wp2_with (go_at_call 94; go_in)
    go_quiet ((go_at_call 97; exact (HQ _).out))
    go_wp2_with fail
    refine (HS _).out.mono ?_
    rintro e w' ⟨rfl, rfl⟩
    clear HS HQ
    go_wp2
    go_ret
    first | exact ⟨rfl, _, rfl⟩ | exact ⟨rfl, nq, by rw [Nat.zero_add]; rfl⟩
theorem RSt.stepped {w : World} {b : Nat} {a : Option Addr} {n c : Nat} {l : List Int} {p : Nat} {e : Int} (h : RSt w b a n c l p e) (p' : Nat) (e' : Int) (k : Nat) (hp : p' ≤ n) :
    RSt (((w.setCell ⟨b, 2, none⟩ (.int .i64 (p' : Int))).setCell ⟨b, 3, none⟩ (.int .i64 e')).drewN k) b a n c l p' e' := by
  obtain ⟨hlt, c0, c1, c2, c3, f2, f3, hs, cmax, ne, hle⟩ := h
  refine ⟨?_, ?_, ?_, ?_, ?_, ?_, ?_, ((hs.far ne 2 _).far ne 3 _).later (below_drewN (Below.refl _ _) k), cmax, ne, hp⟩
  all_goals go_simp
theorem Below.two {B b : Nat} {w0 w : World} (h : Below B w0 w) (hB : B ≤ b) (u v : Value) (k : Nat) : Below B w0 (((w.setCell ⟨b, 2, none⟩ u).setCell ⟨b, 3, none⟩ v).drewN k) :=
  below_drewN ((h.setCell hB u).setCell hB v) k
theorem rd_number_err (b : Nat) (a : Option Addr) (n c : Nat) (l : List Int) (p : Nat) (E : Int) (w : World) (h : RSt w b a n c l p E) (hE : E ≠ 0) :
    Calls Tryd.prog 87 #[.pointer (some ⟨b, 0, none⟩)] w fun e w' => e = .returned (.int .u64 0) ∧ w' = w := by
  obtain ⟨hlt, c0, c1, c2, c3, f2, f3, hs, cmax, ne, hle⟩ := h
  have hb : (E == 0) = false := by simp [hE]
  clear hs ne
  go_enter Tryd.func87, Tryd.ntmps87
  go_wp2
  go_ret
  exact ⟨rfl, rfl⟩
theorem rd_at (b : Nat) (a : Option Addr) (n c : Nat) (l : List Int) (p : Nat) (E : Int) (w : World) (h : RSt w b a n c l p E) :
    Calls Tryd.prog 52 #[.pointer (some ⟨b, 0, none⟩)] w fun e w' => e = .returned (.int .i64 p) ∧ w' = w := by
  obtain ⟨hlt, c0, c1, c2, c3, f2, f3, hs, cmax, ne, hle⟩ := h
  clear hs ne
  go_enter Tryd.func52, Tryd.ntmps52
  go_wp2
  go_ret
  exact ⟨rfl, rfl⟩
theorem rd_left (b : Nat) (a : Option Addr) (n c : Nat) (l : List Int) (p : Nat) (E : Int) (w : World) (h : RSt w b a n c l p E) :
    Calls Tryd.prog 71 #[.pointer (some ⟨b, 0, none⟩)] w fun e w' => e = .returned (.int .i64 ((n - p : Nat) : Int)) ∧ ∃ k, w' = w.drewN k := by
  obtain ⟨hlt, c0, c1, c2, c3, f2, f3, hs, cmax, ne, hle⟩ := h
  have hcap := hs.cap
  unfold maxLen at cmax
  clear hs ne
  go_enter Tryd.func71, Tryd.ntmps71
  go_wp2
  go_quiet (fail)
  go_wp2
  go_ret
  exact ⟨ret_int (by omega), _, rfl⟩
def endErr (n p : Nat) (E : Int) : Int := if E = 0 then if p < n then 15 else 0 else E
set_option maxRecDepth 100000 in
theorem rd_end (b : Nat) (a : Option Addr) (n c : Nat) (l : List Int) (p : Nat) (E : Int) (w : World) (h : RSt w b a n c l p E) :
    Calls Tryd.prog 53 #[.pointer (some ⟨b, 0, none⟩)] w fun e w' => e = .returned (.int .i64 (endErr n p E)) ∧ ∃ k, w' = w.drewN k := by
  have HL := hide (rd_left b a n c l p E w h)
  obtain ⟨hlt, c0, c1, c2, c3, f2, f3, hs, cmax, ne, hle⟩ := h
  clear hs ne
  by_cases hE : E = 0
  · subst hE
    by_cases hp : p < n
    · have H : Hid (endErr n p 0 = 15) := by unfold endErr; rw [if_pos rfl, if_pos hp]; rfl
      go_enter Tryd.func53, Tryd.ntmps53
      go_wp2_with fail
      refine HL.out.mono ?_
      rintro e w' ⟨rfl, k, rfl⟩
      have hd : decide (0 < n - p) = true := by simp; omega
      go_wp2
      go_ret
      exact ⟨ret_int H.out.symm, _, rfl⟩
    · have H : Hid (endErr n p 0 = 0) := by unfold endErr; rw [if_pos rfl, if_neg hp]; rfl
      go_enter Tryd.func53, Tryd.ntmps53
      go_wp2_with fail
      refine HL.out.mono ?_
      rintro e w' ⟨rfl, k, rfl⟩
      have hd : decide (0 < n - p) = false := by simp; omega
      go_wp2
      go_ret
      exact ⟨ret_int H.out.symm, _, rfl⟩
  · have H : Hid (endErr n p E = E) := by unfold endErr; rw [if_neg hE]; rfl
    have hb : (E != 0) = true := by simp [hE]
    clear HL
    go_enter Tryd.func53, Tryd.ntmps53
    go_wp2
    go_ret
    exact ⟨ret_int H.out.symm, 0, rfl⟩
theorem clone_none (w : World) : Calls Tryd.prog 38 #[.slice none 0 0] w fun e w' => e = .returned (.slice none 0 0) ∧ w' = w := by
  have kn := fun (w : World) => Lib.run_eql_slice_nil (P := Tryd.prog) w 39 5 none 0 0 0 0 Tryd.underlying39
  go_enter Tryd.func38, Tryd.ntmps38
  go_wp2
  go_ret
  exact ⟨rfl, rfl⟩
theorem clone_hs (a : Option Addr) (n c : Nat) (l : List Int) (w : World) (h : Hs w a n c l) (hm : n ≤ 140737488355328) :
    Calls Tryd.prog 38 #[.slice a n c] w fun e w' => ∃ v', e = .returned v' ∧ Own w.heap.size w' v' l ∧ (a ≠ none → v' ≠ .slice none 0 0) ∧ Below w.heap.size w w' := by
  cases a with
  | none =>
    obtain ⟨rfl, rfl⟩ := h.nil rfl
    obtain rfl : 0 = n := h.len
    refine (clone_none w).mono ?_
    rintro e w' ⟨rfl, rfl⟩
    exact ⟨_, rfl, Own.nil _ _, fun h => absurd rfl h, Below.refl _ _⟩
  | some x =>
    refine (clone_any x n c l w (Nat.le_of_eq h.len.symm) hm (h.row x rfl)).mono ?_
    rintro e w' ⟨v', rfl, h1, h2, h3⟩
    rw [List.take_of_length_le (Nat.le_of_eq h.len)] at h1
    exact ⟨v', rfl, h1, fun _ => h2, h3⟩
theorem Own.place {B : Nat} {w : World} {v : Value} {l : List Int} (h : Own B w v l) (hb : ∀ z ∈ l, 0 ≤ z ∧ z < 256) : ∃ a n c, v = .slice a n c ∧ Hs w a n c l ∧ c ≤ maxLen ∧ ∀ x, a = some x → ∃ g, x = ⟨g, 0, none⟩ ∧ B ≤ g ∧ g < w.heap.size := by
  have hl := World.ownsRow.lt h
  obtain ⟨a, n, c, rfl, h2, _⟩ := h.hs hb
  refine ⟨a, n, c, rfl, h2, ?_, ?_⟩
  · rcases h.2 with ⟨h1, _⟩ | ⟨g, c, _, h1, _, _, _, h3, _⟩
    · cases h1; unfold maxLen; omega
    · cases h1; exact h3
  · intro x hx
    subst hx
    rcases h.2 with ⟨h1, _⟩ | ⟨g, c, _, h1, h3, _⟩
    · cases h1
    · cases h1
      exact ⟨g, rfl, h3, (hl g rfl).2⟩
set_option maxRecDepth 100000 in
theorem newreader_any (a : Option Addr) (n c : Nat) (l : List Int) (w : World) (h : Hs w a n c l) (hm : n ≤ 140737488355328) :
    Calls Tryd.prog 50 #[.slice a n c] w fun e w' => ∃ b a' c', e = .returned (.pointer (some ⟨b, 0, none⟩)) ∧ RSt w' b a' n c' l 0 0 ∧ w.heap.size ≤ b ∧ Below w.heap.size w w' := by
  have hby := h.byte
  have hln := h.len
  go_enter Tryd.func50, Tryd.ntmps50
  go_wp2_with fail
  refine (clone_hs a n c l w h hm).mono ?_
  clear h
  rintro e w1 ⟨v, rfl, ho, _, hb⟩
  obtain ⟨a', n', c', rfl, h2, h3, h4⟩ := ho.place hby
  have hnn : n' = n := by rw [← h2.len, hln]
  subst hnn
  clear ho hln
  go_wp2
  go_ret
  refine ⟨w1.heap.size, a', c', rfl, ⟨by simp, ?_, ?_, ?_, ?_, ?_, ?_, h2.later ((Below.refl _ _).alloc (Nat.le_refl _) _), h3, ?_, Nat.zero_le _⟩, hb.size, hb.alloc hb.size _⟩
  all_goals first | (intro x hx; obtain ⟨g, h5, h6, h7⟩ := h4 x hx; exact ⟨g, h5, by omega⟩) | simp
theorem conv_hs (w : World) (a : Option Addr) (n c : Nat) (l : List Int) (h : Hs w a n c l) :
    (convert 39 9 (.slice a n c)).run Tryd.prog w = .ok (.string (strOfNums l)) w := by
  cases a with
  | none =>
    rw [run_convert_bytes_nil w 39 5 Tryd.underlying39 Tryd.underlying5 n c 9 Tryd.underlying9, (h.nil rfl).1]
    rfl
  | some x =>
    by_cases hn : 0 < n
    · obtain ⟨b, o, rfl⟩ := h.flat hn
      exact conv_row w b o n c l h.len (h.row _ rfl)
    · obtain rfl : n = 0 := by omega
      obtain rfl : l = [] := List.eq_nil_of_length_eq_zero h.len
      rw [run_convert_bytes_string w 39 9 5 _ 0 c Tryd.underlying39 Tryd.underlying5 Tryd.underlying9, run_bytesToString w x 0 c [] (run_loadCells_list (P := Tryd.prog) w x [] (fun j v hj => by simp at hj))]
      rfl
theorem nums_eq (l m : List Int) (hl : ∀ z ∈ l, 0 ≤ z ∧ z < 256) (hm : ∀ z ∈ m, 0 ≤ z ∧ z < 256) : ((strOfNums l).toList == (strOfNums m).toList) = decide (l = m) := by
  by_cases h : l = m
  · subst h; simp
  · rw [decide_eq_false h, beq_eq_false_iff_ne]
    intro he
    apply h
    rw [ByteArray.toList_eq, ByteArray.toList_eq] at he
    have h2 : sb (strOfNums l) = sb (strOfNums m) := by unfold sb; rw [he]
    rwa [sb_nums l hl, sb_nums m hm] at h2
set_option maxHeartbeats 400000 in
theorem same_any (a a' : Option Addr) (n c n' c' : Nat) (l m : List Int) (w : World) (h : Hs w a n c l) (h' : Hs w a' n' c' m) :
    Calls Tryd.prog 13 #[.slice a n c, .slice a' n' c'] w fun e w' => e = .returned (.bool (decide (l = m))) ∧ w' = w := by
  have k1 := conv_hs w a n c l h
  have k2 := conv_hs w a' n' c' m h'
  have H := hide (nums_eq l m h.byte h'.byte)
  clear h h'
  go_enter Tryd.func13, Tryd.ntmps13
  go_wp2
  go_ret
  refine ⟨?_, rfl⟩
  rw [← H.out]
  rfl
def tcErr (m : Int) (l : List Int) : Int := if m < 0 then 3 else if tnErr l ≠ 0 then tnErr l else if m < (tnVal l : Int) then 11 else 0
def tcVal (m : Int) (l : List Int) : Nat := if tcErr m l = 0 then tnVal l else 0
def tcSize (m : Int) (l : List Int) : Nat := if tcErr m l = 0 then tnSize l else 0
theorem tc_bad {m : Int} {l : List Int} (h : tcErr m l ≠ 0) : tcVal m l = 0 ∧ tcSize m l = 0 := by unfold tcVal tcSize; rw [if_neg h, if_neg h]; exact ⟨rfl, rfl⟩
theorem ret3i {a b c : Int} {a' b' c' : Int} (h1 : a = a') (h2 : b = b') (h3 : c = c') : Ending.returned (.tuple #[.int .i64 a, .int .i64 b, .int .i64 c]) = .returned (.tuple #[.int .i64 a', .int .i64 b', .int .i64 c']) := by rw [h1, h2, h3]
def TcPost (m : Int) (l : List Int) (w : World) (e : Ending) (w' : World) : Prop := e = .returned (.tuple #[.int .i64 (tcVal m l), .int .i64 (tcSize m l), .int .i64 (tcErr m l)]) ∧ ∃ k, w' = w.drewN k
theorem TcPost.mk_bad {m : Int} {l : List Int} {w : World} {E : Int} (k : Nat) (h : tcErr m l = E) (hE : E ≠ 0) : TcPost m l w (.returned (.tuple #[.int .i64 0, .int .i64 0, .int .i64 E])) (w.drewN k) := by
  obtain ⟨h1, h2⟩ := tc_bad (m := m) (l := l) (by rw [h]; exact hE)
  exact ⟨ret3i (by rw [h1]; rfl) (by rw [h2]; rfl) h.symm, k, rfl⟩
set_option maxRecDepth 100000 in
theorem tc_any (a : Option Addr) (n c : Nat) (l : List Int) (m : Int) (w : World) (h : Hs w a n c l) (hm : c ≤ maxLen) (q : m ≤ 9223372036854775807) :
    Calls Tryd.prog 95 #[.slice a n c, .int .i64 m] w fun e w' => TcPost m l w e w' := by
  by_cases hm0 : m < 0
  · have H : Hid (tcErr m l = 3) := by unfold tcErr; rw [if_pos hm0]; rfl
    go_enter Tryd.func95, Tryd.ntmps95
    go_wp2
    go_ret3
    exact TcPost.mk_bad 0 H.out (by decide)
  · obtain ⟨q0, rfl⟩ := Int.eq_ofNat_of_zero_le (Int.not_lt.1 hm0)
    have HT := hide (tn_any a n c l w h hm)
    clear h hm0
    by_cases hE : tnErr l = 0
    · by_cases hV : q0 < tnVal l
      · have H : Hid (tcErr q0 l = 11) := by unfold tcErr; rw [if_neg (by omega), if_neg (by simp [hE]), if_pos (by omega)]; rfl
        go_enter Tryd.func95, Tryd.ntmps95
        go_wp2_with fail
        refine HT.out.mono ?_
        rintro e w' ⟨rfl, k, rfl⟩
        rw [hE]
        clear HT hE
        generalize tnVal l = V at *
        generalize tnSize l = S at *
        go_wp2
        go_ret3
        exact TcPost.mk_bad k H.out (by decide)
      · have H : Hid (tcErr q0 l = 0) := by unfold tcErr; rw [if_neg (by omega), if_neg (by simp [hE]), if_neg (by omega)]; rfl
        have H1 : Hid (tcVal q0 l = tnVal l) := by unfold tcVal; rw [if_pos H.out]; rfl
        have H2 : Hid (tcSize q0 l = tnSize l) := by unfold tcSize; rw [if_pos H.out]; rfl
        go_enter Tryd.func95, Tryd.ntmps95
        go_wp2_with fail
        refine HT.out.mono ?_
        rintro e w' ⟨rfl, k, rfl⟩
        rw [hE]
        clear HT hE
        generalize tnVal l = V at *
        generalize tnSize l = S at *
        go_wp2
        go_ret3
        exact ⟨ret3i (by rw [H1.out]) (by rw [H2.out]) (by rw [H.out]), k, rfl⟩
    · have H : Hid (tcErr q0 l = tnErr l) := by unfold tcErr; rw [if_neg (by omega), if_pos hE]; rfl
      have hb : (tnErr l != 0) = true := by simp [hE]
      go_enter Tryd.func95, Tryd.ntmps95
      go_wp2_with fail
      refine HT.out.mono ?_
      rintro e w' ⟨rfl, k, rfl⟩
      clear HT
      generalize tnVal l = V at *
      generalize tnSize l = S at *
      generalize tnErr l = E at *
      go_wp2
      go_ret3
      exact TcPost.mk_bad k H.out hE
theorem Hs.cut {w : World} {a : Option Addr} {n c : Nat} {l : List Int} (h : Hs w a n c l) (k : Nat) (hk : k ≤ n) : Hs w a k c (l.take k) :=
  ⟨by rw [List.length_take, h.len]; omega, Nat.le_trans hk h.cap, fun x hx => (h.row x hx).take k, fun hx => by (have := h.nil hx; rw [this.1]; exact ⟨by simp, this.2⟩), fun z hz => h.byte z (List.mem_of_mem_take hz)⟩
theorem Own.base {B B' : Nat} {w : World} {v : Value} {l : List Int} (h : Own B w v l) (hB : B' ≤ B) : Own B' w v l := by
  refine ⟨h.1, ?_⟩
  rcases h.2 with h2 | ⟨g, c, cur, h1, h2, r⟩
  · exact Or.inl h2
  · exact Or.inr ⟨g, c, cur, h1, Nat.le_trans hB h2, r⟩
theorem Own.stored {B : Nat} {w : World} {g n c : Nat} {l : List Int} (h : Own B w (.slice (some ⟨g, 0, none⟩) n c) l) (k : Nat) (z : Int) : Own B (w.setCell ⟨g, k, none⟩ (.int .u8 z)) (.slice (some ⟨g, 0, none⟩) n c) (l.set k z) := by
  have hn : n = l.length := by
    rcases h.2 with ⟨h1, _⟩ | ⟨_, _, _, h1, _⟩
    · cases h1
    · cases h1; rfl
  subst hn
  have := (World.ownsRow.stored h k (.int .u8 z)).1
  unfold Own
  rw [List.length_set, show bs (l.set k z) = (bs l).set k (.int .u8 z) from by simp [bs, List.map_set]]
  exact this
theorem i64_wf {a : Int} (h : (Lit.int .i64 a).wf = true) : -9223372036854775808 ≤ a ∧ a ≤ 9223372036854775807 := by
  simp [Lit.wf, IntKind.min, IntKind.max, IntKind.bits, IntKind.signed] at h
  omega
def ttErr (m : Int) (l : List Int) : Int := if tcErr m l ≠ 0 then tcErr m l else if l.length < tcSize m l + tcVal m l then 10 else 0
def ttList (m : Int) (l : List Int) : List Int := if ttErr m l = 0 then (l.drop (tcSize m l)).take (tcVal m l) else []
def ttSize (m : Int) (l : List Int) : Nat := if ttErr m l = 0 then tcSize m l + tcVal m l else 0
theorem tt_bad {m : Int} {l : List Int} (h : ttErr m l ≠ 0) : ttList m l = [] ∧ ttSize m l = 0 := by unfold ttList ttSize; rw [if_neg h, if_neg h]; exact ⟨rfl, rfl⟩
theorem ret3s {a a' : ByteArray} {b c : Int} {b' c' : Int} (h1 : a = a') (h2 : b = b') (h3 : c = c') : Ending.returned (.tuple #[.string a, .int .i64 b, .int .i64 c]) = .returned (.tuple #[.string a', .int .i64 b', .int .i64 c']) := by rw [h1, h2, h3]
def TtPost (m : Int) (l : List Int) (w : World) (e : Ending) (w' : World) : Prop := e = .returned (.tuple #[.string (strOfNums (ttList m l)), .int .i64 (ttSize m l), .int .i64 (ttErr m l)]) ∧ ∃ k, w' = w.drewN k
theorem TtPost.mk_bad {m : Int} {l : List Int} {w : World} {E : Int} (k : Nat) (h : ttErr m l = E) (hE : E ≠ 0) : TtPost m l w (.returned (.tuple #[.string (strOfNums []), .int .i64 0, .int .i64 E])) (w.drewN k) := by
  obtain ⟨h1, h2⟩ := tt_bad (m := m) (l := l) (by rw [h]; exact hE)
  exact ⟨ret3s (by rw [h1]) (by rw [h2]; rfl) h.symm, k, rfl⟩
theorem Hs.rest' {w : World} {g o n c : Nat} {l : List Int} (h : Hs w (some ⟨g, o, none⟩) n c l) (p : Nat) (hp : p ≤ n) : Hs w (some ⟨g, o + p, none⟩) (n - p) (c - p) (l.drop p) := by
  refine ⟨by rw [List.length_drop, h.len], by have := h.cap; omega, fun x hx => ?_, fun hx => by (cases hx), fun z hz => h.byte z (List.mem_of_mem_drop hz)⟩
  cases hx
  exact (h.row _ rfl).drop p
theorem tcSize_le (m : Int) (l : List Int) (h : ∀ z ∈ l, 0 ≤ z ∧ z < 256) : tcSize m l ≤ l.length ∧ tcSize m l ≤ 9 := by
  have := tnSize_le l h
  unfold tcSize
  split <;> omega
theorem tcVal_le (m : Int) (l : List Int) (hm : m ≤ 9223372036854775807) : (tcVal m l : Int) ≤ 9223372036854775807 := by
  by_cases h : tcErr m l = 0
  · have h2 : tcVal m l = tnVal l := by unfold tcVal; rw [if_pos h]
    rw [h2]
    unfold tcErr at h
    split at h
    · cases h
    · split at h
      · rename_i h3; exact absurd h h3
      · split at h
        · cases h
        · omega
  · rw [(tc_bad h).1]; decide
set_option maxRecDepth 100000 in
set_option maxHeartbeats 400000 in
theorem tt_any (a : Option Addr) (n c : Nat) (l : List Int) (m : Int) (w : World) (h : Hs w a n c l) (hm : c ≤ maxLen) (q : m ≤ 9223372036854775807) :
    Calls Tryd.prog 98 #[.slice a n c, .int .i64 m] w fun e w' => TtPost m l w e w' := by
  have HT := hide (tc_any a n c l m w h hm q)
  have hln := h.len
  have hcap := h.cap
  have hsz := tcSize_le m l h.byte
  have hvl := tcVal_le m l q
  unfold maxLen at hm
  by_cases hE : tcErr m l = 0
  · by_cases hS : l.length < tcSize m l + tcVal m l
    · have H : Hid (ttErr m l = 10) := by unfold ttErr; rw [if_neg (by simp [hE]), if_pos hS]; rfl
      rw [hln] at hS hsz
      clear h
      go_enter Tryd.func98, Tryd.ntmps98
      go_wp2_with fail
      refine HT.out.mono ?_
      rintro e w' ⟨rfl, k, rfl⟩
      rw [hE]
      clear HT hE hln
      generalize tcVal m l = V at *
      generalize tcSize m l = S at *
      obtain ⟨hs1, hs2⟩ := hsz
      have hlt : (n : Int) - (S : Int) < (V : Int) := by omega
      go_wp2
      go_ret3
      exact TtPost.mk_bad k H.out (by decide)
    · have H : Hid (ttErr m l = 0) := by unfold ttErr; rw [if_neg (by simp [hE]), if_neg hS]; rfl
      have H1 : Hid (ttList m l = (l.drop (tcSize m l)).take (tcVal m l)) := by unfold ttList; rw [if_pos H.out]; rfl
      have H2 : Hid (ttSize m l = tcSize m l + tcVal m l) := by unfold ttSize; rw [if_pos H.out]; rfl
      have hne : 0 < n := by
        rw [← hln]
        refine List.length_pos_iff.2 ?_
        rintro rfl
        unfold tcErr at hE
        split at hE
        · cases hE
        · simp [tnErr] at hE
      cases a with
      | none => rw [(h.nil rfl).1] at hln; simp at hln; omega
      | some x =>
      obtain ⟨b, o, rfl⟩ := h.flat hne
      rw [hln] at hS hsz
      obtain ⟨hs1, hs2⟩ := hsz
      have hR := (h.rest' (tcSize m l) hs1).cut (tcVal m l) (by omega)
      rw [← H1.out] at hR
      by_cases hSc : tcSize m l < c
      · have kc := fun j => conv_hs (w.drewN j) _ _ _ _ (hR.later (below_drewN (Below.refl _ _) j))
        clear h hR hln hne
        go_enter Tryd.func98, Tryd.ntmps98
        go_wp2_with fail
        refine HT.out.mono ?_
        rintro e w' ⟨rfl, k, rfl⟩
        rw [hE]
        clear HT hE H1
        generalize tcVal m l = V at *
        generalize tcSize m l = S at *
        generalize hL : ttList m l = L at *
        have hge : ¬ ((n : Int) - (S : Int) < (V : Int)) := by omega
        go_wp2
        go_ret3
        exact ⟨ret3s (by rw [hL]) (by rw [H2.out]; omega) (by rw [H.out]), k, rfl⟩
      · have e1 : n = c := by omega
        have e2 : tcSize m l = c := by omega
        have e3 : tcVal m l = 0 := by omega
        have eL : ttList m l = [] := by rw [H1.out, e3]; rfl
        have hZ : Hs w (some ⟨b, o, none⟩) 0 0 [] := ⟨rfl, Nat.le_refl _, fun x hx i hi => by (simp at hi), fun hx => by (cases hx), fun z hz => by (cases hz)⟩
        have kc := fun j => conv_hs (w.drewN j) _ _ _ _ (hZ.later (below_drewN (Below.refl _ _) j))
        have hsz2 : ttSize m l = c := by rw [H2.out, e2, e3, Nat.add_zero]
        have HSZ := hide hsz2
        have HEL := hide eL
        clear h hR hln H1 H2 hS hSc hs1 hZ eL hsz2
        rw [e2] at hs2
        subst e1
        go_enter Tryd.func98, Tryd.ntmps98
        go_wp2_with fail
        refine HT.out.mono ?_
        rintro e w' ⟨rfl, k, rfl⟩
        rw [hE, e2, e3]
        clear HT hE e2 e3 hvl
        go_wp2
        go_ret3
        exact ⟨ret3s (by rw [HEL.out]) (by rw [HSZ.out]) (by rw [H.out]), k, rfl⟩
  · have H : Hid (ttErr m l = tcErr m l) := by unfold ttErr; rw [if_pos hE]; rfl
    have hb : (tcErr m l != 0) = true := by simp [hE]
    clear h
    go_enter Tryd.func98, Tryd.ntmps98
    go_wp2_with fail
    refine HT.out.mono ?_
    rintro e w' ⟨rfl, k, rfl⟩
    clear HT
    generalize tcVal m l = V at *
    generalize tcSize m l = S at *
    generalize tcErr m l = E at *
    go_wp2
    go_ret3
    exact TtPost.mk_bad k H.out hE
theorem tc_read (x : Nat) (m : Int) (hx : x ≤ 9223372036854775807) (hm : (x : Int) ≤ m) (rest : List Int) : tcErr m (M.form x ++ rest) = 0 ∧ tcVal m (M.form x ++ rest) = x ∧ tcSize m (M.form x ++ rest) = (M.form x).length := by
  obtain ⟨h1, h2, h3⟩ := tn_read x (by omega) rest
  have he : tcErr m (M.form x ++ rest) = 0 := by
    unfold tcErr
    rw [if_neg (by omega), if_neg (by simp [h1]), h2, if_neg (by omega)]
  refine ⟨he, ?_, ?_⟩
  · unfold tcVal; rw [if_pos he, h2]
  · unfold tcSize; rw [if_pos he, h3]
theorem tt_read (L : List Int) (m : Int) (hx : L.length ≤ 9223372036854775807) (hm : (L.length : Int) ≤ m) (rest : List Int) : ttErr m (M.form L.length ++ L ++ rest) = 0 ∧ ttList m (M.form L.length ++ L ++ rest) = L ∧ ttSize m (M.form L.length ++ L ++ rest) = (M.form L.length ++ L).length := by
  obtain ⟨h1, h2, h3⟩ := tc_read L.length m hx hm (L ++ rest)
  rw [List.append_assoc]
  have he : ttErr m (M.form L.length ++ (L ++ rest)) = 0 := by
    unfold ttErr
    rw [if_neg (by simp [h1]), h2, h3, if_neg (by simp only [List.length_append]; omega)]
  refine ⟨he, ?_, ?_⟩
  · unfold ttList
    rw [if_pos he, h2, h3, List.drop_left, List.take_left]
  · unfold ttSize
    rw [if_pos he, h2, h3, List.length_append]
theorem str_sb (s : ByteArray) : strOfNums (sb s) = s := by
  unfold strOfNums sb
  rw [List.map_map]
  have e : (s.data.toList.map ((fun n : Int => UInt8.ofNat n.toNat) ∘ fun b => (b.toNat : Int))) = s.data.toList := by
    refine (List.map_congr_left (fun b _ => ?_)).trans (List.map_id _)
    simp
  rw [e]
end Go.Proofs.YtabiimmpjllcpaaDoor.Wi
namespace Go.Proofs.YtabiimmpjllcpaaDoor.Wi
open Go.RowKit Go.ChangeShapes Go.WideShapes
set_option linter.unusedVariables false
theorem intCells : Tryd.prog.cellsOf 3 = 1 := by kernel_rfl
theorem u64Cells : Tryd.prog.cellsOf 31 = 1 := by kernel_rfl
theorem strCells : Tryd.prog.cellsOf 9 = 1 := by kernel_rfl
end Go.Proofs.YtabiimmpjllcpaaDoor.Wi
namespace Go.Proofs.YtabiimmpjllcpaaDoor.Wi
open Go.RowKit
set_option linter.unusedVariables false
end Go.Proofs.YtabiimmpjllcpaaDoor.Wi
namespace Go.Proofs.YtabiimmpjllcpaaDoor.Wi
open Go.RowKit
set_option linter.unusedVariables false
set_option linter.unusedSimpArgs false
theorem Own.low {B B' : Nat} {w : World} {v : Value} {l : List Int} (h : Own B w v l) (hb : B' ≤ B) : Own B' w v l := by
  obtain ⟨h1, h2⟩ := h
  refine ⟨h1, ?_⟩
  rcases h2 with h2 | ⟨g, cap, cur, e1, e2, r⟩
  · exact .inl h2
  · exact .inr ⟨g, cap, cur, e1, Nat.le_trans hb e2, r⟩
end Go.Proofs.YtabiimmpjllcpaaDoor.Wi
namespace Go.Proofs.YtabiimmpjllcpaaDoor.Wi
open Go.RowKit
set_option linter.unusedVariables false
set_option linter.unusedSimpArgs false
end Go.Proofs.YtabiimmpjllcpaaDoor.Wi
namespace Go.Proofs.YtabiimmpjllcpaaDoor.Wi
open Go.RowKit
set_option linter.unusedVariables false
set_option linter.unusedSimpArgs false
theorem Puts.take {w : World} {a : Option Addr} {P : List Pt} (h : Puts w a P) (k : Nat) : Puts w a (P.take k) := fun i hi => by
  have hi' : i < P.length := by rw [List.length_take] at hi; omega
  have e : (P.take k)[i] = P[i] := List.getElem_take
  rw [e]
  exact h i hi'
end Go.Proofs.YtabiimmpjllcpaaDoor.Wi
namespace Go.Proofs.YtabiimmpjllcpaaDoor
open Go.RowKit Go.Maps
open Classical
set_option linter.unusedVariables false
set_option linter.unusedSimpArgs false
theorem enF_ck {e : En} (h : ckE e = 0) (hf : e.fits) : enF e := by
  have hn := (i64_wf hf.nw).2
  unfold ckE at h
  split at h
  · omega
  · split at h
    · omega
    · unfold ck at h
      refine ⟨by omega, by omega, by omega, hn, ?_⟩
      repeat' split at h
      all_goals first | omega | skip
      all_goals refine ⟨by omega, by omega, by omega, by omega, ?_⟩
      all_goals first | omega | (split at * <;> omega)
theorem enF_z : enF zEn := ⟨by decide, by decide, by decide, by decide, by decide, by decide, by decide, by decide, by decide⟩
theorem enF_nm {e : En} (h : nmB e = true) (hf : e.fits) : enF e := by
  rw [nmB_en e 2 (Or.inl rfl)] at h
  unfold enK at h
  rw [if_pos (Or.inl rfl)] at h
  simp only [Bool.and_eq_true, decide_eq_true_eq] at h
  obtain ⟨a, b, c, d, e1, f⟩ := h
  have hn := (i64_wf hf.nw).2
  refine ⟨a, by omega, by omega, hn, by omega, by omega, by omega, by omega, ?_⟩
  rw [f]
  decide
def rsF (r : Int × Int × ByteArray) : Prop := 0 ≤ r.1 ∧ r.1 ≤ 9223372036854775807 ∧ 0 ≤ r.2.1 ∧ r.2.1 ≤ 9223372036854775807 ∧ r.2.2.size ≤ 64
theorem rsF_res {r : Int × Int × ByteArray} (h : resB r.1 r.2.1 r.2.2 = true) : rsF r := by
  unfold resB inR noV at h
  unfold rsF
  split at h
  · simp only [Bool.and_eq_true, decide_eq_true_eq] at h; omega
  · split at h
    · simp only [Bool.and_eq_true, decide_eq_true_eq] at h
      rw [h.2]
      refine ⟨by omega, by omega, by omega, by omega, by decide⟩
    · split at h
      · simp only [Bool.and_eq_true, decide_eq_true_eq] at h
        rw [h.2]
        refine ⟨by omega, by omega, by omega, by omega, by decide⟩
      · split at h
        · simp only [Bool.and_eq_true, decide_eq_true_eq] at h
          rw [h.2]
          refine ⟨by omega, by omega, by omega, by omega, by decide⟩
        · cases h
theorem lg_ok {L : List En} {r : Int} (h : lg L r = 0) : ∀ e ∈ L, ckE e = 0 := by
  unfold lg at h
  by_cases hr : r < L.length
  · rw [if_pos hr] at h; omega
  · rw [if_neg hr] at h
    have hz := lgA_zero L.length L 0 (by omega) (by simpa using h)
    intro e he
    obtain ⟨i, hi⟩ := List.getElem?_of_mem he
    have := hz i e (Nat.zero_le _) hi
    unfold er at this
    by_cases h0 : ckE e ≠ 0
    · rw [if_pos h0] at this; exact absurd this h0
    · omega
theorem pl_es {f r : Int} {m : Mg} {L : List En} (hr1 : 1 ≤ r) (hr2 : r ≤ 256) (h : plB f r m L = true) (hL : ∀ e ∈ L, e.fits) : ∀ e ∈ L, enF e := by
  unfold plB at h
  rw [Bool.or_eq_true] at h
  rcases h with h | h
  · have e := List.length_eq_zero_iff.1 (of_decide_eq_true h); rw [e]; intro e he; cases he
  · exact fun e he => enF_ck (lg_ok (by rw [← chk_lg hr1 hr2]; exact of_decide_eq_true (Bool.and_eq_true_iff.1 h).2) e he) (hL e he)
theorem pl_len {f r : Int} {m : Mg} {L : List En} (hr1 : 1 ≤ r) (hr2 : r ≤ 256) (h : plB f r m L = true) : L.length ≤ 256 := by
  unfold plB at h
  rw [Bool.or_eq_true] at h
  rcases h with h | h
  · have := of_decide_eq_true h; omega
  · have := lg_len (L := L) (r := r) (by rw [← chk_lg hr1 hr2]; exact of_decide_eq_true (Bool.and_eq_true_iff.1 h).2); omega
theorem inR_iff {x a b : Int} : inR x a b = true ↔ a ≤ x ∧ x ≤ b := by
  unfold inR
  rw [Bool.and_eq_true, decide_eq_true_eq, decide_eq_true_eq]
theorem mgF_1 {f r : Int} {m : Mg} {L : List En} {D : List (Int × Int)} (hk : m.k = 1) (hf1 : 1 ≤ f) (hf2 : f ≤ 3) (hr1 : 1 ≤ r) (hr2 : r ≤ 256) (hf : m.e.fits) (hL : ∀ e ∈ L, e.fits) (hd : drF m.d) (hD : ∀ d ∈ D, drF d) (hlen : (L.length : Int) ≤ 9223372036854775807) (H : ∀ j, j < 10 → keepB f r m L D j (tabA 1 j) = true) : mgF m L D := by
  have h0 : keepB f r m L D 0 0 = true := H 0 (by decide)
  have h1 : keepB f r m L D 1 0 = true := H 1 (by decide)
  have h2 : keepB f r m L D 2 0 = true := H 2 (by decide)
  have h3 : keepB f r m L D 3 0 = true := H 3 (by decide)
  have h4 : keepB f r m L D 4 0 = true := H 4 (by decide)
  have h5 : keepB f r m L D 5 0 = true := H 5 (by decide)
  have h6 : keepB f r m L D 6 13 = true := H 6 (by decide)
  have h7 : keepB f r m L D 7 0 = true := H 7 (by decide)
  have h8 : keepB f r m L D 8 0 = true := H 8 (by decide)
  have h9 : keepB f r m L D 9 0 = true := H 9 (by decide)
  clear H
  have g1 : m.vw = 0 := of_decide_eq_true h1
  have g0 : m.nd = 0 := of_decide_eq_true h0
  have g2 : m.ls = 0 := of_decide_eq_true h2
  have g3 : m.p = 0 := of_decide_eq_true h3
  have g4 : m.cm = 0 := of_decide_eq_true h4
  have T : m.vw < 0 ∨ (0 ≤ m.vw.tmod (2 * f + 1) ∧ m.vw.tmod (2 * f + 1) < 2 * f + 1) := by
    by_cases h : m.vw < 0
    · exact .inl h
    · exact .inr (tmod_in (by omega) (by omega))
  exact ⟨by omega, by omega, by omega, by omega, by omega, by omega, hd, (enF_ck (by rw [← chk_one]; exact of_decide_eq_true h6) hf), (by have := of_decide_eq_true h7; rw [this]; exact ⟨by decide, by decide, by decide, by decide, by decide⟩), (by have := of_decide_eq_true h8; have e := List.length_eq_zero_iff.1 this; rw [e]; intro e he; cases he), (by have := of_decide_eq_true h8; omega), hD, (by have := of_decide_eq_true h9; omega)⟩
theorem mgF_2 {f r : Int} {m : Mg} {L : List En} {D : List (Int × Int)} (hk : m.k = 2) (hf1 : 1 ≤ f) (hf2 : f ≤ 3) (hr1 : 1 ≤ r) (hr2 : r ≤ 256) (hf : m.e.fits) (hL : ∀ e ∈ L, e.fits) (hd : drF m.d) (hD : ∀ d ∈ D, drF d) (hlen : (L.length : Int) ≤ 9223372036854775807) (H : ∀ j, j < 10 → keepB f r m L D j (tabA 2 j) = true) : mgF m L D := by
  have h0 : keepB f r m L D 0 1 = true := H 0 (by decide)
  have h1 : keepB f r m L D 1 3 = true := H 1 (by decide)
  have h2 : keepB f r m L D 2 0 = true := H 2 (by decide)
  have h3 : keepB f r m L D 3 8 = true := H 3 (by decide)
  have h4 : keepB f r m L D 4 0 = true := H 4 (by decide)
  have h5 : keepB f r m L D 5 0 = true := H 5 (by decide)
  have h6 : keepB f r m L D 6 15 = true := H 6 (by decide)
  have h7 : keepB f r m L D 7 16 = true := H 7 (by decide)
  have h8 : keepB f r m L D 8 0 = true := H 8 (by decide)
  have h9 : keepB f r m L D 9 0 = true := H 9 (by decide)
  clear H
  have g1 := inR_iff.1 h1
  have g0 := inR_iff.1 h0
  have g2 : m.ls = 0 := of_decide_eq_true h2
  have g3 : (m.r.1 = 7 ∧ m.p = 0) ∨ (¬ m.r.1 = 7 ∧ 1 ≤ m.p ∧ m.p ≤ r) := by rw [← apB_iff]; exact h3
  have g4 : m.cm = 0 := of_decide_eq_true h4
  have T : m.vw < 0 ∨ (0 ≤ m.vw.tmod (2 * f + 1) ∧ m.vw.tmod (2 * f + 1) < 2 * f + 1) := by
    by_cases h : m.vw < 0
    · exact .inl h
    · exact .inr (tmod_in (by omega) (by omega))
  exact ⟨by omega, by omega, by omega, by omega, by omega, by omega, hd, (enF_nm h6 hf), (rsF_res h7), (by have := of_decide_eq_true h8; have e := List.length_eq_zero_iff.1 this; rw [e]; intro e he; cases he), (by have := of_decide_eq_true h8; omega), hD, (by have := of_decide_eq_true h9; omega)⟩
theorem mgF_3 {f r : Int} {m : Mg} {L : List En} {D : List (Int × Int)} (hk : m.k = 3) (hf1 : 1 ≤ f) (hf2 : f ≤ 3) (hr1 : 1 ≤ r) (hr2 : r ≤ 256) (hf : m.e.fits) (hL : ∀ e ∈ L, e.fits) (hd : drF m.d) (hD : ∀ d ∈ D, drF d) (hlen : (L.length : Int) ≤ 9223372036854775807) (H : ∀ j, j < 10 → keepB f r m L D j (tabA 3 j) = true) : mgF m L D := by
  have h0 : keepB f r m L D 0 2 = true := H 0 (by decide)
  have h1 : keepB f r m L D 1 3 = true := H 1 (by decide)
  have h2 : keepB f r m L D 2 0 = true := H 2 (by decide)
  have h3 : keepB f r m L D 3 7 = true := H 3 (by decide)
  have h4 : keepB f r m L D 4 9 = true := H 4 (by decide)
  have h5 : keepB f r m L D 5 0 = true := H 5 (by decide)
  have h6 : keepB f r m L D 6 13 = true := H 6 (by decide)
  have h7 : keepB f r m L D 7 0 = true := H 7 (by decide)
  have h8 : keepB f r m L D 8 0 = true := H 8 (by decide)
  have h9 : keepB f r m L D 9 20 = true := H 9 (by decide)
  clear H
  have g1 := inR_iff.1 h1
  have g0 : m.nd = m.vw.tmod (2 * f + 1) := of_decide_eq_true h0
  have g2 : m.ls = 0 := of_decide_eq_true h2
  have g3 := inR_iff.1 h3
  have g4 := inR_iff.1 h4
  have T : m.vw < 0 ∨ (0 ≤ m.vw.tmod (2 * f + 1) ∧ m.vw.tmod (2 * f + 1) < 2 * f + 1) := by
    by_cases h : m.vw < 0
    · exact .inl h
    · exact .inr (tmod_in (by omega) (by omega))
  exact ⟨by omega, by omega, by omega, by omega, by omega, by omega, hd, (enF_ck (by rw [← chk_one]; exact of_decide_eq_true h6) hf), (by have := of_decide_eq_true h7; rw [this]; exact ⟨by decide, by decide, by decide, by decide, by decide⟩), (by have := of_decide_eq_true h8; have e := List.length_eq_zero_iff.1 this; rw [e]; intro e he; cases he), (by have := of_decide_eq_true h8; omega), hD, (by have := of_decide_eq_true h9; omega)⟩
theorem mgF_4 {f r : Int} {m : Mg} {L : List En} {D : List (Int × Int)} (hk : m.k = 4) (hf1 : 1 ≤ f) (hf2 : f ≤ 3) (hr1 : 1 ≤ r) (hr2 : r ≤ 256) (hf : m.e.fits) (hL : ∀ e ∈ L, e.fits) (hd : drF m.d) (hD : ∀ d ∈ D, drF d) (hlen : (L.length : Int) ≤ 9223372036854775807) (H : ∀ j, j < 10 → keepB f r m L D j (tabA 4 j) = true) : mgF m L D := by
  have h0 : keepB f r m L D 0 1 = true := H 0 (by decide)
  have h1 : keepB f r m L D 1 3 = true := H 1 (by decide)
  have h2 : keepB f r m L D 2 0 = true := H 2 (by decide)
  have h3 : keepB f r m L D 3 6 = true := H 3 (by decide)
  have h4 : keepB f r m L D 4 0 = true := H 4 (by decide)
  have h5 : keepB f r m L D 5 0 = true := H 5 (by decide)
  have h6 : keepB f r m L D 6 0 = true := H 6 (by decide)
  have h7 : keepB f r m L D 7 0 = true := H 7 (by decide)
  have h8 : keepB f r m L D 8 0 = true := H 8 (by decide)
  have h9 : keepB f r m L D 9 20 = true := H 9 (by decide)
  clear H
  have g1 := inR_iff.1 h1
  have g0 := inR_iff.1 h0
  have g2 : m.ls = 0 := of_decide_eq_true h2
  have g3 := inR_iff.1 h3
  have g4 : m.cm = 0 := of_decide_eq_true h4
  have T : m.vw < 0 ∨ (0 ≤ m.vw.tmod (2 * f + 1) ∧ m.vw.tmod (2 * f + 1) < 2 * f + 1) := by
    by_cases h : m.vw < 0
    · exact .inl h
    · exact .inr (tmod_in (by omega) (by omega))
  exact ⟨by omega, by omega, by omega, by omega, by omega, by omega, hd, (by rw [(enb_iff _ _).1 h6]; exact enF_z), (by have := of_decide_eq_true h7; rw [this]; exact ⟨by decide, by decide, by decide, by decide, by decide⟩), (by have := of_decide_eq_true h8; have e := List.length_eq_zero_iff.1 this; rw [e]; intro e he; cases he), (by have := of_decide_eq_true h8; omega), hD, (by have := of_decide_eq_true h9; omega)⟩
theorem mgF_5 {f r : Int} {m : Mg} {L : List En} {D : List (Int × Int)} (hk : m.k = 5) (hf1 : 1 ≤ f) (hf2 : f ≤ 3) (hr1 : 1 ≤ r) (hr2 : r ≤ 256) (hf : m.e.fits) (hL : ∀ e ∈ L, e.fits) (hd : drF m.d) (hD : ∀ d ∈ D, drF d) (hlen : (L.length : Int) ≤ 9223372036854775807) (H : ∀ j, j < 10 → keepB f r m L D j (tabA 5 j) = true) : mgF m L D := by
  have h0 : keepB f r m L D 0 2 = true := H 0 (by decide)
  have h1 : keepB f r m L D 1 3 = true := H 1 (by decide)
  have h2 : keepB f r m L D 2 0 = true := H 2 (by decide)
  have h3 : keepB f r m L D 3 0 = true := H 3 (by decide)
  have h4 : keepB f r m L D 4 9 = true := H 4 (by decide)
  have h5 : keepB f r m L D 5 0 = true := H 5 (by decide)
  have h6 : keepB f r m L D 6 0 = true := H 6 (by decide)
  have h7 : keepB f r m L D 7 0 = true := H 7 (by decide)
  have h8 : keepB f r m L D 8 0 = true := H 8 (by decide)
  have h9 : keepB f r m L D 9 20 = true := H 9 (by decide)
  clear H
  have g1 := inR_iff.1 h1
  have g0 : m.nd = m.vw.tmod (2 * f + 1) := of_decide_eq_true h0
  have g2 : m.ls = 0 := of_decide_eq_true h2
  have g3 : m.p = 0 := of_decide_eq_true h3
  have g4 := inR_iff.1 h4
  have T : m.vw < 0 ∨ (0 ≤ m.vw.tmod (2 * f + 1) ∧ m.vw.tmod (2 * f + 1) < 2 * f + 1) := by
    by_cases h : m.vw < 0
    · exact .inl h
    · exact .inr (tmod_in (by omega) (by omega))
  exact ⟨by omega, by omega, by omega, by omega, by omega, by omega, hd, (by rw [(enb_iff _ _).1 h6]; exact enF_z), (by have := of_decide_eq_true h7; rw [this]; exact ⟨by decide, by decide, by decide, by decide, by decide⟩), (by have := of_decide_eq_true h8; have e := List.length_eq_zero_iff.1 this; rw [e]; intro e he; cases he), (by have := of_decide_eq_true h8; omega), hD, (by have := of_decide_eq_true h9; omega)⟩
theorem mgF_6 {f r : Int} {m : Mg} {L : List En} {D : List (Int × Int)} (hk : m.k = 6) (hf1 : 1 ≤ f) (hf2 : f ≤ 3) (hr1 : 1 ≤ r) (hr2 : r ≤ 256) (hf : m.e.fits) (hL : ∀ e ∈ L, e.fits) (hd : drF m.d) (hD : ∀ d ∈ D, drF d) (hlen : (L.length : Int) ≤ 9223372036854775807) (H : ∀ j, j < 10 → keepB f r m L D j (tabA 6 j) = true) : mgF m L D := by
  have h0 : keepB f r m L D 0 1 = true := H 0 (by decide)
  have h1 : keepB f r m L D 1 4 = true := H 1 (by decide)
  have h2 : keepB f r m L D 2 0 = true := H 2 (by decide)
  have h3 : keepB f r m L D 3 0 = true := H 3 (by decide)
  have h4 : keepB f r m L D 4 0 = true := H 4 (by decide)
  have h5 : keepB f r m L D 5 0 = true := H 5 (by decide)
  have h6 : keepB f r m L D 6 0 = true := H 6 (by decide)
  have h7 : keepB f r m L D 7 0 = true := H 7 (by decide)
  have h8 : keepB f r m L D 8 0 = true := H 8 (by decide)
  have h9 : keepB f r m L D 9 20 = true := H 9 (by decide)
  clear H
  have g1 := inR_iff.1 h1
  have g0 := inR_iff.1 h0
  have g2 : m.ls = 0 := of_decide_eq_true h2
  have g3 : m.p = 0 := of_decide_eq_true h3
  have g4 : m.cm = 0 := of_decide_eq_true h4
  have T : m.vw < 0 ∨ (0 ≤ m.vw.tmod (2 * f + 1) ∧ m.vw.tmod (2 * f + 1) < 2 * f + 1) := by
    by_cases h : m.vw < 0
    · exact .inl h
    · exact .inr (tmod_in (by omega) (by omega))
  exact ⟨by omega, by omega, by omega, by omega, by omega, by omega, hd, (by rw [(enb_iff _ _).1 h6]; exact enF_z), (by have := of_decide_eq_true h7; rw [this]; exact ⟨by decide, by decide, by decide, by decide, by decide⟩), (by have := of_decide_eq_true h8; have e := List.length_eq_zero_iff.1 this; rw [e]; intro e he; cases he), (by have := of_decide_eq_true h8; omega), hD, (by have := of_decide_eq_true h9; omega)⟩
theorem mgF_7 {f r : Int} {m : Mg} {L : List En} {D : List (Int × Int)} (hk : m.k = 7) (hf1 : 1 ≤ f) (hf2 : f ≤ 3) (hr1 : 1 ≤ r) (hr2 : r ≤ 256) (hf : m.e.fits) (hL : ∀ e ∈ L, e.fits) (hd : drF m.d) (hD : ∀ d ∈ D, drF d) (hlen : (L.length : Int) ≤ 9223372036854775807) (H : ∀ j, j < 10 → keepB f r m L D j (tabA 7 j) = true) : mgF m L D := by
  have h0 : keepB f r m L D 0 1 = true := H 0 (by decide)
  have h1 : keepB f r m L D 1 4 = true := H 1 (by decide)
  have h2 : keepB f r m L D 2 5 = true := H 2 (by decide)
  have h3 : keepB f r m L D 3 0 = true := H 3 (by decide)
  have h4 : keepB f r m L D 4 10 = true := H 4 (by decide)
  have h5 : keepB f r m L D 5 0 = true := H 5 (by decide)
  have h6 : keepB f r m L D 6 0 = true := H 6 (by decide)
  have h7 : keepB f r m L D 7 0 = true := H 7 (by decide)
  have h8 : keepB f r m L D 8 18 = true := H 8 (by decide)
  have h9 : keepB f r m L D 9 20 = true := H 9 (by decide)
  clear H
  have g1 := inR_iff.1 h1
  have g0 := inR_iff.1 h0
  have g2 := Bool.and_eq_true_iff.1 h2
  have g2a := of_decide_eq_true g2.1
  have g2b := of_decide_eq_true g2.2
  have g3 : m.p = 0 := of_decide_eq_true h3
  have g4 := inR_iff.1 h4
  have T : m.vw < 0 ∨ (0 ≤ m.vw.tmod (2 * f + 1) ∧ m.vw.tmod (2 * f + 1) < 2 * f + 1) := by
    by_cases h : m.vw < 0
    · exact .inl h
    · exact .inr (tmod_in (by omega) (by omega))
  exact ⟨by omega, by omega, by omega, by omega, by omega, by omega, hd, (by rw [(enb_iff _ _).1 h6]; exact enF_z), (by have := of_decide_eq_true h7; rw [this]; exact ⟨by decide, by decide, by decide, by decide, by decide⟩), (fun e he => enF_ck (lg_ok (by rw [← chk_lg hr1 hr2]; exact of_decide_eq_true h8) e he) (hL e he)), (by have := lg_len (L := L) (r := r) (by rw [← chk_lg hr1 hr2]; exact of_decide_eq_true h8); omega), hD, (by have := of_decide_eq_true h9; omega)⟩
theorem mgF_8 {f r : Int} {m : Mg} {L : List En} {D : List (Int × Int)} (hk : m.k = 8) (hf1 : 1 ≤ f) (hf2 : f ≤ 3) (hr1 : 1 ≤ r) (hr2 : r ≤ 256) (hf : m.e.fits) (hL : ∀ e ∈ L, e.fits) (hd : drF m.d) (hD : ∀ d ∈ D, drF d) (hlen : (L.length : Int) ≤ 9223372036854775807) (H : ∀ j, j < 10 → keepB f r m L D j (tabA 8 j) = true) : mgF m L D := by
  have h0 : keepB f r m L D 0 2 = true := H 0 (by decide)
  have h1 : keepB f r m L D 1 4 = true := H 1 (by decide)
  have h2 : keepB f r m L D 2 0 = true := H 2 (by decide)
  have h3 : keepB f r m L D 3 0 = true := H 3 (by decide)
  have h4 : keepB f r m L D 4 10 = true := H 4 (by decide)
  have h5 : keepB f r m L D 5 0 = true := H 5 (by decide)
  have h6 : keepB f r m L D 6 0 = true := H 6 (by decide)
  have h7 : keepB f r m L D 7 0 = true := H 7 (by decide)
  have h8 : keepB f r m L D 8 18 = true := H 8 (by decide)
  have h9 : keepB f r m L D 9 20 = true := H 9 (by decide)
  clear H
  have g1 := inR_iff.1 h1
  have g0 : m.nd = m.vw.tmod (2 * f + 1) := of_decide_eq_true h0
  have g2 : m.ls = 0 := of_decide_eq_true h2
  have g3 : m.p = 0 := of_decide_eq_true h3
  have g4 := inR_iff.1 h4
  have T : m.vw < 0 ∨ (0 ≤ m.vw.tmod (2 * f + 1) ∧ m.vw.tmod (2 * f + 1) < 2 * f + 1) := by
    by_cases h : m.vw < 0
    · exact .inl h
    · exact .inr (tmod_in (by omega) (by omega))
  exact ⟨by omega, by omega, by omega, by omega, by omega, by omega, hd, (by rw [(enb_iff _ _).1 h6]; exact enF_z), (by have := of_decide_eq_true h7; rw [this]; exact ⟨by decide, by decide, by decide, by decide, by decide⟩), (fun e he => enF_ck (lg_ok (by rw [← chk_lg hr1 hr2]; exact of_decide_eq_true h8) e he) (hL e he)), (by have := lg_len (L := L) (r := r) (by rw [← chk_lg hr1 hr2]; exact of_decide_eq_true h8); omega), hD, (by have := of_decide_eq_true h9; omega)⟩
theorem mgF_9 {f r : Int} {m : Mg} {L : List En} {D : List (Int × Int)} (hk : m.k = 9) (hf1 : 1 ≤ f) (hf2 : f ≤ 3) (hr1 : 1 ≤ r) (hr2 : r ≤ 256) (hf : m.e.fits) (hL : ∀ e ∈ L, e.fits) (hd : drF m.d) (hD : ∀ d ∈ D, drF d) (hlen : (L.length : Int) ≤ 9223372036854775807) (H : ∀ j, j < 10 → keepB f r m L D j (tabA 9 j) = true) : mgF m L D := by
  have h0 : keepB f r m L D 0 1 = true := H 0 (by decide)
  have h1 : keepB f r m L D 1 0 = true := H 1 (by decide)
  have h2 : keepB f r m L D 2 0 = true := H 2 (by decide)
  have h3 : keepB f r m L D 3 0 = true := H 3 (by decide)
  have h4 : keepB f r m L D 4 0 = true := H 4 (by decide)
  have h5 : keepB f r m L D 5 12 = true := H 5 (by decide)
  have h6 : keepB f r m L D 6 0 = true := H 6 (by decide)
  have h7 : keepB f r m L D 7 0 = true := H 7 (by decide)
  have h8 : keepB f r m L D 8 0 = true := H 8 (by decide)
  have h9 : keepB f r m L D 9 20 = true := H 9 (by decide)
  clear H
  have g1 : m.vw = 0 := of_decide_eq_true h1
  have g0 := inR_iff.1 h0
  have g2 : m.ls = 0 := of_decide_eq_true h2
  have g3 : m.p = 0 := of_decide_eq_true h3
  have g4 : m.cm = 0 := of_decide_eq_true h4
  have T : m.vw < 0 ∨ (0 ≤ m.vw.tmod (2 * f + 1) ∧ m.vw.tmod (2 * f + 1) < 2 * f + 1) := by
    by_cases h : m.vw < 0
    · exact .inl h
    · exact .inr (tmod_in (by omega) (by omega))
  exact ⟨by omega, by omega, by omega, by omega, by omega, by omega, hd, (by rw [(enb_iff _ _).1 h6]; exact enF_z), (by have := of_decide_eq_true h7; rw [this]; exact ⟨by decide, by decide, by decide, by decide, by decide⟩), (by have := of_decide_eq_true h8; have e := List.length_eq_zero_iff.1 this; rw [e]; intro e he; cases he), (by have := of_decide_eq_true h8; omega), hD, (by have := of_decide_eq_true h9; omega)⟩
theorem mgF_10 {f r : Int} {m : Mg} {L : List En} {D : List (Int × Int)} (hk : m.k = 10) (hf1 : 1 ≤ f) (hf2 : f ≤ 3) (hr1 : 1 ≤ r) (hr2 : r ≤ 256) (hf : m.e.fits) (hL : ∀ e ∈ L, e.fits) (hd : drF m.d) (hD : ∀ d ∈ D, drF d) (hlen : (L.length : Int) ≤ 9223372036854775807) (H : ∀ j, j < 10 → keepB f r m L D j (tabA 10 j) = true) : mgF m L D := by
  have h0 : keepB f r m L D 0 1 = true := H 0 (by decide)
  have h1 : keepB f r m L D 1 3 = true := H 1 (by decide)
  have h2 : keepB f r m L D 2 0 = true := H 2 (by decide)
  have h3 : keepB f r m L D 3 0 = true := H 3 (by decide)
  have h4 : keepB f r m L D 4 10 = true := H 4 (by decide)
  have h5 : keepB f r m L D 5 11 = true := H 5 (by decide)
  have h6 : keepB f r m L D 6 0 = true := H 6 (by decide)
  have h7 : keepB f r m L D 7 0 = true := H 7 (by decide)
  have h8 : keepB f r m L D 8 19 = true := H 8 (by decide)
  have h9 : keepB f r m L D 9 20 = true := H 9 (by decide)
  clear H
  have g1 := inR_iff.1 h1
  have g0 := inR_iff.1 h0
  have g2 : m.ls = 0 := of_decide_eq_true h2
  have g3 : m.p = 0 := of_decide_eq_true h3
  have g4 := inR_iff.1 h4
  have T : m.vw < 0 ∨ (0 ≤ m.vw.tmod (2 * f + 1) ∧ m.vw.tmod (2 * f + 1) < 2 * f + 1) := by
    by_cases h : m.vw < 0
    · exact .inl h
    · exact .inr (tmod_in (by omega) (by omega))
  exact ⟨by omega, by omega, by omega, by omega, by omega, by omega, hd, (by rw [(enb_iff _ _).1 h6]; exact enF_z), (by have := of_decide_eq_true h7; rw [this]; exact ⟨by decide, by decide, by decide, by decide, by decide⟩), (pl_es hr1 hr2 h8 hL), (pl_len hr1 hr2 h8), hD, (by have := of_decide_eq_true h9; omega)⟩
theorem mgF_11 {f r : Int} {m : Mg} {L : List En} {D : List (Int × Int)} (hk : m.k = 11) (hf1 : 1 ≤ f) (hf2 : f ≤ 3) (hr1 : 1 ≤ r) (hr2 : r ≤ 256) (hf : m.e.fits) (hL : ∀ e ∈ L, e.fits) (hd : drF m.d) (hD : ∀ d ∈ D, drF d) (hlen : (L.length : Int) ≤ 9223372036854775807) (H : ∀ j, j < 10 → keepB f r m L D j (tabA 11 j) = true) : mgF m L D := by
  have h0 : keepB f r m L D 0 1 = true := H 0 (by decide)
  have h1 : keepB f r m L D 1 3 = true := H 1 (by decide)
  have h2 : keepB f r m L D 2 0 = true := H 2 (by decide)
  have h3 : keepB f r m L D 3 0 = true := H 3 (by decide)
  have h4 : keepB f r m L D 4 0 = true := H 4 (by decide)
  have h5 : keepB f r m L D 5 0 = true := H 5 (by decide)
  have h6 : keepB f r m L D 6 0 = true := H 6 (by decide)
  have h7 : keepB f r m L D 7 0 = true := H 7 (by decide)
  have h8 : keepB f r m L D 8 0 = true := H 8 (by decide)
  have h9 : keepB f r m L D 9 20 = true := H 9 (by decide)
  clear H
  have g1 := inR_iff.1 h1
  have g0 := inR_iff.1 h0
  have g2 : m.ls = 0 := of_decide_eq_true h2
  have g3 : m.p = 0 := of_decide_eq_true h3
  have g4 : m.cm = 0 := of_decide_eq_true h4
  have T : m.vw < 0 ∨ (0 ≤ m.vw.tmod (2 * f + 1) ∧ m.vw.tmod (2 * f + 1) < 2 * f + 1) := by
    by_cases h : m.vw < 0
    · exact .inl h
    · exact .inr (tmod_in (by omega) (by omega))
  exact ⟨by omega, by omega, by omega, by omega, by omega, by omega, hd, (by rw [(enb_iff _ _).1 h6]; exact enF_z), (by have := of_decide_eq_true h7; rw [this]; exact ⟨by decide, by decide, by decide, by decide, by decide⟩), (by have := of_decide_eq_true h8; have e := List.length_eq_zero_iff.1 this; rw [e]; intro e he; cases he), (by have := of_decide_eq_true h8; omega), hD, (by have := of_decide_eq_true h9; omega)⟩
theorem mgF_12 {f r : Int} {m : Mg} {L : List En} {D : List (Int × Int)} (hk : m.k = 12) (hf1 : 1 ≤ f) (hf2 : f ≤ 3) (hr1 : 1 ≤ r) (hr2 : r ≤ 256) (hf : m.e.fits) (hL : ∀ e ∈ L, e.fits) (hd : drF m.d) (hD : ∀ d ∈ D, drF d) (hlen : (L.length : Int) ≤ 9223372036854775807) (H : ∀ j, j < 10 → keepB f r m L D j (tabA 12 j) = true) : mgF m L D := by
  have h0 : keepB f r m L D 0 1 = true := H 0 (by decide)
  have h1 : keepB f r m L D 1 3 = true := H 1 (by decide)
  have h2 : keepB f r m L D 2 0 = true := H 2 (by decide)
  have h3 : keepB f r m L D 3 0 = true := H 3 (by decide)
  have h4 : keepB f r m L D 4 10 = true := H 4 (by decide)
  have h5 : keepB f r m L D 5 0 = true := H 5 (by decide)
  have h6 : keepB f r m L D 6 0 = true := H 6 (by decide)
  have h7 : keepB f r m L D 7 0 = true := H 7 (by decide)
  have h8 : keepB f r m L D 8 18 = true := H 8 (by decide)
  have h9 : keepB f r m L D 9 20 = true := H 9 (by decide)
  clear H
  have g1 := inR_iff.1 h1
  have g0 := inR_iff.1 h0
  have g2 : m.ls = 0 := of_decide_eq_true h2
  have g3 : m.p = 0 := of_decide_eq_true h3
  have g4 := inR_iff.1 h4
  have T : m.vw < 0 ∨ (0 ≤ m.vw.tmod (2 * f + 1) ∧ m.vw.tmod (2 * f + 1) < 2 * f + 1) := by
    by_cases h : m.vw < 0
    · exact .inl h
    · exact .inr (tmod_in (by omega) (by omega))
  exact ⟨by omega, by omega, by omega, by omega, by omega, by omega, hd, (by rw [(enb_iff _ _).1 h6]; exact enF_z), (by have := of_decide_eq_true h7; rw [this]; exact ⟨by decide, by decide, by decide, by decide, by decide⟩), (fun e he => enF_ck (lg_ok (by rw [← chk_lg hr1 hr2]; exact of_decide_eq_true h8) e he) (hL e he)), (by have := lg_len (L := L) (r := r) (by rw [← chk_lg hr1 hr2]; exact of_decide_eq_true h8); omega), hD, (by have := of_decide_eq_true h9; omega)⟩
theorem mgF_13 {f r : Int} {m : Mg} {L : List En} {D : List (Int × Int)} (hk : m.k = 13) (hf1 : 1 ≤ f) (hf2 : f ≤ 3) (hr1 : 1 ≤ r) (hr2 : r ≤ 256) (hf : m.e.fits) (hL : ∀ e ∈ L, e.fits) (hd : drF m.d) (hD : ∀ d ∈ D, drF d) (hlen : (L.length : Int) ≤ 9223372036854775807) (H : ∀ j, j < 10 → keepB f r m L D j (tabA 13 j) = true) : mgF m L D := by
  have h0 : keepB f r m L D 0 0 = true := H 0 (by decide)
  have h1 : keepB f r m L D 1 0 = true := H 1 (by decide)
  have h2 : keepB f r m L D 2 0 = true := H 2 (by decide)
  have h3 : keepB f r m L D 3 6 = true := H 3 (by decide)
  have h4 : keepB f r m L D 4 0 = true := H 4 (by decide)
  have h5 : keepB f r m L D 5 0 = true := H 5 (by decide)
  have h6 : keepB f r m L D 6 14 = true := H 6 (by decide)
  have h7 : keepB f r m L D 7 0 = true := H 7 (by decide)
  have h8 : keepB f r m L D 8 0 = true := H 8 (by decide)
  have h9 : keepB f r m L D 9 0 = true := H 9 (by decide)
  clear H
  have g1 : m.vw = 0 := of_decide_eq_true h1
  have g0 : m.nd = 0 := of_decide_eq_true h0
  have g2 : m.ls = 0 := of_decide_eq_true h2
  have g3 := inR_iff.1 h3
  have g4 : m.cm = 0 := of_decide_eq_true h4
  have T : m.vw < 0 ∨ (0 ≤ m.vw.tmod (2 * f + 1) ∧ m.vw.tmod (2 * f + 1) < 2 * f + 1) := by
    by_cases h : m.vw < 0
    · exact .inl h
    · exact .inr (tmod_in (by omega) (by omega))
  exact ⟨by omega, by omega, by omega, by omega, by omega, by omega, hd, (enF_ck (by rw [← chk_one]; exact of_decide_eq_true (Bool.and_eq_true_iff.1 h6).1) hf), (by have := of_decide_eq_true h7; rw [this]; exact ⟨by decide, by decide, by decide, by decide, by decide⟩), (by have := of_decide_eq_true h8; have e := List.length_eq_zero_iff.1 this; rw [e]; intro e he; cases he), (by have := of_decide_eq_true h8; omega), hD, (by have := of_decide_eq_true h9; omega)⟩
theorem mgF_14 {f r : Int} {m : Mg} {L : List En} {D : List (Int × Int)} (hk : m.k = 14) (hf1 : 1 ≤ f) (hf2 : f ≤ 3) (hr1 : 1 ≤ r) (hr2 : r ≤ 256) (hf : m.e.fits) (hL : ∀ e ∈ L, e.fits) (hd : drF m.d) (hD : ∀ d ∈ D, drF d) (hlen : (L.length : Int) ≤ 9223372036854775807) (H : ∀ j, j < 10 → keepB f r m L D j (tabA 14 j) = true) : mgF m L D := by
  have h0 : keepB f r m L D 0 1 = true := H 0 (by decide)
  have h1 : keepB f r m L D 1 3 = true := H 1 (by decide)
  have h2 : keepB f r m L D 2 0 = true := H 2 (by decide)
  have h3 : keepB f r m L D 3 0 = true := H 3 (by decide)
  have h4 : keepB f r m L D 4 9 = true := H 4 (by decide)
  have h5 : keepB f r m L D 5 0 = true := H 5 (by decide)
  have h6 : keepB f r m L D 6 15 = true := H 6 (by decide)
  have h7 : keepB f r m L D 7 17 = true := H 7 (by decide)
  have h8 : keepB f r m L D 8 0 = true := H 8 (by decide)
  have h9 : keepB f r m L D 9 0 = true := H 9 (by decide)
  clear H
  have g1 := inR_iff.1 h1
  have g0 := inR_iff.1 h0
  have g2 : m.ls = 0 := of_decide_eq_true h2
  have g3 : m.p = 0 := of_decide_eq_true h3
  have g4 := inR_iff.1 h4
  have T : m.vw < 0 ∨ (0 ≤ m.vw.tmod (2 * f + 1) ∧ m.vw.tmod (2 * f + 1) < 2 * f + 1) := by
    by_cases h : m.vw < 0
    · exact .inl h
    · exact .inr (tmod_in (by omega) (by omega))
  exact ⟨by omega, by omega, by omega, by omega, by omega, by omega, hd, (enF_nm h6 hf), (rsF_res (Bool.and_eq_true_iff.1 h7).1), (by have := of_decide_eq_true h8; have e := List.length_eq_zero_iff.1 this; rw [e]; intro e he; cases he), (by have := of_decide_eq_true h8; omega), hD, (by have := of_decide_eq_true h9; omega)⟩
theorem ck_mgF {c : Cf} {m : Mg} {L : List En} {D : List (Int × Int)} (h : ckM c m L D = 0) (hf : m.e.fits) (hL : ∀ e ∈ L, e.fits) (hd : drF m.d) (hD : ∀ d ∈ D, drF d) (hlen : (L.length : Int) ≤ 9223372036854775807) : mgF m L D ∧ 1 ≤ m.k ∧ m.k ≤ 14 := by
  unfold ckM at h
  split at h
  · omega
  · rename_i hc
    split at h
    · omega
    · rename_i hk
      split at h
      · rename_i hall
        have hc' : cfB c = true := by simpa using hc
        have hk' : kdB m.k = true := by simpa using hk
        obtain ⟨f1, f2⟩ := cfB_f hc'
        obtain ⟨r1, r2⟩ := cfB_r hc'
        have H : ∀ j, j < 10 → keepB c.f c.r m L D j (tabA m.k.toNat j) = true := fun j hj => List.all_eq_true.1 hall j (List.mem_range.2 hj)
        have hkk := inR_iff.1 hk'
        refine ⟨?_, hkk⟩
        have : m.k = 1 ∨ m.k = 2 ∨ m.k = 3 ∨ m.k = 4 ∨ m.k = 5 ∨ m.k = 6 ∨ m.k = 7 ∨ m.k = 8 ∨ m.k = 9 ∨ m.k = 10 ∨ m.k = 11 ∨ m.k = 12 ∨ m.k = 13 ∨ m.k = 14 := by omega
        rcases this with e | e | e | e | e | e | e | e | e | e | e | e | e | e <;> rw [e] at H
        · exact mgF_1 e f1 f2 r1 r2 hf hL hd hD hlen H
        · exact mgF_2 e f1 f2 r1 r2 hf hL hd hD hlen H
        · exact mgF_3 e f1 f2 r1 r2 hf hL hd hD hlen H
        · exact mgF_4 e f1 f2 r1 r2 hf hL hd hD hlen H
        · exact mgF_5 e f1 f2 r1 r2 hf hL hd hD hlen H
        · exact mgF_6 e f1 f2 r1 r2 hf hL hd hD hlen H
        · exact mgF_7 e f1 f2 r1 r2 hf hL hd hD hlen H
        · exact mgF_8 e f1 f2 r1 r2 hf hL hd hD hlen H
        · exact mgF_9 e f1 f2 r1 r2 hf hL hd hD hlen H
        · exact mgF_10 e f1 f2 r1 r2 hf hL hd hD hlen H
        · exact mgF_11 e f1 f2 r1 r2 hf hL hd hD hlen H
        · exact mgF_12 e f1 f2 r1 r2 hf hL hd hD hlen H
        · exact mgF_13 e f1 f2 r1 r2 hf hL hd hD hlen H
        · exact mgF_14 e f1 f2 r1 r2 hf hL hd hD hlen H
      · omega
def enB (c : Cf) (m : Mg) (L : List En) (D : List (Int × Int)) : List Int := if ckM c m L D = 0 then M.frame (mbBy m L D m.k.toNat) else []
def isB (l : List Int) : Prop := ∀ z ∈ l, 0 ≤ z ∧ z < 256
theorem isB.app {a b : List Int} (h : isB a) (k : isB b) : isB (a ++ b) := fun z hz => (List.mem_append.1 hz).elim (h z) (k z)
theorem isB.nil : isB [] := fun z hz => by cases hz
theorem isB.form {x : Nat} (h : x < 2 ^ 64) : isB (M.form x) := M.form_byte x h
theorem isB.dr {x y : Nat} (hx : x < 2 ^ 64) (hy : y < 2 ^ 64) : isB (drBy x y) := (isB.form hx).app (isB.form hy)
theorem isB.nm {x y : Nat} (hx : x < 2 ^ 64) (hy : y < 2 ^ 64) : isB (nmBy x y) := (isB.form hx).app (isB.form hy)
theorem isB.op {x y : Nat} {v : ByteArray} (hx : x < 2 ^ 64) (hy : y < 2 ^ 64) (hv : v.size ≤ 64) : isB (opBy x y v) := (isB.form hx).app ((isB.form hy).app ((isB.form (by omega)).app (Wi.sb_byte v)))
theorem isB.flat {α : Type} (f : α → List Int) : ∀ l : List α, (∀ x ∈ l, isB (f x)) → isB (l.flatMap f)
  | [], _ => isB.nil
  | x :: r, h => by
    rw [List.flatMap_cons]
    exact (h x (by simp)).app (isB.flat f r (fun y hy => h y (by simp [hy])))
theorem isB.drF {d : Int × Int} (h : drF d) : isB (drBy d.1.toNat d.2.toNat) := isB.dr (by have := h.1; have := h.2.1; omega) (by have := h.2.2.1; have := h.2.2.2; omega)
theorem isB.enF {e : En} (h : enF e) : isB (nmBy e.c.toNat e.n.toNat) ∧ isB (opBy e.o.k.toNat e.o.s.toNat e.o.v) := by
  obtain ⟨a1, a2, a3, a4, a5, a6, a7, a8, a9⟩ := h
  exact ⟨isB.nm (by omega) (by omega), isB.op (by omega) (by omega) a9⟩
theorem isB.col {m : Mg} {L : List En} {D : List (Int × Int)} (hm : mgF m L D) (j : Nat) (op : Bool) : isB (colBy m L D j op) := by
  match j with
  | 0 => have := hm.nd; exact isB.form (by omega)
  | 1 => have := hm.vw; exact isB.form (by omega)
  | 2 => have := hm.ls; exact isB.form (by omega)
  | 3 => have := hm.p; exact isB.form (by omega)
  | 4 => have := hm.cm; exact isB.form (by omega)
  | 5 => exact isB.drF hm.d
  | 6 => exact (isB.enF hm.e).1.app (by cases op <;> first | exact isB.nil | exact (isB.enF hm.e).2)
  | 7 =>
    obtain ⟨a1, a2, a3, a4, a5⟩ := hm.r
    exact isB.op (by omega) (by omega) a5
  | 8 => have := hm.lL; exact (isB.form (by omega)).app (isB.flat _ _ (fun e he => (isB.enF (hm.es e he)).1.app (isB.enF (hm.es e he)).2))
  | 9 => have := hm.lD; exact (isB.form (by omega)).app (isB.flat _ _ (fun d hd => isB.drF (hm.ds d hd)))
  | (n + 10) => exact isB.nil
theorem mbBy_byte {m : Mg} {L : List En} {D : List (Int × Int)} (hm : mgF m L D) {k : Nat} (hk : k < 15) : ∀ z ∈ mbBy m L D k, 0 ≤ z ∧ z < 256 :=
  (isB.form (by omega)).app (isB.flat _ _ (fun i _ => by
    show isB (if tabA k i = 0 then [] else colBy m L D i _)
    split
    · exact isB.nil
    · exact isB.col hm i _))
theorem bodyPost_ret2 {fn : Func} {R : Ending → World → Prop} {T : Array Value} {t u : Tmp} {V U : Value} {w : World} (h : fn.results = #[.tmp t, .tmp u]) (hT : T[t]? = some (gw true V)) (hU : T[u]? = some (gw true U)) (hR : R (.returned (.tuple #[V, U])) w) : bodyPost Tryd.prog fn R .ret ⟨T, []⟩ w := by
  refine bodyPost_ret (v := .tuple #[V, U]) ?_ rfl hR
  have e1 : T.getD t undef = V := getD_of hT
  have e2 : T.getD u undef = U := getD_of hU
  rw [results_tmp2 h]
  rw [e1, e2]
theorem neqEr (x y : Operand) (a b : Int) (w : World) : (do eqGuard .neq 41 x y (.int .i64 a) (.int .i64 b); binOp .neq 41 (.int .i64 a) (.int .i64 b) : Sem Value).run Tryd.prog w = .ok (.bool (!decide (a = b))) w := by
  go_simp
  by_cases h : a = b <;> simp [h]
theorem froz_box (w : World) (c : Array Value) (t : TypeId) (i : Nat) : (w.alloc (.cells c t)).frozen? ⟨w.heap.size, i, none⟩ = false := by
  simp
theorem Wi.wtyp_new (w : World) (c : Array Value) : Wi.wtyp (w.alloc (.cells c 64)) w.heap.size := ⟨c, (0, 0), 64, by
    show (w.heap.push _)[w.heap.size]? = _
    simp, .inr (.inr rfl)⟩
set_option maxRecDepth 100000 in
set_option maxHeartbeats 4000000 in
theorem encode_any (c : Cf) (m : Mg) (a1 a2 : Option Addr) (cl cv : Nat) (L : List En) (D : List (Int × Int)) (w : World) (hT : Tab w) (hL : SlY yE w a1 L.length cl L) (hfit : ∀ e ∈ L, e.fits) (hD : SlY yD w a2 D.length cv D) (hfe : m.e.fits) (hd : drF m.d) (hds : ∀ d ∈ D, drF d) :
    Calls Tryd.prog 7 #[c.val, m.val (.slice a1 L.length cl) (.slice a2 D.length cv)] w fun e w' => ∃ v, e = .returned (.tuple #[v, .int .i64 (ckM c m L D)]) ∧ Wi.Own w.heap.size w' v (enB c m L D) ∧ Below w.heap.size w w' := by
  have hlen : (L.length : Int) ≤ 9223372036854775807 := by have := hL.cap; have := hL.max; unfold maxLen at *; omega
  have hT0 := hT.lt
  go_enter Tryd.func7, Tryd.ntmps7
  go_upto_region 1 with (refine boxMk rfl (.tmp 1) rfl m _ _ rfl ?_; intro q1 w1 hq1 M1 b1 z1)
  have hq2 : q1 = w.heap.size + 1 := by first | exact hq1 | simpa using hq1
  subst hq2
  have hB : Below w.heap.size w w1 := ((Below.refl _ _).alloc (Nat.le_refl _) _).trans (b1.mono (by simp))
  have hc1 : CfB w1 w.heap.size c := ⟨Nat.lt_of_succ_lt M1.lt, fun i x hx => (b1.cell (p := ⟨w.heap.size, i, none⟩) (by simp)).trans (by
    match i, hx with
    | 0, hx | 1, hx | 2, hx | 3, hx => cases hx; unfold Cf.val; simp
    | (j + 4), hx => simp at hx)⟩
  have HC : Hid (∀ v, Below w1.heap.size w1 v → CfB v w.heap.size c) := fun v hv => hc1.bel hv
  have HM : Hid (∀ v, Below w1.heap.size w1 v → MBox v (w.heap.size + 1) m (.slice a1 L.length cl) (.slice a2 D.length cv)) := fun v hv => M1.bel hv
  have HB : Hid (∀ v, Below w1.heap.size w1 v → Below w.heap.size w v) := fun v hv => hB.trans (hv.mono hB.size)
  have HTB : Hid (∀ v, Below w1.heap.size w1 v → Tab v) := fun v hv => hT.later (HB.out v hv) hT0
  have HLB : Hid (∀ v, Below w1.heap.size w1 v → SlY yE v a1 L.length cl L) := fun v hv => hL.later (HB.out v hv)
  have HDB : Hid (∀ v, Below w1.heap.size w1 v → SlY yD v a2 D.length cv D) := fun v hv => hD.later (HB.out v hv)
  have h1 : Below w1.heap.size w1 w1 := Below.refl _ _
  have HT1 := hide (HTB.out w1 h1)
  have HL1 := hide (HLB.out w1 h1)
  have HD1 := hide (HDB.out w1 h1)
  have HFI := hide hfit
  have HFE := hide hfe
  have HFD := hide hd
  have HFDs := hide hds
  have HLN := hide hlen
  have H1P := hide M1.lt
  clear M1 b1 z1 hB hq1 hc1 hL hD hfit hfe hd hds hlen hT
  refine wp_region_lit ?_
  refine vl_gen (fun T => T.size = 30 ∧ T[2]? = some (gw true (.pointer (some ⟨w.heap.size, 0, none⟩))) ∧ T[3]? = some (gw true (.pointer (some ⟨w.heap.size + 1, 0, none⟩)))) ⟨rfl, rfl, rfl⟩ (fun T0 ⟨hz, s2, s3⟩ => ?_)
  refine vt (.agg #[.int .i64 c.f, .int .i64 c.r, .int .i64 c.p, .bool c.u]) (ex_ld rfl (ev s2 rfl) ((HC.out w1 h1).ldAll)) hz (fun A1_1 zz kk s10x => ?_)
  replace s3 := kt kk s3
  clear kk hz s2
  have hz := zz
  have s10 := s10x
  clear zz s10x
  refine vt (m.val (.slice a1 L.length cl) (.slice a2 D.length cv)) (ex_ld rfl (ev s3 rfl) ((HM.out w1 h1).ldAll)) hz (fun A1_2 zz kk s11x => ?_)
  replace s3 := kt kk s3
  replace s10 := kt kk s10
  clear kk hz
  have hz := zz
  have s11 := s11x
  clear zz s11x A1_1
  refine vcallP (want_none rfl) (ex_call rfl (by simp only [List.map_toArray, List.map_cons, List.map_nil, (ev s10 rfl), (ev s11 rfl), evc] <;> rfl) rfl) (checkM_any c m a1 a2 cl cv L D w1 HT1.out HL1.out HFI.out HD1.out HFE.out) rfl hz (by decide) ?_
  rintro e w2 ⟨rfl, hb2⟩
  refine ⟨_, rfl, fun A1_3 zz kk s12x => ?_⟩
  replace s3 := kt kk s3
  clear kk hz s10 s11
  have hz := zz
  have s12 := s12x
  clear zz s12x A1_2
  refine vt _ (ex_assign rfl (ev s12 rfl)) hz (fun A1_4 zz kk s6x => ?_)
  replace s3 := kt kk s3
  clear kk hz s12
  have hz := zz
  have s6 := s6x
  clear zz s6x A1_3
  refine wpList_nil ?_
  go_upto_region 2 with fail
  refine wp_region_lit ?_
  refine vt _ (ex_move rfl (ev s6 rfl)) hz (fun A2_1 zz kk s13x => ?_)
  replace s3 := kt kk s3
  replace s6 := kt kk s6
  clear kk hz
  have hz := zz
  have s13 := s13x
  clear zz s13x
  refine vt (.bool (!decide ((ckM c m L D) = 0))) (ex_bin rfl (ev s13 rfl) rfl (neqEr _ _ _ _ _)) hz (fun A2_2 zz kk s14x => ?_)
  replace s3 := kt kk s3
  replace s6 := kt kk s6
  clear kk hz s13
  have hz := zz
  have s14 := s14x
  clear zz s14x A2_1
  refine wpList_nil ?_
  go_upto_region 4 with fail
  cases e2 : !decide (ckM c m L D = 0)
  rotate_left
  · refine wp_cond_true ((ev s14 rfl).trans (congrArg Value.bool e2)) ?_
    have hn : ¬ ckM c m L D = 0 := by simpa using e2
    have EN : enB c m L D = [] := by unfold enB; rw [if_neg hn]
    go_upto_region 3 with fail
    refine wp_region_lit ?_
    clear s14 s3 e2
    refine vt _ (ex_move rfl (ev s6 rfl)) hz (fun A3_1 zz kk s15x => ?_)
    clear kk hz s6
    have hz := zz
    have s15 := s15x
    clear zz s15x
    refine vt (.slice none 0 0) (ex_assign rfl rfl) hz (fun A3_2 zz kk s4x => ?_)
    replace s15 := kt kk s15
    clear kk hz
    have hz := zz
    have s4 := s4x
    clear zz s4x A3_1
    refine vt _ (ex_assign rfl (ev s15 rfl)) hz (fun A3_3 zz kk s5x => ?_)
    replace s4 := kt kk s4
    clear kk hz s15
    have hz := zz
    have s5 := s5x
    clear zz s5x A3_2
    refine wpList_nil ?_
    have hfin := (HB.out w2 hb2)
    clear HC HM HB HTB HLB HDB HT1 HL1 HD1
    go_wp2
    refine bodyPost_ret2 rfl s4 s5 ⟨_, rfl, ?_, hfin⟩
    rw [EN]
    exact Wi.Own.nil _ _
  refine wp_cond_false ((ev s14 rfl).trans (congrArg Value.bool e2)) ?_
  have hck : ckM c m L D = 0 := by simpa using e2
  clear s14 e2
  obtain ⟨hmg, hk1, hk2⟩ := ck_mgF hck HFE.out HFI.out HFD.out HFDs.out HLN.out
  obtain ⟨k, hmk⟩ := Int.eq_ofNat_of_zero_le (show 0 ≤ m.k by omega)
  have EN : enB c m L D = M.frame (mbBy m L D k) := by unfold enB; rw [if_pos hck, hmk]; rfl
  have hlb0 : (mbBy m L D k).length ≤ 28009 := by
    have f1 := form_le (show k < 2 ^ 64 by omega)
    have f2 := colsBy_le hmg k 10
    unfold mbBy
    rw [List.length_append]
    omega
  have hlb : (mbBy m L D k).length ≤ 140737488355328 := by omega
  obtain ⟨w4, hw4⟩ : ∃ w4, w4 = w2.alloc (.cells #[.pointer none, .int .i64 0, .int .i64 0] 64) := ⟨_, rfl⟩
  have hs4 : w4.heap.size = w2.heap.size + 1 := by rw [hw4]; simp
  have hb24 : Below w2.heap.size w2 w4 := by rw [hw4]; exact (Below.refl _ _).alloc (Nat.le_refl _) _
  have hb4 : Below w1.heap.size w1 w4 := hb2.trans (hb24.mono hb2.size)
  have hpos : 0 < w2.heap.size := Nat.lt_of_lt_of_le (Nat.lt_of_le_of_lt (Nat.zero_le _) H1P.out) hb2.size
  have hO4 : Wi.WOkT w4 w2.heap.size [] := .inl ⟨rfl, ⟨by omega, by rw [hw4]; exact cell_box _ _ _ _ _ rfl, by rw [hw4]; exact cell_box _ _ _ _ _ rfl, by rw [hw4]; exact cell_box _ _ _ _ _ rfl, by rw [hw4]; exact froz_box _ _ _ _, by rw [hw4]; exact froz_box _ _ _ _, by rw [hw4]; exact froz_box _ _ _ _⟩, by rw [hw4]; exact Wi.wtyp_new _ _⟩
  go_upto_region 4 with fail
  refine wp_region_lit ?_
  refine vw (.pointer (some ⟨w2.heap.size, 0, none⟩)) w4 (want_none rfl) (ex_al rfl (by rw [hw4]; go_simp)) rfl hz (by decide) (fun A4_1 zz kk s7x => ?_)
  replace s3 := kt kk s3
  replace s6 := kt kk s6
  clear kk hz
  have hz := zz
  have s7 := s7x
  clear zz s7x
  refine wpList_nil ?_
  go_upto_region 5 with fail
  refine wp_region_lit ?_
  refine vt (m.val (.slice a1 L.length cl) (.slice a2 D.length cv)) (ex_ld rfl (ev s3 rfl) ((HM.out w4 hb4).ldAll)) hz (fun A5_1 zz kk s16x => ?_)
  replace s3 := kt kk s3
  replace s6 := kt kk s6
  replace s7 := kt kk s7
  clear kk hz
  have hz := zz
  have s16 := s16x
  clear zz s16x
  refine vcallP (want_none rfl) (ex_call rfl (by simp only [List.map_toArray, List.map_cons, List.map_nil, (ev s7 rfl), (ev s16 rfl), evc] <;> rfl) rfl) (wmessage_tk w2.heap.size w2.heap.size [] m k hmk (by omega) a1 a2 cl cv L D w2 w4 (Nat.le_refl _) hpos (HTB.out w4 hb4) hb24 (Nat.le_refl _) (HLB.out w2 hb2) (HDB.out w2 hb2) hmg hO4 (by show 0 + 100000 ≤ _; omega)) rfl hz (by decide) ?_
  rintro e w5 ⟨rfl, hO5, hb5, ht5⟩
  refine ⟨_, rfl, fun A5_2 zz kk s17x => ?_⟩
  rw [List.nil_append] at hO5
  replace s3 := kt kk s3
  replace s6 := kt kk s6
  replace s7 := kt kk s7
  clear kk hz s16
  have hz := zz
  have s17 := s17x
  clear zz s17x A5_1
  refine wpList_nil ?_
  go_upto_region 6 with fail
  refine wp_region_lit ?_
  refine vt (.pointer (some ⟨w2.heap.size, 0, none⟩)) (ex_fa rfl (ev s7 rfl) (by go_simp)) hz (fun A6_1 zz kk s19x => ?_)
  clear kk hz s3 s6 s7 s17
  have hz := zz
  have s19 := s19x
  clear zz s19x
  refine vcallP (want_none rfl) (ex_call rfl (by simp only [List.map_toArray, List.map_cons, List.map_nil, (ev s19 rfl), evc] <;> rfl) rfl) (Wi.bytes_any w2.heap.size (mbBy m L D k) w5 hO5.ok hlb) rfl hz (by decide) ?_
  rintro e w6 ⟨v6, rfl, hO6, hb6⟩; obtain ⟨a6, n6, c6, rfl, hs6, _⟩ := hO6.hs (mbBy_byte hmg (by omega))
  refine ⟨_, rfl, fun A6_2 zz kk s20x => ?_⟩
  clear kk hz s19
  have hz := zz
  have s20 := s20x
  clear zz s20x A6_1
  refine vt _ (ex_move rfl (ev s20 rfl)) hz (fun A6_3 zz kk s18x => ?_)
  clear kk hz s20
  have hz := zz
  have s18 := s18x
  clear zz s18x A6_2
  refine vt (.slice a6 n6 c6) (ex_ext rfl (ev s18 rfl) rfl) hz (fun A6_4 zz kk s21x => ?_)
  replace s18 := kt kk s18
  clear kk hz
  have hz := zz
  have s21 := s21x
  clear zz s21x A6_3
  refine vt (.int .i64 0) (ex_ext rfl (ev s18 rfl) rfl) hz (fun A6_5 zz kk s22x => ?_)
  replace s21 := kt kk s21
  clear kk hz s18
  have hz := zz
  have s22 := s22x
  clear zz s22x A6_4
  refine vt _ (ex_assign rfl (ev s21 rfl)) hz (fun A6_6 zz kk s8x => ?_)
  replace s22 := kt kk s22
  clear kk hz s21
  have hz := zz
  have s8 := s8x
  clear zz s8x A6_5
  refine vt _ (ex_assign rfl (ev s22 rfl)) hz (fun A6_7 zz kk s9x => ?_)
  replace s8 := kt kk s8
  clear kk hz s22
  have hz := zz
  have s9 := s9x
  clear zz s9x A6_6
  refine wpList_nil ?_
  go_upto_region 7 with fail
  refine wp_region_lit ?_
  refine vt _ (ex_move rfl (ev s9 rfl)) hz (fun A7_1 zz kk s23x => ?_)
  replace s8 := kt kk s8
  replace s9 := kt kk s9
  clear kk hz
  have hz := zz
  have s23 := s23x
  clear zz s23x
  refine vt (.bool (!decide (0 = 0))) (ex_bin rfl (ev s23 rfl) rfl (neqEr _ _ _ _ _)) hz (fun A7_2 zz kk s24x => ?_)
  replace s8 := kt kk s8
  replace s9 := kt kk s9
  clear kk hz s23
  have hz := zz
  have s24 := s24x
  clear zz s24x A7_1
  refine wpList_nil ?_
  go_upto_region 9 with fail
  refine wp_cond_false ((ev s24 rfl).trans (congrArg Value.bool (by decide))) ?_
  clear s24
  go_upto_region 9 with fail
  refine wp_region_lit ?_
  refine vt _ (ex_move rfl (ev s8 rfl)) hz (fun A9_1 zz kk s26x => ?_)
  clear kk hz s8 s9
  have hz := zz
  have s26 := s26x
  clear zz s26x
  refine vcallP (want_none rfl) (ex_call rfl (by simp only [List.map_toArray, List.map_cons, List.map_nil, (ev s26 rfl), evc] <;> rfl) rfl) (Wi.seal_ok a6 n6 c6 (mbBy m L D k) w6 hs6 (by have := hs6.len; omega)) rfl hz (by decide) ?_
  rintro e w7 ⟨v7, rfl, hO7, _, hb7⟩
  refine ⟨_, rfl, fun A9_2 zz kk s27x => ?_⟩
  clear kk hz s26
  have hz := zz
  have s27 := s27x
  clear zz s27x A9_1
  refine vt (v7) (ex_ext rfl (ev s27 rfl) rfl) hz (fun A9_3 zz kk s28x => ?_)
  replace s27 := kt kk s27
  clear kk hz
  have hz := zz
  have s28 := s28x
  clear zz s28x A9_2
  refine vt (.int .i64 0) (ex_ext rfl (ev s27 rfl) rfl) hz (fun A9_4 zz kk s29x => ?_)
  replace s28 := kt kk s28
  clear kk hz s27
  have hz := zz
  have s29 := s29x
  clear zz s29x A9_3
  refine vt _ (ex_assign rfl (ev s28 rfl)) hz (fun A9_5 zz kk s4x => ?_)
  replace s29 := kt kk s29
  clear kk hz s28
  have hz := zz
  have s4 := s4x
  clear zz s4x A9_4
  refine vt _ (ex_assign rfl (ev s29 rfl)) hz (fun A9_6 zz kk s5x => ?_)
  replace s4 := kt kk s4
  clear kk hz s29
  have hz := zz
  have s5 := s5x
  clear zz s5x A9_5
  refine wpList_nil ?_
  have hbB : Below w1.heap.size w1 w7 := hb4.trans ((hb5.mono hb2.size).trans ((hb6.mono (Nat.le_trans hb4.size hb5.size)).trans (hb7.mono (Nat.le_trans (Nat.le_trans hb4.size hb5.size) hb6.size))))
  have hfin := HB.out w7 hbB
  have hfin0 := HB.out w1 h1
  have hown := Wi.Own.low hO7 (Nat.le_trans hfin0.size (Nat.le_trans (Nat.le_trans hb4.size hb5.size) hb6.size))
  clear HC HM HB HTB HLB HDB HT1 HL1 HD1
  go_wp2
  refine bodyPost_ret2 rfl s4 s5 ⟨_, by rw [hck], ?_, hfin⟩
  rw [EN]
  exact hown
theorem bodyPost_ret1 {fn : Func} {R : Ending → World → Prop} {T : Array Value} {t : Tmp} {V : Value} {w : World} (h : fn.results = #[.tmp t]) (hT : T[t]? = some (gw true V)) (hR : R (.returned V) w) : bodyPost Tryd.prog fn R .ret ⟨T, []⟩ w := by
  refine bodyPost_ret (v := V) ?_ rfl hR
  have e1 : T.getD t undef = V := getD_of hT
  rw [results_tmp h, e1]
theorem ex_bs {o : Oper} {ρ : Operand → Value} {s : TypeId} {k : Nat} {ps : Array (Nat × Operand)} {P : Array (Nat × Value)} {V : Value} {w w' : World} (ho : o.op = .buildSlice s k ps) (hp : ps.map (fun (i, x) => (i, ρ x)) = P) (hr : (Instr.buildSlice s k P).run Tryd.prog w = .ok V w') : (execOp ρ o).run Tryd.prog w = .ok (.value V) w' := by
  unfold execOp
  simp only [ho, hp, Sem.run_bind, hr, Result.andThen_ok]
  rfl
theorem v_cond {x : Code} {R : Exit → Act → World → Prop} {T : Array Value} {w : World} {t : Nat} {b : Bool} (J : Array Value → World → Prop) (ht : T[t]? = some (gw true (.bool b))) (h1 : b = true → x.wp Tryd.prog (Exit.then (fun a w' => ∃ T', a = ⟨T', []⟩ ∧ J T' w') R) ⟨T, []⟩ w) (h2 : b = false → J T w) (hk : ∀ T' w', J T' w' → R .normal ⟨T', []⟩ w') : (Code.cond (.tmp t) x Code.skip).wp Tryd.prog R ⟨T, []⟩ w := by
  cases b with
  | true =>
    refine wp_cond_true (ev ht rfl) (Code.wp_mono (fun e a' w' h => ?_) (h1 rfl))
    cases e with
    | normal =>
      obtain ⟨T', rfl, hJ⟩ := h
      exact hk T' w' hJ
    | _ => exact h
  | false => exact wp_cond_false (ev ht rfl) (wp_skip (hk T w (h2 rfl)))
end Go.Proofs.YtabiimmpjllcpaaDoor
namespace Go.Proofs.YtabiimmpjllcpaaDoor.Wi
open Go.RowKit
set_option linter.unusedVariables false
structure Only (b : Nat) (w w' : World) : Prop where
  bel : Below b w w'
  same : w'.heap.size = w.heap.size
  block : ∀ k, k ≠ b → w'.heap[k]? = w.heap[k]?
theorem Only.refl (b : Nat) (w : World) : Only b w w := ⟨Below.refl _ _, rfl, fun _ _ => rfl⟩
theorem Only.setCell {b : Nat} {w0 w : World} (h : Only b w0 w) (j : Nat) (u : Value) : Only b w0 (w.setCell ⟨b, j, none⟩ u) :=
  ⟨h.bel.setCell (Nat.le_refl _) u, by simp [World.setCell, h.same], fun k hk => (Below.heap_setCell w ⟨b, j, none⟩ u k hk).trans (h.block k hk)⟩
theorem Only.drewN {b : Nat} {w0 w : World} (h : Only b w0 w) (k : Nat) : Only b w0 (w.drewN k) := ⟨below_drewN h.bel k, h.same, h.block⟩
theorem Only.below {b B : Nat} {w w' : World} (h : Only b w w') (hB : B ≤ b) : Below B w w' := h.bel.mono hB
theorem Only.cell {b : Nat} {w w' : World} (h : Only b w w') {p : Addr} (hp : p.block ≠ b) : w'.cell? p = w.cell? p := World.cell?_of_block (h.block _ hp)
theorem Only.frozen {b : Nat} {w w' : World} (h : Only b w w') {p : Addr} (hp : p.block ≠ b) : w'.frozen? p = w.frozen? p := World.frozen?_of_block (h.block _ hp)
end Go.Proofs.YtabiimmpjllcpaaDoor.Wi
