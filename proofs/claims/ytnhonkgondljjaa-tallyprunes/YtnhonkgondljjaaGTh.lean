import Derived.Test.YtnhonkgondljjaaGTg
namespace Go.Proofs.Ytnhonkgondljjaa
open Go.RowKit Go.Maps
open Classical
set_option linter.unusedVariables false
set_option linter.unusedSimpArgs false

theorem makeYsG {α : Type} {Y : Lay α} (K : Y.Ok) (w : World) {ops : Array Oper} {rest : List Oper} {o : Oper} {a : Act} {Q : Exit → Act → World → Prop} (hgd : Region.wanted o (yielded ops a.tmps) = true) (x : Operand)
    (ho : o.op = .makeSlice Y.ST x x) (n : Nat) (hx : a.eval x = .int .i64 (n : Int)) (hm : n ≤ maxLen) (hb : n * Y.by_ ≤ 281474976710656)
    (h : ∀ w', OwnY Y w.heap.size w' (.slice (some ⟨w.heap.size, 0, none⟩) n n) (List.replicate n Y.z) → Below w.heap.size w w' → wpList Try.prog ops Q rest (a.put o.dst (.slice (some ⟨w.heap.size, 0, none⟩) n n)) w') : wpList Try.prog ops Q (o :: rest) a w := by
  have h1 : wpList Try.prog ops Q ({ o with guard := none } :: rest) a w := makeYs K w rfl x ho n hx hm hb h
  have hw2 : Region.wanted { o with guard := none } (yielded ops a.tmps) = true := rfl
  unfold wpList at h1 ⊢
  rw [hgd]
  rw [hw2] at h1
  exact h1
theorem bth_len {D E : List (Int × Int)} {t : Nat} : bth D E t = if t < E.length ∧ ((D.getD t (0, 0)).1 < (E.getD t (0, 0)).1 ∨ ((D.getD t (0, 0)).1 = (E.getD t (0, 0)).1 ∧ (D.getD t (0, 0)).2 < (E.getD t (0, 0)).2)) then E.getD t (0, 0) else D.getD t (0, 0) := rfl
set_option maxRecDepth 100000 in
set_option maxHeartbeats 8000000 in
theorem prunes_walk (Vs : List Ak) (D E : List (Int × Int)) (a0 av aw : Option Addr) (n c nv cv nw cw : Nat) (w : World) (h : SlY yAkA w a0 n c Vs) (hfit : ∀ x ∈ Vs, 0 ≤ x.h ∧ 0 ≤ x.l) (hm : n * 32 ≤ 140737488351232) (hD : SlY yD w av nv cv D) (hDm : nv * 16 ≤ 140737488351232) (hE : SlY yD w aw nw cw E) (hEm : nw * 16 ≤ 140737488351232) :
    Calls Try.prog 7 #[.slice a0 n c, .slice av nv cv, .slice aw nw cw] w fun e w' => e = .returned (.bool true) ∧ Below w.heap.size w w' := by
  have hdx := hD.max
  have hdc := hD.cap
  have hex := hE.max
  have hec := hE.cap
  unfold maxLen at hdx hex
  have H := hide h
  have HN := hide h.len
  have HD := hide hD
  have ND := hide hD.len
  have HE' := hide hE
  have NE := hide hE.len
  clear h hD hE
  go_enter Try.func7, Try.ntmps7
  go_wp2_with fail
  refine (works8_any w).mono ?_
  rintro e w0 ⟨rfl, b0⟩
  have z0 := b0.size
  have cp := hide (putlaw_any Vs a0 n c w0 (H.out.later b0) (by omega))
  dsimp only
  go_wp2_with fail
  refine cp.out.mono ?_
  rintro e w1 ⟨al, cl, rfl, s1, b1⟩
  have z1 := b1.size
  have B1 := hide (b0.trans (b1.mono z0))
  have CH := hide (Ch.all_of Vs)
  have hllen : Hid ((Ak.puts [] Vs).length ≤ n) := by
    show _ ≤ _
    have := Ak.puts_len [] Vs
    rw [HN.out, List.length_nil, Nat.zero_add] at this
    exact this
  obtain ⟨Ls, hLs⟩ : ∃ Ls, Ls = Ak.puts [] Vs := ⟨_, rfl⟩
  rw [← hLs] at s1 hllen CH ⊢
  clear hLs
  have HF : Hid (∀ x ∈ Ls, 0 ≤ x.h ∧ 0 ≤ x.l) := fun x hx => hfit x (CH.out.top x hx).1
  have cq := hide (Ak.Prune_any Ls D al av Ls.length cl nv cv w1 s1 (HD.out.later B1.out) (by have := hllen.out; omega))
  have SL1 := hide s1
  have hlc := s1.cap
  have hlm := s1.max
  unfold maxLen at hlm
  clear s1 b1 b0 cp H hfit
  dsimp only
  go_wp2_with fail
  refine cq.out.mono ?_
  rintro e w2 ⟨v2, rfl, o2, b2⟩
  obtain ⟨aa, ca, rfl, s2, _⟩ := o2.sl kAkA
  have z2 := b2.size
  have B2 := hide (B1.out.trans (b2.mono B1.out.size))
  have SL := hide (SL1.out.later b2)
  have HD2 := hide (HD.out.later B2.out)
  have HE2 := hide (HE'.out.later B2.out)
  have hALn : Hid ((Ak.prn Ls D).length ≤ Ls.length) := List.length_filter_le _ _
  obtain ⟨As, hAs⟩ : ∃ As, As = Ak.prn Ls D := ⟨_, rfl⟩
  have HAs := hide hAs
  rw [← hAs] at s2 hALn ⊢
  clear hAs
  have SA := hide s2
  have hac := s2.cap
  have ham := s2.max
  unfold maxLen at ham
  clear s2 o2 b2 cq SL1 HD HE'
  have KZ : Hid (∀ v, Below w2.heap.size w2 v → w2.heap.size ≤ v.heap.size) := fun v hv => hv.size
  dsimp only
  go_wp2_with fail
  go_loopw [10, 9] (fun ii kk wr => ∃ i k : Nat, ii = .int .i64 (i : Int) ∧ i ≤ Ls.length ∧ kk = .int .i64 (k : Int) ∧ Hid (k = (Ak.prn (Ls.take i) D).length) ∧ Below w2.heap.size w2 wr) (fun i _ _ => Ls.length - (intOf i).toNat)
  case atStart => exact ⟨0, 0, rfl, Nat.zero_le _, rfl, rfl, Below.refl _ _⟩
  case round =>
    obtain ⟨i, k, rfl, hi, rfl, hk, hbl⟩ := hrel
    have hsz := hbl.size
    by_cases hlt : i < Ls.length
    · have hg : Ls[i]? = some Ls[i] := List.getElem?_eq_getElem hlt
      obtain ⟨ql, ol, rfl, hql, x0, x1, x2, x3⟩ := SL.out.AkA hg
      have hstep := hide (Ak.prn_step (D := D) hg)
      have hat := hide (fun ho => Ak.prn_at (D := D) hg ho)
      have hkl : Hid (k ≤ Ls.length) := by
        show _ ≤ _
        rw [hk.out]
        exact Nat.le_trans (List.length_filter_le _ _) (by rw [List.length_take]; omega)
      clear hg
      generalize Ls[i] = x at *
      have KX : Hid (∀ v, Below w2.heap.size w2 v → v.cell? ⟨ql, ol + i * 4, none⟩ = some (.int .i64 x.n) ∧ v.cell? ⟨ql, ol + i * 4 + 1, none⟩ = some (.int .u64 x.h) ∧ v.cell? ⟨ql, ol + i * 4 + 2, none⟩ = some (.int .u64 x.l) ∧ v.cell? ⟨ql, ol + i * 4 + 3, none⟩ = some (.int .i64 x.p)) := fun v hv =>
        ⟨(hv.cell (p := ⟨ql, _, none⟩) hql).trans x0, (hv.cell (p := ⟨ql, _, none⟩) hql).trans x1, (hv.cell (p := ⟨ql, _, none⟩) hql).trans x2, (hv.cell (p := ⟨ql, _, none⟩) hql).trans x3⟩
      clear x0 x1 x2 x3
      obtain ⟨x0, _, _, _⟩ := KX.out wr hbl
      go_wp2_with fail
      clear x0
      have OV : Hid (ovr D x.n x.h x.l = (decide (0 ≤ x.n ∧ x.n < (nv : Int)) && decide (cmpD x.h x.l (D.getD x.n.toNat (0, 0)).1 (D.getD x.n.toNat (0, 0)).2 < 0))) := by show _ = _; unfold ovr; rw [ND.out]
      by_cases hn0 : 0 ≤ x.n
      · by_cases hn1 : x.n < (nv : Int)
        · obtain ⟨j, hxj⟩ : ∃ j : Nat, x.n = (j : Int) := ⟨x.n.toNat, by omega⟩
          have hj : j < nv := by omega
          have hgd : D[j]? = some (D[j]'(by rw [ND.out]; exact hj)) := List.getElem?_eq_getElem _
          obtain ⟨qv, ov, rfl, hqv, d0, d1⟩ := HD2.out.dw hgd
          have hO : Hid (ovr D x.n x.h x.l = decide (x.h < (D[j]'(by rw [ND.out]; exact hj)).1 ∨ (x.h = (D[j]'(by rw [ND.out]; exact hj)).1 ∧ x.l < (D[j]'(by rw [ND.out]; exact hj)).2))) := by
            show _ = _
            rw [OV.out, decide_eq_true (show 0 ≤ x.n ∧ x.n < (nv : Int) from ⟨hn0, hn1⟩), Bool.true_and, hxj, Int.toNat_natCast, List.getD_eq_getElem?_getD, hgd, Option.getD_some, Bool.eq_iff_iff, decide_eq_true_iff, decide_eq_true_iff, cmpD_neg]
          clear OV hgd
          generalize (D[j]'(by rw [ND.out]; exact hj)) = d at *
          have KV : Hid (∀ v, Below w2.heap.size w2 v → v.cell? ⟨qv, ov + j * 2, none⟩ = some (.int .u64 d.1) ∧ v.cell? ⟨qv, ov + j * 2 + 1, none⟩ = some (.int .u64 d.2)) := fun v hv => ⟨(hv.cell (p := ⟨qv, _, none⟩) hqv).trans d0, (hv.cell (p := ⟨qv, _, none⟩) hqv).trans d1⟩
          clear d0 d1
          have CB0 := fun W => below8_any x.h x.l d.1 d.2 W
          rw [← hO.out] at CB0
          obtain ⟨O, hOe⟩ : ∃ O, O = ovr D x.n x.h x.l := ⟨_, rfl⟩
          rw [← hOe] at CB0
          have CB := hide CB0
          clear CB0 hO
          have hj0 : (0 : Int) ≤ (j : Int) := by omega
          have hjI : (j : Int) < (nv : Int) := by omega
          rw [hxj]
          have HXJ := hide hxj
          have HOE := hide hOe
          clear hxj hOe hn0 hn1
          refine region_q9 (C := fun v => Below w2.heap.size w2 v) (by kernel_rfl) (by kernel_rfl) hbl.drew ?_
          refine wqv (u := .int .i64 (j : Int)) (by kernel_rfl) (fun v hv => by kernel_rfl) ?_
          simp only [Act.put, List.setIfInBounds_toArray, List.set_cons_zero, List.set_cons_succ]
          refine wqv (u := .bool true) (by kernel_rfl) (fun v hv => by go_simp) ?_
          simp only [Act.put, List.setIfInBounds_toArray, List.set_cons_zero, List.set_cons_succ]
          refine wqv (u := .bool true) (by kernel_rfl) (fun v hv => by kernel_rfl) ?_
          simp only [Act.put, List.setIfInBounds_toArray, List.set_cons_zero, List.set_cons_succ]
          refine wqv (u := .int .i64 (j : Int)) (by kernel_rfl) (fun v hv => by kernel_rfl) ?_
          simp only [Act.put, List.setIfInBounds_toArray, List.set_cons_zero, List.set_cons_succ]
          refine wqv (u := .slice (some ⟨qv, ov, none⟩) nv cv) (by kernel_rfl) (fun v hv => by kernel_rfl) ?_
          simp only [Act.put, List.setIfInBounds_toArray, List.set_cons_zero, List.set_cons_succ]
          refine wqv (u := .int .i64 (nv : Int)) (by kernel_rfl) (fun v hv => by go_simp) ?_
          simp only [Act.put, List.setIfInBounds_toArray, List.set_cons_zero, List.set_cons_succ]
          refine wqv (u := .bool true) (by kernel_rfl) (fun v hv => by go_simp) ?_
          simp only [Act.put, List.setIfInBounds_toArray, List.set_cons_zero, List.set_cons_succ]
          refine wqv (u := .bool true) (by kernel_rfl) (fun v hv => by kernel_rfl) ?_
          simp only [Act.put, List.setIfInBounds_toArray, List.set_cons_zero, List.set_cons_succ]
          refine wqv (u := .bool true) (by kernel_rfl) (fun v hv => by kernel_rfl) ?_
          simp only [Act.put, List.setIfInBounds_toArray, List.set_cons_zero, List.set_cons_succ]
          refine wqv (u := .slice (some ⟨ql, ol, none⟩) Ls.length cl) (by kernel_rfl) (fun v hv => by kernel_rfl) ?_
          simp only [Act.put, List.setIfInBounds_toArray, List.set_cons_zero, List.set_cons_succ]
          refine wqv (u := .int .i64 (i : Int)) (by kernel_rfl) (fun v hv => by kernel_rfl) ?_
          simp only [Act.put, List.setIfInBounds_toArray, List.set_cons_zero, List.set_cons_succ]
          refine wqv (u := .pointer (some ⟨ql, ol + i * 4, none⟩)) (by kernel_rfl) (fun v hv => by go_simp) ?_
          simp only [Act.put, List.setIfInBounds_toArray, List.set_cons_zero, List.set_cons_succ]
          refine wqv (u := .pointer (some ⟨ql, ol + i * 4 + 1, none⟩)) (by kernel_rfl) (fun v hv => by go_simp) ?_
          simp only [Act.put, List.setIfInBounds_toArray, List.set_cons_zero, List.set_cons_succ]
          refine wqv (u := .agg #[.int .u64 x.h, .int .u64 x.l]) (by kernel_rfl) (fun v hv => by obtain ⟨y0, y1, y2, y3⟩ := KX.out v hv; go_simp) ?_
          simp only [Act.put, List.setIfInBounds_toArray, List.set_cons_zero, List.set_cons_succ]
          refine wqv (u := .slice (some ⟨qv, ov, none⟩) nv cv) (by kernel_rfl) (fun v hv => by kernel_rfl) ?_
          simp only [Act.put, List.setIfInBounds_toArray, List.set_cons_zero, List.set_cons_succ]
          refine wqv (u := .int .i64 (j : Int)) (by kernel_rfl) (fun v hv => by kernel_rfl) ?_
          simp only [Act.put, List.setIfInBounds_toArray, List.set_cons_zero, List.set_cons_succ]
          refine wqv (u := .pointer (some ⟨qv, ov + j * 2, none⟩)) (by kernel_rfl) (fun v hv => by go_simp) ?_
          simp only [Act.put, List.setIfInBounds_toArray, List.set_cons_zero, List.set_cons_succ]
          refine wqv (u := .agg #[.int .u64 d.1, .int .u64 d.2]) (by kernel_rfl) (fun v hv => by obtain ⟨y0, y1⟩ := KV.out v hv; go_simp) ?_
          simp only [Act.put, List.setIfInBounds_toArray, List.set_cons_zero, List.set_cons_succ]
          refine wqc (fid := 30) (args := #[.agg #[.int .u64 x.h, .int .u64 x.l], .agg #[.int .u64 d.1, .int .u64 d.2]]) (u := .bool O) (by kernel_rfl) (fun v => by kernel_rfl) (fun v hv => (CB.out v).mono fun e w' h => ⟨h.1, hv.trans (h.2.mono (KZ.out v hv))⟩) ?_
          simp only [Act.put, List.setIfInBounds_toArray, List.set_cons_zero, List.set_cons_succ]
          refine wqv (u := .bool O) (by kernel_rfl) (fun v hv => by kernel_rfl) ?_
          simp only [Act.put, List.setIfInBounds_toArray, List.set_cons_zero, List.set_cons_succ]
          refine wqv (u := .bool O) (by kernel_rfl) (fun v hv => by kernel_rfl) ?_
          simp only [Act.put, List.setIfInBounds_toArray, List.set_cons_zero, List.set_cons_succ]
          refine wqnil (fun v hv => ?_)
          clear KV CB
          cases O with
          | false =>
            have ho : ovr D x.n x.h x.l = false := HOE.out.symm
            clear HOE
            have hb10 := hide hv
            clear hv
            have hAk : As[k]? = some x := by rw [HAs.out, hk.out]; exact hat.out ho
            obtain ⟨qa, oa, rfl, hqa, u0, u1, u2, u3⟩ := SA.out.AkA hAk
            have hkA : k < As.length := (List.getElem?_eq_some_iff.1 hAk).1
            have KA : Hid (∀ v, Below w2.heap.size w2 v → v.cell? ⟨qa, oa + k * 4, none⟩ = some (.int .i64 x.n) ∧ v.cell? ⟨qa, oa + k * 4 + 1, none⟩ = some (.int .u64 x.h) ∧ v.cell? ⟨qa, oa + k * 4 + 2, none⟩ = some (.int .u64 x.l) ∧ v.cell? ⟨qa, oa + k * 4 + 3, none⟩ = some (.int .i64 x.p)) := fun v hv =>
              ⟨(hv.cell (p := ⟨qa, _, none⟩) hqa).trans u0, (hv.cell (p := ⟨qa, _, none⟩) hqa).trans u1, (hv.cell (p := ⟨qa, _, none⟩) hqa).trans u2, (hv.cell (p := ⟨qa, _, none⟩) hqa).trans u3⟩
            have HE : Hid (decide (x = x) = true) := decide_eq_true rfl
            have hkI : (k : Int) < (As.length : Int) := by omega
            have hkn : Hid (k + 1 = (Ak.prn (Ls.take (i + 1)) D).length) := by
              show _ = _
              rw [hstep.out, List.length_append, ← hk.out, ho]
              rfl
            clear hAk u0 u1 u2 u3 hk hstep hat ho
            go_wp2_with fail
            refine region_q9 (C := fun v => Below w2.heap.size w2 v) (by kernel_rfl) (by kernel_rfl) hb10.out.drew ?_
            refine wqv (u := .int .i64 (k : Int)) (by kernel_rfl) (fun v hv => by kernel_rfl) ?_
            simp only [Act.put, List.setIfInBounds_toArray, List.set_cons_zero, List.set_cons_succ]
            refine wqv (u := .slice (some ⟨qa, oa, none⟩) As.length ca) (by kernel_rfl) (fun v hv => by kernel_rfl) ?_
            simp only [Act.put, List.setIfInBounds_toArray, List.set_cons_zero, List.set_cons_succ]
            refine wqv (u := .int .i64 (As.length : Int)) (by kernel_rfl) (fun v hv => by go_simp) ?_
            simp only [Act.put, List.setIfInBounds_toArray, List.set_cons_zero, List.set_cons_succ]
            refine wqv (u := .bool true) (by kernel_rfl) (fun v hv => by go_simp) ?_
            simp only [Act.put, List.setIfInBounds_toArray, List.set_cons_zero, List.set_cons_succ]
            refine wqv (u := .bool true) (by kernel_rfl) (fun v hv => by kernel_rfl) ?_
            simp only [Act.put, List.setIfInBounds_toArray, List.set_cons_zero, List.set_cons_succ]
            refine wqv (u := .slice (some ⟨qa, oa, none⟩) As.length ca) (by kernel_rfl) (fun v hv => by kernel_rfl) ?_
            simp only [Act.put, List.setIfInBounds_toArray, List.set_cons_zero, List.set_cons_succ]
            refine wqv (u := .int .i64 (k : Int)) (by kernel_rfl) (fun v hv => by kernel_rfl) ?_
            simp only [Act.put, List.setIfInBounds_toArray, List.set_cons_zero, List.set_cons_succ]
            refine wqv (u := .pointer (some ⟨qa, oa + k * 4, none⟩)) (by kernel_rfl) (fun v hv => by go_simp) ?_
            simp only [Act.put, List.setIfInBounds_toArray, List.set_cons_zero, List.set_cons_succ]
            refine wqv (u := x.val) (by kernel_rfl) (fun v hv => by obtain ⟨y0, y1, y2, y3⟩ := KA.out v hv; go_simp; rfl) ?_
            simp only [Act.put, List.setIfInBounds_toArray, List.set_cons_zero, List.set_cons_succ]
            refine wqv (u := .slice (some ⟨ql, ol, none⟩) Ls.length cl) (by kernel_rfl) (fun v hv => by kernel_rfl) ?_
            simp only [Act.put, List.setIfInBounds_toArray, List.set_cons_zero, List.set_cons_succ]
            refine wqv (u := .int .i64 (i : Int)) (by kernel_rfl) (fun v hv => by kernel_rfl) ?_
            simp only [Act.put, List.setIfInBounds_toArray, List.set_cons_zero, List.set_cons_succ]
            refine wqv (u := .pointer (some ⟨ql, ol + i * 4, none⟩)) (by kernel_rfl) (fun v hv => by go_simp) ?_
            simp only [Act.put, List.setIfInBounds_toArray, List.set_cons_zero, List.set_cons_succ]
            refine wqv (u := x.val) (by kernel_rfl) (fun v hv => by obtain ⟨y0, y1, y2, y3⟩ := KX.out v hv; go_simp; rfl) ?_
            simp only [Act.put, List.setIfInBounds_toArray, List.set_cons_zero, List.set_cons_succ]
            refine wqe (by kernel_rfl) rfl x.val x.val (.bool true) (by kernel_rfl) (by kernel_rfl) (fun v => (eqlAk x x _ _ v).trans (by simp)) ?_
            simp only [Act.put, List.setIfInBounds_toArray, List.set_cons_zero, List.set_cons_succ]
            refine wqv (u := .bool true) (by kernel_rfl) (fun v hv => by kernel_rfl) ?_
            simp only [Act.put, List.setIfInBounds_toArray, List.set_cons_zero, List.set_cons_succ]
            refine wqv (u := .bool true) (by kernel_rfl) (fun v hv => by kernel_rfl) ?_
            simp only [Act.put, List.setIfInBounds_toArray, List.set_cons_zero, List.set_cons_succ]
            refine wqv (u := .bool false) (by kernel_rfl) (fun v hv => by kernel_rfl) ?_
            simp only [Act.put, List.setIfInBounds_toArray, List.set_cons_zero, List.set_cons_succ]
            refine wqv (u := .bool true) (by kernel_rfl) (fun v hv => by go_simp) ?_
            simp only [Act.put, List.setIfInBounds_toArray, List.set_cons_zero, List.set_cons_succ]
            refine wqv (u := .bool true) (by kernel_rfl) (fun v hv => by kernel_rfl) ?_
            simp only [Act.put, List.setIfInBounds_toArray, List.set_cons_zero, List.set_cons_succ]
            refine wqnil (fun v hv => ?_)
            have BV := hide hv
            clear hv KX KA HE hb10
            go_wp2
            go_round
            case rel => exact ⟨i + 1, k + 1, by go_num, by omega, by go_num, hkn, BV.out⟩
            case measure => simp [intOf]; omega
          | true =>
            have ho : ovr D x.n x.h x.l = true := HOE.out.symm
            clear HOE
            have hb10 := hide hv
            clear hv
            have hkn : Hid (k = (Ak.prn (Ls.take (i + 1)) D).length) := by
              show _ = _
              rw [hstep.out, List.length_append, ← hk.out, ho]
              rfl
            by_cases hkA : k < As.length
            · have hAk : As[k]? = some As[k] := List.getElem?_eq_getElem hkA
              obtain ⟨qa, oa, rfl, hqa, u0, u1, u2, u3⟩ := SA.out.AkA hAk
              have hne : Hid (decide (As[k] = x) = false) := by
                refine decide_eq_false (fun e => ?_)
                have hmem : As[k] ∈ Ak.prn Ls D := by rw [← HAs.out]; exact List.getElem_mem hkA
                have := (List.mem_filter.1 hmem).2
                rw [e, ho] at this
                cases this
              generalize As[k] = z at *
              have HE := hne
              have KA : Hid (∀ v, Below w2.heap.size w2 v → v.cell? ⟨qa, oa + k * 4, none⟩ = some (.int .i64 z.n) ∧ v.cell? ⟨qa, oa + k * 4 + 1, none⟩ = some (.int .u64 z.h) ∧ v.cell? ⟨qa, oa + k * 4 + 2, none⟩ = some (.int .u64 z.l) ∧ v.cell? ⟨qa, oa + k * 4 + 3, none⟩ = some (.int .i64 z.p)) := fun v hv =>
                ⟨(hv.cell (p := ⟨qa, _, none⟩) hqa).trans u0, (hv.cell (p := ⟨qa, _, none⟩) hqa).trans u1, (hv.cell (p := ⟨qa, _, none⟩) hqa).trans u2, (hv.cell (p := ⟨qa, _, none⟩) hqa).trans u3⟩
              have hkI : (k : Int) < (As.length : Int) := by omega
              clear hAk u0 u1 u2 u3 hk hstep hat ho hne
              go_wp2_with fail
              refine region_q9 (C := fun v => Below w2.heap.size w2 v) (by kernel_rfl) (by kernel_rfl) hb10.out.drew ?_
              refine wqv (u := .int .i64 (k : Int)) (by kernel_rfl) (fun v hv => by kernel_rfl) ?_
              simp only [Act.put, List.setIfInBounds_toArray, List.set_cons_zero, List.set_cons_succ]
              refine wqv (u := .slice (some ⟨qa, oa, none⟩) As.length ca) (by kernel_rfl) (fun v hv => by kernel_rfl) ?_
              simp only [Act.put, List.setIfInBounds_toArray, List.set_cons_zero, List.set_cons_succ]
              refine wqv (u := .int .i64 (As.length : Int)) (by kernel_rfl) (fun v hv => by go_simp) ?_
              simp only [Act.put, List.setIfInBounds_toArray, List.set_cons_zero, List.set_cons_succ]
              refine wqv (u := .bool true) (by kernel_rfl) (fun v hv => by go_simp) ?_
              simp only [Act.put, List.setIfInBounds_toArray, List.set_cons_zero, List.set_cons_succ]
              refine wqv (u := .bool true) (by kernel_rfl) (fun v hv => by kernel_rfl) ?_
              simp only [Act.put, List.setIfInBounds_toArray, List.set_cons_zero, List.set_cons_succ]
              refine wqv (u := .slice (some ⟨qa, oa, none⟩) As.length ca) (by kernel_rfl) (fun v hv => by kernel_rfl) ?_
              simp only [Act.put, List.setIfInBounds_toArray, List.set_cons_zero, List.set_cons_succ]
              refine wqv (u := .int .i64 (k : Int)) (by kernel_rfl) (fun v hv => by kernel_rfl) ?_
              simp only [Act.put, List.setIfInBounds_toArray, List.set_cons_zero, List.set_cons_succ]
              refine wqv (u := .pointer (some ⟨qa, oa + k * 4, none⟩)) (by kernel_rfl) (fun v hv => by go_simp) ?_
              simp only [Act.put, List.setIfInBounds_toArray, List.set_cons_zero, List.set_cons_succ]
              refine wqv (u := z.val) (by kernel_rfl) (fun v hv => by obtain ⟨y0, y1, y2, y3⟩ := KA.out v hv; go_simp; rfl) ?_
              simp only [Act.put, List.setIfInBounds_toArray, List.set_cons_zero, List.set_cons_succ]
              refine wqv (u := .slice (some ⟨ql, ol, none⟩) Ls.length cl) (by kernel_rfl) (fun v hv => by kernel_rfl) ?_
              simp only [Act.put, List.setIfInBounds_toArray, List.set_cons_zero, List.set_cons_succ]
              refine wqv (u := .int .i64 (i : Int)) (by kernel_rfl) (fun v hv => by kernel_rfl) ?_
              simp only [Act.put, List.setIfInBounds_toArray, List.set_cons_zero, List.set_cons_succ]
              refine wqv (u := .pointer (some ⟨ql, ol + i * 4, none⟩)) (by kernel_rfl) (fun v hv => by go_simp) ?_
              simp only [Act.put, List.setIfInBounds_toArray, List.set_cons_zero, List.set_cons_succ]
              refine wqv (u := x.val) (by kernel_rfl) (fun v hv => by obtain ⟨y0, y1, y2, y3⟩ := KX.out v hv; go_simp; rfl) ?_
              simp only [Act.put, List.setIfInBounds_toArray, List.set_cons_zero, List.set_cons_succ]
              refine wqe (by kernel_rfl) rfl z.val x.val (.bool false) (by kernel_rfl) (by kernel_rfl) (fun v => (eqlAk z x _ _ v).trans (by rw [HE.out])) ?_
              simp only [Act.put, List.setIfInBounds_toArray, List.set_cons_zero, List.set_cons_succ]
              refine wqv (u := .bool false) (by kernel_rfl) (fun v hv => by kernel_rfl) ?_
              simp only [Act.put, List.setIfInBounds_toArray, List.set_cons_zero, List.set_cons_succ]
              refine wqv (u := .bool false) (by kernel_rfl) (fun v hv => by kernel_rfl) ?_
              simp only [Act.put, List.setIfInBounds_toArray, List.set_cons_zero, List.set_cons_succ]
              refine wqskip (by kernel_rfl) ?_
              simp only [Act.put, List.setIfInBounds_toArray, List.set_cons_zero, List.set_cons_succ]
              refine wqskip (by kernel_rfl) ?_
              simp only [Act.put, List.setIfInBounds_toArray, List.set_cons_zero, List.set_cons_succ]
              refine wqv (u := .bool false) (by kernel_rfl) (fun v hv => by kernel_rfl) ?_
              simp only [Act.put, List.setIfInBounds_toArray, List.set_cons_zero, List.set_cons_succ]
              refine wqnil (fun v hv => ?_)
              have BV := hide hv
              clear hv KX KA HE hb10
              go_wp2
              go_round
              case rel => exact ⟨i + 1, k, by go_num, by omega, by go_num, hkn, BV.out⟩
              case measure => simp [intOf]; omega
            · have hkI : ¬ ((k : Int) < (As.length : Int)) := by omega
              clear hk hstep hat ho
              go_wp2_with fail
              refine region_q9 (C := fun v => Below w2.heap.size w2 v) (by kernel_rfl) (by kernel_rfl) hb10.out.drew ?_
              refine wqv (u := .int .i64 (k : Int)) (by kernel_rfl) (fun v hv => by kernel_rfl) ?_
              simp only [Act.put, List.setIfInBounds_toArray, List.set_cons_zero, List.set_cons_succ]
              refine wqv (u := .slice aa As.length ca) (by kernel_rfl) (fun v hv => by kernel_rfl) ?_
              simp only [Act.put, List.setIfInBounds_toArray, List.set_cons_zero, List.set_cons_succ]
              refine wqv (u := .int .i64 (As.length : Int)) (by kernel_rfl) (fun v hv => by go_simp) ?_
              simp only [Act.put, List.setIfInBounds_toArray, List.set_cons_zero, List.set_cons_succ]
              refine wqv (u := .bool false) (by kernel_rfl) (fun v hv => by go_simp) ?_
              simp only [Act.put, List.setIfInBounds_toArray, List.set_cons_zero, List.set_cons_succ]
              refine wqv (u := .bool false) (by kernel_rfl) (fun v hv => by kernel_rfl) ?_
              simp only [Act.put, List.setIfInBounds_toArray, List.set_cons_zero, List.set_cons_succ]
              refine wqskip (by kernel_rfl) ?_
              simp only [Act.put, List.setIfInBounds_toArray, List.set_cons_zero, List.set_cons_succ]
              refine wqskip (by kernel_rfl) ?_
              simp only [Act.put, List.setIfInBounds_toArray, List.set_cons_zero, List.set_cons_succ]
              refine wqskip (by kernel_rfl) ?_
              simp only [Act.put, List.setIfInBounds_toArray, List.set_cons_zero, List.set_cons_succ]
              refine wqskip (by kernel_rfl) ?_
              simp only [Act.put, List.setIfInBounds_toArray, List.set_cons_zero, List.set_cons_succ]
              refine wqskip (by kernel_rfl) ?_
              simp only [Act.put, List.setIfInBounds_toArray, List.set_cons_zero, List.set_cons_succ]
              refine wqskip (by kernel_rfl) ?_
              simp only [Act.put, List.setIfInBounds_toArray, List.set_cons_zero, List.set_cons_succ]
              refine wqskip (by kernel_rfl) ?_
              simp only [Act.put, List.setIfInBounds_toArray, List.set_cons_zero, List.set_cons_succ]
              refine wqskip (by kernel_rfl) ?_
              simp only [Act.put, List.setIfInBounds_toArray, List.set_cons_zero, List.set_cons_succ]
              refine wqskip (by kernel_rfl) ?_
              simp only [Act.put, List.setIfInBounds_toArray, List.set_cons_zero, List.set_cons_succ]
              refine wqv (u := .bool false) (by kernel_rfl) (fun v hv => by kernel_rfl) ?_
              simp only [Act.put, List.setIfInBounds_toArray, List.set_cons_zero, List.set_cons_succ]
              refine wqv (u := .bool false) (by kernel_rfl) (fun v hv => by kernel_rfl) ?_
              simp only [Act.put, List.setIfInBounds_toArray, List.set_cons_zero, List.set_cons_succ]
              refine wqskip (by kernel_rfl) ?_
              simp only [Act.put, List.setIfInBounds_toArray, List.set_cons_zero, List.set_cons_succ]
              refine wqskip (by kernel_rfl) ?_
              simp only [Act.put, List.setIfInBounds_toArray, List.set_cons_zero, List.set_cons_succ]
              refine wqv (u := .bool false) (by kernel_rfl) (fun v hv => by kernel_rfl) ?_
              simp only [Act.put, List.setIfInBounds_toArray, List.set_cons_zero, List.set_cons_succ]
              refine wqnil (fun v hv => ?_)
              have BV := hide hv
              clear hv KX hb10
              go_wp2
              go_round
              case rel => exact ⟨i + 1, k, by go_num, by omega, by go_num, hkn, BV.out⟩
              case measure => simp [intOf]; omega
        · have ho : ovr D x.n x.h x.l = false := by rw [OV.out, decide_eq_false (fun e => hn1 e.2), Bool.false_and]
          clear OV
          refine region_q9 (C := fun v => Below w2.heap.size w2 v) (by kernel_rfl) (by kernel_rfl) hbl.drew ?_
          refine wqv (u := .int .i64 x.n) (by kernel_rfl) (fun v hv => by kernel_rfl) ?_
          simp only [Act.put, List.setIfInBounds_toArray, List.set_cons_zero, List.set_cons_succ]
          refine wqv (u := .bool true) (by kernel_rfl) (fun v hv => by go_simp) ?_
          simp only [Act.put, List.setIfInBounds_toArray, List.set_cons_zero, List.set_cons_succ]
          refine wqv (u := .bool true) (by kernel_rfl) (fun v hv => by kernel_rfl) ?_
          simp only [Act.put, List.setIfInBounds_toArray, List.set_cons_zero, List.set_cons_succ]
          refine wqv (u := .int .i64 x.n) (by kernel_rfl) (fun v hv => by kernel_rfl) ?_
          simp only [Act.put, List.setIfInBounds_toArray, List.set_cons_zero, List.set_cons_succ]
          refine wqv (u := .slice av nv cv) (by kernel_rfl) (fun v hv => by kernel_rfl) ?_
          simp only [Act.put, List.setIfInBounds_toArray, List.set_cons_zero, List.set_cons_succ]
          refine wqv (u := .int .i64 (nv : Int)) (by kernel_rfl) (fun v hv => by go_simp) ?_
          simp only [Act.put, List.setIfInBounds_toArray, List.set_cons_zero, List.set_cons_succ]
          refine wqv (u := .bool false) (by kernel_rfl) (fun v hv => by go_simp) ?_
          simp only [Act.put, List.setIfInBounds_toArray, List.set_cons_zero, List.set_cons_succ]
          refine wqv (u := .bool false) (by kernel_rfl) (fun v hv => by kernel_rfl) ?_
          simp only [Act.put, List.setIfInBounds_toArray, List.set_cons_zero, List.set_cons_succ]
          refine wqv (u := .bool false) (by kernel_rfl) (fun v hv => by kernel_rfl) ?_
          simp only [Act.put, List.setIfInBounds_toArray, List.set_cons_zero, List.set_cons_succ]
          refine wqskip (by kernel_rfl) ?_
          simp only [Act.put, List.setIfInBounds_toArray, List.set_cons_zero, List.set_cons_succ]
          refine wqskip (by kernel_rfl) ?_
          simp only [Act.put, List.setIfInBounds_toArray, List.set_cons_zero, List.set_cons_succ]
          refine wqskip (by kernel_rfl) ?_
          simp only [Act.put, List.setIfInBounds_toArray, List.set_cons_zero, List.set_cons_succ]
          refine wqskip (by kernel_rfl) ?_
          simp only [Act.put, List.setIfInBounds_toArray, List.set_cons_zero, List.set_cons_succ]
          refine wqskip (by kernel_rfl) ?_
          simp only [Act.put, List.setIfInBounds_toArray, List.set_cons_zero, List.set_cons_succ]
          refine wqskip (by kernel_rfl) ?_
          simp only [Act.put, List.setIfInBounds_toArray, List.set_cons_zero, List.set_cons_succ]
          refine wqskip (by kernel_rfl) ?_
          simp only [Act.put, List.setIfInBounds_toArray, List.set_cons_zero, List.set_cons_succ]
          refine wqskip (by kernel_rfl) ?_
          simp only [Act.put, List.setIfInBounds_toArray, List.set_cons_zero, List.set_cons_succ]
          refine wqskip (by kernel_rfl) ?_
          simp only [Act.put, List.setIfInBounds_toArray, List.set_cons_zero, List.set_cons_succ]
          refine wqskip (by kernel_rfl) ?_
          simp only [Act.put, List.setIfInBounds_toArray, List.set_cons_zero, List.set_cons_succ]
          refine wqv (u := .bool false) (by kernel_rfl) (fun v hv => by kernel_rfl) ?_
          simp only [Act.put, List.setIfInBounds_toArray, List.set_cons_zero, List.set_cons_succ]
          refine wqv (u := .bool false) (by kernel_rfl) (fun v hv => by kernel_rfl) ?_
          simp only [Act.put, List.setIfInBounds_toArray, List.set_cons_zero, List.set_cons_succ]
          refine wqnil (fun v hv => ?_)
          have hb10 := hide hv
          clear hv
          have hAk : As[k]? = some x := by rw [HAs.out, hk.out]; exact hat.out ho
          obtain ⟨qa, oa, rfl, hqa, u0, u1, u2, u3⟩ := SA.out.AkA hAk
          have hkA : k < As.length := (List.getElem?_eq_some_iff.1 hAk).1
          have KA : Hid (∀ v, Below w2.heap.size w2 v → v.cell? ⟨qa, oa + k * 4, none⟩ = some (.int .i64 x.n) ∧ v.cell? ⟨qa, oa + k * 4 + 1, none⟩ = some (.int .u64 x.h) ∧ v.cell? ⟨qa, oa + k * 4 + 2, none⟩ = some (.int .u64 x.l) ∧ v.cell? ⟨qa, oa + k * 4 + 3, none⟩ = some (.int .i64 x.p)) := fun v hv =>
            ⟨(hv.cell (p := ⟨qa, _, none⟩) hqa).trans u0, (hv.cell (p := ⟨qa, _, none⟩) hqa).trans u1, (hv.cell (p := ⟨qa, _, none⟩) hqa).trans u2, (hv.cell (p := ⟨qa, _, none⟩) hqa).trans u3⟩
          have HE : Hid (decide (x = x) = true) := decide_eq_true rfl
          have hkI : (k : Int) < (As.length : Int) := by omega
          have hkn : Hid (k + 1 = (Ak.prn (Ls.take (i + 1)) D).length) := by
            show _ = _
            rw [hstep.out, List.length_append, ← hk.out, ho]
            rfl
          clear hAk u0 u1 u2 u3 hk hstep hat ho
          go_wp2_with fail
          refine region_q9 (C := fun v => Below w2.heap.size w2 v) (by kernel_rfl) (by kernel_rfl) hb10.out.drew ?_
          refine wqv (u := .int .i64 (k : Int)) (by kernel_rfl) (fun v hv => by kernel_rfl) ?_
          simp only [Act.put, List.setIfInBounds_toArray, List.set_cons_zero, List.set_cons_succ]
          refine wqv (u := .slice (some ⟨qa, oa, none⟩) As.length ca) (by kernel_rfl) (fun v hv => by kernel_rfl) ?_
          simp only [Act.put, List.setIfInBounds_toArray, List.set_cons_zero, List.set_cons_succ]
          refine wqv (u := .int .i64 (As.length : Int)) (by kernel_rfl) (fun v hv => by go_simp) ?_
          simp only [Act.put, List.setIfInBounds_toArray, List.set_cons_zero, List.set_cons_succ]
          refine wqv (u := .bool true) (by kernel_rfl) (fun v hv => by go_simp) ?_
          simp only [Act.put, List.setIfInBounds_toArray, List.set_cons_zero, List.set_cons_succ]
          refine wqv (u := .bool true) (by kernel_rfl) (fun v hv => by kernel_rfl) ?_
          simp only [Act.put, List.setIfInBounds_toArray, List.set_cons_zero, List.set_cons_succ]
          refine wqv (u := .slice (some ⟨qa, oa, none⟩) As.length ca) (by kernel_rfl) (fun v hv => by kernel_rfl) ?_
          simp only [Act.put, List.setIfInBounds_toArray, List.set_cons_zero, List.set_cons_succ]
          refine wqv (u := .int .i64 (k : Int)) (by kernel_rfl) (fun v hv => by kernel_rfl) ?_
          simp only [Act.put, List.setIfInBounds_toArray, List.set_cons_zero, List.set_cons_succ]
          refine wqv (u := .pointer (some ⟨qa, oa + k * 4, none⟩)) (by kernel_rfl) (fun v hv => by go_simp) ?_
          simp only [Act.put, List.setIfInBounds_toArray, List.set_cons_zero, List.set_cons_succ]
          refine wqv (u := x.val) (by kernel_rfl) (fun v hv => by obtain ⟨y0, y1, y2, y3⟩ := KA.out v hv; go_simp; rfl) ?_
          simp only [Act.put, List.setIfInBounds_toArray, List.set_cons_zero, List.set_cons_succ]
          refine wqv (u := .slice (some ⟨ql, ol, none⟩) Ls.length cl) (by kernel_rfl) (fun v hv => by kernel_rfl) ?_
          simp only [Act.put, List.setIfInBounds_toArray, List.set_cons_zero, List.set_cons_succ]
          refine wqv (u := .int .i64 (i : Int)) (by kernel_rfl) (fun v hv => by kernel_rfl) ?_
          simp only [Act.put, List.setIfInBounds_toArray, List.set_cons_zero, List.set_cons_succ]
          refine wqv (u := .pointer (some ⟨ql, ol + i * 4, none⟩)) (by kernel_rfl) (fun v hv => by go_simp) ?_
          simp only [Act.put, List.setIfInBounds_toArray, List.set_cons_zero, List.set_cons_succ]
          refine wqv (u := x.val) (by kernel_rfl) (fun v hv => by obtain ⟨y0, y1, y2, y3⟩ := KX.out v hv; go_simp; rfl) ?_
          simp only [Act.put, List.setIfInBounds_toArray, List.set_cons_zero, List.set_cons_succ]
          refine wqe (by kernel_rfl) rfl x.val x.val (.bool true) (by kernel_rfl) (by kernel_rfl) (fun v => (eqlAk x x _ _ v).trans (by simp)) ?_
          simp only [Act.put, List.setIfInBounds_toArray, List.set_cons_zero, List.set_cons_succ]
          refine wqv (u := .bool true) (by kernel_rfl) (fun v hv => by kernel_rfl) ?_
          simp only [Act.put, List.setIfInBounds_toArray, List.set_cons_zero, List.set_cons_succ]
          refine wqv (u := .bool true) (by kernel_rfl) (fun v hv => by kernel_rfl) ?_
          simp only [Act.put, List.setIfInBounds_toArray, List.set_cons_zero, List.set_cons_succ]
          refine wqv (u := .bool false) (by kernel_rfl) (fun v hv => by kernel_rfl) ?_
          simp only [Act.put, List.setIfInBounds_toArray, List.set_cons_zero, List.set_cons_succ]
          refine wqv (u := .bool true) (by kernel_rfl) (fun v hv => by go_simp) ?_
          simp only [Act.put, List.setIfInBounds_toArray, List.set_cons_zero, List.set_cons_succ]
          refine wqv (u := .bool true) (by kernel_rfl) (fun v hv => by kernel_rfl) ?_
          simp only [Act.put, List.setIfInBounds_toArray, List.set_cons_zero, List.set_cons_succ]
          refine wqnil (fun v hv => ?_)
          have BV := hide hv
          clear hv KX KA HE hb10
          go_wp2
          go_round
          case rel => exact ⟨i + 1, k + 1, by go_num, by omega, by go_num, hkn, BV.out⟩
          case measure => simp [intOf]; omega
      · have ho : ovr D x.n x.h x.l = false := by rw [OV.out, decide_eq_false (fun e => hn0 e.1), Bool.false_and]
        clear OV
        refine region_q9 (C := fun v => Below w2.heap.size w2 v) (by kernel_rfl) (by kernel_rfl) hbl.drew ?_
        refine wqv (u := .int .i64 x.n) (by kernel_rfl) (fun v hv => by kernel_rfl) ?_
        simp only [Act.put, List.setIfInBounds_toArray, List.set_cons_zero, List.set_cons_succ]
        refine wqv (u := .bool false) (by kernel_rfl) (fun v hv => by go_simp) ?_
        simp only [Act.put, List.setIfInBounds_toArray, List.set_cons_zero, List.set_cons_succ]
        refine wqv (u := .bool false) (by kernel_rfl) (fun v hv => by kernel_rfl) ?_
        simp only [Act.put, List.setIfInBounds_toArray, List.set_cons_zero, List.set_cons_succ]
        refine wqskip (by kernel_rfl) ?_
        simp only [Act.put, List.setIfInBounds_toArray, List.set_cons_zero, List.set_cons_succ]
        refine wqskip (by kernel_rfl) ?_
        simp only [Act.put, List.setIfInBounds_toArray, List.set_cons_zero, List.set_cons_succ]
        refine wqskip (by kernel_rfl) ?_
        simp only [Act.put, List.setIfInBounds_toArray, List.set_cons_zero, List.set_cons_succ]
        refine wqskip (by kernel_rfl) ?_
        simp only [Act.put, List.setIfInBounds_toArray, List.set_cons_zero, List.set_cons_succ]
        refine wqv (u := .bool false) (by kernel_rfl) (fun v hv => by kernel_rfl) ?_
        simp only [Act.put, List.setIfInBounds_toArray, List.set_cons_zero, List.set_cons_succ]
        refine wqv (u := .bool false) (by kernel_rfl) (fun v hv => by kernel_rfl) ?_
        simp only [Act.put, List.setIfInBounds_toArray, List.set_cons_zero, List.set_cons_succ]
        refine wqskip (by kernel_rfl) ?_
        simp only [Act.put, List.setIfInBounds_toArray, List.set_cons_zero, List.set_cons_succ]
        refine wqskip (by kernel_rfl) ?_
        simp only [Act.put, List.setIfInBounds_toArray, List.set_cons_zero, List.set_cons_succ]
        refine wqskip (by kernel_rfl) ?_
        simp only [Act.put, List.setIfInBounds_toArray, List.set_cons_zero, List.set_cons_succ]
        refine wqskip (by kernel_rfl) ?_
        simp only [Act.put, List.setIfInBounds_toArray, List.set_cons_zero, List.set_cons_succ]
        refine wqskip (by kernel_rfl) ?_
        simp only [Act.put, List.setIfInBounds_toArray, List.set_cons_zero, List.set_cons_succ]
        refine wqskip (by kernel_rfl) ?_
        simp only [Act.put, List.setIfInBounds_toArray, List.set_cons_zero, List.set_cons_succ]
        refine wqskip (by kernel_rfl) ?_
        simp only [Act.put, List.setIfInBounds_toArray, List.set_cons_zero, List.set_cons_succ]
        refine wqskip (by kernel_rfl) ?_
        simp only [Act.put, List.setIfInBounds_toArray, List.set_cons_zero, List.set_cons_succ]
        refine wqskip (by kernel_rfl) ?_
        simp only [Act.put, List.setIfInBounds_toArray, List.set_cons_zero, List.set_cons_succ]
        refine wqskip (by kernel_rfl) ?_
        simp only [Act.put, List.setIfInBounds_toArray, List.set_cons_zero, List.set_cons_succ]
        refine wqv (u := .bool false) (by kernel_rfl) (fun v hv => by kernel_rfl) ?_
        simp only [Act.put, List.setIfInBounds_toArray, List.set_cons_zero, List.set_cons_succ]
        refine wqv (u := .bool false) (by kernel_rfl) (fun v hv => by kernel_rfl) ?_
        simp only [Act.put, List.setIfInBounds_toArray, List.set_cons_zero, List.set_cons_succ]
        refine wqnil (fun v hv => ?_)
        have hb10 := hide hv
        clear hv
        have hAk : As[k]? = some x := by rw [HAs.out, hk.out]; exact hat.out ho
        obtain ⟨qa, oa, rfl, hqa, u0, u1, u2, u3⟩ := SA.out.AkA hAk
        have hkA : k < As.length := (List.getElem?_eq_some_iff.1 hAk).1
        have KA : Hid (∀ v, Below w2.heap.size w2 v → v.cell? ⟨qa, oa + k * 4, none⟩ = some (.int .i64 x.n) ∧ v.cell? ⟨qa, oa + k * 4 + 1, none⟩ = some (.int .u64 x.h) ∧ v.cell? ⟨qa, oa + k * 4 + 2, none⟩ = some (.int .u64 x.l) ∧ v.cell? ⟨qa, oa + k * 4 + 3, none⟩ = some (.int .i64 x.p)) := fun v hv =>
          ⟨(hv.cell (p := ⟨qa, _, none⟩) hqa).trans u0, (hv.cell (p := ⟨qa, _, none⟩) hqa).trans u1, (hv.cell (p := ⟨qa, _, none⟩) hqa).trans u2, (hv.cell (p := ⟨qa, _, none⟩) hqa).trans u3⟩
        have HE : Hid (decide (x = x) = true) := decide_eq_true rfl
        have hkI : (k : Int) < (As.length : Int) := by omega
        have hkn : Hid (k + 1 = (Ak.prn (Ls.take (i + 1)) D).length) := by
          show _ = _
          rw [hstep.out, List.length_append, ← hk.out, ho]
          rfl
        clear hAk u0 u1 u2 u3 hk hstep hat ho
        go_wp2_with fail
        refine region_q9 (C := fun v => Below w2.heap.size w2 v) (by kernel_rfl) (by kernel_rfl) hb10.out.drew ?_
        refine wqv (u := .int .i64 (k : Int)) (by kernel_rfl) (fun v hv => by kernel_rfl) ?_
        simp only [Act.put, List.setIfInBounds_toArray, List.set_cons_zero, List.set_cons_succ]
        refine wqv (u := .slice (some ⟨qa, oa, none⟩) As.length ca) (by kernel_rfl) (fun v hv => by kernel_rfl) ?_
        simp only [Act.put, List.setIfInBounds_toArray, List.set_cons_zero, List.set_cons_succ]
        refine wqv (u := .int .i64 (As.length : Int)) (by kernel_rfl) (fun v hv => by go_simp) ?_
        simp only [Act.put, List.setIfInBounds_toArray, List.set_cons_zero, List.set_cons_succ]
        refine wqv (u := .bool true) (by kernel_rfl) (fun v hv => by go_simp) ?_
        simp only [Act.put, List.setIfInBounds_toArray, List.set_cons_zero, List.set_cons_succ]
        refine wqv (u := .bool true) (by kernel_rfl) (fun v hv => by kernel_rfl) ?_
        simp only [Act.put, List.setIfInBounds_toArray, List.set_cons_zero, List.set_cons_succ]
        refine wqv (u := .slice (some ⟨qa, oa, none⟩) As.length ca) (by kernel_rfl) (fun v hv => by kernel_rfl) ?_
        simp only [Act.put, List.setIfInBounds_toArray, List.set_cons_zero, List.set_cons_succ]
        refine wqv (u := .int .i64 (k : Int)) (by kernel_rfl) (fun v hv => by kernel_rfl) ?_
        simp only [Act.put, List.setIfInBounds_toArray, List.set_cons_zero, List.set_cons_succ]
        refine wqv (u := .pointer (some ⟨qa, oa + k * 4, none⟩)) (by kernel_rfl) (fun v hv => by go_simp) ?_
        simp only [Act.put, List.setIfInBounds_toArray, List.set_cons_zero, List.set_cons_succ]
        refine wqv (u := x.val) (by kernel_rfl) (fun v hv => by obtain ⟨y0, y1, y2, y3⟩ := KA.out v hv; go_simp; rfl) ?_
        simp only [Act.put, List.setIfInBounds_toArray, List.set_cons_zero, List.set_cons_succ]
        refine wqv (u := .slice (some ⟨ql, ol, none⟩) Ls.length cl) (by kernel_rfl) (fun v hv => by kernel_rfl) ?_
        simp only [Act.put, List.setIfInBounds_toArray, List.set_cons_zero, List.set_cons_succ]
        refine wqv (u := .int .i64 (i : Int)) (by kernel_rfl) (fun v hv => by kernel_rfl) ?_
        simp only [Act.put, List.setIfInBounds_toArray, List.set_cons_zero, List.set_cons_succ]
        refine wqv (u := .pointer (some ⟨ql, ol + i * 4, none⟩)) (by kernel_rfl) (fun v hv => by go_simp) ?_
        simp only [Act.put, List.setIfInBounds_toArray, List.set_cons_zero, List.set_cons_succ]
        refine wqv (u := x.val) (by kernel_rfl) (fun v hv => by obtain ⟨y0, y1, y2, y3⟩ := KX.out v hv; go_simp; rfl) ?_
        simp only [Act.put, List.setIfInBounds_toArray, List.set_cons_zero, List.set_cons_succ]
        refine wqe (by kernel_rfl) rfl x.val x.val (.bool true) (by kernel_rfl) (by kernel_rfl) (fun v => (eqlAk x x _ _ v).trans (by simp)) ?_
        simp only [Act.put, List.setIfInBounds_toArray, List.set_cons_zero, List.set_cons_succ]
        refine wqv (u := .bool true) (by kernel_rfl) (fun v hv => by kernel_rfl) ?_
        simp only [Act.put, List.setIfInBounds_toArray, List.set_cons_zero, List.set_cons_succ]
        refine wqv (u := .bool true) (by kernel_rfl) (fun v hv => by kernel_rfl) ?_
        simp only [Act.put, List.setIfInBounds_toArray, List.set_cons_zero, List.set_cons_succ]
        refine wqv (u := .bool false) (by kernel_rfl) (fun v hv => by kernel_rfl) ?_
        simp only [Act.put, List.setIfInBounds_toArray, List.set_cons_zero, List.set_cons_succ]
        refine wqv (u := .bool true) (by kernel_rfl) (fun v hv => by go_simp) ?_
        simp only [Act.put, List.setIfInBounds_toArray, List.set_cons_zero, List.set_cons_succ]
        refine wqv (u := .bool true) (by kernel_rfl) (fun v hv => by kernel_rfl) ?_
        simp only [Act.put, List.setIfInBounds_toArray, List.set_cons_zero, List.set_cons_succ]
        refine wqnil (fun v hv => ?_)
        have BV := hide hv
        clear hv KX KA HE hb10
        go_wp2
        go_round
        case rel => exact ⟨i + 1, k + 1, by go_num, by omega, by go_num, hkn, BV.out⟩
        case measure => simp [intOf]; omega
    · obtain rfl : i = Ls.length := by omega
      have hkA : k = As.length := by rw [hk.out, List.take_length, ← HAs.out]
      subst hkA
      clear hk
      go_wp2_with (at_make; go_must (refine makeYsG kD _ (by kernel_rfl) (.tmp 86) rfl nv rfl (by unfold maxLen; omega) (by show nv * 16 ≤ _; omega) ?zk1))
      intro w3 o3 b3
      have z3 := b3.size
      have W3 := hide (hbl.trans (b3.mono hsz))
      have c3 := hide (Ak.Prune_any Ls (List.replicate nv (0, 0)) al _ Ls.length cl nv nv w3 (SL.out.later W3.out) (o3.sl' kD) (by have := hllen.out; omega))
      rw [Ak.prn_zero Ls nv HF.out] at c3
      clear b3 o3
      go_wp2_with fail
      refine c3.out.mono ?_
      rintro e w4 ⟨v4, rfl, o4, b4⟩
      obtain ⟨a4, c4', rfl, s4, _⟩ := o4.sl kAkA
      have W4 := hide (W3.out.trans (b4.mono W3.out.size))
      have d4 := hide (sameacks_any Ls a4 al Ls.length c4' cl w4 s4 (SL.out.later W4.out))
      clear c3 o4 s4 b4
      dsimp only
      go_wp2_with fail
      refine d4.out.mono ?_
      rintro e w5 ⟨rfl, k5, rfl⟩
      have W5 := hide (below_drewN W4.out k5)
      have c5 := hide (Ak.Prune_any As D aa av As.length ca nv cv (w4.drewN k5) (SA.out.later W5.out) (HD2.out.later W5.out) (by have := hllen.out; have h2 := hALn.out; omega))
      have e5 : Ak.prn As D = As := by rw [HAs.out]; exact Ak.prn_twice Ls D
      rw [e5] at c5
      clear d4 e5
      dsimp only
      go_wp2_with fail
      refine c5.out.mono ?_
      rintro e w6 ⟨v6, rfl, o6, b6⟩
      obtain ⟨a6, c6, rfl, s6, _⟩ := o6.sl kAkA
      have W6 := hide (W5.out.trans (b6.mono W5.out.size))
      have d6 := hide (sameacks_any As a6 aa As.length c6 ca w6 s6 (SA.out.later W6.out))
      clear c5 o6 s6 b6 W5 W4 W3
      dsimp only
      go_wp2_with fail
      refine d6.out.mono ?_
      rintro e w7 ⟨rfl, k7, rfl⟩
      have W7 := hide (below_drewN W6.out k7)
      clear d6 W6 hbl hsz z3
      dsimp only
      go_wp2_with fail
      go_loopw [14, 13] (fun i m wr => ∃ (t : Nat) (Bs : List (Int × Int)), i = .int .i64 (t : Int) ∧ t ≤ max nv nw ∧ Hid (OwnY yD w2.heap.size wr m Bs) ∧ Hid (Bs = (List.range t).map (bth D E)) ∧ Below w2.heap.size w2 wr) (fun i _ _ => max nv nw - (intOf i).toNat)
      case atStart => exact ⟨0, [], rfl, Nat.zero_le _, OwnY.nil _ _ _, rfl, W7.out⟩
      case round =>
        clear W7
        obtain ⟨t, Bs, rfl, ht, hB, hBs, hbl⟩ := hrel
        have hsz := hbl.size
        have hBl : Hid (Bs.length = t) := by show _ = _; rw [hBs.out]; simp
        by_cases hv1 : t < nv
        · have hvI : (t : Int) < (nv : Int) := by omega
          have hgd : D[t]? = some (D[t]'(by rw [ND.out]; exact hv1)) := List.getElem?_eq_getElem _
          obtain ⟨qv, ov, rfl, hqv, d0, d1⟩ := (HD2.out.later hbl).dw hgd
          have hgD : Hid (D.getD t (0, 0) = (D[t]'(by rw [ND.out]; exact hv1))) := by show _ = _; rw [List.getD_eq_getElem?_getD, hgd]; rfl
          clear hgd
          generalize (D[t]'(by rw [ND.out]; exact hv1)) = d at *
          by_cases hw1 : t < nw
          · have hge : E[t]? = some (E[t]'(by rw [NE.out]; exact hw1)) := List.getElem?_eq_getElem _
            obtain ⟨qw, ow, rfl, hqw, e0, e1⟩ := (HE2.out.later hbl).dw hge
            have hgE : Hid (E.getD t (0, 0) = (E[t]'(by rw [NE.out]; exact hw1))) := by show _ = _; rw [List.getD_eq_getElem?_getD, hge]; rfl
            clear hge
            generalize (E[t]'(by rw [NE.out]; exact hw1)) = e at *
            have KD : Hid (∀ v, Below (wr.heap.size + 1) (wr.alloc (.cells #[.int .u64 d.1, .int .u64 d.2] 27)) v → (v.cell? ⟨wr.heap.size, 0, none⟩ = some (.int .u64 d.1) ∧ v.cell? ⟨wr.heap.size, 1, none⟩ = some (.int .u64 d.2)) ∧ (v.cell? ⟨qw, ow + t * 2, none⟩ = some (.int .u64 e.1) ∧ v.cell? ⟨qw, ow + t * 2 + 1, none⟩ = some (.int .u64 e.2))) := fun v hv =>
              ⟨⟨(hv.cell (p := ⟨wr.heap.size, 0, none⟩) (by simp)).trans (by simp), (hv.cell (p := ⟨wr.heap.size, 1, none⟩) (by simp)).trans (by simp)⟩, ⟨((((Below.refl _ wr).alloc (Nat.le_refl _) _).trans (hv.mono (Nat.le_succ _))).cell (p := ⟨qw, _, none⟩) hqw).trans e0, ((((Below.refl _ wr).alloc (Nat.le_refl _) _).trans (hv.mono (Nat.le_succ _))).cell (p := ⟨qw, _, none⟩) hqw).trans e1⟩⟩
            obtain ⟨O, hOe⟩ : ∃ O, O = decide (d.1 < e.1 ∨ (d.1 = e.1 ∧ d.2 < e.2)) := ⟨_, rfl⟩
            have CB0 := fun W => below8_any d.1 d.2 e.1 e.2 W
            rw [← hOe] at CB0
            have CB := hide CB0
            have HOE := hide hOe
            have KZ : Hid (∀ v, Below (wr.heap.size + 1) (wr.alloc (.cells #[.int .u64 d.1, .int .u64 d.2] 27)) v → wr.heap.size + 1 ≤ v.heap.size) := fun v hv => by have := hv.size; simpa using this
            clear CB0 hOe e0 e1
            have hwI : (t : Int) < (nw : Int) := by omega
            go_wp2_with fail
            refine region_q9 (C := fun v => Below (wr.heap.size + 1) (wr.alloc (.cells #[.int .u64 d.1, .int .u64 d.2] 27)) v) (by kernel_rfl) (by kernel_rfl) (Below.refl _ _).drew ?_
            refine wqv (u := .int .i64 (t : Int)) (by kernel_rfl) (fun v hv => by kernel_rfl) ?_
            simp only [Act.put, List.setIfInBounds_toArray, List.set_cons_zero, List.set_cons_succ]
            refine wqv (u := .slice (some ⟨qw, ow, none⟩) nw cw) (by kernel_rfl) (fun v hv => by kernel_rfl) ?_
            simp only [Act.put, List.setIfInBounds_toArray, List.set_cons_zero, List.set_cons_succ]
            refine wqv (u := .int .i64 (nw : Int)) (by kernel_rfl) (fun v hv => by go_simp) ?_
            simp only [Act.put, List.setIfInBounds_toArray, List.set_cons_zero, List.set_cons_succ]
            refine wqv (u := .bool true) (by kernel_rfl) (fun v hv => by go_simp) ?_
            simp only [Act.put, List.setIfInBounds_toArray, List.set_cons_zero, List.set_cons_succ]
            refine wqv (u := .bool true) (by kernel_rfl) (fun v hv => by kernel_rfl) ?_
            simp only [Act.put, List.setIfInBounds_toArray, List.set_cons_zero, List.set_cons_succ]
            refine wqv (u := .agg #[.int .u64 d.1, .int .u64 d.2]) (by kernel_rfl) (fun v hv => by obtain ⟨⟨y0, y1⟩, _⟩ := KD.out v hv; go_simp) ?_
            simp only [Act.put, List.setIfInBounds_toArray, List.set_cons_zero, List.set_cons_succ]
            refine wqv (u := .slice (some ⟨qw, ow, none⟩) nw cw) (by kernel_rfl) (fun v hv => by kernel_rfl) ?_
            simp only [Act.put, List.setIfInBounds_toArray, List.set_cons_zero, List.set_cons_succ]
            refine wqv (u := .int .i64 (t : Int)) (by kernel_rfl) (fun v hv => by kernel_rfl) ?_
            simp only [Act.put, List.setIfInBounds_toArray, List.set_cons_zero, List.set_cons_succ]
            refine wqv (u := .pointer (some ⟨qw, ow + t * 2, none⟩)) (by kernel_rfl) (fun v hv => by go_simp) ?_
            simp only [Act.put, List.setIfInBounds_toArray, List.set_cons_zero, List.set_cons_succ]
            refine wqv (u := .agg #[.int .u64 e.1, .int .u64 e.2]) (by kernel_rfl) (fun v hv => by obtain ⟨_, ⟨y0, y1⟩⟩ := KD.out v hv; go_simp) ?_
            simp only [Act.put, List.setIfInBounds_toArray, List.set_cons_zero, List.set_cons_succ]
            refine wqc (fid := 30) (args := #[.agg #[.int .u64 d.1, .int .u64 d.2], .agg #[.int .u64 e.1, .int .u64 e.2]]) (u := .bool O) (by kernel_rfl) (fun v => by kernel_rfl) (fun v hv => (CB.out v).mono fun e w' h => ⟨h.1, hv.trans (h.2.mono (KZ.out v hv))⟩) ?_
            simp only [Act.put, List.setIfInBounds_toArray, List.set_cons_zero, List.set_cons_succ]
            refine wqv (u := .bool O) (by kernel_rfl) (fun v hv => by kernel_rfl) ?_
            simp only [Act.put, List.setIfInBounds_toArray, List.set_cons_zero, List.set_cons_succ]
            refine wqnil (fun v hv => ?_)
            have KW0 : Below wr.heap.size wr v := ((Below.refl _ wr).alloc (Nat.le_refl _) _).trans (hv.mono (Nat.le_succ _))
            obtain ⟨⟨y0, y1⟩, ⟨u0, u1⟩⟩ := KD.out v hv
            have f0 : v.frozen? ⟨wr.heap.size, 0, none⟩ = false := (hv.frozen (p := ⟨wr.heap.size, 0, none⟩) (by simp)).trans (by simp)
            have f1 : v.frozen? ⟨wr.heap.size, 1, none⟩ = false := (hv.frozen (p := ⟨wr.heap.size, 1, none⟩) (by simp)).trans (by simp)
            clear hv KD CB KZ
            cases O with
            | true =>
              have BX : Below wr.heap.size wr ((v.setCell ⟨wr.heap.size, 0, none⟩ (.int .u64 e.1)).setCell ⟨wr.heap.size, 1, none⟩ (.int .u64 e.2)) := by
                repeat (first | exact KW0 | refine Below.setCell ?_ (by simp) _)
              have O7 := hide ((hB.out.grow BX).alloc (.cells #[.int .u64 e.1, .int .u64 e.2] 27))
              have zX := BX.size
              have BY := hide ((hbl.trans (BX.mono hsz)).alloc (by have := hbl.size; omega) (.cells #[.int .u64 e.1, .int .u64 e.2] 27))
              have SB : Hid (SlY yD (((v.setCell ⟨wr.heap.size, 0, none⟩ (.int .u64 e.1)).setCell ⟨wr.heap.size, 1, none⟩ (.int .u64 e.2)).alloc (.cells #[.int .u64 e.1, .int .u64 e.2] 27)) (some ⟨v.heap.size, 0, none⟩) 1 1 [e]) := by
                show SlY _ _ _ _ _ _
                have hzV : ((v.setCell ⟨wr.heap.size, 0, none⟩ (.int .u64 e.1)).setCell ⟨wr.heap.size, 1, none⟩ (.int .u64 e.2)).heap.size = v.heap.size := by simp
                rw [← hzV]
                exact sl_box (Y := yD) ((v.setCell ⟨wr.heap.size, 0, none⟩ (.int .u64 e.1)).setCell ⟨wr.heap.size, 1, none⟩ (.int .u64 e.2)) e 27
              have hbn : Hid (Bs ++ [e] = (List.range (t + 1)).map (bth D E)) := by
                show _ = _
                rw [List.range_succ, List.map_append, ← hBs.out, List.map_cons, List.map_nil]
                rw [bth_len, hgE.out, hgD.out, if_pos ⟨by rw [NE.out]; exact hw1, of_decide_eq_true HOE.out.symm⟩]
              clear BX
              go_wp2_with (at_builtin; go_must (refine appY kD _ rfl (.tmp 138) (.tmp 140) rfl w2.heap.size Bs _ rfl (some ⟨_, 0, none⟩) 1 1 rfl [e] SB.out O7.out (by have := BY.out.size; omega) (by have := hBl.out; unfold maxLen; omega) (by have := hBl.out; show (Bs.length + 1) * 16 ≤ _; omega) ?zl2))
              intro v8 w8 o8 g8 _
              have O8 := hide o8
              have B8 := hide (O7.out.grown BY.out g8 (by have := BY.out.size; omega))
              clear o8 g8 O7 SB BY
              go_wp2
              go_round
              case rel => exact ⟨t + 1, _, by go_num, by omega, O8, hbn, B8.out⟩
              case measure => simp [intOf]; omega
            | false =>
              have BX : Below wr.heap.size wr v := by
                repeat (first | exact KW0 | refine Below.setCell ?_ (by simp) _)
              have O7 := hide ((hB.out.grow BX).alloc (.cells #[.int .u64 d.1, .int .u64 d.2] 27))
              have zX := BX.size
              have BY := hide ((hbl.trans (BX.mono hsz)).alloc (by have := hbl.size; omega) (.cells #[.int .u64 d.1, .int .u64 d.2] 27))
              have SB := hide (sl_box (Y := yD) v d 27)
              have hbn : Hid (Bs ++ [d] = (List.range (t + 1)).map (bth D E)) := by
                show _ = _
                rw [List.range_succ, List.map_append, ← hBs.out, List.map_cons, List.map_nil]
                rw [bth_len, hgE.out, hgD.out, if_neg (fun h => of_decide_eq_false HOE.out.symm h.2)]
              clear BX
              go_wp2_with (at_builtin; go_must (refine appY kD _ rfl (.tmp 138) (.tmp 140) rfl w2.heap.size Bs _ rfl (some ⟨_, 0, none⟩) 1 1 rfl [d] SB.out O7.out (by have := BY.out.size; omega) (by have := hBl.out; unfold maxLen; omega) (by have := hBl.out; show (Bs.length + 1) * 16 ≤ _; omega) ?zl3))
              intro v8 w8 o8 g8 _
              have O8 := hide o8
              have B8 := hide (O7.out.grown BY.out g8 (by have := BY.out.size; omega))
              clear o8 g8 O7 SB BY
              go_wp2
              go_round
              case rel => exact ⟨t + 1, _, by go_num, by omega, O8, hbn, B8.out⟩
              case measure => simp [intOf]; omega
          · have hwI : ¬ ((t : Int) < (nw : Int)) := by omega
            go_wp2_with fail
            refine region_q9 (C := fun v => Below (wr.heap.size + 1) (wr.alloc (.cells #[.int .u64 d.1, .int .u64 d.2] 27)) v) (by kernel_rfl) (by kernel_rfl) (Below.refl _ _).drew ?_
            refine wqv (u := .int .i64 (t : Int)) (by kernel_rfl) (fun v hv => by kernel_rfl) ?_
            simp only [Act.put, List.setIfInBounds_toArray, List.set_cons_zero, List.set_cons_succ]
            refine wqv (u := .slice aw nw cw) (by kernel_rfl) (fun v hv => by kernel_rfl) ?_
            simp only [Act.put, List.setIfInBounds_toArray, List.set_cons_zero, List.set_cons_succ]
            refine wqv (u := .int .i64 (nw : Int)) (by kernel_rfl) (fun v hv => by go_simp) ?_
            simp only [Act.put, List.setIfInBounds_toArray, List.set_cons_zero, List.set_cons_succ]
            refine wqv (u := .bool false) (by kernel_rfl) (fun v hv => by go_simp) ?_
            simp only [Act.put, List.setIfInBounds_toArray, List.set_cons_zero, List.set_cons_succ]
            refine wqv (u := .bool false) (by kernel_rfl) (fun v hv => by kernel_rfl) ?_
            simp only [Act.put, List.setIfInBounds_toArray, List.set_cons_zero, List.set_cons_succ]
            refine wqskip (by kernel_rfl) ?_
            simp only [Act.put, List.setIfInBounds_toArray, List.set_cons_zero, List.set_cons_succ]
            refine wqskip (by kernel_rfl) ?_
            simp only [Act.put, List.setIfInBounds_toArray, List.set_cons_zero, List.set_cons_succ]
            refine wqskip (by kernel_rfl) ?_
            simp only [Act.put, List.setIfInBounds_toArray, List.set_cons_zero, List.set_cons_succ]
            refine wqskip (by kernel_rfl) ?_
            simp only [Act.put, List.setIfInBounds_toArray, List.set_cons_zero, List.set_cons_succ]
            refine wqskip (by kernel_rfl) ?_
            simp only [Act.put, List.setIfInBounds_toArray, List.set_cons_zero, List.set_cons_succ]
            refine wqskip (by kernel_rfl) ?_
            simp only [Act.put, List.setIfInBounds_toArray, List.set_cons_zero, List.set_cons_succ]
            refine wqv (u := .bool false) (by kernel_rfl) (fun v hv => by kernel_rfl) ?_
            simp only [Act.put, List.setIfInBounds_toArray, List.set_cons_zero, List.set_cons_succ]
            refine wqnil (fun v hv => ?_)
            have KW0 : Below wr.heap.size wr v := ((Below.refl _ wr).alloc (Nat.le_refl _) _).trans (hv.mono (Nat.le_succ _))
            have y0 : v.cell? ⟨wr.heap.size, 0, none⟩ = some (.int .u64 d.1) := (hv.cell (p := ⟨wr.heap.size, 0, none⟩) (by simp)).trans (by simp)
            have y1 : v.cell? ⟨wr.heap.size, 1, none⟩ = some (.int .u64 d.2) := (hv.cell (p := ⟨wr.heap.size, 1, none⟩) (by simp)).trans (by simp)
            clear hv
            have BX : Below wr.heap.size wr v := by
              repeat (first | exact KW0 | refine Below.setCell ?_ (by simp) _)
            have O7 := hide ((hB.out.grow BX).alloc (.cells #[.int .u64 d.1, .int .u64 d.2] 27))
            have zX := BX.size
            have BY := hide ((hbl.trans (BX.mono hsz)).alloc (by have := hbl.size; omega) (.cells #[.int .u64 d.1, .int .u64 d.2] 27))
            have SB := hide (sl_box (Y := yD) v d 27)
            have hbn : Hid (Bs ++ [d] = (List.range (t + 1)).map (bth D E)) := by
              show _ = _
              rw [List.range_succ, List.map_append, ← hBs.out, List.map_cons, List.map_nil]
              rw [bth_len, hgD.out, if_neg (fun h => hw1 (by rw [← NE.out]; exact h.1))]
            clear BX
            go_wp2_with (at_builtin; go_must (refine appY kD _ rfl (.tmp 138) (.tmp 140) rfl w2.heap.size Bs _ rfl (some ⟨_, 0, none⟩) 1 1 rfl [d] SB.out O7.out (by have := BY.out.size; omega) (by have := hBl.out; unfold maxLen; omega) (by have := hBl.out; show (Bs.length + 1) * 16 ≤ _; omega) ?zl4))
            intro v8 w8 o8 g8 _
            have O8 := hide o8
            have B8 := hide (O7.out.grown BY.out g8 (by have := BY.out.size; omega))
            clear o8 g8 O7 SB BY
            go_wp2
            go_round
            case rel => exact ⟨t + 1, _, by go_num, by omega, O8, hbn, B8.out⟩
            case measure => simp [intOf]; omega
        · have hvI : ¬ ((t : Int) < (nv : Int)) := by omega
          have hgD : Hid (D.getD t (0, 0) = (0, 0)) := by show _ = _; rw [List.getD_eq_getElem?_getD, List.getElem?_eq_none (by rw [ND.out]; omega)]; rfl
          by_cases hw1 : t < nw
          · have hge : E[t]? = some (E[t]'(by rw [NE.out]; exact hw1)) := List.getElem?_eq_getElem _
            obtain ⟨qw, ow, rfl, hqw, e0, e1⟩ := (HE2.out.later hbl).dw hge
            have hgE : Hid (E.getD t (0, 0) = (E[t]'(by rw [NE.out]; exact hw1))) := by show _ = _; rw [List.getD_eq_getElem?_getD, hge]; rfl
            clear hge
            generalize (E[t]'(by rw [NE.out]; exact hw1)) = e at *
            have KD : Hid (∀ v, Below (wr.heap.size + 1) (wr.alloc (.cells #[.int .u64 0, .int .u64 0] 27)) v → (v.cell? ⟨wr.heap.size, 0, none⟩ = some (.int .u64 0) ∧ v.cell? ⟨wr.heap.size, 1, none⟩ = some (.int .u64 0)) ∧ (v.cell? ⟨qw, ow + t * 2, none⟩ = some (.int .u64 e.1) ∧ v.cell? ⟨qw, ow + t * 2 + 1, none⟩ = some (.int .u64 e.2))) := fun v hv =>
              ⟨⟨(hv.cell (p := ⟨wr.heap.size, 0, none⟩) (by simp)).trans (by simp), (hv.cell (p := ⟨wr.heap.size, 1, none⟩) (by simp)).trans (by simp)⟩, ⟨((((Below.refl _ wr).alloc (Nat.le_refl _) _).trans (hv.mono (Nat.le_succ _))).cell (p := ⟨qw, _, none⟩) hqw).trans e0, ((((Below.refl _ wr).alloc (Nat.le_refl _) _).trans (hv.mono (Nat.le_succ _))).cell (p := ⟨qw, _, none⟩) hqw).trans e1⟩⟩
            obtain ⟨O, hOe⟩ : ∃ O, O = decide (0 < e.1 ∨ (0 = e.1 ∧ 0 < e.2)) := ⟨_, rfl⟩
            have CB0 := fun W => below8_any 0 0 e.1 e.2 W
            rw [← hOe] at CB0
            have CB := hide CB0
            have HOE := hide hOe
            have KZ : Hid (∀ v, Below (wr.heap.size + 1) (wr.alloc (.cells #[.int .u64 0, .int .u64 0] 27)) v → wr.heap.size + 1 ≤ v.heap.size) := fun v hv => by have := hv.size; simpa using this
            clear CB0 hOe e0 e1
            have hwI : (t : Int) < (nw : Int) := by omega
            go_wp2_with fail
            refine region_q9 (C := fun v => Below (wr.heap.size + 1) (wr.alloc (.cells #[.int .u64 0, .int .u64 0] 27)) v) (by kernel_rfl) (by kernel_rfl) (Below.refl _ _).drew ?_
            refine wqv (u := .int .i64 (t : Int)) (by kernel_rfl) (fun v hv => by kernel_rfl) ?_
            simp only [Act.put, List.setIfInBounds_toArray, List.set_cons_zero, List.set_cons_succ]
            refine wqv (u := .slice (some ⟨qw, ow, none⟩) nw cw) (by kernel_rfl) (fun v hv => by kernel_rfl) ?_
            simp only [Act.put, List.setIfInBounds_toArray, List.set_cons_zero, List.set_cons_succ]
            refine wqv (u := .int .i64 (nw : Int)) (by kernel_rfl) (fun v hv => by go_simp) ?_
            simp only [Act.put, List.setIfInBounds_toArray, List.set_cons_zero, List.set_cons_succ]
            refine wqv (u := .bool true) (by kernel_rfl) (fun v hv => by go_simp) ?_
            simp only [Act.put, List.setIfInBounds_toArray, List.set_cons_zero, List.set_cons_succ]
            refine wqv (u := .bool true) (by kernel_rfl) (fun v hv => by kernel_rfl) ?_
            simp only [Act.put, List.setIfInBounds_toArray, List.set_cons_zero, List.set_cons_succ]
            refine wqv (u := .agg #[.int .u64 0, .int .u64 0]) (by kernel_rfl) (fun v hv => by obtain ⟨⟨y0, y1⟩, _⟩ := KD.out v hv; go_simp) ?_
            simp only [Act.put, List.setIfInBounds_toArray, List.set_cons_zero, List.set_cons_succ]
            refine wqv (u := .slice (some ⟨qw, ow, none⟩) nw cw) (by kernel_rfl) (fun v hv => by kernel_rfl) ?_
            simp only [Act.put, List.setIfInBounds_toArray, List.set_cons_zero, List.set_cons_succ]
            refine wqv (u := .int .i64 (t : Int)) (by kernel_rfl) (fun v hv => by kernel_rfl) ?_
            simp only [Act.put, List.setIfInBounds_toArray, List.set_cons_zero, List.set_cons_succ]
            refine wqv (u := .pointer (some ⟨qw, ow + t * 2, none⟩)) (by kernel_rfl) (fun v hv => by go_simp) ?_
            simp only [Act.put, List.setIfInBounds_toArray, List.set_cons_zero, List.set_cons_succ]
            refine wqv (u := .agg #[.int .u64 e.1, .int .u64 e.2]) (by kernel_rfl) (fun v hv => by obtain ⟨_, ⟨y0, y1⟩⟩ := KD.out v hv; go_simp) ?_
            simp only [Act.put, List.setIfInBounds_toArray, List.set_cons_zero, List.set_cons_succ]
            refine wqc (fid := 30) (args := #[.agg #[.int .u64 0, .int .u64 0], .agg #[.int .u64 e.1, .int .u64 e.2]]) (u := .bool O) (by kernel_rfl) (fun v => by kernel_rfl) (fun v hv => (CB.out v).mono fun e w' h => ⟨h.1, hv.trans (h.2.mono (KZ.out v hv))⟩) ?_
            simp only [Act.put, List.setIfInBounds_toArray, List.set_cons_zero, List.set_cons_succ]
            refine wqv (u := .bool O) (by kernel_rfl) (fun v hv => by kernel_rfl) ?_
            simp only [Act.put, List.setIfInBounds_toArray, List.set_cons_zero, List.set_cons_succ]
            refine wqnil (fun v hv => ?_)
            have KW0 : Below wr.heap.size wr v := ((Below.refl _ wr).alloc (Nat.le_refl _) _).trans (hv.mono (Nat.le_succ _))
            obtain ⟨⟨y0, y1⟩, ⟨u0, u1⟩⟩ := KD.out v hv
            have f0 : v.frozen? ⟨wr.heap.size, 0, none⟩ = false := (hv.frozen (p := ⟨wr.heap.size, 0, none⟩) (by simp)).trans (by simp)
            have f1 : v.frozen? ⟨wr.heap.size, 1, none⟩ = false := (hv.frozen (p := ⟨wr.heap.size, 1, none⟩) (by simp)).trans (by simp)
            clear hv KD CB KZ
            cases O with
            | true =>
              have BX : Below wr.heap.size wr ((v.setCell ⟨wr.heap.size, 0, none⟩ (.int .u64 e.1)).setCell ⟨wr.heap.size, 1, none⟩ (.int .u64 e.2)) := by
                repeat (first | exact KW0 | refine Below.setCell ?_ (by simp) _)
              have O7 := hide ((hB.out.grow BX).alloc (.cells #[.int .u64 e.1, .int .u64 e.2] 27))
              have zX := BX.size
              have BY := hide ((hbl.trans (BX.mono hsz)).alloc (by have := hbl.size; omega) (.cells #[.int .u64 e.1, .int .u64 e.2] 27))
              have SB : Hid (SlY yD (((v.setCell ⟨wr.heap.size, 0, none⟩ (.int .u64 e.1)).setCell ⟨wr.heap.size, 1, none⟩ (.int .u64 e.2)).alloc (.cells #[.int .u64 e.1, .int .u64 e.2] 27)) (some ⟨v.heap.size, 0, none⟩) 1 1 [e]) := by
                show SlY _ _ _ _ _ _
                have hzV : ((v.setCell ⟨wr.heap.size, 0, none⟩ (.int .u64 e.1)).setCell ⟨wr.heap.size, 1, none⟩ (.int .u64 e.2)).heap.size = v.heap.size := by simp
                rw [← hzV]
                exact sl_box (Y := yD) ((v.setCell ⟨wr.heap.size, 0, none⟩ (.int .u64 e.1)).setCell ⟨wr.heap.size, 1, none⟩ (.int .u64 e.2)) e 27
              have hbn : Hid (Bs ++ [e] = (List.range (t + 1)).map (bth D E)) := by
                show _ = _
                rw [List.range_succ, List.map_append, ← hBs.out, List.map_cons, List.map_nil]
                rw [bth_len, hgE.out, hgD.out, if_pos ⟨by rw [NE.out]; exact hw1, of_decide_eq_true HOE.out.symm⟩]
              clear BX
              go_wp2_with (at_builtin; go_must (refine appY kD _ rfl (.tmp 138) (.tmp 140) rfl w2.heap.size Bs _ rfl (some ⟨_, 0, none⟩) 1 1 rfl [e] SB.out O7.out (by have := BY.out.size; omega) (by have := hBl.out; unfold maxLen; omega) (by have := hBl.out; show (Bs.length + 1) * 16 ≤ _; omega) ?zl5))
              intro v8 w8 o8 g8 _
              have O8 := hide o8
              have B8 := hide (O7.out.grown BY.out g8 (by have := BY.out.size; omega))
              clear o8 g8 O7 SB BY
              go_wp2
              go_round
              case rel => exact ⟨t + 1, _, by go_num, by omega, O8, hbn, B8.out⟩
              case measure => simp [intOf]; omega
            | false =>
              have BX : Below wr.heap.size wr v := by
                repeat (first | exact KW0 | refine Below.setCell ?_ (by simp) _)
              have O7 := hide ((hB.out.grow BX).alloc (.cells #[.int .u64 ((0, 0) : Int × Int).1, .int .u64 ((0, 0) : Int × Int).2] 27))
              have zX := BX.size
              have BY := hide ((hbl.trans (BX.mono hsz)).alloc (by have := hbl.size; omega) (.cells #[.int .u64 ((0, 0) : Int × Int).1, .int .u64 ((0, 0) : Int × Int).2] 27))
              have SB := hide (sl_box (Y := yD) v ((0, 0) : Int × Int) 27)
              have hbn : Hid (Bs ++ [((0, 0) : Int × Int)] = (List.range (t + 1)).map (bth D E)) := by
                show _ = _
                rw [List.range_succ, List.map_append, ← hBs.out, List.map_cons, List.map_nil]
                rw [bth_len, hgE.out, hgD.out, if_neg (fun h => of_decide_eq_false HOE.out.symm h.2)]
              clear BX
              go_wp2_with (at_builtin; go_must (refine appY kD _ rfl (.tmp 138) (.tmp 140) rfl w2.heap.size Bs _ rfl (some ⟨_, 0, none⟩) 1 1 rfl [((0, 0) : Int × Int)] SB.out O7.out (by have := BY.out.size; omega) (by have := hBl.out; unfold maxLen; omega) (by have := hBl.out; show (Bs.length + 1) * 16 ≤ _; omega) ?zl6))
              intro v8 w8 o8 g8 _
              have O8 := hide o8
              have B8 := hide (O7.out.grown BY.out g8 (by have := BY.out.size; omega))
              clear o8 g8 O7 SB BY
              go_wp2
              go_round
              case rel => exact ⟨t + 1, _, by go_num, by omega, O8, hbn, B8.out⟩
              case measure => simp [intOf]; omega
          · have hwI : ¬ ((t : Int) < (nw : Int)) := by omega
            obtain rfl : t = max nv nw := by omega
            have hBe : Hid (Bs = (List.range (max D.length E.length)).map (bth D E)) := by show _ = _; rw [hBs.out, ND.out, NE.out]
            have OB := hB.out
            clear hB hBs
            obtain ⟨ab, cb, rfl, sb, _⟩ := OB.sl kD
            have hbc := sb.cap
            have hbm := sb.max
            unfold maxLen at hbm
            have c8 := hide (Ak.Prune_any As E aa aw As.length ca nw cw wr (SA.out.later hbl) (HE2.out.later hbl) (by have := hllen.out; have h2 := hALn.out; omega))
            have SB := hide sb
            clear sb OB
            go_wp2_with fail
            refine c8.out.mono ?_
            rintro e w8 ⟨v8, rfl, o8, b8⟩
            have W8 := hide (hbl.trans (b8.mono hsz))
            have z8 := b8.size
            have c9 := hide (Ak.Prune_any Ls Bs al ab Ls.length cl Bs.length cb w8 (SL.out.later W8.out) (SB.out.later b8) (by have := hllen.out; omega))
            have e9 : Ak.prn Ls Bs = Ak.prn As E := by rw [hBe.out, HAs.out]; exact (Ak.prn_both Ls D E HF.out).symm
            rw [e9] at c9
            clear c8 b8 e9 hBe
            dsimp only
            go_wp2_with fail
            refine c9.out.mono ?_
            rintro e w9 ⟨v9, rfl, o9, b9⟩
            have W9 := hide (W8.out.trans (b9.mono W8.out.size))
            obtain ⟨a8, c8', rfl, s8, _⟩ := (o8.grow b9).sl kAkA
            obtain ⟨a9, c9', rfl, s9, _⟩ := o9.sl kAkA
            have d9 := hide (sameacks_any (Ak.prn As E) a8 a9 (Ak.prn As E).length c8' c9' w9 s8 s9)
            clear c9 o8 o9 b9 s8 s9 SB W8
            dsimp only
            go_wp2_with fail
            refine d9.out.mono ?_
            rintro e w10 ⟨rfl, k9, rfl⟩
            have WA := hide (below_drewN W9.out k9)
            clear d9 W9 hbl hsz
            have CP : Hid (Ch (fun x => x ∈ As) As) := by
              show Ch _ _
              rw [HAs.out]
              exact CH.out.self List.filter_sublist
            have CL := hide (CH.out.self (List.Sublist.refl Ls))
            dsimp only
            go_wp2_with fail
            go_loopw [17, 16] (fun i m wr => ∃ (i' : Nat) (ag : Option Addr) (cg : Nat) (Gs : List Ak), i = .int .i64 (i' : Int) ∧ i' ≤ Ls.length ∧ m = .slice ag Gs.length cg ∧ Hid (SlY yAkA wr ag Gs.length cg Gs) ∧ Hid (Gs = Ak.puts As (Ls.take i')) ∧ Below w2.heap.size w2 wr) (fun i _ _ => Ls.length - (intOf i).toNat)
            case atStart => exact ⟨0, aa, ca, As, rfl, Nat.zero_le _, rfl, SA.out.later WA.out, rfl, WA.out⟩
            case round =>
              clear WA
              obtain ⟨i, ag, cg, Gs, rfl, hi, rfl, hG, hGs, hbl⟩ := hrel
              have hsz := hbl.size
              have hgc := hG.out.cap
              have hgm := hG.out.max
              unfold maxLen at hgm
              have hGl : Hid (Gs.length ≤ Ls.length) := by
                show _ ≤ _
                rw [hGs.out]
                refine (CP.out.puts (Ls.take i)).len_le CL.out (fun x hx => hx.elim (fun h => ?_) (fun h => List.mem_of_mem_take h))
                have h' := h
                rw [HAs.out] at h'
                exact Ak.prn_mem h'
              by_cases hil : i < Ls.length
              · have hg : Ls[i]? = some Ls[i] := List.getElem?_eq_getElem hil
                obtain ⟨ql, ol, rfl, hql, x0, x1, x2, x3⟩ := (SL.out.later hbl).AkA hg
                have hN : Hid (Ak.put Gs Ls[i] = Ak.puts As (Ls.take (i + 1))) := by
                  show _ = _
                  rw [List.take_add_one, hg, Option.toList_some, Ak.puts_snoc, ← hGs.out]
                clear hg hGs
                generalize Ls[i] = x at *
                have cp := hide (Ak.Put_any Gs x ag Gs.length cg wr hG.out (by have := hGl.out; have h2 := hllen.out; omega))
                unfold Ak.val at cp
                clear hG
                go_wp2_with fail
                refine cp.out.mono ?_
                rintro e w11 ⟨v11, rfl, o11, b11⟩
                obtain ⟨ag2, cg2, rfl, s11, _⟩ := o11.sl kAkA
                have S11 := hide s11
                have B11 := hide (hbl.trans (b11.mono hsz))
                clear o11 s11 b11 cp
                dsimp only
                go_wp2
                go_round
                case rel => exact ⟨i + 1, ag2, cg2, _, by go_num, by omega, rfl, S11, hN, B11.out⟩
                case measure => simp [intOf]; omega
              · obtain rfl : i = Ls.length := by omega
                have hGL : Gs = Ls := by
                  rw [hGs.out, List.take_length]
                  refine (CP.out.puts Ls).uniq CL.out (fun x => ⟨fun h => h.elim (fun h => ?_) id, .inr⟩)
                  have h' := h
                  rw [HAs.out] at h'
                  exact Ak.prn_mem h'
                clear hGs hGl
                subst hGL
                have e1 := hide (sameacks_any Gs ag al Gs.length cg cl wr hG.out (SL.out.later hbl))
                have e2 := hide (fun d => Ak.Prune_any Gs D ag av Gs.length cg nv cv (wr.drewN d) (hG.out.drewN d) ((HD2.out.later hbl).drewN d) (by have := hllen.out; omega))
                go_wp2_with fail
                refine e1.out.mono ?_
                rintro e w12 ⟨rfl, d12, rfl⟩
                have W12 := hide (below_drewN hbl d12)
                dsimp only
                go_wp2_with fail
                refine (e2.out d12).mono ?_
                rintro e w13 ⟨v13, rfl, o13, b13⟩
                have W13 := hide (W12.out.trans (b13.mono W12.out.size))
                have e13 : Ak.prn Gs D = As := HAs.out.symm
                rw [e13] at o13
                obtain ⟨a13, c13, rfl, s13, _⟩ := o13.sl kAkA
                have e3 := hide (sameacks_any As a13 aa As.length c13 ca w13 s13 (SA.out.later W13.out))
                clear o13 s13 b13 e1 e2 e13
                dsimp only
                go_wp2_with fail
                refine e3.out.mono ?_
                rintro e w14 ⟨rfl, d14, rfl⟩
                have BF := hide (below_drewN (B2.out.trans (W13.out.mono B2.out.size)) d14)
                dsimp only
                go_wp2
                go_ret
                exact ⟨rfl, BF.out⟩
theorem prunes_came (a0 av aw : Option Addr) (n c nv cv nw cw : Nat) (w : World) (h : CameAkW w a0 n c) (hD : CameVD w av nv cv) (hE : CameVD w aw nw cw) :
    Calls Try.prog 7 #[.slice a0 n c, .slice av nv cv, .slice aw nw cw] w fun e w' => e = .returned (.bool true) ∧ Below w.heap.size w w' := by
  obtain ⟨P, h1, h2, h3⟩ := h
  obtain ⟨D, d1, d2⟩ := hD
  obtain ⟨E, e1, e2⟩ := hE
  exact prunes_walk P D E a0 av aw n c nv cv nw cw w h1 h2 h3 d1 d2 e1 e2

end Go.Proofs.Ytnhonkgondljjaa
