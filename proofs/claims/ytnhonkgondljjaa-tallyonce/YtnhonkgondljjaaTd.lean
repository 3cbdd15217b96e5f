import Derived.Test.YtnhonkgondljjaaTf
import Derived.Test.YtnhonkgondljjaaTe
namespace Go.Proofs.Ytnhonkgondljjaa
open Go.RowKit Go.Maps
open Classical
set_option linter.unusedVariables false
set_option linter.unusedSimpArgs false

set_option maxRecDepth 100000 in
set_option maxHeartbeats 8000000 in
theorem once_walk (from_ : Int) (Vs : List Ak) (a : Option Addr) (n c : Nat) (w : World) (h : SlY yAkA w a n c Vs) (hm : n * 32 ≤ 140737488351232) :
    Calls Try.prog 5 #[.slice a n c, .int .i64 from_] w fun e w' => e = .returned (.bool true) ∧ Below w.heap.size w w' := by
  have hmx := h.max
  have hcp := h.cap
  unfold maxLen at hmx
  have H := hide h
  have HN := hide h.len
  clear h
  go_enter Try.func5, Try.ntmps5
  go_wp2_with fail
  refine (works8_any w).mono ?_
  rintro e w0 ⟨rfl, b0⟩
  have z0 := b0.size
  have cp := hide (putlaw_any Vs a n c w0 (H.out.later b0) (by omega))
  dsimp only
  go_wp2_with fail
  refine cp.out.mono ?_
  rintro e w1 ⟨al, cl, rfl, s1, b1⟩
  have z1 := b1.size
  have B1 := hide (b0.trans (b1.mono z0))
  have HV1 := hide (H.out.later B1.out)
  have hllen : Hid ((Ak.puts [] Vs).length ≤ n) := by
    show _ ≤ _
    have := Ak.puts_len [] Vs
    rw [HN.out, List.length_nil, Nat.zero_add] at this
    exact this
  have CH := hide (Ch.all_of Vs)
  obtain ⟨Ls, hLs⟩ : ∃ Ls, Ls = Ak.puts [] Vs := ⟨_, rfl⟩
  have HLs := hide hLs
  rw [← hLs] at s1 hllen CH ⊢
  clear hLs
  have SL := hide s1
  have hlc := s1.cap
  have hlm := s1.max
  unfold maxLen at hlm
  clear s1 b1 b0 cp H
  dsimp only
  go_wp2_with fail
  go_loopw [6] (fun i wr => ∃ i' : Nat, i = .int .i64 (i' : Int) ∧ i' ≤ Ls.length ∧ Below w1.heap.size w1 wr) (fun i _ => Ls.length - (intOf i).toNat)
  case atStart => exact ⟨0, rfl, Nat.zero_le _, Below.refl _ _⟩
  case round =>
    obtain ⟨i, rfl, hi, hbl⟩ := hrel
    have hsz := hbl.size
    by_cases hlt : i < Ls.length
    · have hg : Ls[i]? = some Ls[i] := List.getElem?_eq_getElem hlt
      obtain ⟨ql, ol, rfl, hql, x0, x1, x2, x3⟩ := SL.out.AkA hg
      have HG := hide hg
      have HT := hide (CH.out.top _ (List.getElem_mem hlt))
      clear hg
      generalize Ls[i] = x at *
      have KX : Hid (∀ v, Below w1.heap.size w1 v → v.cell? ⟨ql, ol + i * 4, none⟩ = some (.int .i64 x.n) ∧ v.cell? ⟨ql, ol + i * 4 + 1, none⟩ = some (.int .u64 x.h) ∧ v.cell? ⟨ql, ol + i * 4 + 2, none⟩ = some (.int .u64 x.l) ∧ v.cell? ⟨ql, ol + i * 4 + 3, none⟩ = some (.int .i64 x.p)) := fun v hv =>
        ⟨(hv.cell (p := ⟨ql, _, none⟩) hql).trans x0, (hv.cell (p := ⟨ql, _, none⟩) hql).trans x1, (hv.cell (p := ⟨ql, _, none⟩) hql).trans x2, (hv.cell (p := ⟨ql, _, none⟩) hql).trans x3⟩
      clear x0 x1 x2 x3
      go_wp2_with fail
      by_cases hi0 : i = 0
      · have hil : ¬ ((0 : Int) < (i : Int)) := by omega
        have HI0 := hide hi0
        clear hi0
        refine region_q9 (C := fun v => Below w1.heap.size w1 v) (by kernel_rfl) (by kernel_rfl) hbl.drew ?_
        refine wqv (u := .int .i64 (i : Int)) (by kernel_rfl) (fun v hv => by kernel_rfl) ?_
        simp only [Act.put, List.setIfInBounds_toArray, List.set_cons_zero, List.set_cons_succ]
        refine wqv (u := .bool false) (by kernel_rfl) (fun v hv => by go_simp; exact HI0.out) ?_
        simp only [Act.put, List.setIfInBounds_toArray, List.set_cons_zero, List.set_cons_succ]
        refine wqv (u := .bool false) (by kernel_rfl) (fun v hv => by kernel_rfl) ?_
        simp only [Act.put, List.setIfInBounds_toArray, List.set_cons_zero, List.set_cons_succ]
        refine wqskip (by kernel_rfl) ?_
        simp only [Act.put, List.setIfInBounds_toArray, List.set_cons_zero, List.set_cons_succ]
        refine wqskip (by kernel_rfl) ?_
        simp only [Act.put, List.setIfInBounds_toArray, List.set_cons_zero, List.set_cons_succ]
        refine wqskip (by kernel_rfl) ?_
        simp only [Act.put, List.setIfInBounds_toArray, List.set_cons_zero, List.set_cons_succ]
        refine wqskip (by kernel_rfl) ?_
        simp only [Act.put, List.setIfInBounds_toArray, List.set_cons_zero, List.set_cons_succ]
        refine wqskip (by kernel_rfl) ?_
        simp only [Act.put, List.setIfInBounds_toArray, List.set_cons_zero, List.set_cons_succ]
        refine wqskip (by kernel_rfl) ?_
        simp only [Act.put, List.setIfInBounds_toArray, List.set_cons_zero, List.set_cons_succ]
        refine wqskip (by kernel_rfl) ?_
        simp only [Act.put, List.setIfInBounds_toArray, List.set_cons_zero, List.set_cons_succ]
        refine wqskip (by kernel_rfl) ?_
        simp only [Act.put, List.setIfInBounds_toArray, List.set_cons_zero, List.set_cons_succ]
        refine wqskip (by kernel_rfl) ?_
        simp only [Act.put, List.setIfInBounds_toArray, List.set_cons_zero, List.set_cons_succ]
        refine wqskip (by kernel_rfl) ?_
        simp only [Act.put, List.setIfInBounds_toArray, List.set_cons_zero, List.set_cons_succ]
        refine wqskip (by kernel_rfl) ?_
        simp only [Act.put, List.setIfInBounds_toArray, List.set_cons_zero, List.set_cons_succ]
        refine wqskip (by kernel_rfl) ?_
        simp only [Act.put, List.setIfInBounds_toArray, List.set_cons_zero, List.set_cons_succ]
        refine wqv (u := .bool false) (by kernel_rfl) (fun v hv => by kernel_rfl) ?_
        simp only [Act.put, List.setIfInBounds_toArray, List.set_cons_zero, List.set_cons_succ]
        refine wqnil (fun v hv => ?_)
        have HB7 := hide hv
        clear hv
        go_wp2_with fail
        go_loopw [8, 7] (fun i sn wr => ∃ (k : Nat) (b : Bool), i = .int .i64 (k : Int) ∧ k ≤ n ∧ sn = .bool b ∧ Hid (b = decide (x ∈ Vs.take k)) ∧ Below w1.heap.size w1 wr) (fun i _ _ => n - (intOf i).toNat)
        case atStart => exact ⟨0, false, rfl, Nat.zero_le _, rfl, by show false = decide (x ∈ Vs.take 0); simp, HB7.out⟩
        case round =>
          clear HB7
          obtain ⟨k, b, rfl, hk, rfl, hb, hbl⟩ := hrel
          have hsz := hbl.size
          by_cases hkn : k < n
          · have hkl : k < Vs.length := by rw [HN.out]; exact hkn
            have hgv : Vs[k]? = some Vs[k] := List.getElem?_eq_getElem hkl
            obtain ⟨qv, ov, rfl, hqv, u0, u1, u2, u3⟩ := (HV1.out.later hbl).AkA hgv
            have hnx : Hid (decide (x ∈ Vs.take (k + 1)) = (decide (x ∈ Vs.take k) || decide (x = Vs[k]))) := by
              show _ = _
              rw [List.take_add_one, hgv, Option.toList_some, Bool.eq_iff_iff, Bool.or_eq_true, decide_eq_true_iff, decide_eq_true_iff, decide_eq_true_iff, List.mem_append, List.mem_singleton]
            have hup := hide (HT.out.2 Vs[k] (List.getElem_mem hkl))
            clear hgv
            generalize Vs[k] = u at *
            have KB : Hid (∀ v, Below (wr.heap.size + 1) (wr.alloc (.cells #[.int .i64 u.n, .int .u64 u.h, .int .u64 u.l, .int .i64 u.p] 55)) v → (v.cell? ⟨ql, ol + i * 4, none⟩ = some (.int .i64 x.n) ∧ v.cell? ⟨ql, ol + i * 4 + 1, none⟩ = some (.int .u64 x.h) ∧ v.cell? ⟨ql, ol + i * 4 + 2, none⟩ = some (.int .u64 x.l) ∧ v.cell? ⟨ql, ol + i * 4 + 3, none⟩ = some (.int .i64 x.p)) ∧ (v.cell? ⟨wr.heap.size, 0, none⟩ = some (.int .i64 u.n) ∧ v.cell? ⟨wr.heap.size, 1, none⟩ = some (.int .u64 u.h) ∧ v.cell? ⟨wr.heap.size, 2, none⟩ = some (.int .u64 u.l) ∧ v.cell? ⟨wr.heap.size, 3, none⟩ = some (.int .i64 u.p))) := fun v hv =>
              ⟨KX.out v ((hbl.alloc hsz _).trans (hv.mono (by omega))), ⟨(hv.cell (p := ⟨wr.heap.size, 0, none⟩) (by simp)).trans (by simp), (hv.cell (p := ⟨wr.heap.size, 1, none⟩) (by simp)).trans (by simp), (hv.cell (p := ⟨wr.heap.size, 2, none⟩) (by simp)).trans (by simp), (hv.cell (p := ⟨wr.heap.size, 3, none⟩) (by simp)).trans (by simp)⟩⟩
            have KZ : Hid (∀ v, Below (wr.heap.size + 1) (wr.alloc (.cells #[.int .i64 u.n, .int .u64 u.h, .int .u64 u.l, .int .i64 u.p] 55)) v → wr.heap.size + 1 ≤ v.heap.size) := fun v hv => by have := hv.size; simpa using this
            have KW : Hid (∀ v, Below (wr.heap.size + 1) (wr.alloc (.cells #[.int .i64 u.n, .int .u64 u.h, .int .u64 u.l, .int .i64 u.p] 55)) v → Below w1.heap.size w1 v) := fun v hv => (hbl.alloc hsz _).trans (hv.mono (by omega))
            go_wp2_with fail
            by_cases hun : u.n = x.n
            · have hb1 : (u.n != x.n) = false := by simp [hun]
              have nup : Hid (¬ Ak.up u x) := hup.out hun
              clear hun
              refine region_q9 (C := fun v => Below (wr.heap.size + 1) (wr.alloc (.cells #[.int .i64 u.n, .int .u64 u.h, .int .u64 u.l, .int .i64 u.p] 55)) v) (by kernel_rfl) (by kernel_rfl) (Below.refl _ _).drew ?_
              refine wqv (u := .pointer (some ⟨wr.heap.size, 0, none⟩)) (by kernel_rfl) (fun v hv => by go_simp) ?_
              simp only [Act.put, List.setIfInBounds_toArray, List.set_cons_zero, List.set_cons_succ]
              refine wqv (u := .int .i64 u.n) (by kernel_rfl) (fun v hv => by obtain ⟨⟨y0, y1, y2, y3⟩, ⟨z0, z1, z2, z3⟩⟩ := KB.out v hv; go_simp) ?_
              simp only [Act.put, List.setIfInBounds_toArray, List.set_cons_zero, List.set_cons_succ]
              refine wqv (u := .slice (some ⟨ql, ol, none⟩) Ls.length cl) (by kernel_rfl) (fun v hv => by kernel_rfl) ?_
              simp only [Act.put, List.setIfInBounds_toArray, List.set_cons_zero, List.set_cons_succ]
              refine wqv (u := .int .i64 (i : Int)) (by kernel_rfl) (fun v hv => by kernel_rfl) ?_
              simp only [Act.put, List.setIfInBounds_toArray, List.set_cons_zero, List.set_cons_succ]
              refine wqv (u := .pointer (some ⟨ql, ol + i * 4, none⟩)) (by kernel_rfl) (fun v hv => by go_simp) ?_
              simp only [Act.put, List.setIfInBounds_toArray, List.set_cons_zero, List.set_cons_succ]
              refine wqv (u := .pointer (some ⟨ql, ol + i * 4, none⟩)) (by kernel_rfl) (fun v hv => by go_simp) ?_
              simp only [Act.put, List.setIfInBounds_toArray, List.set_cons_zero, List.set_cons_succ]
              refine wqv (u := .int .i64 x.n) (by kernel_rfl) (fun v hv => by obtain ⟨⟨y0, y1, y2, y3⟩, ⟨z0, z1, z2, z3⟩⟩ := KB.out v hv; go_simp) ?_
              simp only [Act.put, List.setIfInBounds_toArray, List.set_cons_zero, List.set_cons_succ]
              refine wqv (u := .bool false) (by kernel_rfl) (fun v hv => by go_simp) ?_
              simp only [Act.put, List.setIfInBounds_toArray, List.set_cons_zero, List.set_cons_succ]
              refine wqnil (fun v hv => ?_)
              have HV := hide hv
              clear hv
              cases b with
              | true =>
                have hbn : Hid (true = decide (x ∈ Vs.take (k + 1))) := by show _ = _; rw [hnx.out, ← hb.out, Bool.true_or]
                clear hb hnx
                go_wp2_with fail
                refine region_q9 (C := fun v => Below (wr.heap.size + 1) (wr.alloc (.cells #[.int .i64 u.n, .int .u64 u.h, .int .u64 u.l, .int .i64 u.p] 55)) v) (by kernel_rfl) (by kernel_rfl) HV.out.drew ?_
                refine wqv (u := .bool true) (by kernel_rfl) (fun v hv => by kernel_rfl) ?_
                simp only [Act.put, List.setIfInBounds_toArray, List.set_cons_zero, List.set_cons_succ]
                refine wqv (u := .bool true) (by kernel_rfl) (fun v hv => by kernel_rfl) ?_
                simp only [Act.put, List.setIfInBounds_toArray, List.set_cons_zero, List.set_cons_succ]
                refine wqskip (by kernel_rfl) ?_
                simp only [Act.put, List.setIfInBounds_toArray, List.set_cons_zero, List.set_cons_succ]
                refine wqskip (by kernel_rfl) ?_
                simp only [Act.put, List.setIfInBounds_toArray, List.set_cons_zero, List.set_cons_succ]
                refine wqskip (by kernel_rfl) ?_
                simp only [Act.put, List.setIfInBounds_toArray, List.set_cons_zero, List.set_cons_succ]
                refine wqskip (by kernel_rfl) ?_
                simp only [Act.put, List.setIfInBounds_toArray, List.set_cons_zero, List.set_cons_succ]
                refine wqskip (by kernel_rfl) ?_
                simp only [Act.put, List.setIfInBounds_toArray, List.set_cons_zero, List.set_cons_succ]
                refine wqskip (by kernel_rfl) ?_
                simp only [Act.put, List.setIfInBounds_toArray, List.set_cons_zero, List.set_cons_succ]
                refine wqv (u := .bool true) (by kernel_rfl) (fun v hv => by kernel_rfl) ?_
                simp only [Act.put, List.setIfInBounds_toArray, List.set_cons_zero, List.set_cons_succ]
                refine wqv (u := .bool true) (by kernel_rfl) (fun v hv => by kernel_rfl) ?_
                simp only [Act.put, List.setIfInBounds_toArray, List.set_cons_zero, List.set_cons_succ]
                refine wqnil (fun v hv => ?_)
                have HV := hide hv
                clear hv
                have CB : Hid (∀ W, Calls Try.prog 30 #[.agg #[.int .u64 x.h, .int .u64 x.l], .agg #[.int .u64 u.h, .int .u64 u.l]] W fun e w' => e = .returned (.bool false) ∧ Below W.heap.size W w') := fun W => by
                  have := below8_any x.h x.l u.h u.l W
                  rw [show decide (x.h < u.h ∨ (x.h = u.h ∧ x.l < u.l)) = false from decide_eq_false (fun e => nup.out (by unfold Ak.up; omega))] at this
                  exact this
                go_wp2_with fail
                by_cases hdq : x.h = u.h ∧ x.l = u.l
                · have HD : Hid (decide (x.h = u.h ∧ x.l = u.l) = true) := decide_eq_true hdq
                  have hpl : ¬ (x.p < u.p) := fun e => nup.out (by unfold Ak.up; omega)
                  clear hdq
                  refine region_q9 (C := fun v => Below (wr.heap.size + 1) (wr.alloc (.cells #[.int .i64 u.n, .int .u64 u.h, .int .u64 u.l, .int .i64 u.p] 55)) v) (by kernel_rfl) (by kernel_rfl) HV.out.drew ?_
                  refine wqv (u := .slice (some ⟨ql, ol, none⟩) Ls.length cl) (by kernel_rfl) (fun v hv => by kernel_rfl) ?_
                  simp only [Act.put, List.setIfInBounds_toArray, List.set_cons_zero, List.set_cons_succ]
                  refine wqv (u := .int .i64 (i : Int)) (by kernel_rfl) (fun v hv => by kernel_rfl) ?_
                  simp only [Act.put, List.setIfInBounds_toArray, List.set_cons_zero, List.set_cons_succ]
                  refine wqv (u := .pointer (some ⟨ql, ol + i * 4, none⟩)) (by kernel_rfl) (fun v hv => by go_simp) ?_
                  simp only [Act.put, List.setIfInBounds_toArray, List.set_cons_zero, List.set_cons_succ]
                  refine wqv (u := .pointer (some ⟨ql, ol + i * 4 + 1, none⟩)) (by kernel_rfl) (fun v hv => by go_simp) ?_
                  simp only [Act.put, List.setIfInBounds_toArray, List.set_cons_zero, List.set_cons_succ]
                  refine wqv (u := .agg #[.int .u64 x.h, .int .u64 x.l]) (by kernel_rfl) (fun v hv => by obtain ⟨⟨y0, y1, y2, y3⟩, ⟨z0, z1, z2, z3⟩⟩ := KB.out v hv; go_simp) ?_
                  simp only [Act.put, List.setIfInBounds_toArray, List.set_cons_zero, List.set_cons_succ]
                  refine wqv (u := .pointer (some ⟨wr.heap.size, 1, none⟩)) (by kernel_rfl) (fun v hv => by go_simp) ?_
                  simp only [Act.put, List.setIfInBounds_toArray, List.set_cons_zero, List.set_cons_succ]
                  refine wqv (u := .agg #[.int .u64 u.h, .int .u64 u.l]) (by kernel_rfl) (fun v hv => by obtain ⟨⟨y0, y1, y2, y3⟩, ⟨z0, z1, z2, z3⟩⟩ := KB.out v hv; go_simp) ?_
                  simp only [Act.put, List.setIfInBounds_toArray, List.set_cons_zero, List.set_cons_succ]
                  refine wqc (fid := 30) (args := #[.agg #[.int .u64 x.h, .int .u64 x.l], .agg #[.int .u64 u.h, .int .u64 u.l]]) (u := .bool false) (by kernel_rfl) (fun v => by kernel_rfl) (fun v hv => (CB.out v).mono fun e w' h => ⟨h.1, hv.trans (h.2.mono (KZ.out v hv))⟩) ?_
                  simp only [Act.put, List.setIfInBounds_toArray, List.set_cons_zero, List.set_cons_succ]
                  refine wqv (u := .bool false) (by kernel_rfl) (fun v hv => by kernel_rfl) ?_
                  simp only [Act.put, List.setIfInBounds_toArray, List.set_cons_zero, List.set_cons_succ]
                  refine wqv (u := .slice (some ⟨ql, ol, none⟩) Ls.length cl) (by kernel_rfl) (fun v hv => by kernel_rfl) ?_
                  simp only [Act.put, List.setIfInBounds_toArray, List.set_cons_zero, List.set_cons_succ]
                  refine wqv (u := .int .i64 (i : Int)) (by kernel_rfl) (fun v hv => by kernel_rfl) ?_
                  simp only [Act.put, List.setIfInBounds_toArray, List.set_cons_zero, List.set_cons_succ]
                  refine wqv (u := .pointer (some ⟨ql, ol + i * 4, none⟩)) (by kernel_rfl) (fun v hv => by go_simp) ?_
                  simp only [Act.put, List.setIfInBounds_toArray, List.set_cons_zero, List.set_cons_succ]
                  refine wqv (u := .pointer (some ⟨ql, ol + i * 4 + 1, none⟩)) (by kernel_rfl) (fun v hv => by go_simp) ?_
                  simp only [Act.put, List.setIfInBounds_toArray, List.set_cons_zero, List.set_cons_succ]
                  refine wqv (u := .agg #[.int .u64 x.h, .int .u64 x.l]) (by kernel_rfl) (fun v hv => by obtain ⟨⟨y0, y1, y2, y3⟩, ⟨z0, z1, z2, z3⟩⟩ := KB.out v hv; go_simp) ?_
                  simp only [Act.put, List.setIfInBounds_toArray, List.set_cons_zero, List.set_cons_succ]
                  refine wqv (u := .pointer (some ⟨wr.heap.size, 1, none⟩)) (by kernel_rfl) (fun v hv => by go_simp) ?_
                  simp only [Act.put, List.setIfInBounds_toArray, List.set_cons_zero, List.set_cons_succ]
                  refine wqv (u := .agg #[.int .u64 u.h, .int .u64 u.l]) (by kernel_rfl) (fun v hv => by obtain ⟨⟨y0, y1, y2, y3⟩, ⟨z0, z1, z2, z3⟩⟩ := KB.out v hv; go_simp) ?_
                  simp only [Act.put, List.setIfInBounds_toArray, List.set_cons_zero, List.set_cons_succ]
                  refine wqe (by kernel_rfl) rfl (.agg #[.int .u64 x.h, .int .u64 x.l]) (.agg #[.int .u64 u.h, .int .u64 u.l]) (.bool true) (by kernel_rfl) (by kernel_rfl) (fun v => (eqlDr x.h x.l u.h u.l _ _ v).trans (by rw [HD.out])) ?_
                  simp only [Act.put, List.setIfInBounds_toArray, List.set_cons_zero, List.set_cons_succ]
                  refine wqv (u := .bool true) (by kernel_rfl) (fun v hv => by kernel_rfl) ?_
                  simp only [Act.put, List.setIfInBounds_toArray, List.set_cons_zero, List.set_cons_succ]
                  refine wqv (u := .pointer (some ⟨wr.heap.size, 3, none⟩)) (by kernel_rfl) (fun v hv => by go_simp) ?_
                  simp only [Act.put, List.setIfInBounds_toArray, List.set_cons_zero, List.set_cons_succ]
                  refine wqv (u := .int .i64 u.p) (by kernel_rfl) (fun v hv => by obtain ⟨⟨y0, y1, y2, y3⟩, ⟨z0, z1, z2, z3⟩⟩ := KB.out v hv; go_simp) ?_
                  simp only [Act.put, List.setIfInBounds_toArray, List.set_cons_zero, List.set_cons_succ]
                  refine wqv (u := .slice (some ⟨ql, ol, none⟩) Ls.length cl) (by kernel_rfl) (fun v hv => by kernel_rfl) ?_
                  simp only [Act.put, List.setIfInBounds_toArray, List.set_cons_zero, List.set_cons_succ]
                  refine wqv (u := .int .i64 (i : Int)) (by kernel_rfl) (fun v hv => by kernel_rfl) ?_
                  simp only [Act.put, List.setIfInBounds_toArray, List.set_cons_zero, List.set_cons_succ]
                  refine wqv (u := .pointer (some ⟨ql, ol + i * 4, none⟩)) (by kernel_rfl) (fun v hv => by go_simp) ?_
                  simp only [Act.put, List.setIfInBounds_toArray, List.set_cons_zero, List.set_cons_succ]
                  refine wqv (u := .pointer (some ⟨ql, ol + i * 4 + 3, none⟩)) (by kernel_rfl) (fun v hv => by go_simp) ?_
                  simp only [Act.put, List.setIfInBounds_toArray, List.set_cons_zero, List.set_cons_succ]
                  refine wqv (u := .int .i64 x.p) (by kernel_rfl) (fun v hv => by obtain ⟨⟨y0, y1, y2, y3⟩, ⟨z0, z1, z2, z3⟩⟩ := KB.out v hv; go_simp) ?_
                  simp only [Act.put, List.setIfInBounds_toArray, List.set_cons_zero, List.set_cons_succ]
                  refine wqv (u := .bool false) (by kernel_rfl) (fun v hv => by go_simp) ?_
                  simp only [Act.put, List.setIfInBounds_toArray, List.set_cons_zero, List.set_cons_succ]
                  refine wqv (u := .bool false) (by kernel_rfl) (fun v hv => by kernel_rfl) ?_
                  simp only [Act.put, List.setIfInBounds_toArray, List.set_cons_zero, List.set_cons_succ]
                  refine wqv (u := .bool false) (by kernel_rfl) (fun v hv => by kernel_rfl) ?_
                  simp only [Act.put, List.setIfInBounds_toArray, List.set_cons_zero, List.set_cons_succ]
                  refine wqnil (fun v hv => ?_)
                  have BV := hide (KW.out v hv)
                  clear hv KB KZ KW hup CB HD nup
                  go_wp2
                  go_round
                  case rel => exact ⟨k + 1, _, by go_num, by omega, rfl, hbn, BV.out⟩
                  case measure => simp [intOf]; omega
                · have HD : Hid (decide (x.h = u.h ∧ x.l = u.l) = false) := decide_eq_false hdq
                  clear hdq
                  refine region_q9 (C := fun v => Below (wr.heap.size + 1) (wr.alloc (.cells #[.int .i64 u.n, .int .u64 u.h, .int .u64 u.l, .int .i64 u.p] 55)) v) (by kernel_rfl) (by kernel_rfl) HV.out.drew ?_
                  refine wqv (u := .slice (some ⟨ql, ol, none⟩) Ls.length cl) (by kernel_rfl) (fun v hv => by kernel_rfl) ?_
                  simp only [Act.put, List.setIfInBounds_toArray, List.set_cons_zero, List.set_cons_succ]
                  refine wqv (u := .int .i64 (i : Int)) (by kernel_rfl) (fun v hv => by kernel_rfl) ?_
                  simp only [Act.put, List.setIfInBounds_toArray, List.set_cons_zero, List.set_cons_succ]
                  refine wqv (u := .pointer (some ⟨ql, ol + i * 4, none⟩)) (by kernel_rfl) (fun v hv => by go_simp) ?_
                  simp only [Act.put, List.setIfInBounds_toArray, List.set_cons_zero, List.set_cons_succ]
                  refine wqv (u := .pointer (some ⟨ql, ol + i * 4 + 1, none⟩)) (by kernel_rfl) (fun v hv => by go_simp) ?_
                  simp only [Act.put, List.setIfInBounds_toArray, List.set_cons_zero, List.set_cons_succ]
                  refine wqv (u := .agg #[.int .u64 x.h, .int .u64 x.l]) (by kernel_rfl) (fun v hv => by obtain ⟨⟨y0, y1, y2, y3⟩, ⟨z0, z1, z2, z3⟩⟩ := KB.out v hv; go_simp) ?_
                  simp only [Act.put, List.setIfInBounds_toArray, List.set_cons_zero, List.set_cons_succ]
                  refine wqv (u := .pointer (some ⟨wr.heap.size, 1, none⟩)) (by kernel_rfl) (fun v hv => by go_simp) ?_
                  simp only [Act.put, List.setIfInBounds_toArray, List.set_cons_zero, List.set_cons_succ]
                  refine wqv (u := .agg #[.int .u64 u.h, .int .u64 u.l]) (by kernel_rfl) (fun v hv => by obtain ⟨⟨y0, y1, y2, y3⟩, ⟨z0, z1, z2, z3⟩⟩ := KB.out v hv; go_simp) ?_
                  simp only [Act.put, List.setIfInBounds_toArray, List.set_cons_zero, List.set_cons_succ]
                  refine wqc (fid := 30) (args := #[.agg #[.int .u64 x.h, .int .u64 x.l], .agg #[.int .u64 u.h, .int .u64 u.l]]) (u := .bool false) (by kernel_rfl) (fun v => by kernel_rfl) (fun v hv => (CB.out v).mono fun e w' h => ⟨h.1, hv.trans (h.2.mono (KZ.out v hv))⟩) ?_
                  simp only [Act.put, List.setIfInBounds_toArray, List.set_cons_zero, List.set_cons_succ]
                  refine wqv (u := .bool false) (by kernel_rfl) (fun v hv => by kernel_rfl) ?_
                  simp only [Act.put, List.setIfInBounds_toArray, List.set_cons_zero, List.set_cons_succ]
                  refine wqv (u := .slice (some ⟨ql, ol, none⟩) Ls.length cl) (by kernel_rfl) (fun v hv => by kernel_rfl) ?_
                  simp only [Act.put, List.setIfInBounds_toArray, List.set_cons_zero, List.set_cons_succ]
                  refine wqv (u := .int .i64 (i : Int)) (by kernel_rfl) (fun v hv => by kernel_rfl) ?_
                  simp only [Act.put, List.setIfInBounds_toArray, List.set_cons_zero, List.set_cons_succ]
                  refine wqv (u := .pointer (some ⟨ql, ol + i * 4, none⟩)) (by kernel_rfl) (fun v hv => by go_simp) ?_
                  simp only [Act.put, List.setIfInBounds_toArray, List.set_cons_zero, List.set_cons_succ]
                  refine wqv (u := .pointer (some ⟨ql, ol + i * 4 + 1, none⟩)) (by kernel_rfl) (fun v hv => by go_simp) ?_
                  simp only [Act.put, List.setIfInBounds_toArray, List.set_cons_zero, List.set_cons_succ]
                  refine wqv (u := .agg #[.int .u64 x.h, .int .u64 x.l]) (by kernel_rfl) (fun v hv => by obtain ⟨⟨y0, y1, y2, y3⟩, ⟨z0, z1, z2, z3⟩⟩ := KB.out v hv; go_simp) ?_
                  simp only [Act.put, List.setIfInBounds_toArray, List.set_cons_zero, List.set_cons_succ]
                  refine wqv (u := .pointer (some ⟨wr.heap.size, 1, none⟩)) (by kernel_rfl) (fun v hv => by go_simp) ?_
                  simp only [Act.put, List.setIfInBounds_toArray, List.set_cons_zero, List.set_cons_succ]
                  refine wqv (u := .agg #[.int .u64 u.h, .int .u64 u.l]) (by kernel_rfl) (fun v hv => by obtain ⟨⟨y0, y1, y2, y3⟩, ⟨z0, z1, z2, z3⟩⟩ := KB.out v hv; go_simp) ?_
                  simp only [Act.put, List.setIfInBounds_toArray, List.set_cons_zero, List.set_cons_succ]
                  refine wqe (by kernel_rfl) rfl (.agg #[.int .u64 x.h, .int .u64 x.l]) (.agg #[.int .u64 u.h, .int .u64 u.l]) (.bool false) (by kernel_rfl) (by kernel_rfl) (fun v => (eqlDr x.h x.l u.h u.l _ _ v).trans (by rw [HD.out])) ?_
                  simp only [Act.put, List.setIfInBounds_toArray, List.set_cons_zero, List.set_cons_succ]
                  refine wqv (u := .bool false) (by kernel_rfl) (fun v hv => by kernel_rfl) ?_
                  simp only [Act.put, List.setIfInBounds_toArray, List.set_cons_zero, List.set_cons_succ]
                  refine wqskip (by kernel_rfl) ?_
                  simp only [Act.put, List.setIfInBounds_toArray, List.set_cons_zero, List.set_cons_succ]
                  refine wqskip (by kernel_rfl) ?_
                  simp only [Act.put, List.setIfInBounds_toArray, List.set_cons_zero, List.set_cons_succ]
                  refine wqskip (by kernel_rfl) ?_
                  simp only [Act.put, List.setIfInBounds_toArray, List.set_cons_zero, List.set_cons_succ]
                  refine wqskip (by kernel_rfl) ?_
                  simp only [Act.put, List.setIfInBounds_toArray, List.set_cons_zero, List.set_cons_succ]
                  refine wqskip (by kernel_rfl) ?_
                  simp only [Act.put, List.setIfInBounds_toArray, List.set_cons_zero, List.set_cons_succ]
                  refine wqskip (by kernel_rfl) ?_
                  simp only [Act.put, List.setIfInBounds_toArray, List.set_cons_zero, List.set_cons_succ]
                  refine wqskip (by kernel_rfl) ?_
                  simp only [Act.put, List.setIfInBounds_toArray, List.set_cons_zero, List.set_cons_succ]
                  refine wqskip (by kernel_rfl) ?_
                  simp only [Act.put, List.setIfInBounds_toArray, List.set_cons_zero, List.set_cons_succ]
                  refine wqv (u := .bool false) (by kernel_rfl) (fun v hv => by kernel_rfl) ?_
                  simp only [Act.put, List.setIfInBounds_toArray, List.set_cons_zero, List.set_cons_succ]
                  refine wqv (u := .bool false) (by kernel_rfl) (fun v hv => by kernel_rfl) ?_
                  simp only [Act.put, List.setIfInBounds_toArray, List.set_cons_zero, List.set_cons_succ]
                  refine wqnil (fun v hv => ?_)
                  have BV := hide (KW.out v hv)
                  clear hv KB KZ KW hup CB HD nup
                  go_wp2
                  go_round
                  case rel => exact ⟨k + 1, _, by go_num, by omega, rfl, hbn, BV.out⟩
                  case measure => simp [intOf]; omega
              | false =>
                have hbn : Hid (decide (u = x) = decide (x ∈ Vs.take (k + 1))) := by
                  show _ = _
                  rw [hnx.out, ← hb.out, Bool.false_or, Bool.eq_iff_iff, decide_eq_true_iff, decide_eq_true_iff]
                  exact eq_comm
                clear hb hnx
                go_wp2_with fail
                refine region_q9 (C := fun v => Below (wr.heap.size + 1) (wr.alloc (.cells #[.int .i64 u.n, .int .u64 u.h, .int .u64 u.l, .int .i64 u.p] 55)) v) (by kernel_rfl) (by kernel_rfl) HV.out.drew ?_
                refine wqv (u := .bool false) (by kernel_rfl) (fun v hv => by kernel_rfl) ?_
                simp only [Act.put, List.setIfInBounds_toArray, List.set_cons_zero, List.set_cons_succ]
                refine wqv (u := .bool false) (by kernel_rfl) (fun v hv => by kernel_rfl) ?_
                simp only [Act.put, List.setIfInBounds_toArray, List.set_cons_zero, List.set_cons_succ]
                refine wqv (u := u.val) (by kernel_rfl) (fun v hv => by obtain ⟨⟨y0, y1, y2, y3⟩, ⟨z0, z1, z2, z3⟩⟩ := KB.out v hv; go_simp; rfl) ?_
                simp only [Act.put, List.setIfInBounds_toArray, List.set_cons_zero, List.set_cons_succ]
                refine wqv (u := .slice (some ⟨ql, ol, none⟩) Ls.length cl) (by kernel_rfl) (fun v hv => by kernel_rfl) ?_
                simp only [Act.put, List.setIfInBounds_toArray, List.set_cons_zero, List.set_cons_succ]
                refine wqv (u := .int .i64 (i : Int)) (by kernel_rfl) (fun v hv => by kernel_rfl) ?_
                simp only [Act.put, List.setIfInBounds_toArray, List.set_cons_zero, List.set_cons_succ]
                refine wqv (u := .pointer (some ⟨ql, ol + i * 4, none⟩)) (by kernel_rfl) (fun v hv => by go_simp) ?_
                simp only [Act.put, List.setIfInBounds_toArray, List.set_cons_zero, List.set_cons_succ]
                refine wqv (u := x.val) (by kernel_rfl) (fun v hv => by obtain ⟨⟨y0, y1, y2, y3⟩, ⟨z0, z1, z2, z3⟩⟩ := KB.out v hv; go_simp; rfl) ?_
                simp only [Act.put, List.setIfInBounds_toArray, List.set_cons_zero, List.set_cons_succ]
                refine wqe (by kernel_rfl) rfl u.val x.val (.bool (decide (u = x))) (by kernel_rfl) (by kernel_rfl) (fun v => eqlAk u x _ _ v) ?_
                simp only [Act.put, List.setIfInBounds_toArray, List.set_cons_zero, List.set_cons_succ]
                refine wqv (u := .bool (decide (u = x))) (by kernel_rfl) (fun v hv => by kernel_rfl) ?_
                simp only [Act.put, List.setIfInBounds_toArray, List.set_cons_zero, List.set_cons_succ]
                refine wqv (u := .bool (decide (u = x))) (by kernel_rfl) (fun v hv => by kernel_rfl) ?_
                simp only [Act.put, List.setIfInBounds_toArray, List.set_cons_zero, List.set_cons_succ]
                refine wqnil (fun v hv => ?_)
                have HV := hide hv
                clear hv
                have CB : Hid (∀ W, Calls Try.prog 30 #[.agg #[.int .u64 x.h, .int .u64 x.l], .agg #[.int .u64 u.h, .int .u64 u.l]] W fun e w' => e = .returned (.bool false) ∧ Below W.heap.size W w') := fun W => by
                  have := below8_any x.h x.l u.h u.l W
                  rw [show decide (x.h < u.h ∨ (x.h = u.h ∧ x.l < u.l)) = false from decide_eq_false (fun e => nup.out (by unfold Ak.up; omega))] at this
                  exact this
                go_wp2_with fail
                by_cases hdq : x.h = u.h ∧ x.l = u.l
                · have HD : Hid (decide (x.h = u.h ∧ x.l = u.l) = true) := decide_eq_true hdq
                  have hpl : ¬ (x.p < u.p) := fun e => nup.out (by unfold Ak.up; omega)
                  clear hdq
                  refine region_q9 (C := fun v => Below (wr.heap.size + 1) (wr.alloc (.cells #[.int .i64 u.n, .int .u64 u.h, .int .u64 u.l, .int .i64 u.p] 55)) v) (by kernel_rfl) (by kernel_rfl) HV.out.drew ?_
                  refine wqv (u := .slice (some ⟨ql, ol, none⟩) Ls.length cl) (by kernel_rfl) (fun v hv => by kernel_rfl) ?_
                  simp only [Act.put, List.setIfInBounds_toArray, List.set_cons_zero, List.set_cons_succ]
                  refine wqv (u := .int .i64 (i : Int)) (by kernel_rfl) (fun v hv => by kernel_rfl) ?_
                  simp only [Act.put, List.setIfInBounds_toArray, List.set_cons_zero, List.set_cons_succ]
                  refine wqv (u := .pointer (some ⟨ql, ol + i * 4, none⟩)) (by kernel_rfl) (fun v hv => by go_simp) ?_
                  simp only [Act.put, List.setIfInBounds_toArray, List.set_cons_zero, List.set_cons_succ]
                  refine wqv (u := .pointer (some ⟨ql, ol + i * 4 + 1, none⟩)) (by kernel_rfl) (fun v hv => by go_simp) ?_
                  simp only [Act.put, List.setIfInBounds_toArray, List.set_cons_zero, List.set_cons_succ]
                  refine wqv (u := .agg #[.int .u64 x.h, .int .u64 x.l]) (by kernel_rfl) (fun v hv => by obtain ⟨⟨y0, y1, y2, y3⟩, ⟨z0, z1, z2, z3⟩⟩ := KB.out v hv; go_simp) ?_
                  simp only [Act.put, List.setIfInBounds_toArray, List.set_cons_zero, List.set_cons_succ]
                  refine wqv (u := .pointer (some ⟨wr.heap.size, 1, none⟩)) (by kernel_rfl) (fun v hv => by go_simp) ?_
                  simp only [Act.put, List.setIfInBounds_toArray, List.set_cons_zero, List.set_cons_succ]
                  refine wqv (u := .agg #[.int .u64 u.h, .int .u64 u.l]) (by kernel_rfl) (fun v hv => by obtain ⟨⟨y0, y1, y2, y3⟩, ⟨z0, z1, z2, z3⟩⟩ := KB.out v hv; go_simp) ?_
                  simp only [Act.put, List.setIfInBounds_toArray, List.set_cons_zero, List.set_cons_succ]
                  refine wqc (fid := 30) (args := #[.agg #[.int .u64 x.h, .int .u64 x.l], .agg #[.int .u64 u.h, .int .u64 u.l]]) (u := .bool false) (by kernel_rfl) (fun v => by kernel_rfl) (fun v hv => (CB.out v).mono fun e w' h => ⟨h.1, hv.trans (h.2.mono (KZ.out v hv))⟩) ?_
                  simp only [Act.put, List.setIfInBounds_toArray, List.set_cons_zero, List.set_cons_succ]
                  refine wqv (u := .bool false) (by kernel_rfl) (fun v hv => by kernel_rfl) ?_
                  simp only [Act.put, List.setIfInBounds_toArray, List.set_cons_zero, List.set_cons_succ]
                  refine wqv (u := .slice (some ⟨ql, ol, none⟩) Ls.length cl) (by kernel_rfl) (fun v hv => by kernel_rfl) ?_
                  simp only [Act.put, List.setIfInBounds_toArray, List.set_cons_zero, List.set_cons_succ]
                  refine wqv (u := .int .i64 (i : Int)) (by kernel_rfl) (fun v hv => by kernel_rfl) ?_
                  simp only [Act.put, List.setIfInBounds_toArray, List.set_cons_zero, List.set_cons_succ]
                  refine wqv (u := .pointer (some ⟨ql, ol + i * 4, none⟩)) (by kernel_rfl) (fun v hv => by go_simp) ?_
                  simp only [Act.put, List.setIfInBounds_toArray, List.set_cons_zero, List.set_cons_succ]
                  refine wqv (u := .pointer (some ⟨ql, ol + i * 4 + 1, none⟩)) (by kernel_rfl) (fun v hv => by go_simp) ?_
                  simp only [Act.put, List.setIfInBounds_toArray, List.set_cons_zero, List.set_cons_succ]
                  refine wqv (u := .agg #[.int .u64 x.h, .int .u64 x.l]) (by kernel_rfl) (fun v hv => by obtain ⟨⟨y0, y1, y2, y3⟩, ⟨z0, z1, z2, z3⟩⟩ := KB.out v hv; go_simp) ?_
                  simp only [Act.put, List.setIfInBounds_toArray, List.set_cons_zero, List.set_cons_succ]
                  refine wqv (u := .pointer (some ⟨wr.heap.size, 1, none⟩)) (by kernel_rfl) (fun v hv => by go_simp) ?_
                  simp only [Act.put, List.setIfInBounds_toArray, List.set_cons_zero, List.set_cons_succ]
                  refine wqv (u := .agg #[.int .u64 u.h, .int .u64 u.l]) (by kernel_rfl) (fun v hv => by obtain ⟨⟨y0, y1, y2, y3⟩, ⟨z0, z1, z2, z3⟩⟩ := KB.out v hv; go_simp) ?_
                  simp only [Act.put, List.setIfInBounds_toArray, List.set_cons_zero, List.set_cons_succ]
                  refine wqe (by kernel_rfl) rfl (.agg #[.int .u64 x.h, .int .u64 x.l]) (.agg #[.int .u64 u.h, .int .u64 u.l]) (.bool true) (by kernel_rfl) (by kernel_rfl) (fun v => (eqlDr x.h x.l u.h u.l _ _ v).trans (by rw [HD.out])) ?_
                  simp only [Act.put, List.setIfInBounds_toArray, List.set_cons_zero, List.set_cons_succ]
                  refine wqv (u := .bool true) (by kernel_rfl) (fun v hv => by kernel_rfl) ?_
                  simp only [Act.put, List.setIfInBounds_toArray, List.set_cons_zero, List.set_cons_succ]
                  refine wqv (u := .pointer (some ⟨wr.heap.size, 3, none⟩)) (by kernel_rfl) (fun v hv => by go_simp) ?_
                  simp only [Act.put, List.setIfInBounds_toArray, List.set_cons_zero, List.set_cons_succ]
                  refine wqv (u := .int .i64 u.p) (by kernel_rfl) (fun v hv => by obtain ⟨⟨y0, y1, y2, y3⟩, ⟨z0, z1, z2, z3⟩⟩ := KB.out v hv; go_simp) ?_
                  simp only [Act.put, List.setIfInBounds_toArray, List.set_cons_zero, List.set_cons_succ]
                  refine wqv (u := .slice (some ⟨ql, ol, none⟩) Ls.length cl) (by kernel_rfl) (fun v hv => by kernel_rfl) ?_
                  simp only [Act.put, List.setIfInBounds_toArray, List.set_cons_zero, List.set_cons_succ]
                  refine wqv (u := .int .i64 (i : Int)) (by kernel_rfl) (fun v hv => by kernel_rfl) ?_
                  simp only [Act.put, List.setIfInBounds_toArray, List.set_cons_zero, List.set_cons_succ]
                  refine wqv (u := .pointer (some ⟨ql, ol + i * 4, none⟩)) (by kernel_rfl) (fun v hv => by go_simp) ?_
                  simp only [Act.put, List.setIfInBounds_toArray, List.set_cons_zero, List.set_cons_succ]
                  refine wqv (u := .pointer (some ⟨ql, ol + i * 4 + 3, none⟩)) (by kernel_rfl) (fun v hv => by go_simp) ?_
                  simp only [Act.put, List.setIfInBounds_toArray, List.set_cons_zero, List.set_cons_succ]
                  refine wqv (u := .int .i64 x.p) (by kernel_rfl) (fun v hv => by obtain ⟨⟨y0, y1, y2, y3⟩, ⟨z0, z1, z2, z3⟩⟩ := KB.out v hv; go_simp) ?_
                  simp only [Act.put, List.setIfInBounds_toArray, List.set_cons_zero, List.set_cons_succ]
                  refine wqv (u := .bool false) (by kernel_rfl) (fun v hv => by go_simp) ?_
                  simp only [Act.put, List.setIfInBounds_toArray, List.set_cons_zero, List.set_cons_succ]
                  refine wqv (u := .bool false) (by kernel_rfl) (fun v hv => by kernel_rfl) ?_
                  simp only [Act.put, List.setIfInBounds_toArray, List.set_cons_zero, List.set_cons_succ]
                  refine wqv (u := .bool false) (by kernel_rfl) (fun v hv => by kernel_rfl) ?_
                  simp only [Act.put, List.setIfInBounds_toArray, List.set_cons_zero, List.set_cons_succ]
                  refine wqnil (fun v hv => ?_)
                  have BV := hide (KW.out v hv)
                  clear hv KB KZ KW hup CB HD nup
                  go_wp2
                  go_round
                  case rel => exact ⟨k + 1, _, by go_num, by omega, rfl, hbn, BV.out⟩
                  case measure => simp [intOf]; omega
                · have HD : Hid (decide (x.h = u.h ∧ x.l = u.l) = false) := decide_eq_false hdq
                  clear hdq
                  refine region_q9 (C := fun v => Below (wr.heap.size + 1) (wr.alloc (.cells #[.int .i64 u.n, .int .u64 u.h, .int .u64 u.l, .int .i64 u.p] 55)) v) (by kernel_rfl) (by kernel_rfl) HV.out.drew ?_
                  refine wqv (u := .slice (some ⟨ql, ol, none⟩) Ls.length cl) (by kernel_rfl) (fun v hv => by kernel_rfl) ?_
                  simp only [Act.put, List.setIfInBounds_toArray, List.set_cons_zero, List.set_cons_succ]
                  refine wqv (u := .int .i64 (i : Int)) (by kernel_rfl) (fun v hv => by kernel_rfl) ?_
                  simp only [Act.put, List.setIfInBounds_toArray, List.set_cons_zero, List.set_cons_succ]
                  refine wqv (u := .pointer (some ⟨ql, ol + i * 4, none⟩)) (by kernel_rfl) (fun v hv => by go_simp) ?_
                  simp only [Act.put, List.setIfInBounds_toArray, List.set_cons_zero, List.set_cons_succ]
                  refine wqv (u := .pointer (some ⟨ql, ol + i * 4 + 1, none⟩)) (by kernel_rfl) (fun v hv => by go_simp) ?_
                  simp only [Act.put, List.setIfInBounds_toArray, List.set_cons_zero, List.set_cons_succ]
                  refine wqv (u := .agg #[.int .u64 x.h, .int .u64 x.l]) (by kernel_rfl) (fun v hv => by obtain ⟨⟨y0, y1, y2, y3⟩, ⟨z0, z1, z2, z3⟩⟩ := KB.out v hv; go_simp) ?_
                  simp only [Act.put, List.setIfInBounds_toArray, List.set_cons_zero, List.set_cons_succ]
                  refine wqv (u := .pointer (some ⟨wr.heap.size, 1, none⟩)) (by kernel_rfl) (fun v hv => by go_simp) ?_
                  simp only [Act.put, List.setIfInBounds_toArray, List.set_cons_zero, List.set_cons_succ]
                  refine wqv (u := .agg #[.int .u64 u.h, .int .u64 u.l]) (by kernel_rfl) (fun v hv => by obtain ⟨⟨y0, y1, y2, y3⟩, ⟨z0, z1, z2, z3⟩⟩ := KB.out v hv; go_simp) ?_
                  simp only [Act.put, List.setIfInBounds_toArray, List.set_cons_zero, List.set_cons_succ]
                  refine wqc (fid := 30) (args := #[.agg #[.int .u64 x.h, .int .u64 x.l], .agg #[.int .u64 u.h, .int .u64 u.l]]) (u := .bool false) (by kernel_rfl) (fun v => by kernel_rfl) (fun v hv => (CB.out v).mono fun e w' h => ⟨h.1, hv.trans (h.2.mono (KZ.out v hv))⟩) ?_
                  simp only [Act.put, List.setIfInBounds_toArray, List.set_cons_zero, List.set_cons_succ]
                  refine wqv (u := .bool false) (by kernel_rfl) (fun v hv => by kernel_rfl) ?_
                  simp only [Act.put, List.setIfInBounds_toArray, List.set_cons_zero, List.set_cons_succ]
                  refine wqv (u := .slice (some ⟨ql, ol, none⟩) Ls.length cl) (by kernel_rfl) (fun v hv => by kernel_rfl) ?_
                  simp only [Act.put, List.setIfInBounds_toArray, List.set_cons_zero, List.set_cons_succ]
                  refine wqv (u := .int .i64 (i : Int)) (by kernel_rfl) (fun v hv => by kernel_rfl) ?_
                  simp only [Act.put, List.setIfInBounds_toArray, List.set_cons_zero, List.set_cons_succ]
                  refine wqv (u := .pointer (some ⟨ql, ol + i * 4, none⟩)) (by kernel_rfl) (fun v hv => by go_simp) ?_
                  simp only [Act.put, List.setIfInBounds_toArray, List.set_cons_zero, List.set_cons_succ]
                  refine wqv (u := .pointer (some ⟨ql, ol + i * 4 + 1, none⟩)) (by kernel_rfl) (fun v hv => by go_simp) ?_
                  simp only [Act.put, List.setIfInBounds_toArray, List.set_cons_zero, List.set_cons_succ]
                  refine wqv (u := .agg #[.int .u64 x.h, .int .u64 x.l]) (by kernel_rfl) (fun v hv => by obtain ⟨⟨y0, y1, y2, y3⟩, ⟨z0, z1, z2, z3⟩⟩ := KB.out v hv; go_simp) ?_
                  simp only [Act.put, List.setIfInBounds_toArray, List.set_cons_zero, List.set_cons_succ]
                  refine wqv (u := .pointer (some ⟨wr.heap.size, 1, none⟩)) (by kernel_rfl) (fun v hv => by go_simp) ?_
                  simp only [Act.put, List.setIfInBounds_toArray, List.set_cons_zero, List.set_cons_succ]
                  refine wqv (u := .agg #[.int .u64 u.h, .int .u64 u.l]) (by kernel_rfl) (fun v hv => by obtain ⟨⟨y0, y1, y2, y3⟩, ⟨z0, z1, z2, z3⟩⟩ := KB.out v hv; go_simp) ?_
                  simp only [Act.put, List.setIfInBounds_toArray, List.set_cons_zero, List.set_cons_succ]
                  refine wqe (by kernel_rfl) rfl (.agg #[.int .u64 x.h, .int .u64 x.l]) (.agg #[.int .u64 u.h, .int .u64 u.l]) (.bool false) (by kernel_rfl) (by kernel_rfl) (fun v => (eqlDr x.h x.l u.h u.l _ _ v).trans (by rw [HD.out])) ?_
                  simp only [Act.put, List.setIfInBounds_toArray, List.set_cons_zero, List.set_cons_succ]
                  refine wqv (u := .bool false) (by kernel_rfl) (fun v hv => by kernel_rfl) ?_
                  simp only [Act.put, List.setIfInBounds_toArray, List.set_cons_zero, List.set_cons_succ]
                  refine wqskip (by kernel_rfl) ?_
                  simp only [Act.put, List.setIfInBounds_toArray, List.set_cons_zero, List.set_cons_succ]
                  refine wqskip (by kernel_rfl) ?_
                  simp only [Act.put, List.setIfInBounds_toArray, List.set_cons_zero, List.set_cons_succ]
                  refine wqskip (by kernel_rfl) ?_
                  simp only [Act.put, List.setIfInBounds_toArray, List.set_cons_zero, List.set_cons_succ]
                  refine wqskip (by kernel_rfl) ?_
                  simp only [Act.put, List.setIfInBounds_toArray, List.set_cons_zero, List.set_cons_succ]
                  refine wqskip (by kernel_rfl) ?_
                  simp only [Act.put, List.setIfInBounds_toArray, List.set_cons_zero, List.set_cons_succ]
                  refine wqskip (by kernel_rfl) ?_
                  simp only [Act.put, List.setIfInBounds_toArray, List.set_cons_zero, List.set_cons_succ]
                  refine wqskip (by kernel_rfl) ?_
                  simp only [Act.put, List.setIfInBounds_toArray, List.set_cons_zero, List.set_cons_succ]
                  refine wqskip (by kernel_rfl) ?_
                  simp only [Act.put, List.setIfInBounds_toArray, List.set_cons_zero, List.set_cons_succ]
                  refine wqv (u := .bool false) (by kernel_rfl) (fun v hv => by kernel_rfl) ?_
                  simp only [Act.put, List.setIfInBounds_toArray, List.set_cons_zero, List.set_cons_succ]
                  refine wqv (u := .bool false) (by kernel_rfl) (fun v hv => by kernel_rfl) ?_
                  simp only [Act.put, List.setIfInBounds_toArray, List.set_cons_zero, List.set_cons_succ]
                  refine wqnil (fun v hv => ?_)
                  have BV := hide (KW.out v hv)
                  clear hv KB KZ KW hup CB HD nup
                  go_wp2
                  go_round
                  case rel => exact ⟨k + 1, _, by go_num, by omega, rfl, hbn, BV.out⟩
                  case measure => simp [intOf]; omega
            · have hb1 : (u.n != x.n) = true := by simp [hun]
              refine region_q9 (C := fun v => Below (wr.heap.size + 1) (wr.alloc (.cells #[.int .i64 u.n, .int .u64 u.h, .int .u64 u.l, .int .i64 u.p] 55)) v) (by kernel_rfl) (by kernel_rfl) (Below.refl _ _).drew ?_
              refine wqv (u := .pointer (some ⟨wr.heap.size, 0, none⟩)) (by kernel_rfl) (fun v hv => by go_simp) ?_
              simp only [Act.put, List.setIfInBounds_toArray, List.set_cons_zero, List.set_cons_succ]
              refine wqv (u := .int .i64 u.n) (by kernel_rfl) (fun v hv => by obtain ⟨⟨y0, y1, y2, y3⟩, ⟨z0, z1, z2, z3⟩⟩ := KB.out v hv; go_simp) ?_
              simp only [Act.put, List.setIfInBounds_toArray, List.set_cons_zero, List.set_cons_succ]
              refine wqv (u := .slice (some ⟨ql, ol, none⟩) Ls.length cl) (by kernel_rfl) (fun v hv => by kernel_rfl) ?_
              simp only [Act.put, List.setIfInBounds_toArray, List.set_cons_zero, List.set_cons_succ]
              refine wqv (u := .int .i64 (i : Int)) (by kernel_rfl) (fun v hv => by kernel_rfl) ?_
              simp only [Act.put, List.setIfInBounds_toArray, List.set_cons_zero, List.set_cons_succ]
              refine wqv (u := .pointer (some ⟨ql, ol + i * 4, none⟩)) (by kernel_rfl) (fun v hv => by go_simp) ?_
              simp only [Act.put, List.setIfInBounds_toArray, List.set_cons_zero, List.set_cons_succ]
              refine wqv (u := .pointer (some ⟨ql, ol + i * 4, none⟩)) (by kernel_rfl) (fun v hv => by go_simp) ?_
              simp only [Act.put, List.setIfInBounds_toArray, List.set_cons_zero, List.set_cons_succ]
              refine wqv (u := .int .i64 x.n) (by kernel_rfl) (fun v hv => by obtain ⟨⟨y0, y1, y2, y3⟩, ⟨z0, z1, z2, z3⟩⟩ := KB.out v hv; go_simp) ?_
              simp only [Act.put, List.setIfInBounds_toArray, List.set_cons_zero, List.set_cons_succ]
              refine wqv (u := .bool true) (by kernel_rfl) (fun v hv => by go_simp) ?_
              simp only [Act.put, List.setIfInBounds_toArray, List.set_cons_zero, List.set_cons_succ]
              refine wqnil (fun v hv => ?_)
              have BV := hide (KW.out v hv)
              clear hv KB KZ KW hup
              have hbn : Hid (b = decide (x ∈ Vs.take (k + 1))) := by
                show _ = _
                rw [hnx.out, ← hb.out, show decide (x = u) = false from decide_eq_false (fun e => hun (by rw [e])), Bool.or_false]
              clear hb hnx
              go_wp2
              go_round
              case rel => exact ⟨k + 1, b, by go_num, by omega, rfl, hbn, BV.out⟩
              case measure => simp [intOf]; omega
          · obtain rfl : k = n := by omega
            have hbt : b = true := by
              rw [hb.out, List.take_of_length_le (by rw [HN.out]; exact Nat.le_refl _)]
              exact decide_eq_true HT.out.1
            subst hbt
            clear hb
            go_wp2
            go_round
            case rel => exact ⟨i + 1, by go_num, by omega, hbl⟩
            case measure => simp [intOf]; omega
      · have hil : (0 : Int) < (i : Int) := by omega
        have hw1 : IntKind.i64.wrap ((i : Int) - 1) = ((i - 1 : Nat) : Int) := by rw [IntKind.wrap_i64]; omega
        have hg2 : Ls[i - 1]? = some (Ls[i - 1]'(by omega)) := List.getElem?_eq_getElem (by omega)
        obtain ⟨q2, o2, e2, _, y0, _, _, _⟩ := SL.out.AkA hg2
        cases e2
        have hord : Hid ((Ls[i - 1]'(by omega)).n < x.n) := by
          show _ < _
          have hs := List.pairwise_iff_getElem.1 CH.out.srt (i - 1) i (by simp; omega) (by simp; omega) (by omega)
          simp only [List.getElem_map] at hs
          have e := (List.getElem?_eq_some_iff.1 HG.out).2
          rw [e] at hs
          exact hs
        generalize (Ls[i - 1]'(by omega)) = y at *
        have KC : Hid (∀ v, Below w1.heap.size w1 v → v.cell? ⟨ql, ol + (i - 1) * 4, none⟩ = some (.int .i64 y.n) ∧ v.cell? ⟨ql, ol + i * 4, none⟩ = some (.int .i64 x.n)) := fun v hv => ⟨(hv.cell (p := ⟨ql, _, none⟩) hql).trans y0, (KX.out v hv).1⟩
        have hq1 : ¬ (Ls.length ≤ i - 1) := by omega
        have hq2 : i - 1 < Ls.length := by omega
        have hge : ¬ (x.n ≤ y.n) := by have := hord.out; omega
        clear y0 hg2
        refine region_q9 (C := fun v => Below w1.heap.size w1 v) (by kernel_rfl) (by kernel_rfl) hbl.drew ?_
        refine wqv (u := .int .i64 (i : Int)) (by kernel_rfl) (fun v hv => by kernel_rfl) ?_
        simp only [Act.put, List.setIfInBounds_toArray, List.set_cons_zero, List.set_cons_succ]
        refine wqv (u := .bool true) (by kernel_rfl) (fun v hv => by go_simp; omega) ?_
        simp only [Act.put, List.setIfInBounds_toArray, List.set_cons_zero, List.set_cons_succ]
        refine wqv (u := .bool true) (by kernel_rfl) (fun v hv => by kernel_rfl) ?_
        simp only [Act.put, List.setIfInBounds_toArray, List.set_cons_zero, List.set_cons_succ]
        refine wqv (u := .slice (some ⟨ql, ol, none⟩) Ls.length cl) (by kernel_rfl) (fun v hv => by kernel_rfl) ?_
        simp only [Act.put, List.setIfInBounds_toArray, List.set_cons_zero, List.set_cons_succ]
        refine wqv (u := .int .i64 (i : Int)) (by kernel_rfl) (fun v hv => by kernel_rfl) ?_
        simp only [Act.put, List.setIfInBounds_toArray, List.set_cons_zero, List.set_cons_succ]
        refine wqv (u := .int .i64 ((i - 1 : Nat) : Int)) (by kernel_rfl) (fun v hv => by go_simp) ?_
        simp only [Act.put, List.setIfInBounds_toArray, List.set_cons_zero, List.set_cons_succ]
        refine wqv (u := .pointer (some ⟨ql, ol + (i - 1) * 4, none⟩)) (by kernel_rfl) (fun v hv => by go_simp) ?_
        simp only [Act.put, List.setIfInBounds_toArray, List.set_cons_zero, List.set_cons_succ]
        refine wqv (u := .pointer (some ⟨ql, ol + (i - 1) * 4, none⟩)) (by kernel_rfl) (fun v hv => by go_simp) ?_
        simp only [Act.put, List.setIfInBounds_toArray, List.set_cons_zero, List.set_cons_succ]
        refine wqv (u := .int .i64 y.n) (by kernel_rfl) (fun v hv => by obtain ⟨y0, z0⟩ := KC.out v hv; go_simp) ?_
        simp only [Act.put, List.setIfInBounds_toArray, List.set_cons_zero, List.set_cons_succ]
        refine wqv (u := .slice (some ⟨ql, ol, none⟩) Ls.length cl) (by kernel_rfl) (fun v hv => by kernel_rfl) ?_
        simp only [Act.put, List.setIfInBounds_toArray, List.set_cons_zero, List.set_cons_succ]
        refine wqv (u := .int .i64 (i : Int)) (by kernel_rfl) (fun v hv => by kernel_rfl) ?_
        simp only [Act.put, List.setIfInBounds_toArray, List.set_cons_zero, List.set_cons_succ]
        refine wqv (u := .pointer (some ⟨ql, ol + i * 4, none⟩)) (by kernel_rfl) (fun v hv => by go_simp) ?_
        simp only [Act.put, List.setIfInBounds_toArray, List.set_cons_zero, List.set_cons_succ]
        refine wqv (u := .pointer (some ⟨ql, ol + i * 4, none⟩)) (by kernel_rfl) (fun v hv => by go_simp) ?_
        simp only [Act.put, List.setIfInBounds_toArray, List.set_cons_zero, List.set_cons_succ]
        refine wqv (u := .int .i64 x.n) (by kernel_rfl) (fun v hv => by obtain ⟨y0, z0⟩ := KC.out v hv; go_simp) ?_
        simp only [Act.put, List.setIfInBounds_toArray, List.set_cons_zero, List.set_cons_succ]
        refine wqv (u := .bool false) (by kernel_rfl) (fun v hv => by go_simp) ?_
        simp only [Act.put, List.setIfInBounds_toArray, List.set_cons_zero, List.set_cons_succ]
        refine wqv (u := .bool false) (by kernel_rfl) (fun v hv => by kernel_rfl) ?_
        simp only [Act.put, List.setIfInBounds_toArray, List.set_cons_zero, List.set_cons_succ]
        refine wqnil (fun v hv => ?_)
        have HB7 := hide hv
        clear hv
        go_wp2_with fail
        go_loopw [8, 7] (fun i sn wr => ∃ (k : Nat) (b : Bool), i = .int .i64 (k : Int) ∧ k ≤ n ∧ sn = .bool b ∧ Hid (b = decide (x ∈ Vs.take k)) ∧ Below w1.heap.size w1 wr) (fun i _ _ => n - (intOf i).toNat)
        case atStart => exact ⟨0, false, rfl, Nat.zero_le _, rfl, by show false = decide (x ∈ Vs.take 0); simp, HB7.out⟩
        case round =>
          clear HB7
          obtain ⟨k, b, rfl, hk, rfl, hb, hbl⟩ := hrel
          have hsz := hbl.size
          by_cases hkn : k < n
          · have hkl : k < Vs.length := by rw [HN.out]; exact hkn
            have hgv : Vs[k]? = some Vs[k] := List.getElem?_eq_getElem hkl
            obtain ⟨qv, ov, rfl, hqv, u0, u1, u2, u3⟩ := (HV1.out.later hbl).AkA hgv
            have hnx : Hid (decide (x ∈ Vs.take (k + 1)) = (decide (x ∈ Vs.take k) || decide (x = Vs[k]))) := by
              show _ = _
              rw [List.take_add_one, hgv, Option.toList_some, Bool.eq_iff_iff, Bool.or_eq_true, decide_eq_true_iff, decide_eq_true_iff, decide_eq_true_iff, List.mem_append, List.mem_singleton]
            have hup := hide (HT.out.2 Vs[k] (List.getElem_mem hkl))
            clear hgv
            generalize Vs[k] = u at *
            have KB : Hid (∀ v, Below (wr.heap.size + 1) (wr.alloc (.cells #[.int .i64 u.n, .int .u64 u.h, .int .u64 u.l, .int .i64 u.p] 55)) v → (v.cell? ⟨ql, ol + i * 4, none⟩ = some (.int .i64 x.n) ∧ v.cell? ⟨ql, ol + i * 4 + 1, none⟩ = some (.int .u64 x.h) ∧ v.cell? ⟨ql, ol + i * 4 + 2, none⟩ = some (.int .u64 x.l) ∧ v.cell? ⟨ql, ol + i * 4 + 3, none⟩ = some (.int .i64 x.p)) ∧ (v.cell? ⟨wr.heap.size, 0, none⟩ = some (.int .i64 u.n) ∧ v.cell? ⟨wr.heap.size, 1, none⟩ = some (.int .u64 u.h) ∧ v.cell? ⟨wr.heap.size, 2, none⟩ = some (.int .u64 u.l) ∧ v.cell? ⟨wr.heap.size, 3, none⟩ = some (.int .i64 u.p))) := fun v hv =>
              ⟨KX.out v ((hbl.alloc hsz _).trans (hv.mono (by omega))), ⟨(hv.cell (p := ⟨wr.heap.size, 0, none⟩) (by simp)).trans (by simp), (hv.cell (p := ⟨wr.heap.size, 1, none⟩) (by simp)).trans (by simp), (hv.cell (p := ⟨wr.heap.size, 2, none⟩) (by simp)).trans (by simp), (hv.cell (p := ⟨wr.heap.size, 3, none⟩) (by simp)).trans (by simp)⟩⟩
            have KZ : Hid (∀ v, Below (wr.heap.size + 1) (wr.alloc (.cells #[.int .i64 u.n, .int .u64 u.h, .int .u64 u.l, .int .i64 u.p] 55)) v → wr.heap.size + 1 ≤ v.heap.size) := fun v hv => by have := hv.size; simpa using this
            have KW : Hid (∀ v, Below (wr.heap.size + 1) (wr.alloc (.cells #[.int .i64 u.n, .int .u64 u.h, .int .u64 u.l, .int .i64 u.p] 55)) v → Below w1.heap.size w1 v) := fun v hv => (hbl.alloc hsz _).trans (hv.mono (by omega))
            go_wp2_with fail
            by_cases hun : u.n = x.n
            · have hb1 : (u.n != x.n) = false := by simp [hun]
              have nup : Hid (¬ Ak.up u x) := hup.out hun
              clear hun
              refine region_q9 (C := fun v => Below (wr.heap.size + 1) (wr.alloc (.cells #[.int .i64 u.n, .int .u64 u.h, .int .u64 u.l, .int .i64 u.p] 55)) v) (by kernel_rfl) (by kernel_rfl) (Below.refl _ _).drew ?_
              refine wqv (u := .pointer (some ⟨wr.heap.size, 0, none⟩)) (by kernel_rfl) (fun v hv => by go_simp) ?_
              simp only [Act.put, List.setIfInBounds_toArray, List.set_cons_zero, List.set_cons_succ]
              refine wqv (u := .int .i64 u.n) (by kernel_rfl) (fun v hv => by obtain ⟨⟨y0, y1, y2, y3⟩, ⟨z0, z1, z2, z3⟩⟩ := KB.out v hv; go_simp) ?_
              simp only [Act.put, List.setIfInBounds_toArray, List.set_cons_zero, List.set_cons_succ]
              refine wqv (u := .slice (some ⟨ql, ol, none⟩) Ls.length cl) (by kernel_rfl) (fun v hv => by kernel_rfl) ?_
              simp only [Act.put, List.setIfInBounds_toArray, List.set_cons_zero, List.set_cons_succ]
              refine wqv (u := .int .i64 (i : Int)) (by kernel_rfl) (fun v hv => by kernel_rfl) ?_
              simp only [Act.put, List.setIfInBounds_toArray, List.set_cons_zero, List.set_cons_succ]
              refine wqv (u := .pointer (some ⟨ql, ol + i * 4, none⟩)) (by kernel_rfl) (fun v hv => by go_simp) ?_
              simp only [Act.put, List.setIfInBounds_toArray, List.set_cons_zero, List.set_cons_succ]
              refine wqv (u := .pointer (some ⟨ql, ol + i * 4, none⟩)) (by kernel_rfl) (fun v hv => by go_simp) ?_
              simp only [Act.put, List.setIfInBounds_toArray, List.set_cons_zero, List.set_cons_succ]
              refine wqv (u := .int .i64 x.n) (by kernel_rfl) (fun v hv => by obtain ⟨⟨y0, y1, y2, y3⟩, ⟨z0, z1, z2, z3⟩⟩ := KB.out v hv; go_simp) ?_
              simp only [Act.put, List.setIfInBounds_toArray, List.set_cons_zero, List.set_cons_succ]
              refine wqv (u := .bool false) (by kernel_rfl) (fun v hv => by go_simp) ?_
              simp only [Act.put, List.setIfInBounds_toArray, List.set_cons_zero, List.set_cons_succ]
              refine wqnil (fun v hv => ?_)
              have HV := hide hv
              clear hv
              cases b with
              | true =>
                have hbn : Hid (true = decide (x ∈ Vs.take (k + 1))) := by show _ = _; rw [hnx.out, ← hb.out, Bool.true_or]
                clear hb hnx
                go_wp2_with fail
                refine region_q9 (C := fun v => Below (wr.heap.size + 1) (wr.alloc (.cells #[.int .i64 u.n, .int .u64 u.h, .int .u64 u.l, .int .i64 u.p] 55)) v) (by kernel_rfl) (by kernel_rfl) HV.out.drew ?_
                refine wqv (u := .bool true) (by kernel_rfl) (fun v hv => by kernel_rfl) ?_
                simp only [Act.put, List.setIfInBounds_toArray, List.set_cons_zero, List.set_cons_succ]
                refine wqv (u := .bool true) (by kernel_rfl) (fun v hv => by kernel_rfl) ?_
                simp only [Act.put, List.setIfInBounds_toArray, List.set_cons_zero, List.set_cons_succ]
                refine wqskip (by kernel_rfl) ?_
                simp only [Act.put, List.setIfInBounds_toArray, List.set_cons_zero, List.set_cons_succ]
                refine wqskip (by kernel_rfl) ?_
                simp only [Act.put, List.setIfInBounds_toArray, List.set_cons_zero, List.set_cons_succ]
                refine wqskip (by kernel_rfl) ?_
                simp only [Act.put, List.setIfInBounds_toArray, List.set_cons_zero, List.set_cons_succ]
                refine wqskip (by kernel_rfl) ?_
                simp only [Act.put, List.setIfInBounds_toArray, List.set_cons_zero, List.set_cons_succ]
                refine wqskip (by kernel_rfl) ?_
                simp only [Act.put, List.setIfInBounds_toArray, List.set_cons_zero, List.set_cons_succ]
                refine wqskip (by kernel_rfl) ?_
                simp only [Act.put, List.setIfInBounds_toArray, List.set_cons_zero, List.set_cons_succ]
                refine wqv (u := .bool true) (by kernel_rfl) (fun v hv => by kernel_rfl) ?_
                simp only [Act.put, List.setIfInBounds_toArray, List.set_cons_zero, List.set_cons_succ]
                refine wqv (u := .bool true) (by kernel_rfl) (fun v hv => by kernel_rfl) ?_
                simp only [Act.put, List.setIfInBounds_toArray, List.set_cons_zero, List.set_cons_succ]
                refine wqnil (fun v hv => ?_)
                have HV := hide hv
                clear hv
                have CB : Hid (∀ W, Calls Try.prog 30 #[.agg #[.int .u64 x.h, .int .u64 x.l], .agg #[.int .u64 u.h, .int .u64 u.l]] W fun e w' => e = .returned (.bool false) ∧ Below W.heap.size W w') := fun W => by
                  have := below8_any x.h x.l u.h u.l W
                  rw [show decide (x.h < u.h ∨ (x.h = u.h ∧ x.l < u.l)) = false from decide_eq_false (fun e => nup.out (by unfold Ak.up; omega))] at this
                  exact this
                go_wp2_with fail
                by_cases hdq : x.h = u.h ∧ x.l = u.l
                · have HD : Hid (decide (x.h = u.h ∧ x.l = u.l) = true) := decide_eq_true hdq
                  have hpl : ¬ (x.p < u.p) := fun e => nup.out (by unfold Ak.up; omega)
                  clear hdq
                  refine region_q9 (C := fun v => Below (wr.heap.size + 1) (wr.alloc (.cells #[.int .i64 u.n, .int .u64 u.h, .int .u64 u.l, .int .i64 u.p] 55)) v) (by kernel_rfl) (by kernel_rfl) HV.out.drew ?_
                  refine wqv (u := .slice (some ⟨ql, ol, none⟩) Ls.length cl) (by kernel_rfl) (fun v hv => by kernel_rfl) ?_
                  simp only [Act.put, List.setIfInBounds_toArray, List.set_cons_zero, List.set_cons_succ]
                  refine wqv (u := .int .i64 (i : Int)) (by kernel_rfl) (fun v hv => by kernel_rfl) ?_
                  simp only [Act.put, List.setIfInBounds_toArray, List.set_cons_zero, List.set_cons_succ]
                  refine wqv (u := .pointer (some ⟨ql, ol + i * 4, none⟩)) (by kernel_rfl) (fun v hv => by go_simp) ?_
                  simp only [Act.put, List.setIfInBounds_toArray, List.set_cons_zero, List.set_cons_succ]
                  refine wqv (u := .pointer (some ⟨ql, ol + i * 4 + 1, none⟩)) (by kernel_rfl) (fun v hv => by go_simp) ?_
                  simp only [Act.put, List.setIfInBounds_toArray, List.set_cons_zero, List.set_cons_succ]
                  refine wqv (u := .agg #[.int .u64 x.h, .int .u64 x.l]) (by kernel_rfl) (fun v hv => by obtain ⟨⟨y0, y1, y2, y3⟩, ⟨z0, z1, z2, z3⟩⟩ := KB.out v hv; go_simp) ?_
                  simp only [Act.put, List.setIfInBounds_toArray, List.set_cons_zero, List.set_cons_succ]
                  refine wqv (u := .pointer (some ⟨wr.heap.size, 1, none⟩)) (by kernel_rfl) (fun v hv => by go_simp) ?_
                  simp only [Act.put, List.setIfInBounds_toArray, List.set_cons_zero, List.set_cons_succ]
                  refine wqv (u := .agg #[.int .u64 u.h, .int .u64 u.l]) (by kernel_rfl) (fun v hv => by obtain ⟨⟨y0, y1, y2, y3⟩, ⟨z0, z1, z2, z3⟩⟩ := KB.out v hv; go_simp) ?_
                  simp only [Act.put, List.setIfInBounds_toArray, List.set_cons_zero, List.set_cons_succ]
                  refine wqc (fid := 30) (args := #[.agg #[.int .u64 x.h, .int .u64 x.l], .agg #[.int .u64 u.h, .int .u64 u.l]]) (u := .bool false) (by kernel_rfl) (fun v => by kernel_rfl) (fun v hv => (CB.out v).mono fun e w' h => ⟨h.1, hv.trans (h.2.mono (KZ.out v hv))⟩) ?_
                  simp only [Act.put, List.setIfInBounds_toArray, List.set_cons_zero, List.set_cons_succ]
                  refine wqv (u := .bool false) (by kernel_rfl) (fun v hv => by kernel_rfl) ?_
                  simp only [Act.put, List.setIfInBounds_toArray, List.set_cons_zero, List.set_cons_succ]
                  refine wqv (u := .slice (some ⟨ql, ol, none⟩) Ls.length cl) (by kernel_rfl) (fun v hv => by kernel_rfl) ?_
                  simp only [Act.put, List.setIfInBounds_toArray, List.set_cons_zero, List.set_cons_succ]
                  refine wqv (u := .int .i64 (i : Int)) (by kernel_rfl) (fun v hv => by kernel_rfl) ?_
                  simp only [Act.put, List.setIfInBounds_toArray, List.set_cons_zero, List.set_cons_succ]
                  refine wqv (u := .pointer (some ⟨ql, ol + i * 4, none⟩)) (by kernel_rfl) (fun v hv => by go_simp) ?_
                  simp only [Act.put, List.setIfInBounds_toArray, List.set_cons_zero, List.set_cons_succ]
                  refine wqv (u := .pointer (some ⟨ql, ol + i * 4 + 1, none⟩)) (by kernel_rfl) (fun v hv => by go_simp) ?_
                  simp only [Act.put, List.setIfInBounds_toArray, List.set_cons_zero, List.set_cons_succ]
                  refine wqv (u := .agg #[.int .u64 x.h, .int .u64 x.l]) (by kernel_rfl) (fun v hv => by obtain ⟨⟨y0, y1, y2, y3⟩, ⟨z0, z1, z2, z3⟩⟩ := KB.out v hv; go_simp) ?_
                  simp only [Act.put, List.setIfInBounds_toArray, List.set_cons_zero, List.set_cons_succ]
                  refine wqv (u := .pointer (some ⟨wr.heap.size, 1, none⟩)) (by kernel_rfl) (fun v hv => by go_simp) ?_
                  simp only [Act.put, List.setIfInBounds_toArray, List.set_cons_zero, List.set_cons_succ]
                  refine wqv (u := .agg #[.int .u64 u.h, .int .u64 u.l]) (by kernel_rfl) (fun v hv => by obtain ⟨⟨y0, y1, y2, y3⟩, ⟨z0, z1, z2, z3⟩⟩ := KB.out v hv; go_simp) ?_
                  simp only [Act.put, List.setIfInBounds_toArray, List.set_cons_zero, List.set_cons_succ]
                  refine wqe (by kernel_rfl) rfl (.agg #[.int .u64 x.h, .int .u64 x.l]) (.agg #[.int .u64 u.h, .int .u64 u.l]) (.bool true) (by kernel_rfl) (by kernel_rfl) (fun v => (eqlDr x.h x.l u.h u.l _ _ v).trans (by rw [HD.out])) ?_
                  simp only [Act.put, List.setIfInBounds_toArray, List.set_cons_zero, List.set_cons_succ]
                  refine wqv (u := .bool true) (by kernel_rfl) (fun v hv => by kernel_rfl) ?_
                  simp only [Act.put, List.setIfInBounds_toArray, List.set_cons_zero, List.set_cons_succ]
                  refine wqv (u := .pointer (some ⟨wr.heap.size, 3, none⟩)) (by kernel_rfl) (fun v hv => by go_simp) ?_
                  simp only [Act.put, List.setIfInBounds_toArray, List.set_cons_zero, List.set_cons_succ]
                  refine wqv (u := .int .i64 u.p) (by kernel_rfl) (fun v hv => by obtain ⟨⟨y0, y1, y2, y3⟩, ⟨z0, z1, z2, z3⟩⟩ := KB.out v hv; go_simp) ?_
                  simp only [Act.put, List.setIfInBounds_toArray, List.set_cons_zero, List.set_cons_succ]
                  refine wqv (u := .slice (some ⟨ql, ol, none⟩) Ls.length cl) (by kernel_rfl) (fun v hv => by kernel_rfl) ?_
                  simp only [Act.put, List.setIfInBounds_toArray, List.set_cons_zero, List.set_cons_succ]
                  refine wqv (u := .int .i64 (i : Int)) (by kernel_rfl) (fun v hv => by kernel_rfl) ?_
                  simp only [Act.put, List.setIfInBounds_toArray, List.set_cons_zero, List.set_cons_succ]
                  refine wqv (u := .pointer (some ⟨ql, ol + i * 4, none⟩)) (by kernel_rfl) (fun v hv => by go_simp) ?_
                  simp only [Act.put, List.setIfInBounds_toArray, List.set_cons_zero, List.set_cons_succ]
                  refine wqv (u := .pointer (some ⟨ql, ol + i * 4 + 3, none⟩)) (by kernel_rfl) (fun v hv => by go_simp) ?_
                  simp only [Act.put, List.setIfInBounds_toArray, List.set_cons_zero, List.set_cons_succ]
                  refine wqv (u := .int .i64 x.p) (by kernel_rfl) (fun v hv => by obtain ⟨⟨y0, y1, y2, y3⟩, ⟨z0, z1, z2, z3⟩⟩ := KB.out v hv; go_simp) ?_
                  simp only [Act.put, List.setIfInBounds_toArray, List.set_cons_zero, List.set_cons_succ]
                  refine wqv (u := .bool false) (by kernel_rfl) (fun v hv => by go_simp) ?_
                  simp only [Act.put, List.setIfInBounds_toArray, List.set_cons_zero, List.set_cons_succ]
                  refine wqv (u := .bool false) (by kernel_rfl) (fun v hv => by kernel_rfl) ?_
                  simp only [Act.put, List.setIfInBounds_toArray, List.set_cons_zero, List.set_cons_succ]
                  refine wqv (u := .bool false) (by kernel_rfl) (fun v hv => by kernel_rfl) ?_
                  simp only [Act.put, List.setIfInBounds_toArray, List.set_cons_zero, List.set_cons_succ]
                  refine wqnil (fun v hv => ?_)
                  have BV := hide (KW.out v hv)
                  clear hv KB KZ KW hup CB HD nup
                  go_wp2
                  go_round
                  case rel => exact ⟨k + 1, _, by go_num, by omega, rfl, hbn, BV.out⟩
                  case measure => simp [intOf]; omega
                · have HD : Hid (decide (x.h = u.h ∧ x.l = u.l) = false) := decide_eq_false hdq
                  clear hdq
                  refine region_q9 (C := fun v => Below (wr.heap.size + 1) (wr.alloc (.cells #[.int .i64 u.n, .int .u64 u.h, .int .u64 u.l, .int .i64 u.p] 55)) v) (by kernel_rfl) (by kernel_rfl) HV.out.drew ?_
                  refine wqv (u := .slice (some ⟨ql, ol, none⟩) Ls.length cl) (by kernel_rfl) (fun v hv => by kernel_rfl) ?_
                  simp only [Act.put, List.setIfInBounds_toArray, List.set_cons_zero, List.set_cons_succ]
                  refine wqv (u := .int .i64 (i : Int)) (by kernel_rfl) (fun v hv => by kernel_rfl) ?_
                  simp only [Act.put, List.setIfInBounds_toArray, List.set_cons_zero, List.set_cons_succ]
                  refine wqv (u := .pointer (some ⟨ql, ol + i * 4, none⟩)) (by kernel_rfl) (fun v hv => by go_simp) ?_
                  simp only [Act.put, List.setIfInBounds_toArray, List.set_cons_zero, List.set_cons_succ]
                  refine wqv (u := .pointer (some ⟨ql, ol + i * 4 + 1, none⟩)) (by kernel_rfl) (fun v hv => by go_simp) ?_
                  simp only [Act.put, List.setIfInBounds_toArray, List.set_cons_zero, List.set_cons_succ]
                  refine wqv (u := .agg #[.int .u64 x.h, .int .u64 x.l]) (by kernel_rfl) (fun v hv => by obtain ⟨⟨y0, y1, y2, y3⟩, ⟨z0, z1, z2, z3⟩⟩ := KB.out v hv; go_simp) ?_
                  simp only [Act.put, List.setIfInBounds_toArray, List.set_cons_zero, List.set_cons_succ]
                  refine wqv (u := .pointer (some ⟨wr.heap.size, 1, none⟩)) (by kernel_rfl) (fun v hv => by go_simp) ?_
                  simp only [Act.put, List.setIfInBounds_toArray, List.set_cons_zero, List.set_cons_succ]
                  refine wqv (u := .agg #[.int .u64 u.h, .int .u64 u.l]) (by kernel_rfl) (fun v hv => by obtain ⟨⟨y0, y1, y2, y3⟩, ⟨z0, z1, z2, z3⟩⟩ := KB.out v hv; go_simp) ?_
                  simp only [Act.put, List.setIfInBounds_toArray, List.set_cons_zero, List.set_cons_succ]
                  refine wqc (fid := 30) (args := #[.agg #[.int .u64 x.h, .int .u64 x.l], .agg #[.int .u64 u.h, .int .u64 u.l]]) (u := .bool false) (by kernel_rfl) (fun v => by kernel_rfl) (fun v hv => (CB.out v).mono fun e w' h => ⟨h.1, hv.trans (h.2.mono (KZ.out v hv))⟩) ?_
                  simp only [Act.put, List.setIfInBounds_toArray, List.set_cons_zero, List.set_cons_succ]
                  refine wqv (u := .bool false) (by kernel_rfl) (fun v hv => by kernel_rfl) ?_
                  simp only [Act.put, List.setIfInBounds_toArray, List.set_cons_zero, List.set_cons_succ]
                  refine wqv (u := .slice (some ⟨ql, ol, none⟩) Ls.length cl) (by kernel_rfl) (fun v hv => by kernel_rfl) ?_
                  simp only [Act.put, List.setIfInBounds_toArray, List.set_cons_zero, List.set_cons_succ]
                  refine wqv (u := .int .i64 (i : Int)) (by kernel_rfl) (fun v hv => by kernel_rfl) ?_
                  simp only [Act.put, List.setIfInBounds_toArray, List.set_cons_zero, List.set_cons_succ]
                  refine wqv (u := .pointer (some ⟨ql, ol + i * 4, none⟩)) (by kernel_rfl) (fun v hv => by go_simp) ?_
                  simp only [Act.put, List.setIfInBounds_toArray, List.set_cons_zero, List.set_cons_succ]
                  refine wqv (u := .pointer (some ⟨ql, ol + i * 4 + 1, none⟩)) (by kernel_rfl) (fun v hv => by go_simp) ?_
                  simp only [Act.put, List.setIfInBounds_toArray, List.set_cons_zero, List.set_cons_succ]
                  refine wqv (u := .agg #[.int .u64 x.h, .int .u64 x.l]) (by kernel_rfl) (fun v hv => by obtain ⟨⟨y0, y1, y2, y3⟩, ⟨z0, z1, z2, z3⟩⟩ := KB.out v hv; go_simp) ?_
                  simp only [Act.put, List.setIfInBounds_toArray, List.set_cons_zero, List.set_cons_succ]
                  refine wqv (u := .pointer (some ⟨wr.heap.size, 1, none⟩)) (by kernel_rfl) (fun v hv => by go_simp) ?_
                  simp only [Act.put, List.setIfInBounds_toArray, List.set_cons_zero, List.set_cons_succ]
                  refine wqv (u := .agg #[.int .u64 u.h, .int .u64 u.l]) (by kernel_rfl) (fun v hv => by obtain ⟨⟨y0, y1, y2, y3⟩, ⟨z0, z1, z2, z3⟩⟩ := KB.out v hv; go_simp) ?_
                  simp only [Act.put, List.setIfInBounds_toArray, List.set_cons_zero, List.set_cons_succ]
                  refine wqe (by kernel_rfl) rfl (.agg #[.int .u64 x.h, .int .u64 x.l]) (.agg #[.int .u64 u.h, .int .u64 u.l]) (.bool false) (by kernel_rfl) (by kernel_rfl) (fun v => (eqlDr x.h x.l u.h u.l _ _ v).trans (by rw [HD.out])) ?_
                  simp only [Act.put, List.setIfInBounds_toArray, List.set_cons_zero, List.set_cons_succ]
                  refine wqv (u := .bool false) (by kernel_rfl) (fun v hv => by kernel_rfl) ?_
                  simp only [Act.put, List.setIfInBounds_toArray, List.set_cons_zero, List.set_cons_succ]
                  refine wqskip (by kernel_rfl) ?_
                  simp only [Act.put, List.setIfInBounds_toArray, List.set_cons_zero, List.set_cons_succ]
                  refine wqskip (by kernel_rfl) ?_
                  simp only [Act.put, List.setIfInBounds_toArray, List.set_cons_zero, List.set_cons_succ]
                  refine wqskip (by kernel_rfl) ?_
                  simp only [Act.put, List.setIfInBounds_toArray, List.set_cons_zero, List.set_cons_succ]
                  refine wqskip (by kernel_rfl) ?_
                  simp only [Act.put, List.setIfInBounds_toArray, List.set_cons_zero, List.set_cons_succ]
                  refine wqskip (by kernel_rfl) ?_
                  simp only [Act.put, List.setIfInBounds_toArray, List.set_cons_zero, List.set_cons_succ]
                  refine wqskip (by kernel_rfl) ?_
                  simp only [Act.put, List.setIfInBounds_toArray, List.set_cons_zero, List.set_cons_succ]
                  refine wqskip (by kernel_rfl) ?_
                  simp only [Act.put, List.setIfInBounds_toArray, List.set_cons_zero, List.set_cons_succ]
                  refine wqskip (by kernel_rfl) ?_
                  simp only [Act.put, List.setIfInBounds_toArray, List.set_cons_zero, List.set_cons_succ]
                  refine wqv (u := .bool false) (by kernel_rfl) (fun v hv => by kernel_rfl) ?_
                  simp only [Act.put, List.setIfInBounds_toArray, List.set_cons_zero, List.set_cons_succ]
                  refine wqv (u := .bool false) (by kernel_rfl) (fun v hv => by kernel_rfl) ?_
                  simp only [Act.put, List.setIfInBounds_toArray, List.set_cons_zero, List.set_cons_succ]
                  refine wqnil (fun v hv => ?_)
                  have BV := hide (KW.out v hv)
                  clear hv KB KZ KW hup CB HD nup
                  go_wp2
                  go_round
                  case rel => exact ⟨k + 1, _, by go_num, by omega, rfl, hbn, BV.out⟩
                  case measure => simp [intOf]; omega
              | false =>
                have hbn : Hid (decide (u = x) = decide (x ∈ Vs.take (k + 1))) := by
                  show _ = _
                  rw [hnx.out, ← hb.out, Bool.false_or, Bool.eq_iff_iff, decide_eq_true_iff, decide_eq_true_iff]
                  exact eq_comm
                clear hb hnx
                go_wp2_with fail
                refine region_q9 (C := fun v => Below (wr.heap.size + 1) (wr.alloc (.cells #[.int .i64 u.n, .int .u64 u.h, .int .u64 u.l, .int .i64 u.p] 55)) v) (by kernel_rfl) (by kernel_rfl) HV.out.drew ?_
                refine wqv (u := .bool false) (by kernel_rfl) (fun v hv => by kernel_rfl) ?_
                simp only [Act.put, List.setIfInBounds_toArray, List.set_cons_zero, List.set_cons_succ]
                refine wqv (u := .bool false) (by kernel_rfl) (fun v hv => by kernel_rfl) ?_
                simp only [Act.put, List.setIfInBounds_toArray, List.set_cons_zero, List.set_cons_succ]
                refine wqv (u := u.val) (by kernel_rfl) (fun v hv => by obtain ⟨⟨y0, y1, y2, y3⟩, ⟨z0, z1, z2, z3⟩⟩ := KB.out v hv; go_simp; rfl) ?_
                simp only [Act.put, List.setIfInBounds_toArray, List.set_cons_zero, List.set_cons_succ]
                refine wqv (u := .slice (some ⟨ql, ol, none⟩) Ls.length cl) (by kernel_rfl) (fun v hv => by kernel_rfl) ?_
                simp only [Act.put, List.setIfInBounds_toArray, List.set_cons_zero, List.set_cons_succ]
                refine wqv (u := .int .i64 (i : Int)) (by kernel_rfl) (fun v hv => by kernel_rfl) ?_
                simp only [Act.put, List.setIfInBounds_toArray, List.set_cons_zero, List.set_cons_succ]
                refine wqv (u := .pointer (some ⟨ql, ol + i * 4, none⟩)) (by kernel_rfl) (fun v hv => by go_simp) ?_
                simp only [Act.put, List.setIfInBounds_toArray, List.set_cons_zero, List.set_cons_succ]
                refine wqv (u := x.val) (by kernel_rfl) (fun v hv => by obtain ⟨⟨y0, y1, y2, y3⟩, ⟨z0, z1, z2, z3⟩⟩ := KB.out v hv; go_simp; rfl) ?_
                simp only [Act.put, List.setIfInBounds_toArray, List.set_cons_zero, List.set_cons_succ]
                refine wqe (by kernel_rfl) rfl u.val x.val (.bool (decide (u = x))) (by kernel_rfl) (by kernel_rfl) (fun v => eqlAk u x _ _ v) ?_
                simp only [Act.put, List.setIfInBounds_toArray, List.set_cons_zero, List.set_cons_succ]
                refine wqv (u := .bool (decide (u = x))) (by kernel_rfl) (fun v hv => by kernel_rfl) ?_
                simp only [Act.put, List.setIfInBounds_toArray, List.set_cons_zero, List.set_cons_succ]
                refine wqv (u := .bool (decide (u = x))) (by kernel_rfl) (fun v hv => by kernel_rfl) ?_
                simp only [Act.put, List.setIfInBounds_toArray, List.set_cons_zero, List.set_cons_succ]
                refine wqnil (fun v hv => ?_)
                have HV := hide hv
                clear hv
                have CB : Hid (∀ W, Calls Try.prog 30 #[.agg #[.int .u64 x.h, .int .u64 x.l], .agg #[.int .u64 u.h, .int .u64 u.l]] W fun e w' => e = .returned (.bool false) ∧ Below W.heap.size W w') := fun W => by
                  have := below8_any x.h x.l u.h u.l W
                  rw [show decide (x.h < u.h ∨ (x.h = u.h ∧ x.l < u.l)) = false from decide_eq_false (fun e => nup.out (by unfold Ak.up; omega))] at this
                  exact this
                go_wp2_with fail
                by_cases hdq : x.h = u.h ∧ x.l = u.l
                · have HD : Hid (decide (x.h = u.h ∧ x.l = u.l) = true) := decide_eq_true hdq
                  have hpl : ¬ (x.p < u.p) := fun e => nup.out (by unfold Ak.up; omega)
                  clear hdq
                  refine region_q9 (C := fun v => Below (wr.heap.size + 1) (wr.alloc (.cells #[.int .i64 u.n, .int .u64 u.h, .int .u64 u.l, .int .i64 u.p] 55)) v) (by kernel_rfl) (by kernel_rfl) HV.out.drew ?_
                  refine wqv (u := .slice (some ⟨ql, ol, none⟩) Ls.length cl) (by kernel_rfl) (fun v hv => by kernel_rfl) ?_
                  simp only [Act.put, List.setIfInBounds_toArray, List.set_cons_zero, List.set_cons_succ]
                  refine wqv (u := .int .i64 (i : Int)) (by kernel_rfl) (fun v hv => by kernel_rfl) ?_
                  simp only [Act.put, List.setIfInBounds_toArray, List.set_cons_zero, List.set_cons_succ]
                  refine wqv (u := .pointer (some ⟨ql, ol + i * 4, none⟩)) (by kernel_rfl) (fun v hv => by go_simp) ?_
                  simp only [Act.put, List.setIfInBounds_toArray, List.set_cons_zero, List.set_cons_succ]
                  refine wqv (u := .pointer (some ⟨ql, ol + i * 4 + 1, none⟩)) (by kernel_rfl) (fun v hv => by go_simp) ?_
                  simp only [Act.put, List.setIfInBounds_toArray, List.set_cons_zero, List.set_cons_succ]
                  refine wqv (u := .agg #[.int .u64 x.h, .int .u64 x.l]) (by kernel_rfl) (fun v hv => by obtain ⟨⟨y0, y1, y2, y3⟩, ⟨z0, z1, z2, z3⟩⟩ := KB.out v hv; go_simp) ?_
                  simp only [Act.put, List.setIfInBounds_toArray, List.set_cons_zero, List.set_cons_succ]
                  refine wqv (u := .pointer (some ⟨wr.heap.size, 1, none⟩)) (by kernel_rfl) (fun v hv => by go_simp) ?_
                  simp only [Act.put, List.setIfInBounds_toArray, List.set_cons_zero, List.set_cons_succ]
                  refine wqv (u := .agg #[.int .u64 u.h, .int .u64 u.l]) (by kernel_rfl) (fun v hv => by obtain ⟨⟨y0, y1, y2, y3⟩, ⟨z0, z1, z2, z3⟩⟩ := KB.out v hv; go_simp) ?_
                  simp only [Act.put, List.setIfInBounds_toArray, List.set_cons_zero, List.set_cons_succ]
                  refine wqc (fid := 30) (args := #[.agg #[.int .u64 x.h, .int .u64 x.l], .agg #[.int .u64 u.h, .int .u64 u.l]]) (u := .bool false) (by kernel_rfl) (fun v => by kernel_rfl) (fun v hv => (CB.out v).mono fun e w' h => ⟨h.1, hv.trans (h.2.mono (KZ.out v hv))⟩) ?_
                  simp only [Act.put, List.setIfInBounds_toArray, List.set_cons_zero, List.set_cons_succ]
                  refine wqv (u := .bool false) (by kernel_rfl) (fun v hv => by kernel_rfl) ?_
                  simp only [Act.put, List.setIfInBounds_toArray, List.set_cons_zero, List.set_cons_succ]
                  refine wqv (u := .slice (some ⟨ql, ol, none⟩) Ls.length cl) (by kernel_rfl) (fun v hv => by kernel_rfl) ?_
                  simp only [Act.put, List.setIfInBounds_toArray, List.set_cons_zero, List.set_cons_succ]
                  refine wqv (u := .int .i64 (i : Int)) (by kernel_rfl) (fun v hv => by kernel_rfl) ?_
                  simp only [Act.put, List.setIfInBounds_toArray, List.set_cons_zero, List.set_cons_succ]
                  refine wqv (u := .pointer (some ⟨ql, ol + i * 4, none⟩)) (by kernel_rfl) (fun v hv => by go_simp) ?_
                  simp only [Act.put, List.setIfInBounds_toArray, List.set_cons_zero, List.set_cons_succ]
                  refine wqv (u := .pointer (some ⟨ql, ol + i * 4 + 1, none⟩)) (by kernel_rfl) (fun v hv => by go_simp) ?_
                  simp only [Act.put, List.setIfInBounds_toArray, List.set_cons_zero, List.set_cons_succ]
                  refine wqv (u := .agg #[.int .u64 x.h, .int .u64 x.l]) (by kernel_rfl) (fun v hv => by obtain ⟨⟨y0, y1, y2, y3⟩, ⟨z0, z1, z2, z3⟩⟩ := KB.out v hv; go_simp) ?_
                  simp only [Act.put, List.setIfInBounds_toArray, List.set_cons_zero, List.set_cons_succ]
                  refine wqv (u := .pointer (some ⟨wr.heap.size, 1, none⟩)) (by kernel_rfl) (fun v hv => by go_simp) ?_
                  simp only [Act.put, List.setIfInBounds_toArray, List.set_cons_zero, List.set_cons_succ]
                  refine wqv (u := .agg #[.int .u64 u.h, .int .u64 u.l]) (by kernel_rfl) (fun v hv => by obtain ⟨⟨y0, y1, y2, y3⟩, ⟨z0, z1, z2, z3⟩⟩ := KB.out v hv; go_simp) ?_
                  simp only [Act.put, List.setIfInBounds_toArray, List.set_cons_zero, List.set_cons_succ]
                  refine wqe (by kernel_rfl) rfl (.agg #[.int .u64 x.h, .int .u64 x.l]) (.agg #[.int .u64 u.h, .int .u64 u.l]) (.bool true) (by kernel_rfl) (by kernel_rfl) (fun v => (eqlDr x.h x.l u.h u.l _ _ v).trans (by rw [HD.out])) ?_
                  simp only [Act.put, List.setIfInBounds_toArray, List.set_cons_zero, List.set_cons_succ]
                  refine wqv (u := .bool true) (by kernel_rfl) (fun v hv => by kernel_rfl) ?_
                  simp only [Act.put, List.setIfInBounds_toArray, List.set_cons_zero, List.set_cons_succ]
                  refine wqv (u := .pointer (some ⟨wr.heap.size, 3, none⟩)) (by kernel_rfl) (fun v hv => by go_simp) ?_
                  simp only [Act.put, List.setIfInBounds_toArray, List.set_cons_zero, List.set_cons_succ]
                  refine wqv (u := .int .i64 u.p) (by kernel_rfl) (fun v hv => by obtain ⟨⟨y0, y1, y2, y3⟩, ⟨z0, z1, z2, z3⟩⟩ := KB.out v hv; go_simp) ?_
                  simp only [Act.put, List.setIfInBounds_toArray, List.set_cons_zero, List.set_cons_succ]
                  refine wqv (u := .slice (some ⟨ql, ol, none⟩) Ls.length cl) (by kernel_rfl) (fun v hv => by kernel_rfl) ?_
                  simp only [Act.put, List.setIfInBounds_toArray, List.set_cons_zero, List.set_cons_succ]
                  refine wqv (u := .int .i64 (i : Int)) (by kernel_rfl) (fun v hv => by kernel_rfl) ?_
                  simp only [Act.put, List.setIfInBounds_toArray, List.set_cons_zero, List.set_cons_succ]
                  refine wqv (u := .pointer (some ⟨ql, ol + i * 4, none⟩)) (by kernel_rfl) (fun v hv => by go_simp) ?_
                  simp only [Act.put, List.setIfInBounds_toArray, List.set_cons_zero, List.set_cons_succ]
                  refine wqv (u := .pointer (some ⟨ql, ol + i * 4 + 3, none⟩)) (by kernel_rfl) (fun v hv => by go_simp) ?_
                  simp only [Act.put, List.setIfInBounds_toArray, List.set_cons_zero, List.set_cons_succ]
                  refine wqv (u := .int .i64 x.p) (by kernel_rfl) (fun v hv => by obtain ⟨⟨y0, y1, y2, y3⟩, ⟨z0, z1, z2, z3⟩⟩ := KB.out v hv; go_simp) ?_
                  simp only [Act.put, List.setIfInBounds_toArray, List.set_cons_zero, List.set_cons_succ]
                  refine wqv (u := .bool false) (by kernel_rfl) (fun v hv => by go_simp) ?_
                  simp only [Act.put, List.setIfInBounds_toArray, List.set_cons_zero, List.set_cons_succ]
                  refine wqv (u := .bool false) (by kernel_rfl) (fun v hv => by kernel_rfl) ?_
                  simp only [Act.put, List.setIfInBounds_toArray, List.set_cons_zero, List.set_cons_succ]
                  refine wqv (u := .bool false) (by kernel_rfl) (fun v hv => by kernel_rfl) ?_
                  simp only [Act.put, List.setIfInBounds_toArray, List.set_cons_zero, List.set_cons_succ]
                  refine wqnil (fun v hv => ?_)
                  have BV := hide (KW.out v hv)
                  clear hv KB KZ KW hup CB HD nup
                  go_wp2
                  go_round
                  case rel => exact ⟨k + 1, _, by go_num, by omega, rfl, hbn, BV.out⟩
                  case measure => simp [intOf]; omega
                · have HD : Hid (decide (x.h = u.h ∧ x.l = u.l) = false) := decide_eq_false hdq
                  clear hdq
                  refine region_q9 (C := fun v => Below (wr.heap.size + 1) (wr.alloc (.cells #[.int .i64 u.n, .int .u64 u.h, .int .u64 u.l, .int .i64 u.p] 55)) v) (by kernel_rfl) (by kernel_rfl) HV.out.drew ?_
                  refine wqv (u := .slice (some ⟨ql, ol, none⟩) Ls.length cl) (by kernel_rfl) (fun v hv => by kernel_rfl) ?_
                  simp only [Act.put, List.setIfInBounds_toArray, List.set_cons_zero, List.set_cons_succ]
                  refine wqv (u := .int .i64 (i : Int)) (by kernel_rfl) (fun v hv => by kernel_rfl) ?_
                  simp only [Act.put, List.setIfInBounds_toArray, List.set_cons_zero, List.set_cons_succ]
                  refine wqv (u := .pointer (some ⟨ql, ol + i * 4, none⟩)) (by kernel_rfl) (fun v hv => by go_simp) ?_
                  simp only [Act.put, List.setIfInBounds_toArray, List.set_cons_zero, List.set_cons_succ]
                  refine wqv (u := .pointer (some ⟨ql, ol + i * 4 + 1, none⟩)) (by kernel_rfl) (fun v hv => by go_simp) ?_
                  simp only [Act.put, List.setIfInBounds_toArray, List.set_cons_zero, List.set_cons_succ]
                  refine wqv (u := .agg #[.int .u64 x.h, .int .u64 x.l]) (by kernel_rfl) (fun v hv => by obtain ⟨⟨y0, y1, y2, y3⟩, ⟨z0, z1, z2, z3⟩⟩ := KB.out v hv; go_simp) ?_
                  simp only [Act.put, List.setIfInBounds_toArray, List.set_cons_zero, List.set_cons_succ]
                  refine wqv (u := .pointer (some ⟨wr.heap.size, 1, none⟩)) (by kernel_rfl) (fun v hv => by go_simp) ?_
                  simp only [Act.put, List.setIfInBounds_toArray, List.set_cons_zero, List.set_cons_succ]
                  refine wqv (u := .agg #[.int .u64 u.h, .int .u64 u.l]) (by kernel_rfl) (fun v hv => by obtain ⟨⟨y0, y1, y2, y3⟩, ⟨z0, z1, z2, z3⟩⟩ := KB.out v hv; go_simp) ?_
                  simp only [Act.put, List.setIfInBounds_toArray, List.set_cons_zero, List.set_cons_succ]
                  refine wqc (fid := 30) (args := #[.agg #[.int .u64 x.h, .int .u64 x.l], .agg #[.int .u64 u.h, .int .u64 u.l]]) (u := .bool false) (by kernel_rfl) (fun v => by kernel_rfl) (fun v hv => (CB.out v).mono fun e w' h => ⟨h.1, hv.trans (h.2.mono (KZ.out v hv))⟩) ?_
                  simp only [Act.put, List.setIfInBounds_toArray, List.set_cons_zero, List.set_cons_succ]
                  refine wqv (u := .bool false) (by kernel_rfl) (fun v hv => by kernel_rfl) ?_
                  simp only [Act.put, List.setIfInBounds_toArray, List.set_cons_zero, List.set_cons_succ]
                  refine wqv (u := .slice (some ⟨ql, ol, none⟩) Ls.length cl) (by kernel_rfl) (fun v hv => by kernel_rfl) ?_
                  simp only [Act.put, List.setIfInBounds_toArray, List.set_cons_zero, List.set_cons_succ]
                  refine wqv (u := .int .i64 (i : Int)) (by kernel_rfl) (fun v hv => by kernel_rfl) ?_
                  simp only [Act.put, List.setIfInBounds_toArray, List.set_cons_zero, List.set_cons_succ]
                  refine wqv (u := .pointer (some ⟨ql, ol + i * 4, none⟩)) (by kernel_rfl) (fun v hv => by go_simp) ?_
                  simp only [Act.put, List.setIfInBounds_toArray, List.set_cons_zero, List.set_cons_succ]
                  refine wqv (u := .pointer (some ⟨ql, ol + i * 4 + 1, none⟩)) (by kernel_rfl) (fun v hv => by go_simp) ?_
                  simp only [Act.put, List.setIfInBounds_toArray, List.set_cons_zero, List.set_cons_succ]
                  refine wqv (u := .agg #[.int .u64 x.h, .int .u64 x.l]) (by kernel_rfl) (fun v hv => by obtain ⟨⟨y0, y1, y2, y3⟩, ⟨z0, z1, z2, z3⟩⟩ := KB.out v hv; go_simp) ?_
                  simp only [Act.put, List.setIfInBounds_toArray, List.set_cons_zero, List.set_cons_succ]
                  refine wqv (u := .pointer (some ⟨wr.heap.size, 1, none⟩)) (by kernel_rfl) (fun v hv => by go_simp) ?_
                  simp only [Act.put, List.setIfInBounds_toArray, List.set_cons_zero, List.set_cons_succ]
                  refine wqv (u := .agg #[.int .u64 u.h, .int .u64 u.l]) (by kernel_rfl) (fun v hv => by obtain ⟨⟨y0, y1, y2, y3⟩, ⟨z0, z1, z2, z3⟩⟩ := KB.out v hv; go_simp) ?_
                  simp only [Act.put, List.setIfInBounds_toArray, List.set_cons_zero, List.set_cons_succ]
                  refine wqe (by kernel_rfl) rfl (.agg #[.int .u64 x.h, .int .u64 x.l]) (.agg #[.int .u64 u.h, .int .u64 u.l]) (.bool false) (by kernel_rfl) (by kernel_rfl) (fun v => (eqlDr x.h x.l u.h u.l _ _ v).trans (by rw [HD.out])) ?_
                  simp only [Act.put, List.setIfInBounds_toArray, List.set_cons_zero, List.set_cons_succ]
                  refine wqv (u := .bool false) (by kernel_rfl) (fun v hv => by kernel_rfl) ?_
                  simp only [Act.put, List.setIfInBounds_toArray, List.set_cons_zero, List.set_cons_succ]
                  refine wqskip (by kernel_rfl) ?_
                  simp only [Act.put, List.setIfInBounds_toArray, List.set_cons_zero, List.set_cons_succ]
                  refine wqskip (by kernel_rfl) ?_
                  simp only [Act.put, List.setIfInBounds_toArray, List.set_cons_zero, List.set_cons_succ]
                  refine wqskip (by kernel_rfl) ?_
                  simp only [Act.put, List.setIfInBounds_toArray, List.set_cons_zero, List.set_cons_succ]
                  refine wqskip (by kernel_rfl) ?_
                  simp only [Act.put, List.setIfInBounds_toArray, List.set_cons_zero, List.set_cons_succ]
                  refine wqskip (by kernel_rfl) ?_
                  simp only [Act.put, List.setIfInBounds_toArray, List.set_cons_zero, List.set_cons_succ]
                  refine wqskip (by kernel_rfl) ?_
                  simp only [Act.put, List.setIfInBounds_toArray, List.set_cons_zero, List.set_cons_succ]
                  refine wqskip (by kernel_rfl) ?_
                  simp only [Act.put, List.setIfInBounds_toArray, List.set_cons_zero, List.set_cons_succ]
                  refine wqskip (by kernel_rfl) ?_
                  simp only [Act.put, List.setIfInBounds_toArray, List.set_cons_zero, List.set_cons_succ]
                  refine wqv (u := .bool false) (by kernel_rfl) (fun v hv => by kernel_rfl) ?_
                  simp only [Act.put, List.setIfInBounds_toArray, List.set_cons_zero, List.set_cons_succ]
                  refine wqv (u := .bool false) (by kernel_rfl) (fun v hv => by kernel_rfl) ?_
                  simp only [Act.put, List.setIfInBounds_toArray, List.set_cons_zero, List.set_cons_succ]
                  refine wqnil (fun v hv => ?_)
                  have BV := hide (KW.out v hv)
                  clear hv KB KZ KW hup CB HD nup
                  go_wp2
                  go_round
                  case rel => exact ⟨k + 1, _, by go_num, by omega, rfl, hbn, BV.out⟩
                  case measure => simp [intOf]; omega
            · have hb1 : (u.n != x.n) = true := by simp [hun]
              refine region_q9 (C := fun v => Below (wr.heap.size + 1) (wr.alloc (.cells #[.int .i64 u.n, .int .u64 u.h, .int .u64 u.l, .int .i64 u.p] 55)) v) (by kernel_rfl) (by kernel_rfl) (Below.refl _ _).drew ?_
              refine wqv (u := .pointer (some ⟨wr.heap.size, 0, none⟩)) (by kernel_rfl) (fun v hv => by go_simp) ?_
              simp only [Act.put, List.setIfInBounds_toArray, List.set_cons_zero, List.set_cons_succ]
              refine wqv (u := .int .i64 u.n) (by kernel_rfl) (fun v hv => by obtain ⟨⟨y0, y1, y2, y3⟩, ⟨z0, z1, z2, z3⟩⟩ := KB.out v hv; go_simp) ?_
              simp only [Act.put, List.setIfInBounds_toArray, List.set_cons_zero, List.set_cons_succ]
              refine wqv (u := .slice (some ⟨ql, ol, none⟩) Ls.length cl) (by kernel_rfl) (fun v hv => by kernel_rfl) ?_
              simp only [Act.put, List.setIfInBounds_toArray, List.set_cons_zero, List.set_cons_succ]
              refine wqv (u := .int .i64 (i : Int)) (by kernel_rfl) (fun v hv => by kernel_rfl) ?_
              simp only [Act.put, List.setIfInBounds_toArray, List.set_cons_zero, List.set_cons_succ]
              refine wqv (u := .pointer (some ⟨ql, ol + i * 4, none⟩)) (by kernel_rfl) (fun v hv => by go_simp) ?_
              simp only [Act.put, List.setIfInBounds_toArray, List.set_cons_zero, List.set_cons_succ]
              refine wqv (u := .pointer (some ⟨ql, ol + i * 4, none⟩)) (by kernel_rfl) (fun v hv => by go_simp) ?_
              simp only [Act.put, List.setIfInBounds_toArray, List.set_cons_zero, List.set_cons_succ]
              refine wqv (u := .int .i64 x.n) (by kernel_rfl) (fun v hv => by obtain ⟨⟨y0, y1, y2, y3⟩, ⟨z0, z1, z2, z3⟩⟩ := KB.out v hv; go_simp) ?_
              simp only [Act.put, List.setIfInBounds_toArray, List.set_cons_zero, List.set_cons_succ]
              refine wqv (u := .bool true) (by kernel_rfl) (fun v hv => by go_simp) ?_
              simp only [Act.put, List.setIfInBounds_toArray, List.set_cons_zero, List.set_cons_succ]
              refine wqnil (fun v hv => ?_)
              have BV := hide (KW.out v hv)
              clear hv KB KZ KW hup
              have hbn : Hid (b = decide (x ∈ Vs.take (k + 1))) := by
                show _ = _
                rw [hnx.out, ← hb.out, show decide (x = u) = false from decide_eq_false (fun e => hun (by rw [e])), Bool.or_false]
              clear hb hnx
              go_wp2
              go_round
              case rel => exact ⟨k + 1, b, by go_num, by omega, rfl, hbn, BV.out⟩
              case measure => simp [intOf]; omega
          · obtain rfl : k = n := by omega
            have hbt : b = true := by
              rw [hb.out, List.take_of_length_le (by rw [HN.out]; exact Nat.le_refl _)]
              exact decide_eq_true HT.out.1
            subst hbt
            clear hb
            go_wp2
            go_round
            case rel => exact ⟨i + 1, by go_num, by omega, hbl⟩
            case measure => simp [intOf]; omega
    · obtain rfl : i = Ls.length := by omega
      go_wp2_with fail
      go_loopw [10] (fun i wr => ∃ k : Nat, i = .int .i64 (k : Int) ∧ k ≤ n ∧ Below w1.heap.size w1 wr) (fun i _ => n - (intOf i).toNat)
      case atStart => exact ⟨0, rfl, Nat.zero_le _, hbl⟩
      case round =>
        clear hbl hsz
        obtain ⟨k, rfl, hk, hbl⟩ := hrel
        have hsz := hbl.size
        by_cases hkn : k < n
        · have hkl : k < Vs.length := by rw [HN.out]; exact hkn
          have hgv : Vs[k]? = some Vs[k] := List.getElem?_eq_getElem hkl
          obtain ⟨qv, ov, rfl, hqv, u0, _, _, _⟩ := HV1.out.AkA hgv
          have hex := hide (CH.out.all Vs[k] (List.getElem_mem hkl))
          clear hgv
          generalize Vs[k] = u at *
          go_wp2_with fail
          go_loopw [12, 11] (fun i b wr => ∃ (t : Nat) (b' : Bool), i = .int .i64 (t : Int) ∧ t ≤ Ls.length ∧ b = .bool b' ∧ Hid (b' = decide (u.n ∈ (Ls.take t).map (·.n))) ∧ Below w1.heap.size w1 wr) (fun i _ _ => Ls.length - (intOf i).toNat)
          case atStart => exact ⟨0, false, rfl, Nat.zero_le _, rfl, by show false = decide (u.n ∈ (Ls.take 0).map (·.n)); simp, hbl⟩
          case round =>
            clear hbl hsz
            obtain ⟨t, b, rfl, ht, rfl, hb, hbl⟩ := hrel
            have hsz := hbl.size
            by_cases htl : t < Ls.length
            · have hg : Ls[t]? = some Ls[t] := List.getElem?_eq_getElem htl
              obtain ⟨ql, ol, rfl, hql, x0, _, _, _⟩ := SL.out.AkA hg
              have hnx : Hid (decide (u.n ∈ (Ls.take (t + 1)).map (·.n)) = (decide (u.n ∈ (Ls.take t).map (·.n)) || decide (Ls[t].n = u.n))) := by
                show _ = _
                rw [List.take_add_one, hg, Option.toList_some, List.map_append, Bool.eq_iff_iff, Bool.or_eq_true, decide_eq_true_iff, decide_eq_true_iff, decide_eq_true_iff, List.mem_append, List.map_cons, List.map_nil, List.mem_singleton]
                exact or_congr Iff.rfl eq_comm
              clear hg
              generalize Ls[t] = z at *
              have KC : Hid (∀ v, Below w1.heap.size w1 v → v.cell? ⟨ql, ol + t * 4, none⟩ = some (.int .i64 z.n) ∧ v.cell? ⟨qv, ov + k * 4, none⟩ = some (.int .i64 u.n)) := fun v hv => ⟨(hv.cell (p := ⟨ql, _, none⟩) hql).trans x0, (hv.cell (p := ⟨qv, _, none⟩) hqv).trans u0⟩
              cases b with
              | true =>
                have hbn : Hid (true = decide (u.n ∈ (Ls.take (t + 1)).map (·.n))) := by show _ = _; rw [hnx.out, ← hb.out, Bool.true_or]
                clear hb hnx x0
                go_wp2_with fail
                refine region_q9 (C := fun v => Below w1.heap.size w1 v) (by kernel_rfl) (by kernel_rfl) hbl.drew ?_
                refine wqv (u := .bool true) (by kernel_rfl) (fun v hv => by kernel_rfl) ?_
                simp only [Act.put, List.setIfInBounds_toArray, List.set_cons_zero, List.set_cons_succ]
                refine wqv (u := .bool true) (by kernel_rfl) (fun v hv => by kernel_rfl) ?_
                simp only [Act.put, List.setIfInBounds_toArray, List.set_cons_zero, List.set_cons_succ]
                refine wqskip (by kernel_rfl) ?_
                simp only [Act.put, List.setIfInBounds_toArray, List.set_cons_zero, List.set_cons_succ]
                refine wqskip (by kernel_rfl) ?_
                simp only [Act.put, List.setIfInBounds_toArray, List.set_cons_zero, List.set_cons_succ]
                refine wqskip (by kernel_rfl) ?_
                simp only [Act.put, List.setIfInBounds_toArray, List.set_cons_zero, List.set_cons_succ]
                refine wqskip (by kernel_rfl) ?_
                simp only [Act.put, List.setIfInBounds_toArray, List.set_cons_zero, List.set_cons_succ]
                refine wqskip (by kernel_rfl) ?_
                simp only [Act.put, List.setIfInBounds_toArray, List.set_cons_zero, List.set_cons_succ]
                refine wqskip (by kernel_rfl) ?_
                simp only [Act.put, List.setIfInBounds_toArray, List.set_cons_zero, List.set_cons_succ]
                refine wqskip (by kernel_rfl) ?_
                simp only [Act.put, List.setIfInBounds_toArray, List.set_cons_zero, List.set_cons_succ]
                refine wqskip (by kernel_rfl) ?_
                simp only [Act.put, List.setIfInBounds_toArray, List.set_cons_zero, List.set_cons_succ]
                refine wqskip (by kernel_rfl) ?_
                simp only [Act.put, List.setIfInBounds_toArray, List.set_cons_zero, List.set_cons_succ]
                refine wqskip (by kernel_rfl) ?_
                simp only [Act.put, List.setIfInBounds_toArray, List.set_cons_zero, List.set_cons_succ]
                refine wqskip (by kernel_rfl) ?_
                simp only [Act.put, List.setIfInBounds_toArray, List.set_cons_zero, List.set_cons_succ]
                refine wqv (u := .bool true) (by kernel_rfl) (fun v hv => by kernel_rfl) ?_
                simp only [Act.put, List.setIfInBounds_toArray, List.set_cons_zero, List.set_cons_succ]
                refine wqv (u := .bool true) (by kernel_rfl) (fun v hv => by kernel_rfl) ?_
                simp only [Act.put, List.setIfInBounds_toArray, List.set_cons_zero, List.set_cons_succ]
                refine wqnil (fun v hv => ?_)
                clear KC
                go_wp2
                go_round
                case rel => exact ⟨t + 1, _, by go_num, by omega, rfl, hbn, hv⟩
                case measure => simp [intOf]; omega
              | false =>
                have hbn : Hid (decide (z.n = u.n) = decide (u.n ∈ (Ls.take (t + 1)).map (·.n))) := by show _ = _; rw [hnx.out, ← hb.out, Bool.false_or]
                clear hb hnx x0
                go_wp2_with fail
                refine region_q9 (C := fun v => Below w1.heap.size w1 v) (by kernel_rfl) (by kernel_rfl) hbl.drew ?_
                refine wqv (u := .bool false) (by kernel_rfl) (fun v hv => by kernel_rfl) ?_
                simp only [Act.put, List.setIfInBounds_toArray, List.set_cons_zero, List.set_cons_succ]
                refine wqv (u := .bool false) (by kernel_rfl) (fun v hv => by kernel_rfl) ?_
                simp only [Act.put, List.setIfInBounds_toArray, List.set_cons_zero, List.set_cons_succ]
                refine wqv (u := .slice (some ⟨ql, ol, none⟩) Ls.length cl) (by kernel_rfl) (fun v hv => by kernel_rfl) ?_
                simp only [Act.put, List.setIfInBounds_toArray, List.set_cons_zero, List.set_cons_succ]
                refine wqv (u := .int .i64 (t : Int)) (by kernel_rfl) (fun v hv => by kernel_rfl) ?_
                simp only [Act.put, List.setIfInBounds_toArray, List.set_cons_zero, List.set_cons_succ]
                refine wqv (u := .pointer (some ⟨ql, ol + t * 4, none⟩)) (by kernel_rfl) (fun v hv => by go_simp) ?_
                simp only [Act.put, List.setIfInBounds_toArray, List.set_cons_zero, List.set_cons_succ]
                refine wqv (u := .pointer (some ⟨ql, ol + t * 4, none⟩)) (by kernel_rfl) (fun v hv => by go_simp) ?_
                simp only [Act.put, List.setIfInBounds_toArray, List.set_cons_zero, List.set_cons_succ]
                refine wqv (u := .int .i64 z.n) (by kernel_rfl) (fun v hv => by obtain ⟨y0, z0⟩ := KC.out v hv; go_simp) ?_
                simp only [Act.put, List.setIfInBounds_toArray, List.set_cons_zero, List.set_cons_succ]
                refine wqv (u := .slice (some ⟨qv, ov, none⟩) n c) (by kernel_rfl) (fun v hv => by kernel_rfl) ?_
                simp only [Act.put, List.setIfInBounds_toArray, List.set_cons_zero, List.set_cons_succ]
                refine wqv (u := .int .i64 (k : Int)) (by kernel_rfl) (fun v hv => by kernel_rfl) ?_
                simp only [Act.put, List.setIfInBounds_toArray, List.set_cons_zero, List.set_cons_succ]
                refine wqv (u := .pointer (some ⟨qv, ov + k * 4, none⟩)) (by kernel_rfl) (fun v hv => by go_simp) ?_
                simp only [Act.put, List.setIfInBounds_toArray, List.set_cons_zero, List.set_cons_succ]
                refine wqv (u := .pointer (some ⟨qv, ov + k * 4, none⟩)) (by kernel_rfl) (fun v hv => by go_simp) ?_
                simp only [Act.put, List.setIfInBounds_toArray, List.set_cons_zero, List.set_cons_succ]
                refine wqv (u := .int .i64 u.n) (by kernel_rfl) (fun v hv => by obtain ⟨y0, z0⟩ := KC.out v hv; go_simp) ?_
                simp only [Act.put, List.setIfInBounds_toArray, List.set_cons_zero, List.set_cons_succ]
                refine wqv (u := .bool (decide (z.n = u.n))) (by kernel_rfl) (fun v hv => by go_simp; rfl) ?_
                simp only [Act.put, List.setIfInBounds_toArray, List.set_cons_zero, List.set_cons_succ]
                refine wqv (u := .bool (decide (z.n = u.n))) (by kernel_rfl) (fun v hv => by kernel_rfl) ?_
                simp only [Act.put, List.setIfInBounds_toArray, List.set_cons_zero, List.set_cons_succ]
                refine wqv (u := .bool (decide (z.n = u.n))) (by kernel_rfl) (fun v hv => by kernel_rfl) ?_
                simp only [Act.put, List.setIfInBounds_toArray, List.set_cons_zero, List.set_cons_succ]
                refine wqnil (fun v hv => ?_)
                clear KC
                go_wp2
                go_round
                case rel => exact ⟨t + 1, _, by go_num, by omega, rfl, hbn, hv⟩
                case measure => simp [intOf]; omega
            · obtain rfl : t = Ls.length := by omega
              have hbt : b = true := by
                rw [hb.out, List.take_length]
                obtain ⟨z, hz, e⟩ := hex.out
                exact decide_eq_true (List.mem_map.2 ⟨z, hz, e⟩)
              subst hbt
              clear hb
              go_wp2
              go_round
              case rel => exact ⟨k + 1, by go_num, by omega, hbl⟩
              case measure => simp [intOf]; omega
        · obtain rfl : k = n := by omega
          obtain ⟨Wn, hWn⟩ : ∃ Wn : Nat, 0 < k → ((Wn : Int) = from_ % (k : Int) ∧ Wn < k) := ⟨(from_ % (k : Int)).toNat, fun h0 => by
            have h1 := Int.emod_nonneg from_ (b := (k : Int)) (by omega)
            have h2 := Int.emod_lt_of_pos from_ (b := (k : Int)) (by omega)
            omega⟩
          have HW := hide hWn
          clear hWn
          go_wp2_with fail
          go_loopw [15, 13] (fun i m wr => ∃ (j : Nat) (Os : List Ak), i = .int .i64 (j : Int) ∧ j ≤ k ∧ Hid (OwnY yAkA w1.heap.size wr m Os) ∧ Hid (Os = (List.range j).map (fun r => Vs.getD ((Wn + k - r) % k) yAkA.z)) ∧ Below w1.heap.size w1 wr) (fun i _ _ => k - (intOf i).toNat)
          case atStart => exact ⟨0, [], rfl, Nat.zero_le _, OwnY.nil _ _ _, rfl, hbl⟩
          case round =>
            clear hbl hsz
            obtain ⟨j, Os, rfl, hj, hO, hOs, hbl⟩ := hrel
            have hsz := hbl.size
            by_cases hjk : j < k
            · have h0 : 0 < k := by omega
              obtain ⟨hW1, hW2⟩ := HW.out h0
              obtain ⟨idx, hidx⟩ : ∃ idx, idx = (Wn + k - j) % k := ⟨_, rfl⟩
              have hix : idx < k := by rw [hidx]; exact Nat.mod_lt _ h0
              have hxl : idx < Vs.length := by rw [HN.out]; exact hix
              have hgv : Vs[idx]? = some Vs[idx] := List.getElem?_eq_getElem hxl
              obtain ⟨qv, ov, rfl, hqv, u0, u1, u2, u3⟩ := (HV1.out.later hbl).AkA hgv
              have hOn : Hid (Os ++ [Vs[idx]] = (List.range (j + 1)).map (fun r => Vs.getD ((Wn + k - r) % k) yAkA.z)) := by
                show _ = _
                rw [List.range_succ, List.map_append, ← hOs.out, List.map_cons, List.map_nil, ← hidx, List.getD_eq_getElem?_getD, hgv, Option.getD_some]
              have hOl : Hid (Os.length < k) := by show _ < _; rw [hOs.out]; simp; omega
              have hw1 : IntKind.i64.wrap ((k : Int) - 1) = (k : Int) - 1 := by rw [IntKind.wrap_i64]; omega
              have cw : Hid (∀ W, Calls Try.prog 31 #[.int .i64 from_, .int .i64 ((k : Int) - 1)] W fun e w' => e = .returned (.int .i64 (Wn : Int)) ∧ w' = W) := fun W => by
                have := within8_any from_ ((k : Int) - 1) W (by omega) (by omega)
                rw [show (k : Int) - 1 + 1 = (k : Int) by omega, ← hW1] at this
                exact this
              have hw2 : IntKind.i64.wrap ((Wn : Int) + (k : Int)) = (Wn : Int) + (k : Int) := by rw [IntKind.wrap_i64]; omega
              have hw3 : IntKind.i64.wrap ((Wn : Int) + (k : Int) - (j : Int)) = (Wn : Int) + (k : Int) - (j : Int) := by rw [IntKind.wrap_i64]; omega
              have htm : Int.tmod ((Wn : Int) + (k : Int) - (j : Int)) (k : Int) = (idx : Int) := by
                rw [Int.tmod_eq_emod_of_nonneg (by omega), hidx, show (Wn : Int) + (k : Int) - (j : Int) = ((Wn + k - j : Nat) : Int) by omega]
                rfl
              have hwi : IntKind.i64.wrap (idx : Int) = (idx : Int) := by rw [IntKind.wrap_i64]; omega
              have hk1 : ((k : Int) == 0) = false := by simp; omega
              have hk2 : ¬ ((k : Int) = 0) := by omega
              clear hgv hOs hidx hW1
              generalize Vs[idx] = u at *
              have OA := hide (hO.out.alloc (.cells #[.int .i64 u.n, .int .u64 u.h, .int .u64 u.l, .int .i64 u.p] 55))
              have SB := hide (sl_box (Y := yAkA) wr u 55)
              have BA := hide (hbl.alloc hsz (.cells #[.int .i64 u.n, .int .u64 u.h, .int .u64 u.l, .int .i64 u.p] 55))
              clear hO
              go_wp2_with fail
              refine (cw.out _).mono ?_
              rintro e w1' ⟨rfl, rfl⟩
              dsimp only
              go_wp2_with (at_builtin; go_must (refine appY kAkA _ rfl (.tmp 137) (.tmp 151) rfl w1.heap.size Os _ rfl (some ⟨_, 0, none⟩) 1 1 rfl [u] SB.out OA.out (by simp; omega) (by have := hOl.out; unfold maxLen; omega) (by have := hOl.out; show (Os.length + 1) * 32 ≤ _; omega) ?zk))
              intro v2 w2 o2 g2 _
              have O2 := hide o2
              have B2 := hide (OA.out.grown BA.out g2 (by simp; omega))
              clear o2 g2 OA SB BA cw u0 u1 u2 u3
              go_wp2
              go_round
              case rel => exact ⟨j + 1, _, by go_num, by omega, O2, hOn, B2.out⟩
              case measure => simp [intOf]; omega
            · obtain rfl : j = k := by omega
              have hmem : ∀ y, y ∈ Os ↔ y ∈ Vs := fun y => by
                rw [hOs.out, List.mem_map]
                constructor
                · rintro ⟨r, hr, rfl⟩
                  have h0 : 0 < j := by have := List.mem_range.1 hr; omega
                  have hx : (Wn + j - r) % j < Vs.length := by rw [HN.out]; exact Nat.mod_lt _ h0
                  rw [List.getD_eq_getElem?_getD, List.getElem?_eq_getElem hx, Option.getD_some]
                  exact List.getElem_mem hx
                · intro hy
                  obtain ⟨q, hq, rfl⟩ := List.mem_iff_getElem.1 hy
                  have hqj : q < j := by rw [← HN.out]; exact hq
                  obtain ⟨_, hW2⟩ := HW.out (by omega)
                  by_cases hqw : q ≤ Wn
                  · refine ⟨Wn - q, List.mem_range.2 (by omega), ?_⟩
                    have e : (Wn + j - (Wn - q)) % j = q := by
                      rw [show Wn + j - (Wn - q) = q + j by omega, Nat.add_mod_right, Nat.mod_eq_of_lt hqj]
                    rw [e, List.getD_eq_getElem?_getD, List.getElem?_eq_getElem hq, Option.getD_some]
                  · refine ⟨Wn + j - q, List.mem_range.2 (by omega), ?_⟩
                    have e : (Wn + j - (Wn + j - q)) % j = q := by
                      rw [show Wn + j - (Wn + j - q) = q by omega, Nat.mod_eq_of_lt hqj]
                    rw [e, List.getD_eq_getElem?_getD, List.getElem?_eq_getElem hq, Option.getD_some]
              have hML : Ak.puts [] Os = Ls := (Ch.all_of Os).uniq CH.out hmem
              have hOlen : Hid (Os.length = j) := by show _ = _; rw [hOs.out]; simp
              have OO := hO.out
              clear hO hOs hmem
              obtain ⟨ao, co, rfl, so, _⟩ := OO.sl kAkA
              have cp2 := putlaw_any Os ao Os.length co wr so (by rw [hOlen.out]; omega)
              rw [hML] at cp2
              have CP2 := hide cp2
              have hoc := so.cap
              have hom := so.max
              unfold maxLen at hom
              clear cp2 so OO hML
              go_wp2_with fail
              refine CP2.out.mono ?_
              rintro e wm ⟨am, cm, rfl, sm, bm⟩
              have zm := bm.size
              have Bm := hide (hbl.trans (bm.mono hsz))
              have SM := hide sm
              have hmc := sm.cap
              have hmm := sm.max
              unfold maxLen at hmm
              clear CP2 bm sm hbl
              dsimp only
              go_wp2_with fail
              go_loopw [18, 17] (fun i m wr => ∃ (t : Nat) (ag : Option Addr) (cg : Nat), i = .int .i64 (t : Int) ∧ t ≤ j ∧ m = .slice ag Ls.length cg ∧ Hid (SlY yAkA wr ag Ls.length cg Ls) ∧ Below wm.heap.size wm wr) (fun i _ _ => j - (intOf i).toNat)
              case atStart => exact ⟨0, am, cm, rfl, Nat.zero_le _, rfl, SM, Below.refl _ _⟩
              case round =>
                clear hsz
                obtain ⟨t, ag, cg, rfl, ht, rfl, hG, hbl⟩ := hrel
                have hsz := hbl.size
                have bw1 := hide (Bm.out.trans (hbl.mono Bm.out.size))
                have hgc := hG.out.cap
                have hgm := hG.out.max
                unfold maxLen at hgm
                by_cases htj : t < j
                · have htl : t < Vs.length := by rw [HN.out]; exact htj
                  have hgv : Vs[t]? = some Vs[t] := List.getElem?_eq_getElem htl
                  obtain ⟨qv, ov, rfl, hqv, u0, u1, u2, u3⟩ := (HV1.out.later bw1.out).AkA hgv
                  have hput : Ak.put Ls Vs[t] = Ls := (CH.out.put Vs[t]).uniq CH.out (fun y => ⟨fun h => h.elim id (fun e => by rw [e]; exact List.getElem_mem htl), .inl⟩)
                  clear hgv
                  generalize Vs[t] = u at *
                  have cp3 := Ak.Put_any Ls u ag Ls.length cg wr hG.out (by have := hllen.out; omega)
                  rw [hput] at cp3
                  unfold Ak.val at cp3
                  have CP3 := hide cp3
                  clear cp3 hput hG
                  go_wp2_with fail
                  refine CP3.out.mono ?_
                  rintro e w2 ⟨v2, rfl, o2, b2⟩
                  obtain ⟨ag2, cg2, rfl, s2, _⟩ := o2.sl kAkA
                  have S2 := hide s2
                  have B2 := hide (hbl.trans (b2.mono hsz))
                  clear o2 s2 b2 CP3
                  dsimp only
                  go_wp2
                  go_round
                  case rel => exact ⟨t + 1, ag2, cg2, by go_num, by omega, rfl, S2, B2.out⟩
                  case measure => simp [intOf]; omega
                · obtain rfl : t = j := by omega
                  have c1 := hide (sameacks_any Ls al am Ls.length cl cm wr (SL.out.later bw1.out) (SM.out.later hbl))
                  have c2 := hide (fun d => sameacks_any Ls al ag Ls.length cl cg (wr.drewN d) ((SL.out.later bw1.out).drewN d) (hG.out.drewN d))
                  have BF := hide (fun d => below_drewN (B1.out.trans (bw1.out.mono B1.out.size)) d)
                  clear SL SM hG HV1 CH
                  go_wp2_with fail
                  refine c1.out.mono ?_
                  rintro e w7 ⟨rfl, d, rfl⟩
                  dsimp only
                  go_wp2_with fail
                  refine (c2.out d).mono ?_
                  rintro e w7 ⟨rfl, d', rfl⟩
                  dsimp only
                  go_wp2
                  go_ret
                  exact ⟨rfl, BF.out (d + d')⟩
theorem once_came (from_ : Int) (a : Option Addr) (n c : Nat) (w : World) (h : CameAk w a n c) :
    Calls Try.prog 5 #[.slice a n c, .int .i64 from_] w fun e w' => e = .returned (.bool true) ∧ Below w.heap.size w w' := by
  obtain ⟨P, h1, h2⟩ := h
  exact once_walk from_ P a n c w h1 h2

end Go.Proofs.Ytnhonkgondljjaa
