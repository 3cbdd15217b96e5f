import Derived.Test.YtjabbplfbjaenaaA6
set_option maxRecDepth 100000
set_option linter.unusedVariables false
set_option linter.unusedSimpArgs false
namespace Go.Proofs.Ytjabbplfbjaenaa
open Go.RowKit Go.Maps
open Classical
theorem ixP62 (q o n c j : Nat) (hj : j < n) (w : World) : (Instr.indexAt 47 (.slice (some ⟨q, o, none⟩) n c) (.int .i64 (j : Int))).run Try.prog w = .ok (.pointer (some ⟨q, o + j * 9, none⟩)) w := by
  have h1 : (j : Int) < (n : Int) := by omega
  go_simp
theorem faP0 (q o : Nat) (w : World) : (Instr.fieldAt 51 (.pointer (some ⟨q, o, none⟩)) 0).run Try.prog w = .ok (.pointer (some ⟨q, o, none⟩)) w := by go_simp
theorem faP1 (q o : Nat) (w : World) : (Instr.fieldAt 51 (.pointer (some ⟨q, o, none⟩)) 1).run Try.prog w = .ok (.pointer (some ⟨q, o + 3, none⟩)) w := by go_simp
theorem faP2 (q o : Nat) (w : World) : (Instr.fieldAt 51 (.pointer (some ⟨q, o, none⟩)) 2).run Try.prog w = .ok (.pointer (some ⟨q, o + 4, none⟩)) w := by go_simp
theorem faP3 (q o : Nat) (w : World) : (Instr.fieldAt 51 (.pointer (some ⟨q, o, none⟩)) 3).run Try.prog w = .ok (.pointer (some ⟨q, o + 5, none⟩)) w := by go_simp
theorem faP4 (q o : Nat) (w : World) : (Instr.fieldAt 51 (.pointer (some ⟨q, o, none⟩)) 4).run Try.prog w = .ok (.pointer (some ⟨q, o + 6, none⟩)) w := by go_simp
theorem ldB62 {w : World} {q o : Nat} {b : Bool} (h : w.cell? ⟨q, o, none⟩ = some (.bool b)) : (Instr.loadAt 4 (.pointer (some ⟨q, o, none⟩))).run Try.prog w = .ok (.bool b) w := by go_simp
def oV (o : Opn) : Value := .agg #[.int .i64 o.k, .int .i64 o.s, .string o.v]
theorem ldPO {w : World} {q o : Nat} {l : List Sp} (h : LieY yP w q o l) {j : Nat} {x : Sp} (hx : l[j]? = some x) : (Instr.loadAt 41 (.pointer (some ⟨q, o + j * 9, none⟩))).run Try.prog w = .ok (oV x.o) w :=
  run_loadAt_mid (P := Try.prog) w q (o + j * 9) 41 [.int .i64 x.o.k, .int .i64 x.o.s, .string x.o.v] _ (fun i v hv => by
    match i, hv with
    | 0, hv => exact h j x hx 0 v hv
    | 1, hv => exact h j x hx 1 v hv
    | 2, hv => exact h j x hx 2 v hv
    | i + 3, hv => simp at hv) Try.underlying41 rfl info3o
theorem ldPR {w : World} {q o : Nat} {l : List Sp} (h : LieY yP w q o l) {j : Nat} {x : Sp} (hx : l[j]? = some x) : (Instr.loadAt 43 (.pointer (some ⟨q, o + j * 9 + 6, none⟩))).run Try.prog w = .ok (rV x.r) w :=
  run_loadAt_mid (P := Try.prog) w q (o + j * 9 + 6) 43 [.int .i64 x.r.1, .int .i64 x.r.2.1, .string x.r.2.2] _ (fun i v hv => by
    match i, hv with
    | 0, hv => exact h j x hx 6 v hv
    | 1, hv => exact h j x hx 7 v hv
    | 2, hv => exact h j x hx 8 v hv
    | i + 3, hv => simp at hv) Try.underlying43 rfl info3r
theorem BB.ldr62 {w : World} {q : Nat} {T : TypeId} {r : Rs} (h : BB w q T (rsC r)) : (Instr.loadAt 43 (.pointer (some ⟨q, 0, none⟩))).run Try.prog w = .ok (rV r) w := h.ld 43 Try.underlying43 rfl info3r
theorem BB.str62 {w : World} {q : Nat} {T : TypeId} {r0 : Rs} (h : BB w q T (rsC r0)) (r : Rs) : (Instr.storeAt 43 (.pointer (some ⟨q, 0, none⟩)) (rV r)).run Try.prog w = .ok () (w.setCells q 0 (rsC r)) := h.st 43 (rsC r) rfl info3r (oneR18 r)
theorem BB.stKr {w : World} {q : Nat} {T : TypeId} {x : Kl} (h : BB w q T x.cs) (r : Rs) : (Instr.storeAt 43 (.pointer (some ⟨q, 7, none⟩)) (rV r)).run Try.prog w = .ok () (w.setCells q 7 (rsC r)) :=
  run_storeAt_mid (P := Try.prog) w q 7 43 (rsC r).toArray (fun j hj => ⟨by
    have hj : j < 3 := hj
    rw [h.cell, List.getElem?_eq_getElem (by show 7 + j < 10; omega)]
    rfl, h.free _⟩) info3r (oneR18 r)
theorem BB.putKr {w : World} {q : Nat} {T : TypeId} {x : Kl} (h : BB w q T x.cs) (r : Rs) : BB (w.setCells q 7 (rsC r)) q T ({ x with r := r } : Kl).cs := ((h.set1 7 (.int .i64 r.1)).set1 8 (.int .i64 r.2.1)).set1 9 (.string r.2.2)
theorem BB.putKe {w : World} {q : Nat} {T : TypeId} {x : Kl} (h : BB w q T x.cs) (e : Int) : BB (w.setCell ⟨q, 6, none⟩ (.int .i64 e)) q T ({ x with e := e } : Kl).cs := h.set1 6 (.int .i64 e)
theorem bdC62 (c n b e : Int) (o : Opn) (w : World) : (Instr.build 45 #[(0, .int .i64 c), (1, .int .i64 n), (2, oV o), (3, .int .i64 b), (4, .int .i64 e)]).run Try.prog w = .ok (⟨c, n, o, b, e, (0, 0, ⟨#[]⟩)⟩ : Kl).val w := by
  unfold Kl.val oV
  go_simp
theorem bdr62 (w : World) : (Instr.build 43 #[]).run Try.prog w = .ok (rV (0, 0, ⟨#[]⟩)) w := by kernel_rfl
theorem eqlR62 (x y : Operand) (r r' : Rs) (w : World) : (do eqGuard .eql 43 x y (rV r) (rV r'); binOp .eql 43 (rV r) (rV r') : Sem Value).run Try.prog w = .ok (.bool (decide (r = r'))) w := by
  have h := eqlRs x y r r' w
  exact h
theorem addZ62 (x y : Operand) (a b : Int) (h : -9223372036854775808 ≤ a + b ∧ a + b ≤ 9223372036854775807) (w : World) : (do eqGuard .add 3 x y (.int .i64 a) (.int .i64 b); binOp .add 3 (.int .i64 a) (.int .i64 b) : Sem Value).run Try.prog w = .ok (.int .i64 (a + b)) w := by
  have hwr : IntKind.i64.wrap (a + b) = a + b := by rw [IntKind.wrap_i64]; omega
  go_simp
theorem neqT62 (x y : Operand) {a b : Int} (h : ¬ a = b) (w : World) : (do eqGuard .neq 3 x y (.int .i64 a) (.int .i64 b); binOp .neq 3 (.int .i64 a) (.int .i64 b) : Sem Value).run Try.prog w = .ok (.bool true) w := by
  have := neqC x y a b w
  rw [decide_eq_false h] at this
  exact this
theorem neqF62 (x y : Operand) {a b : Int} (h : a = b) (w : World) : (do eqGuard .neq 3 x y (.int .i64 a) (.int .i64 b); binOp .neq 3 (.int .i64 a) (.int .i64 b) : Sem Value).run Try.prog w = .ok (.bool false) w := by
  have := neqC x y a b w
  rw [decide_eq_true h] at this
  exact this
theorem eqT62 (x y : Operand) {a b : Int} (h : a = b) (w : World) : (do eqGuard .eql 3 x y (.int .i64 a) (.int .i64 b); binOp .eql 3 (.int .i64 a) (.int .i64 b) : Sem Value).run Try.prog w = .ok (.bool true) w := by
  have := eqlC x y a b w
  rw [decide_eq_true h] at this
  exact this
theorem neBf62 (x y : Operand) (a : Bool) (w : World) : (do eqGuard .neq 4 x y (.bool a) (.bool a); binOp .neq 4 (.bool a) (.bool a) : Sem Value).run Try.prog w = .ok (.bool false) w := by cases a <;> kernel_rfl
theorem ltT62 (x y : Operand) {a b : Int} (h : a < b) (w : World) : (do eqGuard .lss 3 x y (.int .i64 a) (.int .i64 b); binOp .lss 3 (.int .i64 a) (.int .i64 b) : Sem Value).run Try.prog w = .ok (.bool true) w := by
  go_simp
theorem ltF62 (x y : Operand) {a b : Int} (h : ¬ a < b) (w : World) : (do eqGuard .lss 3 x y (.int .i64 a) (.int .i64 b); binOp .lss 3 (.int .i64 a) (.int .i64 b) : Sem Value).run Try.prog w = .ok (.bool false) w := by
  go_simp
theorem remZ62 (x y : Operand) (k b : Int) (h0 : 0 < b) (h1 : b ≤ 1000000) (w : World) : (do eqGuard .rem 3 x y (.int .i64 k) (.int .i64 b); binOp .rem 3 (.int .i64 k) (.int .i64 b) : Sem Value).run Try.prog w = .ok (.int .i64 (k.tmod b)) w := by
  have h2 := Int.tmod_lt_of_pos k h0
  have h3 := Int.lt_tmod_of_pos k h0
  have hw : IntKind.i64.wrap (k.tmod b) = k.tmod b := by rw [IntKind.wrap_i64]; omega
  have hz : ¬ b = 0 := by omega
  go_simp
def LieAt {α : Type} (Y : Lay α) (w : World) (q o : Nat) (l : List α) : Prop := q < w.heap.size ∧ LieY Y w q o l
theorem LieAt.later {α : Type} {Y : Lay α} {w w' : World} {q o : Nat} {l : List α} (h : LieAt Y w q o l) (hb : Below w.heap.size w w') : LieAt Y w' q o l := ⟨Nat.lt_of_lt_of_le h.1 hb.size, h.2.upd (S := fun _ => False) (Upd.of_below hb) h.1 id⟩
def wi62 (k : Int) : Int := if k.tmod (5 + 1) < 0 then k.tmod (5 + 1) + 5 + 1 else k.tmod (5 + 1)
theorem wi62_in (k : Int) : 0 ≤ wi62 k ∧ wi62 k ≤ 5 := by
  have h2 := Int.tmod_lt_of_pos k (show (0 : Int) < 5 + 1 by omega)
  have h3 := Int.lt_tmod_of_pos k (show (0 : Int) < 5 + 1 by omega)
  unfold wi62
  split <;> omega
structure Gd (D : List Kl) (row : Int) (j : Nat) : Prop where
  few : D.length ≤ 8
  seq : OneByOne D
  fit : ∀ x ∈ D, x.fits
  may : ∀ x ∈ D, mayK x = true
  num : ∀ x ∈ D, 1 ≤ x.n ∧ x.n ≤ (j : Int)
  inc : D.Pairwise fun x y => x.n < y.n
  rows : ∀ x ∈ D, x.e ≤ row
  low : 0 ≤ row
  top : row ≤ 12 * (D.length : Int)
theorem Gd.nil : Gd [] 0 0 := ⟨by decide, ⟨fun i x h => by simp at h, fun i j x y _ h => by simp at h⟩, by simp, by simp, by simp, List.Pairwise.nil, by simp, Int.le_refl _, by simp⟩
theorem Gd.skip {D : List Kl} {row : Int} {j : Nat} (h : Gd D row j) : Gd D row (j + 1) := ⟨h.few, h.seq, h.fit, h.may, fun x hx => by have := h.num x hx; omega, h.inc, h.rows, h.low, h.top⟩
theorem get_snoc {α : Type} {D : List α} {x y : α} {i : Nat} (h : (D ++ [x])[i]? = some y) : (i < D.length ∧ D[i]? = some y) ∨ (i = D.length ∧ y = x) := by
  by_cases hi : i < D.length
  · rw [List.getElem?_append_left hi] at h
    exact .inl ⟨hi, h⟩
  · rw [List.getElem?_append_right (by omega)] at h
    have h0 : i - D.length < 1 := (List.getElem?_eq_some_iff.1 h).1
    rw [show i - D.length = 0 by omega] at h
    cases h
    exact .inr ⟨by omega, rfl⟩
theorem Gd.more {D : List Kl} {row : Int} {j : Nat} (h : Gd D row j) (h8 : D.length < 8) (hj : (j : Int) ≤ 9000000000000000000) (o : Opn) (ho : o.fits) (hc : ck o.k o.s o.v = 0) (a b : Int) (ha : 0 ≤ a ∧ a ≤ 5) (hb : 0 ≤ b ∧ b ≤ 5) (r : Rs) (hr : r.2.2.size ≤ maxLen) :
    Gd (D ++ [⟨((j : Int)).tmod 16, 1 + (j : Int), o, row + 1 + a, row + 1 + a + 1 + b, r⟩]) (row + 1 + a + 1 + b) (j + 1) := by
  have ht := h.top
  have hl := h.low
  have hlen : (D.length : Int) < 8 := by omega
  have h2 := Int.tmod_lt_of_pos (j : Int) (show (0 : Int) < 16 by omega)
  have h3 := Int.tmod_nonneg 16 (show (0 : Int) ≤ (j : Int) by omega)
  refine ⟨by rw [List.length_append]; show D.length + 1 ≤ 8; omega, ⟨fun i x hx => ?_, fun i i2 x y hlt hx hy => ?_⟩, fun x hx => ?_, fun x hx => ?_, fun x hx => ?_, ?_, fun x hx => ?_, by omega, ?_⟩
  · rcases get_snoc hx with ⟨_, hx⟩ | ⟨_, rfl⟩
    · exact h.seq.ans i x hx
    · dsimp only; omega
  · rcases get_snoc hy with ⟨h5, hy⟩ | ⟨h5, rfl⟩
    · rcases get_snoc hx with ⟨_, hx⟩ | ⟨h6, rfl⟩
      · exact h.seq.nxt i i2 x y hlt hx hy
      · omega
    · rcases get_snoc hx with ⟨_, hx⟩ | ⟨h6, rfl⟩
      · have := h.rows x (List.mem_of_getElem? hx)
        dsimp only
        omega
      · omega
  · rcases List.mem_append.1 hx with hx | hx
    · exact h.fit x hx
    · obtain rfl := List.mem_singleton.1 hx
      refine ⟨?_, ?_, ho, ?_, ?_, hr⟩ <;> (simp [Lit.wf, IntKind.min, IntKind.max, IntKind.signed, IntKind.bits]; omega)
  · rcases List.mem_append.1 hx with hx | hx
    · exact h.may x hx
    · obtain rfl := List.mem_singleton.1 hx
      unfold mayK askB
      simp only [Bool.and_eq_true, Bool.or_eq_true, decide_eq_true_eq]
      exact ⟨⟨h3, h2, by omega, hc⟩, by omega, .inr (by omega)⟩
  · rcases List.mem_append.1 hx with hx | hx
    · have := h.num x hx; omega
    · obtain rfl := List.mem_singleton.1 hx
      dsimp only
      omega
  · refine List.pairwise_append.2 ⟨h.inc, List.pairwise_singleton .., fun x hx y hy => ?_⟩
    obtain rfl := List.mem_singleton.1 hy
    have := h.num x hx
    dsimp only
    omega
  · rcases List.mem_append.1 hx with hx | hx
    · have := h.rows x hx; omega
    · obtain rfl := List.mem_singleton.1 hx
      exact Int.le_refl _
  · rw [List.length_append]
    show _ ≤ 12 * ((D.length + 1 : Nat) : Int)
    omega
theorem Gd.chk {D : List Kl} {row : Int} {j : Nat} (h : Gd D row j) : kchk D = 0 := kchk_mk h.may (h.inc.imp (fun hlt he => by omega))
theorem opn_fits {x : Kl} (h : x.fits) : (opn x).fits := ⟨h.cw, h.nw, h.ow, h.bw, by show (Lit.int .i64 (-1)).wf = true; decide, by show ByteArray.size ⟨#[]⟩ ≤ maxLen; decide⟩
theorem opn_may {x : Kl} (h : mayK x = true) : mayK (opn x) = true := by
  unfold mayK at h ⊢
  simp only [Bool.and_eq_true] at h ⊢
  refine ⟨h.1, h.2.1, ?_⟩
  show ((decide ((-1 : Int) = -1) && decide (((0 : Int), (0 : Int), (⟨#[]⟩ : ByteArray)) = (0, 0, ByteArray.empty))) || _) = true
  have e9 : ((0 : Int), (0 : Int), (⟨#[]⟩ : ByteArray)) = (0, 0, ByteArray.empty) := rfl
  rw [decide_eq_true rfl, decide_eq_true e9]
  rfl
theorem Gd.chkO {D : List Kl} {row : Int} {j : Nat} (h : Gd D row j) : kchk (D.map opn) = 0 := by
  refine kchk_mk (fun x hx => ?_) ?_
  · obtain ⟨y, hy, rfl⟩ := List.mem_map.1 hx
    exact opn_may (h.may y hy)
  · refine List.pairwise_map.2 (h.inc.imp (fun {x y} hlt he => ?_))
    have h5 : x.n = y.n := he.2
    omega
theorem neEf62 (x y : Operand) (a : Int) (w : World) : (do eqGuard .neq 25 x y (.int .i64 a) (.int .i64 a); binOp .neq 25 (.int .i64 a) (.int .i64 a) : Sem Value).run Try.prog w = .ok (.bool false) w := by go_simp
theorem ex_lenP62 {o : Oper} {ρ : Operand → Value} {i : Nat} {a : Option Addr} {n k : Nat} {w : World} (ho : o.op = .call { callee := .builtin .len, args := #[.tmp i], argTypes := #[47] }) (ht : o.type = 3) (hx : ρ (.tmp i) = .slice a n k) : (execOp ρ o).run Try.prog w = .ok (.value (.int .i64 (n : Int))) w := by
  unfold execOp
  simp only [ho, resolve, invoke, builtin, Sem.run_bind, Sem.run_pure, Result.andThen_ok, List.map_toArray, List.map_cons, List.map_nil, hx, ht]
  go_simp
set_option maxHeartbeats 2000000 in
theorem within62 (k : Int) (w : World) :
    Calls Try.prog 18 #[.int .i64 k, .int .i64 5] w fun e w' => e = .returned (.int .i64 (wi62 k)) ∧ w' = w := by
  go_enter Try.func18, Try.ntmps18
  go_upto_region 0 with fail
  refine wp_region_lit ?_
  refine vl_gen (fun T => Rp T 16 [(1, gw true (.int .i64 (5))), (0, gw true (.int .i64 (k)))]) (((Rp.nil rfl).cons rfl).cons rfl) (fun Z0 q0 => ?_)
  refine q0.t (.int .i64 (0)) (ex_assign rfl rfl) fun _ q1 => ?_;clear q0
  refine wpList_nil ?_
  go_upto_region 1 with fail
  refine wp_region_lit ?_
  refine q1.t (.int .i64 (k)) (ex_move rfl (q1.e (j := 0) rfl)) fun _ q2 => ?_;clear q1
  refine q2.t (.int .i64 (5)) (ex_move rfl (q2.e (j := 1) rfl)) fun _ q3 => ?_;clear q2
  refine q3.t (.int .i64 (5 + 1)) (ex_bin (Y := .int .i64 (1)) rfl (q3.e (j := 6) rfl) rfl (addZ62 _ _ 5 1 (by omega) _)) fun _ q4 => ?_;clear q3
  refine q4.t (.int .i64 (k.tmod (5 + 1))) (ex_bin rfl (q4.e (j := 5) rfl) (q4.e (j := 7) rfl) (remZ62 _ _ k (5 + 1) (by omega) (by omega) _)) fun _ q5 => ?_;clear q4
  refine q5.t (.int .i64 (k.tmod (5 + 1))) (ex_assign rfl (q5.e (j := 8) rfl)) fun _ q6 => ?_;clear q5
  refine wpList_nil ?_
  go_upto_region 2 with fail
  refine wp_region_lit ?_
  refine q6.t (.int .i64 (k.tmod (5 + 1))) (ex_move rfl (q6.e (j := 0) rfl)) fun _ q7 => ?_;clear q6
  have h2 := Int.tmod_lt_of_pos k (show (0 : Int) < 5 + 1 by omega)
  have h3 := Int.lt_tmod_of_pos k (show (0 : Int) < 5 + 1 by omega)
  by_cases h1 : k.tmod (5 + 1) < 0
  · refine q7.t (.bool true) (ex_bin (Y := .int .i64 (0)) rfl (q7.e (j := 9) rfl) rfl (ltT62 _ _ h1 _)) fun _ q8 => ?_;clear q7
    refine wpList_nil ?_
    go_upto_region 3 with fail
    refine wp_cond_true (q8.e (j := 10) rfl) ?_
    go_upto_region 3 with fail
    refine wp_region_lit ?_
    refine q8.t (.int .i64 (k.tmod (5 + 1))) (ex_move rfl (q8.e (j := 0) rfl)) fun _ q9 => ?_;clear q8
    refine q9.t (.int .i64 (5)) (ex_move rfl (q9.e (j := 1) rfl)) fun _ q10 => ?_;clear q9
    refine q10.t (.int .i64 (k.tmod (5 + 1) + 5)) (ex_bin rfl (q10.e (j := 11) rfl) (q10.e (j := 12) rfl) (addZ62 _ _ _ _ (by omega) _)) fun _ q11 => ?_;clear q10
    refine q11.t (.int .i64 (k.tmod (5 + 1) + 5 + 1)) (ex_bin (Y := .int .i64 (1)) rfl (q11.e (j := 13) rfl) rfl (addZ62 _ _ _ _ (by omega) _)) fun _ q12 => ?_;clear q11
    refine q12.t (.int .i64 (k.tmod (5 + 1) + 5 + 1)) (ex_assign rfl (q12.e (j := 14) rfl)) fun _ q13 => ?_;clear q12
    refine wpList_nil ?_
    go_upto_region 4 with fail
    refine wp_region_lit ?_
    refine q13.t (.int .i64 (k.tmod (5 + 1) + 5 + 1)) (ex_move rfl (q13.e (j := 0) rfl)) fun _ q14 => ?_;clear q13
    refine q14.t (.int .i64 (k.tmod (5 + 1) + 5 + 1)) (ex_assign rfl (q14.e (j := 15) rfl)) fun _ q15 => ?_;clear q14
    refine wpList_nil ?_
    go_wp2
    refine bodyPost_ret (results_tmp rfl _ _ _) rfl ?_
    rw [getD_of (q15.a 4 rfl)]
    exact ⟨by unfold wi62; rw [if_pos h1]; rfl, rfl⟩
  · refine q7.t (.bool false) (ex_bin (Y := .int .i64 (0)) rfl (q7.e (j := 9) rfl) rfl (ltF62 _ _ h1 _)) fun _ q8 => ?_;clear q7
    refine wpList_nil ?_
    go_upto_region 4 with fail
    refine wp_cond_false (q8.e (j := 10) rfl) ?_
    go_upto_region 4 with fail
    refine wp_region_lit ?_
    refine q8.t (.int .i64 (k.tmod (5 + 1))) (ex_move rfl (q8.e (j := 0) rfl)) fun _ q9 => ?_;clear q8
    refine q9.t (.int .i64 (k.tmod (5 + 1))) (ex_assign rfl (q9.e (j := 15) rfl)) fun _ q10 => ?_;clear q9
    refine wpList_nil ?_
    go_wp2
    refine bodyPost_ret (results_tmp rfl _ _ _) rfl ?_
    rw [getD_of (q10.a 4 rfl)]
    exact ⟨by unfold wi62; rw [if_neg (by omega)]; rfl, rfl⟩
set_option maxHeartbeats 2000000 in
theorem oneByOne18 (P : List Sp) (a : Option Addr) (n c : Nat) (w : World) (h : SlY yP w a n c P) (hf : ∀ x ∈ P, x.fits) (hn : n * 88 ≤ 140737488351232) :
    Calls Try.prog 5 #[.slice a n c] w fun e w' => e = .returned (.bool true) ∧ Below w.heap.size w w' := by
  go_enter Try.func5, Try.ntmps5
  go_upto_region 0 with fail
  refine wp_region_lit ?_
  refine vl_gen (fun T => Rp T 164 [(0, gw true (.slice a n c))]) ((Rp.nil rfl).cons rfl) (fun Z0 q0 => ?_)
  refine q0.t (.bool false) (ex_assign rfl rfl) fun _ q1 => ?_;clear q0
  refine wpList_nil ?_
  go_upto_region 1 with fail
  refine wp_region_lit ?_
  refine q1.t (.slice none 0 0) (ex_assign rfl rfl) fun _ q2 => ?_;clear q1
  refine q2.t (.slice none 0 0) (ex_assign rfl rfl) fun _ q3 => ?_;clear q2
  refine wpList_nil ?_
  go_upto_region 2 with fail
  refine wp_region_lit ?_
  refine q3.t (.slice none 0 0) (ex_assign rfl rfl) fun _ q4 => ?_;clear q3
  refine wpList_nil ?_
  go_upto_region 3 with fail
  refine wp_region_lit ?_
  refine q4.t (.int .i64 (0)) (ex_assign rfl rfl) fun _ q5 => ?_;clear q4
  refine wpList_nil ?_
  go_upto_region 4 with fail
  refine wp_region_lit ?_
  refine q5.t (.bool true) (ex_assign rfl rfl) fun _ q6 => ?_;clear q5
  refine wpList_nil ?_
  go_upto_region 5 with fail
  refine wp_region_lit ?_
  refine q6.t (.int .i64 ((0 : Nat) : Int)) (ex_assign rfl rfl) fun _ q7 => ?_;clear q6
  have q8 := ((((((((Rp.nil q7.z).cons (q7.a 0 rfl)).cons (q7.a 3 rfl)).cons (q7.a 4 rfl)).cons (q7.a 5 rfl)).cons (q7.a 6 rfl)).cons (q7.a 7 rfl)).cons (q7.a 8 rfl))
  clear q7
  refine wpList_nil ?_
  go_upto_region 6 with fail
  have hln := h.len
  refine v_loop 8 n (fun j T wr => ∃ (lv ov : Value) (D : List Kl) (ca : Option Addr) (cc : Nat) (row : Int), Rp T 164 [(8, gw true (.int .i64 ((j : Nat) : Int))), (7, gw true (.bool (rgt [] D))), (6, gw true (.int .i64 (row))), (5, gw true (.slice ca (dnA [] D).length cc)), (4, gw true (ov)), (3, gw true (lv)), (0, gw true (.slice a n c))] ∧ Hid (OwnY yK w.heap.size wr lv D ∧ OwnY yK w.heap.size wr ov (D.map opn) ∧ (∀ k, lv.ownBlock = some k → ov.ownBlock = some k → False) ∧ SlC wr (.slice ca (dnA [] D).length cc) (dnA [] D) ca cc ∧ (∀ z k, ca = some z → dnA [] D ≠ [] → (lv.ownBlock = some k ∨ ov.ownBlock = some k) → z.block ≠ k) ∧ Ok (dnA [] D) ∧ Gd D row j ∧ Below w.heap.size w wr)) (fun j T w h => by obtain ⟨_, _, _, _, _, _, h, _⟩ := h; exact h.a 8 rfl) ⟨_, _, [], none, 0, 0, q8, OwnY.nil _ _ _, OwnY.nil _ _ _, (fun k h => by cases h), ⟨rfl, Nat.le_refl _, Nat.zero_le _, fun _ => ⟨rfl, rfl⟩, fun x hx => by cases hx⟩, (fun z k h => by cases h), Ok.nil, Gd.nil, Below.refl _ _⟩ ?_
  clear q8
  intro j T wr hj hh
  obtain ⟨lv, ov, D, ca, cc, row, q100, HJ⟩ := hh
  obtain ⟨oL, oO, hlo, hC, hsep, hok, gd, dr⟩ := HJ.out
  clear HJ
  have zr := dr.size
  have gfew := gd.few
  obtain ⟨al, cl, hlv, hl1, hl2, hl3, hl4⟩ := oL.form
  obtain ⟨ao, co, hov, ho1, ho2, ho3, ho4⟩ := oO.form
  rw [List.length_map] at hov
  by_cases hit : j < n
  · by_cases h9 : D.length < 8
    · subst hlv hov
      obtain ⟨x, hx⟩ : ∃ x, P[j]? = some x := ⟨_, List.getElem?_eq_getElem (by omega)⟩
      have fx := hf x (List.mem_of_getElem? hx)
      obtain ⟨qa, oa, hqa, hqal, hl0⟩ := h.place (by rintro e; rw [e] at hx; simp at hx)
      have hAt : LieAt yP wr qa oa P := LieAt.later ⟨hqal, hl0⟩ dr
      go_upto_region 6 with fail
      refine wp_region_lit ?_
      refine q100.t (.int .i64 ((j : Nat) : Int)) (ex_move rfl (q100.e (j := 8) rfl)) fun _ q101 => ?_;clear q100
      refine q101.t (.slice a n c) (ex_move rfl (q101.e (j := 0) rfl)) fun _ q102 => ?_;clear q101
      refine q102.t (.int .i64 ((n : Nat) : Int)) (ex_lenP62 rfl rfl (q102.e (j := 20) rfl)) fun _ q103 => ?_;clear q102
      refine q103.t (.bool true) (ex_bin rfl (q103.e (j := 19) rfl) (q103.e (j := 21) rfl) (ltT _ _ hit _)) fun _ q104 => ?_;clear q103
      refine q104.t (.bool true) (ex_move rfl (q104.e (j := 22) rfl)) fun _ q105 => ?_;clear q104
      refine vl _ (.slice al D.length cl) (want_g rfl rfl (q105.a 23 rfl)) (fun hc => ex_move rfl (q105.e (j := 3) rfl)) rfl q105.z (by decide) (q105.k fun _ q106 => ?_);clear q105
      refine vl _ (.int .i64 ((D.length : Nat) : Int)) (want_g rfl rfl (q106.a 23 rfl)) (fun hc => ex_len18 rfl rfl (ev (q106.a 24 rfl) hc)) rfl q106.z (by decide) (q106.k fun _ q107 => ?_);clear q106
      refine vl _ (.bool true) (want_g rfl rfl (q107.a 23 rfl)) (fun hc => ex_bin (Y := .int .i64 ((8 : Nat) : Int)) rfl (ev (q107.a 25 rfl) hc) rfl (ltT _ _ h9 _)) rfl q107.z (by decide) (q107.k fun _ q108 => ?_);clear q107
      refine q108.t (.bool true) (ex_and (c := true) (b := true) (z := true) rfl (q108.a 23 rfl) (q108.a 26 rfl) rfl) fun _ q109 => ?_;clear q108
      refine wpList_nil ?_
      go_upto_region 8 with fail
      refine wp_cond_true (q109.e (j := 27) rfl) ?_
      go_upto_region 8 with fail
      refine wp_region_lit ?_
      refine q109.t (.slice a n c) (ex_move rfl (q109.e (j := 0) rfl)) fun _ q110 => ?_;clear q109
      refine q110.t (.int .i64 ((j : Nat) : Int)) (ex_move rfl (q110.e (j := 8) rfl)) fun _ q111 => ?_;clear q110
      refine q111.t (.pointer (some ⟨qa, oa + j * 9, none⟩)) (ex_ix rfl (q111.e (j := 30) rfl) (q111.e (j := 31) rfl) (by rw [hqa]; exact ixP62 qa oa n c j hit _)) fun _ q112 => ?_;clear q111
      refine q112.t (.pointer (some ⟨qa, oa + j * 9, none⟩)) (ex_fa rfl (q112.e (j := 32) rfl) (faP0 _ _ _)) fun _ q113 => ?_;clear q112
      refine q113.t (oV x.o) (ex_ld rfl (q113.e (j := 33) rfl) (ldPO hAt.2 hx)) fun _ q114 => ?_;clear q113
      refine vcallP (want_none rfl) (ex_call rfl (by simp only [List.map_toArray, List.map_cons, List.map_nil, (q114.e (j := 34) rfl), evc] <;> rfl) rfl) (refcheck x.o.k x.o.s x.o.v fx.1 wr) rfl q114.z (by decide) ?_
      rintro e w1 ⟨rfl, b1⟩
      refine ⟨_, rfl, q114.k fun _ q115 => ?_⟩;clear q114
      have y1 := b1.size
      by_cases hck : ck x.o.k x.o.s x.o.v = 0
      · refine q115.t (.bool false) (ex_bin (Y := .int .i64 (0)) rfl (q115.e (j := 35) rfl) rfl (neqF62 _ _ hck _)) fun _ q116 => ?_;clear q115
        have q117 := (((((((((Rp.nil q116.z).cons (q116.a 0 rfl)).cons (q116.a 3 rfl)).cons (q116.a 4 rfl)).cons (q116.a 5 rfl)).cons (q116.a 6 rfl)).cons (q116.a 7 rfl)).cons (q116.a 8 rfl)).cons (q116.a 36 rfl))
        clear q116
        refine wpList_nil ?_
        go_upto_region 9 with fail
        refine wp_cond_false (q117.e (j := 36) rfl) ?_
        go_upto_region 9 with fail
        refine wp_region_lit ?_
        have hA1 := hAt.later b1
        have wi1 := wi62_in x.wt
        have wi2 := wi62_in x.ls
        have gtop := gd.top
        have glow := gd.low
        have hw3 : w1.cell? ⟨qa, oa + j * 9 + 3, none⟩ = some (.int .i64 x.wt) := hA1.2 j x hx 3 _ rfl
        refine q117.t (.int .i64 (row)) (ex_move rfl (q117.e (j := 6) rfl)) fun _ q118 => ?_;clear q117
        refine q118.t (.int .i64 (row + 1)) (ex_bin (Y := .int .i64 (1)) rfl (q118.e (j := 37) rfl) rfl (addZ62 _ _ _ _ (by omega) _)) fun _ q119 => ?_;clear q118
        refine q119.t (.slice a n c) (ex_move rfl (q119.e (j := 0) rfl)) fun _ q120 => ?_;clear q119
        refine q120.t (.int .i64 ((j : Nat) : Int)) (ex_move rfl (q120.e (j := 8) rfl)) fun _ q121 => ?_;clear q120
        refine q121.t (.pointer (some ⟨qa, oa + j * 9, none⟩)) (ex_ix rfl (q121.e (j := 39) rfl) (q121.e (j := 40) rfl) (by rw [hqa]; exact ixP62 qa oa n c j hit _)) fun _ q122 => ?_;clear q121
        refine q122.t (.pointer (some ⟨qa, oa + j * 9 + 3, none⟩)) (ex_fa rfl (q122.e (j := 41) rfl) (faP1 _ _ _)) fun _ q123 => ?_;clear q122
        refine q123.t (.int .i64 (x.wt)) (ex_ld rfl (q123.e (j := 42) rfl) (ldI18 hw3)) fun _ q124 => ?_;clear q123
        refine vcallP (want_none rfl) (ex_call rfl (by simp only [List.map_toArray, List.map_cons, List.map_nil, (q124.e (j := 43) rfl), evc] <;> rfl) rfl) (within62 x.wt w1) rfl q124.z (by decide) ?_
        rintro e w90 ⟨rfl, hw90⟩
        refine ⟨_, rfl, q124.k fun _ q125 => ?_⟩;clear q124
        have hw90 := hw90.symm
        subst hw90
        refine q125.t (.int .i64 (row + 1 + wi62 x.wt)) (ex_bin rfl (q125.e (j := 38) rfl) (q125.e (j := 44) rfl) (addZ62 _ _ _ _ (by omega) _)) fun _ q126 => ?_;clear q125
        refine q126.t (.int .i64 (row + 1 + wi62 x.wt)) (ex_assign rfl (q126.e (j := 45) rfl)) fun _ q127 => ?_;clear q126
        refine wpList_nil ?_
        obtain ⟨kx, hkx⟩ : ∃ kx : Kl, kx = ⟨((j : Int)).tmod 16, 1 + (j : Int), x.o, row + 1 + wi62 x.wt, row + 1 + wi62 x.wt + 1 + wi62 x.ls, (0, 0, ⟨#[]⟩)⟩ := ⟨_, rfl⟩
        have d1 : Below w.heap.size w w1 := dr.trans (b1.mono zr)
        go_upto_region 10 with fail
        refine vp_start 164 (fun T v => Rp T 164 [(0, gw true (.slice a n c)), (3, gw true (.slice al D.length cl)), (4, gw true (.slice ao D.length co)), (5, gw true (.slice ca (dnA [] D).length cc)), (6, gw true (.int .i64 (row + 1 + wi62 x.wt))), (7, gw true (.bool (rgt [] D))), (8, gw true (.int .i64 ((j : Nat) : Int)))] ∧ Upd (fun k => False) w1 v) (fun (i : Nat) (T : Array Value) (v : World) => match i with | 0 => T[46]? = some (gw true (.int .i64 ((j : Nat) : Int))) | 1 => T[47]? = some (gw true (.int .i64 (((j : Int)).tmod 16))) | 2 => T[48]? = some (gw true (.int .i64 ((j : Nat) : Int))) | 3 => T[49]? = some (gw true (.int .i64 (1 + (j : Int)))) | 4 => T[50]? = some (gw true (.slice a n c)) | 5 => T[51]? = some (gw true (.int .i64 ((j : Nat) : Int))) | 6 => T[52]? = some (gw true (.pointer (some ⟨qa, oa + j * 9, none⟩))) | 7 => T[53]? = some (gw true (.pointer (some ⟨qa, oa + j * 9, none⟩))) | 8 => T[54]? = some (gw true (oV x.o)) | 9 => T[55]? = some (gw true (.int .i64 (row + 1 + wi62 x.wt))) | 10 => T[56]? = some (gw true (.int .i64 (row + 1 + wi62 x.wt))) | 11 => T[57]? = some (gw true (.int .i64 (row + 1 + wi62 x.wt + 1))) | 12 => T[58]? = some (gw true (.slice a n c)) | 13 => T[59]? = some (gw true (.int .i64 ((j : Nat) : Int))) | 14 => T[60]? = some (gw true (.pointer (some ⟨qa, oa + j * 9, none⟩))) | 15 => T[61]? = some (gw true (.pointer (some ⟨qa, oa + j * 9 + 4, none⟩))) | 16 => T[62]? = some (gw true (.int .i64 (x.ls))) | 17 => T[63]? = some (gw true (.int .i64 (wi62 x.ls))) | 18 => T[64]? = some (gw true (.int .i64 (row + 1 + wi62 x.wt + 1 + wi62 x.ls))) | 19 => T[65]? = some (gw true (kx.val)) | 20 => ∃ b : Nat, T[9]? = some (gw true (.pointer (some ⟨b, 0, none⟩))) ∧ BB v b 45 (zK.cs) ∧ w1.heap.size ≤ b | 21 => ∃ b : Nat, T[9]? = some (gw true (.pointer (some ⟨b, 0, none⟩))) ∧ BB v b 45 (kx.cs) ∧ w1.heap.size ≤ b | _ => True) (fun (i : Nat) (T : Array Value) (v : World) => match i with | _ => True) (fun j T k => (j = 21 ∧ k = ptr T 9 ∧ w1.heap.size ≤ k)) (fun i => match i with | 0 => [46] | 1 => [47] | 2 => [48] | 3 => [49] | 4 => [50] | 5 => [51] | 6 => [52] | 7 => [53] | 8 => [54] | 9 => [55] | 10 => [56] | 11 => [57] | 12 => [58] | 13 => [59] | 14 => [60] | 15 => [61] | 16 => [62] | 17 => [63] | 18 => [64] | 19 => [65] | 20 => [9] | 21 => [9] | _ => []) (fun _ => []) [0, 3, 4, 5, 6, 7, 8] (fun i j => (Nat.beq i 20 && Nat.beq j 21)) (fun i => Nat.beq i 20) (by kernel_rfl) (by kernel_rfl) q127.z ⟨((((((((Rp.nil q127.z).cons (q127.a 8 rfl)).cons (q127.a 7 rfl)).cons (q127.a 6 rfl)).cons (q127.a 5 rfl)).cons (q127.a 4 rfl)).cons (q127.a 3 rfl)).cons (q127.a 0 rfl)), (Upd.refl _ _).drew20⟩ ?_ ?_ ?_ ?_ ?_ ?_
        · exact ⟨trivial, trivial, trivial, trivial, trivial, trivial, trivial, trivial, trivial, trivial, trivial, trivial, trivial, trivial, trivial, trivial, trivial, trivial, trivial, trivial, trivial, trivial, trivial⟩
        · intro j T T2 v v2 h _ hz hk hu
          exact ⟨h.1.ch hz hk, h.2.tr20 hu (fun k hk he => by have he2 : (j = 21 ∧ k = ptr T 9 ∧ w1.heap.size ≤ k) := he; show False; omega)⟩
        · refine ⟨?_, ?_, ?_, ?_, ?_, ?_, ?_, ?_, ?_, ?_, ?_, ?_, ?_, ?_, ?_, ?_, ?_, ?_, ?_, ?_, ?_, ?_, trivial⟩
          · exact fun j hj hu T T2 v v2 h hD hz hk zU => (hk 46 (List.mem_singleton.2 rfl)).trans h
          · exact fun j hj hu T T2 v v2 h hD hz hk zU => (hk 47 (List.mem_singleton.2 rfl)).trans h
          · exact fun j hj hu T T2 v v2 h hD hz hk zU => (hk 48 (List.mem_singleton.2 rfl)).trans h
          · exact fun j hj hu T T2 v v2 h hD hz hk zU => (hk 49 (List.mem_singleton.2 rfl)).trans h
          · exact fun j hj hu T T2 v v2 h hD hz hk zU => (hk 50 (List.mem_singleton.2 rfl)).trans h
          · exact fun j hj hu T T2 v v2 h hD hz hk zU => (hk 51 (List.mem_singleton.2 rfl)).trans h
          · exact fun j hj hu T T2 v v2 h hD hz hk zU => (hk 52 (List.mem_singleton.2 rfl)).trans h
          · exact fun j hj hu T T2 v v2 h hD hz hk zU => (hk 53 (List.mem_singleton.2 rfl)).trans h
          · exact fun j hj hu T T2 v v2 h hD hz hk zU => (hk 54 (List.mem_singleton.2 rfl)).trans h
          · exact fun j hj hu T T2 v v2 h hD hz hk zU => (hk 55 (List.mem_singleton.2 rfl)).trans h
          · exact fun j hj hu T T2 v v2 h hD hz hk zU => (hk 56 (List.mem_singleton.2 rfl)).trans h
          · exact fun j hj hu T T2 v v2 h hD hz hk zU => (hk 57 (List.mem_singleton.2 rfl)).trans h
          · exact fun j hj hu T T2 v v2 h hD hz hk zU => (hk 58 (List.mem_singleton.2 rfl)).trans h
          · exact fun j hj hu T T2 v v2 h hD hz hk zU => (hk 59 (List.mem_singleton.2 rfl)).trans h
          · exact fun j hj hu T T2 v v2 h hD hz hk zU => (hk 60 (List.mem_singleton.2 rfl)).trans h
          · exact fun j hj hu T T2 v v2 h hD hz hk zU => (hk 61 (List.mem_singleton.2 rfl)).trans h
          · exact fun j hj hu T T2 v v2 h hD hz hk zU => (hk 62 (List.mem_singleton.2 rfl)).trans h
          · exact fun j hj hu T T2 v v2 h hD hz hk zU => (hk 63 (List.mem_singleton.2 rfl)).trans h
          · exact fun j hj hu T T2 v v2 h hD hz hk zU => (hk 64 (List.mem_singleton.2 rfl)).trans h
          · exact fun j hj hu T T2 v v2 h hD hz hk zU => (hk 65 (List.mem_singleton.2 rfl)).trans h
          · intro j hj hu T T2 v v2 h hD hz hk zU
            obtain ⟨b, pb, Bb, lb⟩ := h
            have e1 : ptr T 9 = b := by unfold ptr; rw [pb]; rfl
            have n21 : j ≠ 21 := fun e => by subst e; exact absurd hu (by decide)
            exact ⟨b, (hk 9 (List.mem_singleton.2 rfl)).trans pb, Bb.upd zU (fun he => by have he2 : (j = 21 ∧ b = ptr T 9 ∧ w1.heap.size ≤ b) := he; omega), lb⟩
          · intro j hj hu T T2 v v2 h hD hz hk zU
            obtain ⟨b, pb, Bb, lb⟩ := h
            have e1 : ptr T 9 = b := by unfold ptr; rw [pb]; rfl
            exact ⟨b, (hk 9 (List.mem_singleton.2 rfl)).trans pb, Bb.upd zU (fun he => by have he2 : (j = 21 ∧ b = ptr T 9 ∧ w1.heap.size ≤ b) := he; omega), lb⟩
        · refine ⟨fun _ _ _ _ _ _ _ _ _ _ _ => trivial, fun _ _ _ _ _ _ _ _ _ _ _ => trivial, fun _ _ _ _ _ _ _ _ _ _ _ => trivial, fun _ _ _ _ _ _ _ _ _ _ _ => trivial, fun _ _ _ _ _ _ _ _ _ _ _ => trivial, fun _ _ _ _ _ _ _ _ _ _ _ => trivial, fun _ _ _ _ _ _ _ _ _ _ _ => trivial, fun _ _ _ _ _ _ _ _ _ _ _ => trivial, fun _ _ _ _ _ _ _ _ _ _ _ => trivial, fun _ _ _ _ _ _ _ _ _ _ _ => trivial, fun _ _ _ _ _ _ _ _ _ _ _ => trivial, fun _ _ _ _ _ _ _ _ _ _ _ => trivial, fun _ _ _ _ _ _ _ _ _ _ _ => trivial, fun _ _ _ _ _ _ _ _ _ _ _ => trivial, fun _ _ _ _ _ _ _ _ _ _ _ => trivial, fun _ _ _ _ _ _ _ _ _ _ _ => trivial, fun _ _ _ _ _ _ _ _ _ _ _ => trivial, fun _ _ _ _ _ _ _ _ _ _ _ => trivial, fun _ _ _ _ _ _ _ _ _ _ _ => trivial, fun _ _ _ _ _ _ _ _ _ _ _ => trivial, fun _ _ _ _ _ _ _ _ _ _ _ => trivial, fun _ _ _ _ _ _ _ _ _ _ _ => trivial, trivial⟩
        · refine ⟨?_, ?_, ?_, ?_, ?_, ?_, ?_, ?_, ?_, ?_, ?_, ?_, ?_, ?_, ?_, ?_, ?_, ?_, ?_, ?_, ?_, ?_, trivial⟩
          · intro T df v zz zB zp zC
            have qb := zB.1
            have zU := zB.2
            exact ⟨true, want_none rfl, fun _ => .inl ⟨_, _, ex_move rfl (qb.e (j := 8) rfl), Upd.refl _ _, fun h => absurd h (by decide), fun T2 N => N.s 46 rfl⟩, fun h => absurd h (by decide), fun h => absurd h (by decide)⟩
          · intro T df v zz zB zp zC
            have qb := zB.1
            have zU := zB.2
            have p0 : T[46]? = some (gw true (.int .i64 ((j : Nat) : Int))) := zp 0 (by kernel_rfl) (by kernel_rfl)
            exact ⟨true, want_none rfl, fun _ => .inl ⟨_, _, ex_bin (X := .int .i64 (j)) (Y := .int .i64 (16)) rfl (ev p0 rfl) rfl (remZ62 _ _ (j : Int) 16 (by omega) (by omega) _), Upd.refl _ _, fun h => absurd h (by decide), fun T2 N => N.s 47 rfl⟩, fun h => absurd h (by decide), fun h => absurd h (by decide)⟩
          · intro T df v zz zB zp zC
            have qb := zB.1
            have zU := zB.2
            exact ⟨true, want_none rfl, fun _ => .inl ⟨_, _, ex_move rfl (qb.e (j := 8) rfl), Upd.refl _ _, fun h => absurd h (by decide), fun T2 N => N.s 48 rfl⟩, fun h => absurd h (by decide), fun h => absurd h (by decide)⟩
          · intro T df v zz zB zp zC
            have qb := zB.1
            have zU := zB.2
            have p2 : T[48]? = some (gw true (.int .i64 ((j : Nat) : Int))) := zp 2 (by kernel_rfl) (by kernel_rfl)
            exact ⟨true, want_none rfl, fun _ => .inl ⟨_, _, ex_bin (X := .int .i64 (1)) (Y := .int .i64 (j)) rfl rfl (ev p2 rfl) (addZ62 _ _ 1 (j : Int) (by omega) _), Upd.refl _ _, fun h => absurd h (by decide), fun T2 N => N.s 49 rfl⟩, fun h => absurd h (by decide), fun h => absurd h (by decide)⟩
          · intro T df v zz zB zp zC
            have qb := zB.1
            have zU := zB.2
            exact ⟨true, want_none rfl, fun _ => .inl ⟨_, _, ex_move rfl (qb.e (j := 0) rfl), Upd.refl _ _, fun h => absurd h (by decide), fun T2 N => N.s 50 rfl⟩, fun h => absurd h (by decide), fun h => absurd h (by decide)⟩
          · intro T df v zz zB zp zC
            have qb := zB.1
            have zU := zB.2
            exact ⟨true, want_none rfl, fun _ => .inl ⟨_, _, ex_move rfl (qb.e (j := 8) rfl), Upd.refl _ _, fun h => absurd h (by decide), fun T2 N => N.s 51 rfl⟩, fun h => absurd h (by decide), fun h => absurd h (by decide)⟩
          · intro T df v zz zB zp zC
            have qb := zB.1
            have zU := zB.2
            have p4 : T[50]? = some (gw true (.slice a n c)) := zp 4 (by kernel_rfl) (by kernel_rfl)
            have p5 : T[51]? = some (gw true (.int .i64 ((j : Nat) : Int))) := zp 5 (by kernel_rfl) (by kernel_rfl)
            exact ⟨true, want_none rfl, fun _ => .inl ⟨_, _, ex_ix rfl (ev p4 rfl) (ev p5 rfl) (by rw [hqa]; exact ixP62 qa oa n c j hit _), Upd.refl _ _, fun h => absurd h (by decide), fun T2 N => N.s 52 rfl⟩, fun h => absurd h (by decide), fun h => absurd h (by decide)⟩
          · intro T df v zz zB zp zC
            have qb := zB.1
            have zU := zB.2
            have p6 : T[52]? = some (gw true (.pointer (some ⟨qa, oa + j * 9, none⟩))) := zp 6 (by kernel_rfl) (by kernel_rfl)
            exact ⟨true, want_none rfl, fun _ => .inl ⟨_, _, ex_fa rfl (ev p6 rfl) (faP0 _ _ _), Upd.refl _ _, fun h => absurd h (by decide), fun T2 N => N.s 53 rfl⟩, fun h => absurd h (by decide), fun h => absurd h (by decide)⟩
          · intro T df v zz zB zp zC
            have qb := zB.1
            have zU := zB.2
            have HB : Below w1.heap.size w1 v := zU.below (Nat.le_refl _) (fun k hk => hk.elim)
            have p7 : T[53]? = some (gw true (.pointer (some ⟨qa, oa + j * 9, none⟩))) := zp 7 (by kernel_rfl) (by kernel_rfl)
            exact ⟨true, want_none rfl, fun _ => .inl ⟨_, _, ex_ld rfl (ev p7 rfl) (ldPO ((hA1.later HB)).2 hx), Upd.refl _ _, fun h => absurd h (by decide), fun T2 N => N.s 54 rfl⟩, fun h => absurd h (by decide), fun h => absurd h (by decide)⟩
          · intro T df v zz zB zp zC
            have qb := zB.1
            have zU := zB.2
            exact ⟨true, want_none rfl, fun _ => .inl ⟨_, _, ex_move rfl (qb.e (j := 6) rfl), Upd.refl _ _, fun h => absurd h (by decide), fun T2 N => N.s 55 rfl⟩, fun h => absurd h (by decide), fun h => absurd h (by decide)⟩
          · intro T df v zz zB zp zC
            have qb := zB.1
            have zU := zB.2
            exact ⟨true, want_none rfl, fun _ => .inl ⟨_, _, ex_move rfl (qb.e (j := 6) rfl), Upd.refl _ _, fun h => absurd h (by decide), fun T2 N => N.s 56 rfl⟩, fun h => absurd h (by decide), fun h => absurd h (by decide)⟩
          · intro T df v zz zB zp zC
            have qb := zB.1
            have zU := zB.2
            have p10 : T[56]? = some (gw true (.int .i64 (row + 1 + wi62 x.wt))) := zp 10 (by kernel_rfl) (by kernel_rfl)
            exact ⟨true, want_none rfl, fun _ => .inl ⟨_, _, ex_bin (Y := .int .i64 (1)) rfl (ev p10 rfl) rfl (addZ62 _ _ _ _ (by omega) _), Upd.refl _ _, fun h => absurd h (by decide), fun T2 N => N.s 57 rfl⟩, fun h => absurd h (by decide), fun h => absurd h (by decide)⟩
          · intro T df v zz zB zp zC
            have qb := zB.1
            have zU := zB.2
            exact ⟨true, want_none rfl, fun _ => .inl ⟨_, _, ex_move rfl (qb.e (j := 0) rfl), Upd.refl _ _, fun h => absurd h (by decide), fun T2 N => N.s 58 rfl⟩, fun h => absurd h (by decide), fun h => absurd h (by decide)⟩
          · intro T df v zz zB zp zC
            have qb := zB.1
            have zU := zB.2
            exact ⟨true, want_none rfl, fun _ => .inl ⟨_, _, ex_move rfl (qb.e (j := 8) rfl), Upd.refl _ _, fun h => absurd h (by decide), fun T2 N => N.s 59 rfl⟩, fun h => absurd h (by decide), fun h => absurd h (by decide)⟩
          · intro T df v zz zB zp zC
            have qb := zB.1
            have zU := zB.2
            have p12 : T[58]? = some (gw true (.slice a n c)) := zp 12 (by kernel_rfl) (by kernel_rfl)
            have p13 : T[59]? = some (gw true (.int .i64 ((j : Nat) : Int))) := zp 13 (by kernel_rfl) (by kernel_rfl)
            exact ⟨true, want_none rfl, fun _ => .inl ⟨_, _, ex_ix rfl (ev p12 rfl) (ev p13 rfl) (by rw [hqa]; exact ixP62 qa oa n c j hit _), Upd.refl _ _, fun h => absurd h (by decide), fun T2 N => N.s 60 rfl⟩, fun h => absurd h (by decide), fun h => absurd h (by decide)⟩
          · intro T df v zz zB zp zC
            have qb := zB.1
            have zU := zB.2
            have p14 : T[60]? = some (gw true (.pointer (some ⟨qa, oa + j * 9, none⟩))) := zp 14 (by kernel_rfl) (by kernel_rfl)
            exact ⟨true, want_none rfl, fun _ => .inl ⟨_, _, ex_fa rfl (ev p14 rfl) (faP2 _ _ _), Upd.refl _ _, fun h => absurd h (by decide), fun T2 N => N.s 61 rfl⟩, fun h => absurd h (by decide), fun h => absurd h (by decide)⟩
          · intro T df v zz zB zp zC
            have qb := zB.1
            have zU := zB.2
            have HB : Below w1.heap.size w1 v := zU.below (Nat.le_refl _) (fun k hk => hk.elim)
            have p15 : T[61]? = some (gw true (.pointer (some ⟨qa, oa + j * 9 + 4, none⟩))) := zp 15 (by kernel_rfl) (by kernel_rfl)
            exact ⟨true, want_none rfl, fun _ => .inl ⟨_, _, ex_ld rfl (ev p15 rfl) (ldI18 (((hA1.later HB)).2 j x hx 4 _ rfl)), Upd.refl _ _, fun h => absurd h (by decide), fun T2 N => N.s 62 rfl⟩, fun h => absurd h (by decide), fun h => absurd h (by decide)⟩
          · intro T df v zz zB zp zC
            have qb := zB.1
            have zU := zB.2
            have p16 : T[62]? = some (gw true (.int .i64 (x.ls))) := zp 16 (by kernel_rfl) (by kernel_rfl)
            refine ⟨true, want_none rfl, fun hc => .inr (.inr ⟨_, _, _, ex_call rfl (by simp only [List.map_toArray, List.map_cons, List.map_nil, (ev p16 rfl), evc] <;> rfl) rfl, within62 x.ls v, ?_⟩), fun _ => rfl, fun h => absurd h (by decide)⟩
            rintro e w9 ⟨rfl, rfl⟩
            exact ⟨_, rfl, Upd.refl _ _, fun h => absurd h (by decide), fun T2 N => N.s 63 rfl⟩
          · intro T df v zz zB zp zC
            have qb := zB.1
            have zU := zB.2
            have p11 : T[57]? = some (gw true (.int .i64 (row + 1 + wi62 x.wt + 1))) := zp 11 (by kernel_rfl) (by kernel_rfl)
            have p17 : T[63]? = some (gw true (.int .i64 (wi62 x.ls))) := zp 17 (by kernel_rfl) (by kernel_rfl)
            exact ⟨true, want_none rfl, fun _ => .inl ⟨_, _, ex_bin rfl (ev p11 rfl) (ev p17 rfl) (addZ62 _ _ _ _ (by omega) _), Upd.refl _ _, fun h => absurd h (by decide), fun T2 N => N.s 64 rfl⟩, fun h => absurd h (by decide), fun h => absurd h (by decide)⟩
          · intro T df v zz zB zp zC
            have qb := zB.1
            have zU := zB.2
            have p1 : T[47]? = some (gw true (.int .i64 (((j : Int)).tmod 16))) := zp 1 (by kernel_rfl) (by kernel_rfl)
            have p3 : T[49]? = some (gw true (.int .i64 (1 + (j : Int)))) := zp 3 (by kernel_rfl) (by kernel_rfl)
            have p8 : T[54]? = some (gw true (oV x.o)) := zp 8 (by kernel_rfl) (by kernel_rfl)
            have p9 : T[55]? = some (gw true (.int .i64 (row + 1 + wi62 x.wt))) := zp 9 (by kernel_rfl) (by kernel_rfl)
            have p18 : T[64]? = some (gw true (.int .i64 (row + 1 + wi62 x.wt + 1 + wi62 x.ls))) := zp 18 (by kernel_rfl) (by kernel_rfl)
            exact ⟨true, want_none rfl, fun _ => .inl ⟨_, _, ex_buildP18 (P := #[(0, .int .i64 (((j : Int)).tmod 16)), (1, .int .i64 (1 + (j : Int))), (2, oV x.o), (3, .int .i64 (row + 1 + wi62 x.wt)), (4, .int .i64 (row + 1 + wi62 x.wt + 1 + wi62 x.ls))]) rfl (by simp only [List.map_toArray, List.map_cons, List.map_nil, (ev p1 rfl), (ev p3 rfl), (ev p8 rfl), (ev p9 rfl), (ev p18 rfl), evc] <;> rfl) (by rw [hkx]; exact bdC62 _ _ _ _ _ _), Upd.refl _ _, fun h => absurd h (by decide), fun T2 N => N.s 65 rfl⟩, fun h => absurd h (by decide), fun h => absurd h (by decide)⟩
          · intro T df v zz zB zp zC
            have qb := zB.1
            have zU := zB.2
            exact ⟨_, want_none rfl, fun _ => .inl ⟨_, _, ex_al rfl (alK _), Upd.of_below ((Below.refl _ _).alloc (Nat.le_refl _) _), fun _ => ⟨_, rfl, Nat.le_refl _, by rw [World.size_alloc]; exact Nat.lt_succ_self _⟩, fun T2 N => ⟨_, N.s 9 rfl, BB.new _ _ _, zU.size⟩⟩, fun h => absurd h (by decide), fun h => absurd h (by decide)⟩
          · intro T df v zz zB zp zC
            have qb := zB.1
            have zU := zB.2
            have p19 : T[65]? = some (gw true (kx.val)) := zp 19 (by kernel_rfl) (by kernel_rfl)
            have p20 : ∃ b : Nat, T[9]? = some (gw true (.pointer (some ⟨b, 0, none⟩))) ∧ BB v b 45 (zK.cs) ∧ w1.heap.size ≤ b := zp 20 (by kernel_rfl) (by kernel_rfl)
            obtain ⟨b, pb, Bb, lb⟩ := p20
            have e1 : ptr T 9 = b := by unfold ptr; rw [pb]; rfl
            exact ⟨_, want_none rfl, fun _ => .inr (.inl ⟨_, ex_st rfl (ev pb rfl) (ev p19 rfl) (Bb.stK), (upd18 _ _ _ _).sub20 (fun k hk => by have hk2 : k = b := hk; show (21 = 21 ∧ k = ptr T 9 ∧ w1.heap.size ≤ k); omega), fun h => absurd h (by decide), fun T2 N => ⟨b, (N.k 9 rfl).trans pb, Bb.whole _ rfl, lb⟩⟩), fun h => absurd h (by decide), fun h => absurd h (by decide)⟩
        intro T v901 zz zB zq za
        have qb := zB.1
        have U902 := zB.2
        clear zB zz
        clear q127
        have d903 : Below w.heap.size w v901 := d1.trans (U902.below (Nat.le_trans d1.size (Nat.le_refl _)) (fun k hk => hk.elim))
        have zv901 := U902.size
        obtain ⟨b904, p21, Bb904, lb904⟩ : ∃ b : Nat, T[9]? = some (gw true (.pointer (some ⟨b, 0, none⟩))) ∧ BB v901 b 45 (kx.cs) ∧ w1.heap.size ≤ b := zq 21 _ rfl (fun k => rfl)
        have ltb904 := Bb904.lt
        have q128 := (qb.cons p21)
        clear zq za qb p21
        have b3 : Below w1.heap.size w1 v901 := U902.below (Nat.le_refl _) (fun k hk => hk.elim)
        have y3 := b3.size
        have q9lo : wr.heap.size ≤ b904 := by have := lb904; omega
        have q9hi : b904 < v901.heap.size := Bb904.lt
        have hA3 := hA1.later b3
        have oL3 := (oL.grow b1).grow b3
        have oO3 := (oO.grow b1).grow b3
        have hC3 := (hC.later b1).later b3
        have d3 : Below w.heap.size w v901 := d1.trans (b3.mono (by omega))
        have lb := oL.blk
        have ob := oO.blk
        go_upto_region 11 with fail
        refine wp_region_lit ?_
        refine q128.t (.pointer (some ⟨b904, 6, none⟩)) (ex_fa rfl (q128.e (j := 9) rfl) (faK4 _ _)) fun _ q129 => ?_;clear q128
        refine q129.t (.int .i64 (row + 1 + wi62 x.wt + 1 + wi62 x.ls)) (ex_ld rfl (q129.e (j := 66) rfl) (ldI18 (by rw [Bb904.cell, hkx]; rfl))) fun _ q130 => ?_;clear q129
        refine q130.t (.int .i64 (row + 1 + wi62 x.wt + 1 + wi62 x.ls)) (ex_assign rfl (q130.e (j := 67) rfl)) fun _ q131 => ?_;clear q130
        refine wpList_nil ?_
        go_upto_region 12 with fail
        refine wp_region_lit ?_
        refine q131.t (.slice ca (dnA [] D).length cc) (ex_move rfl (q131.e (j := 5) rfl)) fun _ q132 => ?_;clear q131
        refine q132.t (.pointer (some ⟨b904, 2, none⟩)) (ex_fa rfl (q132.e (j := 9) rfl) (faK2 _ _)) fun _ q133 => ?_;clear q132
        refine q133.t (oV x.o) (ex_ld rfl (q133.e (j := 70) rfl) (by have h5 := Bb904.ldO; rw [hkx] at h5; exact h5)) fun _ q134 => ?_;clear q133
        refine vcallP (want_none rfl) (ex_call rfl (by simp only [List.map_toArray, List.map_cons, List.map_nil, (q134.e (j := 69) rfl), (q134.e (j := 71) rfl), evc] <;> rfl) rfl) (refdo_any (dnA [] D) ca cc x.o.k x.o.s x.o.v fx.1 v901 hC3 hok) rfl q134.z (by decide) ?_
        rintro e w4 ⟨ca2, cc2, rfl, hC4, b4, hn4⟩
        refine ⟨_, rfl, q134.k fun _ q135 => ?_⟩;clear q134
        have y4 := b4.size
        refine q135.t (.tuple #[.slice ca2 (dn (dnA [] D) x.o.k x.o.s x.o.v).length cc2, rV (wd (dnA [] D) x.o.k x.o.s x.o.v)]) (ex_move rfl (q135.e (j := 72) rfl)) fun _ q136 => ?_;clear q135
        refine q136.t (.slice ca2 (dn (dnA [] D) x.o.k x.o.s x.o.v).length cc2) (ex_ext18 rfl (q136.e (j := 68) rfl) rfl) fun _ q137 => ?_;clear q136
        refine q137.t (rV (wd (dnA [] D) x.o.k x.o.s x.o.v)) (ex_ext18 rfl (q137.e (j := 68) rfl) rfl) fun _ q138 => ?_;clear q137
        obtain ⟨w5, hw5⟩ : ∃ y, y = w4.alloc (.cells (rsC (0, 0, ByteArray.empty)).toArray 43) := ⟨_, rfl⟩
        refine vw (.pointer (some ⟨w4.heap.size, 0, none⟩)) w5 (want_none rfl) (ex_al rfl (by rw [hw5]; exact alR18 _)) rfl q138.z (by decide) (q138.k fun _ q139 => ?_);clear q138
        have Br5 : BB w5 w4.heap.size 43 (rsC (0, 0, ByteArray.empty)) := by rw [hw5]; exact BB.new _ _ _
        have b5 : Below w4.heap.size w4 w5 := by rw [hw5]; exact (Below.refl _ _).alloc (Nat.le_refl _) _
        have y5 : w5.heap.size = w4.heap.size + 1 := by rw [hw5]; exact World.size_alloc _ _
        clear hw5
        refine q139.t (.slice ca2 (dn (dnA [] D) x.o.k x.o.s x.o.v).length cc2) (ex_assign rfl (q139.e (j := 73) rfl)) fun _ q140 => ?_;clear q139
        obtain ⟨w6, hw6⟩ : ∃ y, y = w5.setCells w4.heap.size 0 (rsC (wd (dnA [] D) x.o.k x.o.s x.o.v)) := ⟨_, rfl⟩
        refine vs w6 (want_none rfl) (ex_st rfl (q140.e (j := 11) rfl) (q140.e (j := 74) rfl) (by rw [hw6]; exact Br5.str62 _)) rfl ?_
        have Br6 : BB w6 w4.heap.size 43 (rsC (wd (dnA [] D) x.o.k x.o.s x.o.v)) := by rw [hw6]; exact Br5.whole _ rfl
        have u6 : Upd (fun k => k = w4.heap.size) w5 w6 := by rw [hw6]; exact upd18 _ _ _ _
        clear hw6 Br5
        have y6 := u6.size
        refine wpList_nil ?_
        go_upto_region 13 with fail
        refine wp_region_lit ?_
        refine q140.t (.slice ca2 (dn (dnA [] D) x.o.k x.o.s x.o.v).length cc2) (ex_move rfl (q140.e (j := 10) rfl)) fun _ q141 => ?_;clear q140
        refine q141.t (.slice ca2 (dn (dnA [] D) x.o.k x.o.s x.o.v).length cc2) (ex_assign rfl (q141.e (j := 75) rfl)) fun _ q142 => ?_;clear q141
        refine wpList_nil ?_
        go_upto_region 14 with fail
        refine wp_region_lit ?_
        refine q142.t (rV (wd (dnA [] D) x.o.k x.o.s x.o.v)) (ex_ld rfl (q142.e (j := 11) rfl) Br6.ldr62) fun _ q143 => ?_;clear q142
        refine q143.t (.pointer (some ⟨b904, 7, none⟩)) (ex_fa rfl (q143.e (j := 9) rfl) (faK5 _ _)) fun _ q144 => ?_;clear q143
        have Bc6 : BB w6 b904 45 kx.cs := ((Bb904.later b4).later b5).upd u6 (by omega)
        obtain ⟨w7, hw7⟩ : ∃ y, y = w6.setCells b904 7 (rsC (wd (dnA [] D) x.o.k x.o.s x.o.v)) := ⟨_, rfl⟩
        refine vs w7 (want_none rfl) (ex_st rfl (q144.e (j := 77) rfl) (q144.e (j := 76) rfl) (by rw [hw7]; exact Bc6.stKr _)) rfl ?_
        have Bc7 : BB w7 b904 45 ({ kx with r := wd (dnA [] D) x.o.k x.o.s x.o.v } : Kl).cs := by rw [hw7]; exact Bc6.putKr _
        have u7 : Upd (fun k => k = b904) w6 w7 := by rw [hw7]; exact upd18 _ _ _ _
        clear hw7
        have y7 := u7.size
        have Br7 := Br6.upd u7 (by omega)
        have hcl : ∀ z, ca2 = some z → dn (dnA [] D) x.o.k x.o.s x.o.v ≠ [] → z.block < w4.heap.size := fun z hz hne => by
          obtain ⟨q8, o8, h8, h8l, _⟩ := hC4.place hne
          rw [hz] at h8
          cases h8
          exact h8l
        have hcq : ∀ z, ca2 = some z → dn (dnA [] D) x.o.k x.o.s x.o.v ≠ [] → z.block ≠ b904 := fun z hz hne e => by
          rcases hn4 with ⟨h8, h8b⟩ | h8
          · rw [h8b] at hne
            obtain ⟨q8, o8, h8c, h8l, _⟩ := hC.place hne
            rw [← h8, hz] at h8c
            cases h8c
            have e2 : q8 = b904 := e
            omega
          · have := h8 z hz
            omega
        have hC7 : SlC w7 (.slice ca2 (dn (dnA [] D) x.o.k x.o.s x.o.v).length cc2) (dn (dnA [] D) x.o.k x.o.s x.o.v) ca2 cc2 := ((hC4.later b5).upd u6 (fun z hz hne e => by have := hcl z hz hne; omega)).upd u7 (fun z hz hne e => hcq z hz hne e)
        have oL7 : OwnY yK w.heap.size w7 (.slice al D.length cl) D := (((oL3.grow b4).grow b5).upd1 u6 (fun g hg e => by have := (lb g hg).2; omega)).upd1 u7 (fun g hg e => by have := (lb g hg).2; omega)
        have oO7 : OwnY yK w.heap.size w7 (.slice ao D.length co) (D.map opn) := (((oO3.grow b4).grow b5).upd1 u6 (fun g hg e => by have := (ob g hg).2; omega)).upd1 u7 (fun g hg e => by have := (ob g hg).2; omega)
        have d7 : Below w.heap.size w w7 := (((d3.trans (b4.mono (by omega))).trans (b5.mono (by omega))).trans (bel_ge u6 (by omega) (by omega))).trans (bel_ge u7 (by omega) (by omega))
        have hA7 : LieAt yP w7 qa oa P := LieAt.later ⟨hqal, hl0⟩ d7
        have hsp7 : ∀ z k, ca2 = some z → dn (dnA [] D) x.o.k x.o.s x.o.v ≠ [] → (Value.ownBlock (.slice al D.length cl) = some k ∨ Value.ownBlock (.slice ao D.length co) = some k) → z.block ≠ k := fun z k hz hne hk e => by
          rcases hn4 with ⟨h8, h8b⟩ | h8
          · rw [h8b] at hne
            exact hsep z k (by rw [← h8]; exact hz) hne hk e
          · have := h8 z hz
            rcases hk with hk | hk
            · have := (lb k hk).2; omega
            · have := (ob k hk).2; omega
        have hwf := wd_size hok x.o.k x.o.s x.o.v
        have hokn : Ok (dn (dnA [] D) x.o.k x.o.s x.o.v) := hok.dn _ _ _
        refine wpList_nil ?_
        go_upto_region 15 with fail
        refine wp_region_lit ?_
        refine q144.t (.slice a n c) (ex_move rfl (q144.e (j := 0) rfl)) fun _ q145 => ?_;clear q144
        refine q145.t (.int .i64 ((j : Nat) : Int)) (ex_move rfl (q145.e (j := 8) rfl)) fun _ q146 => ?_;clear q145
        refine q146.t (.pointer (some ⟨qa, oa + j * 9, none⟩)) (ex_ix rfl (q146.e (j := 78) rfl) (q146.e (j := 79) rfl) (by rw [hqa]; exact ixP62 qa oa n c j hit _)) fun _ q147 => ?_;clear q146
        refine q147.t (.pointer (some ⟨qa, oa + j * 9 + 5, none⟩)) (ex_fa rfl (q147.e (j := 80) rfl) (faP3 _ _ _)) fun _ q148 => ?_;clear q147
        refine q148.t (.bool x.rt) (ex_ld rfl (q148.e (j := 81) rfl) (ldB62 (hA7.2 j x hx 5 _ rfl))) fun _ q149 => ?_;clear q148
        refine q149.t (.bool (!x.rt)) (ex_not rfl (q149.e (j := 82) rfl)) fun _ q150 => ?_;clear q149
        have q151 := (((((((((((Rp.nil q150.z).cons (q150.a 0 rfl)).cons (q150.a 3 rfl)).cons (q150.a 4 rfl)).cons (q150.a 5 rfl)).cons (q150.a 6 rfl)).cons (q150.a 7 rfl)).cons (q150.a 8 rfl)).cons (q150.a 9 rfl)).cons (q150.a 11 rfl)).cons (q150.a 83 rfl))
        clear q150
        refine wpList_nil ?_
        cases hrt : x.rt with
        | true =>
          rw [hrt] at q151
          go_upto_region 18 with fail
          refine wp_cond_false (q151.e (j := 83) rfl) ?_
          have q152 := (((((((((Rp.nil q151.z).cons (q151.a 0 rfl)).cons (q151.a 3 rfl)).cons (q151.a 4 rfl)).cons (q151.a 5 rfl)).cons (q151.a 6 rfl)).cons (q151.a 7 rfl)).cons (q151.a 8 rfl)).cons (q151.a 9 rfl))
          clear q151
          go_upto_region 18 with fail
          refine wp_region_lit ?_
          refine q152.t (.slice al D.length cl) (ex_move rfl (q152.e (j := 3) rfl)) fun _ q153 => ?_;clear q152
          refine q153.t (({ kx with r := wd (dnA [] D) x.o.k x.o.s x.o.v } : Kl).val) (ex_ld rfl (q153.e (j := 9) rfl) Bc7.ldK) fun _ q154 => ?_;clear q153
          obtain ⟨k1, hk1⟩ : ∃ k1 : Kl, k1 = ({ kx with r := wd (dnA [] D) x.o.k x.o.s x.o.v } : Kl) := ⟨_, rfl⟩
          rw [← hk1] at q154 Bc7
          obtain ⟨x1, hx1⟩ : ∃ y, y = w7.alloc (.cells (k1).cs.toArray 45) := ⟨_, rfl⟩
          refine vw (.slice (some ⟨w7.heap.size, 0, none⟩) 1 1) x1 (want_none rfl) (ex_bs18 rfl (q154.e (j := 98) rfl) (by rw [hx1]; exact bsK18 _ _)) rfl q154.z (by decide) (q154.k fun _ q155 => ?_);clear q154
          have se : SlY yK x1 (some ⟨w7.heap.size, 0, none⟩) 1 1 [k1] := by rw [hx1]; exact sl_box (Y := yK) w7 (k1) 45
          have be : Below w7.heap.size w7 x1 := by rw [hx1]; exact (Below.refl _ _).alloc (Nat.le_refl _) _
          clear hx1
          have ye := be.size
          obtain ⟨lv2, x2, hae, oL9, ge, ne⟩ := run_appY kK x1 24 w.heap.size (D) (.slice al D.length cl) _ 1 1 [k1] se (oL7.grow be) (by omega) (by unfold maxLen; omega) (by show (D.length + 1) * 96 ≤ _; omega)
          have ue : Upd (fun k => Value.ownBlock (.slice al D.length cl) = some k) x1 x2 := ⟨ge.os, ge.tape, ge.output, ge.size, fun k hk hs => ge.block k hk (fun e => hs e.symm)⟩
          have ze := ue.size
          refine vw (lv2) x2 (want_none rfl) (ex_app18 rfl (q155.e (j := 97) rfl) (q155.e (j := 99) rfl) hae) rfl q155.z (by decide) (q155.k fun _ q156 => ?_);clear q155
          refine q156.t (lv2) (ex_assign rfl (q156.e (j := 100) rfl)) fun _ q157 => ?_;clear q156
          refine wpList_nil ?_
          have Bc9 : BB x2 b904 45 k1.cs := (Bc7.later be).upd ue (fun e => by have := (lb _ e).2; omega)
          have oO9 : OwnY yK w.heap.size x2 (.slice ao D.length co) (D.map opn) := (oO7.grow be).upd1 ue (fun g hg e => hlo g e hg)
          have hC9 : SlC x2 (.slice ca2 (dn (dnA [] D) x.o.k x.o.s x.o.v).length cc2) (dn (dnA [] D) x.o.k x.o.s x.o.v) ca2 cc2 := (hC7.later be).upd ue (fun z hz hne e => hsp7 z z.block hz hne (.inl e) rfl)
          have d9 : Below w.heap.size w x2 := (d7.trans (be.mono (by omega))).trans (ue.below (by omega) (fun k hk => (lb k hk).1))
          have hl9 : ∀ k, lv2.ownBlock = some k → Value.ownBlock (.slice al D.length cl) = some k ∨ w7.heap.size ≤ k := fun k hk => by
            rcases ne with e | ⟨k2, e, e2⟩
            · exact .inl (by rw [← e]; exact hk)
            · rw [e] at hk
              cases hk
              exact .inr (by omega)
          go_upto_region 19 with fail
          refine wp_region_lit ?_
          refine q157.t (.pointer (some ⟨b904, 6, none⟩)) (ex_fa rfl (q157.e (j := 9) rfl) (faK4 _ _)) fun _ q158 => ?_;clear q157
          obtain ⟨x3, hx3⟩ : ∃ y, y = x2.setCell ⟨b904, 6, none⟩ (.int .i64 (-1)) := ⟨_, rfl⟩
          refine vs x3 (want_none rfl) (ex_st rfl (q158.e (j := 101) rfl) rfl (by rw [hx3]; exact stI18 (b := -1) (Bc9.cell 6) (Bc9.free 6))) rfl ?_
          have Bc10 : BB x3 b904 45 ({ k1 with e := -1 } : Kl).cs := by rw [hx3]; exact Bc9.putKe _
          have u10 : Upd (fun k => k = b904) x2 x3 := by rw [hx3]; exact (Upd.refl (fun k => k = b904) x2).setCell (p := ⟨b904, 6, none⟩) (.inl rfl) _
          clear hx3
          have y10 := u10.size
          refine wpList_nil ?_
          go_upto_region 20 with fail
          refine wp_region_lit ?_
          refine q158.t (rV (0, 0, ⟨#[]⟩)) (ex_buildP18 (P := #[]) rfl (by simp) (bdr62 _)) fun _ q159 => ?_;clear q158
          refine q159.t (.pointer (some ⟨b904, 7, none⟩)) (ex_fa rfl (q159.e (j := 9) rfl) (faK5 _ _)) fun _ q160 => ?_;clear q159
          obtain ⟨x4, hx4⟩ : ∃ y, y = x3.setCells b904 7 (rsC (0, 0, ⟨#[]⟩)) := ⟨_, rfl⟩
          refine vs x4 (want_none rfl) (ex_st rfl (q160.e (j := 103) rfl) (q160.e (j := 102) rfl) (by rw [hx4]; exact Bc10.stKr _)) rfl ?_
          have Bc11 : BB x4 b904 45 (opn k1).cs := by rw [hx4]; exact Bc10.putKr _
          have u11 : Upd (fun k => k = b904) x3 x4 := by rw [hx4]; exact upd18 _ _ _ _
          clear hx4
          have y11 := u11.size
          refine wpList_nil ?_
          have q9l : ∀ k, lv2.ownBlock = some k → k ≠ b904 := fun k hk => by
            rcases hl9 k hk with e | e
            · have := (lb k e).2
              omega
            · omega
          have oL11 : OwnY yK w.heap.size x4 lv2 (D ++ [k1]) := (oL9.upd1 u10 (fun g hg e => q9l g hg e)).upd1 u11 (fun g hg e => q9l g hg e)
          have oO11 : OwnY yK w.heap.size x4 (.slice ao D.length co) (D.map opn) := (oO9.upd1 u10 (fun g hg e => by have := (ob g hg).2; omega)).upd1 u11 (fun g hg e => by have := (ob g hg).2; omega)
          have hC11 : SlC x4 (.slice ca2 (dn (dnA [] D) x.o.k x.o.s x.o.v).length cc2) (dn (dnA [] D) x.o.k x.o.s x.o.v) ca2 cc2 := (hC9.upd u10 (fun z hz hne e => hcq z hz hne e)).upd u11 (fun z hz hne e => hcq z hz hne e)
          have d11 : Below w.heap.size w x4 := (d9.trans (bel_ge u10 (by omega) (by omega))).trans (bel_ge u11 (by omega) (by omega))
          go_upto_region 21 with fail
          refine wp_region_lit ?_
          refine q160.t (.slice ao D.length co) (ex_move rfl (q160.e (j := 4) rfl)) fun _ q161 => ?_;clear q160
          refine q161.t ((opn k1).val) (ex_ld rfl (q161.e (j := 9) rfl) Bc11.ldK) fun _ q162 => ?_;clear q161
          obtain ⟨x5, hx5⟩ : ∃ y, y = x4.alloc (.cells (opn k1).cs.toArray 45) := ⟨_, rfl⟩
          refine vw (.slice (some ⟨x4.heap.size, 0, none⟩) 1 1) x5 (want_none rfl) (ex_bs18 rfl (q162.e (j := 105) rfl) (by rw [hx5]; exact bsK18 _ _)) rfl q162.z (by decide) (q162.k fun _ q163 => ?_);clear q162
          have sf : SlY yK x5 (some ⟨x4.heap.size, 0, none⟩) 1 1 [opn k1] := by rw [hx5]; exact sl_box (Y := yK) x4 (opn k1) 45
          have bf : Below x4.heap.size x4 x5 := by rw [hx5]; exact (Below.refl _ _).alloc (Nat.le_refl _) _
          clear hx5
          have yf := bf.size
          obtain ⟨ov2, x6, haf, oO13, gf, nf⟩ := run_appY kK x5 24 w.heap.size (D.map opn) (.slice ao D.length co) _ 1 1 [opn k1] sf (oO11.grow bf) (by omega) (by rw [List.length_map]; unfold maxLen; omega) (by rw [List.length_map]; show (D.length + 1) * 96 ≤ _; omega)
          have uf : Upd (fun k => Value.ownBlock (.slice ao D.length co) = some k) x5 x6 := ⟨gf.os, gf.tape, gf.output, gf.size, fun k hk hs => gf.block k hk (fun e => hs e.symm)⟩
          have zf := uf.size
          refine vw (ov2) x6 (want_none rfl) (ex_app18 rfl (q163.e (j := 104) rfl) (q163.e (j := 106) rfl) haf) rfl q163.z (by decide) (q163.k fun _ q164 => ?_);clear q163
          refine q164.t (ov2) (ex_assign rfl (q164.e (j := 107) rfl)) fun _ q165 => ?_;clear q164
          refine wpList_nil ?_
          have hlvo : ∀ k, lv2.ownBlock = some k → Value.ownBlock (.slice ao D.length co) = some k → False := fun k h1 h2 => by
            rcases hl9 k h1 with e | e
            · exact hlo k e h2
            · have := (ob k h2).2
              omega
          have oL13 : OwnY yK w.heap.size x6 lv2 (D ++ [k1]) := (oL11.grow bf).upd1 uf (fun g hg e => hlvo g hg e)
          have hC13 : SlC x6 (.slice ca2 (dn (dnA [] D) x.o.k x.o.s x.o.v).length cc2) (dn (dnA [] D) x.o.k x.o.s x.o.v) ca2 cc2 := (hC11.later bf).upd uf (fun z hz hne e => hsp7 z z.block hz hne (.inr e) rfl)
          have d13 : Below w.heap.size w x6 := (d11.trans (bf.mono (by omega))).trans (uf.below (by omega) (fun k hk => (ob k hk).1))
          have ho9 : ∀ k, ov2.ownBlock = some k → Value.ownBlock (.slice ao D.length co) = some k ∨ x4.heap.size < k + 1 := fun k hk => by
            rcases nf with e | ⟨k2, e, e2⟩
            · exact .inl (by rw [← e]; exact hk)
            · rw [e] at hk
              cases hk
              exact .inr (by omega)
          have lb11 := oL11.blk
          have hlo13 : ∀ k, lv2.ownBlock = some k → ov2.ownBlock = some k → False := fun k h1 h2 => by
            rcases ho9 k h2 with e | e
            · exact hlvo k h1 e
            · have := (lb11 k h1).2
              omega
          have hcl2 := hcl
          have hsp13 : ∀ z k, ca2 = some z → dn (dnA [] D) x.o.k x.o.s x.o.v ≠ [] → (lv2.ownBlock = some k ∨ ov2.ownBlock = some k) → z.block ≠ k := fun z k hz hne hk e => by
            have hlt := hcl2 z hz hne
            rcases hk with hk | hk
            · rcases hl9 k hk with h1 | h1
              · exact hsp7 z k hz hne (.inl h1) e
              · omega
            · rcases ho9 k hk with h1 | h1
              · exact hsp7 z k hz hne (.inr h1) e
              · omega
          have hdn : dnA [] (D ++ [k1]) = dn (dnA [] D) x.o.k x.o.s x.o.v := by rw [dnA_snoc, hk1, hkx]; rfl
          have hmp : (D ++ [k1]).map opn = D.map opn ++ [opn k1] := by rw [List.map_append]; rfl
          rw [← hmp] at oO13
          have hk1r : k1.r = wd (dnA [] D) x.o.k x.o.s x.o.v := by rw [hk1]
          have hrg : rgt [] (D ++ [k1]) = rgt [] D := by
            rw [rgt_snoc, hk1, hkx]
            simp
          have gd13 : Gd (D ++ [k1]) (row + 1 + wi62 x.wt + 1 + wi62 x.ls) (j + 1) := by
            have := gd.more h9 (by omega) x.o fx.1 hck (wi62 x.wt) (wi62 x.ls) wi1 wi2 (wd (dnA [] D) x.o.k x.o.s x.o.v) (Nat.le_trans hwf (by decide))
            rw [hk1, hkx]
            exact this
          go_upto_region 7 with fail
          refine wp_region_lit ?_
          refine q165.t (.int .i64 ((j : Nat) : Int)) (ex_move rfl (q165.e (j := 8) rfl)) fun _ q166 => ?_;clear q165
          refine q166.t (.int .i64 ((j + 1 : Nat) : Int)) (ex_bin rfl (q166.e (j := 28) rfl) rfl (add1C _ _ j (by omega) _)) fun _ q167 => ?_;clear q166
          refine q167.t (.int .i64 ((j + 1 : Nat) : Int)) (ex_assign rfl (q167.e (j := 29) rfl)) fun _ q168 => ?_;clear q167
          have q169 := ((((((((Rp.nil q168.z).cons (q168.a 0 rfl)).cons (q168.a 3 rfl)).cons (q168.a 4 rfl)).cons (q168.a 5 rfl)).cons (q168.a 6 rfl)).cons (q168.a 7 rfl)).cons (q168.a 8 rfl))
          clear q168
          refine wpList_nil ?_
          rw [← hdn] at hC13 q169 hsp13
          have hokd : Ok (dnA [] (D ++ [k1])) := by rw [hdn]; exact hokn
          rw [← hrg] at q169
          exact ⟨_, rfl, hit, lv2, ov2, D ++ [k1], ca2, cc2, _, q169, oL13, oO13, hlo13, hC13, hsp13, hokd, gd13, d13⟩
        | false =>
          rw [hrt] at q151
          go_upto_region 16 with fail
          refine wp_cond_true (q151.e (j := 83) rfl) ?_
          go_upto_region 16 with fail
          refine wp_region_lit ?_
          refine q151.t (.slice a n c) (ex_move rfl (q151.e (j := 0) rfl)) fun _ q152 => ?_;clear q151
          refine q152.t (.int .i64 ((j : Nat) : Int)) (ex_move rfl (q152.e (j := 8) rfl)) fun _ q153 => ?_;clear q152
          refine q153.t (.pointer (some ⟨qa, oa + j * 9, none⟩)) (ex_ix rfl (q153.e (j := 84) rfl) (q153.e (j := 85) rfl) (by rw [hqa]; exact ixP62 qa oa n c j hit _)) fun _ q154 => ?_;clear q153
          refine q154.t (.pointer (some ⟨qa, oa + j * 9 + 6, none⟩)) (ex_fa rfl (q154.e (j := 86) rfl) (faP4 _ _ _)) fun _ q155 => ?_;clear q154
          refine q155.t (rV x.r) (ex_ld rfl (q155.e (j := 87) rfl) (ldPR hA7.2 hx)) fun _ q156 => ?_;clear q155
          refine q156.t (.pointer (some ⟨b904, 7, none⟩)) (ex_fa rfl (q156.e (j := 9) rfl) (faK5 _ _)) fun _ q157 => ?_;clear q156
          obtain ⟨w8, hw8⟩ : ∃ y, y = w7.setCells b904 7 (rsC x.r) := ⟨_, rfl⟩
          refine vs w8 (want_none rfl) (ex_st rfl (q157.e (j := 89) rfl) (q157.e (j := 88) rfl) (by rw [hw8]; exact Bc7.stKr _)) rfl ?_
          have Bc8 : BB w8 b904 45 ({ kx with r := x.r } : Kl).cs := by rw [hw8]; exact Bc7.putKr _
          have u8 : Upd (fun k => k = b904) w7 w8 := by rw [hw8]; exact upd18 _ _ _ _
          clear hw8
          have y8 := u8.size
          have Br8 := Br7.upd u8 (by omega)
          have oL8 : OwnY yK w.heap.size w8 (.slice al D.length cl) D := oL7.upd1 u8 (fun g hg e => by have := (lb g hg).2; omega)
          have oO8 : OwnY yK w.heap.size w8 (.slice ao D.length co) (D.map opn) := oO7.upd1 u8 (fun g hg e => by have := (ob g hg).2; omega)
          have hC8 : SlC w8 (.slice ca2 (dn (dnA [] D) x.o.k x.o.s x.o.v).length cc2) (dn (dnA [] D) x.o.k x.o.s x.o.v) ca2 cc2 := hC7.upd u8 (fun z hz hne e => hcq z hz hne e)
          have d8 : Below w.heap.size w w8 := d7.trans (bel_ge u8 (by omega) (by omega))
          refine wpList_nil ?_
          go_upto_region 17 with fail
          refine wp_region_lit ?_
          refine q157.t (.bool (rgt [] D)) (ex_move rfl (q157.e (j := 7) rfl)) fun _ q158 => ?_;clear q157
          refine q158.t (.bool (rgt [] D)) (ex_move rfl (q158.e (j := 90) rfl)) fun _ q159 => ?_;clear q158
          refine vl _ (.pointer (some ⟨b904, 7, none⟩)) (want_g rfl rfl (q159.a 91 rfl)) (fun hc => ex_fa rfl (q159.e (j := 9) rfl) (faK5 _ _)) rfl q159.z (by decide) (q159.k fun _ q160 => ?_);clear q159
          refine vl _ (rV x.r) (want_g rfl rfl (q160.a 91 rfl)) (fun hc => ex_ld rfl (ev (q160.a 92 rfl) hc) Bc8.ldR) rfl q160.z (by decide) (q160.k fun _ q161 => ?_);clear q160
          refine vl _ (rV (wd (dnA [] D) x.o.k x.o.s x.o.v)) (want_g rfl rfl (q161.a 91 rfl)) (fun hc => ex_ld rfl (q161.e (j := 11) rfl) Br8.ldr62) rfl q161.z (by decide) (q161.k fun _ q162 => ?_);clear q161
          refine vl _ (.bool (decide (x.r = wd (dnA [] D) x.o.k x.o.s x.o.v))) (want_g rfl rfl (q162.a 91 rfl)) (fun hc => ex_bin rfl (ev (q162.a 93 rfl) hc) (ev (q162.a 94 rfl) hc) (eqlR62 _ _ _ _ _)) rfl q162.z (by decide) (q162.k fun _ q163 => ?_);clear q162
          refine q163.t (.bool (rgt [] D && decide (x.r = wd (dnA [] D) x.o.k x.o.s x.o.v))) (ex_and (c := true) (b := rgt [] D) (z := decide (x.r = wd (dnA [] D) x.o.k x.o.s x.o.v)) rfl (q163.a 91 rfl) (q163.a 95 rfl) rfl) fun _ q164 => ?_;clear q163
          refine q164.t (.bool (rgt [] D && decide (x.r = wd (dnA [] D) x.o.k x.o.s x.o.v))) (ex_assign rfl (q164.e (j := 96) rfl)) fun _ q165 => ?_;clear q164
          have q166 := (((((((((Rp.nil q165.z).cons (q165.a 0 rfl)).cons (q165.a 3 rfl)).cons (q165.a 4 rfl)).cons (q165.a 5 rfl)).cons (q165.a 6 rfl)).cons (q165.a 7 rfl)).cons (q165.a 8 rfl)).cons (q165.a 9 rfl))
          clear q165
          refine wpList_nil ?_
          go_upto_region 18 with fail
          refine wp_region_lit ?_
          refine q166.t (.slice al D.length cl) (ex_move rfl (q166.e (j := 3) rfl)) fun _ q167 => ?_;clear q166
          refine q167.t (({ kx with r := x.r } : Kl).val) (ex_ld rfl (q167.e (j := 9) rfl) Bc8.ldK) fun _ q168 => ?_;clear q167
          obtain ⟨k1, hk1⟩ : ∃ k1 : Kl, k1 = ({ kx with r := x.r } : Kl) := ⟨_, rfl⟩
          rw [← hk1] at q168 Bc8
          obtain ⟨x1, hx1⟩ : ∃ y, y = w8.alloc (.cells (k1).cs.toArray 45) := ⟨_, rfl⟩
          refine vw (.slice (some ⟨w8.heap.size, 0, none⟩) 1 1) x1 (want_none rfl) (ex_bs18 rfl (q168.e (j := 98) rfl) (by rw [hx1]; exact bsK18 _ _)) rfl q168.z (by decide) (q168.k fun _ q169 => ?_);clear q168
          have se : SlY yK x1 (some ⟨w8.heap.size, 0, none⟩) 1 1 [k1] := by rw [hx1]; exact sl_box (Y := yK) w8 (k1) 45
          have be : Below w8.heap.size w8 x1 := by rw [hx1]; exact (Below.refl _ _).alloc (Nat.le_refl _) _
          clear hx1
          have ye := be.size
          obtain ⟨lv2, x2, hae, oL9, ge, ne⟩ := run_appY kK x1 24 w.heap.size (D) (.slice al D.length cl) _ 1 1 [k1] se (oL8.grow be) (by omega) (by unfold maxLen; omega) (by show (D.length + 1) * 96 ≤ _; omega)
          have ue : Upd (fun k => Value.ownBlock (.slice al D.length cl) = some k) x1 x2 := ⟨ge.os, ge.tape, ge.output, ge.size, fun k hk hs => ge.block k hk (fun e => hs e.symm)⟩
          have ze := ue.size
          refine vw (lv2) x2 (want_none rfl) (ex_app18 rfl (q169.e (j := 97) rfl) (q169.e (j := 99) rfl) hae) rfl q169.z (by decide) (q169.k fun _ q170 => ?_);clear q169
          refine q170.t (lv2) (ex_assign rfl (q170.e (j := 100) rfl)) fun _ q171 => ?_;clear q170
          refine wpList_nil ?_
          have Bc9 : BB x2 b904 45 k1.cs := (Bc8.later be).upd ue (fun e => by have := (lb _ e).2; omega)
          have oO9 : OwnY yK w.heap.size x2 (.slice ao D.length co) (D.map opn) := (oO8.grow be).upd1 ue (fun g hg e => hlo g e hg)
          have hC9 : SlC x2 (.slice ca2 (dn (dnA [] D) x.o.k x.o.s x.o.v).length cc2) (dn (dnA [] D) x.o.k x.o.s x.o.v) ca2 cc2 := (hC8.later be).upd ue (fun z hz hne e => hsp7 z z.block hz hne (.inl e) rfl)
          have d9 : Below w.heap.size w x2 := (d8.trans (be.mono (by omega))).trans (ue.below (by omega) (fun k hk => (lb k hk).1))
          have hl9 : ∀ k, lv2.ownBlock = some k → Value.ownBlock (.slice al D.length cl) = some k ∨ w8.heap.size ≤ k := fun k hk => by
            rcases ne with e | ⟨k2, e, e2⟩
            · exact .inl (by rw [← e]; exact hk)
            · rw [e] at hk
              cases hk
              exact .inr (by omega)
          go_upto_region 19 with fail
          refine wp_region_lit ?_
          refine q171.t (.pointer (some ⟨b904, 6, none⟩)) (ex_fa rfl (q171.e (j := 9) rfl) (faK4 _ _)) fun _ q172 => ?_;clear q171
          obtain ⟨x3, hx3⟩ : ∃ y, y = x2.setCell ⟨b904, 6, none⟩ (.int .i64 (-1)) := ⟨_, rfl⟩
          refine vs x3 (want_none rfl) (ex_st rfl (q172.e (j := 101) rfl) rfl (by rw [hx3]; exact stI18 (b := -1) (Bc9.cell 6) (Bc9.free 6))) rfl ?_
          have Bc10 : BB x3 b904 45 ({ k1 with e := -1 } : Kl).cs := by rw [hx3]; exact Bc9.putKe _
          have u10 : Upd (fun k => k = b904) x2 x3 := by rw [hx3]; exact (Upd.refl (fun k => k = b904) x2).setCell (p := ⟨b904, 6, none⟩) (.inl rfl) _
          clear hx3
          have y10 := u10.size
          refine wpList_nil ?_
          go_upto_region 20 with fail
          refine wp_region_lit ?_
          refine q172.t (rV (0, 0, ⟨#[]⟩)) (ex_buildP18 (P := #[]) rfl (by simp) (bdr62 _)) fun _ q173 => ?_;clear q172
          refine q173.t (.pointer (some ⟨b904, 7, none⟩)) (ex_fa rfl (q173.e (j := 9) rfl) (faK5 _ _)) fun _ q174 => ?_;clear q173
          obtain ⟨x4, hx4⟩ : ∃ y, y = x3.setCells b904 7 (rsC (0, 0, ⟨#[]⟩)) := ⟨_, rfl⟩
          refine vs x4 (want_none rfl) (ex_st rfl (q174.e (j := 103) rfl) (q174.e (j := 102) rfl) (by rw [hx4]; exact Bc10.stKr _)) rfl ?_
          have Bc11 : BB x4 b904 45 (opn k1).cs := by rw [hx4]; exact Bc10.putKr _
          have u11 : Upd (fun k => k = b904) x3 x4 := by rw [hx4]; exact upd18 _ _ _ _
          clear hx4
          have y11 := u11.size
          refine wpList_nil ?_
          have q9l : ∀ k, lv2.ownBlock = some k → k ≠ b904 := fun k hk => by
            rcases hl9 k hk with e | e
            · have := (lb k e).2
              omega
            · omega
          have oL11 : OwnY yK w.heap.size x4 lv2 (D ++ [k1]) := (oL9.upd1 u10 (fun g hg e => q9l g hg e)).upd1 u11 (fun g hg e => q9l g hg e)
          have oO11 : OwnY yK w.heap.size x4 (.slice ao D.length co) (D.map opn) := (oO9.upd1 u10 (fun g hg e => by have := (ob g hg).2; omega)).upd1 u11 (fun g hg e => by have := (ob g hg).2; omega)
          have hC11 : SlC x4 (.slice ca2 (dn (dnA [] D) x.o.k x.o.s x.o.v).length cc2) (dn (dnA [] D) x.o.k x.o.s x.o.v) ca2 cc2 := (hC9.upd u10 (fun z hz hne e => hcq z hz hne e)).upd u11 (fun z hz hne e => hcq z hz hne e)
          have d11 : Below w.heap.size w x4 := (d9.trans (bel_ge u10 (by omega) (by omega))).trans (bel_ge u11 (by omega) (by omega))
          go_upto_region 21 with fail
          refine wp_region_lit ?_
          refine q174.t (.slice ao D.length co) (ex_move rfl (q174.e (j := 4) rfl)) fun _ q175 => ?_;clear q174
          refine q175.t ((opn k1).val) (ex_ld rfl (q175.e (j := 9) rfl) Bc11.ldK) fun _ q176 => ?_;clear q175
          obtain ⟨x5, hx5⟩ : ∃ y, y = x4.alloc (.cells (opn k1).cs.toArray 45) := ⟨_, rfl⟩
          refine vw (.slice (some ⟨x4.heap.size, 0, none⟩) 1 1) x5 (want_none rfl) (ex_bs18 rfl (q176.e (j := 105) rfl) (by rw [hx5]; exact bsK18 _ _)) rfl q176.z (by decide) (q176.k fun _ q177 => ?_);clear q176
          have sf : SlY yK x5 (some ⟨x4.heap.size, 0, none⟩) 1 1 [opn k1] := by rw [hx5]; exact sl_box (Y := yK) x4 (opn k1) 45
          have bf : Below x4.heap.size x4 x5 := by rw [hx5]; exact (Below.refl _ _).alloc (Nat.le_refl _) _
          clear hx5
          have yf := bf.size
          obtain ⟨ov2, x6, haf, oO13, gf, nf⟩ := run_appY kK x5 24 w.heap.size (D.map opn) (.slice ao D.length co) _ 1 1 [opn k1] sf (oO11.grow bf) (by omega) (by rw [List.length_map]; unfold maxLen; omega) (by rw [List.length_map]; show (D.length + 1) * 96 ≤ _; omega)
          have uf : Upd (fun k => Value.ownBlock (.slice ao D.length co) = some k) x5 x6 := ⟨gf.os, gf.tape, gf.output, gf.size, fun k hk hs => gf.block k hk (fun e => hs e.symm)⟩
          have zf := uf.size
          refine vw (ov2) x6 (want_none rfl) (ex_app18 rfl (q177.e (j := 104) rfl) (q177.e (j := 106) rfl) haf) rfl q177.z (by decide) (q177.k fun _ q178 => ?_);clear q177
          refine q178.t (ov2) (ex_assign rfl (q178.e (j := 107) rfl)) fun _ q179 => ?_;clear q178
          refine wpList_nil ?_
          have hlvo : ∀ k, lv2.ownBlock = some k → Value.ownBlock (.slice ao D.length co) = some k → False := fun k h1 h2 => by
            rcases hl9 k h1 with e | e
            · exact hlo k e h2
            · have := (ob k h2).2
              omega
          have oL13 : OwnY yK w.heap.size x6 lv2 (D ++ [k1]) := (oL11.grow bf).upd1 uf (fun g hg e => hlvo g hg e)
          have hC13 : SlC x6 (.slice ca2 (dn (dnA [] D) x.o.k x.o.s x.o.v).length cc2) (dn (dnA [] D) x.o.k x.o.s x.o.v) ca2 cc2 := (hC11.later bf).upd uf (fun z hz hne e => hsp7 z z.block hz hne (.inr e) rfl)
          have d13 : Below w.heap.size w x6 := (d11.trans (bf.mono (by omega))).trans (uf.below (by omega) (fun k hk => (ob k hk).1))
          have ho9 : ∀ k, ov2.ownBlock = some k → Value.ownBlock (.slice ao D.length co) = some k ∨ x4.heap.size < k + 1 := fun k hk => by
            rcases nf with e | ⟨k2, e, e2⟩
            · exact .inl (by rw [← e]; exact hk)
            · rw [e] at hk
              cases hk
              exact .inr (by omega)
          have lb11 := oL11.blk
          have hlo13 : ∀ k, lv2.ownBlock = some k → ov2.ownBlock = some k → False := fun k h1 h2 => by
            rcases ho9 k h2 with e | e
            · exact hlvo k h1 e
            · have := (lb11 k h1).2
              omega
          have hcl2 := hcl
          have hsp13 : ∀ z k, ca2 = some z → dn (dnA [] D) x.o.k x.o.s x.o.v ≠ [] → (lv2.ownBlock = some k ∨ ov2.ownBlock = some k) → z.block ≠ k := fun z k hz hne hk e => by
            have hlt := hcl2 z hz hne
            rcases hk with hk | hk
            · rcases hl9 k hk with h1 | h1
              · exact hsp7 z k hz hne (.inl h1) e
              · omega
            · rcases ho9 k hk with h1 | h1
              · exact hsp7 z k hz hne (.inr h1) e
              · omega
          have hdn : dnA [] (D ++ [k1]) = dn (dnA [] D) x.o.k x.o.s x.o.v := by rw [dnA_snoc, hk1, hkx]; rfl
          have hmp : (D ++ [k1]).map opn = D.map opn ++ [opn k1] := by rw [List.map_append]; rfl
          rw [← hmp] at oO13
          have hk1r : k1.r = x.r := by rw [hk1]
          have hrg : rgt [] (D ++ [k1]) = (rgt [] D && decide (x.r = wd (dnA [] D) x.o.k x.o.s x.o.v)) := by
            rw [rgt_snoc, hk1, hkx]
            congr 1
            exact decide_eq_decide.2 eq_comm
          have gd13 : Gd (D ++ [k1]) (row + 1 + wi62 x.wt + 1 + wi62 x.ls) (j + 1) := by
            have := gd.more h9 (by omega) x.o fx.1 hck (wi62 x.wt) (wi62 x.ls) wi1 wi2 (x.r) fx.2
            rw [hk1, hkx]
            exact this
          go_upto_region 7 with fail
          refine wp_region_lit ?_
          refine q179.t (.int .i64 ((j : Nat) : Int)) (ex_move rfl (q179.e (j := 8) rfl)) fun _ q180 => ?_;clear q179
          refine q180.t (.int .i64 ((j + 1 : Nat) : Int)) (ex_bin rfl (q180.e (j := 28) rfl) rfl (add1C _ _ j (by omega) _)) fun _ q181 => ?_;clear q180
          refine q181.t (.int .i64 ((j + 1 : Nat) : Int)) (ex_assign rfl (q181.e (j := 29) rfl)) fun _ q182 => ?_;clear q181
          have q183 := ((((((((Rp.nil q182.z).cons (q182.a 0 rfl)).cons (q182.a 3 rfl)).cons (q182.a 4 rfl)).cons (q182.a 5 rfl)).cons (q182.a 6 rfl)).cons (q182.a 7 rfl)).cons (q182.a 8 rfl))
          clear q182
          refine wpList_nil ?_
          rw [← hdn] at hC13 q183 hsp13
          have hokd : Ok (dnA [] (D ++ [k1])) := by rw [hdn]; exact hokn
          rw [← hrg] at q183
          exact ⟨_, rfl, hit, lv2, ov2, D ++ [k1], ca2, cc2, _, q183, oL13, oO13, hlo13, hC13, hsp13, hokd, gd13, d13⟩
      · refine q115.t (.bool true) (ex_bin (Y := .int .i64 (0)) rfl (q115.e (j := 35) rfl) rfl (neqT62 _ _ hck _)) fun _ q116 => ?_;clear q115
        refine wpList_nil ?_
        go_upto_region 7 with fail
        refine wp_cond_true (q116.e (j := 36) rfl) ?_
        go_upto_region 7 with fail
        refine wp_region_lit ?_
        refine q116.t (.int .i64 ((j : Nat) : Int)) (ex_move rfl (q116.e (j := 8) rfl)) fun _ q117 => ?_;clear q116
        refine q117.t (.int .i64 ((j + 1 : Nat) : Int)) (ex_bin rfl (q117.e (j := 28) rfl) rfl (add1C _ _ j (by omega) _)) fun _ q118 => ?_;clear q117
        refine q118.t (.int .i64 ((j + 1 : Nat) : Int)) (ex_assign rfl (q118.e (j := 29) rfl)) fun _ q119 => ?_;clear q118
        have q120 := ((((((((Rp.nil q119.z).cons (q119.a 0 rfl)).cons (q119.a 3 rfl)).cons (q119.a 4 rfl)).cons (q119.a 5 rfl)).cons (q119.a 6 rfl)).cons (q119.a 7 rfl)).cons (q119.a 8 rfl))
        clear q119
        refine wpList_nil ?_
        exact ⟨_, rfl, hit, _, _, D, ca, cc, row, q120, oL.grow b1, oO.grow b1, hlo, hC.later b1, hsep, hok, gd.skip, dr.trans (b1.mono zr)⟩
    · subst hlv hov
      go_upto_region 6 with fail
      refine wp_region_lit ?_
      refine q100.t (.int .i64 ((j : Nat) : Int)) (ex_move rfl (q100.e (j := 8) rfl)) fun _ q101 => ?_;clear q100
      refine q101.t (.slice a n c) (ex_move rfl (q101.e (j := 0) rfl)) fun _ q102 => ?_;clear q101
      refine q102.t (.int .i64 ((n : Nat) : Int)) (ex_lenP62 rfl rfl (q102.e (j := 20) rfl)) fun _ q103 => ?_;clear q102
      refine q103.t (.bool true) (ex_bin rfl (q103.e (j := 19) rfl) (q103.e (j := 21) rfl) (ltT _ _ hit _)) fun _ q104 => ?_;clear q103
      refine q104.t (.bool true) (ex_move rfl (q104.e (j := 22) rfl)) fun _ q105 => ?_;clear q104
      refine vl _ (.slice al D.length cl) (want_g rfl rfl (q105.a 23 rfl)) (fun hc => ex_move rfl (q105.e (j := 3) rfl)) rfl q105.z (by decide) (q105.k fun _ q106 => ?_);clear q105
      refine vl _ (.int .i64 ((D.length : Nat) : Int)) (want_g rfl rfl (q106.a 23 rfl)) (fun hc => ex_len18 rfl rfl (ev (q106.a 24 rfl) hc)) rfl q106.z (by decide) (q106.k fun _ q107 => ?_);clear q106
      refine vl _ (.bool false) (want_g rfl rfl (q107.a 23 rfl)) (fun hc => ex_bin (Y := .int .i64 ((8 : Nat) : Int)) rfl (ev (q107.a 25 rfl) hc) rfl (ltF _ _ h9 _)) rfl q107.z (by decide) (q107.k fun _ q108 => ?_);clear q107
      refine q108.t (.bool false) (ex_and (c := true) (b := true) (z := false) rfl (q108.a 23 rfl) (q108.a 26 rfl) rfl) fun _ q109 => ?_;clear q108
      refine wpList_nil ?_
      go_upto_region 22 with fail
      refine wp_cond_false (q109.e (j := 27) rfl) ?_
      go_upto_region 22 with fail
      refine wp_region_lit ?_
      have hLs := oL.sl' kK
      have hOs0 := oO.sl' kK
      have hOs : SlY yK wr ao (D.map opn).length co (D.map opn) := by rw [List.length_map]; exact hOs0
      obtain ⟨he1, ha1⟩ := srA_seq gd.chk gfew
      obtain ⟨he2, ha2⟩ := srA_seq gd.chkO (by rw [List.length_map]; exact gfew)
      rw [lst_seq gd.seq gfew] at ha1
      rw [lst_open] at ha2
      have hS1 := search18_any D al cl wr hLs gd.fit
      rw [he1, ha1] at hS1
      have hsm : (if rgt [] D = true then some (List.range' 0 D.length) else none : Option (List Nat)).isSome = rgt [] D := by cases rgt [] D <;> rfl
      rw [hsm] at hS1
      obtain ⟨wit, hwit⟩ : ∃ z : List Nat, z = ((if rgt [] D = true then some (List.range' 0 D.length) else none : Option (List Nat)).getD []) := ⟨_, rfl⟩
      rw [← hwit] at hS1
      refine q109.t (.slice al D.length cl) (ex_move rfl (q109.e (j := 3) rfl)) fun _ q110 => ?_;clear q109
      refine vcallP (want_none rfl) (ex_call rfl (by simp only [List.map_toArray, List.map_cons, List.map_nil, (q110.e (j := 109) rfl), evc] <;> rfl) rfl) (hS1) rfl q110.z (by decide) ?_
      rintro e w1 ⟨v1, rfl, o1, b1⟩
      refine ⟨_, rfl, q110.k fun _ q111 => ?_⟩;clear q110
      have y1 := b1.size
      obtain ⟨a1, c1, hv1, _, _, _, _⟩ := o1.form
      have hil : (ints wit).length = wit.length := by unfold ints; rw [List.length_map]
      rw [hil] at hv1
      subst hv1
      refine q111.t (.tuple #[.slice a1 wit.length c1, .bool (rgt [] D), .int .i64 0]) (ex_move rfl (q111.e (j := 110) rfl)) fun _ q112 => ?_;clear q111
      refine q112.t (.slice a1 wit.length c1) (ex_ext18 rfl (q112.e (j := 108) rfl) rfl) fun _ q113 => ?_;clear q112
      refine q113.t (.bool (rgt [] D)) (ex_ext18 rfl (q113.e (j := 108) rfl) rfl) fun _ q114 => ?_;clear q113
      refine q114.t (.int .i64 (0)) (ex_ext18 rfl (q114.e (j := 108) rfl) rfl) fun _ q115 => ?_;clear q114
      refine q115.t (.slice a1 wit.length c1) (ex_assign rfl (q115.e (j := 111) rfl)) fun _ q116 => ?_;clear q115
      refine q116.t (.bool (rgt [] D)) (ex_assign rfl (q116.e (j := 112) rfl)) fun _ q117 => ?_;clear q116
      refine q117.t (.int .i64 (0)) (ex_assign rfl (q117.e (j := 113) rfl)) fun _ q118 => ?_;clear q117
      refine wpList_nil ?_
      go_upto_region 23 with fail
      refine wp_region_lit ?_
      have hS2 := search18_any (D.map opn) ao co w1 (hOs.later b1) (fun x hx => by obtain ⟨y, hy, rfl⟩ := List.mem_map.1 hx; exact opn_fits (gd.fit y hy))
      rw [he2, ha2, List.length_map] at hS2
      refine q118.t (.slice ao D.length co) (ex_move rfl (q118.e (j := 4) rfl)) fun _ q119 => ?_;clear q118
      refine vcallP (want_none rfl) (ex_call rfl (by simp only [List.map_toArray, List.map_cons, List.map_nil, (q119.e (j := 115) rfl), evc] <;> rfl) rfl) (hS2) rfl q119.z (by decide) ?_
      rintro e w2 ⟨v2, rfl, o2, b2⟩
      refine ⟨_, rfl, q119.k fun _ q120 => ?_⟩;clear q119
      have y2 := b2.size
      obtain ⟨a2, c2, hv2, _, _, _, _⟩ := o2.form
      subst hv2
      refine q120.t (.tuple #[.slice a2 0 c2, .bool (true), .int .i64 0]) (ex_move rfl (q120.e (j := 116) rfl)) fun _ q121 => ?_;clear q120
      refine q121.t (.slice a2 0 c2) (ex_ext18 rfl (q121.e (j := 114) rfl) rfl) fun _ q122 => ?_;clear q121
      refine q122.t (.bool true) (ex_ext18 rfl (q122.e (j := 114) rfl) rfl) fun _ q123 => ?_;clear q122
      refine q123.t (.int .i64 (0)) (ex_ext18 rfl (q123.e (j := 114) rfl) rfl) fun _ q124 => ?_;clear q123
      refine q124.t (.slice a2 0 c2) (ex_assign rfl (q124.e (j := 117) rfl)) fun _ q125 => ?_;clear q124
      refine q125.t (.bool true) (ex_assign rfl (q125.e (j := 118) rfl)) fun _ q126 => ?_;clear q125
      refine q126.t (.int .i64 (0)) (ex_assign rfl (q126.e (j := 119) rfl)) fun _ q127 => ?_;clear q126
      have q128 := (((((((((Rp.nil q127.z).cons (q127.a 3 rfl)).cons (q127.a 7 rfl)).cons (q127.a 12 rfl)).cons (q127.a 13 rfl)).cons (q127.a 14 rfl)).cons (q127.a 15 rfl)).cons (q127.a 16 rfl)).cons (q127.a 17 rfl))
      clear q127
      refine wpList_nil ?_
      go_upto_region 24 with fail
      refine wp_region_lit ?_
      refine q128.t (.int .i64 (0)) (ex_move rfl (q128.e (j := 14) rfl)) fun _ q129 => ?_;clear q128
      refine q129.t (.bool false) (ex_bin (Y := .int .i64 (0)) rfl (q129.e (j := 120) rfl) rfl (neEf62 _ _ 0 _)) fun _ q130 => ?_;clear q129
      refine q130.t (.bool false) (ex_move rfl (q130.e (j := 121) rfl)) fun _ q131 => ?_;clear q130
      refine vl _ (.int .i64 (0)) (want_g rfl rfl (q131.a 122 rfl)) (fun hc => ex_move rfl (q131.e (j := 17) rfl)) rfl q131.z (by decide) (q131.k fun _ q132 => ?_);clear q131
      refine vl _ (.bool false) (want_g rfl rfl (q132.a 122 rfl)) (fun hc => ex_bin (Y := .int .i64 (0)) rfl (ev (q132.a 123 rfl) hc) rfl (neEf62 _ _ 0 _)) rfl q132.z (by decide) (q132.k fun _ q133 => ?_);clear q132
      refine q133.t (.bool false) (ex_or (c := true) (b := false) (z := false) rfl (q133.a 122 rfl) (q133.a 124 rfl) rfl) fun _ q134 => ?_;clear q133
      refine q134.t (.bool false) (ex_move rfl (q134.e (j := 125) rfl)) fun _ q135 => ?_;clear q134
      refine vl _ (.bool (rgt [] D)) (want_g rfl rfl (q135.a 126 rfl)) (fun hc => ex_move rfl (q135.e (j := 13) rfl)) rfl q135.z (by decide) (q135.k fun _ q136 => ?_);clear q135
      refine vl _ (.bool (rgt [] D)) (want_g rfl rfl (q136.a 126 rfl)) (fun hc => ex_move rfl (q136.e (j := 7) rfl)) rfl q136.z (by decide) (q136.k fun _ q137 => ?_);clear q136
      refine vl _ (.bool false) (want_g rfl rfl (q137.a 126 rfl)) (fun hc => ex_bin rfl (ev (q137.a 127 rfl) hc) (ev (q137.a 128 rfl) hc) (neBf62 _ _ _ _)) rfl q137.z (by decide) (q137.k fun _ q138 => ?_);clear q137
      refine q138.t (.bool false) (ex_or (c := true) (b := false) (z := false) rfl (q138.a 126 rfl) (q138.a 129 rfl) rfl) fun _ q139 => ?_;clear q138
      refine q139.t (.bool false) (ex_move rfl (q139.e (j := 130) rfl)) fun _ q140 => ?_;clear q139
      refine vl _ (.bool true) (want_g rfl rfl (q140.a 131 rfl)) (fun hc => ex_move rfl (q140.e (j := 16) rfl)) rfl q140.z (by decide) (q140.k fun _ q141 => ?_);clear q140
      refine vl _ (.bool false) (want_g rfl rfl (q141.a 131 rfl)) (fun hc => ex_not rfl (ev (q141.a 132 rfl) hc)) rfl q141.z (by decide) (q141.k fun _ q142 => ?_);clear q141
      refine q142.t (.bool false) (ex_or (c := true) (b := false) (z := false) rfl (q142.a 131 rfl) (q142.a 133 rfl) rfl) fun _ q143 => ?_;clear q142
      refine q143.t (.bool false) (ex_move rfl (q143.e (j := 134) rfl)) fun _ q144 => ?_;clear q143
      refine vl _ (.slice a2 0 c2) (want_g rfl rfl (q144.a 135 rfl)) (fun hc => ex_move rfl (q144.e (j := 15) rfl)) rfl q144.z (by decide) (q144.k fun _ q145 => ?_);clear q144
      refine vl _ (.int .i64 ((0 : Nat) : Int)) (want_g rfl rfl (q145.a 135 rfl)) (fun hc => ex_lenN18 rfl rfl (ev (q145.a 136 rfl) hc)) rfl q145.z (by decide) (q145.k fun _ q146 => ?_);clear q145
      refine vl _ (.bool false) (want_g rfl rfl (q146.a 135 rfl)) (fun hc => ex_bin (Y := .int .i64 (0)) rfl (ev (q146.a 137 rfl) hc) rfl (neqF62 _ _ rfl _)) rfl q146.z (by decide) (q146.k fun _ q147 => ?_);clear q146
      refine q147.t (.bool false) (ex_or (c := true) (b := false) (z := false) rfl (q147.a 135 rfl) (q147.a 138 rfl) rfl) fun _ q148 => ?_;clear q147
      refine wpList_nil ?_
      go_upto_region 26 with fail
      refine wp_cond_false (q148.e (j := 139) rfl) ?_
      go_upto_region 26 with fail
      refine wp_region_lit ?_
      refine q148.t (.int .i64 ((0 : Nat) : Int)) (ex_assign rfl rfl) fun _ q149 => ?_;clear q148
      have q150 := (((((Rp.nil q149.z).cons (q149.a 3 rfl)).cons (q149.a 12 rfl)).cons (q149.a 13 rfl)).cons (q149.a 18 rfl))
      clear q149
      refine wpList_nil ?_
      go_upto_region 27 with fail
      have o12 := o1.grow b2
      refine v_loop 18 wit.length (fun i T wz => Rp T 164 [(18, gw true (.int .i64 ((i : Nat) : Int))), (13, gw true (.bool (rgt [] D))), (12, gw true (.slice a1 wit.length c1)), (3, gw true (.slice al D.length cl))] ∧ Hid (Below w2.heap.size w2 wz)) (fun i T w h => h.1.a 18 rfl) ⟨q150, Below.refl _ _⟩ ?_
      clear q150
      intro i T wz hi hh2
      obtain ⟨q700, HJ⟩ := hh2
      have dz : Below w2.heap.size w2 wz := HJ.out
      clear HJ
      by_cases hi2 : i < wit.length
      · have hwi : (ints wit)[i]? = some (i : Int) := by
          have hw9 := hi2
          rw [hwit] at hw9 ⊢
          cases hg : rgt [] D with
          | false => rw [hg] at hw9; simp at hw9
          | true =>
            rw [hg] at hw9
            simp at hw9
            unfold ints
            simp [List.getElem?_range', hw9]
        obtain ⟨qn, on, hqn, hqnl, hln9⟩ := (o12.sl' kN).place (by rintro e; rw [e] at hwi; simp at hwi)
        have hlz : LieY yN wz qn on (ints wit) := hln9.upd (S := fun _ => False) (Upd.of_below dz) hqnl id
        have hcell : wz.cell? ⟨qn, on + i, none⟩ = some (.int .i64 (i : Int)) := by
          have := hlz i _ hwi 0 _ rfl
          simpa [yN] using this
        go_upto_region 27 with fail
        refine wp_region_lit ?_
        refine q700.t (.int .i64 ((i : Nat) : Int)) (ex_move rfl (q700.e (j := 18) rfl)) fun _ q701 => ?_;clear q700
        refine q701.t (.slice a1 wit.length c1) (ex_move rfl (q701.e (j := 12) rfl)) fun _ q702 => ?_;clear q701
        refine q702.t (.int .i64 ((wit.length : Nat) : Int)) (ex_lenN18 rfl rfl (q702.e (j := 141) rfl)) fun _ q703 => ?_;clear q702
        refine q703.t (.bool true) (ex_bin rfl (q703.e (j := 140) rfl) (q703.e (j := 142) rfl) (ltT _ _ hi2 _)) fun _ q704 => ?_;clear q703
        refine wpList_nil ?_
        go_upto_region 29 with fail
        refine wp_cond_true (q704.e (j := 143) rfl) ?_
        go_upto_region 29 with fail
        refine wp_region_lit ?_
        refine q704.t (.slice a1 wit.length c1) (ex_move rfl (q704.e (j := 12) rfl)) fun _ q705 => ?_;clear q704
        refine q705.t (.int .i64 ((i : Nat) : Int)) (ex_move rfl (q705.e (j := 18) rfl)) fun _ q706 => ?_;clear q705
        refine q706.t (.pointer (some ⟨qn, on + i, none⟩)) (ex_ix rfl (q706.e (j := 146) rfl) (q706.e (j := 147) rfl) (by rw [hqn]; exact ixN18 qn on wit.length c1 i hi2 _)) fun _ q707 => ?_;clear q706
        refine q707.t (.int .i64 ((i : Nat) : Int)) (ex_ld rfl (q707.e (j := 148) rfl) (ldI18 hcell)) fun _ q708 => ?_;clear q707
        refine q708.t (.int .i64 ((i : Nat) : Int)) (ex_move rfl (q708.e (j := 18) rfl)) fun _ q709 => ?_;clear q708
        refine q709.t (.bool false) (ex_bin rfl (q709.e (j := 149) rfl) (q709.e (j := 150) rfl) (neqF62 _ _ rfl _)) fun _ q710 => ?_;clear q709
        refine wpList_nil ?_
        go_upto_region 28 with fail
        refine wp_cond_false (q710.e (j := 151) rfl) ?_
        go_upto_region 28 with fail
        refine wp_region_lit ?_
        refine q710.t (.int .i64 ((i : Nat) : Int)) (ex_move rfl (q710.e (j := 18) rfl)) fun _ q711 => ?_;clear q710
        refine q711.t (.int .i64 ((i + 1 : Nat) : Int)) (ex_bin rfl (q711.e (j := 144) rfl) rfl (add1C _ _ i (by have : wit.length ≤ 8 := (by rw [hwit]; cases rgt [] D <;> simp <;> omega); omega) _)) fun _ q712 => ?_;clear q711
        refine q712.t (.int .i64 ((i + 1 : Nat) : Int)) (ex_assign rfl (q712.e (j := 145) rfl)) fun _ q713 => ?_;clear q712
        have q714 := (((((Rp.nil q713.z).cons (q713.a 3 rfl)).cons (q713.a 12 rfl)).cons (q713.a 13 rfl)).cons (q713.a 18 rfl))
        clear q713
        refine wpList_nil ?_
        exact ⟨_, rfl, hi2, q714, dz⟩
      · obtain rfl : i = wit.length := by omega
        go_upto_region 27 with fail
        refine wp_region_lit ?_
        refine q700.t (.int .i64 ((wit.length : Nat) : Int)) (ex_move rfl (q700.e (j := 18) rfl)) fun _ q701 => ?_;clear q700
        refine q701.t (.slice a1 wit.length c1) (ex_move rfl (q701.e (j := 12) rfl)) fun _ q702 => ?_;clear q701
        refine q702.t (.int .i64 ((wit.length : Nat) : Int)) (ex_lenN18 rfl rfl (q702.e (j := 141) rfl)) fun _ q703 => ?_;clear q702
        refine q703.t (.bool false) (ex_bin rfl (q703.e (j := 140) rfl) (q703.e (j := 142) rfl) (ltF _ _ hi2 _)) fun _ q704 => ?_;clear q703
        refine wpList_nil ?_
        go_upto_region 31 with fail
        refine wp_cond_false (q704.e (j := 143) rfl) ?_
        go_upto_region 31 with fail
        refine wp_region_lit ?_
        refine vcallP (want_none rfl) (ex_call rfl (by simp only [List.map_toArray, List.map_cons, List.map_nil, evc] <;> rfl) rfl) (works18_any wz) rfl q704.z (by decide) ?_
        rintro e w5 ⟨rfl, b5⟩
        refine ⟨_, rfl, q704.k fun _ q705 => ?_⟩;clear q704
        refine q705.t (.bool true) (ex_move rfl (q705.e (j := 152) rfl)) fun _ q706 => ?_;clear q705
        have dfin : Below w.heap.size w w5 := (((dr.trans (b1.mono zr)).trans (b2.mono (by omega))).trans (dz.mono (by omega))).trans (b5.mono (by have := dz.size; omega))
        cases hg : rgt [] D with
        | false =>
          rw [hg] at q706
          refine vl _ (.bool false) (want_g rfl rfl (q706.a 153 rfl)) (fun hc => ex_move rfl (q706.e (j := 13) rfl)) rfl q706.z (by decide) (q706.k fun _ q707 => ?_);clear q706
          refine vl _ (.bool true) (want_g rfl rfl (q707.a 153 rfl)) (fun hc => ex_not rfl (ev (q707.a 154 rfl) hc)) rfl q707.z (by decide) (q707.k fun _ q708 => ?_);clear q707
          refine vl _ (.bool true) (want_g rfl rfl (q708.a 153 rfl)) (fun hc => ex_move rfl (ev (q708.a 155 rfl) hc)) rfl q708.z (by decide) (q708.k fun _ q709 => ?_);clear q708
          refine vl ((true && (true == true)) && (true == false)) (undef) (want_g rfl rfl (q709.a 156 rfl)) (fun hc => absurd hc (by decide)) rfl q709.z (by decide) (q709.k fun _ q710 => ?_);clear q709
          refine vl ((true && (true == true)) && (true == false)) (undef) (want_g rfl rfl (q710.a 156 rfl)) (fun hc => absurd hc (by decide)) rfl q710.z (by decide) (q710.k fun _ q711 => ?_);clear q710
          refine vl ((true && (true == true)) && (true == false)) (undef) (want_g rfl rfl (q711.a 156 rfl)) (fun hc => absurd hc (by decide)) rfl q711.z (by decide) (q711.k fun _ q712 => ?_);clear q711
          refine vl ((true && (true == true)) && (true == false)) (undef) (want_g rfl rfl (q712.a 156 rfl)) (fun hc => absurd hc (by decide)) rfl q712.z (by decide) (q712.k fun _ q713 => ?_);clear q712
          refine vl ((true && (true == true)) && (true == false)) (.bool false) (want_g rfl rfl (q713.a 156 rfl)) (fun hc => absurd hc (by decide)) rfl q713.z (by decide) (q713.k fun _ q714 => ?_);clear q713
          refine vl _ (.bool true) (want_g rfl rfl (q714.a 153 rfl)) (fun hc => ex_or (c := true && (true == true)) (b := true) (z := false) rfl (q714.a 156 rfl) (q714.a 161 rfl) hc) rfl q714.z (by decide) (q714.k fun _ q715 => ?_);clear q714
          refine q715.t (.bool true) (ex_and (c := true) (b := true) (z := true) rfl (q715.a 153 rfl) (q715.a 162 rfl) rfl) fun _ q716 => ?_;clear q715
          refine q716.t (.bool true) (ex_assign rfl (q716.e (j := 163) rfl)) fun _ q717 => ?_;clear q716
          refine wpList_nil ?_
          go_wp2
          refine bodyPost_ret (results_tmp rfl _ _ _) rfl ?_
          rw [getD_of (q717.a 2 rfl)]
          exact ⟨rfl, dfin⟩
        | true =>
          rw [hg] at q706
          refine vl _ (.bool true) (want_g rfl rfl (q706.a 153 rfl)) (fun hc => ex_move rfl (q706.e (j := 13) rfl)) rfl q706.z (by decide) (q706.k fun _ q707 => ?_);clear q706
          refine vl _ (.bool false) (want_g rfl rfl (q707.a 153 rfl)) (fun hc => ex_not rfl (ev (q707.a 154 rfl) hc)) rfl q707.z (by decide) (q707.k fun _ q708 => ?_);clear q707
          refine vl _ (.bool false) (want_g rfl rfl (q708.a 153 rfl)) (fun hc => ex_move rfl (ev (q708.a 155 rfl) hc)) rfl q708.z (by decide) (q708.k fun _ q709 => ?_);clear q708
          have hwl : wit.length = D.length := by rw [hwit, hg]; simp
          refine vl ((true && (true == true)) && (false == false)) (.slice a1 wit.length c1) (want_g rfl rfl (q709.a 156 rfl)) (fun hc => ex_move rfl (q709.e (j := 12) rfl)) rfl q709.z (by decide) (q709.k fun _ q710 => ?_);clear q709
          refine vl ((true && (true == true)) && (false == false)) (.int .i64 ((wit.length : Nat) : Int)) (want_g rfl rfl (q710.a 156 rfl)) (fun hc => ex_lenN18 rfl rfl (ev (q710.a 157 rfl) hc)) rfl q710.z (by decide) (q710.k fun _ q711 => ?_);clear q710
          refine vl ((true && (true == true)) && (false == false)) (.slice al D.length cl) (want_g rfl rfl (q711.a 156 rfl)) (fun hc => ex_move rfl (q711.e (j := 3) rfl)) rfl q711.z (by decide) (q711.k fun _ q712 => ?_);clear q711
          refine vl ((true && (true == true)) && (false == false)) (.int .i64 ((D.length : Nat) : Int)) (want_g rfl rfl (q712.a 156 rfl)) (fun hc => ex_len18 rfl rfl (ev (q712.a 159 rfl) hc)) rfl q712.z (by decide) (q712.k fun _ q713 => ?_);clear q712
          refine vl ((true && (true == true)) && (false == false)) (.bool true) (want_g rfl rfl (q713.a 156 rfl)) (fun hc => ex_bin rfl (ev (q713.a 158 rfl) hc) (ev (q713.a 160 rfl) hc) (eqT62 _ _ (by omega) _)) rfl q713.z (by decide) (q713.k fun _ q714 => ?_);clear q713
          refine vl _ (.bool true) (want_g rfl rfl (q714.a 153 rfl)) (fun hc => ex_or (c := true && (true == true)) (b := false) (z := true) rfl (q714.a 156 rfl) (q714.a 161 rfl) hc) rfl q714.z (by decide) (q714.k fun _ q715 => ?_);clear q714
          refine q715.t (.bool true) (ex_and (c := true) (b := true) (z := true) rfl (q715.a 153 rfl) (q715.a 162 rfl) rfl) fun _ q716 => ?_;clear q715
          refine q716.t (.bool true) (ex_assign rfl (q716.e (j := 163) rfl)) fun _ q717 => ?_;clear q716
          refine wpList_nil ?_
          go_wp2
          refine bodyPost_ret (results_tmp rfl _ _ _) rfl ?_
          rw [getD_of (q717.a 2 rfl)]
          exact ⟨rfl, dfin⟩
  · subst hlv hov
    go_upto_region 6 with fail
    refine wp_region_lit ?_
    refine q100.t (.int .i64 ((j : Nat) : Int)) (ex_move rfl (q100.e (j := 8) rfl)) fun _ q101 => ?_;clear q100
    refine q101.t (.slice a n c) (ex_move rfl (q101.e (j := 0) rfl)) fun _ q102 => ?_;clear q101
    refine q102.t (.int .i64 ((n : Nat) : Int)) (ex_lenP62 rfl rfl (q102.e (j := 20) rfl)) fun _ q103 => ?_;clear q102
    refine q103.t (.bool false) (ex_bin rfl (q103.e (j := 19) rfl) (q103.e (j := 21) rfl) (ltF _ _ hit _)) fun _ q104 => ?_;clear q103
    refine q104.t (.bool false) (ex_move rfl (q104.e (j := 22) rfl)) fun _ q105 => ?_;clear q104
    refine vl _ (.slice al D.length cl) (want_g rfl rfl (q105.a 23 rfl)) (fun hc => absurd hc (by decide)) rfl q105.z (by decide) (q105.k fun _ q106 => ?_);clear q105
    refine vl _ (.int .i64 ((D.length : Nat) : Int)) (want_g rfl rfl (q106.a 23 rfl)) (fun hc => absurd hc (by decide)) rfl q106.z (by decide) (q106.k fun _ q107 => ?_);clear q106
    refine vl _ (.bool false) (want_g rfl rfl (q107.a 23 rfl)) (fun hc => absurd hc (by decide)) rfl q107.z (by decide) (q107.k fun _ q108 => ?_);clear q107
    refine q108.t (.bool false) (ex_and (c := true) (b := false) (z := false) rfl (q108.a 23 rfl) (q108.a 26 rfl) rfl) fun _ q109 => ?_;clear q108
    refine wpList_nil ?_
    go_upto_region 22 with fail
    refine wp_cond_false (q109.e (j := 27) rfl) ?_
    go_upto_region 22 with fail
    refine wp_region_lit ?_
    have hLs := oL.sl' kK
    have hOs0 := oO.sl' kK
    have hOs : SlY yK wr ao (D.map opn).length co (D.map opn) := by rw [List.length_map]; exact hOs0
    obtain ⟨he1, ha1⟩ := srA_seq gd.chk gfew
    obtain ⟨he2, ha2⟩ := srA_seq gd.chkO (by rw [List.length_map]; exact gfew)
    rw [lst_seq gd.seq gfew] at ha1
    rw [lst_open] at ha2
    have hS1 := search18_any D al cl wr hLs gd.fit
    rw [he1, ha1] at hS1
    have hsm : (if rgt [] D = true then some (List.range' 0 D.length) else none : Option (List Nat)).isSome = rgt [] D := by cases rgt [] D <;> rfl
    rw [hsm] at hS1
    obtain ⟨wit, hwit⟩ : ∃ z : List Nat, z = ((if rgt [] D = true then some (List.range' 0 D.length) else none : Option (List Nat)).getD []) := ⟨_, rfl⟩
    rw [← hwit] at hS1
    refine q109.t (.slice al D.length cl) (ex_move rfl (q109.e (j := 3) rfl)) fun _ q110 => ?_;clear q109
    refine vcallP (want_none rfl) (ex_call rfl (by simp only [List.map_toArray, List.map_cons, List.map_nil, (q110.e (j := 109) rfl), evc] <;> rfl) rfl) (hS1) rfl q110.z (by decide) ?_
    rintro e w1 ⟨v1, rfl, o1, b1⟩
    refine ⟨_, rfl, q110.k fun _ q111 => ?_⟩;clear q110
    have y1 := b1.size
    obtain ⟨a1, c1, hv1, _, _, _, _⟩ := o1.form
    have hil : (ints wit).length = wit.length := by unfold ints; rw [List.length_map]
    rw [hil] at hv1
    subst hv1
    refine q111.t (.tuple #[.slice a1 wit.length c1, .bool (rgt [] D), .int .i64 0]) (ex_move rfl (q111.e (j := 110) rfl)) fun _ q112 => ?_;clear q111
    refine q112.t (.slice a1 wit.length c1) (ex_ext18 rfl (q112.e (j := 108) rfl) rfl) fun _ q113 => ?_;clear q112
    refine q113.t (.bool (rgt [] D)) (ex_ext18 rfl (q113.e (j := 108) rfl) rfl) fun _ q114 => ?_;clear q113
    refine q114.t (.int .i64 (0)) (ex_ext18 rfl (q114.e (j := 108) rfl) rfl) fun _ q115 => ?_;clear q114
    refine q115.t (.slice a1 wit.length c1) (ex_assign rfl (q115.e (j := 111) rfl)) fun _ q116 => ?_;clear q115
    refine q116.t (.bool (rgt [] D)) (ex_assign rfl (q116.e (j := 112) rfl)) fun _ q117 => ?_;clear q116
    refine q117.t (.int .i64 (0)) (ex_assign rfl (q117.e (j := 113) rfl)) fun _ q118 => ?_;clear q117
    refine wpList_nil ?_
    go_upto_region 23 with fail
    refine wp_region_lit ?_
    have hS2 := search18_any (D.map opn) ao co w1 (hOs.later b1) (fun x hx => by obtain ⟨y, hy, rfl⟩ := List.mem_map.1 hx; exact opn_fits (gd.fit y hy))
    rw [he2, ha2, List.length_map] at hS2
    refine q118.t (.slice ao D.length co) (ex_move rfl (q118.e (j := 4) rfl)) fun _ q119 => ?_;clear q118
    refine vcallP (want_none rfl) (ex_call rfl (by simp only [List.map_toArray, List.map_cons, List.map_nil, (q119.e (j := 115) rfl), evc] <;> rfl) rfl) (hS2) rfl q119.z (by decide) ?_
    rintro e w2 ⟨v2, rfl, o2, b2⟩
    refine ⟨_, rfl, q119.k fun _ q120 => ?_⟩;clear q119
    have y2 := b2.size
    obtain ⟨a2, c2, hv2, _, _, _, _⟩ := o2.form
    subst hv2
    refine q120.t (.tuple #[.slice a2 0 c2, .bool (true), .int .i64 0]) (ex_move rfl (q120.e (j := 116) rfl)) fun _ q121 => ?_;clear q120
    refine q121.t (.slice a2 0 c2) (ex_ext18 rfl (q121.e (j := 114) rfl) rfl) fun _ q122 => ?_;clear q121
    refine q122.t (.bool true) (ex_ext18 rfl (q122.e (j := 114) rfl) rfl) fun _ q123 => ?_;clear q122
    refine q123.t (.int .i64 (0)) (ex_ext18 rfl (q123.e (j := 114) rfl) rfl) fun _ q124 => ?_;clear q123
    refine q124.t (.slice a2 0 c2) (ex_assign rfl (q124.e (j := 117) rfl)) fun _ q125 => ?_;clear q124
    refine q125.t (.bool true) (ex_assign rfl (q125.e (j := 118) rfl)) fun _ q126 => ?_;clear q125
    refine q126.t (.int .i64 (0)) (ex_assign rfl (q126.e (j := 119) rfl)) fun _ q127 => ?_;clear q126
    have q128 := (((((((((Rp.nil q127.z).cons (q127.a 3 rfl)).cons (q127.a 7 rfl)).cons (q127.a 12 rfl)).cons (q127.a 13 rfl)).cons (q127.a 14 rfl)).cons (q127.a 15 rfl)).cons (q127.a 16 rfl)).cons (q127.a 17 rfl))
    clear q127
    refine wpList_nil ?_
    go_upto_region 24 with fail
    refine wp_region_lit ?_
    refine q128.t (.int .i64 (0)) (ex_move rfl (q128.e (j := 14) rfl)) fun _ q129 => ?_;clear q128
    refine q129.t (.bool false) (ex_bin (Y := .int .i64 (0)) rfl (q129.e (j := 120) rfl) rfl (neEf62 _ _ 0 _)) fun _ q130 => ?_;clear q129
    refine q130.t (.bool false) (ex_move rfl (q130.e (j := 121) rfl)) fun _ q131 => ?_;clear q130
    refine vl _ (.int .i64 (0)) (want_g rfl rfl (q131.a 122 rfl)) (fun hc => ex_move rfl (q131.e (j := 17) rfl)) rfl q131.z (by decide) (q131.k fun _ q132 => ?_);clear q131
    refine vl _ (.bool false) (want_g rfl rfl (q132.a 122 rfl)) (fun hc => ex_bin (Y := .int .i64 (0)) rfl (ev (q132.a 123 rfl) hc) rfl (neEf62 _ _ 0 _)) rfl q132.z (by decide) (q132.k fun _ q133 => ?_);clear q132
    refine q133.t (.bool false) (ex_or (c := true) (b := false) (z := false) rfl (q133.a 122 rfl) (q133.a 124 rfl) rfl) fun _ q134 => ?_;clear q133
    refine q134.t (.bool false) (ex_move rfl (q134.e (j := 125) rfl)) fun _ q135 => ?_;clear q134
    refine vl _ (.bool (rgt [] D)) (want_g rfl rfl (q135.a 126 rfl)) (fun hc => ex_move rfl (q135.e (j := 13) rfl)) rfl q135.z (by decide) (q135.k fun _ q136 => ?_);clear q135
    refine vl _ (.bool (rgt [] D)) (want_g rfl rfl (q136.a 126 rfl)) (fun hc => ex_move rfl (q136.e (j := 7) rfl)) rfl q136.z (by decide) (q136.k fun _ q137 => ?_);clear q136
    refine vl _ (.bool false) (want_g rfl rfl (q137.a 126 rfl)) (fun hc => ex_bin rfl (ev (q137.a 127 rfl) hc) (ev (q137.a 128 rfl) hc) (neBf62 _ _ _ _)) rfl q137.z (by decide) (q137.k fun _ q138 => ?_);clear q137
    refine q138.t (.bool false) (ex_or (c := true) (b := false) (z := false) rfl (q138.a 126 rfl) (q138.a 129 rfl) rfl) fun _ q139 => ?_;clear q138
    refine q139.t (.bool false) (ex_move rfl (q139.e (j := 130) rfl)) fun _ q140 => ?_;clear q139
    refine vl _ (.bool true) (want_g rfl rfl (q140.a 131 rfl)) (fun hc => ex_move rfl (q140.e (j := 16) rfl)) rfl q140.z (by decide) (q140.k fun _ q141 => ?_);clear q140
    refine vl _ (.bool false) (want_g rfl rfl (q141.a 131 rfl)) (fun hc => ex_not rfl (ev (q141.a 132 rfl) hc)) rfl q141.z (by decide) (q141.k fun _ q142 => ?_);clear q141
    refine q142.t (.bool false) (ex_or (c := true) (b := false) (z := false) rfl (q142.a 131 rfl) (q142.a 133 rfl) rfl) fun _ q143 => ?_;clear q142
    refine q143.t (.bool false) (ex_move rfl (q143.e (j := 134) rfl)) fun _ q144 => ?_;clear q143
    refine vl _ (.slice a2 0 c2) (want_g rfl rfl (q144.a 135 rfl)) (fun hc => ex_move rfl (q144.e (j := 15) rfl)) rfl q144.z (by decide) (q144.k fun _ q145 => ?_);clear q144
    refine vl _ (.int .i64 ((0 : Nat) : Int)) (want_g rfl rfl (q145.a 135 rfl)) (fun hc => ex_lenN18 rfl rfl (ev (q145.a 136 rfl) hc)) rfl q145.z (by decide) (q145.k fun _ q146 => ?_);clear q145
    refine vl _ (.bool false) (want_g rfl rfl (q146.a 135 rfl)) (fun hc => ex_bin (Y := .int .i64 (0)) rfl (ev (q146.a 137 rfl) hc) rfl (neqF62 _ _ rfl _)) rfl q146.z (by decide) (q146.k fun _ q147 => ?_);clear q146
    refine q147.t (.bool false) (ex_or (c := true) (b := false) (z := false) rfl (q147.a 135 rfl) (q147.a 138 rfl) rfl) fun _ q148 => ?_;clear q147
    refine wpList_nil ?_
    go_upto_region 26 with fail
    refine wp_cond_false (q148.e (j := 139) rfl) ?_
    go_upto_region 26 with fail
    refine wp_region_lit ?_
    refine q148.t (.int .i64 ((0 : Nat) : Int)) (ex_assign rfl rfl) fun _ q149 => ?_;clear q148
    have q150 := (((((Rp.nil q149.z).cons (q149.a 3 rfl)).cons (q149.a 12 rfl)).cons (q149.a 13 rfl)).cons (q149.a 18 rfl))
    clear q149
    refine wpList_nil ?_
    go_upto_region 27 with fail
    have o12 := o1.grow b2
    refine v_loop 18 wit.length (fun i T wz => Rp T 164 [(18, gw true (.int .i64 ((i : Nat) : Int))), (13, gw true (.bool (rgt [] D))), (12, gw true (.slice a1 wit.length c1)), (3, gw true (.slice al D.length cl))] ∧ Hid (Below w2.heap.size w2 wz)) (fun i T w h => h.1.a 18 rfl) ⟨q150, Below.refl _ _⟩ ?_
    clear q150
    intro i T wz hi hh2
    obtain ⟨q700, HJ⟩ := hh2
    have dz : Below w2.heap.size w2 wz := HJ.out
    clear HJ
    by_cases hi2 : i < wit.length
    · have hwi : (ints wit)[i]? = some (i : Int) := by
        have hw9 := hi2
        rw [hwit] at hw9 ⊢
        cases hg : rgt [] D with
        | false => rw [hg] at hw9; simp at hw9
        | true =>
          rw [hg] at hw9
          simp at hw9
          unfold ints
          simp [List.getElem?_range', hw9]
      obtain ⟨qn, on, hqn, hqnl, hln9⟩ := (o12.sl' kN).place (by rintro e; rw [e] at hwi; simp at hwi)
      have hlz : LieY yN wz qn on (ints wit) := hln9.upd (S := fun _ => False) (Upd.of_below dz) hqnl id
      have hcell : wz.cell? ⟨qn, on + i, none⟩ = some (.int .i64 (i : Int)) := by
        have := hlz i _ hwi 0 _ rfl
        simpa [yN] using this
      go_upto_region 27 with fail
      refine wp_region_lit ?_
      refine q700.t (.int .i64 ((i : Nat) : Int)) (ex_move rfl (q700.e (j := 18) rfl)) fun _ q701 => ?_;clear q700
      refine q701.t (.slice a1 wit.length c1) (ex_move rfl (q701.e (j := 12) rfl)) fun _ q702 => ?_;clear q701
      refine q702.t (.int .i64 ((wit.length : Nat) : Int)) (ex_lenN18 rfl rfl (q702.e (j := 141) rfl)) fun _ q703 => ?_;clear q702
      refine q703.t (.bool true) (ex_bin rfl (q703.e (j := 140) rfl) (q703.e (j := 142) rfl) (ltT _ _ hi2 _)) fun _ q704 => ?_;clear q703
      refine wpList_nil ?_
      go_upto_region 29 with fail
      refine wp_cond_true (q704.e (j := 143) rfl) ?_
      go_upto_region 29 with fail
      refine wp_region_lit ?_
      refine q704.t (.slice a1 wit.length c1) (ex_move rfl (q704.e (j := 12) rfl)) fun _ q705 => ?_;clear q704
      refine q705.t (.int .i64 ((i : Nat) : Int)) (ex_move rfl (q705.e (j := 18) rfl)) fun _ q706 => ?_;clear q705
      refine q706.t (.pointer (some ⟨qn, on + i, none⟩)) (ex_ix rfl (q706.e (j := 146) rfl) (q706.e (j := 147) rfl) (by rw [hqn]; exact ixN18 qn on wit.length c1 i hi2 _)) fun _ q707 => ?_;clear q706
      refine q707.t (.int .i64 ((i : Nat) : Int)) (ex_ld rfl (q707.e (j := 148) rfl) (ldI18 hcell)) fun _ q708 => ?_;clear q707
      refine q708.t (.int .i64 ((i : Nat) : Int)) (ex_move rfl (q708.e (j := 18) rfl)) fun _ q709 => ?_;clear q708
      refine q709.t (.bool false) (ex_bin rfl (q709.e (j := 149) rfl) (q709.e (j := 150) rfl) (neqF62 _ _ rfl _)) fun _ q710 => ?_;clear q709
      refine wpList_nil ?_
      go_upto_region 28 with fail
      refine wp_cond_false (q710.e (j := 151) rfl) ?_
      go_upto_region 28 with fail
      refine wp_region_lit ?_
      refine q710.t (.int .i64 ((i : Nat) : Int)) (ex_move rfl (q710.e (j := 18) rfl)) fun _ q711 => ?_;clear q710
      refine q711.t (.int .i64 ((i + 1 : Nat) : Int)) (ex_bin rfl (q711.e (j := 144) rfl) rfl (add1C _ _ i (by have : wit.length ≤ 8 := (by rw [hwit]; cases rgt [] D <;> simp <;> omega); omega) _)) fun _ q712 => ?_;clear q711
      refine q712.t (.int .i64 ((i + 1 : Nat) : Int)) (ex_assign rfl (q712.e (j := 145) rfl)) fun _ q713 => ?_;clear q712
      have q714 := (((((Rp.nil q713.z).cons (q713.a 3 rfl)).cons (q713.a 12 rfl)).cons (q713.a 13 rfl)).cons (q713.a 18 rfl))
      clear q713
      refine wpList_nil ?_
      exact ⟨_, rfl, hi2, q714, dz⟩
    · obtain rfl : i = wit.length := by omega
      go_upto_region 27 with fail
      refine wp_region_lit ?_
      refine q700.t (.int .i64 ((wit.length : Nat) : Int)) (ex_move rfl (q700.e (j := 18) rfl)) fun _ q701 => ?_;clear q700
      refine q701.t (.slice a1 wit.length c1) (ex_move rfl (q701.e (j := 12) rfl)) fun _ q702 => ?_;clear q701
      refine q702.t (.int .i64 ((wit.length : Nat) : Int)) (ex_lenN18 rfl rfl (q702.e (j := 141) rfl)) fun _ q703 => ?_;clear q702
      refine q703.t (.bool false) (ex_bin rfl (q703.e (j := 140) rfl) (q703.e (j := 142) rfl) (ltF _ _ hi2 _)) fun _ q704 => ?_;clear q703
      refine wpList_nil ?_
      go_upto_region 31 with fail
      refine wp_cond_false (q704.e (j := 143) rfl) ?_
      go_upto_region 31 with fail
      refine wp_region_lit ?_
      refine vcallP (want_none rfl) (ex_call rfl (by simp only [List.map_toArray, List.map_cons, List.map_nil, evc] <;> rfl) rfl) (works18_any wz) rfl q704.z (by decide) ?_
      rintro e w5 ⟨rfl, b5⟩
      refine ⟨_, rfl, q704.k fun _ q705 => ?_⟩;clear q704
      refine q705.t (.bool true) (ex_move rfl (q705.e (j := 152) rfl)) fun _ q706 => ?_;clear q705
      have dfin : Below w.heap.size w w5 := (((dr.trans (b1.mono zr)).trans (b2.mono (by omega))).trans (dz.mono (by omega))).trans (b5.mono (by have := dz.size; omega))
      cases hg : rgt [] D with
      | false =>
        rw [hg] at q706
        refine vl _ (.bool false) (want_g rfl rfl (q706.a 153 rfl)) (fun hc => ex_move rfl (q706.e (j := 13) rfl)) rfl q706.z (by decide) (q706.k fun _ q707 => ?_);clear q706
        refine vl _ (.bool true) (want_g rfl rfl (q707.a 153 rfl)) (fun hc => ex_not rfl (ev (q707.a 154 rfl) hc)) rfl q707.z (by decide) (q707.k fun _ q708 => ?_);clear q707
        refine vl _ (.bool true) (want_g rfl rfl (q708.a 153 rfl)) (fun hc => ex_move rfl (ev (q708.a 155 rfl) hc)) rfl q708.z (by decide) (q708.k fun _ q709 => ?_);clear q708
        refine vl ((true && (true == true)) && (true == false)) (undef) (want_g rfl rfl (q709.a 156 rfl)) (fun hc => absurd hc (by decide)) rfl q709.z (by decide) (q709.k fun _ q710 => ?_);clear q709
        refine vl ((true && (true == true)) && (true == false)) (undef) (want_g rfl rfl (q710.a 156 rfl)) (fun hc => absurd hc (by decide)) rfl q710.z (by decide) (q710.k fun _ q711 => ?_);clear q710
        refine vl ((true && (true == true)) && (true == false)) (undef) (want_g rfl rfl (q711.a 156 rfl)) (fun hc => absurd hc (by decide)) rfl q711.z (by decide) (q711.k fun _ q712 => ?_);clear q711
        refine vl ((true && (true == true)) && (true == false)) (undef) (want_g rfl rfl (q712.a 156 rfl)) (fun hc => absurd hc (by decide)) rfl q712.z (by decide) (q712.k fun _ q713 => ?_);clear q712
        refine vl ((true && (true == true)) && (true == false)) (.bool false) (want_g rfl rfl (q713.a 156 rfl)) (fun hc => absurd hc (by decide)) rfl q713.z (by decide) (q713.k fun _ q714 => ?_);clear q713
        refine vl _ (.bool true) (want_g rfl rfl (q714.a 153 rfl)) (fun hc => ex_or (c := true && (true == true)) (b := true) (z := false) rfl (q714.a 156 rfl) (q714.a 161 rfl) hc) rfl q714.z (by decide) (q714.k fun _ q715 => ?_);clear q714
        refine q715.t (.bool true) (ex_and (c := true) (b := true) (z := true) rfl (q715.a 153 rfl) (q715.a 162 rfl) rfl) fun _ q716 => ?_;clear q715
        refine q716.t (.bool true) (ex_assign rfl (q716.e (j := 163) rfl)) fun _ q717 => ?_;clear q716
        refine wpList_nil ?_
        go_wp2
        refine bodyPost_ret (results_tmp rfl _ _ _) rfl ?_
        rw [getD_of (q717.a 2 rfl)]
        exact ⟨rfl, dfin⟩
      | true =>
        rw [hg] at q706
        refine vl _ (.bool true) (want_g rfl rfl (q706.a 153 rfl)) (fun hc => ex_move rfl (q706.e (j := 13) rfl)) rfl q706.z (by decide) (q706.k fun _ q707 => ?_);clear q706
        refine vl _ (.bool false) (want_g rfl rfl (q707.a 153 rfl)) (fun hc => ex_not rfl (ev (q707.a 154 rfl) hc)) rfl q707.z (by decide) (q707.k fun _ q708 => ?_);clear q707
        refine vl _ (.bool false) (want_g rfl rfl (q708.a 153 rfl)) (fun hc => ex_move rfl (ev (q708.a 155 rfl) hc)) rfl q708.z (by decide) (q708.k fun _ q709 => ?_);clear q708
        have hwl : wit.length = D.length := by rw [hwit, hg]; simp
        refine vl ((true && (true == true)) && (false == false)) (.slice a1 wit.length c1) (want_g rfl rfl (q709.a 156 rfl)) (fun hc => ex_move rfl (q709.e (j := 12) rfl)) rfl q709.z (by decide) (q709.k fun _ q710 => ?_);clear q709
        refine vl ((true && (true == true)) && (false == false)) (.int .i64 ((wit.length : Nat) : Int)) (want_g rfl rfl (q710.a 156 rfl)) (fun hc => ex_lenN18 rfl rfl (ev (q710.a 157 rfl) hc)) rfl q710.z (by decide) (q710.k fun _ q711 => ?_);clear q710
        refine vl ((true && (true == true)) && (false == false)) (.slice al D.length cl) (want_g rfl rfl (q711.a 156 rfl)) (fun hc => ex_move rfl (q711.e (j := 3) rfl)) rfl q711.z (by decide) (q711.k fun _ q712 => ?_);clear q711
        refine vl ((true && (true == true)) && (false == false)) (.int .i64 ((D.length : Nat) : Int)) (want_g rfl rfl (q712.a 156 rfl)) (fun hc => ex_len18 rfl rfl (ev (q712.a 159 rfl) hc)) rfl q712.z (by decide) (q712.k fun _ q713 => ?_);clear q712
        refine vl ((true && (true == true)) && (false == false)) (.bool true) (want_g rfl rfl (q713.a 156 rfl)) (fun hc => ex_bin rfl (ev (q713.a 158 rfl) hc) (ev (q713.a 160 rfl) hc) (eqT62 _ _ (by omega) _)) rfl q713.z (by decide) (q713.k fun _ q714 => ?_);clear q713
        refine vl _ (.bool true) (want_g rfl rfl (q714.a 153 rfl)) (fun hc => ex_or (c := true && (true == true)) (b := false) (z := true) rfl (q714.a 156 rfl) (q714.a 161 rfl) hc) rfl q714.z (by decide) (q714.k fun _ q715 => ?_);clear q714
        refine q715.t (.bool true) (ex_and (c := true) (b := true) (z := true) rfl (q715.a 153 rfl) (q715.a 162 rfl) rfl) fun _ q716 => ?_;clear q715
        refine q716.t (.bool true) (ex_assign rfl (q716.e (j := 163) rfl)) fun _ q717 => ?_;clear q716
        refine wpList_nil ?_
        go_wp2
        refine bodyPost_ret (results_tmp rfl _ _ _) rfl ?_
        rw [getD_of (q717.a 2 rfl)]
        exact ⟨rfl, dfin⟩
theorem onebyone_came18 (a : Option Addr) (n c : Nat) (W : World) (h : CameSp W a n c) :
    Calls Try.prog 5 #[.slice a n c] W fun e w' => e = .returned (.bool true) ∧ Below W.heap.size W w' := by
  obtain ⟨P, s, f, hn⟩ := h
  exact oneByOne18 P a n c W s f hn
end Go.Proofs.Ytjabbplfbjaenaa
