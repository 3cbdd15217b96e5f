import Derived.Test.YtjkleldoeojbbaaK16
import Derived.Laws.EntriesVeiled
namespace Go.Proofs.Ytjkleldoeojbbaa
open Go.RowKit Go.Maps
open Classical
set_option linter.unusedVariables false
set_option linter.unusedSimpArgs false

theorem search_any {l : List Kl} {a : Option Addr} {c : Nat} {w0 : World} {lb vb ob sb mb : Nat} (hl8 : l.length ≤ 8) (hfx : ∀ x ∈ l, x.fits) : ∀ k, SC l a c w0 lb vb ob sb mb k
  | 0 => search_step hl8 hfx 0 (fun k' h => by omega)
  | k + 1 => search_step hl8 hfx (k + 1) (fun k' h => by
    obtain rfl : k' = k := by omega
    exact search_any hl8 hfx k')
theorem results2_18 {fn : Func} {j k : Tmp} {x y : Value} {tmps : Array Value} {w : World} (h : fn.results = #[.tmp j, .tmp k]) (hj : tmps[j]? = some (gw true x)) (hk : tmps[k]? = some (gw true y)) : (results fn tmps).run Try.prog w = .ok (.tuple #[x, y]) w := by
  simp only [results, h]
  have hj' : tmps.getD j undef = x := getD_of hj
  have hk' : tmps.getD k undef = y := getD_of hk
  simp only [Array.getD_eq_getD_getElem?] at hj' hk'
  simp [Sem.run_bind, Result.andThen, hj', hk']
theorem bxSlK (a : Option Addr) (n c : Nat) (w : World) : (Instr.box 24 (.slice a n c)).run Try.prog w = .ok (.pointer (some ⟨w.heap.size, 0, none⟩)) (w.alloc (.cells [Value.slice a n c].toArray 24)) := rfl
theorem alSlN (w : World) : (Instr.alloc 50 true (.tuple #[])).run Try.prog w = .ok (.pointer (some ⟨w.heap.size, 0, none⟩)) (w.alloc (.cells [Value.slice none 0 0].toArray 50)) := by kernel_rfl
theorem alMpK (w : World) : (Instr.alloc 162 true (.tuple #[])).run Try.prog w = .ok (.pointer (some ⟨w.heap.size, 0, none⟩)) (w.alloc (.cells [Value.map none].toArray 162)) := by kernel_rfl
theorem alFnK (w : World) : (Instr.alloc 163 true (.tuple #[])).run Try.prog w = .ok (.pointer (some ⟨w.heap.size, 0, none⟩)) (w.alloc (.cells [Value.nilFunc].toArray 163)) := by kernel_rfl
theorem stMpK {w : World} {q : Nat} {u : Value} {m : Option Nat} (h : w.cell? ⟨q, 0, none⟩ = some u) (hf : w.frozen? ⟨q, 0, none⟩ = false) : (Instr.storeAt 162 (.pointer (some ⟨q, 0, none⟩)) (.map m)).run Try.prog w = .ok () (w.setCell ⟨q, 0, none⟩ (.map m)) := by go_simp
theorem stFnK {w : World} {q : Nat} {u : Value} {f : Fn} {x y : Array Value} (h : w.cell? ⟨q, 0, none⟩ = some u) (hf : w.frozen? ⟨q, 0, none⟩ = false) : (Instr.storeAt 163 (.pointer (some ⟨q, 0, none⟩)) (.func f x y)).run Try.prog w = .ok () (w.setCell ⟨q, 0, none⟩ (.func f x y)) := by go_simp
theorem bd8 (w : World) : (Instr.build 164 #[]).run Try.prog w = .ok (.agg (D0.map Value.bool).toArray) w := by kernel_rfl
theorem ex_mm18 {o : Oper} {ρ : Operand → Value} {s : TypeId} {V : Value} {w w' : World} (ho : o.op = .makeMap s none) (hr : (Instr.makeMap s none).run Try.prog w = .ok V w') : (execOp ρ o).run Try.prog w = .ok (.value V) w' := by
  unfold execOp
  simp only [ho, Option.map_none, Sem.run_bind, hr, Result.andThen_ok]
  rfl
theorem ex_mf18 {o : Oper} {ρ : Operand → Value} {f : Fn} {x1 x2 x3 x4 : Operand} {X1 X2 X3 X4 : Value} {w : World} (ho : o.op = .makeFunc f #[] #[x1, x2, x3, x4]) (h1 : ρ x1 = X1) (h2 : ρ x2 = X2) (h3 : ρ x3 = X3) (h4 : ρ x4 = X4) : (execOp ρ o).run Try.prog w = .ok (.value (.func f #[] #[X1, X2, X3, X4])) w := by
  unfold execOp
  simp only [ho, List.map_toArray, List.map_cons, List.map_nil, h1, h2, h3, h4, Instr.makeFunc]
  rfl
/-- The search's answer. -/
def lst (l : List Kl) : Option (List Nat) := srK l l.length D0 []
def ints (s : List Nat) : List Int := s.map (fun (i : Nat) => (i : Int))
set_option maxRecDepth 100000 in
set_option maxHeartbeats 1000000 in
theorem least_any (l : List Kl) (a : Option Addr) (c : Nat) (w : World) (hsl : SlY yK w a l.length c l) (hl8 : l.length ≤ 8) (hfx : ∀ x ∈ l, x.fits) :
    Calls Try.prog 51 #[.slice a l.length c] w fun e w' => ∃ v, e = .returned (.tuple #[v, .bool (lst l).isSome]) ∧ OwnY yN w.heap.size w' v (ints ((lst l).getD [])) ∧ Below w.heap.size w w' := by
  go_enter Try.func51, Try.ntmps51
  go_upto_region 0 with fail
  refine wp_region_lit ?_
  refine vl_gen (fun T => Rp T 15 [(0, gw true (.slice a l.length c))]) ((Rp.nil rfl).cons rfl) (fun Z0 q0 => ?_)
  obtain ⟨w1, hw1⟩ : ∃ y, y = w.alloc (.cells [.slice a l.length c].toArray 24) := ⟨_, rfl⟩
  refine vw (.pointer (some ⟨w.heap.size, 0, none⟩)) w1 (want_none rfl) (ex_box18 rfl (q0.e (j := 0) rfl) (by rw [hw1]; exact bxSlK _ _ _ _)) rfl q0.z (by decide) (q0.k fun _ q1 => ?_);clear q0
  have Bl : BB w1 (w.heap.size) 24 [.slice a l.length c] := by rw [hw1]; exact BB.new _ _ _
  have bw1 : Below w.heap.size w w1 := by rw [hw1]; exact (Below.refl _ _).alloc (Nat.le_refl _) _
  have zw1 : w1.heap.size = w.heap.size + 1 := by rw [hw1]; simp
  clear hw1
  refine q1.t (.slice none 0 0) (ex_assign rfl rfl) fun _ q2 => ?_;clear q1
  refine q2.t (.bool false) (ex_assign rfl rfl) fun _ q3 => ?_;clear q2
  refine wpList_nil ?_
  go_upto_region 1 with fail
  refine wp_region_lit ?_
  obtain ⟨w2, hw2⟩ : ∃ y, y = w1.alloc (.cells [.slice none 0 0].toArray 50) := ⟨_, rfl⟩
  refine vw (.pointer (some ⟨w1.heap.size, 0, none⟩)) w2 (want_none rfl) (ex_al rfl (by rw [hw2]; exact alSlN _)) rfl q3.z (by decide) (q3.k fun _ q4 => ?_);clear q3
  have Bo : BB w2 (w1.heap.size) 50 [.slice none 0 0] := by rw [hw2]; exact BB.new _ _ _
  have bw2 : Below w1.heap.size w1 w2 := by rw [hw2]; exact (Below.refl _ _).alloc (Nat.le_refl _) _
  have zw2 : w2.heap.size = w1.heap.size + 1 := by rw [hw2]; simp
  clear hw2
  replace Bl := Bl.later bw2
  refine wpList_nil ?_
  go_upto_region 2 with fail
  refine wp_region_lit ?_
  obtain ⟨w3, hw3⟩ : ∃ y, y = w2.alloc (.map #[] 0) := ⟨_, rfl⟩
  refine vw (.map (some w2.heap.size)) w3 (want_none rfl) (ex_mm18 rfl (by rw [hw3]; exact run_makeMap _ _)) rfl q4.z (by decide) (q4.k fun _ q5 => ?_);clear q4
  have M3 : MapG zPt w3 w2.heap.size 0 (fun _ => none) := by rw [hw3]; exact MapG.made zPt w2
  have bw3 : Below w2.heap.size w2 w3 := by rw [hw3]; exact (Below.refl _ _).alloc (Nat.le_refl _) _
  have zw3 : w3.heap.size = w2.heap.size + 1 := by rw [hw3]; simp
  clear hw3
  replace Bl := Bl.later bw3
  replace Bo := Bo.later bw3
  obtain ⟨w4, hw4⟩ : ∃ y, y = w3.alloc (.cells [.map none].toArray 162) := ⟨_, rfl⟩
  refine vw (.pointer (some ⟨w3.heap.size, 0, none⟩)) w4 (want_none rfl) (ex_al rfl (by rw [hw4]; exact alMpK _)) rfl q5.z (by decide) (q5.k fun _ q6 => ?_);clear q5
  have Bv : BB w4 (w3.heap.size) 162 [.map none] := by rw [hw4]; exact BB.new _ _ _
  have bw4 : Below w3.heap.size w3 w4 := by rw [hw4]; exact (Below.refl _ _).alloc (Nat.le_refl _) _
  have zw4 : w4.heap.size = w3.heap.size + 1 := by rw [hw4]; simp
  clear hw4
  replace Bl := Bl.later bw4
  replace Bo := Bo.later bw4
  replace M3 := M3.later bw4
  obtain ⟨w5, hw5⟩ : ∃ y, y = w4.setCell ⟨w3.heap.size, 0, none⟩ (.map (some w2.heap.size)) := ⟨_, rfl⟩
  refine vs w5 (want_none rfl) (ex_st rfl (q6.e (j := 5) rfl) (q6.e (j := 7) rfl) (by rw [hw5]; exact stMpK (Bv.cell 0) (Bv.free 0))) rfl ?_
  have u5 : Upd (fun k => k = w3.heap.size) w4 w5 := by rw [hw5]; exact (Upd.refl (fun k => k = w3.heap.size) _).setCell (p := ⟨w3.heap.size, 0, none⟩) (.inl rfl) _
  replace Bv : BB w5 w3.heap.size 162 [.map (some w2.heap.size)] := by rw [hw5]; exact Bv.set1 0 _
  clear hw5
  replace Bl := Bl.upd u5 (by omega)
  replace Bo := Bo.upd u5 (by omega)
  replace M3 := M3.upd u5 (by omega)
  have zw5 := u5.size
  refine wpList_nil ?_
  go_upto_region 3 with fail
  refine wp_region_lit ?_
  obtain ⟨w6, hw6⟩ : ∃ y, y = w5.alloc (.cells [.nilFunc].toArray 163) := ⟨_, rfl⟩
  refine vw (.pointer (some ⟨w5.heap.size, 0, none⟩)) w6 (want_none rfl) (ex_al rfl (by rw [hw6]; exact alFnK _)) rfl q6.z (by decide) (q6.k fun _ q7 => ?_);clear q6
  have Bs : BB w6 (w5.heap.size) 163 [.nilFunc] := by rw [hw6]; exact BB.new _ _ _
  have bw6 : Below w5.heap.size w5 w6 := by rw [hw6]; exact (Below.refl _ _).alloc (Nat.le_refl _) _
  have zw6 : w6.heap.size = w5.heap.size + 1 := by rw [hw6]; simp
  clear hw6
  replace Bl := Bl.later bw6
  replace Bo := Bo.later bw6
  replace Bv := Bv.later bw6
  replace M3 := M3.later bw6
  refine wpList_nil ?_
  go_upto_region 4 with fail
  refine wp_region_lit ?_
  refine q7.t (FV w.heap.size w3.heap.size w1.heap.size w5.heap.size) (ex_mf18 rfl (q7.e (j := 1) rfl) (q7.e (j := 5) rfl) (q7.e (j := 4) rfl) (q7.e (j := 6) rfl)) fun _ q8 => ?_;clear q7
  obtain ⟨w7, hw7⟩ : ∃ y, y = w6.setCell ⟨w5.heap.size, 0, none⟩ (FV w.heap.size w3.heap.size w1.heap.size w5.heap.size) := ⟨_, rfl⟩
  refine vs w7 (want_none rfl) (ex_st rfl (q8.e (j := 6) rfl) (q8.e (j := 8) rfl) (by rw [hw7]; exact stFnK (Bs.cell 0) (Bs.free 0))) rfl ?_
  have u7 : Upd (fun k => k = w5.heap.size) w6 w7 := by rw [hw7]; exact (Upd.refl (fun k => k = w5.heap.size) _).setCell (p := ⟨w5.heap.size, 0, none⟩) (.inl rfl) _
  replace Bs : BB w7 w5.heap.size 163 [FV w.heap.size w3.heap.size w1.heap.size w5.heap.size] := by rw [hw7]; exact Bs.set1 0 _
  clear hw7
  replace Bl := Bl.upd u7 (by omega)
  replace Bo := Bo.upd u7 (by omega)
  replace Bv := Bv.upd u7 (by omega)
  replace M3 := M3.upd u7 (by omega)
  have zw7 := u7.size
  have cw : Below w.heap.size w w7 := (((((bw1.trans (bw2.mono (by omega))).trans (bw3.mono (by omega))).trans (bw4.mono (by omega))).trans (bel_ge u5 (by omega) (by omega))).trans (bw6.mono (by omega))).trans (bel_ge u7 (by omega) (by omega))
  have hST : ST l a c w w.heap.size w3.heap.size w1.heap.size w5.heap.size w2.heap.size w7 [] (.slice none 0 0) 0 (fun _ => none) := ⟨hsl, cw, Bl.cell 0, Bv.cell 0, Bo.cell 0, Bo.free 0, Bs.cell 0, M3, (fun k u h => by cases h), OwnY.nil _ _ _, (fun k _ h => by cases h), ⟨by omega, by omega⟩, ⟨by omega, by omega, by omega⟩, by simp [Value.ownBlock]⟩
  have q9 := (((Rp.nil q8.z).cons (q8.a 4 rfl)).cons (q8.a 6 rfl))
  clear q8
  refine wpList_nil ?_
  go_upto_region 5 with fail
  refine vh_start (fun v => v.cell? ⟨w5.heap.size, 0, none⟩ = some (FV w.heap.size w3.heap.size w1.heap.size w5.heap.size)) (by kernel_rfl) ?_
  have hd : Below w7.heap.size w7 w7.drew := (Below.refl _ _).drew
  have hz : w7.drew.heap.size = w7.heap.size := rfl
  generalize w7.drew = d at *
  have hSd := hST.later hd
  refine vh_take 0 true (FV w.heap.size w3.heap.size w1.heap.size w5.heap.size) rfl (by kernel_rfl) (by kernel_rfl) (by kernel_rfl) (want_none rfl) (fun hc v hv => ex_ld rfl (q9.e (j := 6) rfl) (ldFnK hv)) rfl q9.z (by decide) hSd.c3 (q9.k fun _ q10 => ?_);clear q9
  refine vh_take 1 true (.agg (D0.map Value.bool).toArray) rfl (by kernel_rfl) (by kernel_rfl) (by kernel_rfl) (want_none rfl) (fun hc v hv => ex_build rfl (bd8 _)) rfl q10.z (by decide) hSd.c3 (q10.k fun _ q11 => ?_);clear q10
  refine vh_call 2 rfl (by kernel_rfl) (want_none rfl) (ex_call (args := #[]) rfl (by simp) rfl) (new_any d) rfl q11.z (by decide) ?_
  rintro e d1 ⟨rfl, hL1, u1, z1⟩
  have hb1 : Below d.heap.size d d1 := u1.below (Nat.le_refl _) (fun k hk => hk.elim)
  have hS1 := hSd.later hb1
  refine ⟨_, rfl, hS1.c3, q11.k fun _ q12 => ?_⟩
  clear q11
  have hcz := cU_le D0 l.length
  have CC := search_any (l := l) (a := a) (c := c) (w0 := w) (lb := w.heap.size) (vb := w3.heap.size) (ob := w1.heap.size) (sb := w5.heap.size) (mb := w2.heap.size) hl8 hfx l.length D0 [] d.heap.size none [] (.slice none 0 0) 0 _ d1 rfl hcz (by simpa using hl8) (by simpa using hl8) (by rw [Nat.zero_add]; exact Nat.pow_le_pow_right (by omega) (by omega)) hL1 hS1 (by omega) (by simp [Value.ownBlock]) (by simp)
  refine vh_call 3 rfl (by kernel_rfl) (want_none rfl) (ex_callV18 rfl (q12.e (j := 9) rfl) (args := #[.agg (D0.map Value.bool).toArray, .pointer (some ⟨d.heap.size, 0, none⟩), .pointer (some ⟨w.heap.size, 0, none⟩), .pointer (some ⟨w3.heap.size, 0, none⟩), .pointer (some ⟨w1.heap.size, 0, none⟩), .pointer (some ⟨w5.heap.size, 0, none⟩)]) (by simp only [List.map_toArray, List.map_cons, List.map_nil, q12.e (j := 10) rfl, q12.e (j := 11) rfl] <;> rfl) rfl) CC rfl q12.z (by decide) ?_
  rintro e d2 ⟨rfl, v2, n2, V2, hS2, hn2, u2, hv2⟩
  refine ⟨_, rfl, hS2.c3, q12.k fun _ q13 => ?_⟩
  clear q12 CC
  refine vh_take 4 true (.bool (!(lst l).isSome)) rfl (by kernel_rfl) (by kernel_rfl) (by kernel_rfl) (want_none rfl) (fun hc v hv => ex_not rfl (q13.e (j := 12) rfl)) rfl q13.z (by decide) hS2.c3 (q13.k fun _ q14 => ?_);clear q13
  refine vh_done (by kernel_rfl) ?_
  have q15 := (((Rp.nil q14.z).cons (q14.a 4 rfl)).cons (q14.a 13 rfl))
  clear q14
  rw [List.nil_append] at hS2
  cases hk : lst l with
  | none =>
    have q15x := q15.a 13 rfl
    rw [hk] at q15x
    go_upto_region 6 with fail
    refine wp_cond_true (ev q15x rfl) ?_
    go_upto_region 6 with fail
    refine wp_region_lit ?_
    refine q15.t (.slice none 0 0) (ex_assign rfl rfl) fun _ q16 => ?_;clear q15
    refine q16.t (.bool false) (ex_assign rfl rfl) fun _ q17 => ?_;clear q16
    refine wpList_nil ?_
    go_wp2
    exact bodyPost_ret (results2_18 rfl (q17.a 2 rfl) (q17.a 3 rfl)) rfl ⟨_, by rw [hk]; rfl, by rw [hk]; exact OwnY.nil _ _ _, hS2.bel⟩
  | some sx =>
    have q15x := q15.a 13 rfl
    rw [hk] at q15x
    have hS3 : ST l a c w w.heap.size w3.heap.size w1.heap.size w5.heap.size w2.heap.size d2 (ints sx) v2 n2 V2 := by unfold lst at hk; rw [hk] at hS2; exact hS2
    obtain ⟨av, cv, hvf, _⟩ := hS3.own.form
    go_upto_region 7 with fail
    refine wp_cond_false (ev q15x rfl) ?_
    go_upto_region 7 with fail
    refine wp_region_lit ?_
    refine q15.t (v2) (ex_ld rfl (q15.e (j := 4) rfl) (by rw [hvf]; exact ldSlN (hvf ▸ hS3.c2))) fun _ q16 => ?_;clear q15
    refine q16.t (v2) (ex_assign rfl (q16.e (j := 14) rfl)) fun _ q17 => ?_;clear q16
    refine q17.t (.bool true) (ex_assign rfl rfl) fun _ q18 => ?_;clear q17
    refine wpList_nil ?_
    go_wp2
    exact bodyPost_ret (results2_18 rfl (q18.a 2 rfl) (q18.a 3 rfl)) rfl ⟨_, by rw [hk]; rfl, by rw [hk]; exact hS3.own, hS3.bel⟩
theorem few_any (l : List Kl) (a : Option Addr) (c : Nat) (w : World) (hsl : SlY yK w a l.length c l) (hfx : ∀ x ∈ l, x.fits) :
    Calls Try.prog 48 #[.slice a l.length c] w fun e w' => e = .returned (.int .i64 (if kchk l ≠ 0 then kchk l else if 8 < l.length then 181 else 0)) ∧ Below w.heap.size w w' := by
  have cc := check18_any l a c w hsl hfx
  have hmx := hsl.max
  have hcp := hsl.cap
  unfold maxLen at hmx
  clear hsl
  rcases kcA_zero [] l with h | h
  · have h : kchk l = 0 := h
    rw [h] at cc ⊢
    by_cases h8 : 8 < l.length
    · simp only [ne_eq, not_true, if_false, if_pos h8]
      go_enter Try.func48, Try.ntmps48
      go_wp2_with (go_at_call 30; refine cc.mono ?_; rintro e w1 ⟨rfl, b1⟩)
      go_ret
      exact ⟨rfl, b1⟩
    · simp only [ne_eq, not_true, if_false, if_neg h8]
      go_enter Try.func48, Try.ntmps48
      go_wp2_with (go_at_call 30; refine cc.mono ?_; rintro e w1 ⟨rfl, b1⟩)
      go_ret
      exact ⟨rfl, b1⟩
  · have h : kchk l = 180 := h
    rw [h] at cc ⊢
    go_enter Try.func48, Try.ntmps48
    go_wp2_with (go_at_call 30; refine cc.mono ?_; rintro e w1 ⟨rfl, b1⟩)
    go_ret
    exact ⟨rfl, b1⟩
/-- Search's error, and its answer. -/
def srE (l : List Kl) : Int := if kchk l ≠ 0 then kchk l else if 8 < l.length then 181 else 0
def srA (l : List Kl) : Option (List Nat) := if srE l ≠ 0 then none else lst l
theorem search18_any (l : List Kl) (a : Option Addr) (c : Nat) (w : World) (hsl : SlY yK w a l.length c l) (hfx : ∀ x ∈ l, x.fits) :
    Calls Try.prog 29 #[.slice a l.length c] w fun e w' => ∃ v, e = .returned (.tuple #[v, .bool (srA l).isSome, .int .i64 (srE l)]) ∧ OwnY yN w.heap.size w' v (ints ((srA l).getD [])) ∧ Below w.heap.size w w' := by
  have cf := few_any l a c w hsl hfx
  have hcl := fun W (hW : Below w.heap.size w W) h8 => least_any l a c W (hsl.on hW (Nat.le_refl _)) h8 hfx
  have HE : Hid (srE l = if kchk l ≠ 0 then kchk l else if 8 < l.length then 181 else 0) := rfl
  rw [← HE.out] at cf
  by_cases h0 : srE l = 0
  · have h8 : l.length ≤ 8 := by
      have := HE.out
      rw [h0] at this
      by_cases h1 : kchk l = 0
      · simp [h1] at this; exact this
      · simp [h1] at this; exact absurd this.symm h1
    have HA : Hid (srA l = lst l) := by show _ = _; simp [srA, h0]
    rw [HA.out]
    rw [h0] at cf ⊢
    have HL := hide (fun W hW => hcl W hW h8)
    clear hcl HE h0 h8 hsl
    go_enter Try.func29, Try.ntmps29
    go_wp2_with (first
      | (go_at_call 48; refine cf.mono ?_; rintro e w1 ⟨rfl, b1⟩)
      | (go_at_call 51; refine (HL.out _ b1).mono ?_; rintro e w2 ⟨v, rfl, o2, b2⟩))
    go_ret3
    exact ⟨v, rfl, o2.low b1.size, b1.trans (b2.mono b1.size)⟩
  · have HA : Hid (srA l = none) := by show _ = _; simp [srA, h0]
    rw [HA.out]
    generalize srE l = X at *
    have hne : (X != 0) = true := by simpa using h0
    clear hcl HE hsl
    go_enter Try.func29, Try.ntmps29
    go_wp2_with (go_at_call 48; refine cf.mono ?_; rintro e w1 ⟨rfl, b1⟩)
    go_ret3
    exact ⟨_, rfl, OwnY.nil _ _ _, b1⟩

end Go.Proofs.Ytjkleldoeojbbaa
