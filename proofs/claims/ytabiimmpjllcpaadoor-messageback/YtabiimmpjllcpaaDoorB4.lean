import Derived.Test.YtabiimmpjllcpaaDoorRows
import Derived.Lib.LaidTab
import Derived.MakeChecks
import Derived.ChangeOld
import Derived.ProofKit
import Derived.OpenShut
import Derived.Deep.SlicePairs
import Derived.SizedLaws
import Derived.Test.YtabiimmpjllcpaaDoorB3
namespace Go.Proofs.YtabiimmpjllcpaaDoor
open Go.RowKit Go.Maps
open Classical
set_option linter.unusedVariables false
set_option linter.unusedSimpArgs false
theorem tnVal_lt {l : List Int} (hb : isB l) : Wi.tnVal l < 2 ^ 64 := by
  by_cases h : Wi.tnErr l = 0
  · exact (Wi.tn_form l hb h).2.2.1
  · unfold Wi.tnVal
    rw [if_neg h]
    decide
theorem rN_lt {l : List Int} (hb : isB l) (s : Nat × Int) : rN l s < 18446744073709551616 := by
  unfold rN Wi.sel
  split
  · exact tnVal_lt (hb.drop _)
  · decide
theorem rD_F {l : List Int} (hb : isB l) (s : Nat × Int) : drF (rD l s) := by
  have h1 := rN_lt hb s
  have h2 := rN_lt hb (sN l s)
  unfold rD drF
  dsimp only
  omega
theorem rCol_dF {l : List Int} (hb : isB l) (x : Rst) (j : Nat) (op : Bool) (h : drF x.m.d ∧ ∀ d ∈ x.D, drF d) : drF (rCol l x j op).m.d ∧ ∀ d ∈ (rCol l x j op).D, drF d := by
  unfold rCol
  split
  case h_6 => exact ⟨rD_F hb _, h.2⟩
  case h_7 =>
    split
    · exact h
    · exact h
  case h_10 =>
    refine ⟨h.1, fun d hd => ?_⟩
    simp only [dsL, List.mem_map] at hd
    obtain ⟨i, _, rfl⟩ := hd
    exact rD_F hb _
  all_goals exact h
theorem rCols_dF {l : List Int} (hb : isB l) (k : Nat) (x : Rst) (h : drF x.m.d ∧ ∀ d ∈ x.D, drF d) : ∀ j, drF (rCols l k x j).m.d ∧ ∀ d ∈ (rCols l k x j).D, drF d
  | 0 => h
  | j + 1 => by
    unfold rCols
    split
    · exact rCols_dF hb k x h j
    · exact rCol_dF hb _ _ _ (rCols_dF hb k x h j)
theorem zG_d : drF zG.d := by unfold drF; decide
theorem rdM_dF {l : List Int} (hb : isB l) : drF (rdM l).1.m.d ∧ ∀ d ∈ (rdM l).1.D, drF d := by
  unfold rdM
  split
  · exact ⟨zG_d, fun e he => by cases he⟩
  · split
    · exact ⟨zG_d, fun e he => by cases he⟩
    · exact rCols_dF hb _ _ ⟨zG_d, fun e he => by cases he⟩ 10
theorem dc_ok {c : Cf} {f : List Int} (h : (dcM c f).2 = 0) : cfB c = true ∧ Wi.opErr f = 0 ∧ (rdM (Wi.opBody f)).2 = 0 ∧ ckM c (rdM (Wi.opBody f)).1.m (rdM (Wi.opBody f)).1.L (rdM (Wi.opBody f)).1.D = 0 ∧ dcM c f = ((rdM (Wi.opBody f)).1, 0) := by
  unfold dcM at h ⊢
  cases h1 : cfB c with
  | false => rw [if_pos h1] at h; cases h
  | true =>
    rw [if_neg (by simp [h1])] at h
    by_cases h2 : Wi.opErr f = 0
    · rw [if_neg (by simp [h2])] at h
      by_cases h3 : (rdM (Wi.opBody f)).2 = 0
      · rw [if_neg (by simp [h3])] at h
        by_cases h4 : ckM c (rdM (Wi.opBody f)).1.m (rdM (Wi.opBody f)).1.L (rdM (Wi.opBody f)).1.D = 0
        · refine ⟨rfl, h2, h3, h4, ?_⟩
          rw [if_neg (by simp), if_neg (by simp [h2]), if_neg (by simp [h3]), if_neg (by simp [h4])]
        · rw [if_pos h4] at h
          exact absurd h h4
      · rw [if_pos h3] at h
        exact absurd h h3
    · rw [if_pos h2] at h
      exact absurd h h2
theorem dc_bad {c : Cf} {f : List Int} (h : ¬ (dcM c f).2 = 0) : (dcM c f).1 = ⟨zG, [], [], (0, 0)⟩ := by
  unfold dcM at h ⊢
  split
  · rfl
  · split
    · rfl
    · split
      · rfl
      · split
        · rfl
        · rename_i h1 h2 h3 h4
          rw [if_neg h1, if_neg h2, if_neg h3, if_neg h4] at h
          exact absurd rfl h
theorem dc_L (c : Cf) (f : List Int) : (∀ e ∈ (dcM c f).1.L, e.fits) ∧ (dcM c f).1.m.e.fits := by
  by_cases h : (dcM c f).2 = 0
  · rw [(dc_ok h).2.2.2.2]
    exact rdM_fits _
  · rw [dc_bad h]
    exact ⟨(fun e he => by cases he), zG_fits⟩
theorem dc_dF (c : Cf) {f : List Int} (hb : isB f) : drF (dcM c f).1.m.d ∧ ∀ d ∈ (dcM c f).1.D, drF d := by
  by_cases h : (dcM c f).2 = 0
  · rw [(dc_ok h).2.2.2.2]
    exact rdM_dF (op_byte hb)
  · rw [dc_bad h]
    exact ⟨zG_d, fun e he => by cases he⟩
theorem en_back {c : Cf} {f : List Int} (hb : isB f) (h : (dcM c f).2 = 0) : ckM c (dcM c f).1.m (dcM c f).1.L (dcM c f).1.D = 0 ∧ enB c (dcM c f).1.m (dcM c f).1.L (dcM c f).1.D = f := by
  obtain ⟨h1, h2, h3, h4, h5⟩ := dc_ok h
  rw [h5]
  refine ⟨h4, ?_⟩
  unfold enB
  rw [if_pos h4, body_wb (op_byte hb) h3]
  exact (Wi.open_frame f hb h2).1
theorem ck_cf {c : Cf} {m : Mg} {L : List En} {D : List (Int × Int)} (h : ckM c m L D = 0) : cfB c = true := by
  unfold ckM at h
  split at h
  · omega
  · rename_i hc
    simpa using hc
theorem dc_back {c : Cf} {m : Mg} {L : List En} {D : List (Int × Int)} (h : ckM c m L D = 0) (hf : m.e.fits) (hL : ∀ e ∈ L, e.fits) (hd : drF m.d) (hD : ∀ d ∈ D, drF d) (hlen : (L.length : Int) ≤ 9223372036854775807) :
    (∃ s, dcM c (enB c m L D) = (⟨m, L, D, s⟩, 0)) ∧ (enB c m L D).length ≤ 32768 ∧ 12 ≤ (enB c m L D).length := by
  obtain ⟨hm, hk1, hk2⟩ := ck_mgF h hf hL hd hD hlen
  have hkt : m.k.toNat < 15 := by omega
  have hlb0 : (mbBy m L D m.k.toNat).length ≤ 28009 := by
    have f1 := form_le (show m.k.toNat < 2 ^ 64 by omega)
    have f2 := colsBy_le hm m.k.toNat 10
    unfold mbBy
    rw [List.length_append]
    omega
  have hby := mbBy_byte hm hkt
  have hen : enB c m L D = M.frame (mbBy m L D m.k.toNat) := by unfold enB; rw [if_pos h]
  obtain ⟨s, hs⟩ := body_back h hm ⟨hk1, hk2⟩
  have e1 := Wi.frame_err (mbBy m L D m.k.toNat) (by omega) hby
  have e2 := Wi.frame_body (mbBy m L D m.k.toNat) (by omega) hby
  have hl : (enB c m L D).length = (mbBy m L D m.k.toNat).length + 12 := by rw [hen, M.frame_length]
  refine ⟨⟨s, ?_⟩, by omega, by omega⟩
  rw [hen]
  unfold dcM
  rw [if_neg (by simp [ck_cf h]), e1, e2, hs]
  simp only
  rw [if_neg (by simp), if_neg (by simp), if_neg (by simp [h])]
def c3 : Cf := ⟨1, 4, 6, false⟩
def rq : Mg := ⟨1, 0, 0, ⟨1, 2, ⟨1, 7, ⟨#[97]⟩⟩⟩, (0, 0, ⟨#[]⟩), 0, 0, 0, (0, 0)⟩
def b13 : List Int := [1, 1, 1, 1, 1, 2, 1, 1, 1, 7, 1, 1, 97]
def cmB : Mg := ⟨5, 1, 0, ⟨0, 0, ⟨0, 0, ⟨#[]⟩⟩⟩, (0, 0, ⟨#[]⟩), 0, 0, 0, (0, 0)⟩
theorem ck_rq : ckM c3 rq [] [] = 0 := by decide
theorem mb_rq : mbBy rq [] [] 1 = b13 := by decide
theorem rd_b13 : rdM b13 = (⟨rq, [], [], (13, 0)⟩, 0) := by rfl
theorem ck_cm : ckM c3 cmB [] [(0, 0), (0, 0), (0, 0)] = 71 := by decide
theorem num7_any (x : Int) (w : World) : Calls Tryd.prog 8 #[.int .i64 x] w fun e w' => e = .returned (.int .i64 x) ∧ w' = w := by
  go_enter Tryd.func8, Tryd.ntmps8
  go_wp2
  go_ret
  exact ⟨rfl, rfl⟩
theorem three7_any (w : World) : Calls Tryd.prog 15 #[] w fun e w' => e = .returned c3.val ∧ Below w.heap.size w w' := by
  go_enter Tryd.func15, Tryd.ntmps15
  go_wp2
  exact bodyPost_ret (v := c3.val) (by simp [results, Tryd.results15, go_sem]; first | done | rfl) rfl ⟨rfl, (Below.refl _ _).alloc (Nat.le_refl _) _⟩
theorem bdEn3 (w : World) : (Instr.build 28 #[(0, .int .i64 1), (1, .int .i64 2), (2, .agg #[.int .i64 1, .int .i64 7, .string ⟨#[97]⟩])]).run Tryd.prog w = .ok (.agg #[.int .i64 1, .int .i64 2, .int .i64 1, .int .i64 7, .string ⟨#[97]⟩]) w := by go_simp
theorem bdRq (w : World) : (Instr.build 38 #[(0, .int .i64 1), (3, .agg #[.int .i64 1, .int .i64 2, .int .i64 1, .int .i64 7, .string ⟨#[97]⟩])]).run Tryd.prog w = .ok (rq.val nilS nilS) w := by
  go_simp
  first | done | rfl
set_option maxRecDepth 100000 in
theorem request7_any (w : World) : Calls Tryd.prog 16 #[] w fun e w' => e = .returned (rq.val nilS nilS) ∧ Below w.heap.size w w' := by
  go_enter Tryd.func16, Tryd.ntmps16
  go_upto_region 0 with fail
  refine wp_region_lit ?_
  refine vl_gen (fun T => T.size = 4) rfl (fun Z0 hz => ?_)
  obtain ⟨w1, hw1⟩ : ∃ w1, w1 = w.alloc (.cells (zG.cs nilS nilS).toArray 38) := ⟨_, rfl⟩
  have M1 : MBox w1 w.heap.size zG nilS nilS := by rw [hw1]; exact MBox.new0 w
  have hB1 : Below w.heap.size w w1 := by rw [hw1]; exact (Below.refl _ _).alloc (Nat.le_refl _) _
  refine vw (.pointer (some ⟨w.heap.size, 0, none⟩)) w1 (want_none rfl) (ex_al rfl (by rw [hw1]; exact alM _)) rfl hz (by decide) (fun Z1 zz kk s0 => ?_)
  clear kk hz hw1
  have hz := zz
  clear zz
  refine wpList_nil ?_
  go_upto_region 1 with fail
  refine wp_region_lit ?_
  refine vl true (.agg #[.int .i64 1, .int .i64 7, .string ⟨#[97]⟩]) (want_none rfl) (fun hc => ex_buildP rfl (by simp only [List.map_toArray, List.map_cons, List.map_nil] <;> rfl) (bdOp 1 7 ⟨#[97]⟩ _)) rfl hz (by decide) (fun Z2 zz kk s1 => ?_)
  replace s0 := kt kk s0
  clear kk hz
  have hz := zz
  clear zz
  refine vl true (.agg #[.int .i64 1, .int .i64 2, .int .i64 1, .int .i64 7, .string ⟨#[97]⟩]) (want_none rfl) (fun hc => ex_buildP rfl (by simp only [List.map_toArray, List.map_cons, List.map_nil, (ev s1 rfl)] <;> rfl) (bdEn3 _)) rfl hz (by decide) (fun Z3 zz kk s2 => ?_)
  replace s0 := kt kk s0
  clear kk hz s1
  have hz := zz
  clear zz
  refine vl true (rq.val nilS nilS) (want_none rfl) (fun hc => ex_buildP rfl (by simp only [List.map_toArray, List.map_cons, List.map_nil, (ev s2 rfl)] <;> rfl) (bdRq _)) rfl hz (by decide) (fun Z4 zz kk s3 => ?_)
  replace s0 := kt kk s0
  clear kk hz s2
  have hz := zz
  clear zz
  refine vs (sets w1 w.heap.size 0 (rq.cs nilS nilS)) (want_none rfl) (ex_st rfl (ev s0 rfl) (ev s3 rfl) (stM M1 rq nilS nilS rfl rfl)) rfl ?_
  have SP := M1.putU rq nilS nilS
  obtain ⟨we, hwe⟩ : ∃ y, y = sets w1 w.heap.size 0 (rq.cs nilS nilS) := ⟨_, rfl⟩
  rw [← hwe] at SP ⊢
  clear hwe
  have hfin : Below w.heap.size w we := hB1.trans (SP.2.below (by have := hB1.size; omega) (Nat.le_refl _))
  refine wpList_nil ?_
  go_wp2
  exact (Bx.mk SP.1.lt SP.1.cell SP.1.free).res rfl s0 Tryd.underlying38 rfl (by kernel_rfl) ⟨rfl, hfin⟩
theorem sl_nil {α : Type} (Y : Lay α) (w : World) : SlY Y w none 0 0 [] := ⟨rfl, Nat.le_refl _, by unfold maxLen; omega, fun _ => ⟨rfl, rfl⟩, fun x hx => .inl rfl⟩
theorem rq_fits : rq.e.fits := ⟨rfl, rfl, rfl, rfl, by show 1 ≤ maxLen; unfold maxLen; omega⟩
theorem b13_byte : ∀ z ∈ b13, 0 ≤ z ∧ z < 256 := by decide
theorem encode_rq (w : World) (hT : Tab w) : Calls Tryd.prog 7 #[c3.val, rq.val nilS nilS] w fun e w' => ∃ a n c, e = .returned (.tuple #[.slice a n c, .int .i64 0]) ∧ Wi.Hs w' a n c (M.frame b13) ∧ Below w.heap.size w w' := by
  refine (encode_any c3 rq none none 0 0 [] [] w hT (sl_nil _ _) (fun e he => by cases he) (sl_nil _ _) rq_fits (by unfold drF; decide) (fun d hd => by cases hd)).mono ?_
  rintro e w' ⟨v, rfl, O, hb⟩
  have he : enB c3 rq [] [] = M.frame b13 := by
    unfold enB
    rw [if_pos ck_rq]
    exact congrArg M.frame mb_rq
  rw [he] at O
  obtain ⟨a, n, c, rfl, hs, _⟩ := O.hs (M.frame_byte _ b13_byte)
  exact ⟨a, n, c, by rw [ck_rq], hs, hb⟩
theorem decode_rq (a : Option Addr) (n c : Nat) (w : World) (hH : Wi.Hs w a n c (M.frame b13)) (hT : Tab w) : Calls Tryd.prog 10 #[c3.val, .slice a n c] w fun e w' => ∃ sa sc ta tc, e = .returned (.tuple #[rq.val (.slice sa 0 sc) (.slice ta 0 tc), .int .i64 0]) ∧ SlY yE w' sa 0 sc [] ∧ SlY yD w' ta 0 tc [] ∧ Below w.heap.size w w' := by
  have hl : (M.frame b13).length ≤ 100 := by rw [M.frame_length]; decide
  refine (decode_any c3 a n c (M.frame b13) w hH (by have := hH.len; omega) hT).mono ?_
  have he : dcM c3 (M.frame b13) = (⟨rq, [], [], (13, 0)⟩, 0) := by
    have h1 := Wi.frame_err b13 (by decide) b13_byte
    have h2 := Wi.frame_body b13 (by decide) b13_byte
    unfold dcM
    rw [h2, rd_b13]
    simp only [h1, ck_rq]
    rfl
  rw [he]
  rintro e w' ⟨s, t, rfl, O1, O2, hb⟩
  obtain ⟨sa, sc, rfl, _⟩ := O1.form
  obtain ⟨ta, tc, rfl, _⟩ := O2.form
  exact ⟨sa, sc, ta, tc, rfl, O1.sl' kE, O2.sl' kD, hb⟩
theorem check_cm (g : Nat) (w : World) (hT : Tab w) (h : SlY yD w (some ⟨g, 0, none⟩) 3 3 [(0, 0), (0, 0), (0, 0)]) : Calls Tryd.prog 9 #[c3.val, cmB.val nilS (.slice (some ⟨g, 0, none⟩) 3 3)] w fun e w' => e = .returned (.int .i64 71) ∧ Below w.heap.size w w' := by
  refine (checkM_any c3 cmB none (some ⟨g, 0, none⟩) 0 3 [] [(0, 0), (0, 0), (0, 0)] w hT (sl_nil _ _) (fun e he => by cases he) h ⟨rfl, rfl, rfl, rfl, by show 0 ≤ maxLen; omega⟩).mono ?_
  rw [ck_cm]
  exact fun e w' h => h
theorem same_rq (sa ta : Option Addr) (sc tc : Nat) (w : World) (h1 : SlY yE w sa 0 sc []) (h2 : SlY yD w ta 0 tc []) : Calls Tryd.prog 11 #[rq.val (.slice sa 0 sc) (.slice ta 0 tc), rq.val nilS nilS] w fun e w' => e = .returned (.bool true) ∧ Below w.heap.size w w' := by
  refine (samemsg_any rq rq sa ta none none 0 0 0 0 sc tc 0 0 [] [] [] [] w h1 h2 (sl_nil _ _) (sl_nil _ _)).mono ?_
  rw [(sameM_iff rq rq [] [] [] []).2 ⟨rfl, rfl, rfl⟩]
  exact fun e w' h => h
theorem v_cut {c : Code} {Q : Exit → Act → World → Prop} {T : Array Value} {w : World} (J : Array Value → World → Prop) (h : c.wp Tryd.prog (Exit.then (fun a w' => ∃ T', a = ⟨T', []⟩ ∧ J T' w') Q) ⟨T, []⟩ w) (hk : ∀ T' w', J T' w' → Q .normal ⟨T', []⟩ w') : c.wp Tryd.prog Q ⟨T, []⟩ w := by
  refine Code.wp_mono (fun e a' w' h => ?_) h
  cases e with
  | normal =>
    obtain ⟨T', rfl, hJ⟩ := h
    exact hk T' w' hJ
  | _ => exact h
theorem want_t {ops : Array Oper} {T : Array Value} {o : Oper} {k j : Nat} (hg : o.guard = some (k, true)) (hk : (ops[k]?).bind (·.dst) = some j) (hs : T[j]? = some (gw true (.bool true))) : Region.wanted o (yielded ops T) = true := want_g hg hk hs
theorem ex_andT {o : Oper} {T : Array Value} {df : List Deferred} {j x : Nat} {w : World} (ho : o.op = .pick (.tmp j) (.tmp x) (.const (.bool false))) (hj : T[j]? = some (gw true (.bool true))) (hy : T[x]? = some (gw true (.bool true))) : (execOp (⟨T, df⟩ : Act).eval o).run Tryd.prog w = .ok (.value (.bool true)) w := ex_and (c := true) (b := true) (z := true) ho hj hy rfl
theorem eq00 (x y : Operand) (w : World) : (do eqGuard .eql 3 x y (.int .i64 0) (.int .i64 0); binOp .eql 3 (.int .i64 0) (.int .i64 0) : Sem Value).run Tryd.prog w = .ok (.bool true) w := eqlC x y 0 0 w
theorem eq71 (x y : Operand) (w : World) : (do eqGuard .eql 3 x y (.int .i64 71) (.int .i64 71); binOp .eql 3 (.int .i64 71) (.int .i64 71) : Sem Value).run Tryd.prog w = .ok (.bool true) w := eqlC x y 71 71 w
theorem vh_val {ops : Array Oper} {o : Oper} {T : Array Value} {df : List Deferred} {w : World} {Q : Exit → Act → World → Prop} {S : World → Prop} {fuel d n : Nat} {listed : Array Bool} (i : Nat) (V : Value) (w' : World) (hi : ops[i]? = some o) (hr : Region.ready .any ops listed = [i])
    (hw : Region.wanted o (yielded ops T) = true) (he : (execOp (⟨T, df⟩ : Act).eval o).run Tryd.prog w = .ok (.value V) w') (hd : o.dst = some d) (hz : T.size = n) (hn : d < n) (hS : S w')
    (hk : ∀ T' : Array Value, T'.size = n → (∀ j, j ≠ d → T'[j]? = T[j]?) → T'[d]? = some (gw true V) → VH ops Q S fuel (listed.setIfInBounds i true) ⟨T', df⟩ w') : VH ops Q S (fuel + 1) listed ⟨T, df⟩ w := by
  refine ⟨wpAnyH_all hr (by simp) (fun j hj => ?_)⟩
  obtain rfl : j = i := by simpa using hj
  unfold wpOp
  rw [hi]
  simp only [hw, if_true]
  refine .inl ?_
  unfold Oper.wp
  rw [he, Oper.upon_value]
  refine ⟨hS, ?_⟩
  rw [hd]
  exact (hk (T.setIfInBounds d V) (by simp [hz]) (fun i hi => at_set_ne _ hi) (at_set _ (by omega))).out
theorem vh_two {ops : Array Oper} {o o2 : Oper} {T : Array Value} {df : List Deferred} {w : World} {Q : Exit → Act → World → Prop} {S : World → Prop} {fuel d d2 n : Nat} {listed : Array Bool} (i j : Nat) {fid : FuncId} {args : Array Value} {R : Ending → World → Prop} (hr : Region.ready .any ops listed = [i, j]) (hi : ops[i]? = some o) (hj : ops[j]? = some o2)
    (hw : Region.wanted o (yielded ops T) = true) (he : (execOp (⟨T, df⟩ : Act).eval o).run Tryd.prog w = .ok (.enter fid args) w) (hc : Calls Tryd.prog fid args w R) (hd : o.dst = some d) (hz : T.size = n) (hn : d < n)
    (hk : ∀ (e : Ending) (w' : World), R e w' → ∃ V, e = .returned V ∧ S w' ∧ ∀ T' : Array Value, T'.size = n → (∀ j, j ≠ d → T'[j]? = T[j]?) → T'[d]? = some (gw true V) → VH ops Q S fuel (listed.setIfInBounds i true) ⟨T', df⟩ w')
    (V : Value) (w2 : World) (hw2 : Region.wanted o2 (yielded ops T) = true) (he2 : (execOp (⟨T, df⟩ : Act).eval o2).run Tryd.prog w = .ok (.value V) w2) (hd2 : o2.dst = some d2) (hn2 : d2 < n) (hS2 : S w2)
    (hk2 : ∀ T' : Array Value, T'.size = n → (∀ j, j ≠ d2 → T'[j]? = T[j]?) → T'[d2]? = some (gw true V) → VH ops Q S fuel (listed.setIfInBounds j true) ⟨T', df⟩ w2) : VH ops Q S (fuel + 1) listed ⟨T, df⟩ w := by
  refine ⟨wpAnyH_all hr (by simp) (fun k hkm => ?_)⟩
  have hkm : k = i ∨ k = j := by simpa using hkm
  rcases hkm with rfl | rfl
  · unfold wpOp
    rw [hi]
    simp only [hw, if_true]
    refine .inl ?_
    unfold Oper.wp
    rw [he, Oper.upon_enter]
    refine hc.mono ?_
    intro e w' hR
    obtain ⟨V, rfl, hS, hk'⟩ := hk e w' hR
    refine ⟨hS, ?_⟩
    rw [hd]
    exact (hk' (T.setIfInBounds d V) (by simp [hz]) (fun i hi => at_set_ne _ hi) (at_set _ (by omega))).out
  · unfold wpOp
    rw [hj]
    simp only [hw2, if_true]
    refine .inl ?_
    unfold Oper.wp
    rw [he2, Oper.upon_value]
    refine ⟨hS2, ?_⟩
    rw [hd2]
    exact (hk2 (T.setIfInBounds d2 V) (by simp [hz]) (fun i hi => at_set_ne _ hi) (at_set _ (by omega))).out
theorem ex_mk {o : Oper} {ρ : Operand → Value} {s : TypeId} {x y : Operand} {X Y V : Value} {w w' : World} (ho : o.op = .makeSlice s x y) (hx : ρ x = X) (hy : ρ y = Y) (hr : (Instr.makeSlice s X Y).run Tryd.prog w = .ok V w') : (execOp ρ o).run Tryd.prog w = .ok (.value V) w' := by
  unfold execOp
  simp only [ho, hx, hy, Sem.run_bind, hr, Result.andThen_ok]
  rfl
def zV3 : Obj := .cells #[.int .u64 0, .int .u64 0, .int .u64 0, .int .u64 0, .int .u64 0, .int .u64 0] 33
theorem mk3 (w : World) : (Instr.makeSlice 36 (.int .i64 3) (.int .i64 3)).run Tryd.prog w = .ok (.slice (some ⟨w.heap.size, 0, none⟩) 3 3) (w.alloc zV3) := by
  have hinfo : (Tryd.prog.info? 33).map (fun i => (i.zero, i.size, i.bytes)) = some (some (.agg #[.int .u64 0, .int .u64 0]), 2, 16) := by kernel_rfl
  obtain ⟨i0, hi, hz0, hz1, hz2⟩ := info_parts hinfo
  have hr := run_make (P := Tryd.prog) w 36 33 i0 (.agg #[.int .u64 0, .int .u64 0]) Tryd.underlying36 hi hz0 .i64 .i64 3 3 (by omega) (Int.le_refl _) (by rw [hz2]; omega) (by omega)
  rw [hz1] at hr
  have hm : madeCells (Value.agg #[Value.int IntKind.u64 0, Value.int IntKind.u64 0]).cells (Int.toNat 3 * 2) = #[.int .u64 0, .int .u64 0, .int .u64 0, .int .u64 0, .int .u64 0, .int .u64 0] := by kernel_rfl
  rw [hm] at hr
  exact hr
theorem sl3 (w : World) : SlY yD (w.alloc zV3) (some ⟨w.heap.size, 0, none⟩) 3 3 [(0, 0), (0, 0), (0, 0)] := sl_lit kD w [(0, 0), (0, 0), (0, 0)] 33 (by unfold maxLen; decide)
theorem bdCm (g : Nat) (w : World) : (Instr.build 38 #[(0, .int .i64 5), (1, .int .i64 1), (10, .slice (some ⟨g, 0, none⟩) 3 3)]).run Tryd.prog w = .ok (cmB.val nilS (.slice (some ⟨g, 0, none⟩) 3 3)) w := by
  go_simp
  first | done | rfl
set_option maxRecDepth 100000 in
theorem bslice13 (W : World) : (Instr.buildSlice 39 13 #[(0, .int .u8 1), (1, .int .u8 1), (2, .int .u8 1), (3, .int .u8 1), (4, .int .u8 1), (5, .int .u8 2), (6, .int .u8 1), (7, .int .u8 1), (8, .int .u8 1), (9, .int .u8 7), (10, .int .u8 1), (11, .int .u8 1), (12, .int .u8 97)]).run Tryd.prog W = .ok (.slice (some ⟨W.heap.size, 0, none⟩) 13 13) (W.alloc (.cells (b13.map (Value.int .u8)).toArray 5)) := by
  go_simp
  first | done | rfl
theorem hs13 (W : World) : Wi.Hs (W.alloc (.cells (b13.map (Value.int .u8)).toArray 5)) (some ⟨W.heap.size, 0, none⟩) 13 13 b13 :=
  ⟨rfl, by decide, fun x hx i hi => by
    obtain rfl := (Option.some.inj hx)
    rw [Addr.add_lit, Nat.zero_add]
    refine cell_box _ _ _ _ _ ?_
    simp [List.getD_eq_getElem?_getD, List.getElem?_eq_getElem hi], (fun h => by cases h), b13_byte⟩
theorem same_fr (a a' : Option Addr) (n c n' c' : Nat) (w : World) (h : Wi.Hs w a n c (M.frame b13)) (h' : Wi.Hs w a' n' c' (M.frame b13)) : Calls Tryd.prog 13 #[.slice a n c, .slice a' n' c'] w fun e w' => e = .returned (.bool true) ∧ w' = w := by
  refine (Wi.same_any a a' n c n' c' _ _ w h h').mono ?_
  rintro e w' ⟨rfl, rfl⟩
  exact ⟨by rw [decide_eq_true rfl], rfl⟩
set_option maxRecDepth 100000 in
set_option maxHeartbeats 4000000 in
theorem alive7 (w : World) (hT : Tab w) : Calls Tryd.prog 6 #[] w fun e w' => e = .returned (.bool true) ∧ Below w.heap.size w w' := by
  go_enter Tryd.func6, Tryd.ntmps6
  go_upto_region 1 with fail
  refine wp_region_lit ?_
  refine vl_gen (fun T => T.size = 52) rfl (fun T0 hz => ?_)
  refine vcallP (want_none rfl) (ex_call (args := #[]) rfl (by simp) rfl) (three7_any w) rfl hz (by decide) ?_
  rintro e w1 ⟨rfl, hB1⟩
  refine ⟨_, rfl, fun A1_1 zz kk s9x => ?_⟩
  clear kk hz
  have hz := zz
  have s9 := s9x
  clear zz s9x
  refine vcallP (want_none rfl) (ex_call (args := #[]) rfl (by simp) rfl) (request7_any w1) rfl hz (by decide) ?_
  rintro e w2 ⟨rfl, hb2⟩
  refine ⟨_, rfl, fun A1_2 zz kk s10x => ?_⟩
  have hB2 := hB1.trans (hb2.mono hB1.size)
  clear hb2 hB1
  replace s9 := kt kk s9
  clear kk hz
  have hz := zz
  have s10 := s10x
  clear zz s10x A1_1
  refine vcallP (want_none rfl) (ex_call rfl (by simp only [List.map_toArray, List.map_cons, List.map_nil, (ev s9 rfl), (ev s10 rfl), evc] <;> rfl) rfl) (encode_rq w2 (hT.later hB2 hT.lt)) rfl hz (by decide) ?_
  rintro e w3 ⟨af, nf, cf, rfl, hsF, hb3⟩
  refine ⟨_, rfl, fun A1_3 zz kk s11x => ?_⟩
  have hB3 := hB2.trans (hb3.mono hB2.size)
  clear hb3 hB2
  clear kk hz s9 s10
  have hz := zz
  have s11 := s11x
  clear zz s11x A1_2
  refine vt _ (ex_move rfl (ev s11 rfl)) hz (fun A1_4 zz kk s8x => ?_)
  clear kk hz s11
  have hz := zz
  have s8 := s8x
  clear zz s8x A1_3
  refine vt (.slice af nf cf) (ex_ext rfl (ev s8 rfl) rfl) hz (fun A1_5 zz kk s12x => ?_)
  replace s8 := kt kk s8
  clear kk hz
  have hz := zz
  have s12 := s12x
  clear zz s12x A1_4
  refine vt (.int .i64 0) (ex_ext rfl (ev s8 rfl) rfl) hz (fun A1_6 zz kk s13x => ?_)
  replace s12 := kt kk s12
  clear kk hz s8
  have hz := zz
  have s13 := s13x
  clear zz s13x A1_5
  refine vt _ (ex_assign rfl (ev s12 rfl)) hz (fun A1_7 zz kk s1x => ?_)
  replace s13 := kt kk s13
  clear kk hz s12
  have hz := zz
  have s1 := s1x
  clear zz s1x A1_6
  refine vt _ (ex_assign rfl (ev s13 rfl)) hz (fun A1_8 zz kk s2x => ?_)
  replace s1 := kt kk s1
  clear kk hz s13
  have hz := zz
  have s2 := s2x
  clear zz s2x A1_7
  refine wpList_nil ?_
  go_upto_region 2 with fail
  refine wp_region_lit ?_
  obtain ⟨wb, hwb⟩ : ∃ y, y = w3.alloc (.cells (b13.map (Value.int .u8)).toArray 5) := ⟨_, rfl⟩
  have hbb : Below w3.heap.size w3 wb := by rw [hwb]; exact (Below.refl _ _).alloc (Nat.le_refl _) _
  have hSb : Wi.Hs wb (some ⟨w3.heap.size, 0, none⟩) 13 13 b13 := by rw [hwb]; exact hs13 _
  refine vw (.slice (some ⟨w3.heap.size, 0, none⟩) 13 13) wb (want_none rfl) (ex_bs rfl (by simp only [List.map_toArray, List.map_cons, List.map_nil] <;> rfl) (by rw [hwb]; exact bslice13 _)) rfl hz (by decide) (fun A2_1 zz kk s15x => ?_)
  replace s1 := kt kk s1
  replace s2 := kt kk s2
  clear kk hz
  have hz := zz
  have s15 := s15x
  clear zz s15x
  clear hwb
  refine vcallP (want_none rfl) (ex_call rfl (by simp only [List.map_toArray, List.map_cons, List.map_nil, (ev s15 rfl), evc] <;> rfl) rfl) (Wi.refseal_ok _ 13 13 b13 wb hSb (by decide)) rfl hz (by decide) ?_
  rintro e w4 ⟨vw_, rfl, Ow, _, hb4⟩; obtain ⟨aw, nw, cw, rfl, hsW, _⟩ := Ow.hs (M.frame_byte _ b13_byte)
  refine ⟨_, rfl, fun A2_2 zz kk s16x => ?_⟩
  have hsF4 := (hsF.later hbb).later hb4
  have hBb := hB3.trans (hbb.mono hB3.size)
  have hB4 := hBb.trans (hb4.mono hBb.size)
  clear hb4 hBb hbb hB3 hsF hSb Ow
  replace s1 := kt kk s1
  replace s2 := kt kk s2
  clear kk hz s15
  have hz := zz
  have s16 := s16x
  clear zz s16x A2_1
  refine vt _ (ex_move rfl (ev s16 rfl)) hz (fun A2_3 zz kk s14x => ?_)
  replace s1 := kt kk s1
  replace s2 := kt kk s2
  clear kk hz s16
  have hz := zz
  have s14 := s14x
  clear zz s14x A2_2
  refine vt (.slice aw nw cw) (ex_ext rfl (ev s14 rfl) rfl) hz (fun A2_4 zz kk s17x => ?_)
  replace s1 := kt kk s1
  replace s2 := kt kk s2
  replace s14 := kt kk s14
  clear kk hz
  have hz := zz
  have s17 := s17x
  clear zz s17x A2_3
  refine vt (.int .i64 0) (ex_ext rfl (ev s14 rfl) rfl) hz (fun A2_5 zz kk s18x => ?_)
  replace s1 := kt kk s1
  replace s2 := kt kk s2
  replace s17 := kt kk s17
  clear kk hz s14
  have hz := zz
  have s18 := s18x
  clear zz s18x A2_4
  refine vt _ (ex_assign rfl (ev s17 rfl)) hz (fun A2_6 zz kk s3x => ?_)
  replace s1 := kt kk s1
  replace s2 := kt kk s2
  replace s18 := kt kk s18
  clear kk hz s17
  have hz := zz
  have s3 := s3x
  clear zz s3x A2_5
  refine vt _ (ex_assign rfl (ev s18 rfl)) hz (fun A2_7 zz kk s4x => ?_)
  replace s1 := kt kk s1
  replace s2 := kt kk s2
  replace s3 := kt kk s3
  clear kk hz s18
  have hz := zz
  have s4 := s4x
  clear zz s4x A2_6
  refine wpList_nil ?_
  clear s4
  go_upto_region 3 with fail
  refine wp_region_lit ?_
  refine vcallP (want_none rfl) (ex_call (args := #[]) rfl (by simp) rfl) (three7_any w4) rfl hz (by decide) ?_
  rintro e w5 ⟨rfl, hb5⟩
  refine ⟨_, rfl, fun A3_1 zz kk s20x => ?_⟩
  have hB5 := hB4.trans (hb5.mono hB4.size)
  have hsF5 := hsF4.later hb5
  have hsW5 := hsW.later hb5
  clear hb5 hB4 hsF4 hsW
  replace s1 := kt kk s1
  replace s2 := kt kk s2
  replace s3 := kt kk s3
  clear kk hz
  have hz := zz
  have s20 := s20x
  clear zz s20x
  refine vt _ (ex_move rfl (ev s3 rfl)) hz (fun A3_2 zz kk s21x => ?_)
  replace s1 := kt kk s1
  replace s2 := kt kk s2
  replace s3 := kt kk s3
  replace s20 := kt kk s20
  clear kk hz
  have hz := zz
  have s21 := s21x
  clear zz s21x A3_1
  refine vcallP (want_none rfl) (ex_call rfl (by simp only [List.map_toArray, List.map_cons, List.map_nil, (ev s20 rfl), (ev s21 rfl), evc] <;> rfl) rfl) (decode_rq aw nw cw w5 hsW5 (hT.later hB5 hT.lt)) rfl hz (by decide) ?_
  rintro e w6 ⟨sa, sc, ta, tc, rfl, hsl1, hsl2, hb6⟩
  refine ⟨_, rfl, fun A3_3 zz kk s22x => ?_⟩
  have hB6 := hB5.trans (hb6.mono hB5.size)
  have hsF6 := hsF5.later hb6
  have hsW6 := hsW5.later hb6
  clear hb6 hB5 hsF5 hsW5
  obtain ⟨q, hq⟩ : ∃ q, q = w6.heap.size := ⟨_, rfl⟩
  obtain ⟨w7, hw7⟩ : ∃ y, y = w6.alloc (.cells (zG.cs nilS nilS).toArray 38) := ⟨_, rfl⟩
  have hb7 : Below w6.heap.size w6 w7 := by rw [hw7]; exact (Below.refl _ _).alloc (Nat.le_refl _) _
  have M7 : MBox w7 q zG nilS nilS := by rw [hw7, hq]; exact MBox.new0 w6
  replace s1 := kt kk s1
  replace s2 := kt kk s2
  replace s3 := kt kk s3
  clear kk hz s20 s21
  have hz := zz
  have s22 := s22x
  clear zz s22x A3_2
  refine vt _ (ex_move rfl (ev s22 rfl)) hz (fun A3_4 zz kk s19x => ?_)
  replace s1 := kt kk s1
  replace s2 := kt kk s2
  replace s3 := kt kk s3
  clear kk hz s22
  have hz := zz
  have s19 := s19x
  clear zz s19x A3_3
  refine vt (rq.val (.slice sa 0 sc) (.slice ta 0 tc)) (ex_ext rfl (ev s19 rfl) rfl) hz (fun A3_5 zz kk s23x => ?_)
  replace s1 := kt kk s1
  replace s2 := kt kk s2
  replace s3 := kt kk s3
  replace s19 := kt kk s19
  clear kk hz
  have hz := zz
  have s23 := s23x
  clear zz s23x A3_4
  refine vt (.int .i64 0) (ex_ext rfl (ev s19 rfl) rfl) hz (fun A3_6 zz kk s24x => ?_)
  replace s1 := kt kk s1
  replace s2 := kt kk s2
  replace s3 := kt kk s3
  replace s23 := kt kk s23
  clear kk hz s19
  have hz := zz
  have s24 := s24x
  clear zz s24x A3_5
  refine vw (.pointer (some ⟨q, 0, none⟩)) w7 (want_none rfl) (ex_al rfl (by rw [hw7, hq]; exact alM _)) rfl hz (by decide) (fun A3_7 zz kk s5x => ?_)
  replace s1 := kt kk s1
  replace s2 := kt kk s2
  replace s3 := kt kk s3
  replace s23 := kt kk s23
  replace s24 := kt kk s24
  clear kk hz
  have hz := zz
  have s5 := s5x
  clear zz s5x A3_6
  refine vs (sets w7 q 0 (rq.cs (.slice sa 0 sc) (.slice ta 0 tc))) (want_none rfl) (ex_st rfl (ev s5 rfl) (ev s23 rfl) (stM M7 rq (.slice sa 0 sc) (.slice ta 0 tc) rfl rfl)) rfl ?_
  have SP := M7.putU rq (.slice sa 0 sc) (.slice ta 0 tc)
  obtain ⟨w8, hw8⟩ : ∃ y, y = sets w7 q 0 (rq.cs (.slice sa 0 sc) (.slice ta 0 tc)) := ⟨_, rfl⟩
  rw [← hw8] at SP ⊢
  clear hw8 hw7
  have hb8 : Below w6.heap.size w6 w8 := hb7.trans (SP.2.below hb7.size (by omega))
  have hB8 := hB6.trans (hb8.mono hB6.size)
  have hsF8 := hsF6.later hb8
  have hsW8 := hsW6.later hb8
  have hl1 := hsl1.later hb8
  have hl2 := hsl2.later hb8
  have M8 := SP.1
  have hT8 := hT.later hB8 hT.lt
  clear SP hb8 hb7 M7 hB6 hsF6 hsW6 hsl1 hsl2
  refine vt _ (ex_assign rfl (ev s24 rfl)) hz (fun A3_8 zz kk s6x => ?_)
  replace s1 := kt kk s1
  replace s2 := kt kk s2
  replace s3 := kt kk s3
  replace s5 := kt kk s5
  clear kk hz s23 s24
  have hz := zz
  have s6 := s6x
  clear zz s6x A3_7
  refine wpList_nil ?_
  go_upto_region 4 with fail
  refine v_cut (fun T v => T.size = 52 ∧ T[1]? = some (gw true (.slice af nf cf)) ∧ T[2]? = some (gw true (.int .i64 0)) ∧ T[3]? = some (gw true (.slice aw nw cw)) ∧ T[5]? = some (gw true (.pointer (some ⟨q, 0, none⟩))) ∧ T[6]? = some (gw true (.int .i64 0)) ∧ T[7]? = some (gw true (.int .i64 71)) ∧ Below w8.heap.size w8 v) ?_ ?_
  rotate_left
  · rintro T4 w9 ⟨hz, s1, s2, s3, s5, s6, s7, hb9⟩
    have M9 := M8.bel hb9
    have hsF9 := hsF8.later hb9
    have hsW9 := hsW8.later hb9
    have k1 := hl1.later hb9
    have k2 := hl2.later hb9
    have hB9 := hB8.trans (hb9.mono hB8.size)
    clear hb9 hsF8 hsW8 hl1 hl2 hB8 hT8 M8
    go_upto_region 5 with fail
    refine vh_start (fun v => Below w9.heap.size w9 v) (by kernel_rfl) ?_
    have hS : Below w9.heap.size w9 w9.drew := (Below.refl _ _).drew
    refine vh_take 0 true (.int .i64 0) rfl (by kernel_rfl) (by kernel_rfl) (by kernel_rfl) (want_none rfl) (fun hc v hv => ex_move rfl (ev s2 rfl)) rfl hz (by decide) hS (fun A5_1 zz kk s29x => ?_)
    replace s1 := kt kk s1
    replace s3 := kt kk s3
    replace s5 := kt kk s5
    replace s6 := kt kk s6
    replace s7 := kt kk s7
    clear kk hz s2
    have hz := zz
    have s29 := s29x
    clear zz s29x
    refine vh_call 1 rfl (by kernel_rfl) (want_none rfl) (ex_call rfl (by simp only [List.map_toArray, List.map_cons, List.map_nil, (ev s29 rfl), evc] <;> rfl) rfl) (num7_any 0 _) rfl hz (by decide) ?_
    rintro e y1 ⟨rfl, rfl⟩
    refine ⟨_, rfl, hS, fun A5_2 zz kk s30x => ?_⟩
    replace s1 := kt kk s1
    replace s3 := kt kk s3
    replace s5 := kt kk s5
    replace s6 := kt kk s6
    replace s7 := kt kk s7
    clear kk hz s29
    have hz := zz
    have s30 := s30x
    clear zz s30x A5_1
    refine vh_take 2 true (.bool true) rfl (by kernel_rfl) (by kernel_rfl) (by kernel_rfl) (want_none rfl) (fun hc v hv => ex_bin rfl (ev s30 rfl) rfl (eq00 _ _ _)) rfl hz (by decide) hS (fun A5_3 zz kk s31x => ?_)
    replace s1 := kt kk s1
    replace s3 := kt kk s3
    replace s5 := kt kk s5
    replace s6 := kt kk s6
    replace s7 := kt kk s7
    clear kk hz s30
    have hz := zz
    have s31 := s31x
    clear zz s31x A5_2
    refine vh_take 3 true (.bool true) rfl (by kernel_rfl) (by kernel_rfl) (by kernel_rfl) (want_none rfl) (fun hc v hv => ex_move rfl (ev s31 rfl)) rfl hz (by decide) hS (fun A5_4 zz kk s32x => ?_)
    replace s1 := kt kk s1
    replace s3 := kt kk s3
    replace s5 := kt kk s5
    replace s6 := kt kk s6
    replace s7 := kt kk s7
    clear kk hz s31
    have hz := zz
    have s32 := s32x
    clear zz s32x A5_3
    refine vh_take 4 true (.slice af nf cf) rfl (by kernel_rfl) (by kernel_rfl) (by kernel_rfl) (want_t rfl rfl s32) (fun hc v hv => ex_move rfl (ev s1 rfl)) rfl hz (by decide) hS (fun A5_5 zz kk s33x => ?_)
    replace s3 := kt kk s3
    replace s5 := kt kk s5
    replace s6 := kt kk s6
    replace s7 := kt kk s7
    replace s32 := kt kk s32
    clear kk hz s1
    have hz := zz
    have s33 := s33x
    clear zz s33x A5_4
    refine vh_take 5 true (.slice aw nw cw) rfl (by kernel_rfl) (by kernel_rfl) (by kernel_rfl) (want_t rfl rfl s32) (fun hc v hv => ex_move rfl (ev s3 rfl)) rfl hz (by decide) hS (fun A5_6 zz kk s34x => ?_)
    replace s5 := kt kk s5
    replace s6 := kt kk s6
    replace s7 := kt kk s7
    replace s32 := kt kk s32
    replace s33 := kt kk s33
    clear kk hz s3
    have hz := zz
    have s34 := s34x
    clear zz s34x A5_5
    refine vh_call 6 rfl (by kernel_rfl) (want_t rfl rfl s32) (ex_call rfl (by simp only [List.map_toArray, List.map_cons, List.map_nil, (ev s33 rfl), (ev s34 rfl), evc] <;> rfl) rfl) (same_fr af aw nf cf nw cw _ (hsF9.later hS) (hsW9.later hS)) rfl hz (by decide) ?_
    rintro e y2 ⟨rfl, rfl⟩
    refine ⟨_, rfl, hS, fun A5_7 zz kk s35x => ?_⟩
    replace s5 := kt kk s5
    replace s6 := kt kk s6
    replace s7 := kt kk s7
    replace s32 := kt kk s32
    clear kk hz s33 s34
    have hz := zz
    have s35 := s35x
    clear zz s35x A5_6
    refine vh_take 7 true (.bool true) rfl (by kernel_rfl) (by kernel_rfl) (by kernel_rfl) (want_none rfl) (fun hc v hv => ex_andT rfl s32 s35) rfl hz (by decide) hS (fun A5_8 zz kk s36x => ?_)
    replace s5 := kt kk s5
    replace s6 := kt kk s6
    replace s7 := kt kk s7
    clear kk hz s32 s35
    have hz := zz
    have s36 := s36x
    clear zz s36x A5_7
    refine vh_take 8 true (.bool true) rfl (by kernel_rfl) (by kernel_rfl) (by kernel_rfl) (want_none rfl) (fun hc v hv => ex_move rfl (ev s36 rfl)) rfl hz (by decide) hS (fun A5_9 zz kk s37x => ?_)
    replace s5 := kt kk s5
    replace s6 := kt kk s6
    replace s7 := kt kk s7
    clear kk hz s36
    have hz := zz
    have s37 := s37x
    clear zz s37x A5_8
    refine vh_take 9 true (.int .i64 0) rfl (by kernel_rfl) (by kernel_rfl) (by kernel_rfl) (want_t rfl rfl s37) (fun hc v hv => ex_move rfl (ev s6 rfl)) rfl hz (by decide) hS (fun A5_10 zz kk s38x => ?_)
    replace s5 := kt kk s5
    replace s7 := kt kk s7
    replace s37 := kt kk s37
    clear kk hz s6
    have hz := zz
    have s38 := s38x
    clear zz s38x A5_9
    refine vh_call 10 rfl (by kernel_rfl) (want_t rfl rfl s37) (ex_call rfl (by simp only [List.map_toArray, List.map_cons, List.map_nil, (ev s38 rfl), evc] <;> rfl) rfl) (num7_any 0 _) rfl hz (by decide) ?_
    rintro e y3 ⟨rfl, rfl⟩
    refine ⟨_, rfl, hS, fun A5_11 zz kk s39x => ?_⟩
    replace s5 := kt kk s5
    replace s7 := kt kk s7
    replace s37 := kt kk s37
    clear kk hz s38
    have hz := zz
    have s39 := s39x
    clear zz s39x A5_10
    refine vh_take 11 true (.bool true) rfl (by kernel_rfl) (by kernel_rfl) (by kernel_rfl) (want_t rfl rfl s37) (fun hc v hv => ex_bin rfl (ev s39 rfl) rfl (eq00 _ _ _)) rfl hz (by decide) hS (fun A5_12 zz kk s40x => ?_)
    replace s5 := kt kk s5
    replace s7 := kt kk s7
    replace s37 := kt kk s37
    clear kk hz s39
    have hz := zz
    have s40 := s40x
    clear zz s40x A5_11
    refine vh_take 12 true (.bool true) rfl (by kernel_rfl) (by kernel_rfl) (by kernel_rfl) (want_none rfl) (fun hc v hv => ex_andT rfl s37 s40) rfl hz (by decide) hS (fun A5_13 zz kk s41x => ?_)
    replace s5 := kt kk s5
    replace s7 := kt kk s7
    clear kk hz s37 s40
    have hz := zz
    have s41 := s41x
    clear zz s41x A5_12
    refine vh_take 13 true (.bool true) rfl (by kernel_rfl) (by kernel_rfl) (by kernel_rfl) (want_none rfl) (fun hc v hv => ex_move rfl (ev s41 rfl)) rfl hz (by decide) hS (fun A5_14 zz kk s42x => ?_)
    replace s5 := kt kk s5
    replace s7 := kt kk s7
    clear kk hz s41
    have hz := zz
    have s42 := s42x
    clear zz s42x A5_13
    refine vh_take 14 true (rq.val (.slice sa 0 sc) (.slice ta 0 tc)) rfl (by kernel_rfl) (by kernel_rfl) (by kernel_rfl) (want_t rfl rfl s42) (fun hc v hv => ex_ld rfl (ev s5 rfl) ((M9.bel hv).ldAll)) rfl hz (by decide) hS (fun A5_15 zz kk s43x => ?_)
    replace s7 := kt kk s7
    replace s42 := kt kk s42
    clear kk hz s5
    have hz := zz
    have s43 := s43x
    clear zz s43x A5_14
    refine vh_call 15 rfl (by kernel_rfl) (want_t rfl rfl s42) (ex_call (args := #[]) rfl (by simp) rfl) (request7_any _) rfl hz (by decide) ?_
    rintro e y4 ⟨rfl, hb4⟩
    refine ⟨_, rfl, (hS.trans (hb4.mono hS.size)), fun A5_16 zz kk s44x => ?_⟩
    replace hS := hS.trans (hb4.mono hS.size)
    clear hb4
    replace s7 := kt kk s7
    replace s42 := kt kk s42
    replace s43 := kt kk s43
    clear kk hz
    have hz := zz
    have s44 := s44x
    clear zz s44x A5_15
    refine vh_call 16 rfl (by kernel_rfl) (want_t rfl rfl s42) (ex_call rfl (by simp only [List.map_toArray, List.map_cons, List.map_nil, (ev s43 rfl), (ev s44 rfl), evc] <;> rfl) rfl) (same_rq sa ta sc tc _ (k1.later hS) (k2.later hS)) rfl hz (by decide) ?_
    rintro e y5 ⟨rfl, hb5⟩
    refine ⟨_, rfl, (hS.trans (hb5.mono hS.size)), fun A5_17 zz kk s45x => ?_⟩
    replace hS := hS.trans (hb5.mono hS.size)
    clear hb5
    replace s7 := kt kk s7
    replace s42 := kt kk s42
    clear kk hz s43 s44
    have hz := zz
    have s45 := s45x
    clear zz s45x A5_16
    refine vh_take 17 true (.bool true) rfl (by kernel_rfl) (by kernel_rfl) (by kernel_rfl) (want_none rfl) (fun hc v hv => ex_andT rfl s42 s45) rfl hz (by decide) hS (fun A5_18 zz kk s46x => ?_)
    replace s7 := kt kk s7
    clear kk hz s42 s45
    have hz := zz
    have s46 := s46x
    clear zz s46x A5_17
    refine vh_take 18 true (.bool true) rfl (by kernel_rfl) (by kernel_rfl) (by kernel_rfl) (want_none rfl) (fun hc v hv => ex_move rfl (ev s46 rfl)) rfl hz (by decide) hS (fun A5_19 zz kk s47x => ?_)
    replace s7 := kt kk s7
    clear kk hz s46
    have hz := zz
    have s47 := s47x
    clear zz s47x A5_18
    refine vh_take 19 true (.int .i64 71) rfl (by kernel_rfl) (by kernel_rfl) (by kernel_rfl) (want_t rfl rfl s47) (fun hc v hv => ex_move rfl (ev s7 rfl)) rfl hz (by decide) hS (fun A5_20 zz kk s48x => ?_)
    replace s47 := kt kk s47
    clear kk hz s7
    have hz := zz
    have s48 := s48x
    clear zz s48x A5_19
    refine vh_call 20 rfl (by kernel_rfl) (want_t rfl rfl s47) (ex_call rfl (by simp only [List.map_toArray, List.map_cons, List.map_nil, (ev s48 rfl), evc] <;> rfl) rfl) (num7_any 71 _) rfl hz (by decide) ?_
    rintro e y6 ⟨rfl, rfl⟩
    refine ⟨_, rfl, hS, fun A5_21 zz kk s49x => ?_⟩
    replace s47 := kt kk s47
    clear kk hz s48
    have hz := zz
    have s49 := s49x
    clear zz s49x A5_20
    refine vh_take 21 true (.bool true) rfl (by kernel_rfl) (by kernel_rfl) (by kernel_rfl) (want_t rfl rfl s47) (fun hc v hv => ex_bin rfl (ev s49 rfl) rfl (eq71 _ _ _)) rfl hz (by decide) hS (fun A5_22 zz kk s50x => ?_)
    replace s47 := kt kk s47
    clear kk hz s49
    have hz := zz
    have s50 := s50x
    clear zz s50x A5_21
    refine vh_take 22 true (.bool true) rfl (by kernel_rfl) (by kernel_rfl) (by kernel_rfl) (want_none rfl) (fun hc v hv => ex_andT rfl s47 s50) rfl hz (by decide) hS (fun A5_23 zz kk s51x => ?_)
    clear kk hz s47 s50
    have hz := zz
    have s51 := s51x
    clear zz s51x A5_22
    refine vh_take 23 true (.bool true) rfl (by kernel_rfl) (by kernel_rfl) (by kernel_rfl) (want_none rfl) (fun hc v hv => ex_assign rfl (ev s51 rfl)) rfl hz (by decide) hS (fun A5_24 zz kk s0x => ?_)
    clear kk hz s51
    have hz := zz
    have s0 := s0x
    clear zz s0x A5_23
    refine vh_done (by kernel_rfl) ?_
    have hfin := hB9.trans (hS.mono hB9.size)
    go_wp2
    refine bodyPost_ret (results_tmp rfl _ _ _) rfl ⟨?_, hfin⟩
    rw [getD_of s0]
    rfl
  refine vh_start (fun v => Below w8.heap.size w8 v) (by kernel_rfl) ?_
  have hS : Below w8.heap.size w8 w8.drew := (Below.refl _ _).drew
  refine vh_two 0 1 (by kernel_rfl) rfl rfl (want_none rfl) (ex_call (args := #[]) rfl (by simp) rfl) (three7_any _) rfl hz (by decide) ?_ (.slice (some ⟨w8.drew.heap.size, 0, none⟩) 3 3) (w8.drew.alloc zV3) (want_none rfl) (ex_mk rfl rfl rfl (mk3 _)) rfl (by decide) (hS.alloc hS.size _) ?_
  · rintro e y1 ⟨rfl, hb1⟩
    refine ⟨_, rfl, hS.trans (hb1.mono hS.size), fun Ta zz kk s25x => ?_⟩
    replace hS := hS.trans (hb1.mono hS.size)
    replace s1 := kt kk s1
    replace s2 := kt kk s2
    replace s3 := kt kk s3
    replace s5 := kt kk s5
    replace s6 := kt kk s6
    clear kk hz
    have hz := zz
    have s25 := s25x
    clear zz s25x
    refine vh_val 1 (.slice (some ⟨y1.heap.size, 0, none⟩) 3 3) (y1.alloc zV3) rfl (by kernel_rfl) (want_none rfl) (ex_mk rfl rfl rfl (mk3 _)) rfl hz (by decide) (hS.alloc hS.size _) (fun Te zz kk s26x => ?_)
    have hsl := sl3 y1
    replace hS := hS.alloc hS.size zV3
    replace s1 := kt kk s1
    replace s2 := kt kk s2
    replace s3 := kt kk s3
    replace s5 := kt kk s5
    replace s6 := kt kk s6
    replace s25 := kt kk s25
    clear kk hz
    have hz := zz
    have s26 := s26x
    clear zz s26x
    refine vh_take 2 true (cmB.val nilS (.slice (some ⟨y1.heap.size, 0, none⟩) 3 3)) rfl (by kernel_rfl) (by kernel_rfl) (by kernel_rfl) (want_none rfl) (fun hc v hv => ex_buildP rfl (by simp only [List.map_toArray, List.map_cons, List.map_nil, (ev s26 rfl)] <;> rfl) (bdCm _ _)) rfl hz (by decide) hS (fun Tb zz kk s27x => ?_)
    replace s1 := kt kk s1
    replace s2 := kt kk s2
    replace s3 := kt kk s3
    replace s5 := kt kk s5
    replace s6 := kt kk s6
    replace s25 := kt kk s25
    clear kk hz
    have hz := zz
    have s27 := s27x
    clear zz s27x
    refine vh_call 3 rfl (by kernel_rfl) (want_none rfl) (ex_call rfl (by simp only [List.map_toArray, List.map_cons, List.map_nil, (ev s25 rfl), (ev s27 rfl), evc] <;> rfl) rfl) (check_cm y1.heap.size _ (hT8.later hS hT8.lt) hsl) rfl hz (by decide) ?_
    rintro e y2 ⟨rfl, hbz⟩
    refine ⟨_, rfl, hS.trans (hbz.mono hS.size), fun Tc zz kk s28x => ?_⟩
    replace hS := hS.trans (hbz.mono hS.size)
    replace s1 := kt kk s1
    replace s2 := kt kk s2
    replace s3 := kt kk s3
    replace s5 := kt kk s5
    replace s6 := kt kk s6
    clear kk hz
    have hz := zz
    have s28 := s28x
    clear zz s28x
    refine vh_take 4 true (.int .i64 71) rfl (by kernel_rfl) (by kernel_rfl) (by kernel_rfl) (want_none rfl) (fun hc v hv => ex_assign rfl (ev s28 rfl)) rfl hz (by decide) hS (fun Td zz kk s7x => ?_)
    replace s1 := kt kk s1
    replace s2 := kt kk s2
    replace s3 := kt kk s3
    replace s5 := kt kk s5
    replace s6 := kt kk s6
    clear kk hz
    have hz := zz
    have s7 := s7x
    clear zz s7x
    refine vh_done (by kernel_rfl) ?_
    exact ⟨_, rfl, hz, s1, s2, s3, s5, s6, s7, hS⟩
  · intro Ta zz kk s26x
    have hsl := sl3 w8.drew
    replace hS := hS.alloc hS.size zV3
    replace s1 := kt kk s1
    replace s2 := kt kk s2
    replace s3 := kt kk s3
    replace s5 := kt kk s5
    replace s6 := kt kk s6
    clear kk hz
    have hz := zz
    have s26 := s26x
    clear zz s26x
    refine vh_take 2 true (cmB.val nilS (.slice (some ⟨w8.drew.heap.size, 0, none⟩) 3 3)) rfl (by kernel_rfl) (by kernel_rfl) (by kernel_rfl) (want_none rfl) (fun hc v hv => ex_buildP rfl (by simp only [List.map_toArray, List.map_cons, List.map_nil, (ev s26 rfl)] <;> rfl) (bdCm _ _)) rfl hz (by decide) hS (fun Tb zz kk s27x => ?_)
    replace s1 := kt kk s1
    replace s2 := kt kk s2
    replace s3 := kt kk s3
    replace s5 := kt kk s5
    replace s6 := kt kk s6
    clear kk hz
    have hz := zz
    have s27 := s27x
    clear zz s27x
    refine vh_call 0 rfl (by kernel_rfl) (want_none rfl) (ex_call (args := #[]) rfl (by simp) rfl) (three7_any _) rfl hz (by decide) ?_
    rintro e y1 ⟨rfl, hb1⟩
    refine ⟨_, rfl, hS.trans (hb1.mono hS.size), fun Tf zz kk s25x => ?_⟩
    replace hS := hS.trans (hb1.mono hS.size)
    replace s1 := kt kk s1
    replace s2 := kt kk s2
    replace s3 := kt kk s3
    replace s5 := kt kk s5
    replace s6 := kt kk s6
    replace s27 := kt kk s27
    clear kk hz
    have hz := zz
    have s25 := s25x
    clear zz s25x
    refine vh_call 3 rfl (by kernel_rfl) (want_none rfl) (ex_call rfl (by simp only [List.map_toArray, List.map_cons, List.map_nil, (ev s25 rfl), (ev s27 rfl), evc] <;> rfl) rfl) (check_cm w8.drew.heap.size _ (hT8.later hS hT8.lt) (hsl.later hb1)) rfl hz (by decide) ?_
    rintro e y2 ⟨rfl, hbz⟩
    refine ⟨_, rfl, hS.trans (hbz.mono hS.size), fun Tc zz kk s28x => ?_⟩
    replace hS := hS.trans (hbz.mono hS.size)
    replace s1 := kt kk s1
    replace s2 := kt kk s2
    replace s3 := kt kk s3
    replace s5 := kt kk s5
    replace s6 := kt kk s6
    clear kk hz
    have hz := zz
    have s28 := s28x
    clear zz s28x
    refine vh_take 4 true (.int .i64 71) rfl (by kernel_rfl) (by kernel_rfl) (by kernel_rfl) (want_none rfl) (fun hc v hv => ex_assign rfl (ev s28 rfl)) rfl hz (by decide) hS (fun Td zz kk s7x => ?_)
    replace s1 := kt kk s1
    replace s2 := kt kk s2
    replace s3 := kt kk s3
    replace s5 := kt kk s5
    replace s6 := kt kk s6
    clear kk hz
    have hz := zz
    have s7 := s7x
    clear zz s7x
    refine vh_done (by kernel_rfl) ?_
    exact ⟨_, rfl, hz, s1, s2, s3, s5, s6, s7, hS⟩
theorem CfB.upd {S : Nat → Prop} {w w' : World} {q : Nat} {c : Cf} (h : CfB w q c) (u : Upd S w w') (hs : ¬ S q) : CfB w' q c := ⟨Nat.lt_of_lt_of_le h.lt u.size, fun i x hx => (u.cell (p := ⟨q, i, none⟩) h.lt hs).trans (h.cell i x hx)⟩
theorem Tab.upd {S : Nat → Prop} {w w' : World} (h : Tab w) (u : Upd S w w') (hs : ¬ S 0) : Tab w' := ⟨Nat.lt_of_lt_of_le h.lt u.size, fun k j hk hj => (u.cell (p := ⟨0, k * 10 + j, none⟩) h.lt hs).trans (h.cell k j hk hj)⟩
theorem bxM (m : Mg) (s t : Value) (w : World) : (Instr.box 38 (m.val s t)).run Tryd.prog w = .ok (.pointer (some ⟨w.heap.size, 0, none⟩)) (w.alloc (.cells (m.cs s t).toArray 38)) := rfl
end Go.Proofs.YtabiimmpjllcpaaDoor
namespace Go.Proofs.YtabiimmpjllcpaaDoor
open Go.ChangeShapes Go.WideShapes Go.ChangeAt Go.RowKit
open Classical
set_option linter.unusedVariables false
theorem drCells : Tryd.prog.cellsOf 33 = 2 := by kernel_rfl
theorem drBytes : Tryd.prog.bytesOf 33 = 16 := by kernel_rfl
theorem rsCells : Tryd.prog.cellsOf 30 = 3 := by kernel_rfl
theorem kdCells : Tryd.prog.cellsOf 24 = 1 := by kernel_rfl
theorem u64Cells : Tryd.prog.cellsOf 31 = 1 := by kernel_rfl
theorem slCells : Tryd.prog.cellsOf 34 = 1 := by kernel_rfl
theorem vcCells : Tryd.prog.cellsOf 36 = 1 := by kernel_rfl
theorem msCells : Tryd.prog.cellsOf 38 = 18 := by kernel_rfl
def Mg.fits (m : Mg) : Prop := (Lit.int .i64 m.k).wf = true ∧ (Lit.int .i64 m.nd).wf = true ∧ (Lit.int .i64 m.vw).wf = true ∧ m.e.fits ∧ ((Lit.int .i64 m.r.1).wf = true ∧ (Lit.int .i64 m.r.2.1).wf = true ∧ m.r.2.2.size ≤ maxLen) ∧ (Lit.int .i64 m.p).wf = true ∧ (Lit.int .i64 m.cm).wf = true ∧ (Lit.int .i64 m.ls).wf = true ∧ (Lit.int .u64 m.d.1).wf = true ∧ (Lit.int .u64 m.d.2).wf = true
set_option maxRecDepth 100000 in
theorem open_drc {H : Type} {enc : TypeId × Value → H} {W : World} {base : Nat} {sp : Nat → Bool} {held : Bool} {n : Nat} {cs : List Value} {x : DataW H × List MemPlace} (h : DataW.trod enc Tryd.prog W base sp held n 33 cs = some x) :
    ∃ p : Int × Int, ((Lit.int .u64 p.1).wf = true ∧ (Lit.int .u64 p.2).wf = true) ∧ cs = [.int .u64 p.1, .int .u64 p.2] := by
  obtain ⟨xs, k, hk, hxy, hlen, hxl, hf⟩ := DataW.trod_struct Tryd.underlying33 h
  rw [drCells] at hlen
  have hxl : xs.length = 2 := hxl
  match xs, hxl, cs, hlen with
  | [y0, y1], _, [v0, v1], _ =>
    have g0 := hf 0 _ rfl
    have g1 := hf 1 _ rfl
    simp [u64Cells] at g0 g1
    obtain ⟨K, hK, hx0, hw0⟩ := DataW.trod_int Tryd.underlying31 g0
    obtain ⟨N, hN, hx2, hw2⟩ := DataW.trod_int Tryd.underlying31 g1
    refine ⟨(K, N), ⟨hw0, hw2⟩, ?_⟩
    rw [(List.cons_eq_cons.1 hK).1, (List.cons_eq_cons.1 hN).1]
set_option maxRecDepth 100000 in
theorem open_rsc {H : Type} {enc : TypeId × Value → H} {W : World} {base : Nat} {sp : Nat → Bool} {held : Bool} {n : Nat} {cs : List Value} {x : DataW H × List MemPlace} (h : DataW.trod enc Tryd.prog W base sp held n 30 cs = some x) :
    ∃ r : Int × Int × ByteArray, ((Lit.int .i64 r.1).wf = true ∧ (Lit.int .i64 r.2.1).wf = true ∧ r.2.2.size ≤ maxLen) ∧ cs = [.int .i64 r.1, .int .i64 r.2.1, .string r.2.2] := by
  obtain ⟨xs, k, hk, hxy, hlen, hxl, hf⟩ := DataW.trod_struct Tryd.underlying30 h
  rw [rsCells] at hlen
  have hxl : xs.length = 3 := hxl
  match xs, hxl, cs, hlen with
  | [y0, y1, y2], _, [v0, v1, v2], _ =>
    have g0 := hf 0 _ rfl
    have g1 := hf 1 _ rfl
    have g2 := hf 2 _ rfl
    simp [intCells, strCells] at g0 g1 g2
    obtain ⟨K, hK, hx0, hw0⟩ := DataW.trod_int Tryd.underlying3 g0
    obtain ⟨N, hN, hx2, hw2⟩ := DataW.trod_int Tryd.underlying3 g1
    obtain ⟨t, hS, hx4, hw4⟩ := DataW.trod_string Tryd.underlying9 g2
    refine ⟨(K, N, t), ⟨hw0, hw2, hw4⟩, ?_⟩
    rw [(List.cons_eq_cons.1 hK).1, (List.cons_eq_cons.1 hN).1, (List.cons_eq_cons.1 hS).1]
set_option maxRecDepth 100000 in
theorem slice_of_trod {α : Type} [Inhabited α] {Y : Lay α} (F : α → Prop) {T ST : TypeId} {k by_ : Nat} (hT : Y.T = T) (hk : Y.k = k) (kp : 0 < k) (klen : ∀ x, (Y.cs x).length = k) (hu : Tryd.prog.underlying ST = some (.slice T)) (hcl : Tryd.prog.cellsOf T = k) (hby : Tryd.prog.bytesOf T = by_) (hmul : ∀ n, n * by_ ≤ 140737488351232 → n * by_ ≤ 140737488351232)
    {H : Type} {enc : TypeId × Value → H} {W : World} {n : Nat} {v : Value} {d : DataW H} {p : List MemPlace}
    (hop : ∀ {m cs x}, DataW.trod enc Tryd.prog W 0 (fun _ => true) true m T cs = some x → ∃ e : α, F e ∧ cs = Y.cs e)
    (hf : DataW.trod enc Tryd.prog W 0 (fun _ => true) true n ST [v] = some (d, p))
    (hw : ∀ m, m ∈ d.weights Tryd.prog ST → m ≤ reachBytes) : ∃ a len cap, v = .slice a len cap ∧ ∃ P : List α, SlY Y W a len cap P ∧ (∀ e ∈ P, F e) ∧ len * by_ ≤ 140737488351232 := by
  rcases Go.Deep.open_slice hu hf with ⟨hcs, hx⟩ | ⟨y, ln, cp, m, k', D, Pl, hcs, hb, hl, hm, hmm, hx, hall⟩
  · have e := (List.cons_eq_cons.1 hcs).1
    cases e
    exact ⟨none, 0, 0, rfl, [], ⟨rfl, Nat.le_refl _, by unfold maxLen; omega, fun _ => ⟨rfl, rfl⟩, fun x hx => .inl rfl⟩, by simp, by omega⟩
  · have e := (List.cons_eq_cons.1 hcs).1
    subst e
    have hlm : ln ≤ m := by rw [hmm]; split <;> omega
    have each : ∀ i, i < ln → ∃ e : α, F e ∧ (∀ j, j < k → W.cell? ((y.add (i * k)).add j) = (Y.cs e)[j]?) := by
      intro i hi
      obtain ⟨cs', h1, h2⟩ := hall i (by omega)
      rw [hcl] at h1
      obtain ⟨e, hF, rfl⟩ := hop h2
      obtain ⟨_, _, hcell⟩ := World.cells?_some h1
      exact ⟨e, hF, hcell⟩
    obtain ⟨f, hp⟩ := Go.Deep.choose_lt each
    have hd := congrArg Prod.fst hx
    have hsz : ln * by_ ≤ 140737488351232 := by
      have hdd : d = _ := hd
      have := hw _ (by
        rw [hdd]
        simp only [DataW.weights, hu, hby]
        exact List.mem_cons_self)
      simp only [List.length_map, List.length_range, reachBytes] at this
      rw [Nat.add_mul] at this
      omega
    refine ⟨some y, ln, cp, rfl, (List.range ln).map f, ⟨by simp, hl, hm, (fun e => by cases e), fun x hx => ?_⟩, ?_, hsz⟩
    · cases hx
      by_cases hn0 : ln = 0
      · subst hn0
        exact .inl rfl
      · obtain ⟨b, o, s⟩ := y
        have z0 := (hp 0 (by omega)).2 0 kp
        have hs := World.cell?_spot (z0.trans (List.getElem?_eq_getElem (by rw [klen]; exact kp)))
        obtain rfl : s = none := by
          rw [Nat.zero_mul] at hs
          simpa [Addr.add] using hs
        refine .inr ⟨b, o, rfl, ?_, fun i x hx j u hu => ?_⟩
        · have c0 := z0.trans (List.getElem?_eq_getElem (by rw [klen]; exact kp))
          rw [Addr.add_lit, Addr.add_lit] at c0
          exact World.block_lt_of_cell? _ _ c0
        · have hi : i < ln := by
            have := (List.getElem?_eq_some_iff.1 hx).1
            simpa using this
          have e : f i = x := by
            simp [hi] at hx
            exact hx
          subst e
          have hj : j < k := by have := (List.getElem?_eq_some_iff.1 hu).1; rw [klen] at this; exact this
          have := (hp i hi).2 j hj
          rw [Addr.add_lit, Addr.add_lit] at this
          rw [hk]
          exact this.trans hu
    · intro q hq
      obtain ⟨i, hi, rfl⟩ := List.mem_map.1 hq
      exact (hp i (List.mem_range.1 hi)).1
def CameM (W : World) (m : Mg) (a1 : Option Addr) (n1 c1 : Nat) (a2 : Option Addr) (n2 c2 : Nat) : Prop := m.fits ∧ (∃ L : List En, SlY yE W a1 n1 c1 L ∧ (∀ e ∈ L, e.fits) ∧ n1 * 48 ≤ 140737488351232) ∧ ∃ D : List (Int × Int), SlY yD W a2 n2 c2 D ∧ (∀ d ∈ D, (Lit.int .u64 d.1).wf = true ∧ (Lit.int .u64 d.2).wf = true) ∧ n2 * 16 ≤ 140737488351232
set_option maxRecDepth 100000 in
set_option maxHeartbeats 2000000 in
theorem open_msg {H : Type} {enc : TypeId × Value → H} {W : World} {base : Nat} {v : Value} {d : DataW H} {p : List MemPlace} (hv : Value.okWide Tryd.prog W .any base 38 v) (h : DataW.Trod enc Tryd.prog W 0 (fun _ => true) true 38 v d p)
    (hw : ∀ m, m ∈ d.weights Tryd.prog 38 → m ≤ reachBytes) :
    ∃ (m : Mg) (a1 : Option Addr) (n1 c1 : Nat) (a2 : Option Addr) (n2 c2 : Nat), v = m.val (.slice a1 n1 c1) (.slice a2 n2 c2) ∧ CameM W m a1 n1 c1 a2 n2 c2 := by
  obtain ⟨cs, rfl, hsz⟩ := okWide_struct Tryd.underlying38 hv
  rw [msCells] at hsz
  obtain ⟨l⟩ := cs
  obtain ⟨fuel, hf⟩ := h
  obtain ⟨xs, k, hk, hxy, hlen, hxl, hf⟩ := DataW.trod_struct Tryd.underlying38 hf
  have hxl : xs.length = 11 := hxl
  match xs, hxl, l, hsz with
  | [y0, y1, y2, y3, y4, y5, y6, y7, y8, y9, y10], _, [v0, v1, v2, v3, v4, v5, v6, v7, v8, v9, v10, v11, v12, v13, v14, v15, v16, v17], _ =>
    have g0 := hf 0 _ rfl
    have g1 := hf 1 _ rfl
    have g2 := hf 2 _ rfl
    have g3 := hf 3 _ rfl
    have g4 := hf 4 _ rfl
    have g5 := hf 5 _ rfl
    have g6 := hf 6 _ rfl
    have g7 := hf 7 _ rfl
    have g8 := hf 8 _ rfl
    have g9 := hf 9 _ rfl
    have g10 := hf 10 _ rfl
    simp [Value.cells, intCells, kdCells, enCells, rsCells, drCells, slCells, vcCells] at g0 g1 g2 g3 g4 g5 g6 g7 g8 g9 g10
    obtain ⟨K, hK, _, wK⟩ := DataW.trod_int Tryd.underlying24 g0
    obtain ⟨N, hN, _, wN⟩ := DataW.trod_int Tryd.underlying3 g1
    obtain ⟨V, hV, _, wV⟩ := DataW.trod_int Tryd.underlying3 g2
    obtain ⟨e, we, he⟩ := open_enc g3
    obtain ⟨r, wr, hr⟩ := open_rsc g4
    obtain ⟨P, hP, _, wP⟩ := DataW.trod_int Tryd.underlying3 g5
    obtain ⟨C, hC, _, wC⟩ := DataW.trod_int Tryd.underlying3 g6
    obtain ⟨Ls, hLs, _, wLs⟩ := DataW.trod_int Tryd.underlying3 g7
    obtain ⟨dr, wdr, hdr⟩ := open_drc g8
    have hd : d = .agg ([y0, y1, y2, y3, y4, y5, y6, y7, y8, y9, y10].map Prod.fst) := congrArg Prod.fst hxy
    haveI : Inhabited En := ⟨⟨0, 0, ⟨0, 0, ⟨#[]⟩⟩⟩⟩
    obtain ⟨a1, n1, c1, e16, hL⟩ := slice_of_trod (Y := yE) En.fits rfl rfl (by decide) (fun _ => rfl) Tryd.underlying34 enCells enBytes (fun _ h => h) (fun h => open_enc h) g9 (fun k hk => hw k (by
      rw [hd]
      simp only [DataW.weights, Tryd.underlying38]
      exact DataW.weights_mem_each (j := 9) (t := 34) rfl rfl k hk))
    obtain ⟨a2, n2, c2, e17, hD⟩ := slice_of_trod (Y := yD) (fun d => (Lit.int .u64 d.1).wf = true ∧ (Lit.int .u64 d.2).wf = true) rfl rfl (by decide) (fun _ => rfl) Tryd.underlying36 drCells drBytes (fun _ h => h) (fun h => open_drc h) g10 (fun k hk => hw k (by
      rw [hd]
      simp only [DataW.weights, Tryd.underlying38]
      exact DataW.weights_mem_each (j := 10) (t := 36) rfl rfl k hk))
    refine ⟨⟨K, N, V, e, r, P, C, Ls, dr⟩, a1, n1, c1, a2, n2, c2, ?_, ⟨wK, wN, wV, we, wr, wP, wC, wLs, wdr.1, wdr.2⟩, hL, hD⟩
    simp [En.cs] at hK hN hV he hr hP hC hLs hdr
    obtain ⟨q3, q4, q5, q6, q7⟩ := he
    obtain ⟨q8, q9, q10⟩ := hr
    obtain ⟨q14, q15⟩ := hdr
    subst hK hN hV q3 q4 q5 q6 q7 q8 q9 q10 hP hC hLs q14 q15 e16 e17
    rfl
end Go.Proofs.YtabiimmpjllcpaaDoor
namespace Go.Proofs.YtabiimmpjllcpaaDoor
open Go.RowKit Go.Maps Go.WideShapes Go.ChangeShapes
open Classical
set_option linter.unusedVariables false
set_option linter.unusedSimpArgs false
theorem gTab : Tryd.prog.globalNamed "amnesia/message.table" = some 0 := by kernel_rfl
theorem gTabT : (Tryd.prog.globals[0]?).map (·.type) = some 72 := by kernel_rfl
theorem cellsRow : Tryd.prog.cellsOf 71 = 10 := by kernel_rfl
theorem cellsRule : Tryd.prog.cellsOf 70 = 1 := by kernel_rfl
theorem undTab : Tryd.prog.underlying 72 = some (.array 15 71) := by kernel_rfl
theorem undRow : Tryd.prog.underlying 71 = some (.array 10 70) := by kernel_rfl
theorem undRule : Tryd.prog.underlying 70 = some (.int .u8) := by kernel_rfl
theorem tab_of_laid7 {W : World} (h : laidMetH Tryd.prog [("amnesia/message.table", Rows.laid_amnesia_message_table)] W) : Tab W := by
  rw [MakeChecks.laidMetH_plain _ _ _ (by kernel_rfl)] at h
  obtain ⟨ps, ⟨g', t', cs, fuel, p, q, hg', ht', hvar, hd, _, _⟩, _⟩ := h
  obtain rfl := Option.some.inj (gTab.symm.trans hg')
  obtain rfl := Option.some.inj (gTabT.symm.trans ht')
  obtain ⟨xs, m, _, hx, hl, hxl, hall⟩ := DataW.trod_array undTab hd
  have e : (Rows.laid_amnesia_message_table : DataW Unit) = .agg ((List.range 15).map fun k => Lib.tabData .u8 ((List.range 10).map fun j => (tabA k j : Int))) := by kernel_rfl
  have hxs : xs.map (·.1) = (List.range 15).map fun k => (Lib.tabData .u8 ((List.range 10).map fun j => (tabA k j : Int)) : DataW Unit) := by
    have h1 := congrArg Prod.fst hx
    rw [e] at h1
    exact (DataW.agg.inj h1).symm
  have row : ∀ k, k < 15 → (cs.toList.drop (k * 10)).take 10 = ((List.range 10).map fun j => (tabA k j : Int)).map fun z => Value.int .u8 z := by
    intro k hk
    have h1 := hall k hk
    rw [cellsRow] at h1
    obtain ⟨x, hx⟩ : ∃ x, xs[k]? = some x := ⟨_, List.getElem?_eq_getElem (by omega)⟩
    rw [hx] at h1
    have h2 : x.1 = (Lib.tabData .u8 ((List.range 10).map fun j => (tabA k j : Int)) : DataW Unit) := by
      have h3 := congrArg (fun l => l[k]?) hxs
      simp only [List.getElem?_map, hx, Option.map_some, List.getElem?_range hk] at h3
      exact Option.some.inj h3
    obtain ⟨d, pp⟩ := x
    subst h2
    exact Lib.cells_of_tab undRow undRule cellsRule cellsRow h1
  have cell : ∀ k j, k < 15 → j < 10 → W.cell? ⟨0, k * 10 + j, none⟩ = some (.int .u8 (tabA k j : Int)) := by
    intro k j hk hj
    have h1 := World.var?_cell gTab hvar (k * 10 + j)
    rw [h1]
    have h2 := congrArg (fun l => l[j]?) (row k hk)
    simp only [List.getElem?_take_of_lt hj, List.getElem?_drop, List.getElem?_map, List.getElem?_range hj, Option.map_some, Array.getElem?_toList] at h2
    exact h2
  refine ⟨?_, cell⟩
  have h0 := cell 0 0 (by decide) (by decide)
  apply Nat.pos_of_ne_zero
  intro hz
  have : W.heap[0]? = none := Array.getElem?_eq_none (by omega)
  simp [World.cell?, this] at h0
theorem cfCells7 : Tryd.prog.cellsOf 23 = 4 := by kernel_rfl
theorem boolCells7 : Tryd.prog.cellsOf 4 = 1 := by kernel_rfl
set_option maxRecDepth 100000 in
theorem open_cfg {H : Type} {enc : TypeId × Value → H} {W : World} {base : Nat} {v : Value} {d : DataW H} {p : List MemPlace} (hv : Value.okWide Tryd.prog W .any base 23 v) (h : DataW.Trod enc Tryd.prog W 0 (fun _ => true) true 23 v d p) :
    ∃ x : Cf, v = x.val ∧ True := by
  obtain ⟨cs, rfl, hsz⟩ := okWide_struct Tryd.underlying23 hv
  obtain ⟨fuel, hf⟩ := h
  obtain ⟨xs, k, hk, hxy, hlen, hxl, hf⟩ := DataW.trod_struct Tryd.underlying23 hf
  rw [cfCells7] at hlen
  have hxl : xs.length = 4 := hxl
  simp only [Value.cells] at hlen hf
  obtain ⟨l⟩ := cs
  match xs, hxl, l, hlen with
  | [y0, y1, y2, y3], _, [v0, v1, v2, v3], _ =>
    have g0 := hf 0 _ rfl
    have g1 := hf 1 _ rfl
    have g2 := hf 2 _ rfl
    have g3 := hf 3 _ rfl
    simp [intCells, boolCells7] at g0 g1 g2 g3
    obtain ⟨A, hA, _, _⟩ := DataW.trod_int Tryd.underlying3 g0
    obtain ⟨B, hB, _, _⟩ := DataW.trod_int Tryd.underlying3 g1
    obtain ⟨C, hC, _, _⟩ := DataW.trod_int Tryd.underlying3 g2
    obtain ⟨b, hb, _⟩ := DataW.trod_bool Tryd.underlying4 g3
    refine ⟨⟨A, B, C, b⟩, ?_, trivial⟩
    simp at hA hB hC hb
    subst hA hB hC hb
    rfl
end Go.Proofs.YtabiimmpjllcpaaDoor
namespace Go.Proofs.YtabiimmpjllcpaaDoor
open Go.RowKit Go.Maps
open Classical
set_option linter.unusedVariables false
set_option linter.unusedSimpArgs false
theorem enB_byte {c : Cf} {m : Mg} {L : List En} {D : List (Int × Int)} (hf : m.e.fits) (hL : ∀ e ∈ L, e.fits) (hd : drF m.d) (hD : ∀ d ∈ D, drF d) (hlen : (L.length : Int) ≤ 9223372036854775807) : ∀ z ∈ enB c m L D, 0 ≤ z ∧ z < 256 := by
  unfold enB
  split
  · rename_i h
    obtain ⟨hm, k1, k2⟩ := ck_mgF h hf hL hd hD hlen
    exact M.frame_byte _ (mbBy_byte hm (by omega))
  · exact fun z hz => by cases hz
theorem same_eq (a a' : Option Addr) (n c n' c' : Nat) (l : List Int) (w : World) (h : Wi.Hs w a n c l) (h' : Wi.Hs w a' n' c' l) : Calls Tryd.prog 13 #[.slice a n c, .slice a' n' c'] w fun e w' => e = .returned (.bool true) ∧ w' = w := by
  refine (Wi.same_any a a' n c n' c' _ _ w h h').mono ?_
  rintro e w' ⟨rfl, rfl⟩
  exact ⟨by rw [decide_eq_true rfl], rfl⟩
theorem drF_wf {d : Int × Int} (h : (Lit.int .u64 d.1).wf = true ∧ (Lit.int .u64 d.2).wf = true) : drF d := by
  have h1 := bounds_u64 h.1
  have h2 := bounds_u64 h.2
  exact ⟨h1.1, by omega, h2.1, by omega⟩
theorem want_k {ops : Array Oper} {o : Oper} {T : Array Value} {g j : Nat} {pol : Bool} (h : o.guard = some (g, pol)) (hg : (ops[g]?).bind (·.dst) = some j) (hj : T[j]? = some (gw true (.bool pol))) : Region.wanted o (yielded ops T) = true := by
  rw [want_g h hg hj]
  cases pol <;> rfl
theorem neqSelf (x y : Operand) (a : Int) (w : World) : (do eqGuard .neq 3 x y (.int .i64 a) (.int .i64 a); binOp .neq 3 (.int .i64 a) (.int .i64 a) : Sem Value).run Tryd.prog w = .ok (.bool false) w := by
  have := neqC x y a a w
  rwa [decide_eq_true rfl] at this
theorem neq00 (x y : Operand) (w : World) : (do eqGuard .neq 3 x y (.int .i64 0) (.int .i64 0); binOp .neq 3 (.int .i64 0) (.int .i64 0) : Sem Value).run Tryd.prog w = .ok (.bool false) w := neqSelf x y 0 w
theorem ex_len8 {o : Oper} {ρ : Operand → Value} {i : Nat} {a : Option Addr} {n k : Nat} {w : World} (ho : o.op = .call { callee := .builtin .len, args := #[.tmp i], argTypes := #[39] }) (ht : o.type = 3) (hx : ρ (.tmp i) = .slice a n k) : (execOp ρ o).run Tryd.prog w = .ok (.value (.int .i64 (n : Int))) w := by
  unfold execOp
  simp only [ho]
  rw [Sem.run_bind]
  simp only [resolve, List.map_toArray, List.map_cons, List.map_nil, hx, ht]
  go_simp
theorem decode_sl (c : Cf) (a : Option Addr) (n c_ : Nat) (f : List Int) (w : World) (hH : Wi.Hs w a n c_ f) (hm : n ≤ 140737488355328) (hT : Tab w) :
    Calls Tryd.prog 10 #[c.val, .slice a n c_] w fun e w' => ∃ sa sc ta tc, e = .returned (.tuple #[(dcM c f).1.m.val (.slice sa (dcM c f).1.L.length sc) (.slice ta (dcM c f).1.D.length tc), .int .i64 (dcM c f).2]) ∧ SlY yE w' sa (dcM c f).1.L.length sc (dcM c f).1.L ∧ SlY yD w' ta (dcM c f).1.D.length tc (dcM c f).1.D ∧ Below w.heap.size w w' := by
  refine (decode_any c a n c_ f w hH hm hT).mono ?_
  rintro e w' ⟨s, t, rfl, h1, h2, hb⟩
  obtain ⟨sa, sc, rfl, k1, _⟩ := h1.sl kE
  obtain ⟨ta, tc, rfl, k2, _⟩ := h2.sl kD
  exact ⟨sa, sc, ta, tc, rfl, k1, k2, hb⟩
theorem decode_ok (c : Cf) (a : Option Addr) (n c_ : Nat) (f : List Int) (w : World) (m : Mg) (L : List En) (D : List (Int × Int)) (s : Nat × Int) (hdc : dcM c f = (⟨m, L, D, s⟩, 0)) (hH : Wi.Hs w a n c_ f) (hm : n ≤ 140737488355328) (hT : Tab w) :
    Calls Tryd.prog 10 #[c.val, .slice a n c_] w fun e w' => ∃ sa sc ta tc, e = .returned (.tuple #[m.val (.slice sa L.length sc) (.slice ta D.length tc), .int .i64 0]) ∧ SlY yE w' sa L.length sc L ∧ SlY yD w' ta D.length tc D ∧ Below w.heap.size w w' := by
  have := decode_sl c a n c_ f w hH hm hT
  rw [hdc] at this
  exact this
theorem samemsg_eq (m : Mg) (a1 a2 : Option Addr) (c1 c2 : Nat) (b1 b2 : Option Addr) (e1 e2 : Nat) (L : List En) (D : List (Int × Int)) (w : World) (h1 : SlY yE w a1 L.length c1 L) (h2 : SlY yD w a2 D.length c2 D) (h3 : SlY yE w b1 L.length e1 L) (h4 : SlY yD w b2 D.length e2 D) :
    Calls Tryd.prog 11 #[m.val (.slice a1 L.length c1) (.slice a2 D.length c2), m.val (.slice b1 L.length e1) (.slice b2 D.length e2)] w fun e w' => e = .returned (.bool true) ∧ Below w.heap.size w w' := by
  have := samemsg_any m m a1 a2 b1 b2 L.length D.length L.length D.length c1 c2 e1 e2 L L D D w h1 h2 h3 h4
  rwa [(sameM_iff m m L L D D).2 ⟨rfl, rfl, rfl⟩] at this
theorem alike_eq (m : Mg) (a1 a2 : Option Addr) (c1 c2 : Nat) (b1 b2 : Option Addr) (e1 e2 : Nat) (L : List En) (D : List (Int × Int)) (w : World) (h1 : SlY yE w a1 L.length c1 L) (h2 : SlY yD w a2 D.length c2 D) (h3 : SlY yE w b1 L.length e1 L) (h4 : SlY yD w b2 D.length e2 D) :
    Calls Tryd.prog 12 #[m.val (.slice a1 L.length c1) (.slice a2 D.length c2), m.val (.slice b1 L.length e1) (.slice b2 D.length e2)] w fun e w' => e = .returned (.bool true) ∧ Below w.heap.size w w' := by
  have := alike_any m m a1 a2 b1 b2 L.length D.length L.length D.length c1 c2 e1 e2 L L D D w h1 h2 h3 h4
  rwa [(sameM_iff m m L L D D).2 ⟨rfl, rfl, rfl⟩] at this
theorem same_zero {x : Rst} {ua va : Option Addr} {uc vc : Nat} {w : World} (h : x = ⟨zG, [], [], (0, 0)⟩) (h1 : SlY yE w ua x.L.length uc x.L) (h2 : SlY yD w va x.D.length vc x.D) :
    Calls Tryd.prog 11 #[x.m.val (.slice ua x.L.length uc) (.slice va x.D.length vc), zG.val nilS nilS] w fun e w' => e = .returned (.bool true) ∧ Below w.heap.size w w' := by
  subst h
  exact samemsg_eq zG ua va uc vc none none 0 0 [] [] w h1 h2 (sl_nil _ _) (sl_nil _ _)
theorem encode_back (c : Cf) (m : Mg) (a1 a2 : Option Addr) (cl cv : Nat) (L : List En) (D : List (Int × Int)) (f : List Int) (w : World) (hk : ckM c m L D = 0) (hf : enB c m L D = f) (hT : Tab w) (hL : SlY yE w a1 L.length cl L) (hfit : ∀ e ∈ L, e.fits) (hD : SlY yD w a2 D.length cv D) (hfe : m.e.fits) (hd : drF m.d) (hds : ∀ d ∈ D, drF d) (hby : ∀ z ∈ f, 0 ≤ z ∧ z < 256) :
    Calls Tryd.prog 7 #[c.val, m.val (.slice a1 L.length cl) (.slice a2 D.length cv)] w fun e w' => ∃ a n c_, e = .returned (.tuple #[.slice a n c_, .int .i64 0]) ∧ Wi.Hs w' a n c_ f ∧ Below w.heap.size w w' := by
  refine (encode_any c m a1 a2 cl cv L D w hT hL hfit hD hfe hd hds).mono ?_
  rintro e w' ⟨v, rfl, Of, hb⟩
  rw [hf] at Of
  obtain ⟨a, n, c_, rfl, hs, _⟩ := Of.hs hby
  exact ⟨a, n, c_, by rw [hk], hs, hb⟩
set_option maxRecDepth 100000 in
set_option maxHeartbeats 4000000 in
theorem law_back7 (c : Cf) (m : Mg) (a1 a2 : Option Addr) (c1 c2 : Nat) (L : List En) (D : List (Int × Int)) (a3 : Option Addr) (n3 c3 : Nat) (f : List Int) (w : World) (hT : Tab w) (hL : SlY yE w a1 L.length c1 L) (hfit : ∀ e ∈ L, e.fits) (hD : SlY yD w a2 D.length c2 D) (hfe : m.e.fits) (hd : drF m.d) (hds : ∀ d ∈ D, drF d) (k1 : L.length * 48 ≤ 140737488351232) (hF : Wi.Hs w a3 n3 c3 f) (hn3 : n3 ≤ 140737488355328) :
    Calls Tryd.prog 3 #[c.val, m.val (.slice a1 L.length c1) (.slice a2 D.length c2), .slice a3 n3 c3] w fun e w' => e = .returned (.bool true) ∧ Below w.heap.size w w' := by
  have hll : (L.length : Int) ≤ 9223372036854775807 := by omega
  have hby := enB_byte (c := c) (m := m) (L := L) (D := D) hfe hfit hd hds hll
  have H1 := hide hL
  have H2 := hide hD
  clear hL hD
  have HT := hide hT
  have H0 := hT.lt
  clear hT
  go_enter Tryd.func3, Tryd.ntmps3
  go_upto_region 0 with fail
  refine wp_region_lit ?_
  refine vl_gen (fun T => T.size = 85 ∧ T[0]? = some (gw true (.agg #[.int .i64 c.f, .int .i64 c.r, .int .i64 c.p, .bool c.u])) ∧ T[1]? = some (gw true (m.val (.slice a1 L.length c1) (.slice a2 D.length c2))) ∧ T[2]? = some (gw true (.slice a3 n3 c3))) ⟨rfl, rfl, rfl, rfl⟩ (fun Z0 ⟨hz, s0, s1, s2⟩ => ?_)
  obtain ⟨w1, hw1⟩ : ∃ y, y = w.alloc (.cells #[.int .i64 c.f, .int .i64 c.r, .int .i64 c.p, .bool c.u] 23) := ⟨_, rfl⟩
  have hB : Below w.heap.size w w1 := by rw [hw1]; exact (Below.refl _ _).alloc (Nat.le_refl _) _
  have hs1 : w1.heap.size = w.heap.size + 1 := by rw [hw1]; simp
  have Cc : CfB w1 w.heap.size c := ⟨by omega, fun i x hx => by rw [hw1]; exact cell_box _ _ _ _ _ (by simpa using hx)⟩
  refine vw (.pointer (some ⟨w.heap.size, 0, none⟩)) w1 (want_none rfl) (ex_box rfl (ev s0 rfl) (by rw [hw1]; exact bxCf _ _ _ _ _)) rfl hz (by decide) (fun Z1 zz kk s3 => ?_)
  replace s1 := kt kk s1
  replace s2 := kt kk s2
  clear kk hz s0 hw1
  have hz := zz
  clear zz
  obtain ⟨w2, hw2⟩ : ∃ y, y = w1.alloc (.cells (m.cs (.slice a1 L.length c1) (.slice a2 D.length c2)).toArray 38) := ⟨_, rfl⟩
  have hb : Below w1.heap.size w1 w2 := by rw [hw2]; exact (Below.refl _ _).alloc (Nat.le_refl _) _
  have hs2 : w2.heap.size = w.heap.size + 2 := by rw [hw2]; simp; omega
  have Mc : MBox w2 (w.heap.size + 1) m (.slice a1 L.length c1) (.slice a2 D.length c2) := by rw [hw2, ← hs1]; exact MBox.new w1 m _ _
  refine vw (.pointer (some ⟨w.heap.size + 1, 0, none⟩)) w2 (want_none rfl) (ex_box rfl (ev s1 rfl) (by rw [hw2, ← hs1]; exact bxM _ _ _ _)) rfl hz (by decide) (fun Z2 zz kk s4 => ?_)
  replace Cc := Cc.bel hb
  replace hB := hB.trans (hb.mono hB.size)
  clear hb
  replace s2 := kt kk s2
  replace s3 := kt kk s3
  clear kk hz s1 hw2
  have hz := zz
  clear zz
  refine vl true (.bool false) (want_none rfl) (fun hc => ex_assign rfl rfl) rfl hz (by decide) (fun Z9 zz kk s6 => ?_)
  replace s2 := kt kk s2
  replace s3 := kt kk s3
  replace s4 := kt kk s4
  clear kk hz s6
  have hz := zz
  clear zz
  refine wpList_nil ?_
  have Lc := H1.out.later hB
  have Dc := H2.out.later hB
  have Fc := hF.later hB
  have Tc := HT.out.later hB H0
  clear H1 H2 HT hF
  go_upto_region 1 with fail
  refine wp_region_lit ?_
  refine vcallP (want_none rfl) (ex_call (args := #[]) rfl (by simp) rfl) (alive7 _ Tc) rfl hz (by decide) ?_
  rintro e y1 ⟨rfl, hb⟩
  refine ⟨_, rfl, fun A1x1_1 zz kk s15x => ?_⟩
  replace Cc := Cc.bel hb
  replace hB := hB.trans (hb.mono hB.size)
  replace Mc := Mc.bel hb
  replace Lc := Lc.later hb
  replace Dc := Dc.later hb
  replace Fc := Fc.later hb
  replace Tc := Tc.later hb Tc.lt
  clear hb
  replace s2 := kt kk s2
  replace s3 := kt kk s3
  replace s4 := kt kk s4
  clear kk hz
  have hz := zz
  have s15 := s15x
  clear zz s15x
  refine vt (.bool (!true)) (ex_not rfl (ev s15 rfl)) hz (fun A1x1_2 zz kk s16x => ?_)
  replace s2 := kt kk s2
  replace s3 := kt kk s3
  replace s4 := kt kk s4
  clear kk hz s15
  have hz := zz
  have s16 := s16x
  clear zz s16x A1x1_1
  refine wpList_nil ?_
  go_upto_region 3 with fail
  refine wp_cond_false ((ev s16 rfl).trans rfl) ?_
  clear s16
  go_upto_region 3 with fail
  refine wp_region_lit ?_
  refine vt (.agg #[.int .i64 c.f, .int .i64 c.r, .int .i64 c.p, .bool c.u]) (ex_ld rfl (ev s3 rfl) (Cc.ldAll)) hz (fun A2x3_1 zz kk s18x => ?_)
  replace s2 := kt kk s2
  replace s3 := kt kk s3
  replace s4 := kt kk s4
  clear kk hz
  have hz := zz
  have s18 := s18x
  clear zz s18x
  refine vt (m.val (.slice a1 L.length c1) (.slice a2 D.length c2)) (ex_ld rfl (ev s4 rfl) (Mc.ldAll)) hz (fun A2x3_2 zz kk s19x => ?_)
  replace s2 := kt kk s2
  replace s3 := kt kk s3
  replace s4 := kt kk s4
  replace s18 := kt kk s18
  clear kk hz
  have hz := zz
  have s19 := s19x
  clear zz s19x A2x3_1
  refine vcallP (want_none rfl) (ex_call rfl (by simp only [List.map_toArray, List.map_cons, List.map_nil, (ev s18 rfl), (ev s19 rfl), evc] <;> rfl) rfl) (encode_any c m a1 a2 c1 c2 L D _ Tc Lc hfit Dc hfe hd hds) rfl hz (by decide) ?_
  rintro e y2 ⟨vf_, rfl, Of, hb⟩; obtain ⟨af, nf, cf, rfl, hsF, _⟩ := Of.hs hby; clear Of
  refine ⟨_, rfl, fun A2x3_3 zz kk s20x => ?_⟩
  replace Cc := Cc.bel hb
  replace hB := hB.trans (hb.mono hB.size)
  replace Mc := Mc.bel hb
  replace Lc := Lc.later hb
  replace Dc := Dc.later hb
  replace Fc := Fc.later hb
  replace Tc := Tc.later hb Tc.lt
  clear hb
  replace s2 := kt kk s2
  replace s3 := kt kk s3
  replace s4 := kt kk s4
  clear kk hz s18 s19
  have hz := zz
  have s20 := s20x
  clear zz s20x A2x3_2
  refine vt _ (ex_move rfl (ev s20 rfl)) hz (fun A2x3_4 zz kk s17x => ?_)
  replace s2 := kt kk s2
  replace s3 := kt kk s3
  replace s4 := kt kk s4
  clear kk hz s20
  have hz := zz
  have s17 := s17x
  clear zz s17x A2x3_3
  refine vt (.slice af nf cf) (ex_ext rfl (ev s17 rfl) rfl) hz (fun A2x3_5 zz kk s21x => ?_)
  replace s2 := kt kk s2
  replace s3 := kt kk s3
  replace s4 := kt kk s4
  replace s17 := kt kk s17
  clear kk hz
  have hz := zz
  have s21 := s21x
  clear zz s21x A2x3_4
  refine vt (.int .i64 (ckM c m L D)) (ex_ext rfl (ev s17 rfl) rfl) hz (fun A2x3_6 zz kk s22x => ?_)
  replace s2 := kt kk s2
  replace s3 := kt kk s3
  replace s4 := kt kk s4
  replace s21 := kt kk s21
  clear kk hz s17
  have hz := zz
  have s22 := s22x
  clear zz s22x A2x3_5
  refine vt _ (ex_assign rfl (ev s21 rfl)) hz (fun A2x3_7 zz kk s7x => ?_)
  replace s2 := kt kk s2
  replace s3 := kt kk s3
  replace s4 := kt kk s4
  replace s22 := kt kk s22
  clear kk hz s21
  have hz := zz
  have s7 := s7x
  clear zz s7x A2x3_6
  refine vt _ (ex_assign rfl (ev s22 rfl)) hz (fun A2x3_8 zz kk s8x => ?_)
  replace s2 := kt kk s2
  replace s3 := kt kk s3
  replace s4 := kt kk s4
  replace s7 := kt kk s7
  clear kk hz s22
  have hz := zz
  have s8 := s8x
  clear zz s8x A2x3_7
  refine wpList_nil ?_
  go_upto_region 4 with fail
  refine vh_start (fun v => Below y2.heap.size y2 v) (by kernel_rfl) ?_
  have hS : Below y2.heap.size y2 y2.drew := (Below.refl _ _).drew
  refine vh_take 0 true (.int .i64 (ckM c m L D)) rfl (by kernel_rfl) (by kernel_rfl) (by kernel_rfl) (want_none rfl) (fun hc v hv => ex_move rfl (ev s8 rfl)) rfl hz (by decide) hS (fun A3x4_1 zz kk s23x => ?_)
  replace s2 := kt kk s2
  replace s3 := kt kk s3
  replace s4 := kt kk s4
  replace s7 := kt kk s7
  replace s8 := kt kk s8
  clear kk hz
  have hz := zz
  have s23 := s23x
  clear zz s23x
  refine vh_take 2 true (.agg #[.int .i64 c.f, .int .i64 c.r, .int .i64 c.p, .bool c.u]) rfl (by kernel_rfl) (by kernel_rfl) (by kernel_rfl) (want_none rfl) (fun hc v hv => ex_ld rfl (ev s3 rfl) ((Cc.bel hv).ldAll)) rfl hz (by decide) hS (fun A3x4_2 zz kk s25x => ?_)
  replace s2 := kt kk s2
  replace s3 := kt kk s3
  replace s4 := kt kk s4
  replace s7 := kt kk s7
  replace s8 := kt kk s8
  replace s23 := kt kk s23
  clear kk hz
  have hz := zz
  have s25 := s25x
  clear zz s25x A3x4_1
  refine vh_take 3 true (m.val (.slice a1 L.length c1) (.slice a2 D.length c2)) rfl (by kernel_rfl) (by kernel_rfl) (by kernel_rfl) (want_none rfl) (fun hc v hv => ex_ld rfl (ev s4 rfl) ((Mc.bel hv).ldAll)) rfl hz (by decide) hS (fun A3x4_3 zz kk s26x => ?_)
  replace s2 := kt kk s2
  replace s3 := kt kk s3
  replace s4 := kt kk s4
  replace s7 := kt kk s7
  replace s8 := kt kk s8
  replace s23 := kt kk s23
  replace s25 := kt kk s25
  clear kk hz
  have hz := zz
  have s26 := s26x
  clear zz s26x A3x4_2
  refine vh_call 1 rfl (by kernel_rfl) (want_none rfl) (ex_call rfl (by simp only [List.map_toArray, List.map_cons, List.map_nil, (ev s23 rfl), evc] <;> rfl) rfl) (num7_any (ckM c m L D) _) rfl hz (by decide) ?_
  rintro e y_ ⟨rfl, hy_⟩; rw [hy_]; clear hy_ y_
  refine ⟨_, rfl, hS, fun A3x4_4 zz kk s24x => ?_⟩
  replace s2 := kt kk s2
  replace s3 := kt kk s3
  replace s4 := kt kk s4
  replace s7 := kt kk s7
  replace s8 := kt kk s8
  replace s25 := kt kk s25
  replace s26 := kt kk s26
  clear kk hz s23
  have hz := zz
  have s24 := s24x
  clear zz s24x A3x4_3
  refine vh_call 4 rfl (by kernel_rfl) (want_none rfl) (ex_call rfl (by simp only [List.map_toArray, List.map_cons, List.map_nil, (ev s25 rfl), (ev s26 rfl), evc] <;> rfl) rfl) (checkM_any c m a1 a2 c1 c2 L D _ (Tc.later hS Tc.lt) (Lc.later hS) hfit (Dc.later hS) hfe) rfl hz (by decide) ?_
  rintro e y3 ⟨rfl, hb⟩
  refine ⟨_, rfl, (hS.trans (hb.mono hS.size)), fun A3x4_5 zz kk s27x => ?_⟩
  replace hS := hS.trans (hb.mono hS.size)
  clear hb
  replace s2 := kt kk s2
  replace s3 := kt kk s3
  replace s4 := kt kk s4
  replace s7 := kt kk s7
  replace s8 := kt kk s8
  replace s24 := kt kk s24
  clear kk hz s25 s26
  have hz := zz
  have s27 := s27x
  clear zz s27x A3x4_4
  refine vh_call 5 rfl (by kernel_rfl) (want_none rfl) (ex_call rfl (by simp only [List.map_toArray, List.map_cons, List.map_nil, (ev s27 rfl), evc] <;> rfl) rfl) (num7_any (ckM c m L D) _) rfl hz (by decide) ?_
  rintro e y_ ⟨rfl, hy_⟩; rw [hy_]; clear hy_ y_
  refine ⟨_, rfl, hS, fun A3x4_6 zz kk s28x => ?_⟩
  replace s2 := kt kk s2
  replace s3 := kt kk s3
  replace s4 := kt kk s4
  replace s7 := kt kk s7
  replace s8 := kt kk s8
  replace s24 := kt kk s24
  clear kk hz s27
  have hz := zz
  have s28 := s28x
  clear zz s28x A3x4_5
  refine vh_take 6 true (.bool false) rfl (by kernel_rfl) (by kernel_rfl) (by kernel_rfl) (want_none rfl) (fun hc v hv => ex_bin rfl (ev s24 rfl) (ev s28 rfl) (neqSelf _ _ _ _)) rfl hz (by decide) hS (fun A3x4_7 zz kk s29x => ?_)
  replace s2 := kt kk s2
  replace s3 := kt kk s3
  replace s4 := kt kk s4
  replace s7 := kt kk s7
  replace s8 := kt kk s8
  clear kk hz s24 s28
  have hz := zz
  have s29 := s29x
  clear zz s29x A3x4_6
  refine vh_done (by kernel_rfl) ?_
  replace Cc := Cc.bel hS
  replace hB := hB.trans (hS.mono hB.size)
  replace Mc := Mc.bel hS
  replace Lc := Lc.later hS
  replace Dc := Dc.later hS
  replace Fc := Fc.later hS
  replace Tc := Tc.later hS Tc.lt
  replace hsF := hsF.later hS
  clear hS
  go_upto_region 6 with fail
  refine wp_cond_false ((ev s29 rfl).trans rfl) ?_
  clear s29
  go_upto_region 6 with fail
  refine wp_region_lit ?_
  refine vt _ (ex_move rfl (ev s8 rfl)) hz (fun A4x6_1 zz kk s30x => ?_)
  replace s2 := kt kk s2
  replace s3 := kt kk s3
  replace s4 := kt kk s4
  replace s7 := kt kk s7
  replace s8 := kt kk s8
  clear kk hz
  have hz := zz
  have s30 := s30x
  clear zz s30x
  refine vcallP (want_none rfl) (ex_call rfl (by simp only [List.map_toArray, List.map_cons, List.map_nil, (ev s30 rfl), evc] <;> rfl) rfl) (num7_any (ckM c m L D) _) rfl hz (by decide) ?_
  rintro e y_ ⟨rfl, hy_⟩; rw [hy_]; clear hy_ y_
  refine ⟨_, rfl, fun A4x6_2 zz kk s31x => ?_⟩
  replace s2 := kt kk s2
  replace s3 := kt kk s3
  replace s4 := kt kk s4
  replace s7 := kt kk s7
  replace s8 := kt kk s8
  clear kk hz s30
  have hz := zz
  have s31 := s31x
  clear zz s31x A4x6_1
  refine vt (.bool (decide (ckM c m L D = 0))) (ex_bin rfl (ev s31 rfl) rfl (eqlC _ _ _ _ _)) hz (fun A4x6_3 zz kk s32x => ?_)
  replace s2 := kt kk s2
  replace s3 := kt kk s3
  replace s4 := kt kk s4
  replace s7 := kt kk s7
  replace s8 := kt kk s8
  clear kk hz s31
  have hz := zz
  have s32 := s32x
  clear zz s32x A4x6_2
  refine wpList_nil ?_
  go_upto_region 10 with fail
  refine v_cond (fun T v => T.size = 85 ∧ T[2]? = some (gw true (.slice a3 n3 c3)) ∧ T[3]? = some (gw true (.pointer (some ⟨w.heap.size, 0, none⟩))) ∧ Below y3.heap.size y3 v) s32 ?_ (fun _ => ⟨hz, s2, s3, Below.refl _ _⟩) ?_
  · intro hck
    have hck : ckM c m L D = 0 := of_decide_eq_true hck
    obtain ⟨⟨s0_, hdc⟩, hle, _⟩ := dc_back hck hfe hfit hd hds hll
    rw [hck] at s8
    have base := Below.refl y3.heap.size y3
    clear s32
    go_upto_region 7 with fail
    refine wp_region_lit ?_
    refine vt (.agg #[.int .i64 c.f, .int .i64 c.r, .int .i64 c.p, .bool c.u]) (ex_ld rfl (ev s3 rfl) (Cc.ldAll)) hz (fun A5x7_1 zz kk s34x => ?_)
    replace s2 := kt kk s2
    replace s3 := kt kk s3
    replace s4 := kt kk s4
    replace s7 := kt kk s7
    clear kk hz s8
    have hz := zz
    have s34 := s34x
    clear zz s34x
    refine vt _ (ex_move rfl (ev s7 rfl)) hz (fun A5x7_2 zz kk s35x => ?_)
    replace s2 := kt kk s2
    replace s3 := kt kk s3
    replace s4 := kt kk s4
    replace s7 := kt kk s7
    replace s34 := kt kk s34
    clear kk hz
    have hz := zz
    have s35 := s35x
    clear zz s35x A5x7_1
    refine vcallP (want_none rfl) (ex_call rfl (by simp only [List.map_toArray, List.map_cons, List.map_nil, (ev s34 rfl), (ev s35 rfl), evc] <;> rfl) rfl) (decode_ok c af nf cf _ _ m L D s0_ hdc hsF (by have := hsF.len; omega) Tc) rfl hz (by decide) ?_
    rintro e y4 ⟨sa, sc, ta, tc, rfl, hsl1, hsl2, hb⟩
    refine ⟨_, rfl, fun A5x7_3 zz kk s36x => ?_⟩
    replace Cc := Cc.bel hb
    replace hB := hB.trans (hb.mono hB.size)
    replace Mc := Mc.bel hb
    replace Lc := Lc.later hb
    replace Dc := Dc.later hb
    replace Fc := Fc.later hb
    replace Tc := Tc.later hb Tc.lt
    replace hsF := hsF.later hb
    replace base := base.trans (hb.mono base.size)
    clear hb
    obtain ⟨q, hq⟩ : ∃ q, q = y4.heap.size := ⟨_, rfl⟩
    obtain ⟨y5, hy5⟩ : ∃ y, y = y4.alloc (.cells (zG.cs nilS nilS).toArray 38) := ⟨_, rfl⟩
    have hb : Below y4.heap.size y4 y5 := by rw [hy5]; exact (Below.refl _ _).alloc (Nat.le_refl _) _
    have M5 : MBox y5 q zG nilS nilS := by rw [hy5, hq]; exact MBox.new0 y4
    replace s2 := kt kk s2
    replace s3 := kt kk s3
    replace s4 := kt kk s4
    replace s7 := kt kk s7
    clear kk hz s34 s35
    have hz := zz
    have s36 := s36x
    clear zz s36x A5x7_2
    refine vt _ (ex_move rfl (ev s36 rfl)) hz (fun A5x7_4 zz kk s33x => ?_)
    replace s2 := kt kk s2
    replace s3 := kt kk s3
    replace s4 := kt kk s4
    replace s7 := kt kk s7
    clear kk hz s36
    have hz := zz
    have s33 := s33x
    clear zz s33x A5x7_3
    refine vt (m.val (.slice sa L.length sc) (.slice ta D.length tc)) (ex_ext rfl (ev s33 rfl) rfl) hz (fun A5x7_5 zz kk s37x => ?_)
    replace s2 := kt kk s2
    replace s3 := kt kk s3
    replace s4 := kt kk s4
    replace s7 := kt kk s7
    replace s33 := kt kk s33
    clear kk hz
    have hz := zz
    have s37 := s37x
    clear zz s37x A5x7_4
    refine vt (.int .i64 0) (ex_ext rfl (ev s33 rfl) rfl) hz (fun A5x7_6 zz kk s38x => ?_)
    replace s2 := kt kk s2
    replace s3 := kt kk s3
    replace s4 := kt kk s4
    replace s7 := kt kk s7
    replace s37 := kt kk s37
    clear kk hz s33
    have hz := zz
    have s38 := s38x
    clear zz s38x A5x7_5
    refine vw (.pointer (some ⟨q, 0, none⟩)) y5 (want_none rfl) (ex_al rfl (by rw [hy5, hq]; exact alM _)) rfl hz (by decide) (fun A5x7_7 zz kk s9x => ?_)
    replace s2 := kt kk s2
    replace s3 := kt kk s3
    replace s4 := kt kk s4
    replace s7 := kt kk s7
    replace s37 := kt kk s37
    replace s38 := kt kk s38
    clear kk hz
    have hz := zz
    have s9 := s9x
    clear zz s9x A5x7_6
    refine vs (sets y5 q 0 (m.cs (.slice sa L.length sc) (.slice ta D.length tc))) (want_none rfl) (ex_st rfl (ev s9 rfl) (ev s37 rfl) (stM M5 m (.slice sa L.length sc) (.slice ta D.length tc) rfl rfl)) rfl ?_
    have SP := M5.putU m (.slice sa L.length sc) (.slice ta D.length tc)
    obtain ⟨y6, hy6⟩ : ∃ y, y = sets y5 q 0 (m.cs (.slice sa L.length sc) (.slice ta D.length tc)) := ⟨_, rfl⟩
    rw [← hy6] at SP ⊢
    clear hy6 hy5
    replace hb := hb.trans (SP.2.below hb.size (by omega))
    have Nc := SP.1
    clear SP M5
    replace Cc := Cc.bel hb
    replace hB := hB.trans (hb.mono hB.size)
    replace Mc := Mc.bel hb
    replace Lc := Lc.later hb
    replace Dc := Dc.later hb
    replace Fc := Fc.later hb
    replace Tc := Tc.later hb Tc.lt
    replace hsF := hsF.later hb
    replace base := base.trans (hb.mono base.size)
    replace hsl1 := hsl1.later hb
    replace hsl2 := hsl2.later hb
    clear hb
    refine vt _ (ex_assign rfl (ev s38 rfl)) hz (fun A5x7_8 zz kk s10x => ?_)
    replace s2 := kt kk s2
    replace s3 := kt kk s3
    replace s4 := kt kk s4
    replace s7 := kt kk s7
    replace s9 := kt kk s9
    clear kk hz s37 s38
    have hz := zz
    have s10 := s10x
    clear zz s10x A5x7_7
    refine wpList_nil ?_
    go_upto_region 8 with fail
    refine wp_region_lit ?_
    refine vt _ (ex_move rfl (ev s10 rfl)) hz (fun A6x8_1 zz kk s39x => ?_)
    replace s2 := kt kk s2
    replace s3 := kt kk s3
    replace s4 := kt kk s4
    replace s7 := kt kk s7
    replace s9 := kt kk s9
    clear kk hz s10
    have hz := zz
    have s39 := s39x
    clear zz s39x
    refine vcallP (want_none rfl) (ex_call rfl (by simp only [List.map_toArray, List.map_cons, List.map_nil, (ev s39 rfl), evc] <;> rfl) rfl) (num7_any 0 _) rfl hz (by decide) ?_
    rintro e y_ ⟨rfl, hy_⟩; rw [hy_]; clear hy_ y_
    refine ⟨_, rfl, fun A6x8_2 zz kk s40x => ?_⟩
    replace s2 := kt kk s2
    replace s3 := kt kk s3
    replace s4 := kt kk s4
    replace s7 := kt kk s7
    replace s9 := kt kk s9
    clear kk hz s39
    have hz := zz
    have s40 := s40x
    clear zz s40x A6x8_1
    refine vt (.bool false) (ex_bin rfl (ev s40 rfl) rfl (neq00 _ _ _)) hz (fun A6x8_3 zz kk s41x => ?_)
    replace s2 := kt kk s2
    replace s3 := kt kk s3
    replace s4 := kt kk s4
    replace s7 := kt kk s7
    replace s9 := kt kk s9
    clear kk hz s40
    have hz := zz
    have s41 := s41x
    clear zz s41x A6x8_2
    refine vt _ (ex_move rfl (ev s41 rfl)) hz (fun A6x8_4 zz kk s42x => ?_)
    replace s2 := kt kk s2
    replace s3 := kt kk s3
    replace s4 := kt kk s4
    replace s7 := kt kk s7
    replace s9 := kt kk s9
    clear kk hz s41
    have hz := zz
    have s42 := s42x
    clear zz s42x A6x8_3
    refine vl true (m.val (.slice sa L.length sc) (.slice ta D.length tc)) (want_k rfl rfl s42) (fun hc => ex_ld rfl (ev s9 rfl) (Nc.ldAll)) rfl hz (by decide) (fun A6x8_5 zz kk s43x => ?_)
    replace s2 := kt kk s2
    replace s3 := kt kk s3
    replace s4 := kt kk s4
    replace s7 := kt kk s7
    replace s9 := kt kk s9
    replace s42 := kt kk s42
    clear kk hz
    have hz := zz
    have s43 := s43x
    clear zz s43x A6x8_4
    refine vl true (m.val (.slice a1 L.length c1) (.slice a2 D.length c2)) (want_k rfl rfl s42) (fun hc => ex_ld rfl (ev s4 rfl) (Mc.ldAll)) rfl hz (by decide) (fun A6x8_6 zz kk s44x => ?_)
    replace s2 := kt kk s2
    replace s3 := kt kk s3
    replace s4 := kt kk s4
    replace s7 := kt kk s7
    replace s9 := kt kk s9
    replace s42 := kt kk s42
    replace s43 := kt kk s43
    clear kk hz
    have hz := zz
    have s44 := s44x
    clear zz s44x A6x8_5
    refine vcallP (want_k rfl rfl s42) (ex_call rfl (by simp only [List.map_toArray, List.map_cons, List.map_nil, (ev s43 rfl), (ev s44 rfl), evc] <;> rfl) rfl) (samemsg_eq m sa ta sc tc a1 a2 c1 c2 L D _ hsl1 hsl2 Lc Dc) rfl hz (by decide) ?_
    rintro e y7 ⟨rfl, hb⟩
    refine ⟨_, rfl, fun A6x8_7 zz kk s45x => ?_⟩
    replace Cc := Cc.bel hb
    replace hB := hB.trans (hb.mono hB.size)
    replace Mc := Mc.bel hb
    replace Lc := Lc.later hb
    replace Dc := Dc.later hb
    replace Fc := Fc.later hb
    replace Tc := Tc.later hb Tc.lt
    replace hsF := hsF.later hb
    replace base := base.trans (hb.mono base.size)
    replace hsl1 := hsl1.later hb
    replace hsl2 := hsl2.later hb
    replace Nc := Nc.bel hb
    clear hb
    replace s2 := kt kk s2
    replace s3 := kt kk s3
    replace s4 := kt kk s4
    replace s7 := kt kk s7
    replace s9 := kt kk s9
    replace s42 := kt kk s42
    clear kk hz s43 s44
    have hz := zz
    have s45 := s45x
    clear zz s45x A6x8_6
    refine vl true (.bool false) (want_k rfl rfl s42) (fun hc => ex_not rfl (ev s45 rfl)) rfl hz (by decide) (fun A6x8_8 zz kk s46x => ?_)
    replace s2 := kt kk s2
    replace s3 := kt kk s3
    replace s4 := kt kk s4
    replace s7 := kt kk s7
    replace s9 := kt kk s9
    replace s42 := kt kk s42
    clear kk hz s45
    have hz := zz
    have s46 := s46x
    clear zz s46x A6x8_7
    refine vt (.bool false) (ex_or rfl s42 s46 rfl) hz (fun A6x8_9 zz kk s47x => ?_)
    replace s2 := kt kk s2
    replace s3 := kt kk s3
    replace s4 := kt kk s4
    replace s7 := kt kk s7
    replace s9 := kt kk s9
    clear kk hz s42 s46
    have hz := zz
    have s47 := s47x
    clear zz s47x A6x8_8
    refine vt _ (ex_move rfl (ev s47 rfl)) hz (fun A6x8_10 zz kk s48x => ?_)
    replace s2 := kt kk s2
    replace s3 := kt kk s3
    replace s4 := kt kk s4
    replace s7 := kt kk s7
    replace s9 := kt kk s9
    clear kk hz s47
    have hz := zz
    have s48 := s48x
    clear zz s48x A6x8_9
    refine vl true (m.val (.slice sa L.length sc) (.slice ta D.length tc)) (want_k rfl rfl s48) (fun hc => ex_ld rfl (ev s9 rfl) (Nc.ldAll)) rfl hz (by decide) (fun A6x8_11 zz kk s49x => ?_)
    replace s2 := kt kk s2
    replace s3 := kt kk s3
    replace s4 := kt kk s4
    replace s7 := kt kk s7
    replace s48 := kt kk s48
    clear kk hz s9
    have hz := zz
    have s49 := s49x
    clear zz s49x A6x8_10
    refine vl true (m.val (.slice a1 L.length c1) (.slice a2 D.length c2)) (want_k rfl rfl s48) (fun hc => ex_ld rfl (ev s4 rfl) (Mc.ldAll)) rfl hz (by decide) (fun A6x8_12 zz kk s50x => ?_)
    replace s2 := kt kk s2
    replace s3 := kt kk s3
    replace s7 := kt kk s7
    replace s48 := kt kk s48
    replace s49 := kt kk s49
    clear kk hz s4
    have hz := zz
    have s50 := s50x
    clear zz s50x A6x8_11
    refine vcallP (want_k rfl rfl s48) (ex_call rfl (by simp only [List.map_toArray, List.map_cons, List.map_nil, (ev s49 rfl), (ev s50 rfl), evc] <;> rfl) rfl) (alike_eq m sa ta sc tc a1 a2 c1 c2 L D _ hsl1 hsl2 Lc Dc) rfl hz (by decide) ?_
    rintro e y8 ⟨rfl, hb⟩
    refine ⟨_, rfl, fun A6x8_13 zz kk s51x => ?_⟩
    replace Cc := Cc.bel hb
    replace hB := hB.trans (hb.mono hB.size)
    replace Mc := Mc.bel hb
    replace Lc := Lc.later hb
    replace Dc := Dc.later hb
    replace Fc := Fc.later hb
    replace Tc := Tc.later hb Tc.lt
    replace hsF := hsF.later hb
    replace base := base.trans (hb.mono base.size)
    replace hsl1 := hsl1.later hb
    replace hsl2 := hsl2.later hb
    replace Nc := Nc.bel hb
    clear hb
    replace s2 := kt kk s2
    replace s3 := kt kk s3
    replace s7 := kt kk s7
    replace s48 := kt kk s48
    clear kk hz s49 s50
    have hz := zz
    have s51 := s51x
    clear zz s51x A6x8_12
    refine vl true (.bool false) (want_k rfl rfl s48) (fun hc => ex_not rfl (ev s51 rfl)) rfl hz (by decide) (fun A6x8_14 zz kk s52x => ?_)
    replace s2 := kt kk s2
    replace s3 := kt kk s3
    replace s7 := kt kk s7
    replace s48 := kt kk s48
    clear kk hz s51
    have hz := zz
    have s52 := s52x
    clear zz s52x A6x8_13
    refine vt (.bool false) (ex_or rfl s48 s52 rfl) hz (fun A6x8_15 zz kk s53x => ?_)
    replace s2 := kt kk s2
    replace s3 := kt kk s3
    replace s7 := kt kk s7
    clear kk hz s48 s52
    have hz := zz
    have s53 := s53x
    clear zz s53x A6x8_14
    refine vt _ (ex_move rfl (ev s53 rfl)) hz (fun A6x8_16 zz kk s54x => ?_)
    replace s2 := kt kk s2
    replace s3 := kt kk s3
    replace s7 := kt kk s7
    clear kk hz s53
    have hz := zz
    have s54 := s54x
    clear zz s54x A6x8_15
    refine vl true _ (want_k rfl rfl s54) (fun hc => ex_move rfl (ev s7 rfl)) rfl hz (by decide) (fun A6x8_17 zz kk s55x => ?_)
    replace s2 := kt kk s2
    replace s3 := kt kk s3
    replace s54 := kt kk s54
    clear kk hz s7
    have hz := zz
    have s55 := s55x
    clear zz s55x A6x8_16
    refine vl true (.int .i64 (nf : Int)) (want_k rfl rfl s54) (fun hc => ex_len8 rfl rfl (ev s55 rfl)) rfl hz (by decide) (fun A6x8_18 zz kk s56x => ?_)
    replace s2 := kt kk s2
    replace s3 := kt kk s3
    replace s54 := kt kk s54
    clear kk hz s55
    have hz := zz
    have s56 := s56x
    clear zz s56x A6x8_17
    refine vl true (.bool (decide ((32768 : Int) < (nf : Int)))) (want_k rfl rfl s54) (fun hc => ex_bin rfl (ev s56 rfl) rfl (gtrC _ _ _ _ _)) rfl hz (by decide) (fun A6x8_19 zz kk s57x => ?_)
    replace s2 := kt kk s2
    replace s3 := kt kk s3
    replace s54 := kt kk s54
    clear kk hz s56
    have hz := zz
    have s57 := s57x
    clear zz s57x A6x8_18
    refine vt (.bool (false || (decide ((32768 : Int) < (nf : Int))))) (ex_or rfl s54 s57 rfl) hz (fun A6x8_20 zz kk s58x => ?_)
    replace s2 := kt kk s2
    replace s3 := kt kk s3
    clear kk hz s54 s57
    have hz := zz
    have s58 := s58x
    clear zz s58x A6x8_19
    refine wpList_nil ?_
    have hnf : ¬ (32768 : Int) < (nf : Int) := by have := hsF.len; omega
    have hnf2 : decide ((32768 : Int) < (nf : Int)) = false := decide_eq_false hnf
    rw [hnf2] at s58
    go_upto_region 9 with fail
    refine wp_cond_false ((ev s58 rfl).trans rfl) ?_
    refine wp_skip ?_
    exact ⟨_, rfl, hz, s2, s3, base⟩
  clear hz s2 s3 s4 s7 s8 s32
  rintro T9 y9 ⟨hz, s2, s3, hb⟩
  replace Cc := Cc.bel hb
  replace hB := hB.trans (hb.mono hB.size)
  replace Mc := Mc.bel hb
  replace Lc := Lc.later hb
  replace Dc := Dc.later hb
  replace Fc := Fc.later hb
  replace Tc := Tc.later hb Tc.lt
  replace hsF := hsF.later hb
  clear hb
  go_upto_region 10 with fail
  refine wp_region_lit ?_
  refine vt (.agg #[.int .i64 c.f, .int .i64 c.r, .int .i64 c.p, .bool c.u]) (ex_ld rfl (ev s3 rfl) (Cc.ldAll)) hz (fun A7x10_1 zz kk s60x => ?_)
  replace s2 := kt kk s2
  replace s3 := kt kk s3
  clear kk hz
  have hz := zz
  have s60 := s60x
  clear zz s60x
  refine vt _ (ex_move rfl (ev s2 rfl)) hz (fun A7x10_2 zz kk s61x => ?_)
  replace s2 := kt kk s2
  replace s3 := kt kk s3
  replace s60 := kt kk s60
  clear kk hz
  have hz := zz
  have s61 := s61x
  clear zz s61x A7x10_1
  refine vcallP (want_none rfl) (ex_call rfl (by simp only [List.map_toArray, List.map_cons, List.map_nil, (ev s60 rfl), (ev s61 rfl), evc] <;> rfl) rfl) (decode_sl c a3 n3 c3 f _ Fc hn3 Tc) rfl hz (by decide) ?_
  rintro e z1 ⟨ua, uc, va, vc, rfl, hu1, hu2, hb⟩
  refine ⟨_, rfl, fun A7x10_3 zz kk s62x => ?_⟩
  replace Cc := Cc.bel hb
  replace hB := hB.trans (hb.mono hB.size)
  replace Mc := Mc.bel hb
  replace Lc := Lc.later hb
  replace Dc := Dc.later hb
  replace Fc := Fc.later hb
  replace Tc := Tc.later hb Tc.lt
  replace hsF := hsF.later hb
  clear hb
  obtain ⟨q2, hq2⟩ : ∃ q, q = z1.heap.size := ⟨_, rfl⟩
  obtain ⟨z2, hz2⟩ : ∃ y, y = z1.alloc (.cells (zG.cs nilS nilS).toArray 38) := ⟨_, rfl⟩
  have hb : Below z1.heap.size z1 z2 := by rw [hz2]; exact (Below.refl _ _).alloc (Nat.le_refl _) _
  have M5 : MBox z2 q2 zG nilS nilS := by rw [hz2, hq2]; exact MBox.new0 z1
  replace s2 := kt kk s2
  replace s3 := kt kk s3
  clear kk hz s60 s61
  have hz := zz
  have s62 := s62x
  clear zz s62x A7x10_2
  refine vt _ (ex_move rfl (ev s62 rfl)) hz (fun A7x10_4 zz kk s59x => ?_)
  replace s2 := kt kk s2
  replace s3 := kt kk s3
  clear kk hz s62
  have hz := zz
  have s59 := s59x
  clear zz s59x A7x10_3
  refine vt ((dcM c f).1.m.val (.slice ua (dcM c f).1.L.length uc) (.slice va (dcM c f).1.D.length vc)) (ex_ext rfl (ev s59 rfl) rfl) hz (fun A7x10_5 zz kk s63x => ?_)
  replace s2 := kt kk s2
  replace s3 := kt kk s3
  replace s59 := kt kk s59
  clear kk hz
  have hz := zz
  have s63 := s63x
  clear zz s63x A7x10_4
  refine vt (.int .i64 (dcM c f).2) (ex_ext rfl (ev s59 rfl) rfl) hz (fun A7x10_6 zz kk s64x => ?_)
  replace s2 := kt kk s2
  replace s3 := kt kk s3
  replace s63 := kt kk s63
  clear kk hz s59
  have hz := zz
  have s64 := s64x
  clear zz s64x A7x10_5
  refine vw (.pointer (some ⟨q2, 0, none⟩)) z2 (want_none rfl) (ex_al rfl (by rw [hz2, hq2]; exact alM _)) rfl hz (by decide) (fun A7x10_7 zz kk s11x => ?_)
  replace s2 := kt kk s2
  replace s3 := kt kk s3
  replace s63 := kt kk s63
  replace s64 := kt kk s64
  clear kk hz
  have hz := zz
  have s11 := s11x
  clear zz s11x A7x10_6
  refine vs (sets z2 q2 0 ((dcM c f).1.m.cs (.slice ua (dcM c f).1.L.length uc) (.slice va (dcM c f).1.D.length vc))) (want_none rfl) (ex_st rfl (ev s11 rfl) (ev s63 rfl) (stM M5 (dcM c f).1.m (.slice ua (dcM c f).1.L.length uc) (.slice va (dcM c f).1.D.length vc) rfl rfl)) rfl ?_
  have SP := M5.putU (dcM c f).1.m (.slice ua (dcM c f).1.L.length uc) (.slice va (dcM c f).1.D.length vc)
  obtain ⟨z3, hz3⟩ : ∃ y, y = sets z2 q2 0 ((dcM c f).1.m.cs (.slice ua (dcM c f).1.L.length uc) (.slice va (dcM c f).1.D.length vc)) := ⟨_, rfl⟩
  rw [← hz3] at SP ⊢
  clear hz3 hz2
  replace hb := hb.trans (SP.2.below hb.size (by omega))
  have Nc := SP.1
  clear SP M5
  replace Cc := Cc.bel hb
  replace hB := hB.trans (hb.mono hB.size)
  replace Mc := Mc.bel hb
  replace Lc := Lc.later hb
  replace Dc := Dc.later hb
  replace Fc := Fc.later hb
  replace Tc := Tc.later hb Tc.lt
  replace hsF := hsF.later hb
  replace hu1 := hu1.later hb
  replace hu2 := hu2.later hb
  clear hb
  refine vt _ (ex_assign rfl (ev s64 rfl)) hz (fun A7x10_8 zz kk s12x => ?_)
  replace s2 := kt kk s2
  replace s3 := kt kk s3
  replace s11 := kt kk s11
  clear kk hz s63 s64
  have hz := zz
  have s12 := s12x
  clear zz s12x A7x10_7
  refine wpList_nil ?_
  go_upto_region 11 with fail
  refine wp_region_lit ?_
  refine vt _ (ex_move rfl (ev s12 rfl)) hz (fun A8x11_1 zz kk s65x => ?_)
  replace s2 := kt kk s2
  replace s3 := kt kk s3
  replace s11 := kt kk s11
  replace s12 := kt kk s12
  clear kk hz
  have hz := zz
  have s65 := s65x
  clear zz s65x
  refine vcallP (want_none rfl) (ex_call rfl (by simp only [List.map_toArray, List.map_cons, List.map_nil, (ev s65 rfl), evc] <;> rfl) rfl) (num7_any (dcM c f).2 _) rfl hz (by decide) ?_
  rintro e y_ ⟨rfl, hy_⟩; rw [hy_]; clear hy_ y_
  refine ⟨_, rfl, fun A8x11_2 zz kk s66x => ?_⟩
  replace s2 := kt kk s2
  replace s3 := kt kk s3
  replace s11 := kt kk s11
  replace s12 := kt kk s12
  clear kk hz s65
  have hz := zz
  have s66 := s66x
  clear zz s66x A8x11_1
  refine vt (.bool (!decide ((dcM c f).2 = 0))) (ex_bin rfl (ev s66 rfl) rfl (neqC _ _ _ _ _)) hz (fun A8x11_3 zz kk s67x => ?_)
  replace s2 := kt kk s2
  replace s3 := kt kk s3
  replace s11 := kt kk s11
  replace s12 := kt kk s12
  clear kk hz s66
  have hz := zz
  have s67 := s67x
  clear zz s67x A8x11_2
  refine wpList_nil ?_
  go_upto_region 13 with fail
  cases e5 : decide ((dcM c f).2 = 0)
  · rw [e5] at s67
    refine wp_cond_true ((ev s67 rfl).trans rfl) ?_
    have hbad := dc_bad (of_decide_eq_false e5)
    clear s67 e5
    go_upto_region 12 with fail
    refine wp_region_lit ?_
    refine vt ((dcM c f).1.m.val (.slice ua (dcM c f).1.L.length uc) (.slice va (dcM c f).1.D.length vc)) (ex_ld rfl (ev s11 rfl) (Nc.ldAll)) hz (fun A9x12_1 zz kk s68x => ?_)
    clear kk hz s2 s3 s11 s12
    have hz := zz
    have s68 := s68x
    clear zz s68x
    refine vt (zG.val nilS nilS) (ex_build rfl (bdM0 _)) hz (fun A9x12_2 zz kk s69x => ?_)
    replace s68 := kt kk s68
    clear kk hz
    have hz := zz
    have s69 := s69x
    clear zz s69x A9x12_1
    refine vcallP (want_none rfl) (ex_call rfl (by simp only [List.map_toArray, List.map_cons, List.map_nil, (ev s68 rfl), (ev s69 rfl), evc] <;> rfl) rfl) (same_zero hbad hu1 hu2) rfl hz (by decide) ?_
    rintro e z4 ⟨rfl, hb⟩
    refine ⟨_, rfl, fun A9x12_3 zz kk s70x => ?_⟩
    replace Cc := Cc.bel hb
    replace hB := hB.trans (hb.mono hB.size)
    replace Mc := Mc.bel hb
    replace Lc := Lc.later hb
    replace Dc := Dc.later hb
    replace Fc := Fc.later hb
    replace Tc := Tc.later hb Tc.lt
    replace hsF := hsF.later hb
    replace hu1 := hu1.later hb
    replace hu2 := hu2.later hb
    replace Nc := Nc.bel hb
    clear hb
    clear kk hz s68 s69
    have hz := zz
    have s70 := s70x
    clear zz s70x A9x12_2
    refine vt _ (ex_assign rfl (ev s70 rfl)) hz (fun A9x12_4 zz kk s6x => ?_)
    clear kk hz s70
    have hz := zz
    have s6 := s6x
    clear zz s6x A9x12_3
    refine wpList_nil ?_
    go_wp2
    refine bodyPost_ret (results_tmp rfl _ _ _) rfl ⟨?_, hB⟩
    rw [getD_of s6]
    rfl
  rw [e5] at s67
  refine wp_cond_false ((ev s67 rfl).trans rfl) ?_
  have hok := of_decide_eq_true e5
  obtain ⟨hk0, hef⟩ := en_back Fc.byte hok
  have hbyd := dc_dF c Fc.byte
  have hfd := dc_L c f
  clear s67 e5
  go_upto_region 13 with fail
  refine wp_region_lit ?_
  refine vt (.agg #[.int .i64 c.f, .int .i64 c.r, .int .i64 c.p, .bool c.u]) (ex_ld rfl (ev s3 rfl) (Cc.ldAll)) hz (fun A10x13_1 zz kk s72x => ?_)
  replace s2 := kt kk s2
  replace s11 := kt kk s11
  clear kk hz s3 s12
  have hz := zz
  have s72 := s72x
  clear zz s72x
  refine vt ((dcM c f).1.m.val (.slice ua (dcM c f).1.L.length uc) (.slice va (dcM c f).1.D.length vc)) (ex_ld rfl (ev s11 rfl) (Nc.ldAll)) hz (fun A10x13_2 zz kk s73x => ?_)
  replace s2 := kt kk s2
  replace s72 := kt kk s72
  clear kk hz s11
  have hz := zz
  have s73 := s73x
  clear zz s73x A10x13_1
  refine vcallP (want_none rfl) (ex_call rfl (by simp only [List.map_toArray, List.map_cons, List.map_nil, (ev s72 rfl), (ev s73 rfl), evc] <;> rfl) rfl) (encode_back c (dcM c f).1.m ua va uc vc (dcM c f).1.L (dcM c f).1.D f _ hk0 hef Tc hu1 hfd.1 hu2 hfd.2 hbyd.1 hbyd.2 Fc.byte) rfl hz (by decide) ?_
  rintro e z5 ⟨ah, nh, ch, rfl, hsH, hb⟩
  refine ⟨_, rfl, fun A10x13_3 zz kk s74x => ?_⟩
  replace Cc := Cc.bel hb
  replace hB := hB.trans (hb.mono hB.size)
  replace Mc := Mc.bel hb
  replace Lc := Lc.later hb
  replace Dc := Dc.later hb
  replace Fc := Fc.later hb
  replace Tc := Tc.later hb Tc.lt
  replace hsF := hsF.later hb
  replace hu1 := hu1.later hb
  replace hu2 := hu2.later hb
  replace Nc := Nc.bel hb
  clear hb
  replace s2 := kt kk s2
  clear kk hz s72 s73
  have hz := zz
  have s74 := s74x
  clear zz s74x A10x13_2
  refine vt _ (ex_move rfl (ev s74 rfl)) hz (fun A10x13_4 zz kk s71x => ?_)
  replace s2 := kt kk s2
  clear kk hz s74
  have hz := zz
  have s71 := s71x
  clear zz s71x A10x13_3
  refine vt (.slice ah nh ch) (ex_ext rfl (ev s71 rfl) rfl) hz (fun A10x13_5 zz kk s75x => ?_)
  replace s2 := kt kk s2
  replace s71 := kt kk s71
  clear kk hz
  have hz := zz
  have s75 := s75x
  clear zz s75x A10x13_4
  refine vt (.int .i64 0) (ex_ext rfl (ev s71 rfl) rfl) hz (fun A10x13_6 zz kk s76x => ?_)
  replace s2 := kt kk s2
  replace s75 := kt kk s75
  clear kk hz s71
  have hz := zz
  have s76 := s76x
  clear zz s76x A10x13_5
  refine vt _ (ex_assign rfl (ev s75 rfl)) hz (fun A10x13_7 zz kk s13x => ?_)
  replace s2 := kt kk s2
  replace s76 := kt kk s76
  clear kk hz s75
  have hz := zz
  have s13 := s13x
  clear zz s13x A10x13_6
  refine vt _ (ex_assign rfl (ev s76 rfl)) hz (fun A10x13_8 zz kk s14x => ?_)
  replace s2 := kt kk s2
  replace s13 := kt kk s13
  clear kk hz s76
  have hz := zz
  have s14 := s14x
  clear zz s14x A10x13_7
  refine wpList_nil ?_
  go_upto_region 14 with fail
  refine wp_region_lit ?_
  refine vt _ (ex_move rfl (ev s14 rfl)) hz (fun A11x14_1 zz kk s77x => ?_)
  replace s2 := kt kk s2
  replace s13 := kt kk s13
  clear kk hz s14
  have hz := zz
  have s77 := s77x
  clear zz s77x
  refine vcallP (want_none rfl) (ex_call rfl (by simp only [List.map_toArray, List.map_cons, List.map_nil, (ev s77 rfl), evc] <;> rfl) rfl) (num7_any 0 _) rfl hz (by decide) ?_
  rintro e y_ ⟨rfl, hy_⟩; rw [hy_]; clear hy_ y_
  refine ⟨_, rfl, fun A11x14_2 zz kk s78x => ?_⟩
  replace s2 := kt kk s2
  replace s13 := kt kk s13
  clear kk hz s77
  have hz := zz
  have s78 := s78x
  clear zz s78x A11x14_1
  refine vt (.bool true) (ex_bin rfl (ev s78 rfl) rfl (eq00 _ _ _)) hz (fun A11x14_3 zz kk s79x => ?_)
  replace s2 := kt kk s2
  replace s13 := kt kk s13
  clear kk hz s78
  have hz := zz
  have s79 := s79x
  clear zz s79x A11x14_2
  refine vt _ (ex_move rfl (ev s79 rfl)) hz (fun A11x14_4 zz kk s80x => ?_)
  replace s2 := kt kk s2
  replace s13 := kt kk s13
  clear kk hz s79
  have hz := zz
  have s80 := s80x
  clear zz s80x A11x14_3
  refine vl true _ (want_t rfl rfl s80) (fun hc => ex_move rfl (ev s13 rfl)) rfl hz (by decide) (fun A11x14_5 zz kk s81x => ?_)
  replace s2 := kt kk s2
  replace s80 := kt kk s80
  clear kk hz s13
  have hz := zz
  have s81 := s81x
  clear zz s81x A11x14_4
  refine vl true _ (want_t rfl rfl s80) (fun hc => ex_move rfl (ev s2 rfl)) rfl hz (by decide) (fun A11x14_6 zz kk s82x => ?_)
  replace s80 := kt kk s80
  replace s81 := kt kk s81
  clear kk hz s2
  have hz := zz
  have s82 := s82x
  clear zz s82x A11x14_5
  refine vcallP (want_t rfl rfl s80) (ex_call rfl (by simp only [List.map_toArray, List.map_cons, List.map_nil, (ev s81 rfl), (ev s82 rfl), evc] <;> rfl) rfl) (same_eq ah a3 nh ch n3 c3 f _ hsH Fc) rfl hz (by decide) ?_
  rintro e y_ ⟨rfl, hy_⟩; rw [hy_]; clear hy_ y_
  refine ⟨_, rfl, fun A11x14_7 zz kk s83x => ?_⟩
  replace s80 := kt kk s80
  clear kk hz s81 s82
  have hz := zz
  have s83 := s83x
  clear zz s83x A11x14_6
  refine vt (.bool true) (ex_andT rfl s80 s83) hz (fun A11x14_8 zz kk s84x => ?_)
  clear kk hz s80 s83
  have hz := zz
  have s84 := s84x
  clear zz s84x A11x14_7
  refine vt _ (ex_assign rfl (ev s84 rfl)) hz (fun A11x14_9 zz kk s6x => ?_)
  clear kk hz s84
  have hz := zz
  have s6 := s6x
  clear zz s6x A11x14_8
  refine wpList_nil ?_
  go_wp2
  refine bodyPost_ret (results_tmp rfl _ _ _) rfl ⟨?_, hB⟩
  rw [getD_of s6]
  rfl
end Go.Proofs.YtabiimmpjllcpaaDoor
namespace Go.Proofs.YtabiimmpjllcpaaDoor
open Go.ChangeShapes Go.WideShapes Go.ChangeAt Go.RowKit
set_option linter.unusedVariables false
def yBy : Lay Int := ⟨5, 39, 1, 1, fun x => [.int .u8 x], 0⟩
theorem kBy : yBy.Ok := ⟨by decide, fun x => rfl, fun x u h => by
    simp [yBy] at h
    rw [h]; rfl, Tryd.underlying39, ⟨.int .u8 0, by kernel_rfl, rfl⟩⟩
theorem SlY.hs {w : World} {a : Option Addr} {n c : Nat} {l : List Int} (h : SlY yBy w a n c l) (hb : ∀ z ∈ l, 0 ≤ z ∧ z < 256) : Wi.Hs w a n c l :=
  ⟨h.len, h.cap, fun x hx i hi => by
    rcases h.at_ x hx with rfl | ⟨q, o, rfl, _, hl⟩
    · simp at hi
    · have := hl i l[i] (List.getElem?_eq_getElem hi) 0 (.int .u8 l[i]) rfl
      rw [Addr.add_lit]
      rw [show o + i * yBy.k + 0 = o + i from congrArg (o + ·) (Nat.mul_one i)] at this
      rw [show l.getD i 0 = l[i] by simp [List.getD_eq_getElem?_getD, List.getElem?_eq_getElem hi]]
      exact this, fun hx => ⟨List.eq_nil_of_length_eq_zero (by rw [h.len]; exact (h.nil hx).1), (h.nil hx).2⟩, hb⟩
set_option maxRecDepth 100000 in
theorem open_rowsN {α : Type} {Y : Lay α} (K : Y.Ok) [Inhabited α] (fits : α → Prop) {H : Type} {enc : TypeId × Value → H} {W : World} {base : Nat} {v : Value} {d : DataW H} {p : List MemPlace} (hT : Tryd.prog.cellsOf Y.T = Y.k)
    (el : ∀ {n : Nat} {cs : List Value} {x : DataW H × List MemPlace}, DataW.trod enc Tryd.prog W 0 (fun _ => true) true n Y.T cs = some x → ∃ q : α, fits q ∧ cs = Y.cs q)
    (hv : Value.okWide Tryd.prog W .any base Y.ST v) (h : DataW.Trod enc Tryd.prog W 0 (fun _ => true) true Y.ST v d p) :
    ∃ a len cap, v = .slice a len cap ∧ ∃ P : List α, SlY Y W a len cap P ∧ (∀ q ∈ P, fits q) ∧ (∃ el sp : List (DataW H), el.length = len ∧ el.length ≤ el.length + sp.length ∧ (len = 0 ∨ d = .slice el sp)) := by
  obtain ⟨a, n, c, rfl⟩ := okWide_slice K.und hv
  refine ⟨a, n, c, rfl, ?_⟩
  obtain ⟨fuel, h⟩ := h
  simp only [Value.cells] at h
  rcases Go.Deep.open_slice K.und h with ⟨hcs, hx⟩ | ⟨y, ln, cp, m, k, D, Pl, hcs, hb, hl, hm, hmm, hx, hall⟩
  · have e := (List.cons_eq_cons.1 hcs).1
    cases e
    exact ⟨[], ⟨rfl, Nat.le_refl _, by unfold maxLen; omega, fun _ => ⟨rfl, rfl⟩, fun x hx => .inl rfl⟩, by simp, [], [], rfl, Nat.le_refl _, .inl rfl⟩
  · have e := (List.cons_eq_cons.1 hcs).1
    cases e
    have hlm : n ≤ m := by rw [hmm]; split <;> omega
    have each : ∀ i, i < n → ∃ q : α, fits q ∧ (∀ j, j < Y.k → W.cell? ((y.add (i * Y.k)).add j) = (Y.cs q)[j]?) := by
      intro i hi
      obtain ⟨cs', h1, h2⟩ := hall i (by omega)
      rw [hT] at h1
      obtain ⟨q, hf, rfl⟩ := el h2
      obtain ⟨_, _, hcell⟩ := World.cells?_some h1
      exact ⟨q, hf, hcell⟩
    obtain ⟨q, hq⟩ := Go.Deep.choose_lt each
    have hd := congrArg Prod.fst hx
    refine ⟨(List.range n).map q, ⟨by simp, hl, hm, (fun e => by cases e), fun x hx => ?_⟩, ?_, ?_⟩
    · cases hx
      by_cases hn0 : n = 0
      · subst hn0
        exact .inl rfl
      · obtain ⟨b, o, s⟩ := y
        have z0 := (hq 0 (by omega)).2 0 K.kp
        have z1 := z0.trans (List.getElem?_eq_getElem (by rw [K.len]; exact K.kp))
        have hs := World.cell?_spot z1
        obtain rfl : s = none := by
          rw [Nat.zero_mul] at hs
          simpa [Addr.add] using hs
        refine .inr ⟨b, o, rfl, ?_, fun i x hx j u hu => ?_⟩
        · rw [Addr.add_lit, Addr.add_lit] at z1
          exact World.block_lt_of_cell? _ _ z1
        · have hi : i < n := by
            have := (List.getElem?_eq_some_iff.1 hx).1
            simpa using this
          have e : q i = x := by
            simp [hi] at hx
            exact hx
          subst e
          have hj : j < Y.k := by have := (List.getElem?_eq_some_iff.1 hu).1; rwa [K.len] at this
          have := (hq i hi).2 j hj
          rw [Addr.add_lit, Addr.add_lit] at this
          exact this.trans hu
    · intro z hz
      obtain ⟨i, hi, rfl⟩ := List.mem_map.1 hz
      exact (hq i (List.mem_range.1 hi)).1
    · dsimp only at hd
      exact ⟨_, _, by simp, Nat.le_add_right _ _, .inr hd⟩
theorem byCells : Tryd.prog.cellsOf 5 = 1 := by kernel_rfl
theorem byBytes : Tryd.prog.bytesOf 5 = 1 := by kernel_rfl
def CameBy (W : World) (a : Option Addr) (len cap : Nat) : Prop := ∃ P : List Int, SlY yBy W a len cap P ∧ (∀ z ∈ P, 0 ≤ z ∧ z < 256) ∧ len ≤ 140737488351232
theorem u8_range {z : Int} (h : (Lit.int .u8 z).wf = true) : 0 ≤ z ∧ z < 256 := by
  simp [Lit.wf, IntKind.min, IntKind.max, IntKind.bits, IntKind.signed] at h
  omega
set_option maxRecDepth 100000 in
theorem open_by {H : Type} {enc : TypeId × Value → H} {W : World} {base : Nat} {v : Value} {d : DataW H} {p : List MemPlace} (hv : Value.okWide Tryd.prog W .any base 39 v) (h : DataW.Trod enc Tryd.prog W 0 (fun _ => true) true 39 v d p)
    (hs : ∀ el sp, d = .slice el sp → (el.length + sp.length) * Tryd.prog.bytesOf 5 ≤ reachBytes) : ∃ a len cap, v = .slice a len cap ∧ CameBy W a len cap := by
  obtain ⟨a, n, c, rfl, P, h1, h2, el, sp, e1, _, e3⟩ := open_rowsN kBy (fun z => 0 ≤ z ∧ z < 256) byCells (fun h => by
    obtain ⟨K, hK, _, hw⟩ := DataW.trod_int Tryd.underlying5 h
    exact ⟨K, u8_range hw, hK⟩) hv h
  refine ⟨a, n, c, rfl, P, h1, h2, ?_⟩
  rcases e3 with e3 | e3
  · omega
  · have := hs el sp e3
    rw [byBytes, e1] at this
    simp only [reachBytes] at this
    omega
end Go.Proofs.YtabiimmpjllcpaaDoor
namespace Go.Proofs.YtabiimmpjllcpaaDoor
open Go.RowKit Go.Maps
open Classical
set_option linter.unusedVariables false
theorem back_came7 (c : Cf) (m : Mg) (a1 : Option Addr) (n1 c1 : Nat) (a2 : Option Addr) (n2 c2 : Nat) (a3 : Option Addr) (n3 c3 : Nat) (w : World) (h : CameM w m a1 n1 c1 a2 n2 c2) (hf : CameBy w a3 n3 c3) (hT : Tab w) :
    Calls Tryd.prog 3 #[c.val, m.val (.slice a1 n1 c1) (.slice a2 n2 c2), .slice a3 n3 c3] w fun e w' => e = .returned (.bool true) ∧ Below w.heap.size w w' := by
  obtain ⟨hm, ⟨L, h1, hfi, k1⟩, D, h2, hds, k2⟩ := h
  obtain ⟨f, hF, hby, hn⟩ := hf
  obtain rfl := h1.len
  obtain rfl := h2.len
  exact law_back7 c m a1 a2 c1 c2 L D a3 n3 c3 f w hT h1 hfi h2 hm.2.2.2.1 (drF_wf hm.2.2.2.2.2.2.2.2) (fun d hd => drF_wf (hds d hd)) k1 (hF.hs hby) (by omega)
end Go.Proofs.YtabiimmpjllcpaaDoor
