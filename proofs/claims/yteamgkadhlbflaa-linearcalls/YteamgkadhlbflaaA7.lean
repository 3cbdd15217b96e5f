import Derived.Laws.BytesArg
import Derived.Test.YteamgkadhlbflaaA6
set_option maxRecDepth 100000
set_option linter.unusedVariables false
set_option linter.unusedSimpArgs false
namespace Go.Proofs.Yteamgkadhlbflaa
open Go.RowKit Go.Maps
open Classical
def yB73 : Lay Int := ⟨5, 78, 1, 1, fun x => [.int .u8 x], 0⟩
theorem kB73 : yB73.Ok := ⟨by decide, fun x => rfl, fun x u h => by
    simp [yB73] at h
    rcases h with rfl <;> rfl, Try.underlying78, ⟨.int .u8 0, by kernel_rfl, rfl⟩⟩
def pkC (f t : Int) (v : Value) : List Value := [.int .i64 f, .int .i64 t, v]
theorem info3p : (Try.prog.info? 80).map (·.size) = some 3 := by kernel_rfl
theorem onePk (f t : Int) (a : Option Addr) (n c : Nat) : (pkC f t (.slice a n c)).toArray.all (·.oneCell') = true := by
  rw [Array.all_eq_true_iff_forall_mem]
  intro u hu
  simp only [pkC, List.mem_toArray, List.mem_cons, List.not_mem_nil, or_false] at hu
  rcases hu with rfl | rfl | rfl <;> rfl
theorem bxPk (f t : Int) (a : Option Addr) (n c : Nat) (w : World) : (Instr.box 80 (.agg #[.int .i64 f, .int .i64 t, .slice a n c])).run Try.prog w = .ok (.pointer (some ⟨w.heap.size, 0, none⟩)) (w.alloc (.cells (pkC f t (.slice a n c)).toArray 80)) := by
  unfold pkC
  go_simp
theorem alPk (w : World) : (Instr.alloc 80 true (.tuple #[])).run Try.prog w = .ok (.pointer (some ⟨w.heap.size, 0, none⟩)) (w.alloc (.cells (pkC 0 0 (.slice none 0 0)).toArray 80)) := by kernel_rfl
theorem faPk2 (q : Nat) (w : World) : (Instr.fieldAt 80 (.pointer (some ⟨q, 0, none⟩)) 2).run Try.prog w = .ok (.pointer (some ⟨q, 2, none⟩)) w := by go_simp
theorem ldB73 {w : World} {q o : Nat} {a : Option Addr} {n c : Nat} (h : w.cell? ⟨q, o, none⟩ = some (.slice a n c)) : (Instr.loadAt 78 (.pointer (some ⟨q, o, none⟩))).run Try.prog w = .ok (.slice a n c) w := by go_simp
theorem stB73 {w : World} {q o : Nat} {u : Value} {a : Option Addr} {n c : Nat} (h : w.cell? ⟨q, o, none⟩ = some u) (hf : w.frozen? ⟨q, o, none⟩ = false) : (Instr.storeAt 78 (.pointer (some ⟨q, o, none⟩)) (.slice a n c)).run Try.prog w = .ok () (w.setCell ⟨q, o, none⟩ (.slice a n c)) := by go_simp
theorem ldEn73 {w : World} {q o : Nat} {a : Option Addr} {n c : Nat} (h : w.cell? ⟨q, o, none⟩ = some (.slice a n c)) : (Instr.loadAt 77 (.pointer (some ⟨q, o, none⟩))).run Try.prog w = .ok (.slice a n c) w := by go_simp
theorem stEn73 {w : World} {q o : Nat} {u : Value} {a : Option Addr} {n c : Nat} (h : w.cell? ⟨q, o, none⟩ = some u) (hf : w.frozen? ⟨q, o, none⟩ = false) : (Instr.storeAt 77 (.pointer (some ⟨q, o, none⟩)) (.slice a n c)).run Try.prog w = .ok () (w.setCell ⟨q, o, none⟩ (.slice a n c)) := by go_simp
set_option maxHeartbeats 2000000 in
theorem copyBytes73 (l : List Int) (a : Option Addr) (c : Nat) (w : World) (h : SlY yB73 w a l.length c l) (hb : l.length ≤ 140737488355328) :
    Calls Try.prog 52 #[.slice a l.length c] w fun e w' => ∃ v, e = .returned v ∧ OwnY yB73 w.heap.size w' v l ∧ Below w.heap.size w w' := by
  go_enter Try.func52, Try.ntmps52
  go_upto_region 0 with fail
  refine wp_region_lit ?_
  refine vl_gen (fun T => Rp T 5 [(0, gw true (.slice a l.length c))]) ((Rp.nil rfl).cons rfl) (fun Z0 q0 => ?_)
  refine q0.t (.slice none 0 0) (ex_assign rfl rfl) fun _ q1 => ?_;clear q0
  refine wpList_nil ?_
  go_upto_region 1 with fail
  refine wp_region_lit ?_
  refine q1.t (.slice a l.length c) (ex_move rfl (q1.e (j := 0) rfl)) fun _ q2 => ?_;clear q1
  obtain ⟨v1, w1, ha1, o1, g1, _⟩ := run_appY kB73 w 78 w.heap.size [] (.slice none 0 0) a l.length c l h (OwnY.nil _ _ _) (Nat.le_refl _) (by show 0 + l.length ≤ maxLen; unfold maxLen; omega) (by show (0 + l.length) * 1 ≤ _; omega)
  have o1 : OwnY yB73 w.heap.size w1 v1 l := o1
  have b1 : Below w.heap.size w w1 := (gupd63 g1).below (Nat.le_refl _) (fun k hk => by cases hk)
  refine vw (v1) w1 (want_none rfl) (ex_app18 rfl rfl (q2.e (j := 3) rfl) ha1) rfl q2.z (by decide) (q2.k fun _ q3 => ?_);clear q2
  refine q3.t (v1) (ex_assign rfl (q3.e (j := 4) rfl)) fun _ q4 => ?_;clear q3
  refine wpList_nil ?_
  go_wp2
  refine bodyPost_ret (results_tmp rfl _ _ _) rfl ?_
  rw [getD_of (q4.a 2 rfl)]
  exact ⟨v1, rfl, o1, b1⟩
set_option maxHeartbeats 2000000 in
theorem copyPacket73 (f t : Int) (l : List Int) (a : Option Addr) (c : Nat) (w : World) (h : SlY yB73 w a l.length c l) (hb : l.length ≤ 140737488355328) :
    Calls Try.prog 25 #[.agg #[.int .i64 f, .int .i64 t, .slice a l.length c]] w fun e w' => ∃ v, e = .returned (.agg (pkC f t v).toArray) ∧ OwnY yB73 w.heap.size w' v l ∧ Below w.heap.size w w' := by
  go_enter Try.func25, Try.ntmps25
  go_upto_region 0 with fail
  refine wp_region_lit ?_
  refine vl_gen (fun T => Rp T 8 [(0, gw true (.agg #[.int .i64 f, .int .i64 t, .slice a l.length c]))]) ((Rp.nil rfl).cons rfl) (fun Z0 q0 => ?_)
  obtain ⟨w1, hw1⟩ : ∃ y, y = w.alloc (.cells (pkC f t (.slice a l.length c)).toArray 80) := ⟨_, rfl⟩
  refine vw (.pointer (some ⟨w.heap.size, 0, none⟩)) w1 (want_none rfl) (ex_box18 rfl (q0.e (j := 0) rfl) (by rw [hw1]; exact bxPk _ _ _ _ _ _)) rfl q0.z (by decide) (q0.k fun _ q1 => ?_);clear q0
  have Bw1 : BB w1 w.heap.size 80 (pkC f t (.slice a l.length c)) := by rw [hw1]; exact BB.new _ _ _
  have bw1 : Below w.heap.size w w1 := by rw [hw1]; exact (Below.refl _ _).alloc (Nat.le_refl _) _
  have zw1 : w1.heap.size = w.heap.size + 1 := by rw [hw1]; exact World.size_alloc _ _
  clear hw1
  obtain ⟨w2, hw2⟩ : ∃ y, y = w1.alloc (.cells (pkC 0 0 (.slice none 0 0)).toArray 80) := ⟨_, rfl⟩
  refine vw (.pointer (some ⟨w1.heap.size, 0, none⟩)) w2 (want_none rfl) (ex_al rfl (by rw [hw2]; exact alPk _)) rfl q1.z (by decide) (q1.k fun _ q2 => ?_);clear q1
  have Bw2 : BB w2 w1.heap.size 80 (pkC 0 0 (.slice none 0 0)) := by rw [hw2]; exact BB.new _ _ _
  have bw2 : Below w1.heap.size w1 w2 := by rw [hw2]; exact (Below.refl _ _).alloc (Nat.le_refl _) _
  have zw2 : w2.heap.size = w1.heap.size + 1 := by rw [hw2]; exact World.size_alloc _ _
  clear hw2
  refine wpList_nil ?_
  go_upto_region 1 with fail
  refine wp_region_lit ?_
  have B1 : BB w2 w.heap.size 80 (pkC f t (.slice a l.length c)) := Bw1.later bw2
  have d2 : Below w.heap.size w w2 := bw1.trans (bw2.mono (by omega))
  refine q2.t (.pointer (some ⟨w.heap.size, 2, none⟩)) (ex_fa rfl (q2.e (j := 1) rfl) (faPk2 _ _)) fun _ q3 => ?_;clear q2
  refine q3.t (.slice a l.length c) (ex_ld rfl (q3.e (j := 3) rfl) (ldB73 (by rw [B1.cell]; rfl))) fun _ q4 => ?_;clear q3
  refine vcallP (want_none rfl) (ex_call rfl (by simp only [List.map_toArray, List.map_cons, List.map_nil, (q4.e (j := 4) rfl), evc] <;> rfl) rfl) (copyBytes73 l a c w2 (h.later d2) hb) rfl q4.z (by decide) ?_
  rintro e w3 ⟨v, rfl, o3, b3⟩
  refine ⟨_, rfl, q4.k fun _ q5 => ?_⟩;clear q4
  have y3 := b3.size
  have rv := o3.blk
  obtain ⟨av, cv, hv, _, _, _, _⟩ := o3.form
  subst hv
  have B3 := B1.later b3
  have R3 := Bw2.later b3
  refine q5.t (.pointer (some ⟨w.heap.size, 2, none⟩)) (ex_fa rfl (q5.e (j := 1) rfl) (faPk2 _ _)) fun _ q6 => ?_;clear q5
  obtain ⟨w4, hw4⟩ : ∃ y, y = w3.setCell ⟨w.heap.size, 2, none⟩ (.slice av l.length cv) := ⟨_, rfl⟩
  refine vs w4 (want_none rfl) (ex_st rfl (q6.e (j := 6) rfl) (q6.e (j := 5) rfl) (by rw [hw4]; exact stB73 (B3.cell 2) (B3.free 2))) rfl ?_
  have B4 : BB w4 w.heap.size 80 (pkC f t (.slice av l.length cv)) := by rw [hw4]; exact B3.set1 2 _
  have u4 : Upd (fun k => k = w.heap.size) w3 w4 := by rw [hw4]; exact (Upd.refl (fun k => k = w.heap.size) w3).setCell (p := ⟨w.heap.size, 2, none⟩) (.inl rfl) _
  clear hw4 B3
  have y4 := u4.size
  have R4 := R3.upd u4 (by omega)
  have o4 := o3.upd1 u4 (fun g hg e => by have := rv g hg; omega)
  refine wpList_nil ?_
  go_upto_region 2 with fail
  refine wp_region_lit ?_
  refine q6.t (.agg (pkC f t (.slice av l.length cv)).toArray) (ex_ld rfl (q6.e (j := 1) rfl) (B4.ld 80 Try.underlying80 rfl info3p)) fun _ q7 => ?_;clear q6
  obtain ⟨w5, hw5⟩ : ∃ y, y = w4.setCells w1.heap.size 0 (pkC f t (.slice av l.length cv)) := ⟨_, rfl⟩
  refine vs w5 (want_none rfl) (ex_st rfl (q7.e (j := 2) rfl) (q7.e (j := 7) rfl) (by rw [hw5]; exact R4.st 80 (pkC f t (.slice av l.length cv)) rfl info3p (onePk _ _ _ _ _))) rfl ?_
  have R5 : BB w5 w1.heap.size 80 (pkC f t (.slice av l.length cv)) := by rw [hw5]; exact R4.whole _ rfl
  have u5 : Upd (fun k => k = w1.heap.size) w4 w5 := by rw [hw5]; exact upd18 _ _ _ _
  clear hw5
  have y5 := u5.size
  have o5 := o4.upd1 u5 (fun g hg e => by have := rv g hg; omega)
  have d5 : Below w.heap.size w w5 := ((d2.trans (b3.mono d2.size)).trans (bel_ge u4 (by omega) (by omega))).trans (bel_ge u5 (by omega) (by omega))
  refine wpList_nil ?_
  go_wp2
  exact R5.res rfl (q7.a 2 rfl) Try.underlying80 rfl info3p ⟨_, rfl, o5.low (by omega), d5⟩
def Sn.val (x : Sn) : Value := .agg x.cs.toArray
theorem info19 : (Try.prog.info? 82).map (·.size) = some 19 := by kernel_rfl
theorem hSn_E : yE18.T ≠ ySn.T := by decide
theorem hSn_B : yB73.T ≠ ySn.T := by decide
theorem ldSnV {w : World} {q o : Nat} {l : List Sn} (h : LieY ySn w q o l) {j : Nat} {x : Sn} (hx : l[j]? = some x) : (Instr.loadAt 82 (.pointer (some ⟨q, o + j * 19, none⟩))).run Try.prog w = .ok x.val w :=
  run_loadAt_mid (P := Try.prog) w q (o + j * 19) 82 x.cs _ (fun i u hu => h j x hx i u hu) Try.underlying82 rfl info19
theorem alSn (w : World) : (Instr.alloc 82 true (.tuple #[])).run Try.prog w = .ok (.pointer (some ⟨w.heap.size, 0, none⟩)) (w.alloc (.cells zSn.cs.toArray 82)) := by kernel_rfl
theorem oneSn (x : Sn) : x.cs.toArray.all (·.oneCell') = true := by
  rw [Array.all_eq_true_iff_forall_mem]
  intro u hu
  simp only [Sn.cs, List.mem_toArray, List.mem_cons, List.not_mem_nil, or_false] at hu
  rcases hu with rfl | rfl | rfl | rfl | rfl | rfl | rfl | rfl | rfl | rfl | rfl | rfl | rfl | rfl | rfl | rfl | rfl | rfl | rfl <;> rfl
theorem bsSn (x : Sn) (w : World) : (Instr.buildSlice 22 1 #[(0, x.val)]).run Try.prog w = .ok (.slice (some ⟨w.heap.size, 0, none⟩) 1 1) (w.alloc (.cells x.cs.toArray 82)) := by
  unfold Sn.val Sn.cs
  go_simp
theorem BB.ldPk {w : World} {q : Nat} {T : TypeId} {x : Sn} (h : BB w q T x.cs) : (Instr.loadAt 80 (.pointer (some ⟨q, 16, none⟩))).run Try.prog w = .ok (.agg #[.int .i64 x.pf, .int .i64 x.pt, .slice x.bt.a x.bt.D.length x.bt.c]) w :=
  run_loadAt_mid (P := Try.prog) w q 16 80 (pkC x.pf x.pt (.slice x.bt.a x.bt.D.length x.bt.c)) _ (fun i u hu => by
    have hi : i < 3 := (List.getElem?_eq_some_iff.1 hu).1
    rw [h.cell]
    match i, hi, hu with
    | 0, _, hu => exact hu
    | 1, _, hu => exact hu
    | 2, _, hu => exact hu) Try.underlying80 rfl info3p
theorem BB.stPk {w : World} {q : Nat} {T : TypeId} {x : Sn} (h : BB w q T x.cs) (f t : Int) (a : Option Addr) (n c : Nat) : (Instr.storeAt 80 (.pointer (some ⟨q, 16, none⟩)) (.agg (pkC f t (.slice a n c)).toArray)).run Try.prog w = .ok () (w.setCells q 16 (pkC f t (.slice a n c))) :=
  run_storeAt_mid (P := Try.prog) w q 16 80 (pkC f t (.slice a n c)).toArray (fun j hj => ⟨by
    have hj : j < 3 := hj
    rw [h.cell, List.getElem?_eq_getElem (by show 16 + j < 19; omega)]
    rfl, h.free _⟩) info3p (onePk _ _ _ _ _)
structure SnIn (w : World) (x : Sn) : Prop where
  lg : SlY yE18 w x.lg.a x.lg.D.length x.lg.c x.lg.D
  bt : SlY yB73 w x.bt.a x.bt.D.length x.bt.c x.bt.D
  nl : x.lg.D.length * 48 ≤ 140737488355328
  nb : x.bt.D.length ≤ 140737488355328
structure SnCp (B : Nat) (w : World) (x y : Sn) : Prop where
  eq : y = { x with lg := ⟨y.lg.a, y.lg.c, x.lg.D⟩, bt := ⟨y.bt.a, y.bt.c, x.bt.D⟩ }
  lg : OwnY yE18 B w y.lg.v x.lg.D
  bt : OwnY yB73 B w y.bt.v x.bt.D
theorem SnCp.upd {S : Nat → Prop} {B : Nat} {w w' : World} {x y : Sn} (h : SnCp B w x y) (u : Upd S w w') (h1 : ∀ g, y.lg.v.ownBlock = some g → ¬ S g) (h2 : ∀ g, y.bt.v.ownBlock = some g → ¬ S g) : SnCp B w' x y := ⟨h.eq, h.lg.upd1 u h1, h.bt.upd1 u h2⟩
theorem SnCp.grow {B : Nat} {w w' : World} {x y : Sn} (h : SnCp B w x y) (b : Below w.heap.size w w') : SnCp B w' x y := ⟨h.eq, h.lg.grow b, h.bt.grow b⟩
set_option maxHeartbeats 2000000 in
theorem copySeen74 (L : List Sn) (a : Option Addr) (c : Nat) (w : World) (h : SlY ySn w a L.length c L) (hin : ∀ x ∈ L, SnIn w x) (hn : L.length * 200 ≤ 140737488351232) :
    Calls Try.prog 7 #[.slice a L.length c] w fun e w' => ∃ (v : Value) (D : List Sn), e = .returned v ∧ OwnY ySn w.heap.size w' v D ∧ D.length = L.length ∧ (∀ (i : Nat) (x y : Sn), L[i]? = some x → D[i]? = some y → SnCp w.heap.size w' x y) ∧ Below w.heap.size w w' := by
  go_enter Try.func7, Try.ntmps7
  go_upto_region 0 with fail
  refine wp_region_lit ?_
  refine vl_gen (fun T => Rp T 29 [(0, gw true (.slice a L.length c))]) ((Rp.nil rfl).cons rfl) (fun Z0 q0 => ?_)
  refine q0.t (.slice none 0 0) (ex_assign rfl rfl) fun _ q1 => ?_;clear q0
  refine wpList_nil ?_
  go_upto_region 1 with fail
  refine wp_region_lit ?_
  refine q1.t (.slice none 0 0) (ex_assign rfl rfl) fun _ q2 => ?_;clear q1
  refine wpList_nil ?_
  go_upto_region 2 with fail
  refine wp_region_lit ?_
  refine q2.t (.int .i64 ((0 : Nat) : Int)) (ex_assign rfl rfl) fun _ q3 => ?_;clear q2
  have q4 := ((((Rp.nil q3.z).cons (q3.a 0 rfl)).cons (q3.a 3 rfl)).cons (q3.a 4 rfl))
  clear q3
  refine wpList_nil ?_
  go_upto_region 3 with fail
  refine v_loop 4 L.length (fun j T wr => ∃ (v : Value) (D : List Sn), Rp T 29 [(4, gw true (.int .i64 ((j : Nat) : Int))), (3, gw true (v)), (0, gw true (.slice a L.length c))] ∧ Hid (OwnY ySn w.heap.size wr v D ∧ D.length = j ∧ (∀ (i : Nat) (x y : Sn), L[i]? = some x → D[i]? = some y → SnCp w.heap.size wr x y) ∧ Below w.heap.size w wr)) (fun j T w h => by obtain ⟨_, _, h, _⟩ := h; exact h.a 4 rfl) ⟨_, [], q4, OwnY.nil _ _ _, rfl, fun i x y _ h => by simp at h, Below.refl _ _⟩ ?_
  clear q4
  intro j T wr hj hh
  obtain ⟨v, D, q100, HJ⟩ := hh
  obtain ⟨oD, hDl, hcp, d⟩ := HJ.out
  clear HJ
  have zr := d.size
  by_cases hit : j < L.length
  · obtain ⟨x, hx⟩ : ∃ x, L[j]? = some x := ⟨_, List.getElem?_eq_getElem (by omega)⟩
    have fx := hin x (List.mem_of_getElem? hx)
    obtain ⟨qa, oa, hqa, hqal, hl0⟩ := h.place (by rintro rfl; simp at hx)
    have hl : LieY ySn wr qa oa L := hl0.upd (S := fun _ => False) (Upd.of_below d) hqal id
    go_upto_region 3 with fail
    refine wp_region_lit ?_
    refine q100.t (.int .i64 ((j : Nat) : Int)) (ex_move rfl (q100.e (j := 4) rfl)) fun _ q101 => ?_;clear q100
    refine q101.t (.slice a L.length c) (ex_move rfl (q101.e (j := 0) rfl)) fun _ q102 => ?_;clear q101
    refine q102.t (.int .i64 ((L.length : Nat) : Int)) (ex_lenSn rfl rfl (q102.e (j := 7) rfl)) fun _ q103 => ?_;clear q102
    refine q103.t (.bool true) (ex_bin rfl (q103.e (j := 6) rfl) (q103.e (j := 8) rfl) (ltT _ _ hit _)) fun _ q104 => ?_;clear q103
    refine wpList_nil ?_
    go_upto_region 5 with fail
    refine wp_cond_true (q104.e (j := 9) rfl) ?_
    go_upto_region 5 with fail
    refine wp_region_lit ?_
    refine q104.t (.slice a L.length c) (ex_move rfl (q104.e (j := 0) rfl)) fun _ q105 => ?_;clear q104
    refine q105.t (.int .i64 ((j : Nat) : Int)) (ex_move rfl (q105.e (j := 4) rfl)) fun _ q106 => ?_;clear q105
    refine q106.t (.pointer (some ⟨qa, oa + j * 19, none⟩)) (ex_ix rfl (q106.e (j := 12) rfl) (q106.e (j := 13) rfl) (by rw [hqa]; exact ixSn qa oa L.length c j hit _)) fun _ q107 => ?_;clear q106
    refine q107.t (x.val) (ex_ld rfl (q107.e (j := 14) rfl) (ldSnV hl hx)) fun _ q108 => ?_;clear q107
    obtain ⟨w1, hw1⟩ : ∃ y, y = wr.alloc (.cells (zSn.cs).toArray 82) := ⟨_, rfl⟩
    refine vw (.pointer (some ⟨wr.heap.size, 0, none⟩)) w1 (want_none rfl) (ex_al rfl (by rw [hw1]; exact alSn _)) rfl q108.z (by decide) (q108.k fun _ q109 => ?_);clear q108
    have Bw1 : BB w1 wr.heap.size 82 (zSn.cs) := by rw [hw1]; exact BB.new _ _ _
    have bw1 : Below wr.heap.size wr w1 := by rw [hw1]; exact (Below.refl _ _).alloc (Nat.le_refl _) _
    have zw1 : w1.heap.size = wr.heap.size + 1 := by rw [hw1]; exact World.size_alloc _ _
    clear hw1
    obtain ⟨w2, hw2⟩ : ∃ y, y = w1.setCells wr.heap.size 0 x.cs := ⟨_, rfl⟩
    refine vs w2 (want_none rfl) (ex_st rfl (q109.e (j := 5) rfl) (q109.e (j := 15) rfl) (by rw [hw2]; exact Bw1.st 82 x.cs rfl info19 (oneSn x))) rfl ?_
    have B2 : BB w2 wr.heap.size 82 x.cs := by rw [hw2]; exact Bw1.whole _ rfl
    have u2 : Upd (fun k => k = wr.heap.size) w1 w2 := by rw [hw2]; exact upd18 _ _ _ _
    clear hw2
    have y2 := u2.size
    have b2 : Below wr.heap.size wr w2 := bw1.trans (bel_ge u2 (by omega) (by omega))
    have d2 := d.trans (b2.mono zr)
    refine wpList_nil ?_
    go_upto_region 6 with fail
    refine wp_region_lit ?_
    refine q109.t (.pointer (some ⟨wr.heap.size, 15, none⟩)) (ex_fa rfl (q109.e (j := 5) rfl) (faSn8 _ _ _)) fun _ q110 => ?_;clear q109
    refine q110.t (.slice x.lg.a x.lg.D.length x.lg.c) (ex_ld rfl (q110.e (j := 16) rfl) (ldEn73 (by rw [B2.cell]; rfl))) fun _ q111 => ?_;clear q110
    refine vcallP (want_none rfl) (ex_call rfl (by simp only [List.map_toArray, List.map_cons, List.map_nil, (q111.e (j := 17) rfl), evc] <;> rfl) rfl) (copyEntries18 x.lg.D x.lg.a x.lg.c w2 (fx.lg.later d2) fx.nl) rfl q111.z (by decide) ?_
    rintro e w3 ⟨v3, rfl, o3, b3⟩
    refine ⟨_, rfl, q111.k fun _ q112 => ?_⟩;clear q111
    have y3 := b3.size
    have r3 := o3.blk
    obtain ⟨al, cl, hv3, _, _, _, _⟩ := o3.form
    subst hv3
    have B3 := B2.later b3
    have d3 := d2.trans (b3.mono d2.size)
    refine q112.t (.pointer (some ⟨wr.heap.size, 15, none⟩)) (ex_fa rfl (q112.e (j := 5) rfl) (faSn8 _ _ _)) fun _ q113 => ?_;clear q112
    obtain ⟨x1, hx1⟩ : ∃ y : Sn, y = { x with lg := ⟨al, cl, x.lg.D⟩ } := ⟨_, rfl⟩
    obtain ⟨w4, hw4⟩ : ∃ y, y = w3.setCell ⟨wr.heap.size, 15, none⟩ (.slice al x.lg.D.length cl) := ⟨_, rfl⟩
    refine vs w4 (want_none rfl) (ex_st rfl (q113.e (j := 19) rfl) (q113.e (j := 18) rfl) (by rw [hw4]; exact stEn73 (B3.cell 15) (B3.free 15))) rfl ?_
    have B4 : BB w4 wr.heap.size 82 x1.cs := by rw [hw4, hx1]; exact B3.set1 15 _
    have u4 : Upd (fun k => k = wr.heap.size) w3 w4 := by rw [hw4]; exact (Upd.refl (fun k => k = wr.heap.size) w3).setCell (p := ⟨wr.heap.size, 15, none⟩) (.inl rfl) _
    clear hw4 B3
    have y4 := u4.size
    have o4 := o3.upd1 u4 (fun g hg e => by have := r3 g hg; omega)
    have d4 : Below w.heap.size w w4 := d3.trans (bel_ge u4 d3.size (by omega))
    refine wpList_nil ?_
    go_upto_region 7 with fail
    refine wp_region_lit ?_
    refine q113.t (.pointer (some ⟨wr.heap.size, 16, none⟩)) (ex_fa rfl (q113.e (j := 5) rfl) (faSn9 _ _ _)) fun _ q114 => ?_;clear q113
    refine q114.t (.agg #[.int .i64 x1.pf, .int .i64 x1.pt, .slice x1.bt.a x1.bt.D.length x1.bt.c]) (ex_ld rfl (q114.e (j := 20) rfl) B4.ldPk) fun _ q115 => ?_;clear q114
    have hb1 : x1.bt = x.bt := by rw [hx1]
    have fb : SlY yB73 w x1.bt.a x1.bt.D.length x1.bt.c x1.bt.D := by rw [hb1]; exact fx.bt
    have fn : x1.bt.D.length ≤ 140737488355328 := by rw [hb1]; exact fx.nb
    refine vcallP (want_none rfl) (ex_call rfl (by simp only [List.map_toArray, List.map_cons, List.map_nil, (q115.e (j := 21) rfl), evc] <;> rfl) rfl) (copyPacket73 x1.pf x1.pt x1.bt.D x1.bt.a x1.bt.c w4 (fb.later d4) fn) rfl q115.z (by decide) ?_
    rintro e w5 ⟨v5, rfl, o5, b5⟩
    refine ⟨_, rfl, q115.k fun _ q116 => ?_⟩;clear q115
    have y5 := b5.size
    have r5 := o5.blk
    obtain ⟨ab, cb, hv5, _, _, _, _⟩ := o5.form
    subst hv5
    have B5 := B4.later b5
    have d5 := d4.trans (b5.mono d4.size)
    have o4b := o4.grow b5
    refine q116.t (.pointer (some ⟨wr.heap.size, 16, none⟩)) (ex_fa rfl (q116.e (j := 5) rfl) (faSn9 _ _ _)) fun _ q117 => ?_;clear q116
    obtain ⟨x2, hx2⟩ : ∃ y : Sn, y = { x1 with bt := ⟨ab, cb, x1.bt.D⟩ } := ⟨_, rfl⟩
    obtain ⟨w6, hw6⟩ : ∃ y, y = w5.setCells wr.heap.size 16 (pkC x1.pf x1.pt (.slice ab x1.bt.D.length cb)) := ⟨_, rfl⟩
    refine vs w6 (want_none rfl) (ex_st rfl (q117.e (j := 23) rfl) (q117.e (j := 22) rfl) (by rw [hw6]; exact B5.stPk _ _ _ _ _)) rfl ?_
    have B6 : BB w6 wr.heap.size 82 x2.cs := by
      rw [hw6, hx2]
      exact ((B5.set1 16 (.int .i64 x1.pf)).set1 17 (.int .i64 x1.pt)).set1 18 (.slice ab x1.bt.D.length cb)
    have u6 : Upd (fun k => k = wr.heap.size) w5 w6 := by rw [hw6]; exact upd18 _ _ _ _
    clear hw6 B5
    have y6 := u6.size
    have o6 := o4b.upd1 u6 (fun g hg e => by have := r3 g hg; omega)
    have p6 := o5.upd1 u6 (fun g hg e => by have := r5 g hg; omega)
    have d6 : Below w.heap.size w w6 := d5.trans (bel_ge u6 d5.size (by omega))
    have b6 : Below wr.heap.size wr w6 := (((b2.trans (b3.mono (by omega))).trans (bel_ge u4 (by omega) (by omega))).trans (b5.mono (by omega))).trans (bel_ge u6 (by omega) (by omega))
    have oD6 := oD.grow b6
    refine wpList_nil ?_
    go_upto_region 8 with fail
    refine wp_region_lit ?_
    refine q117.t (v) (ex_move rfl (q117.e (j := 3) rfl)) fun _ q118 => ?_;clear q117
    refine q118.t (x2.val) (ex_ld rfl (q118.e (j := 5) rfl) (B6.ld 82 Try.underlying82 rfl info19)) fun _ q119 => ?_;clear q118
    obtain ⟨w7, hw7⟩ : ∃ y, y = w6.alloc (.cells x2.cs.toArray 82) := ⟨_, rfl⟩
    refine vw (.slice (some ⟨w6.heap.size, 0, none⟩) 1 1) w7 (want_none rfl) (ex_bs18 rfl (q119.e (j := 25) rfl) (by rw [hw7]; exact bsSn _ _)) rfl q119.z (by decide) (q119.k fun _ q120 => ?_);clear q119
    have s7 : SlY ySn w7 (some ⟨w6.heap.size, 0, none⟩) 1 1 [x2] := by rw [hw7]; exact sl_box (Y := ySn) w6 x2 82
    have b7 : Below w6.heap.size w6 w7 := by rw [hw7]; exact (Below.refl _ _).alloc (Nat.le_refl _) _
    clear hw7
    have y7 := b7.size
    obtain ⟨v8, w8, ha8, o8, g8, _⟩ := run_appY kSn w7 22 w.heap.size D v _ 1 1 [x2] s7 (oD6.grow b7) (by have := d6.size; omega) (by unfold maxLen; omega) (by show (D.length + 1) * 200 ≤ _; omega)
    have u8 := gupd63 g8
    have d8 : Below w.heap.size w w8 := (d6.trans (b7.mono d6.size)).trans (u8.below (by have := d6.size; omega) (fun k hk => (oD6.blk k hk).1))
    have hnew : SnCp w.heap.size w7 x x2 := by
      refine ⟨by rw [hx2, hx1], ?_, ?_⟩
      · have h9 := (o6.grow b7).low (show w.heap.size ≤ w2.heap.size from d2.size)
        rw [hx2, hx1]
        exact h9
      · have h9 := (p6.grow b7).low (show w.heap.size ≤ w4.heap.size from d4.size)
        rw [hx2]
        rw [hb1] at h9 ⊢
        exact h9
    have hall : ∀ (i : Nat) (z y : Sn), L[i]? = some z → (D ++ [x2])[i]? = some y → SnCp w.heap.size w8 z y := fun i z y hz hy => by
      have h9 : SnCp w.heap.size w7 z y := by
        by_cases hi : i < D.length
        · rw [List.getElem?_append_left hi] at hy
          exact ((hcp i z y hz hy).grow b6).grow b7
        · rw [List.getElem?_append_right (by omega)] at hy
          have h0 : i - D.length < 1 := (List.getElem?_eq_some_iff.1 hy).1
          rw [show i - D.length = 0 by omega] at hy
          cases hy
          rw [show i = j by omega, hx] at hz
          cases hz
          exact hnew
      exact h9.upd u8 (fun g hg e => OwnY.apart h9.lg (oD6.grow b7) hSn_E g hg e) (fun g hg e => OwnY.apart h9.bt (oD6.grow b7) hSn_B g hg e)
    refine vw (v8) w8 (want_none rfl) (ex_app18 rfl (q120.e (j := 24) rfl) (q120.e (j := 26) rfl) ha8) rfl q120.z (by decide) (q120.k fun _ q121 => ?_);clear q120
    refine q121.t (v8) (ex_assign rfl (q121.e (j := 27) rfl)) fun _ q122 => ?_;clear q121
    have q123 := ((((Rp.nil q122.z).cons (q122.a 0 rfl)).cons (q122.a 3 rfl)).cons (q122.a 4 rfl))
    clear q122
    refine wpList_nil ?_
    go_upto_region 4 with fail
    refine wp_region_lit ?_
    refine q123.t (.int .i64 ((j : Nat) : Int)) (ex_move rfl (q123.e (j := 4) rfl)) fun _ q124 => ?_;clear q123
    refine q124.t (.int .i64 ((j + 1 : Nat) : Int)) (ex_bin rfl (q124.e (j := 10) rfl) rfl (add1C _ _ j (by omega) _)) fun _ q125 => ?_;clear q124
    refine q125.t (.int .i64 ((j + 1 : Nat) : Int)) (ex_assign rfl (q125.e (j := 11) rfl)) fun _ q126 => ?_;clear q125
    have q127 := ((((Rp.nil q126.z).cons (q126.a 0 rfl)).cons (q126.a 3 rfl)).cons (q126.a 4 rfl))
    clear q126
    refine wpList_nil ?_
    exact ⟨_, rfl, hit, v8, D ++ [x2], q127, o8, by rw [List.length_append, hDl]; rfl, hall, d8⟩
  · obtain rfl : j = L.length := by omega
    go_upto_region 3 with fail
    refine wp_region_lit ?_
    refine q100.t (.int .i64 ((L.length : Nat) : Int)) (ex_move rfl (q100.e (j := 4) rfl)) fun _ q101 => ?_;clear q100
    refine q101.t (.slice a L.length c) (ex_move rfl (q101.e (j := 0) rfl)) fun _ q102 => ?_;clear q101
    refine q102.t (.int .i64 ((L.length : Nat) : Int)) (ex_lenSn rfl rfl (q102.e (j := 7) rfl)) fun _ q103 => ?_;clear q102
    refine q103.t (.bool false) (ex_bin rfl (q103.e (j := 6) rfl) (q103.e (j := 8) rfl) (ltF _ _ hit _)) fun _ q104 => ?_;clear q103
    refine wpList_nil ?_
    go_upto_region 9 with fail
    refine wp_cond_false (q104.e (j := 9) rfl) ?_
    go_upto_region 9 with fail
    refine wp_region_lit ?_
    refine q104.t (v) (ex_move rfl (q104.e (j := 3) rfl)) fun _ q105 => ?_;clear q104
    refine q105.t (v) (ex_assign rfl (q105.e (j := 28) rfl)) fun _ q106 => ?_;clear q105
    refine wpList_nil ?_
    go_wp2
    refine bodyPost_ret (results_tmp rfl _ _ _) rfl ?_
    rw [getD_of (q106.a 2 rfl)]
    exact ⟨v, D, rfl, oD, hDl, hcp, d⟩
theorem ex_cv75 {o : Oper} {ρ : Operand → Value} {s t : TypeId} {x : Operand} {X V : Value} {w w' : World} (ho : o.op = .convert s t x) (hx : ρ x = X) (hr : (Go.convert s t X).run Try.prog w = .ok V w') : (execOp ρ o).run Try.prog w = .ok (.value V) w' := by
  unfold execOp
  simp only [ho, hx, Sem.run_bind, hr, Result.andThen_ok]
  rfl
theorem cvB75 {w : World} {a : Option Addr} {n c : Nat} {l : List Int} (h : SlY yB73 w a n c l) (hne : l ≠ []) : (Go.convert 78 9 (.slice a n c)).run Try.prog w = .ok (.string (strOfNums l)) w := by
  obtain ⟨q, o, rfl, _, hl⟩ := h.place hne
  refine run_convert_bytes_arg w 78 5 Try.underlying78 Try.underlying5 q o n c l h.len (fun i hi => ?_) 9 Try.underlying9
  have hi2 : i < l.length := by rw [h.len]; exact hi
  have h3 := hl i _ (List.getElem?_eq_getElem hi2) 0 _ rfl
  have e : o + i * yB73.k + 0 = o + i := by show o + i * 1 + 0 = o + i; omega
  rw [e] at h3
  first | exact h3 | (simpa [List.getElem?_eq_getElem hi2] using h3)
theorem cvN75 {w : World} (a : Option Addr) (c : Nat) : (Go.convert 78 9 (.slice a 0 c)).run Try.prog w = .ok (.string (strOfNums [])) w := by
  cases a with
  | none => kernel_rfl
  | some z => kernel_rfl
theorem eqlS75 (x y : Operand) (s : ByteArray) (w : World) : (do eqGuard .eql 9 x y (.string s) (.string s); binOp .eql 9 (.string s) (.string s) : Sem Value).run Try.prog w = .ok (.bool true) w := by go_simp
theorem neS75 (x y : Operand) (a : Int) (w : World) : (do eqGuard .neq 71 x y (.int .i64 a) (.int .i64 a); binOp .neq 71 (.int .i64 a) (.int .i64 a) : Sem Value).run Try.prog w = .ok (.bool false) w := by go_simp
theorem neD75 (x y : Operand) (a b : Int) (w : World) : (do eqGuard .neq 74 x y (.agg #[.int .u64 a, .int .u64 b]) (.agg #[.int .u64 a, .int .u64 b]); binOp .neq 74 (.agg #[.int .u64 a, .int .u64 b]) (.agg #[.int .u64 a, .int .u64 b]) : Sem Value).run Try.prog w = .ok (.bool false) w := by go_simp
theorem neE75 (x y : Operand) (e : En18) (w : World) : (do eqGuard .neq 76 x y e.val e.val; binOp .neq 76 e.val e.val : Sem Value).run Try.prog w = .ok (.bool false) w := by
  unfold En18.val
  go_simp
theorem neR75 (x y : Operand) (r : Rs) (w : World) : (do eqGuard .neq 43 x y (rV r) (rV r); binOp .neq 43 (rV r) (rV r) : Sem Value).run Try.prog w = .ok (.bool false) w := by
  have h := neqR18 x y r r w
  rw [show (rV r) = .agg #[.int .i64 r.1, .int .i64 r.2.1, .string r.2.2] from rfl]
  simpa using h
theorem faS75 (q k o : Nat) (h : (k, o) ∈ [(0, 0), (1, 1), (2, 2), (3, 3), (4, 4), (5, 5), (6, 7), (7, 12), (8, 15), (9, 16)]) (w : World) : (Instr.fieldAt 82 (.pointer (some ⟨q, 0, none⟩)) k).run Try.prog w = .ok (.pointer (some ⟨q, o, none⟩)) w := by
  simp only [List.mem_cons, List.not_mem_nil, or_false, Prod.mk.injEq] at h
  rcases h with ⟨rfl, rfl⟩ | ⟨rfl, rfl⟩ | ⟨rfl, rfl⟩ | ⟨rfl, rfl⟩ | ⟨rfl, rfl⟩ | ⟨rfl, rfl⟩ | ⟨rfl, rfl⟩ | ⟨rfl, rfl⟩ | ⟨rfl, rfl⟩ | ⟨rfl, rfl⟩ <;> go_simp
theorem faP75 (q o k : Nat) (h : k < 3) (w : World) : (Instr.fieldAt 80 (.pointer (some ⟨q, o, none⟩)) k).run Try.prog w = .ok (.pointer (some ⟨q, o + k, none⟩)) w := by
  match k, h with
  | 0, _ => go_simp
  | 1, _ => go_simp
  | 2, _ => go_simp
theorem info2d : (Try.prog.info? 74).map (·.size) = some 2 := by kernel_rfl
theorem BB.ldSK {w : World} {q : Nat} {T : TypeId} {x : Sn} (h : BB w q T x.cs) : (Instr.loadAt 71 (.pointer (some ⟨q, 0, none⟩))).run Try.prog w = .ok (.int .i64 x.kd) w := by
  have hc : w.cell? ⟨q, 0, none⟩ = some (.int .i64 x.kd) := by rw [h.cell]; rfl
  go_simp
theorem BB.ldSD {w : World} {q : Nat} {T : TypeId} {x : Sn} (h : BB w q T x.cs) : (Instr.loadAt 74 (.pointer (some ⟨q, 5, none⟩))).run Try.prog w = .ok (.agg #[.int .u64 x.dh, .int .u64 x.dl]) w :=
  run_loadAt_mid (P := Try.prog) w q 5 74 [.int .u64 x.dh, .int .u64 x.dl] _ (fun i u hu => by
    have hi : i < 2 := (List.getElem?_eq_some_iff.1 hu).1
    rw [h.cell]
    match i, hi, hu with
    | 0, _, hu => exact hu
    | 1, _, hu => exact hu) Try.underlying74 rfl info2d
theorem BB.ldSE {w : World} {q : Nat} {T : TypeId} {x : Sn} (h : BB w q T x.cs) : (Instr.loadAt 76 (.pointer (some ⟨q, 7, none⟩))).run Try.prog w = .ok x.en.val w :=
  run_loadAt_mid (P := Try.prog) w q 7 76 x.en.cs _ (fun i u hu => by
    have hi : i < 5 := (List.getElem?_eq_some_iff.1 hu).1
    rw [h.cell]
    match i, hi, hu with
    | 0, _, hu => exact hu
    | 1, _, hu => exact hu
    | 2, _, hu => exact hu
    | 3, _, hu => exact hu
    | 4, _, hu => exact hu) Try.underlying76 rfl info5e
theorem BB.ldSR {w : World} {q : Nat} {T : TypeId} {x : Sn} (h : BB w q T x.cs) : (Instr.loadAt 43 (.pointer (some ⟨q, 12, none⟩))).run Try.prog w = .ok (rV x.r) w :=
  run_loadAt_mid (P := Try.prog) w q 12 43 (rsC x.r) _ (fun i u hu => by
    have hi : i < 3 := (List.getElem?_eq_some_iff.1 hu).1
    rw [h.cell]
    match i, hi, hu with
    | 0, _, hu => exact hu
    | 1, _, hu => exact hu
    | 2, _, hu => exact hu) Try.underlying43 rfl info3r
theorem cvA75 {w : World} {a : Option Addr} {c : Nat} {l : List Int} (h : SlY yB73 w a l.length c l) : (Go.convert 78 9 (.slice a l.length c)).run Try.prog w = .ok (.string (strOfNums l)) w := by
  cases l with
  | nil => exact cvN75 a c
  | cons x r => exact cvB75 h (by simp)
set_option maxHeartbeats 2000000 in
theorem sameBytes75 (L : List Int) (a a2 : Option Addr) (c c2 : Nat) (w : World) (h : SlY yB73 w a L.length c L) (h2 : SlY yB73 w a2 L.length c2 L) :
    Calls Try.prog 31 #[.slice a L.length c, .slice a2 L.length c2] w fun e w' => e = .returned (.bool true) ∧ w' = w := by
  go_enter Try.func31, Try.ntmps31
  go_upto_region 0 with fail
  refine wp_region_lit ?_
  refine vl_gen (fun T => Rp T 10 [(1, gw true (.slice a2 L.length c2)), (0, gw true (.slice a L.length c))]) (((Rp.nil rfl).cons rfl).cons rfl) (fun Z0 q0 => ?_)
  refine q0.t (.bool false) (ex_assign rfl rfl) fun _ q1 => ?_;clear q0
  refine wpList_nil ?_
  go_upto_region 1 with fail
  refine wp_region_lit ?_
  refine q1.t (.slice a L.length c) (ex_move rfl (q1.e (j := 0) rfl)) fun _ q2 => ?_;clear q1
  refine q2.t (.string (strOfNums L)) (ex_cv75 rfl (q2.e (j := 5) rfl) (cvA75 h)) fun _ q3 => ?_;clear q2
  refine q3.t (.slice a2 L.length c2) (ex_move rfl (q3.e (j := 1) rfl)) fun _ q4 => ?_;clear q3
  refine q4.t (.string (strOfNums L)) (ex_cv75 rfl (q4.e (j := 7) rfl) (cvA75 h2)) fun _ q5 => ?_;clear q4
  refine q5.t (.bool true) (ex_bin rfl (q5.e (j := 6) rfl) (q5.e (j := 8) rfl) (eqlS75 _ _ _ _)) fun _ q6 => ?_;clear q5
  refine q6.t (.bool true) (ex_assign rfl (q6.e (j := 9) rfl)) fun _ q7 => ?_;clear q6
  refine wpList_nil ?_
  go_wp2
  refine bodyPost_ret (results_tmp rfl _ _ _) rfl ?_
  rw [getD_of (q7.a 4 rfl)]
  exact ⟨rfl, rfl⟩
set_option maxHeartbeats 2000000 in
theorem sameSeen75 (L D : List Sn) (a a2 : Option Addr) (c c2 B : Nat) (w : World) (h : SlY ySn w a D.length c D) (h2 : SlY ySn w a2 D.length c2 L) (hin : ∀ x ∈ L, SnIn w x) (hDL : D.length = L.length) (hcp : ∀ (i : Nat) (x y : Sn), L[i]? = some x → D[i]? = some y → SnCp B w x y) (hn : L.length * 200 ≤ 140737488351232) :
    Calls Try.prog 11 #[.slice a D.length c, .slice a2 D.length c2] w fun e w' => e = .returned (.bool true) ∧ Below w.heap.size w w' := by
  go_enter Try.func11, Try.ntmps11
  go_upto_region 0 with fail
  refine wp_region_lit ?_
  refine vl_gen (fun T => Rp T 115 [(1, gw true (.slice a2 D.length c2)), (0, gw true (.slice a D.length c))]) (((Rp.nil rfl).cons rfl).cons rfl) (fun Z0 q0 => ?_)
  refine q0.t (.bool false) (ex_assign rfl rfl) fun _ q1 => ?_;clear q0
  refine wpList_nil ?_
  go_upto_region 1 with fail
  refine wp_region_lit ?_
  refine q1.t (.slice a D.length c) (ex_move rfl (q1.e (j := 0) rfl)) fun _ q2 => ?_;clear q1
  refine q2.t (.int .i64 ((D.length : Nat) : Int)) (ex_lenSn rfl rfl (q2.e (j := 8) rfl)) fun _ q3 => ?_;clear q2
  refine q3.t (.slice a2 D.length c2) (ex_move rfl (q3.e (j := 1) rfl)) fun _ q4 => ?_;clear q3
  refine q4.t (.int .i64 ((D.length : Nat) : Int)) (ex_lenSn rfl rfl (q4.e (j := 10) rfl)) fun _ q5 => ?_;clear q4
  refine q5.t (.bool false) (ex_bin rfl (q5.e (j := 9) rfl) (q5.e (j := 11) rfl) (neqF62 _ _ rfl _)) fun _ q6 => ?_;clear q5
  refine wpList_nil ?_
  go_upto_region 3 with fail
  refine wp_cond_false (q6.e (j := 12) rfl) ?_
  go_upto_region 3 with fail
  refine wp_region_lit ?_
  refine q6.t (.int .i64 ((0 : Nat) : Int)) (ex_assign rfl rfl) fun _ q7 => ?_;clear q6
  have q8 := ((((Rp.nil q7.z).cons (q7.a 0 rfl)).cons (q7.a 1 rfl)).cons (q7.a 5 rfl))
  clear q7
  refine wpList_nil ?_
  go_upto_region 4 with fail
  refine v_loop 5 D.length (fun j T wr => Rp T 115 [(5, gw true (.int .i64 ((j : Nat) : Int))), (1, gw true (.slice a2 D.length c2)), (0, gw true (.slice a D.length c))] ∧ Hid (Below w.heap.size w wr)) (fun j T w h => h.1.a 5 rfl) ⟨q8, Below.refl _ _⟩ ?_
  clear q8
  intro j T wr hj hh
  obtain ⟨q100, HJ⟩ := hh
  have d : Below w.heap.size w wr := HJ.out
  clear HJ
  have zr := d.size
  by_cases hit : j < D.length
  · obtain ⟨y, hy⟩ : ∃ y, D[j]? = some y := ⟨_, List.getElem?_eq_getElem (by omega)⟩
    obtain ⟨x, hx⟩ : ∃ x, L[j]? = some x := ⟨_, List.getElem?_eq_getElem (by omega)⟩
    have hc9 := hcp j x y hx hy
    have fx := hin x (List.mem_of_getElem? hx)
    obtain ⟨l2, e2⟩ : ∃ z, z = y.lg := ⟨_, rfl⟩
    obtain ⟨b2, e3⟩ : ∃ z, z = y.bt := ⟨_, rfl⟩
    have hyx := hc9.eq
    have hl9 : y.lg.D = x.lg.D := by rw [hyx]
    have hb9 : y.bt.D = x.bt.D := by rw [hyx]
    have sl9 := (show OwnY yE18 B w (.slice y.lg.a y.lg.D.length y.lg.c) x.lg.D from hc9.lg).sl' kE18
    have sb9 := (show OwnY yB73 B w (.slice y.bt.a y.bt.D.length y.bt.c) x.bt.D from hc9.bt).sl' kB73
    rw [hl9] at sl9
    rw [hb9] at sb9
    obtain ⟨qa, oa, hqa, hqal, hl0⟩ := h.place (by rintro rfl; simp at hy)
    have hl : LieY ySn wr qa oa D := hl0.upd (S := fun _ => False) (Upd.of_below d) hqal id
    obtain ⟨qb, ob, hqb, hqbl, hm0⟩ := h2.place (by rintro rfl; simp at hx)
    have hjl : j < L.length := by omega
    go_upto_region 4 with fail
    refine wp_region_lit ?_
    refine q100.t (.int .i64 ((j : Nat) : Int)) (ex_move rfl (q100.e (j := 5) rfl)) fun _ q101 => ?_;clear q100
    refine q101.t (.slice a D.length c) (ex_move rfl (q101.e (j := 0) rfl)) fun _ q102 => ?_;clear q101
    refine q102.t (.int .i64 ((D.length : Nat) : Int)) (ex_lenSn rfl rfl (q102.e (j := 14) rfl)) fun _ q103 => ?_;clear q102
    refine q103.t (.bool true) (ex_bin rfl (q103.e (j := 13) rfl) (q103.e (j := 15) rfl) (ltT _ _ hit _)) fun _ q104 => ?_;clear q103
    refine wpList_nil ?_
    go_upto_region 6 with fail
    refine wp_cond_true (q104.e (j := 16) rfl) ?_
    go_upto_region 6 with fail
    refine wp_region_lit ?_
    refine q104.t (.slice a D.length c) (ex_move rfl (q104.e (j := 0) rfl)) fun _ q105 => ?_;clear q104
    refine q105.t (.int .i64 ((j : Nat) : Int)) (ex_move rfl (q105.e (j := 5) rfl)) fun _ q106 => ?_;clear q105
    refine q106.t (.pointer (some ⟨qa, oa + j * 19, none⟩)) (ex_ix rfl (q106.e (j := 19) rfl) (q106.e (j := 20) rfl) (by rw [hqa]; exact ixSn qa oa D.length c j hit _)) fun _ q107 => ?_;clear q106
    refine q107.t (y.val) (ex_ld rfl (q107.e (j := 21) rfl) (ldSnV hl hy)) fun _ q108 => ?_;clear q107
    obtain ⟨w1, hw1⟩ : ∃ y, y = wr.alloc (.cells (zSn.cs).toArray 82) := ⟨_, rfl⟩
    refine vw (.pointer (some ⟨wr.heap.size, 0, none⟩)) w1 (want_none rfl) (ex_al rfl (by rw [hw1]; exact alSn _)) rfl q108.z (by decide) (q108.k fun _ q109 => ?_);clear q108
    have Bw1 : BB w1 wr.heap.size 82 (zSn.cs) := by rw [hw1]; exact BB.new _ _ _
    have bw1 : Below wr.heap.size wr w1 := by rw [hw1]; exact (Below.refl _ _).alloc (Nat.le_refl _) _
    have zw1 : w1.heap.size = wr.heap.size + 1 := by rw [hw1]; exact World.size_alloc _ _
    clear hw1
    obtain ⟨w2, hw2⟩ : ∃ W9, W9 = w1.setCells wr.heap.size 0 y.cs := ⟨_, rfl⟩
    refine vs w2 (want_none rfl) (ex_st rfl (q109.e (j := 6) rfl) (q109.e (j := 22) rfl) (by rw [hw2]; exact Bw1.st 82 y.cs rfl info19 (oneSn y))) rfl ?_
    have B2 : BB w2 wr.heap.size 82 y.cs := by rw [hw2]; exact Bw1.whole _ rfl
    have u2 : Upd (fun k => k = wr.heap.size) w1 w2 := by rw [hw2]; exact upd18 _ _ _ _
    clear hw2
    have y2 := u2.size
    have b2w : Below wr.heap.size wr w2 := bw1.trans (bel_ge u2 (by omega) (by omega))
    have d2 := d.trans (b2w.mono zr)
    have hm : LieY ySn w2 qb ob L := hm0.upd (S := fun _ => False) (Upd.of_below d2) hqbl id
    refine wpList_nil ?_
    go_upto_region 7 with fail
    refine wp_region_lit ?_
    refine q109.t (.slice a2 D.length c2) (ex_move rfl (q109.e (j := 1) rfl)) fun _ q110 => ?_;clear q109
    refine q110.t (.int .i64 ((j : Nat) : Int)) (ex_move rfl (q110.e (j := 5) rfl)) fun _ q111 => ?_;clear q110
    refine q111.t (.pointer (some ⟨qb, ob + j * 19, none⟩)) (ex_ix rfl (q111.e (j := 23) rfl) (q111.e (j := 24) rfl) (by rw [hqb]; exact ixSn qb ob D.length c2 j hit _)) fun _ q112 => ?_;clear q111
    refine q112.t (x.val) (ex_ld rfl (q112.e (j := 25) rfl) (ldSnV hm hx)) fun _ q113 => ?_;clear q112
    obtain ⟨w3, hw3⟩ : ∃ y, y = w2.alloc (.cells (zSn.cs).toArray 82) := ⟨_, rfl⟩
    refine vw (.pointer (some ⟨w2.heap.size, 0, none⟩)) w3 (want_none rfl) (ex_al rfl (by rw [hw3]; exact alSn _)) rfl q113.z (by decide) (q113.k fun _ q114 => ?_);clear q113
    have Bw3 : BB w3 w2.heap.size 82 (zSn.cs) := by rw [hw3]; exact BB.new _ _ _
    have bw3 : Below w2.heap.size w2 w3 := by rw [hw3]; exact (Below.refl _ _).alloc (Nat.le_refl _) _
    have zw3 : w3.heap.size = w2.heap.size + 1 := by rw [hw3]; exact World.size_alloc _ _
    clear hw3
    obtain ⟨w4, hw4⟩ : ∃ W9, W9 = w3.setCells w2.heap.size 0 x.cs := ⟨_, rfl⟩
    refine vs w4 (want_none rfl) (ex_st rfl (q114.e (j := 7) rfl) (q114.e (j := 26) rfl) (by rw [hw4]; exact Bw3.st 82 x.cs rfl info19 (oneSn x))) rfl ?_
    have B4 : BB w4 w2.heap.size 82 x.cs := by rw [hw4]; exact Bw3.whole _ rfl
    have u4 : Upd (fun k => k = w2.heap.size) w3 w4 := by rw [hw4]; exact upd18 _ _ _ _
    clear hw4
    have y4 := u4.size
    have b4w : Below w2.heap.size w2 w4 := bw3.trans (bel_ge u4 (by omega) (by omega))
    have d4 := d2.trans (b4w.mono d2.size)
    have B3 := B2.later b4w
    have sx := fx.lg.later d4
    have sy := sl9.later d4
    have bx := fx.bt.later d4
    have by_ := sb9.later d4
    refine wpList_nil ?_
    go_upto_region 8 with fail
    refine wp_region_lit ?_
    have B3x : BB w4 wr.heap.size 82 ({ x with lg := y.lg, bt := y.bt } : Sn).cs := by
      have h9 := B3
      rw [hyx] at h9
      rw [hyx]
      exact h9
    refine q114.t (.pointer (some ⟨wr.heap.size, 0, none⟩)) (ex_fa rfl (q114.e (j := 6) rfl) (faS75 _ 0 0 (by decide) _)) fun _ q115 => ?_;clear q114
    refine q115.t (.int .i64 (x.kd)) (ex_ld rfl (q115.e (j := 27) rfl) B3x.ldSK) fun _ q116 => ?_;clear q115
    refine q116.t (.pointer (some ⟨w2.heap.size, 0, none⟩)) (ex_fa rfl (q116.e (j := 7) rfl) (faS75 _ 0 0 (by decide) _)) fun _ q117 => ?_;clear q116
    refine q117.t (.int .i64 (x.kd)) (ex_ld rfl (q117.e (j := 29) rfl) B4.ldSK) fun _ q118 => ?_;clear q117
    refine q118.t (.bool false) (ex_bin rfl (q118.e (j := 28) rfl) (q118.e (j := 30) rfl) (neS75 _ _ _ _)) fun _ q119 => ?_;clear q118
    refine q119.t (.bool false) (ex_move rfl (q119.e (j := 31) rfl)) fun _ q120 => ?_;clear q119
    refine vl _ (.pointer (some ⟨wr.heap.size, 1, none⟩)) (want_g rfl rfl (q120.a 32 rfl)) (fun hc => ex_fa rfl (q120.e (j := 6) rfl) (faS75 _ 1 1 (by decide) _)) rfl q120.z (by decide) (q120.k fun _ q121 => ?_);clear q120
    refine vl _ (.int .i64 (x.ev)) (want_g rfl rfl (q121.a 32 rfl)) (fun hc => ex_ld rfl (ev (q121.a 33 rfl) hc) (ldI18 (by rw [B3x.cell]; rfl))) rfl q121.z (by decide) (q121.k fun _ q122 => ?_);clear q121
    refine vl _ (.pointer (some ⟨w2.heap.size, 1, none⟩)) (want_g rfl rfl (q122.a 32 rfl)) (fun hc => ex_fa rfl (q122.e (j := 7) rfl) (faS75 _ 1 1 (by decide) _)) rfl q122.z (by decide) (q122.k fun _ q123 => ?_);clear q122
    refine vl _ (.int .i64 (x.ev)) (want_g rfl rfl (q123.a 32 rfl)) (fun hc => ex_ld rfl (ev (q123.a 35 rfl) hc) (ldI18 (by rw [B4.cell]; rfl))) rfl q123.z (by decide) (q123.k fun _ q124 => ?_);clear q123
    refine vl _ (.bool false) (want_g rfl rfl (q124.a 32 rfl)) (fun hc => ex_bin rfl (ev (q124.a 34 rfl) hc) (ev (q124.a 36 rfl) hc) (neqF62 _ _ rfl _)) rfl q124.z (by decide) (q124.k fun _ q125 => ?_);clear q124
    refine q125.t (.bool false) (ex_or (c := true) (b := false) (z := false) rfl (q125.a 32 rfl) (q125.a 37 rfl) rfl) fun _ q126 => ?_;clear q125
    refine q126.t (.bool false) (ex_move rfl (q126.e (j := 38) rfl)) fun _ q127 => ?_;clear q126
    refine vl _ (.pointer (some ⟨wr.heap.size, 2, none⟩)) (want_g rfl rfl (q127.a 39 rfl)) (fun hc => ex_fa rfl (q127.e (j := 6) rfl) (faS75 _ 2 2 (by decide) _)) rfl q127.z (by decide) (q127.k fun _ q128 => ?_);clear q127
    refine vl _ (.int .i64 (x.nd)) (want_g rfl rfl (q128.a 39 rfl)) (fun hc => ex_ld rfl (ev (q128.a 40 rfl) hc) (ldI18 (by rw [B3x.cell]; rfl))) rfl q128.z (by decide) (q128.k fun _ q129 => ?_);clear q128
    refine vl _ (.pointer (some ⟨w2.heap.size, 2, none⟩)) (want_g rfl rfl (q129.a 39 rfl)) (fun hc => ex_fa rfl (q129.e (j := 7) rfl) (faS75 _ 2 2 (by decide) _)) rfl q129.z (by decide) (q129.k fun _ q130 => ?_);clear q129
    refine vl _ (.int .i64 (x.nd)) (want_g rfl rfl (q130.a 39 rfl)) (fun hc => ex_ld rfl (ev (q130.a 42 rfl) hc) (ldI18 (by rw [B4.cell]; rfl))) rfl q130.z (by decide) (q130.k fun _ q131 => ?_);clear q130
    refine vl _ (.bool false) (want_g rfl rfl (q131.a 39 rfl)) (fun hc => ex_bin rfl (ev (q131.a 41 rfl) hc) (ev (q131.a 43 rfl) hc) (neqF62 _ _ rfl _)) rfl q131.z (by decide) (q131.k fun _ q132 => ?_);clear q131
    refine q132.t (.bool false) (ex_or (c := true) (b := false) (z := false) rfl (q132.a 39 rfl) (q132.a 44 rfl) rfl) fun _ q133 => ?_;clear q132
    refine q133.t (.bool false) (ex_move rfl (q133.e (j := 45) rfl)) fun _ q134 => ?_;clear q133
    refine vl _ (.pointer (some ⟨wr.heap.size, 3, none⟩)) (want_g rfl rfl (q134.a 46 rfl)) (fun hc => ex_fa rfl (q134.e (j := 6) rfl) (faS75 _ 3 3 (by decide) _)) rfl q134.z (by decide) (q134.k fun _ q135 => ?_);clear q134
    refine vl _ (.int .i64 (x.vw)) (want_g rfl rfl (q135.a 46 rfl)) (fun hc => ex_ld rfl (ev (q135.a 47 rfl) hc) (ldI18 (by rw [B3x.cell]; rfl))) rfl q135.z (by decide) (q135.k fun _ q136 => ?_);clear q135
    refine vl _ (.pointer (some ⟨w2.heap.size, 3, none⟩)) (want_g rfl rfl (q136.a 46 rfl)) (fun hc => ex_fa rfl (q136.e (j := 7) rfl) (faS75 _ 3 3 (by decide) _)) rfl q136.z (by decide) (q136.k fun _ q137 => ?_);clear q136
    refine vl _ (.int .i64 (x.vw)) (want_g rfl rfl (q137.a 46 rfl)) (fun hc => ex_ld rfl (ev (q137.a 49 rfl) hc) (ldI18 (by rw [B4.cell]; rfl))) rfl q137.z (by decide) (q137.k fun _ q138 => ?_);clear q137
    refine vl _ (.bool false) (want_g rfl rfl (q138.a 46 rfl)) (fun hc => ex_bin rfl (ev (q138.a 48 rfl) hc) (ev (q138.a 50 rfl) hc) (neqF62 _ _ rfl _)) rfl q138.z (by decide) (q138.k fun _ q139 => ?_);clear q138
    refine q139.t (.bool false) (ex_or (c := true) (b := false) (z := false) rfl (q139.a 46 rfl) (q139.a 51 rfl) rfl) fun _ q140 => ?_;clear q139
    refine q140.t (.bool false) (ex_move rfl (q140.e (j := 52) rfl)) fun _ q141 => ?_;clear q140
    refine vl _ (.pointer (some ⟨wr.heap.size, 4, none⟩)) (want_g rfl rfl (q141.a 53 rfl)) (fun hc => ex_fa rfl (q141.e (j := 6) rfl) (faS75 _ 4 4 (by decide) _)) rfl q141.z (by decide) (q141.k fun _ q142 => ?_);clear q141
    refine vl _ (.int .i64 (x.pl)) (want_g rfl rfl (q142.a 53 rfl)) (fun hc => ex_ld rfl (ev (q142.a 54 rfl) hc) (ldI18 (by rw [B3x.cell]; rfl))) rfl q142.z (by decide) (q142.k fun _ q143 => ?_);clear q142
    refine vl _ (.pointer (some ⟨w2.heap.size, 4, none⟩)) (want_g rfl rfl (q143.a 53 rfl)) (fun hc => ex_fa rfl (q143.e (j := 7) rfl) (faS75 _ 4 4 (by decide) _)) rfl q143.z (by decide) (q143.k fun _ q144 => ?_);clear q143
    refine vl _ (.int .i64 (x.pl)) (want_g rfl rfl (q144.a 53 rfl)) (fun hc => ex_ld rfl (ev (q144.a 56 rfl) hc) (ldI18 (by rw [B4.cell]; rfl))) rfl q144.z (by decide) (q144.k fun _ q145 => ?_);clear q144
    refine vl _ (.bool false) (want_g rfl rfl (q145.a 53 rfl)) (fun hc => ex_bin rfl (ev (q145.a 55 rfl) hc) (ev (q145.a 57 rfl) hc) (neqF62 _ _ rfl _)) rfl q145.z (by decide) (q145.k fun _ q146 => ?_);clear q145
    refine q146.t (.bool false) (ex_or (c := true) (b := false) (z := false) rfl (q146.a 53 rfl) (q146.a 58 rfl) rfl) fun _ q147 => ?_;clear q146
    refine q147.t (.bool false) (ex_move rfl (q147.e (j := 59) rfl)) fun _ q148 => ?_;clear q147
    refine vl _ (.pointer (some ⟨wr.heap.size, 5, none⟩)) (want_g rfl rfl (q148.a 60 rfl)) (fun hc => ex_fa rfl (q148.e (j := 6) rfl) (faS75 _ 5 5 (by decide) _)) rfl q148.z (by decide) (q148.k fun _ q149 => ?_);clear q148
    refine vl _ (.agg #[.int .u64 x.dh, .int .u64 x.dl]) (want_g rfl rfl (q149.a 60 rfl)) (fun hc => ex_ld rfl (ev (q149.a 61 rfl) hc) B3x.ldSD) rfl q149.z (by decide) (q149.k fun _ q150 => ?_);clear q149
    refine vl _ (.pointer (some ⟨w2.heap.size, 5, none⟩)) (want_g rfl rfl (q150.a 60 rfl)) (fun hc => ex_fa rfl (q150.e (j := 7) rfl) (faS75 _ 5 5 (by decide) _)) rfl q150.z (by decide) (q150.k fun _ q151 => ?_);clear q150
    refine vl _ (.agg #[.int .u64 x.dh, .int .u64 x.dl]) (want_g rfl rfl (q151.a 60 rfl)) (fun hc => ex_ld rfl (ev (q151.a 63 rfl) hc) B4.ldSD) rfl q151.z (by decide) (q151.k fun _ q152 => ?_);clear q151
    refine vl _ (.bool false) (want_g rfl rfl (q152.a 60 rfl)) (fun hc => ex_bin rfl (ev (q152.a 62 rfl) hc) (ev (q152.a 64 rfl) hc) (neD75 _ _ _ _ _)) rfl q152.z (by decide) (q152.k fun _ q153 => ?_);clear q152
    refine q153.t (.bool false) (ex_or (c := true) (b := false) (z := false) rfl (q153.a 60 rfl) (q153.a 65 rfl) rfl) fun _ q154 => ?_;clear q153
    refine q154.t (.bool false) (ex_move rfl (q154.e (j := 66) rfl)) fun _ q155 => ?_;clear q154
    refine vl _ (.pointer (some ⟨wr.heap.size, 7, none⟩)) (want_g rfl rfl (q155.a 67 rfl)) (fun hc => ex_fa rfl (q155.e (j := 6) rfl) (faS75 _ 6 7 (by decide) _)) rfl q155.z (by decide) (q155.k fun _ q156 => ?_);clear q155
    refine vl _ (x.en.val) (want_g rfl rfl (q156.a 67 rfl)) (fun hc => ex_ld rfl (ev (q156.a 68 rfl) hc) B3x.ldSE) rfl q156.z (by decide) (q156.k fun _ q157 => ?_);clear q156
    refine vl _ (.pointer (some ⟨w2.heap.size, 7, none⟩)) (want_g rfl rfl (q157.a 67 rfl)) (fun hc => ex_fa rfl (q157.e (j := 7) rfl) (faS75 _ 6 7 (by decide) _)) rfl q157.z (by decide) (q157.k fun _ q158 => ?_);clear q157
    refine vl _ (x.en.val) (want_g rfl rfl (q158.a 67 rfl)) (fun hc => ex_ld rfl (ev (q158.a 70 rfl) hc) B4.ldSE) rfl q158.z (by decide) (q158.k fun _ q159 => ?_);clear q158
    refine vl _ (.bool false) (want_g rfl rfl (q159.a 67 rfl)) (fun hc => ex_bin rfl (ev (q159.a 69 rfl) hc) (ev (q159.a 71 rfl) hc) (neE75 _ _ _ _)) rfl q159.z (by decide) (q159.k fun _ q160 => ?_);clear q159
    refine q160.t (.bool false) (ex_or (c := true) (b := false) (z := false) rfl (q160.a 67 rfl) (q160.a 72 rfl) rfl) fun _ q161 => ?_;clear q160
    refine q161.t (.bool false) (ex_move rfl (q161.e (j := 73) rfl)) fun _ q162 => ?_;clear q161
    refine vl _ (.pointer (some ⟨wr.heap.size, 12, none⟩)) (want_g rfl rfl (q162.a 74 rfl)) (fun hc => ex_fa rfl (q162.e (j := 6) rfl) (faS75 _ 7 12 (by decide) _)) rfl q162.z (by decide) (q162.k fun _ q163 => ?_);clear q162
    refine vl _ (rV x.r) (want_g rfl rfl (q163.a 74 rfl)) (fun hc => ex_ld rfl (ev (q163.a 75 rfl) hc) B3x.ldSR) rfl q163.z (by decide) (q163.k fun _ q164 => ?_);clear q163
    refine vl _ (.pointer (some ⟨w2.heap.size, 12, none⟩)) (want_g rfl rfl (q164.a 74 rfl)) (fun hc => ex_fa rfl (q164.e (j := 7) rfl) (faS75 _ 7 12 (by decide) _)) rfl q164.z (by decide) (q164.k fun _ q165 => ?_);clear q164
    refine vl _ (rV x.r) (want_g rfl rfl (q165.a 74 rfl)) (fun hc => ex_ld rfl (ev (q165.a 77 rfl) hc) B4.ldSR) rfl q165.z (by decide) (q165.k fun _ q166 => ?_);clear q165
    refine vl _ (.bool false) (want_g rfl rfl (q166.a 74 rfl)) (fun hc => ex_bin rfl (ev (q166.a 76 rfl) hc) (ev (q166.a 78 rfl) hc) (neR75 _ _ _ _)) rfl q166.z (by decide) (q166.k fun _ q167 => ?_);clear q166
    refine q167.t (.bool false) (ex_or (c := true) (b := false) (z := false) rfl (q167.a 74 rfl) (q167.a 79 rfl) rfl) fun _ q168 => ?_;clear q167
    refine q168.t (.bool false) (ex_move rfl (q168.e (j := 80) rfl)) fun _ q169 => ?_;clear q168
    refine vl _ (.pointer (some ⟨wr.heap.size, 16, none⟩)) (want_g rfl rfl (q169.a 81 rfl)) (fun hc => ex_fa rfl (q169.e (j := 6) rfl) (faS75 _ 9 16 (by decide) _)) rfl q169.z (by decide) (q169.k fun _ q170 => ?_);clear q169
    refine vl _ (.pointer (some ⟨wr.heap.size, 16, none⟩)) (want_g rfl rfl (q170.a 81 rfl)) (fun hc => ex_fa rfl (ev (q170.a 82 rfl) hc) (faP75 _ 16 0 (by decide) _)) rfl q170.z (by decide) (q170.k fun _ q171 => ?_);clear q170
    refine vl _ (.int .i64 (x.pf)) (want_g rfl rfl (q171.a 81 rfl)) (fun hc => ex_ld rfl (ev (q171.a 83 rfl) hc) (ldI18 (by rw [B3x.cell]; rfl))) rfl q171.z (by decide) (q171.k fun _ q172 => ?_);clear q171
    refine vl _ (.pointer (some ⟨w2.heap.size, 16, none⟩)) (want_g rfl rfl (q172.a 81 rfl)) (fun hc => ex_fa rfl (q172.e (j := 7) rfl) (faS75 _ 9 16 (by decide) _)) rfl q172.z (by decide) (q172.k fun _ q173 => ?_);clear q172
    refine vl _ (.pointer (some ⟨w2.heap.size, 16, none⟩)) (want_g rfl rfl (q173.a 81 rfl)) (fun hc => ex_fa rfl (ev (q173.a 85 rfl) hc) (faP75 _ 16 0 (by decide) _)) rfl q173.z (by decide) (q173.k fun _ q174 => ?_);clear q173
    refine vl _ (.int .i64 (x.pf)) (want_g rfl rfl (q174.a 81 rfl)) (fun hc => ex_ld rfl (ev (q174.a 86 rfl) hc) (ldI18 (by rw [B4.cell]; rfl))) rfl q174.z (by decide) (q174.k fun _ q175 => ?_);clear q174
    refine vl _ (.bool false) (want_g rfl rfl (q175.a 81 rfl)) (fun hc => ex_bin rfl (ev (q175.a 84 rfl) hc) (ev (q175.a 87 rfl) hc) (neqF62 _ _ rfl _)) rfl q175.z (by decide) (q175.k fun _ q176 => ?_);clear q175
    refine q176.t (.bool false) (ex_or (c := true) (b := false) (z := false) rfl (q176.a 81 rfl) (q176.a 88 rfl) rfl) fun _ q177 => ?_;clear q176
    refine q177.t (.bool false) (ex_move rfl (q177.e (j := 89) rfl)) fun _ q178 => ?_;clear q177
    refine vl _ (.pointer (some ⟨wr.heap.size, 16, none⟩)) (want_g rfl rfl (q178.a 90 rfl)) (fun hc => ex_fa rfl (q178.e (j := 6) rfl) (faS75 _ 9 16 (by decide) _)) rfl q178.z (by decide) (q178.k fun _ q179 => ?_);clear q178
    refine vl _ (.pointer (some ⟨wr.heap.size, 17, none⟩)) (want_g rfl rfl (q179.a 90 rfl)) (fun hc => ex_fa rfl (ev (q179.a 91 rfl) hc) (faP75 _ 16 1 (by decide) _)) rfl q179.z (by decide) (q179.k fun _ q180 => ?_);clear q179
    refine vl _ (.int .i64 (x.pt)) (want_g rfl rfl (q180.a 90 rfl)) (fun hc => ex_ld rfl (ev (q180.a 92 rfl) hc) (ldI18 (by rw [B3x.cell]; rfl))) rfl q180.z (by decide) (q180.k fun _ q181 => ?_);clear q180
    refine vl _ (.pointer (some ⟨w2.heap.size, 16, none⟩)) (want_g rfl rfl (q181.a 90 rfl)) (fun hc => ex_fa rfl (q181.e (j := 7) rfl) (faS75 _ 9 16 (by decide) _)) rfl q181.z (by decide) (q181.k fun _ q182 => ?_);clear q181
    refine vl _ (.pointer (some ⟨w2.heap.size, 17, none⟩)) (want_g rfl rfl (q182.a 90 rfl)) (fun hc => ex_fa rfl (ev (q182.a 94 rfl) hc) (faP75 _ 16 1 (by decide) _)) rfl q182.z (by decide) (q182.k fun _ q183 => ?_);clear q182
    refine vl _ (.int .i64 (x.pt)) (want_g rfl rfl (q183.a 90 rfl)) (fun hc => ex_ld rfl (ev (q183.a 95 rfl) hc) (ldI18 (by rw [B4.cell]; rfl))) rfl q183.z (by decide) (q183.k fun _ q184 => ?_);clear q183
    refine vl _ (.bool false) (want_g rfl rfl (q184.a 90 rfl)) (fun hc => ex_bin rfl (ev (q184.a 93 rfl) hc) (ev (q184.a 96 rfl) hc) (neqF62 _ _ rfl _)) rfl q184.z (by decide) (q184.k fun _ q185 => ?_);clear q184
    refine q185.t (.bool false) (ex_or (c := true) (b := false) (z := false) rfl (q185.a 90 rfl) (q185.a 97 rfl) rfl) fun _ q186 => ?_;clear q185
    refine wpList_nil ?_
    go_upto_region 10 with fail
    refine wp_cond_false (q186.e (j := 98) rfl) ?_
    go_upto_region 10 with fail
    refine wp_region_lit ?_
    have c3l : w4.cell? ⟨wr.heap.size, 15, none⟩ = some (.slice y.lg.a x.lg.D.length y.lg.c) := by rw [B3.cell, ← hl9]; rfl
    have c3b : w4.cell? ⟨wr.heap.size, 18, none⟩ = some (.slice y.bt.a x.bt.D.length y.bt.c) := by rw [B3.cell, ← hb9]; rfl
    have c4b : w4.cell? ⟨w2.heap.size, 18, none⟩ = some (.slice x.bt.a x.bt.D.length x.bt.c) := by rw [B4.cell]; rfl
    refine q186.t (.pointer (some ⟨wr.heap.size, 15, none⟩)) (ex_fa rfl (q186.e (j := 6) rfl) (faS75 _ 8 15 (by decide) _)) fun _ q187 => ?_;clear q186
    refine q187.t (.slice y.lg.a x.lg.D.length y.lg.c) (ex_ld rfl (q187.e (j := 99) rfl) (ldEn73 c3l)) fun _ q188 => ?_;clear q187
    refine q188.t (.pointer (some ⟨w2.heap.size, 15, none⟩)) (ex_fa rfl (q188.e (j := 7) rfl) (faS75 _ 8 15 (by decide) _)) fun _ q189 => ?_;clear q188
    refine q189.t (.slice x.lg.a x.lg.D.length x.lg.c) (ex_ld rfl (q189.e (j := 101) rfl) (ldEn73 (by rw [B4.cell]; rfl))) fun _ q190 => ?_;clear q189
    refine vcallP (want_none rfl) (ex_call rfl (by simp only [List.map_toArray, List.map_cons, List.map_nil, (q190.e (j := 100) rfl), (q190.e (j := 102) rfl), evc] <;> rfl) rfl) (sameEntries18 x.lg.D y.lg.a x.lg.a y.lg.c x.lg.c w4 sy sx (by have := fx.nl; omega)) rfl q190.z (by decide) ?_
    rintro e w5 ⟨rfl, b5⟩
    refine ⟨_, rfl, q190.k fun _ q191 => ?_⟩;clear q190
    have y5 := b5.size
    have d5 := d4.trans (b5.mono d4.size)
    replace c3b := (b5.cell (p := ⟨wr.heap.size, 18, none⟩) (by show wr.heap.size < w4.heap.size; omega)).trans c3b
    replace c4b := (b5.cell (p := ⟨w2.heap.size, 18, none⟩) (by show w2.heap.size < w4.heap.size; omega)).trans c4b
    refine q191.t (.bool false) (ex_not rfl (q191.e (j := 103) rfl)) fun _ q192 => ?_;clear q191
    refine q192.t (.bool false) (ex_move rfl (q192.e (j := 104) rfl)) fun _ q193 => ?_;clear q192
    refine vl _ (.pointer (some ⟨wr.heap.size, 16, none⟩)) (want_g rfl rfl (q193.a 105 rfl)) (fun hc => ex_fa rfl (q193.e (j := 6) rfl) (faS75 _ 9 16 (by decide) _)) rfl q193.z (by decide) (q193.k fun _ q194 => ?_);clear q193
    refine vl _ (.pointer (some ⟨wr.heap.size, 18, none⟩)) (want_g rfl rfl (q194.a 105 rfl)) (fun hc => ex_fa rfl (ev (q194.a 106 rfl) hc) (faP75 _ 16 2 (by decide) _)) rfl q194.z (by decide) (q194.k fun _ q195 => ?_);clear q194
    refine vl _ (.slice y.bt.a x.bt.D.length y.bt.c) (want_g rfl rfl (q195.a 105 rfl)) (fun hc => ex_ld rfl (ev (q195.a 107 rfl) hc) (ldB73 c3b)) rfl q195.z (by decide) (q195.k fun _ q196 => ?_);clear q195
    refine vl _ (.pointer (some ⟨w2.heap.size, 16, none⟩)) (want_g rfl rfl (q196.a 105 rfl)) (fun hc => ex_fa rfl (q196.e (j := 7) rfl) (faS75 _ 9 16 (by decide) _)) rfl q196.z (by decide) (q196.k fun _ q197 => ?_);clear q196
    refine vl _ (.pointer (some ⟨w2.heap.size, 18, none⟩)) (want_g rfl rfl (q197.a 105 rfl)) (fun hc => ex_fa rfl (ev (q197.a 109 rfl) hc) (faP75 _ 16 2 (by decide) _)) rfl q197.z (by decide) (q197.k fun _ q198 => ?_);clear q197
    refine vl _ (.slice x.bt.a x.bt.D.length x.bt.c) (want_g rfl rfl (q198.a 105 rfl)) (fun hc => ex_ld rfl (ev (q198.a 110 rfl) hc) (ldB73 c4b)) rfl q198.z (by decide) (q198.k fun _ q199 => ?_);clear q198
    refine vcallP (show Region.wanted _ _ = (true && (false == false)) from want_g rfl rfl (q199.a 105 rfl)) (ex_call rfl (by simp only [List.map_toArray, List.map_cons, List.map_nil, (ev (q199.a 108 rfl) rfl), (ev (q199.a 111 rfl) rfl), evc] <;> rfl) rfl) (sameBytes75 x.bt.D y.bt.a x.bt.a y.bt.c x.bt.c w5 (by_.later b5) (bx.later b5)) rfl q199.z (by decide) ?_
    rintro e w9 ⟨rfl, hw9⟩
    refine ⟨_, rfl, q199.k fun _ q200 => ?_⟩;clear q199
    have hw9 := hw9.symm
    subst hw9
    refine vl _ (.bool false) (want_g rfl rfl (q200.a 105 rfl)) (fun hc => ex_not rfl (ev (q200.a 112 rfl) hc)) rfl q200.z (by decide) (q200.k fun _ q201 => ?_);clear q200
    refine q201.t (.bool false) (ex_or (c := true) (b := false) (z := false) rfl (q201.a 105 rfl) (q201.a 113 rfl) rfl) fun _ q202 => ?_;clear q201
    refine wpList_nil ?_
    go_upto_region 5 with fail
    refine wp_cond_false (q202.e (j := 114) rfl) ?_
    go_upto_region 5 with fail
    refine wp_region_lit ?_
    refine q202.t (.int .i64 ((j : Nat) : Int)) (ex_move rfl (q202.e (j := 5) rfl)) fun _ q203 => ?_;clear q202
    refine q203.t (.int .i64 ((j + 1 : Nat) : Int)) (ex_bin rfl (q203.e (j := 17) rfl) rfl (add1C _ _ j (by omega) _)) fun _ q204 => ?_;clear q203
    refine q204.t (.int .i64 ((j + 1 : Nat) : Int)) (ex_assign rfl (q204.e (j := 18) rfl)) fun _ q205 => ?_;clear q204
    have q206 := ((((Rp.nil q205.z).cons (q205.a 0 rfl)).cons (q205.a 1 rfl)).cons (q205.a 5 rfl))
    clear q205
    refine wpList_nil ?_
    exact ⟨_, rfl, hit, q206, d5⟩
  · obtain rfl : j = D.length := by omega
    go_upto_region 4 with fail
    refine wp_region_lit ?_
    refine q100.t (.int .i64 ((D.length : Nat) : Int)) (ex_move rfl (q100.e (j := 5) rfl)) fun _ q101 => ?_;clear q100
    refine q101.t (.slice a D.length c) (ex_move rfl (q101.e (j := 0) rfl)) fun _ q102 => ?_;clear q101
    refine q102.t (.int .i64 ((D.length : Nat) : Int)) (ex_lenSn rfl rfl (q102.e (j := 14) rfl)) fun _ q103 => ?_;clear q102
    refine q103.t (.bool false) (ex_bin rfl (q103.e (j := 13) rfl) (q103.e (j := 15) rfl) (ltF _ _ hit _)) fun _ q104 => ?_;clear q103
    refine wpList_nil ?_
    go_upto_region 12 with fail
    refine wp_cond_false (q104.e (j := 16) rfl) ?_
    go_upto_region 12 with fail
    refine wp_region_lit ?_
    refine q104.t (.bool true) (ex_assign rfl rfl) fun _ q105 => ?_;clear q104
    refine wpList_nil ?_
    go_wp2
    refine bodyPost_ret (results_tmp rfl _ _ _) rfl ?_
    rw [getD_of (q105.a 4 rfl)]
    exact ⟨rfl, d⟩
end Go.Proofs.Yteamgkadhlbflaa
