import Derived.Test.YtjodieiaccfkiaaS7
import Derived.ChangeKeysEq
import Derived.Laws.BytesArg
import Derived.Lib.SlBytesConst
namespace Go.Proofs.Ytjodieiaccfkiaa
open Go.RowKit Go.Maps
open Classical
set_option linter.unusedVariables false
set_option linter.unusedSimpArgs false

def txt (s : ByteArray) : List Int := s.data.toList.map fun b => (b.toNat : Int)
def dgS : ByteArray := ⟨#[48, 49, 50, 51, 52, 53, 54, 55, 56, 57, 97, 98, 99, 100, 101, 102]⟩
def dgN (i : Nat) : Int := (txt dgS).getD i 0
def prN (n : Nat) : List Int := [dgN (n / 16), dgN (n % 16)]
def prF (h : List Int) : List Int := h.flatMap fun b => prN b.toNat
theorem prF_at {h : List Int} {j : Nat} {x : Int} (e : h[j]? = some x) : prF (h.take (j + 1)) = prF (h.take j) ++ prN x.toNat := by
  obtain ⟨hj, rfl⟩ := List.getElem?_eq_some_iff.1 e
  unfold prF
  rw [List.take_succ_eq_append_getElem hj, List.flatMap_append, List.flatMap_cons, List.flatMap_nil, List.append_nil]
theorem prF_len (h : List Int) : (prF h).length = 2 * h.length := by
  induction h with
  | nil => rfl
  | cons x r ih => rw [prF, List.flatMap_cons, List.length_append, List.length_cons, ← prF, ih]; simp [prN]; omega
/-- A hash's bytes. -/
structure Hb (h : List Int) : Prop where
  len : h.length = 32
  in_ : ∀ x ∈ h, 0 ≤ x ∧ x < 256
theorem Hb.at_ {h : List Int} (k : Hb h) {j : Nat} (hj : j < 32) : ∃ n : Nat, n < 256 ∧ h[j]? = some (n : Int) ∧ h.getD j 0 = (n : Int) := by
  have hj2 : j < h.length := by rw [k.len]; exact hj
  have := k.in_ h[j] (List.getElem_mem hj2)
  refine ⟨h[j].toNat, by omega, ?_, ?_⟩
  · rw [List.getElem?_eq_getElem hj2, Int.toNat_of_nonneg this.1]
  · rw [List.getD_eq_getElem?_getD, List.getElem?_eq_getElem hj2, Int.toNat_of_nonneg this.1]
    rfl
theorem part_b (h : List Int) (i : Nat) (hi : i < h.length) (w : World) : (part 5 (h.map bV).toArray i).run Try.prog w = .ok (.int .u8 (h.getD i 0)) w := by
  have e1 : (isAgg 5).run Try.prog w = .ok false w := by kernel_rfl
  have e2 : (h.map bV).toArray[i]? = some (.int .u8 (h.getD i 0)) := by
    rw [List.getElem?_toArray, List.getElem?_map, List.getD_eq_getElem?_getD, List.getElem?_eq_getElem hi]
    rfl
  unfold part
  rw [Sem.run_bind, e1, Result.andThen_ok]
  simp [e2]
theorem items_b {h k : List Int} (hl : h.length = 32) (kl : k.length = 32) (d : Nat) (w : World) : ∀ is : List Nat, (∀ i ∈ is, i < 32) → (Op.eqItems (d + 1) 5 1 (h.map bV).toArray (k.map bV).toArray is).run Try.prog w = .ok (is.all fun i => h.getD i 0 == k.getD i 0) w
  | [], _ => rfl
  | i :: is, hi => by
    have h0 : i < 32 := hi i (by simp)
    rw [Op.eqItems, Nat.mul_one, Sem.run_bind, part_b h i (by omega), Result.andThen_ok, Sem.run_bind, part_b k i (by omega), Result.andThen_ok, Sem.run_bind, run_equalIn_int w d 5 .u8 .u8 _ _ Try.underlying5, Result.andThen_ok, List.all_cons]
    cases he : h.getD i 0 == k.getD i 0 with
    | false => rfl
    | true =>
      rw [if_neg (by simp), items_b hl kl d w is (fun j hj => hi j (by simp [hj])), Bool.true_and]
theorem all_eq {h k : List Int} (hl : h.length = 32) (kl : k.length = 32) : ((List.range 32).all fun i => h.getD i 0 == k.getD i 0) = decide (h = k) := by
  rw [Bool.eq_iff_iff, List.all_eq_true, decide_eq_true_eq]
  constructor
  · intro e
    apply List.ext_getElem (by omega)
    intro i h1 h2
    have := e i (List.mem_range.2 (by omega))
    rw [List.getD_eq_getElem?_getD, List.getD_eq_getElem?_getD, List.getElem?_eq_getElem h1, List.getElem?_eq_getElem h2] at this
    simpa using this
  · rintro rfl i _
    simp
theorem eqH {h k : List Int} (hl : h.length = 32) (kl : k.length = 32) (w : World) : (Op.equal 32 (.agg (h.map bV).toArray) (.agg (k.map bV).toArray)).run Try.prog w = .ok (decide (h = k)) w := by
  have hi0 := i1b
  rw [Option.map_eq_some_iff] at hi0
  obtain ⟨i, hi, _⟩ := hi0
  have hc : Try.prog.cellsOf 5 = 1 := by kernel_rfl
  have := run_equalIn_array (P := Try.prog) w 9999 (h.map bV).toArray (k.map bV).toArray Try.underlying32 hi
  rw [hc, items_b hl kl 9998 w _ (fun i hi => List.mem_range.1 hi), all_eq hl kl] at this
  exact this
theorem gdH (x y : Operand) (op : BinOp) (A B : Array Value) (w : World) (h : op = .eql ∨ op = .neq) : (eqGuard op 32 x y (.agg A) (.agg B)).run Try.prog w = .ok () w := by
  have e : (Try.prog.eqGuardType Try.prog.depth 32) = false := by kernel_rfl
  rcases h with rfl | rfl
  · unfold eqGuard
    simp [e]
  · unfold eqGuard
    simp [e]
theorem eqlH (x y : Operand) {h k : List Int} (hl : h.length = 32) (kl : k.length = 32) (w : World) : (do eqGuard .eql 32 x y (.agg (h.map bV).toArray) (.agg (k.map bV).toArray); binOp .eql 32 (.agg (h.map bV).toArray) (.agg (k.map bV).toArray) : Sem Value).run Try.prog w = .ok (.bool (decide (h = k))) w := by
  rw [Sem.run_bind, gdH x y .eql _ _ w (.inl rfl), Result.andThen_ok]
  show (do pure (.bool (← Op.equal 32 (.agg (h.map bV).toArray) (.agg (k.map bV).toArray))) : Sem Value).run Try.prog w = _
  rw [Sem.run_bind, eqH hl kl]
  rfl
theorem neqH (x y : Operand) {h k : List Int} (hl : h.length = 32) (kl : k.length = 32) (w : World) : (do eqGuard .neq 32 x y (.agg (h.map bV).toArray) (.agg (k.map bV).toArray); binOp .neq 32 (.agg (h.map bV).toArray) (.agg (k.map bV).toArray) : Sem Value).run Try.prog w = .ok (.bool (!decide (h = k))) w := by
  rw [Sem.run_bind, gdH x y .neq _ _ w (.inr rfl), Result.andThen_ok]
  show (do pure (.bool (!(← Op.equal 32 (.agg (h.map bV).toArray) (.agg (k.map bV).toArray)))) : Sem Value).run Try.prog w = _
  rw [Sem.run_bind, eqH hl kl]
  rfl
theorem idxH (h : List Int) (hl : h.length = 32) (j : Nat) (hj : j < 32) (w : World) : (Instr.index 32 (.agg (h.map bV).toArray) (.int .i64 (j : Int))).run Try.prog w = .ok (.int .u8 (h.getD j 0)) w := by
  have h1 : (j : Int) < 32 := by omega
  have hs : (sizeOf 5).run Try.prog w = .ok 1 w := by kernel_rfl
  have hp := part_b h j (by omega) w
  unfold Instr.index
  rw [Sem.run_bind]
  simp only [asIntOf, Sem.run_pure, Result.andThen_ok, Sem.run_bind, run_underlying Try.underlying32]
  rw [if_pos ⟨by omega, by simpa using h1⟩]
  simp only [Sem.run_bind, hs, Result.andThen_ok, Int.toNat_natCast, Nat.mul_one]
  exact hp
theorem idxS (s : ByteArray) (k : IntKind) (i : Nat) (hi : i < (txt s).length) (w : World) : (Instr.index 9 (.string s) (.int k (i : Int))).run Try.prog w = .ok (.int .u8 ((txt s).getD i 0)) w := by
  have hi2 : i < s.data.toList.length := by simpa [txt] using hi
  have hi3 : i < s.size := by rw [Array.length_toList] at hi2; exact hi2
  have e : s[i]? = some s[i] := getElem?_pos s i hi3
  have e2 : (txt s).getD i 0 = ((s[i].toNat : Nat) : Int) := by
    rw [txt, List.getD_eq_getElem?_getD, List.getElem?_map, List.getElem?_eq_getElem hi2]
    rfl
  unfold Instr.index
  rw [Sem.run_bind]
  simp only [asIntOf, Sem.run_pure, Result.andThen_ok, Sem.run_bind, run_underlying Try.underlying9]
  rw [if_pos (by omega), Int.toNat_natCast, e, e2]
  rfl
theorem dg_len : (txt dgS).length = 16 := rfl
theorem idxD (i : Nat) (hi : i < 16) (w : World) : (Instr.index 9 (.string dgS) (.int .u8 (i : Int))).run Try.prog w = .ok (.int .u8 (dgN i)) w := idxS dgS .u8 i (by rw [dg_len]; exact hi) w
theorem shr8 (x y : Operand) (n : Nat) (w : World) : (do eqGuard .shr 5 x y (.int .u8 (n : Int)) (.int .u64 4); binOp .shr 5 (.int .u8 (n : Int)) (.int .u64 4) : Sem Value).run Try.prog w = .ok (.int .u8 ((n / 16 : Nat) : Int)) w := by
  have h2 := shift_shr .u8 .u64 (n : Int) 4 (by omega) (by show (4 : Int) ≤ ((_ : Nat) : Int); simp [IntKind.bits])
  rw [Sem.run_bind]
  have e : (eqGuard .shr 5 x y (.int .u8 (n : Int)) (.int .u64 4)).run Try.prog w = .ok () w := by go_simp
  rw [e, Result.andThen_ok]
  show (Op.shift .shr .u8 (n : Int) .u64 4).run Try.prog w = _
  rw [h2]
  rfl
theorem and8 (x y : Operand) (n : Nat) (hn : n < 256) (w : World) : (do eqGuard .and 5 x y (.int .u8 (n : Int)) (.int .u8 15); binOp .and 5 (.int .u8 (n : Int)) (.int .u8 15) : Sem Value).run Try.prog w = .ok (.int .u8 ((n % 16 : Nat) : Int)) w := by
  have h2 : bits .and .u8 (n : Int) 15 = ((n % 16 : Nat) : Int) := by
    have := bits_mask .u8 8 (Nat.le_refl _) (fun n h0 h1 => wraps_u8 n h0 h1) 4 (by decide) (n : Int) (by omega) (by show (n : Int) < 256; omega)
    exact this
  go_simp
  first | done | simpa using h2
theorem quo8 (x y : Operand) (n : Nat) (hn : n < 256) (w : World) : (do eqGuard .quo 5 x y (.int .u8 (n : Int)) (.int .u8 16); binOp .quo 5 (.int .u8 (n : Int)) (.int .u8 16) : Sem Value).run Try.prog w = .ok (.int .u8 ((n / 16 : Nat) : Int)) w := by
  have h1 : (n : Int).tdiv 16 = ((n / 16 : Nat) : Int) := by rw [Int.tdiv_eq_ediv_of_nonneg (by omega)]; rfl
  have h2 : IntKind.u8.wrap ((n : Int) / 16) = (n : Int) / 16 := by rw [IntKind.wrap_u8]; omega
  go_simp
theorem rem8 (x y : Operand) (n : Nat) (w : World) : (do eqGuard .rem 5 x y (.int .u8 (n : Int)) (.int .u8 16); binOp .rem 5 (.int .u8 (n : Int)) (.int .u8 16) : Sem Value).run Try.prog w = .ok (.int .u8 ((n % 16 : Nat) : Int)) w := by
  have h1 : (n : Int).tmod 16 = ((n % 16 : Nat) : Int) := by rw [Int.tmod_eq_emod_of_nonneg (by omega)]; rfl
  go_simp
theorem bs2B (x y : Int) (w : World) : (Instr.buildSlice 22 2 #[(0, .int .u8 x), (1, .int .u8 y)]).run Try.prog w = .ok (.slice (some ⟨w.heap.size, 0, none⟩) 2 2) (w.alloc (.cells (([x, y] : List Int).map bV).toArray 5)) := by
  simp only [List.map_cons, List.map_nil, bV]
  go_simp
theorem ex_mk19 {o : Oper} {ρ : Operand → Value} {s : TypeId} {x y : Operand} {X Y V : Value} {w w' : World} (ho : o.op = .makeSlice s x y) (hx : ρ x = X) (hy : ρ y = Y) (hr : (Instr.makeSlice s X Y).run Try.prog w = .ok V w') : (execOp ρ o).run Try.prog w = .ok (.value V) w' := by
  unfold execOp
  simp only [ho, hx, hy, Sem.run_bind, hr, Result.andThen_ok]
  rfl
theorem mk64 (w : World) : ∃ w', (Instr.makeSlice 22 (.int .i64 0) (.int .i64 64)).run Try.prog w = .ok (.slice (some ⟨w.heap.size, 0, none⟩) 0 64) w' ∧ OwnY yB9 w.heap.size w' (.slice (some ⟨w.heap.size, 0, none⟩) 0 64) [] ∧ Below w.heap.size w w' := by
  obtain ⟨zv, hinfo, hzc⟩ := kB9.info
  obtain ⟨i0, hi, hz0, hz1, hz2⟩ := info_parts hinfo
  have hr := run_make (P := Try.prog) w yB9.ST yB9.T i0 zv kB9.und hi hz0 .i64 .i64 0 64 (Int.le_refl _) (by omega) (room_int (n := 64) hz2 (by decide)) (by omega)
  rw [hz1] at hr
  exact ⟨_, hr, World.ownsRow_made w _ 64 (Nat.le_refl _) (by unfold maxLen; omega) (size_madeCells _ _), (Below.refl _ _).alloc (Nat.le_refl _) _⟩
theorem cv_str {w : World} {a : Option Addr} {n c : Nat} {l : List Int} (h : SlY yB9 w a n c l) (hne : l ≠ []) : (Go.convert 22 9 (.slice a n c)).run Try.prog w = .ok (.string (strOfNums l)) w := by
  obtain ⟨q, o, rfl, _, _⟩ := h.place hne
  refine run_convert_bytes_arg w 22 5 Try.underlying22 Try.underlying5 q o n c l h.len (fun i hi => ?_) 9 Try.underlying9
  obtain ⟨q', o', e, _, hc⟩ := h.b9 (j := i) (by rw [h.len]; exact hi)
  obtain ⟨rfl, rfl⟩ : q = q' ∧ o = o' := by simpa using e
  exact hc
theorem eqlS (x y : Operand) (s t : ByteArray) (w : World) : (do eqGuard .eql 9 x y (.string s) (.string t); binOp .eql 9 (.string s) (.string t) : Sem Value).run Try.prog w = .ok (.bool (s.toList == t.toList)) w := by go_simp
theorem bxH (h : List Int) (w : World) : (Instr.box 32 (.agg (h.map bV).toArray)).run Try.prog w = .ok (.pointer (some ⟨w.heap.size, 0, none⟩)) (w.alloc (.cells (h.map bV).toArray 32)) := rfl
theorem bs3B (x y z : Int) (w : World) : (Instr.buildSlice 22 3 #[(0, .int .u8 x), (1, .int .u8 y), (2, .int .u8 z)]).run Try.prog w = .ok (.slice (some ⟨w.heap.size, 0, none⟩) 3 3) (w.alloc (.cells (([x, y, z] : List Int).map bV).toArray 5)) := by
  simp only [List.map_cons, List.map_nil, bV]
  go_simp
theorem slM (w : World) (L : List Int) (e : TypeId) (fr : Nat × Nat) (hm : L.length ≤ maxLen) : SlY yB9 (w.alloc (.cells (L.map bV).toArray e fr)) (some ⟨w.heap.size, 0, none⟩) L.length L.length L := by
  refine ⟨rfl, Nat.le_refl _, hm, (fun e => by cases e), fun x hx => .inr ⟨w.heap.size, 0, (Option.some.inj hx).symm, by rw [World.size_alloc]; omega, fun i x hx j v hv => ?_⟩⟩
  obtain ⟨hi, rfl⟩ := List.getElem?_eq_some_iff.1 hx
  have hj : j = 0 := by
    cases j with
    | zero => rfl
    | succ j => simp [yB9] at hv
  subst hj
  obtain rfl : Value.int .u8 L[i] = v := by simpa [yB9] using hv
  have hb := World.alloc_heap_new w (.cells (L.map bV).toArray e fr)
  unfold World.cell?
  simp only [hb]
  simp [yB9, List.getElem?_eq_getElem hi, bV]
theorem ex_bs3 {o : Oper} {ρ : Operand → Value} {s : TypeId} {x y z : Operand} {X Y Z V : Value} {w w' : World} (ho : o.op = .buildSlice s 3 #[(0, x), (1, y), (2, z)]) (hx : ρ x = X) (hy : ρ y = Y) (hz : ρ z = Z) (hr : (Instr.buildSlice s 3 #[(0, X), (1, Y), (2, Z)]).run Try.prog w = .ok V w') : (execOp ρ o).run Try.prog w = .ok (.value V) w' := by
  unfold execOp
  simp only [ho, List.map_toArray, List.map_cons, List.map_nil, hx, hy, hz, Sem.run_bind, hr, Result.andThen_ok]
  rfl
set_option maxRecDepth 100000 in
set_option maxHeartbeats 2000000 in
theorem print19 (h : List Int) (hh : Hb h) (w : World) :
    Calls Try.prog 17 #[.agg (h.map bV).toArray] w fun e w' => e = .returned (.string (strOfNums (prF h))) ∧ Below w.heap.size w w' := by
  go_enter Try.func17, Try.ntmps17
  go_upto_region 0 with fail
  refine wp_region_lit ?_
  refine vl_gen (fun T => Rp T 23 [(0, gw true (.agg (h.map bV).toArray))]) ((Rp.nil rfl).cons rfl) (fun Z0 q0 => ?_)
  obtain ⟨w1, hw1⟩ : ∃ y, y = w.alloc (.cells (h.map bV).toArray 32) := ⟨_, rfl⟩
  refine vw (.pointer (some ⟨w.heap.size, 0, none⟩)) w1 (want_none rfl) (ex_box18 rfl (q0.e (j := 0) rfl) (by rw [hw1]; exact bxH _ _)) rfl q0.z (by decide) (q0.k fun _ q1 => ?_);clear q0
  have B1 : BB w1 w.heap.size 32 (h.map bV) := by rw [hw1]; exact BB.new _ _ _
  have b1 : Below w.heap.size w w1 := by rw [hw1]; exact (Below.refl _ _).alloc (Nat.le_refl _) _
  have z1 := b1.size
  clear hw1
  have hm : (h.map bV).length = 32 := by rw [len_bV, hh.len]
  refine q1.t (.string ⟨#[]⟩) (ex_assign rfl rfl) fun _ q2 => ?_;clear q1
  refine wpList_nil ?_
  go_upto_region 1 with fail
  refine wp_region_lit ?_
  obtain ⟨w2, hk2, o2, b2⟩ := mk64 w1
  have bw2 : Below w.heap.size w w2 := b1.trans (b2.mono z1)
  have B2 := B1.later b2
  have o2 := o2.low z1
  refine vw (.slice (some ⟨w1.heap.size, 0, none⟩) 0 64) w2 (want_none rfl) (ex_mk19 rfl rfl rfl hk2) rfl q2.z (by decide) (q2.k fun _ q3 => ?_);clear q2
  refine q3.t (.slice (some ⟨w1.heap.size, 0, none⟩) 0 64) (ex_assign rfl (q3.e (j := 6) rfl)) fun _ q4 => ?_;clear q3
  refine wpList_nil ?_
  go_upto_region 2 with fail
  refine wp_region_lit ?_
  refine q4.t (.agg (h.map bV).toArray) (ex_ld rfl (q4.e (j := 1) rfl) (B2.ld 32 Try.underlying32 rfl (by rw [hm]; exact i32h))) fun _ q5 => ?_;clear q4
  refine q5.t (.int .i64 ((0 : Nat) : Int)) (ex_move rfl rfl) fun _ q6 => ?_;clear q5
  have q7 := ((((Rp.nil q6.z).cons (q6.a 3 rfl)).cons (q6.a 7 rfl)).cons (q6.a 8 rfl))
  clear q6
  refine wpList_nil ?_
  go_upto_region 3 with fail
  refine v_loop 8 32 (fun j T wr => ∃ v, Rp T 23 [(8, gw true (.int .i64 ((j : Nat) : Int))), (7, gw true (.agg (h.map bV).toArray)), (3, gw true v)] ∧ Hid (OwnY yB9 w.heap.size wr v (prF (h.take j)) ∧ Below w.heap.size w wr)) (fun j T w h => by obtain ⟨v, h, _⟩ := h; exact h.a 8 rfl) ⟨_, q7, by rw [List.take_zero]; exact o2, bw2⟩ ?_
  clear q7 o2 bw2 hk2 b2 B2
  intro j T wr hj hhh
  obtain ⟨v, q100, HJ⟩ := hhh
  obtain ⟨hO, br⟩ := HJ.out
  clear HJ
  have zr := br.size
  have hpl := prF_len (h.take j)
  rw [List.length_take] at hpl
  by_cases hit : j < 32
  · obtain ⟨n, hn, hx, hxd⟩ := hh.at_ hit
    have hpa := prF_at hx
    rw [Int.toNat_natCast] at hpa
    have hidx := idxH h hh.len j hit wr
    rw [hxd] at hidx
    go_upto_region 3 with fail
    refine wp_region_lit ?_
    refine q100.t (.bool true) (ex_bin rfl (q100.e (j := 8) rfl) rfl (ltT _ _ hit _)) fun _ q101 => ?_;clear q100
    refine wpList_nil ?_
    go_upto_region 4 with fail
    refine wp_cond_true (q101.e (j := 9) rfl) ?_
    go_upto_region 4 with fail
    refine wp_region_lit ?_
    refine q101.t (.int .u8 ((n : Nat) : Int)) (ex_index9 rfl (q101.e (j := 7) rfl) (q101.e (j := 8) rfl) hidx) fun _ q102 => ?_;clear q101
    refine q102.t (.int .u8 ((n : Nat) : Int)) (ex_assign rfl (q102.e (j := 10) rfl)) fun _ q103 => ?_;clear q102
    refine wpList_nil ?_
    go_upto_region 5 with fail
    refine vg_start (fun _ => false) (fun _ => True) (by kernel_rfl) ?_
    have hd : Below wr.heap.size wr wr.drew := (Below.refl _ _).drew
    have hO := hO.grow hd
    have bd : Below w.heap.size w wr.drew := br.trans (hd.mono zr)
    have hzd : wr.drew.heap.size = wr.heap.size := rfl
    generalize wr.drew = d at *
    refine vg_takeW 0 true (v) rfl (by kernel_rfl) (by kernel_rfl) (by kernel_rfl) (by kernel_rfl) (want_none rfl) (fun hc v => ex_move rfl (q103.e (j := 3) rfl)) rfl q103.z (by decide) (fun _ => trivial) (q103.k fun _ q104 => ?_);clear q103
    refine vg_takeW 1 true (.int .u8 ((n : Nat) : Int)) rfl (by kernel_rfl) (by kernel_rfl) (by kernel_rfl) (by kernel_rfl) (want_none rfl) (fun hc v => ex_move rfl (q104.e (j := 5) rfl)) rfl q104.z (by decide) (fun _ => trivial) (q104.k fun _ q105 => ?_);clear q104
    refine vg_takeW 2 true (.int .u8 (((n / 16 : Nat) : Int))) rfl (by kernel_rfl) (by kernel_rfl) (by kernel_rfl) (by kernel_rfl) (want_none rfl) (fun hc v => ex_bin rfl (q105.e (j := 12) rfl) rfl (shr8 _ _ n _)) rfl q105.z (by decide) (fun _ => trivial) (q105.k fun _ q106 => ?_);clear q105
    refine vg_takeW 3 true (.int .u8 (dgN (n / 16))) rfl (by kernel_rfl) (by kernel_rfl) (by kernel_rfl) (by kernel_rfl) (want_none rfl) (fun hc v => ex_index9 (X := .string dgS) rfl rfl (q106.e (j := 13) rfl) (idxD (n / 16) (by omega) _)) rfl q106.z (by decide) (fun _ => trivial) (q106.k fun _ q107 => ?_);clear q106
    refine vg_takeW 4 true (.int .u8 ((n : Nat) : Int)) rfl (by kernel_rfl) (by kernel_rfl) (by kernel_rfl) (by kernel_rfl) (want_none rfl) (fun hc v => ex_move rfl (q107.e (j := 5) rfl)) rfl q107.z (by decide) (fun _ => trivial) (q107.k fun _ q108 => ?_);clear q107
    refine vg_takeW 5 true (.int .u8 (((n % 16 : Nat) : Int))) rfl (by kernel_rfl) (by kernel_rfl) (by kernel_rfl) (by kernel_rfl) (want_none rfl) (fun hc v => ex_bin rfl (q108.e (j := 15) rfl) rfl (and8 _ _ n hn _)) rfl q108.z (by decide) (fun _ => trivial) (q108.k fun _ q109 => ?_);clear q108
    refine vg_takeW 6 true (.int .u8 (dgN (n % 16))) rfl (by kernel_rfl) (by kernel_rfl) (by kernel_rfl) (by kernel_rfl) (want_none rfl) (fun hc v => ex_index9 (X := .string dgS) rfl rfl (q109.e (j := 16) rfl) (idxD (n % 16) (by omega) _)) rfl q109.z (by decide) (fun _ => trivial) (q109.k fun _ q110 => ?_);clear q109
    obtain ⟨d2, hd2⟩ : ∃ y, y = d.alloc (.cells ((prN n).map bV).toArray 5) := ⟨_, rfl⟩
    have Bn : BB d2 d.heap.size 5 ((prN n).map bV) := by rw [hd2]; exact BB.new _ _ _
    have b2 : Below d.heap.size d d2 := by rw [hd2]; exact (Below.refl _ _).alloc (Nat.le_refl _) _
    have y2 := b2.size
    have s2 : SlY yB9 d2 (some ⟨d.heap.size, 0, none⟩) 2 2 (prN n) := Bn.sl0 (by unfold maxLen; simp [prN])
    obtain ⟨v3, d3, ha3, o3, g3, hg3⟩ := run_appY kB9 d2 22 w.heap.size _ v _ 2 2 (prN n) s2 (hO.grow b2) (by omega) (by unfold maxLen; omega) (by show ((prF (h.take j)).length + 2) * 1 ≤ _; omega)
    have b3 : Below w.heap.size w d3 := (bd.trans (b2.mono (by omega))).grown g3 (by omega) (fun k hk => (hO.blk k hk).1)
    rw [← hpa] at o3
    refine vg_val 7 (.slice (some ⟨d.heap.size, 0, none⟩) 2 2) d2 rfl (by kernel_rfl) (want_none rfl) (ex_bs2 rfl (q110.e (j := 14) rfl) (q110.e (j := 17) rfl) (by rw [hd2]; exact bs2B _ _ _)) rfl q110.z (by decide) (fun _ => trivial) (q110.k fun _ q111 => ?_);clear q110
    refine vg_val 8 (v3) d3 rfl (by kernel_rfl) (want_none rfl) (ex_app18 rfl (q111.e (j := 11) rfl) (q111.e (j := 18) rfl) ha3) rfl q111.z (by decide) (fun _ => trivial) (q111.k fun _ q112 => ?_);clear q111
    refine vg_takeW 9 true (v3) rfl (by kernel_rfl) (by kernel_rfl) (by kernel_rfl) (by kernel_rfl) (want_none rfl) (fun hc v => ex_assign rfl (q112.e (j := 19) rfl)) rfl q112.z (by decide) (fun _ => trivial) (q112.k fun _ q113 => ?_);clear q112
    refine vg_done (by kernel_rfl) ?_
    go_upto_region 6 with fail
    refine wp_region_lit ?_
    refine q113.t (.int .i64 ((j + 1 : Nat) : Int)) (ex_bin rfl (q113.e (j := 8) rfl) rfl (add1C _ _ j (by omega) _)) fun _ q114 => ?_;clear q113
    refine q114.t (.int .i64 ((j + 1 : Nat) : Int)) (ex_move rfl (q114.e (j := 20) rfl)) fun _ q115 => ?_;clear q114
    have q116 := ((((Rp.nil q115.z).cons (q115.a 3 rfl)).cons (q115.a 7 rfl)).cons (q115.a 8 rfl))
    clear q115
    refine wpList_nil ?_
    exact ⟨_, rfl, hit, v3, q116, o3, b3⟩
  · obtain rfl : j = 32 := by omega
    go_upto_region 3 with fail
    refine wp_region_lit ?_
    refine q100.t (.bool false) (ex_bin rfl (q100.e (j := 8) rfl) rfl (ltF _ _ hit _)) fun _ q101 => ?_;clear q100
    refine wpList_nil ?_
    rw [List.take_of_length_le (show h.length ≤ 32 by rw [hh.len]; omega)] at hO
    obtain ⟨a9, c9, rfl, s9, _⟩ := hO.sl kB9
    have hp64 : (prF h).length = 64 := by rw [prF_len, hh.len]
    have hcv := cv_str s9 (by intro e; rw [e] at hp64; cases hp64)
    go_upto_region 7 with fail
    refine wp_cond_false (q101.e (j := 9) rfl) ?_
    go_upto_region 7 with fail
    refine wp_region_lit ?_
    refine q101.t (.slice a9 (prF h).length c9) (ex_move rfl (q101.e (j := 3) rfl)) fun _ q102 => ?_;clear q101
    refine q102.t (.string (strOfNums (prF h))) (ex_cv19 rfl (q102.e (j := 21) rfl) hcv) fun _ q103 => ?_;clear q102
    refine q103.t (.string (strOfNums (prF h))) (ex_assign rfl (q103.e (j := 22) rfl)) fun _ q104 => ?_;clear q103
    refine wpList_nil ?_
    go_wp2
    refine bodyPost_ret (results_tmp rfl _ _ _) rfl ⟨?_, br⟩
    rw [getD_of (q104.a 2 rfl)]
    rfl
set_option maxRecDepth 100000 in
set_option maxHeartbeats 2000000 in
theorem rprint19 (h : List Int) (hh : Hb h) (w : World) :
    Calls Try.prog 18 #[.agg (h.map bV).toArray] w fun e w' => e = .returned (.string (strOfNums (prF h))) ∧ Below w.heap.size w w' := by
  go_enter Try.func18, Try.ntmps18
  go_upto_region 0 with fail
  refine wp_region_lit ?_
  refine vl_gen (fun T => Rp T 24 [(0, gw true (.agg (h.map bV).toArray))]) ((Rp.nil rfl).cons rfl) (fun Z0 q0 => ?_)
  obtain ⟨w1, hw1⟩ : ∃ y, y = w.alloc (.cells (h.map bV).toArray 32) := ⟨_, rfl⟩
  refine vw (.pointer (some ⟨w.heap.size, 0, none⟩)) w1 (want_none rfl) (ex_box18 rfl (q0.e (j := 0) rfl) (by rw [hw1]; exact bxH _ _)) rfl q0.z (by decide) (q0.k fun _ q1 => ?_);clear q0
  have B1 : BB w1 w.heap.size 32 (h.map bV) := by rw [hw1]; exact BB.new _ _ _
  have b1 : Below w.heap.size w w1 := by rw [hw1]; exact (Below.refl _ _).alloc (Nat.le_refl _) _
  clear hw1
  refine q1.t (.string ⟨#[]⟩) (ex_assign rfl rfl) fun _ q2 => ?_;clear q1
  refine wpList_nil ?_
  go_upto_region 1 with fail
  refine wp_region_lit ?_
  refine q2.t (.slice none 0 0) (ex_assign rfl rfl) fun _ q3 => ?_;clear q2
  refine wpList_nil ?_
  go_upto_region 2 with fail
  refine wp_region_lit ?_
  refine q3.t (.int .i64 ((0 : Nat) : Int)) (ex_assign rfl rfl) fun _ q4 => ?_;clear q3
  have q5 := ((((Rp.nil q4.z).cons (q4.a 1 rfl)).cons (q4.a 3 rfl)).cons (q4.a 4 rfl))
  clear q4
  refine wpList_nil ?_
  go_upto_region 3 with fail
  refine v_loop 4 32 (fun j T wr => ∃ v, Rp T 24 [(4, gw true (.int .i64 ((j : Nat) : Int))), (3, gw true v), (1, gw true (.pointer (some ⟨w.heap.size, 0, none⟩)))] ∧ Hid (OwnY yB9 w.heap.size wr v (prF (h.take j)) ∧ BB wr w.heap.size 32 (h.map bV) ∧ Below w.heap.size w wr ∧ v.ownBlock ≠ some w.heap.size)) (fun j T w h => by obtain ⟨v, h, _⟩ := h; exact h.a 4 rfl) ⟨_, q5, by rw [List.take_zero]; exact OwnY.nil _ _ _, B1, b1, by intro e; cases e⟩ ?_
  clear q5 B1 b1
  intro j T wr hj hhh
  obtain ⟨v, q100, HJ⟩ := hhh
  obtain ⟨hO, B1, br, hvb⟩ := HJ.out
  clear HJ
  have zr := br.size
  have hql := B1.lt
  have hpl := prF_len (h.take j)
  rw [List.length_take] at hpl
  by_cases hit : j < 32
  · obtain ⟨n, hn, hx, hxd⟩ := hh.at_ hit
    have hpa := prF_at hx
    rw [Int.toNat_natCast] at hpa
    have hcx : ∀ {v : World}, BB v w.heap.size 32 (h.map bV) → v.cell? ⟨w.heap.size, j, none⟩ = some (.int .u8 ((n : Nat) : Int)) := fun hB => by have := hB.v9 (j := j) (by rw [hh.len]; exact hit); rwa [hxd] at this
    go_upto_region 3 with fail
    refine wp_region_lit ?_
    refine q100.t (.int .i64 ((j : Nat) : Int)) (ex_move rfl (q100.e (j := 4) rfl)) fun _ q101 => ?_;clear q100
    refine q101.t (.bool true) (ex_bin rfl (q101.e (j := 5) rfl) rfl (ltT _ _ hit _)) fun _ q102 => ?_;clear q101
    refine wpList_nil ?_
    go_upto_region 5 with fail
    refine wp_cond_true (q102.e (j := 6) rfl) ?_
    go_upto_region 5 with fail
    refine vg_start (fun _ => false) (fun v => BB v w.heap.size 32 (h.map bV)) (by kernel_rfl) ?_
    have hd : Below wr.heap.size wr wr.drew := (Below.refl _ _).drew
    have hO := hO.grow hd
    have Bd := B1.later hd
    have bd : Below w.heap.size w wr.drew := br.trans (hd.mono zr)
    have hzd : wr.drew.heap.size = wr.heap.size := rfl
    generalize wr.drew = d at *
    refine vg_takeW 0 true (v) rfl (by kernel_rfl) (by kernel_rfl) (by kernel_rfl) (by kernel_rfl) (want_none rfl) (fun hc v => ex_move rfl (q102.e (j := 3) rfl)) rfl q102.z (by decide) (fun _ => Bd) (q102.k fun _ q103 => ?_);clear q102
    refine vg_takeW 1 true (.int .i64 ((j : Nat) : Int)) rfl (by kernel_rfl) (by kernel_rfl) (by kernel_rfl) (by kernel_rfl) (want_none rfl) (fun hc v => ex_move rfl (q103.e (j := 4) rfl)) rfl q103.z (by decide) (fun _ => Bd) (q103.k fun _ q104 => ?_);clear q103
    refine vg_takeW 2 true (.pointer (some ⟨w.heap.size, j, none⟩)) rfl (by kernel_rfl) (by kernel_rfl) (by kernel_rfl) (by kernel_rfl) (want_none rfl) (fun hc v => ex_ix rfl (q104.e (j := 1) rfl) (q104.e (j := 10) rfl) (ixA0 w.heap.size j 32 32 5 Try.underlying32 i1b hit _)) rfl q104.z (by decide) (fun _ => Bd) (q104.k fun _ q105 => ?_);clear q104
    refine vg_take 3 true (.int .u8 ((n : Nat) : Int)) rfl (by kernel_rfl) (by kernel_rfl) (by kernel_rfl) (by kernel_rfl) (by kernel_rfl) (by kernel_rfl) (want_none rfl) (fun hc v hv => ex_ld rfl (q105.e (j := 11) rfl) (ld8 (hcx hv))) rfl q105.z (by decide) Bd (q105.k fun _ q106 => ?_);clear q105
    refine vg_takeW 4 true (.int .u8 (((n / 16 : Nat) : Int))) rfl (by kernel_rfl) (by kernel_rfl) (by kernel_rfl) (by kernel_rfl) (want_none rfl) (fun hc v => ex_bin rfl (q106.e (j := 12) rfl) rfl (quo8 _ _ n hn _)) rfl q106.z (by decide) (fun _ => Bd) (q106.k fun _ q107 => ?_);clear q106
    refine vg_takeW 5 true (.int .u8 (dgN (n / 16))) rfl (by kernel_rfl) (by kernel_rfl) (by kernel_rfl) (by kernel_rfl) (want_none rfl) (fun hc v => ex_index9 (X := .string dgS) rfl rfl (q107.e (j := 13) rfl) (idxD (n / 16) (by omega) _)) rfl q107.z (by decide) (fun _ => Bd) (q107.k fun _ q108 => ?_);clear q107
    refine vg_takeW 6 true (.int .i64 ((j : Nat) : Int)) rfl (by kernel_rfl) (by kernel_rfl) (by kernel_rfl) (by kernel_rfl) (want_none rfl) (fun hc v => ex_move rfl (q108.e (j := 4) rfl)) rfl q108.z (by decide) (fun _ => Bd) (q108.k fun _ q109 => ?_);clear q108
    refine vg_takeW 7 true (.pointer (some ⟨w.heap.size, j, none⟩)) rfl (by kernel_rfl) (by kernel_rfl) (by kernel_rfl) (by kernel_rfl) (want_none rfl) (fun hc v => ex_ix rfl (q109.e (j := 1) rfl) (q109.e (j := 15) rfl) (ixA0 w.heap.size j 32 32 5 Try.underlying32 i1b hit _)) rfl q109.z (by decide) (fun _ => Bd) (q109.k fun _ q110 => ?_);clear q109
    refine vg_take 8 true (.int .u8 ((n : Nat) : Int)) rfl (by kernel_rfl) (by kernel_rfl) (by kernel_rfl) (by kernel_rfl) (by kernel_rfl) (by kernel_rfl) (want_none rfl) (fun hc v hv => ex_ld rfl (q110.e (j := 16) rfl) (ld8 (hcx hv))) rfl q110.z (by decide) Bd (q110.k fun _ q111 => ?_);clear q110
    refine vg_takeW 9 true (.int .u8 (((n % 16 : Nat) : Int))) rfl (by kernel_rfl) (by kernel_rfl) (by kernel_rfl) (by kernel_rfl) (want_none rfl) (fun hc v => ex_bin rfl (q111.e (j := 17) rfl) rfl (rem8 _ _ n _)) rfl q111.z (by decide) (fun _ => Bd) (q111.k fun _ q112 => ?_);clear q111
    refine vg_takeW 10 true (.int .u8 (dgN (n % 16))) rfl (by kernel_rfl) (by kernel_rfl) (by kernel_rfl) (by kernel_rfl) (want_none rfl) (fun hc v => ex_index9 (X := .string dgS) rfl rfl (q112.e (j := 18) rfl) (idxD (n % 16) (by omega) _)) rfl q112.z (by decide) (fun _ => Bd) (q112.k fun _ q113 => ?_);clear q112
    obtain ⟨d2, hd2⟩ : ∃ y, y = d.alloc (.cells ((prN n).map bV).toArray 5) := ⟨_, rfl⟩
    have Bn : BB d2 d.heap.size 5 ((prN n).map bV) := by rw [hd2]; exact BB.new _ _ _
    have b2 : Below d.heap.size d d2 := by rw [hd2]; exact (Below.refl _ _).alloc (Nat.le_refl _) _
    have y2 := b2.size
    have s2 : SlY yB9 d2 (some ⟨d.heap.size, 0, none⟩) 2 2 (prN n) := Bn.sl0 (by unfold maxLen; simp [prN])
    obtain ⟨v3, d3, ha3, o3, g3, hg3⟩ := run_appY kB9 d2 22 w.heap.size _ v _ 2 2 (prN n) s2 (hO.grow b2) (by omega) (by unfold maxLen; omega) (by show ((prF (h.take j)).length + 2) * 1 ≤ _; omega)
    have b3 : Below w.heap.size w d3 := (bd.trans (b2.mono (by omega))).grown g3 (by omega) (fun k hk => (hO.blk k hk).1)
    rw [← hpa] at o3
    have Bd2 := Bd.later b2
    refine vg_val 11 (.slice (some ⟨d.heap.size, 0, none⟩) 2 2) d2 rfl (by kernel_rfl) (want_none rfl) (ex_bs2 rfl (q113.e (j := 14) rfl) (q113.e (j := 19) rfl) (by rw [hd2]; exact bs2B _ _ _)) rfl q113.z (by decide) (fun _ => Bd2) (q113.k fun _ q114 => ?_);clear q113
    have hun : ¬ (some w.heap.size = v.ownBlock) := fun e => hvb e.symm
    have Bd3 : BB d3 w.heap.size 32 (h.map bV) := (g3.block _ Bd2.lt hun).trans Bd2
    have hvb3 : v3.ownBlock ≠ some w.heap.size := by
      rcases hg3 with e | ⟨k, e, hk⟩
      · rw [e]; exact hvb
      · rw [e]; intro e2; have := Option.some.inj e2; omega
    refine vg_val 12 (v3) d3 rfl (by kernel_rfl) (want_none rfl) (ex_app18 rfl (q114.e (j := 9) rfl) (q114.e (j := 20) rfl) ha3) rfl q114.z (by decide) (fun _ => Bd3) (q114.k fun _ q115 => ?_);clear q114
    refine vg_takeW 13 true (v3) rfl (by kernel_rfl) (by kernel_rfl) (by kernel_rfl) (by kernel_rfl) (want_none rfl) (fun hc v => ex_assign rfl (q115.e (j := 21) rfl)) rfl q115.z (by decide) (fun _ => Bd3) (q115.k fun _ q116 => ?_);clear q115
    refine vg_done (by kernel_rfl) ?_
    go_upto_region 4 with fail
    refine wp_region_lit ?_
    refine q116.t (.int .i64 ((j : Nat) : Int)) (ex_move rfl (q116.e (j := 4) rfl)) fun _ q117 => ?_;clear q116
    refine q117.t (.int .i64 ((j + 1 : Nat) : Int)) (ex_bin rfl (q117.e (j := 7) rfl) rfl (add1C _ _ j (by omega) _)) fun _ q118 => ?_;clear q117
    refine q118.t (.int .i64 ((j + 1 : Nat) : Int)) (ex_assign rfl (q118.e (j := 8) rfl)) fun _ q119 => ?_;clear q118
    have q120 := ((((Rp.nil q119.z).cons (q119.a 1 rfl)).cons (q119.a 3 rfl)).cons (q119.a 4 rfl))
    clear q119
    refine wpList_nil ?_
    exact ⟨_, rfl, hit, v3, q120, o3, Bd3, b3, hvb3⟩
  · obtain rfl : j = 32 := by omega
    go_upto_region 3 with fail
    refine wp_region_lit ?_
    refine q100.t (.int .i64 ((32 : Nat) : Int)) (ex_move rfl (q100.e (j := 4) rfl)) fun _ q101 => ?_;clear q100
    refine q101.t (.bool false) (ex_bin rfl (q101.e (j := 5) rfl) rfl (ltF _ _ hit _)) fun _ q102 => ?_;clear q101
    refine wpList_nil ?_
    rw [List.take_of_length_le (show h.length ≤ 32 by rw [hh.len]; omega)] at hO
    obtain ⟨a9, c9, rfl, s9, _⟩ := hO.sl kB9
    have hp64 : (prF h).length = 64 := by rw [prF_len, hh.len]
    have hcv := cv_str s9 (by intro e; rw [e] at hp64; cases hp64)
    go_upto_region 6 with fail
    refine wp_cond_false (q102.e (j := 6) rfl) ?_
    go_upto_region 6 with fail
    refine wp_region_lit ?_
    refine q102.t (.slice a9 (prF h).length c9) (ex_move rfl (q102.e (j := 3) rfl)) fun _ q103 => ?_;clear q102
    refine q103.t (.string (strOfNums (prF h))) (ex_cv19 rfl (q103.e (j := 22) rfl) hcv) fun _ q104 => ?_;clear q103
    refine q104.t (.string (strOfNums (prF h))) (ex_assign rfl (q104.e (j := 23) rfl)) fun _ q105 => ?_;clear q104
    refine wpList_nil ?_
    go_wp2
    refine bodyPost_ret (results_tmp rfl _ _ _) rfl ⟨?_, br⟩
    rw [getD_of (q105.a 2 rfl)]
    rfl
set_option maxRecDepth 100000 in
set_option maxHeartbeats 2000000 in
theorem num19 (n : Int) (w : World) :
    Calls Try.prog 19 #[.int .i64 n] w fun e w' => e = .returned (.int .i64 n) ∧ w' = w := by
  go_enter Try.func19, Try.ntmps19
  go_upto_region 0 with fail
  refine wp_region_lit ?_
  refine vl_gen (fun T => Rp T 4 [(0, gw true (.int .i64 n))]) ((Rp.nil rfl).cons rfl) (fun Z0 q0 => ?_)
  refine q0.t (.int .i64 0) (ex_assign rfl rfl) fun _ q1 => ?_;clear q0
  refine wpList_nil ?_
  go_upto_region 1 with fail
  refine wp_region_lit ?_
  refine q1.t (.int .i64 n) (ex_move rfl (q1.e (j := 0) rfl)) fun _ q2 => ?_;clear q1
  refine q2.t (.int .i64 n) (ex_assign rfl (q2.e (j := 3) rfl)) fun _ q3 => ?_;clear q2
  refine wpList_nil ?_
  go_wp2
  refine bodyPost_ret (results_tmp rfl _ _ _) rfl ⟨?_, rfl⟩
  rw [getD_of (q3.a 2 rfl)]
  rfl
def abT : ByteArray := ⟨#[98, 97, 55, 56, 49, 54, 98, 102, 56, 102, 48, 49, 99, 102, 101, 97, 52, 49, 52, 49, 52, 48, 100, 101, 53, 100, 97, 101, 50, 50, 50, 51, 98, 48, 48, 51, 54, 49, 97, 51, 57, 54, 49, 55, 55, 97, 57, 99, 98, 52, 49, 48, 102, 102, 54, 49, 102, 50, 48, 48, 49, 53, 97, 100]⟩
theorem ab_txt : ((strOfNums (prF abS)).toList == abT.toList) = true := by kernel_rfl
theorem ab_hb : Hb abS := ⟨rfl, by decide⟩
set_option maxRecDepth 100000 in
set_option maxHeartbeats 2000000 in
theorem alive19 (w : World) :
    Calls Try.prog 14 #[] w fun e w' => e = .returned (.bool true) ∧ Below w.heap.size w w' := by
  go_enter Try.func14, Try.ntmps14
  go_upto_region 0 with fail
  refine wp_region_lit ?_
  refine vl_gen (fun T => Rp T 6 []) (Rp.nil rfl) (fun Z0 q0 => ?_)
  refine q0.t (.bool false) (ex_assign rfl rfl) fun _ q1 => ?_;clear q0
  refine wpList_nil ?_
  go_upto_region 1 with fail
  refine wp_region_lit ?_
  obtain ⟨w1, hw1⟩ : ∃ y, y = w.alloc (.cells (([97, 98, 99] : List Int).map bV).toArray 5) := ⟨_, rfl⟩
  refine vw (.slice (some ⟨w.heap.size, 0, none⟩) 3 3) w1 (want_none rfl) (ex_bs3 rfl rfl rfl rfl (by rw [hw1]; exact bs3B _ _ _ _)) rfl q1.z (by decide) (q1.k fun _ q2 => ?_);clear q1
  obtain ⟨w2, hw2⟩ : ∃ y, y = w.alloc (.cells (([97, 98, 99] : List Int).map bV).toArray 5 (3, 4)) := ⟨_, rfl⟩
  have hcv := Lib.run_convert_bytes_const (P := Try.prog) w 22 5 (([97, 98, 99] : List Int).map bV).toArray 3 3 Try.underlying22 Try.underlying5
  refine vw (.slice (some ⟨w.heap.size, 0, none⟩) 3 3) w2 (want_none rfl) (ex_cv19 rfl (q2.e (j := 1) rfl) (by rw [hw1, hw2]; exact hcv)) rfl q2.z (by decide) (q2.k fun _ q3 => ?_);clear q2
  have s2 : SlY yB9 w2 (some ⟨w.heap.size, 0, none⟩) 3 3 ([97, 98, 99] : List Int) := by rw [hw2]; exact slM w ([97, 98, 99] : List Int) _ _ (by unfold maxLen; decide)
  have b2 : Below w.heap.size w w2 := by rw [hw2]; exact (Below.refl _ _).alloc (Nat.le_refl _) _
  clear hw1 hw2 hcv
  have z2 := b2.size
  refine vcallP (want_none rfl) (ex_call rfl (by simp only [List.map_toArray, List.map_cons, List.map_nil, (q3.e (j := 2) rfl), evc] <;> rfl) rfl) (sum19 ([97, 98, 99] : List Int) _ 3 w2 s2 (by decide)) rfl q3.z (by decide) ?_
  rintro e w3 ⟨rfl, b3⟩
  refine ⟨_, rfl, q3.k fun _ q4 => ?_⟩;clear q3
  have b3w : Below w.heap.size w w3 := b2.trans (b3.mono z2)
  have z3 := b3w.size
  rw [ab_sum] at q4
  refine vcallP (want_none rfl) (ex_call rfl (by simp only [List.map_toArray, List.map_cons, List.map_nil, (q4.e (j := 3) rfl), evc] <;> rfl) rfl) (print19 abS ab_hb w3) rfl q4.z (by decide) ?_
  rintro e w4 ⟨rfl, b4⟩
  refine ⟨_, rfl, q4.k fun _ q5 => ?_⟩;clear q4
  have b4w : Below w.heap.size w w4 := b3w.trans (b4.mono z3)
  refine q5.t (.bool true) (ex_bin (Y := .string abT) rfl (q5.e (j := 4) rfl) rfl (by rw [eqlS, ab_txt])) fun _ q6 => ?_;clear q5
  refine q6.t (.bool true) (ex_assign rfl (q6.e (j := 5) rfl)) fun _ q7 => ?_;clear q6
  refine wpList_nil ?_
  go_wp2
  refine bodyPost_ret (results_tmp rfl _ _ _) rfl ⟨?_, b4w⟩
  rw [getD_of (q7.a 0 rfl)]
  rfl

end Go.Proofs.Ytjodieiaccfkiaa
