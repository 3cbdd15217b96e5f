import Derived.Test.YtibedokegignhaaGreatDoorF3
set_option maxRecDepth 100000
set_option linter.unusedVariables false
set_option linter.unusedSimpArgs false
namespace Go.Proofs.YtibedokegignhaaGreatDoor
open Go.RowKit Go.Maps
open Classical
def drF (d : Int × Int) : Prop := 0 ≤ d.1 ∧ d.1 < 18446744073709551616 ∧ 0 ≤ d.2 ∧ d.2 < 18446744073709551616
def enF (e : En) : Prop := 0 ≤ e.c ∧ e.c ≤ 9223372036854775807 ∧ 0 ≤ e.n ∧ e.n ≤ 9223372036854775807 ∧ 0 ≤ e.o.k ∧ e.o.k ≤ 9223372036854775807 ∧ 0 ≤ e.o.s ∧ e.o.s ≤ 9223372036854775807 ∧ e.o.v.size ≤ 64
def dsBy (D : List (Int × Int)) : List Int := D.flatMap fun d => drBy d.1.toNat d.2.toNat
def veBy (D : List (Int × Int)) : List Int := M.form D.length ++ dsBy D
def enBy (e : En) : List Int := nmBy e.c.toNat e.n.toNat ++ opBy e.o.k.toNat e.o.s.toNat e.o.v
def esBy (L : List En) : List Int := L.flatMap enBy
def lgBy (L : List En) : List Int := M.form L.length ++ esBy L
theorem dsBy_next {D : List (Int × Int)} {j : Nat} {d : Int × Int} (h : D[j]? = some d) : dsBy (D.take (j + 1)) = dsBy (D.take j) ++ drBy d.1.toNat d.2.toNat := by
  unfold dsBy
  rw [List.take_add_one, h]
  simp
theorem esBy_next {D : List En} {j : Nat} {d : En} (h : D[j]? = some d) : esBy (D.take (j + 1)) = esBy (D.take j) ++ enBy d := by
  unfold esBy
  rw [List.take_add_one, h]
  simp
theorem drBy_le {x y : Nat} (hx : x < 2 ^ 64) (hy : y < 2 ^ 64) : (drBy x y).length ≤ 18 := by
  unfold drBy
  have := form_le hx
  have := form_le hy
  rw [List.length_append]
  omega
theorem nmBy_le {x y : Nat} (hx : x < 2 ^ 64) (hy : y < 2 ^ 64) : (nmBy x y).length ≤ 18 := by
  unfold nmBy
  have := form_le hx
  have := form_le hy
  rw [List.length_append]
  omega
theorem opBy_le {x y : Nat} {v : ByteArray} (hx : x < 2 ^ 64) (hy : y < 2 ^ 64) (hv : v.size ≤ 64) : (opBy x y v).length ≤ 82 + 9 := by
  unfold opBy
  have := form_le hx
  have := form_le hy
  have := form_le (show v.size < 2 ^ 64 by omega)
  rw [List.length_append, List.length_append, List.length_append, Wi.sb_length]
  omega
theorem form_small {x : Nat} (h : x < 256) : (M.form x).length ≤ 2 := by
  rw [M.form_length]
  have : M.nb x ≤ 1 := by
    have h1 : M.bl x ≤ 8 := (M.bl_le x 8).2 (by omega)
    unfold M.nb
    omega
  omega
theorem dsBy_le : ∀ (D : List (Int × Int)), (∀ d ∈ D, drF d) → (dsBy D).length ≤ 18 * D.length
  | [], _ => by simp [dsBy]
  | d :: r, h => by
    have h1 := h d (by simp)
    have h2 := dsBy_le r (fun x hx => h x (by simp [hx]))
    have h3 := drBy_le (x := d.1.toNat) (y := d.2.toNat) (by have := h1.2.1; have := h1.1; omega) (by have := h1.2.2.2; have := h1.2.2.1; omega)
    have e : dsBy (d :: r) = drBy d.1.toNat d.2.toNat ++ dsBy r := rfl
    rw [e, List.length_append, List.length_cons]
    omega
theorem enBy_le {e : En} (h : enF e) : (enBy e).length ≤ 102 := by
  obtain ⟨c0, c1, n0, n1, k0, k1, s0, s1, hv⟩ := h
  have e1 : (enBy e) = nmBy e.c.toNat e.n.toNat ++ opBy e.o.k.toNat e.o.s.toNat e.o.v := rfl
  have a := form_le (show e.c.toNat < 2 ^ 64 by omega)
  have b := form_le (show e.n.toNat < 2 ^ 64 by omega)
  have c := form_le (show e.o.k.toNat < 2 ^ 64 by omega)
  have d := form_le (show e.o.s.toNat < 2 ^ 64 by omega)
  have f := form_small (show e.o.v.size < 256 by omega)
  rw [e1]
  unfold nmBy opBy
  simp only [List.length_append, Wi.sb_length]
  omega
theorem esBy_le : ∀ (D : List En), (∀ d ∈ D, enF d) → (esBy D).length ≤ 102 * D.length
  | [], _ => by simp [esBy]
  | d :: r, h => by
    have h2 := esBy_le r (fun x hx => h x (by simp [hx]))
    have h3 := enBy_le (h d (by simp))
    have e : esBy (d :: r) = enBy d ++ esBy r := rfl
    rw [e, List.length_append, List.length_cons]
    omega
theorem addJ (j : Nat) (hj : j < 4611686018427387904) (x y : Operand) (w : World) : (do eqGuard .add 3 x y (.int .i64 (j : Int)) (.int .i64 1); binOp .add 3 (.int .i64 (j : Int)) (.int .i64 1) : Sem Value).run Tryz.prog w = .ok (.int .i64 ((j + 1 : Nat) : Int)) w := by
  have h1 : IntKind.i64.wrap ((j : Int) + 1) = ((j + 1 : Nat) : Int) := by rw [IntKind.wrap_i64]; omega
  go_simp
theorem stDr (w : World) (x y : Int) : (Instr.storeAt 33 (.pointer (some ⟨w.heap.size, 0, none⟩)) (.agg #[.int .u64 x, .int .u64 y])).run Tryz.prog (w.alloc (.cells #[.int .u64 0, .int .u64 0] 33)) = .ok () (w.alloc (.cells #[.int .u64 x, .int .u64 y] 33)) := by
  go_simp
theorem stEn (w : World) (c n k s : Int) (v : ByteArray) : (Instr.storeAt 28 (.pointer (some ⟨w.heap.size, 0, none⟩)) (.agg #[.int .i64 c, .int .i64 n, .int .i64 k, .int .i64 s, .string v])).run Tryz.prog (w.alloc (.cells #[.int .i64 0, .int .i64 0, .int .i64 0, .int .i64 0, .string ⟨#[]⟩] 28)) = .ok () (w.alloc (.cells #[.int .i64 c, .int .i64 n, .int .i64 k, .int .i64 s, .string v] 28)) := by
  go_simp
theorem ldEnAt {w : World} {q p : Nat} {c n k s : Int} {v : ByteArray} (h0 : w.cell? ⟨q, p, none⟩ = some (.int .i64 c)) (h1 : w.cell? ⟨q, p + 1, none⟩ = some (.int .i64 n)) (h2 : w.cell? ⟨q, p + 2, none⟩ = some (.int .i64 k)) (h3 : w.cell? ⟨q, p + 3, none⟩ = some (.int .i64 s)) (h4 : w.cell? ⟨q, p + 4, none⟩ = some (.string v)) : (Instr.loadAt 28 (.pointer (some ⟨q, p, none⟩))).run Tryz.prog w = .ok (.agg #[.int .i64 c, .int .i64 n, .int .i64 k, .int .i64 s, .string v]) w := by
  go_simp
theorem ldOpAt {w : World} {q p : Nat} {k s : Int} {v : ByteArray} (h2 : w.cell? ⟨q, p, none⟩ = some (.int .i64 k)) (h3 : w.cell? ⟨q, p + 1, none⟩ = some (.int .i64 s)) (h4 : w.cell? ⟨q, p + 2, none⟩ = some (.string v)) : (Instr.loadAt 26 (.pointer (some ⟨q, p, none⟩))).run Tryz.prog w = .ok (.agg #[.int .i64 k, .int .i64 s, .string v]) w := by
  go_simp
theorem ixEnt (q o n cv nd : Nat) (h : nd < n) (w : World) : (Instr.indexAt 34 (.slice (some ⟨q, o, none⟩) n cv) (.int .i64 (nd : Int))).run Tryz.prog w = .ok (.pointer (some ⟨q, o + nd * 5, none⟩)) w := by
  have h1 : (nd : Int) < (n : Int) := by omega
  go_simp
set_option maxHeartbeats 4000000 in
theorem wvector_tk (B b : Nat) (l : List Int) (L : List (Int × Int)) (a : Option Addr) (cv : Nat) (w0 w : World) (hB : B ≤ b) (h0 : Below w0.heap.size w0 w) (hB0 : w0.heap.size ≤ B) (hD : SlY yD w0 a L.length cv L) (hfit : ∀ d ∈ L, drF d) (h : Wi.WOkT w b l) (h7 : L.length ≤ 7) (hl : l.length + 162 ≤ 140737488355328) :
    Calls Tryz.prog 125 #[.pointer (some ⟨b, 0, none⟩), .slice a L.length cv] w fun e w' => e = .returned (.tuple #[]) ∧ Wi.WOkT w' b (l ++ veBy L) ∧ Below B w w' ∧ Wi.TKp w w' := by
  go_enter Tryz.func125, Tryz.ntmps125
  go_upto_region 0 with fail
  refine wp_region_lit ?_
  refine vl_gen (fun T => T.size = 22 ∧ T[0]? = some (gw true (.pointer (some ⟨b, 0, none⟩))) ∧ T[1]? = some (gw true (.slice a L.length cv))) ⟨rfl, rfl, rfl⟩ (fun T0 ⟨hz, s0, s1⟩ => ?_)
  refine vt _ (ex_move rfl (ev s0 rfl)) hz (fun Ya zz kk s6 => ?_)
  replace s0 := ku s0
  replace s1 := ku s1
  replace hz := zz
  clear kk zz
  refine vt (.pointer (some ⟨b, 0, none⟩)) (ex_nil rfl (ev s6 rfl)) hz (fun Yb zz kk s7 => ?_)
  replace s0 := ku s0
  replace s1 := ku s1
  replace hz := zz
  clear kk zz s6 Ya
  refine vt (.pointer (some ⟨b, 0, none⟩)) (ex_fa rfl (ev s7 rfl) (by go_simp)) hz (fun Yc zz kk s8 => ?_)
  replace s0 := ku s0
  replace s1 := ku s1
  replace hz := zz
  clear kk zz s7 Yb
  refine vt _ (ex_move rfl (ev s1 rfl)) hz (fun Yd zz kk s9 => ?_)
  replace s0 := ku s0
  replace s1 := ku s1
  replace s8 := ku s8
  replace hz := zz
  clear kk zz Yc
  refine vt (.int .i64 ((L.length : Nat) : Int)) (ex_lenV rfl rfl (ev s9 rfl)) hz (fun Ye zz kk s10 => ?_)
  replace s0 := ku s0
  replace s1 := ku s1
  replace s8 := ku s8
  replace hz := zz
  clear kk zz s9 Yd
  refine vcallP (want_none rfl) (ex_call rfl (by simp only [List.map_toArray, List.map_cons, List.map_nil, (ev s8 rfl), (ev s10 rfl), evc] <;> rfl) rfl) (Wi.count_tk B b l L.length 7 w hB h (by omega) h7 (by omega)) rfl hz (by decide) ?_
  rintro e w1 ⟨rfl, hO1, hb1, ht1⟩
  refine ⟨_, rfl, fun Yf zz kk s11 => ?_⟩
  replace s0 := ku s0
  replace s1 := ku s1
  replace hz := zz
  clear kk zz s8 s10 Ye
  refine wpList_nil ?_
  go_upto_region 1 with fail
  refine wp_region_lit ?_
  refine vt _ (ex_move rfl (ev s1 rfl)) hz (fun Yg zz kk s12 => ?_)
  replace s0 := ku s0
  replace hz := zz
  clear kk zz s1 s11
  refine vt (.int .i64 ((L.length : Nat) : Int)) (ex_lenV rfl rfl (ev s12 rfl)) hz (fun Yh zz kk s13 => ?_)
  replace s0 := ku s0
  replace s12 := ku s12
  replace hz := zz
  clear kk zz Yg
  refine vt (.int .i64 0) (ex_move rfl rfl) hz (fun Yi zz kk s14 => ?_)
  replace s0 := ku s0
  replace s12 := ku s12
  replace s13 := ku s13
  replace hz := zz
  clear kk zz Yh
  refine wpList_nil ?_
  go_upto_region 2 with fail
  refine v_loop 14 L.length (fun j T wr => T.size = 22 ∧ T[0]? = some (gw true (.pointer (some ⟨b, 0, none⟩))) ∧ T[12]? = some (gw true (.slice a L.length cv)) ∧ T[13]? = some (gw true (.int .i64 ((L.length : Nat) : Int))) ∧ T[14]? = some (gw true (.int .i64 (j : Int))) ∧ Hid (Wi.WOkT wr b (l ++ M.form L.length ++ dsBy (L.take j)) ∧ Below B w wr ∧ Wi.TKp w wr)) (fun j T w h => h.2.2.2.2.1) ⟨hz, s0, s12, s13, s14, by simpa [dsBy] using hO1, hb1, ht1⟩ ?_
  intro j R0 wr hj hh
  clear hz s0 s12 s13 s14
  obtain ⟨hz, s0, s12, s13, s14, HI⟩ := hh
  go_upto_region 2 with fail
  refine wp_region_lit ?_
  refine vt (.bool (decide ((j : Int) < (L.length : Int)))) (ex_bin rfl (ev s14 rfl) (ev s13 rfl) (lssC _ _ _ _ _)) hz (fun Yj zz kk s15 => ?_)
  replace s0 := ku s0
  replace s12 := ku s12
  replace s13 := ku s13
  replace s14 := ku s14
  replace hz := zz
  clear kk zz
  refine wpList_nil ?_
  go_upto_region 3 with fail
  cases e2 : decide ((j : Int) < (L.length : Int))
  · refine wp_cond_false ((ev s15 rfl).trans (congrArg Value.bool e2)) ?_
    have hjl : j = L.length := by have := of_decide_eq_false e2; omega
    have HJ := hide hjl
    clear e2 hjl
    go_wp2
    go_end0
    have hI := HI.out
    rw [HJ.out, List.take_length] at hI
    exact ⟨rfl, by simpa [veBy] using hI.1, hI.2⟩
  refine wp_cond_true ((ev s15 rfl).trans (congrArg Value.bool e2)) ?_
  have hlt2 : j < L.length := by have := of_decide_eq_true e2; omega
  clear s15 e2
  go_upto_region 3 with fail
  refine wp_region_lit ?_
  obtain ⟨d, hd⟩ : ∃ d, L[j]? = some d := ⟨_, List.getElem?_eq_getElem hlt2⟩
  have hsl := hD.later (h0.trans (HI.out.2.1.mono hB0))
  obtain ⟨q, o, rfl, hq, hlie⟩ := hsl.place (fun e => by rw [e] at hlt2; simp at hlt2)
  have hdf := hfit d (List.mem_of_getElem? hd)
  obtain ⟨x, hx⟩ := Int.eq_ofNat_of_zero_le hdf.1
  obtain ⟨y, hy⟩ := Int.eq_ofNat_of_zero_le hdf.2.2.1
  have e0 : wr.cell? ⟨q, o + j * 2, none⟩ = some (.int .u64 (x : Int)) := by rw [← hx]; exact hlie j d hd 0 _ rfl
  have e1 : wr.cell? ⟨q, o + j * 2 + 1, none⟩ = some (.int .u64 (y : Int)) := by rw [← hy]; exact hlie j d hd 1 _ rfl
  have hdx := hdf.2.1
  have hdy := hdf.2.2.2
  rw [hx] at hdx
  rw [hy] at hdy
  have enx : drBy d.1.toNat d.2.toNat = drBy x y := by rw [hx, hy]; rfl
  obtain ⟨w5, hw5⟩ : ∃ w5, w5 = wr.alloc (.cells #[.int .u64 (x : Int), .int .u64 (y : Int)] 33) := ⟨_, rfl⟩
  have hs5 : w5.heap.size = wr.heap.size + 1 := by rw [hw5]; simp
  have hb5 : Below wr.heap.size wr w5 := by rw [hw5]; exact (Below.refl _ _).alloc (Nat.le_refl _) _
  have HQ : Hid (∀ vv, Wi.TKp w5 vv → ∀ (ii : Nat) (uu : Value), ([.int .u64 (x : Int), .int .u64 (y : Int)] : List Value)[ii]? = some uu → vv.cell? ⟨wr.heap.size, ii, none⟩ = some uu) := fun vv hv ii uu hx => by
    rw [hv.cell (p := ⟨wr.heap.size, ii, none⟩) (by rw [hs5]; exact Nat.lt_succ_self _) (by rw [hw5]; exact Wi.not_wtyp_box _ _ _ (by decide))]
    rw [hw5]
    exact cell_box _ _ _ _ _ (by simpa using hx)
  have hO5 := HI.out.1.later hb5
  have hlen : ((l ++ M.form L.length ++ dsBy (L.take j)).length) ≤ l.length + 9 + 18 * 7 := by
    have f1 := form_le (show L.length < 2 ^ 64 by omega)
    have f2 := dsBy_le (L.take j) (fun x hx => hfit x (List.mem_of_mem_take hx))
    rw [List.length_append, List.length_append]
    rw [List.length_take] at f2
    omega
  refine vt (.pointer (some ⟨q, o + j * 2, none⟩)) (ex_ix rfl (ev s12 rfl) (ev s14 rfl) (ixVec _ _ _ _ _ hlt2 _)) hz (fun Yk zz kk s16 => ?_)
  replace s0 := ku s0
  replace s12 := ku s12
  replace s13 := ku s13
  replace s14 := ku s14
  replace hz := zz
  clear kk zz
  refine vt (.agg #[.int .u64 (x : Int), .int .u64 (y : Int)]) (ex_ld rfl (ev s16 rfl) (ldDrAt e0 e1)) hz (fun Yl zz kk s17 => ?_)
  replace s0 := ku s0
  replace s12 := ku s12
  replace s13 := ku s13
  replace s14 := ku s14
  replace hz := zz
  clear kk zz s16 Yk
  refine vw (.pointer (some ⟨wr.heap.size, 0, none⟩)) (wr.alloc (.cells #[.int .u64 0, .int .u64 0] 33)) (want_none rfl) (ex_al rfl (by go_simp)) rfl hz (by decide) (fun Ym zz kk s5 => ?_)
  replace s0 := ku s0
  replace s12 := ku s12
  replace s13 := ku s13
  replace s14 := ku s14
  replace s17 := ku s17
  replace hz := zz
  clear kk zz Yl
  refine vs w5 (want_none rfl) (ex_st rfl (ev s5 rfl) (ev s17 rfl) (by rw [hw5]; exact stDr _ _ _ )) rfl ?_
  refine wpList_nil ?_
  go_upto_region 4 with fail
  refine wp_region_lit ?_
  refine vt _ (ex_move rfl (ev s0 rfl)) hz (fun Yn zz kk s18 => ?_)
  replace s0 := ku s0
  replace s5 := ku s5
  replace s12 := ku s12
  replace s13 := ku s13
  replace s14 := ku s14
  replace hz := zz
  clear kk zz s17
  refine vt (.agg #[.int .u64 (x : Int), .int .u64 (y : Int)]) (ex_ld rfl (ev s5 rfl) (ldDrAt (HQ.out w5 (Wi.TKp.refl w5) 0 _ rfl) (HQ.out w5 (Wi.TKp.refl w5) 1 _ rfl))) hz (fun Yo zz kk s19 => ?_)
  replace s0 := ku s0
  replace s5 := ku s5
  replace s12 := ku s12
  replace s13 := ku s13
  replace s14 := ku s14
  replace s18 := ku s18
  replace hz := zz
  clear kk zz Yn
  refine vcallP (want_none rfl) (ex_call rfl (by simp only [List.map_toArray, List.map_cons, List.map_nil, (ev s18 rfl), (ev s19 rfl), evc] <;> rfl) rfl) (wdraw_tk B b (l ++ M.form L.length ++ dsBy (L.take j)) x y w5 hB hO5 (by omega) (by omega) (Nat.le_trans (Nat.add_le_add_right hlen 18) (by omega))) rfl hz (by decide) ?_
  rintro e w6 ⟨rfl, hO6, hb6, ht6⟩
  refine ⟨_, rfl, fun Yp zz kk s20 => ?_⟩
  replace s0 := ku s0
  replace s5 := ku s5
  replace s12 := ku s12
  replace s13 := ku s13
  replace s14 := ku s14
  replace hz := zz
  clear kk zz s18 s19 Yo
  refine wpList_nil ?_
  go_upto_region 5 with fail
  refine wp_region_lit ?_
  refine vt (.int .i64 ((j + 1 : Nat) : Int)) (ex_bin rfl (ev s14 rfl) rfl (addJ j (by omega) _ _ _)) hz (fun Yq zz kk s21 => ?_)
  replace s0 := ku s0
  replace s12 := ku s12
  replace s13 := ku s13
  replace s14 := ku s14
  replace hz := zz
  clear kk zz s5 s20
  refine vt _ (ex_move rfl (ev s21 rfl)) hz (fun Yr zz kk s14x => ?_)
  replace s0 := ku s0
  replace s12 := ku s12
  replace s13 := ku s13
  clear kk hz s21 s14
  have hz := zz
  have s14 := s14x
  clear zz s14x Yq
  refine wpList_nil ?_
  have nx : dsBy (L.take (j + 1)) = dsBy (L.take j) ++ drBy x y := by rw [dsBy_next hd, enx]
  have hsz := HI.out.2.1.size
  exact ⟨_, rfl, by omega, hz, s0, s12, s13, s14, by rw [nx]; simpa only [List.append_assoc] using hO6, HI.out.2.1.trans ((hb5.mono (by have := HI.out.1.lt; omega)).trans (hb6)), HI.out.2.2.trans ((Wi.TKp.of_below hb5).trans (ht6))⟩
set_option maxHeartbeats 4000000 in
theorem wlog_tk (B b : Nat) (l : List Int) (L : List En) (a : Option Addr) (cv : Nat) (w0 w : World) (hB : B ≤ b) (h0 : Below w0.heap.size w0 w) (hB0 : w0.heap.size ≤ B) (hD : SlY yE w0 a L.length cv L) (hfit : ∀ d ∈ L, enF d) (h : Wi.WOkT w b l) (h7 : L.length ≤ 256) (hl : l.length + 26300 ≤ 140737488355328) :
    Calls Tryz.prog 124 #[.pointer (some ⟨b, 0, none⟩), .slice a L.length cv] w fun e w' => e = .returned (.tuple #[]) ∧ Wi.WOkT w' b (l ++ lgBy L) ∧ Below B w w' ∧ Wi.TKp w w' := by
  go_enter Tryz.func124, Tryz.ntmps124
  go_upto_region 0 with fail
  refine wp_region_lit ?_
  refine vl_gen (fun T => T.size = 26 ∧ T[0]? = some (gw true (.pointer (some ⟨b, 0, none⟩))) ∧ T[1]? = some (gw true (.slice a L.length cv))) ⟨rfl, rfl, rfl⟩ (fun T0 ⟨hz, s0, s1⟩ => ?_)
  refine vt _ (ex_move rfl (ev s0 rfl)) hz (fun Ya zz kk s6 => ?_)
  replace s0 := ku s0
  replace s1 := ku s1
  replace hz := zz
  clear kk zz
  refine vt (.pointer (some ⟨b, 0, none⟩)) (ex_nil rfl (ev s6 rfl)) hz (fun Yb zz kk s7 => ?_)
  replace s0 := ku s0
  replace s1 := ku s1
  replace hz := zz
  clear kk zz s6 Ya
  refine vt (.pointer (some ⟨b, 0, none⟩)) (ex_fa rfl (ev s7 rfl) (by go_simp)) hz (fun Yc zz kk s8 => ?_)
  replace s0 := ku s0
  replace s1 := ku s1
  replace hz := zz
  clear kk zz s7 Yb
  refine vt _ (ex_move rfl (ev s1 rfl)) hz (fun Yd zz kk s9 => ?_)
  replace s0 := ku s0
  replace s1 := ku s1
  replace s8 := ku s8
  replace hz := zz
  clear kk zz Yc
  refine vt (.int .i64 ((L.length : Nat) : Int)) (ex_lenE rfl rfl (ev s9 rfl)) hz (fun Ye zz kk s10 => ?_)
  replace s0 := ku s0
  replace s1 := ku s1
  replace s8 := ku s8
  replace hz := zz
  clear kk zz s9 Yd
  refine vcallP (want_none rfl) (ex_call rfl (by simp only [List.map_toArray, List.map_cons, List.map_nil, (ev s8 rfl), (ev s10 rfl), evc] <;> rfl) rfl) (Wi.count_tk B b l L.length 256 w hB h (by omega) h7 (by omega)) rfl hz (by decide) ?_
  rintro e w1 ⟨rfl, hO1, hb1, ht1⟩
  refine ⟨_, rfl, fun Yf zz kk s11 => ?_⟩
  replace s0 := ku s0
  replace s1 := ku s1
  replace hz := zz
  clear kk zz s8 s10 Ye
  refine wpList_nil ?_
  go_upto_region 1 with fail
  refine wp_region_lit ?_
  refine vt _ (ex_move rfl (ev s1 rfl)) hz (fun Yg zz kk s12 => ?_)
  replace s0 := ku s0
  replace hz := zz
  clear kk zz s1 s11
  refine vt (.int .i64 ((L.length : Nat) : Int)) (ex_lenE rfl rfl (ev s12 rfl)) hz (fun Yh zz kk s13 => ?_)
  replace s0 := ku s0
  replace s12 := ku s12
  replace hz := zz
  clear kk zz Yg
  refine vt (.int .i64 0) (ex_move rfl rfl) hz (fun Yi zz kk s14 => ?_)
  replace s0 := ku s0
  replace s12 := ku s12
  replace s13 := ku s13
  replace hz := zz
  clear kk zz Yh
  refine wpList_nil ?_
  go_upto_region 2 with fail
  refine v_loop 14 L.length (fun j T wr => T.size = 26 ∧ T[0]? = some (gw true (.pointer (some ⟨b, 0, none⟩))) ∧ T[12]? = some (gw true (.slice a L.length cv)) ∧ T[13]? = some (gw true (.int .i64 ((L.length : Nat) : Int))) ∧ T[14]? = some (gw true (.int .i64 (j : Int))) ∧ Hid (Wi.WOkT wr b (l ++ M.form L.length ++ esBy (L.take j)) ∧ Below B w wr ∧ Wi.TKp w wr)) (fun j T w h => h.2.2.2.2.1) ⟨hz, s0, s12, s13, s14, by simpa [esBy] using hO1, hb1, ht1⟩ ?_
  intro j R0 wr hj hh
  clear hz s0 s12 s13 s14
  obtain ⟨hz, s0, s12, s13, s14, HI⟩ := hh
  go_upto_region 2 with fail
  refine wp_region_lit ?_
  refine vt (.bool (decide ((j : Int) < (L.length : Int)))) (ex_bin rfl (ev s14 rfl) (ev s13 rfl) (lssC _ _ _ _ _)) hz (fun Yj zz kk s15 => ?_)
  replace s0 := ku s0
  replace s12 := ku s12
  replace s13 := ku s13
  replace s14 := ku s14
  replace hz := zz
  clear kk zz
  refine wpList_nil ?_
  go_upto_region 3 with fail
  cases e2 : decide ((j : Int) < (L.length : Int))
  · refine wp_cond_false ((ev s15 rfl).trans (congrArg Value.bool e2)) ?_
    have hjl : j = L.length := by have := of_decide_eq_false e2; omega
    have HJ := hide hjl
    clear e2 hjl
    go_wp2
    go_end0
    have hI := HI.out
    rw [HJ.out, List.take_length] at hI
    exact ⟨rfl, by simpa [lgBy] using hI.1, hI.2⟩
  refine wp_cond_true ((ev s15 rfl).trans (congrArg Value.bool e2)) ?_
  have hlt2 : j < L.length := by have := of_decide_eq_true e2; omega
  clear s15 e2
  go_upto_region 3 with fail
  refine wp_region_lit ?_
  obtain ⟨d, hd⟩ : ∃ d, L[j]? = some d := ⟨_, List.getElem?_eq_getElem hlt2⟩
  have hsl := hD.later (h0.trans (HI.out.2.1.mono hB0))
  obtain ⟨q, o, rfl, hq, hlie⟩ := hsl.place (fun e => by rw [e] at hlt2; simp at hlt2)
  have hdf := hfit d (List.mem_of_getElem? hd)
  obtain ⟨c, hc0⟩ := Int.eq_ofNat_of_zero_le hdf.1
  obtain ⟨n, hn0⟩ := Int.eq_ofNat_of_zero_le hdf.2.2.1
  obtain ⟨k, hk0⟩ := Int.eq_ofNat_of_zero_le hdf.2.2.2.2.1
  obtain ⟨s, hs0⟩ := Int.eq_ofNat_of_zero_le hdf.2.2.2.2.2.2.1
  obtain ⟨v, hv0⟩ : ∃ v, d.o.v = v := ⟨_, rfl⟩
  have hvs : v.size ≤ 64 := by rw [← hv0]; exact hdf.2.2.2.2.2.2.2.2
  have e0 : wr.cell? ⟨q, o + j * 5, none⟩ = some (.int .i64 (c : Int)) := by rw [← hc0]; exact hlie j d hd 0 _ rfl
  have e1 : wr.cell? ⟨q, o + j * 5 + 1, none⟩ = some (.int .i64 (n : Int)) := by rw [← hn0]; exact hlie j d hd 1 _ rfl
  have e2 : wr.cell? ⟨q, o + j * 5 + 2, none⟩ = some (.int .i64 (k : Int)) := by rw [← hk0]; exact hlie j d hd 2 _ rfl
  have e3 : wr.cell? ⟨q, o + j * 5 + 3, none⟩ = some (.int .i64 (s : Int)) := by rw [← hs0]; exact hlie j d hd 3 _ rfl
  have e4 : wr.cell? ⟨q, o + j * 5 + 4, none⟩ = some (.string v) := by rw [← hv0]; exact hlie j d hd 4 _ rfl
  have h1 := hdf.2.1
  have h2 := hdf.2.2.2.1
  have h3 := hdf.2.2.2.2.2.1
  have h4 := hdf.2.2.2.2.2.2.2.1
  rw [hc0] at h1
  rw [hn0] at h2
  rw [hk0] at h3
  rw [hs0] at h4
  have enx : enBy d = nmBy c n ++ opBy k s v := by unfold enBy; rw [hc0, hn0, hk0, hs0, hv0]; rfl
  obtain ⟨w5, hw5⟩ : ∃ w5, w5 = wr.alloc (.cells #[.int .i64 (c : Int), .int .i64 (n : Int), .int .i64 (k : Int), .int .i64 (s : Int), .string v] 28) := ⟨_, rfl⟩
  have hs5 : w5.heap.size = wr.heap.size + 1 := by rw [hw5]; simp
  have hb5 : Below wr.heap.size wr w5 := by rw [hw5]; exact (Below.refl _ _).alloc (Nat.le_refl _) _
  have HQ : Hid (∀ vv, Wi.TKp w5 vv → ∀ (ii : Nat) (uu : Value), ([.int .i64 (c : Int), .int .i64 (n : Int), .int .i64 (k : Int), .int .i64 (s : Int), .string v] : List Value)[ii]? = some uu → vv.cell? ⟨wr.heap.size, ii, none⟩ = some uu) := fun vv hv ii uu hx => by
    rw [hv.cell (p := ⟨wr.heap.size, ii, none⟩) (by rw [hs5]; exact Nat.lt_succ_self _) (by rw [hw5]; exact Wi.not_wtyp_box _ _ _ (by decide))]
    rw [hw5]
    exact cell_box _ _ _ _ _ (by simpa using hx)
  have hO5 := HI.out.1.later hb5
  have hlen : ((l ++ M.form L.length ++ esBy (L.take j)).length) ≤ l.length + 9 + 102 * 256 := by
    have f1 := form_le (show L.length < 2 ^ 64 by omega)
    have f2 := esBy_le (L.take j) (fun x hx => hfit x (List.mem_of_mem_take hx))
    rw [List.length_append, List.length_append]
    rw [List.length_take] at f2
    omega
  have hlen2 : (nmBy c n).length ≤ 18 := nmBy_le (by omega) (by omega)
  refine vt (.pointer (some ⟨q, o + j * 5, none⟩)) (ex_ix rfl (ev s12 rfl) (ev s14 rfl) (ixEnt _ _ _ _ _ hlt2 _)) hz (fun Yk zz kk s16 => ?_)
  replace s0 := ku s0
  replace s12 := ku s12
  replace s13 := ku s13
  replace s14 := ku s14
  replace hz := zz
  clear kk zz
  refine vt (.agg #[.int .i64 (c : Int), .int .i64 (n : Int), .int .i64 (k : Int), .int .i64 (s : Int), .string v]) (ex_ld rfl (ev s16 rfl) (ldEnAt e0 e1 e2 e3 e4)) hz (fun Yl zz kk s17 => ?_)
  replace s0 := ku s0
  replace s12 := ku s12
  replace s13 := ku s13
  replace s14 := ku s14
  replace hz := zz
  clear kk zz s16 Yk
  refine vw (.pointer (some ⟨wr.heap.size, 0, none⟩)) (wr.alloc (.cells #[.int .i64 0, .int .i64 0, .int .i64 0, .int .i64 0, .string ⟨#[]⟩] 28)) (want_none rfl) (ex_al rfl (by go_simp)) rfl hz (by decide) (fun Ym zz kk s5 => ?_)
  replace s0 := ku s0
  replace s12 := ku s12
  replace s13 := ku s13
  replace s14 := ku s14
  replace s17 := ku s17
  replace hz := zz
  clear kk zz Yl
  refine vs w5 (want_none rfl) (ex_st rfl (ev s5 rfl) (ev s17 rfl) (by rw [hw5]; exact stEn _ _ _ _ _ _)) rfl ?_
  refine wpList_nil ?_
  go_upto_region 4 with fail
  refine wp_region_lit ?_
  refine vt _ (ex_move rfl (ev s0 rfl)) hz (fun Yn zz kk s18 => ?_)
  replace s0 := ku s0
  replace s5 := ku s5
  replace s12 := ku s12
  replace s13 := ku s13
  replace s14 := ku s14
  replace hz := zz
  clear kk zz s17
  refine vt (.agg #[.int .i64 (c : Int), .int .i64 (n : Int), .int .i64 (k : Int), .int .i64 (s : Int), .string v]) (ex_ld rfl (ev s5 rfl) (ldEnAt (HQ.out w5 (Wi.TKp.refl w5) 0 _ rfl) (HQ.out w5 (Wi.TKp.refl w5) 1 _ rfl) (HQ.out w5 (Wi.TKp.refl w5) 2 _ rfl) (HQ.out w5 (Wi.TKp.refl w5) 3 _ rfl) (HQ.out w5 (Wi.TKp.refl w5) 4 _ rfl))) hz (fun Yo zz kk s19 => ?_)
  replace s0 := ku s0
  replace s5 := ku s5
  replace s12 := ku s12
  replace s13 := ku s13
  replace s14 := ku s14
  replace s18 := ku s18
  replace hz := zz
  clear kk zz Yn
  refine vcallP (want_none rfl) (ex_call rfl (by simp only [List.map_toArray, List.map_cons, List.map_nil, (ev s18 rfl), (ev s19 rfl), evc] <;> rfl) rfl) (wname_tk B b (l ++ M.form L.length ++ esBy (L.take j)) c n k s v w5 hB hO5 (by omega) (by omega) (Nat.le_trans (Nat.add_le_add_right hlen 18) (by omega))) rfl hz (by decide) ?_
  rintro e w6 ⟨rfl, hO6, hb6, ht6⟩
  refine ⟨_, rfl, fun Yp zz kk s20 => ?_⟩
  replace s0 := ku s0
  replace s5 := ku s5
  replace s12 := ku s12
  replace s13 := ku s13
  replace s14 := ku s14
  replace hz := zz
  clear kk zz s18 s19 Yo
  refine wpList_nil ?_
  go_upto_region 5 with fail
  refine wp_region_lit ?_
  refine vt _ (ex_move rfl (ev s0 rfl)) hz (fun Yq zz kk s21 => ?_)
  replace s0 := ku s0
  replace s5 := ku s5
  replace s12 := ku s12
  replace s13 := ku s13
  replace s14 := ku s14
  replace hz := zz
  clear kk zz s20
  refine vt (.pointer (some ⟨wr.heap.size, 2, none⟩)) (ex_fa rfl (ev s5 rfl) (by go_simp)) hz (fun Yr zz kk s22 => ?_)
  replace s0 := ku s0
  replace s12 := ku s12
  replace s13 := ku s13
  replace s14 := ku s14
  replace s21 := ku s21
  replace hz := zz
  clear kk zz s5 Yq
  refine vt (.agg #[.int .i64 (k : Int), .int .i64 (s : Int), .string v]) (ex_ld rfl (ev s22 rfl) (ldOpAt (HQ.out w6 ht6 2 _ rfl) (HQ.out w6 ht6 3 _ rfl) (HQ.out w6 ht6 4 _ rfl))) hz (fun Ys zz kk s23 => ?_)
  replace s0 := ku s0
  replace s12 := ku s12
  replace s13 := ku s13
  replace s14 := ku s14
  replace s21 := ku s21
  replace hz := zz
  clear kk zz s22 Yr
  refine vcallP (want_none rfl) (ex_call rfl (by simp only [List.map_toArray, List.map_cons, List.map_nil, (ev s21 rfl), (ev s23 rfl), evc] <;> rfl) rfl) (wop_tk B b ((l ++ M.form L.length ++ esBy (L.take j)) ++ nmBy c n) k s v w6 hB hO6 (by omega) (by omega) hvs (by rw [List.length_append]; exact Nat.le_trans (Nat.add_le_add_right (Nat.add_le_add hlen hlen2) 91) (by omega))) rfl hz (by decide) ?_
  rintro e w7 ⟨rfl, hO7, hb7, ht7⟩
  refine ⟨_, rfl, fun Yt zz kk s24 => ?_⟩
  replace s0 := ku s0
  replace s12 := ku s12
  replace s13 := ku s13
  replace s14 := ku s14
  replace hz := zz
  clear kk zz s21 s23 Ys
  refine wpList_nil ?_
  go_upto_region 6 with fail
  refine wp_region_lit ?_
  refine vt (.int .i64 ((j + 1 : Nat) : Int)) (ex_bin rfl (ev s14 rfl) rfl (addJ j (by omega) _ _ _)) hz (fun Yu zz kk s25 => ?_)
  replace s0 := ku s0
  replace s12 := ku s12
  replace s13 := ku s13
  replace s14 := ku s14
  replace hz := zz
  clear kk zz s24
  refine vt _ (ex_move rfl (ev s25 rfl)) hz (fun Yv zz kk s14x => ?_)
  replace s0 := ku s0
  replace s12 := ku s12
  replace s13 := ku s13
  clear kk hz s25 s14
  have hz := zz
  have s14 := s14x
  clear zz s14x Yu
  refine wpList_nil ?_
  have nx : esBy (L.take (j + 1)) = esBy (L.take j) ++ (nmBy c n ++ opBy k s v) := by rw [esBy_next hd, enx]
  have hsz := HI.out.2.1.size
  exact ⟨_, rfl, by omega, hz, s0, s12, s13, s14, by rw [nx]; simpa only [List.append_assoc] using hO7, HI.out.2.1.trans ((hb5.mono (by have := HI.out.1.lt; omega)).trans (hb6.trans hb7)), HI.out.2.2.trans ((Wi.TKp.of_below hb5).trans (ht6.trans ht7))⟩
theorem int_tkI (B b : Nat) (l : List Int) (x : Int) (w : World) (hB : B ≤ b) (h : Wi.WOkT w b l) (h0 : 0 ≤ x) (h1 : x ≤ 9223372036854775807) (hl : l.length + 9 ≤ 140737488355328) :
    Calls Tryz.prog 90 #[.pointer (some ⟨b, 0, none⟩), .int .i64 x] w fun e w' => e = .returned (.tuple #[]) ∧ Wi.WOkT w' b (l ++ M.form x.toNat) ∧ Below B w w' ∧ Wi.TKp w w' := by
  obtain ⟨n, rfl⟩ := Int.eq_ofNat_of_zero_le h0
  exact Wi.int_tk B b l n w hB h (by omega) hl
theorem wdraw_I (B b : Nat) (l : List Int) (d : Int × Int) (w : World) (hB : B ≤ b) (h : Wi.WOkT w b l) (hd : drF d) (hl : l.length + 18 ≤ 140737488355328) :
    Calls Tryz.prog 120 #[.pointer (some ⟨b, 0, none⟩), .agg #[.int .u64 d.1, .int .u64 d.2]] w fun e w' => e = .returned (.tuple #[]) ∧ Wi.WOkT w' b (l ++ drBy d.1.toNat d.2.toNat) ∧ Below B w w' ∧ Wi.TKp w w' := by
  obtain ⟨x, y⟩ := d
  obtain ⟨a, b', c, e⟩ := hd
  dsimp only at a b' c e ⊢
  obtain ⟨n, rfl⟩ := Int.eq_ofNat_of_zero_le a
  obtain ⟨k, rfl⟩ := Int.eq_ofNat_of_zero_le c
  exact wdraw_tk B b l n k w hB h (by omega) (by omega) hl
theorem wname_I (B b : Nat) (l : List Int) (e : En) (w : World) (hB : B ≤ b) (h : Wi.WOkT w b l) (he : 0 ≤ e.c ∧ e.c ≤ 9223372036854775807 ∧ 0 ≤ e.n ∧ e.n ≤ 9223372036854775807) (hl : l.length + 18 ≤ 140737488355328) :
    Calls Tryz.prog 121 #[.pointer (some ⟨b, 0, none⟩), .agg #[.int .i64 e.c, .int .i64 e.n, .int .i64 e.o.k, .int .i64 e.o.s, .string e.o.v]] w fun r w' => r = .returned (.tuple #[]) ∧ Wi.WOkT w' b (l ++ nmBy e.c.toNat e.n.toNat) ∧ Below B w w' ∧ Wi.TKp w w' := by
  obtain ⟨c, n, ⟨k, s, v⟩⟩ := e
  dsimp only at he ⊢
  obtain ⟨a1, a2, a3, a4⟩ := he
  obtain ⟨c', rfl⟩ := Int.eq_ofNat_of_zero_le a1
  obtain ⟨n', rfl⟩ := Int.eq_ofNat_of_zero_le a3
  exact wname_tk B b l c' n' k s v w hB h (by omega) (by omega) hl
theorem wop_I (B b : Nat) (l : List Int) (k s : Int) (v : ByteArray) (w : World) (hB : B ≤ b) (h : Wi.WOkT w b l) (he : 0 ≤ k ∧ k ≤ 9223372036854775807 ∧ 0 ≤ s ∧ s ≤ 9223372036854775807 ∧ v.size ≤ 64) (hl : l.length + 91 ≤ 140737488355328) :
    Calls Tryz.prog 122 #[.pointer (some ⟨b, 0, none⟩), .agg #[.int .i64 k, .int .i64 s, .string v]] w fun r w' => r = .returned (.tuple #[]) ∧ Wi.WOkT w' b (l ++ opBy k.toNat s.toNat v) ∧ Below B w w' ∧ Wi.TKp w w' := by
  obtain ⟨a1, a2, a3, a4, a5⟩ := he
  obtain ⟨k', rfl⟩ := Int.eq_ofNat_of_zero_le a1
  obtain ⟨s', rfl⟩ := Int.eq_ofNat_of_zero_le a3
  exact wop_tk B b l k' s' v w hB h (by omega) (by omega) a5 hl
theorem wresult_I (B b : Nat) (l : List Int) (r : Int × Int × ByteArray) (w : World) (hB : B ≤ b) (h : Wi.WOkT w b l) (he : 0 ≤ r.1 ∧ r.1 ≤ 9223372036854775807 ∧ 0 ≤ r.2.1 ∧ r.2.1 ≤ 9223372036854775807 ∧ r.2.2.size ≤ 64) (hl : l.length + 91 ≤ 140737488355328) :
    Calls Tryz.prog 123 #[.pointer (some ⟨b, 0, none⟩), .agg #[.int .i64 r.1, .int .i64 r.2.1, .string r.2.2]] w fun r' w' => r' = .returned (.tuple #[]) ∧ Wi.WOkT w' b (l ++ opBy r.1.toNat r.2.1.toNat r.2.2) ∧ Below B w w' ∧ Wi.TKp w w' := by
  obtain ⟨k, s, v⟩ := r
  dsimp only at he ⊢
  obtain ⟨a1, a2, a3, a4, a5⟩ := he
  obtain ⟨k', rfl⟩ := Int.eq_ofNat_of_zero_le a1
  obtain ⟨s', rfl⟩ := Int.eq_ofNat_of_zero_le a3
  exact wresult_tk B b l k' s' v w hB h (by omega) (by omega) a5 hl
structure mgF (m : Mg) (L : List En) (D : List (Int × Int)) : Prop where
  kd : 0 ≤ m.k ∧ m.k ≤ 9223372036854775807
  nd : 0 ≤ m.nd ∧ m.nd ≤ 9223372036854775807
  vw : 0 ≤ m.vw ∧ m.vw ≤ 9223372036854775807
  ls : 0 ≤ m.ls ∧ m.ls ≤ 9223372036854775807
  p : 0 ≤ m.p ∧ m.p ≤ 9223372036854775807
  cm : 0 ≤ m.cm ∧ m.cm ≤ 9223372036854775807
  d : drF m.d
  e : enF m.e
  r : 0 ≤ m.r.1 ∧ m.r.1 ≤ 9223372036854775807 ∧ 0 ≤ m.r.2.1 ∧ m.r.2.1 ≤ 9223372036854775807 ∧ m.r.2.2.size ≤ 64
  es : ∀ e ∈ L, enF e
  lL : L.length ≤ 256
  ds : ∀ d ∈ D, drF d
  lD : D.length ≤ 7
def colBy (m : Mg) (L : List En) (D : List (Int × Int)) (j : Nat) (op : Bool) : List Int :=
  match j with
  | 0 => M.form m.nd.toNat
  | 1 => M.form m.vw.toNat
  | 2 => M.form m.ls.toNat
  | 3 => M.form m.p.toNat
  | 4 => M.form m.cm.toNat
  | 5 => drBy m.d.1.toNat m.d.2.toNat
  | 6 => nmBy m.e.c.toNat m.e.n.toNat ++ (if op then opBy m.e.o.k.toNat m.e.o.s.toNat m.e.o.v else [])
  | 7 => opBy m.r.1.toNat m.r.2.1.toNat m.r.2.2
  | 8 => lgBy L
  | 9 => veBy D
  | _ => []
theorem Wi.not_wtyp_kind {w : World} {q : Nat} {c : Array Value} {t : TypeId} {f : Nat × Nat} (h : w.heap[q]? = some (.cells c t f)) (ht : ¬ (t = 5 ∨ t = 151 ∨ t = 112)) : ¬ Wi.wtyp w q := by
  rintro ⟨c', f', t', e, h'⟩
  rw [h] at e
  cases e
  exact ht h'
theorem MBox.tk {w w' : World} {q : Nat} {m : Mg} {s t : Value} (h : MBox w q m s t) (u : Wi.TKp w w') : MBox w' q m s t := by
  obtain ⟨c, f, hk⟩ := h.kind
  exact h.upd u (Wi.not_wtyp_kind hk (by decide))
theorem MBox.faOp (q : Nat) (w : World) : (Instr.fieldAt 28 (.pointer (some ⟨q, 3, none⟩)) 2).run Tryz.prog w = .ok (.pointer (some ⟨q, 5, none⟩)) w := by
  go_simp
theorem MBox.ldOp {w : World} {q : Nat} {m : Mg} {s t : Value} (h : MBox w q m s t) : (Instr.loadAt 26 (.pointer (some ⟨q, 5, none⟩))).run Tryz.prog w = .ok (.agg #[.int .i64 m.e.o.k, .int .i64 m.e.o.s, .string m.e.o.v]) w := by
  obtain ⟨x0, x1, x2, x3, x4, x5, x6, x7, x8, x9, x10, x11, x12, x13, x14, x15, x16, x17⟩ := h.all
  go_simp
theorem neqU8 (x y : Operand) (a b : Int) (w : World) : (do eqGuard .neq 82 x y (.int .u8 a) (.int .u8 b); binOp .neq 82 (.int .u8 a) (.int .u8 b) : Sem Value).run Tryz.prog w = .ok (.bool (!decide (a = b))) w := by
  go_simp
  by_cases h : a = b <;> simp [h]
set_option maxHeartbeats 4000000 in
theorem wfield_0 (B b : Nat) (l : List Int) (m : Mg) (a1 a2 : Option Addr) (cl cv : Nat) (L : List En) (D : List (Int × Int)) (q : Int) (w0 w : World) (hB : B ≤ b) (h0 : Below w0.heap.size w0 w) (hB0 : w0.heap.size ≤ B) (hL : SlY yE w0 a1 L.length cl L) (hD : SlY yD w0 a2 D.length cv D) (hm : mgF m L D) (h : Wi.WOkT w b l) (hl : l.length + 30000 ≤ 140737488355328) :
    Calls Tryz.prog 91 #[.pointer (some ⟨b, 0, none⟩), m.val (.slice a1 L.length cl) (.slice a2 D.length cv), .int .i64 0, .int .u8 q] w fun e w' => e = .returned (.tuple #[]) ∧ Wi.WOkT w' b (l ++ colBy m L D 0 (!decide (q = 15))) ∧ Below B w w' ∧ Wi.TKp w w' := by
  have hlt := h.lt
  go_enter Tryz.func91, Tryz.ntmps91
  go_upto_region 3 with (refine boxMk rfl (.tmp 1) rfl m _ _ rfl ?_; intro q1 w1 hq1 M1 hBw z1; subst hq1)
  have hO1 := h.later hBw
  have hBl : B ≤ w.heap.size := by omega
  have HM : Hid (∀ v, Wi.TKp w1 v → MBox v w.heap.size m (.slice a1 L.length cl) (.slice a2 D.length cv)) := fun v hv => M1.tk hv
  have hT1 := Wi.TKp.refl w1
  refine vh_start (fun v => Wi.TKp w1 v) (by kernel_rfl) ?_
  have hS : Wi.TKp w1 w1.drew := (Wi.TKp.refl w1).drewN 1
  refine vh_gen (fun T => T.size = 86 ∧ T[0]? = some (gw true (.pointer (some ⟨b, 0, none⟩))) ∧ T[3]? = some (gw true (.int .u8 q)) ∧ T[5]? = some (gw true (.pointer (some ⟨w.heap.size, 0, none⟩)))) ⟨rfl, rfl, rfl, rfl⟩ (fun T0 ⟨hz, s0, s3, s5⟩ => ?_)
  refine vh_take 0 true (.pointer (some ⟨b, 0, none⟩)) rfl (by kernel_rfl) (by kernel_rfl) (by kernel_rfl) (want_none rfl) (fun hc v hv => ex_move rfl (ev s0 rfl)) rfl hz (by decide) hS (fun A_1 zz kk s11 => ?_)
  replace s0 := ku s0
  replace s3 := ku s3
  replace s5 := ku s5
  replace hz := zz
  clear kk zz
  refine vh_take 1 true (.pointer (some ⟨b, 0, none⟩)) rfl (by kernel_rfl) (by kernel_rfl) (by kernel_rfl) (want_none rfl) (fun hc v hv => ex_nil rfl (ev s11 rfl)) rfl hz (by decide) hS (fun A_2 zz kk s12 => ?_)
  replace s0 := ku s0
  replace s3 := ku s3
  replace s5 := ku s5
  replace hz := zz
  clear kk zz s11 A_1
  refine vh_take 2 true (.pointer (some ⟨b, 0, none⟩)) rfl (by kernel_rfl) (by kernel_rfl) (by kernel_rfl) (want_none rfl) (fun hc v hv => ex_fa rfl (ev s12 rfl) (by go_simp)) rfl hz (by decide) hS (fun A_3 zz kk s13 => ?_)
  replace s0 := ku s0
  replace s3 := ku s3
  replace s5 := ku s5
  replace hz := zz
  clear kk zz s12 A_2
  refine vh_take 3 true (.pointer (some ⟨w.heap.size, 1, none⟩)) rfl (by kernel_rfl) (by kernel_rfl) (by kernel_rfl) (want_none rfl) (fun hc v hv => ex_fa rfl (ev s5 rfl) (MBox.faNode _ _)) rfl hz (by decide) hS (fun A_4 zz kk s14 => ?_)
  replace s0 := ku s0
  replace s3 := ku s3
  replace s5 := ku s5
  replace s13 := ku s13
  replace hz := zz
  clear kk zz A_3
  refine vh_take 4 true (.int .i64 m.nd) rfl (by kernel_rfl) (by kernel_rfl) (by kernel_rfl) (want_none rfl) (fun hc v hv => ex_ld rfl (ev s14 rfl) ((HM.out v hv).ldNode)) rfl hz (by decide) hS (fun A_5 zz kk s15 => ?_)
  replace s0 := ku s0
  replace s3 := ku s3
  replace s5 := ku s5
  replace s13 := ku s13
  replace hz := zz
  clear kk zz s14 A_4
  refine vh_call 5 rfl (by kernel_rfl) (want_none rfl) (ex_call rfl (by simp only [List.map_toArray, List.map_cons, List.map_nil, (ev s13 rfl), (ev s15 rfl), evc] <;> rfl) rfl) (int_tkI B b l m.nd w1.drew hB hO1.drew hm.nd.1 hm.nd.2 (by omega)) rfl hz (by decide) ?_
  rintro e w2 ⟨rfl, hO2, hb2, ht2⟩
  refine ⟨_, rfl, (hS.trans ht2), fun A_6 zz kk s16 => ?_⟩
  have hb3 : Below B w1 w2 := (Below.refl _ _).drew.trans hb2
  have ht3 : Wi.TKp w1 w2 := ((Wi.TKp.refl w1).drewN 1).trans ht2
  replace s0 := ku s0
  replace s3 := ku s3
  replace s5 := ku s5
  replace hz := zz
  clear kk zz s13 s15 A_5
  refine vh_done (by kernel_rfl) ?_
  go_wp2
  go_end0
  exact ⟨rfl, hO2, (hBw.mono hBl).trans hb3, (Wi.TKp.of_below hBw).trans ht3⟩
set_option maxHeartbeats 4000000 in
theorem wfield_1 (B b : Nat) (l : List Int) (m : Mg) (a1 a2 : Option Addr) (cl cv : Nat) (L : List En) (D : List (Int × Int)) (q : Int) (w0 w : World) (hB : B ≤ b) (h0 : Below w0.heap.size w0 w) (hB0 : w0.heap.size ≤ B) (hL : SlY yE w0 a1 L.length cl L) (hD : SlY yD w0 a2 D.length cv D) (hm : mgF m L D) (h : Wi.WOkT w b l) (hl : l.length + 30000 ≤ 140737488355328) :
    Calls Tryz.prog 91 #[.pointer (some ⟨b, 0, none⟩), m.val (.slice a1 L.length cl) (.slice a2 D.length cv), .int .i64 1, .int .u8 q] w fun e w' => e = .returned (.tuple #[]) ∧ Wi.WOkT w' b (l ++ colBy m L D 1 (!decide (q = 15))) ∧ Below B w w' ∧ Wi.TKp w w' := by
  have hlt := h.lt
  go_enter Tryz.func91, Tryz.ntmps91
  go_upto_region 5 with (refine boxMk rfl (.tmp 1) rfl m _ _ rfl ?_; intro q1 w1 hq1 M1 hBw z1; subst hq1)
  have hO1 := h.later hBw
  have hBl : B ≤ w.heap.size := by omega
  have HM : Hid (∀ v, Wi.TKp w1 v → MBox v w.heap.size m (.slice a1 L.length cl) (.slice a2 D.length cv)) := fun v hv => M1.tk hv
  have hT1 := Wi.TKp.refl w1
  refine vh_start (fun v => Wi.TKp w1 v) (by kernel_rfl) ?_
  have hS : Wi.TKp w1 w1.drew := (Wi.TKp.refl w1).drewN 1
  refine vh_gen (fun T => T.size = 86 ∧ T[0]? = some (gw true (.pointer (some ⟨b, 0, none⟩))) ∧ T[3]? = some (gw true (.int .u8 q)) ∧ T[5]? = some (gw true (.pointer (some ⟨w.heap.size, 0, none⟩)))) ⟨rfl, rfl, rfl, rfl⟩ (fun T0 ⟨hz, s0, s3, s5⟩ => ?_)
  refine vh_take 0 true (.pointer (some ⟨b, 0, none⟩)) rfl (by kernel_rfl) (by kernel_rfl) (by kernel_rfl) (want_none rfl) (fun hc v hv => ex_move rfl (ev s0 rfl)) rfl hz (by decide) hS (fun A_1 zz kk s19 => ?_)
  replace s0 := ku s0
  replace s3 := ku s3
  replace s5 := ku s5
  replace hz := zz
  clear kk zz
  refine vh_take 1 true (.pointer (some ⟨b, 0, none⟩)) rfl (by kernel_rfl) (by kernel_rfl) (by kernel_rfl) (want_none rfl) (fun hc v hv => ex_nil rfl (ev s19 rfl)) rfl hz (by decide) hS (fun A_2 zz kk s20 => ?_)
  replace s0 := ku s0
  replace s3 := ku s3
  replace s5 := ku s5
  replace hz := zz
  clear kk zz s19 A_1
  refine vh_take 2 true (.pointer (some ⟨b, 0, none⟩)) rfl (by kernel_rfl) (by kernel_rfl) (by kernel_rfl) (want_none rfl) (fun hc v hv => ex_fa rfl (ev s20 rfl) (by go_simp)) rfl hz (by decide) hS (fun A_3 zz kk s21 => ?_)
  replace s0 := ku s0
  replace s3 := ku s3
  replace s5 := ku s5
  replace hz := zz
  clear kk zz s20 A_2
  refine vh_take 3 true (.pointer (some ⟨w.heap.size, 2, none⟩)) rfl (by kernel_rfl) (by kernel_rfl) (by kernel_rfl) (want_none rfl) (fun hc v hv => ex_fa rfl (ev s5 rfl) (MBox.faView _ _)) rfl hz (by decide) hS (fun A_4 zz kk s22 => ?_)
  replace s0 := ku s0
  replace s3 := ku s3
  replace s5 := ku s5
  replace s21 := ku s21
  replace hz := zz
  clear kk zz A_3
  refine vh_take 4 true (.int .i64 m.vw) rfl (by kernel_rfl) (by kernel_rfl) (by kernel_rfl) (want_none rfl) (fun hc v hv => ex_ld rfl (ev s22 rfl) ((HM.out v hv).ldView)) rfl hz (by decide) hS (fun A_5 zz kk s23 => ?_)
  replace s0 := ku s0
  replace s3 := ku s3
  replace s5 := ku s5
  replace s21 := ku s21
  replace hz := zz
  clear kk zz s22 A_4
  refine vh_call 5 rfl (by kernel_rfl) (want_none rfl) (ex_call rfl (by simp only [List.map_toArray, List.map_cons, List.map_nil, (ev s21 rfl), (ev s23 rfl), evc] <;> rfl) rfl) (int_tkI B b l m.vw w1.drew hB hO1.drew hm.vw.1 hm.vw.2 (by omega)) rfl hz (by decide) ?_
  rintro e w2 ⟨rfl, hO2, hb2, ht2⟩
  refine ⟨_, rfl, (hS.trans ht2), fun A_6 zz kk s24 => ?_⟩
  have hb3 : Below B w1 w2 := (Below.refl _ _).drew.trans hb2
  have ht3 : Wi.TKp w1 w2 := ((Wi.TKp.refl w1).drewN 1).trans ht2
  replace s0 := ku s0
  replace s3 := ku s3
  replace s5 := ku s5
  replace hz := zz
  clear kk zz s21 s23 A_5
  refine vh_done (by kernel_rfl) ?_
  go_wp2
  go_end0
  exact ⟨rfl, hO2, (hBw.mono hBl).trans hb3, (Wi.TKp.of_below hBw).trans ht3⟩
set_option maxHeartbeats 4000000 in
theorem wfield_2 (B b : Nat) (l : List Int) (m : Mg) (a1 a2 : Option Addr) (cl cv : Nat) (L : List En) (D : List (Int × Int)) (q : Int) (w0 w : World) (hB : B ≤ b) (h0 : Below w0.heap.size w0 w) (hB0 : w0.heap.size ≤ B) (hL : SlY yE w0 a1 L.length cl L) (hD : SlY yD w0 a2 D.length cv D) (hm : mgF m L D) (h : Wi.WOkT w b l) (hl : l.length + 30000 ≤ 140737488355328) :
    Calls Tryz.prog 91 #[.pointer (some ⟨b, 0, none⟩), m.val (.slice a1 L.length cl) (.slice a2 D.length cv), .int .i64 2, .int .u8 q] w fun e w' => e = .returned (.tuple #[]) ∧ Wi.WOkT w' b (l ++ colBy m L D 2 (!decide (q = 15))) ∧ Below B w w' ∧ Wi.TKp w w' := by
  have hlt := h.lt
  go_enter Tryz.func91, Tryz.ntmps91
  go_upto_region 7 with (refine boxMk rfl (.tmp 1) rfl m _ _ rfl ?_; intro q1 w1 hq1 M1 hBw z1; subst hq1)
  have hO1 := h.later hBw
  have hBl : B ≤ w.heap.size := by omega
  have HM : Hid (∀ v, Wi.TKp w1 v → MBox v w.heap.size m (.slice a1 L.length cl) (.slice a2 D.length cv)) := fun v hv => M1.tk hv
  have hT1 := Wi.TKp.refl w1
  refine vh_start (fun v => Wi.TKp w1 v) (by kernel_rfl) ?_
  have hS : Wi.TKp w1 w1.drew := (Wi.TKp.refl w1).drewN 1
  refine vh_gen (fun T => T.size = 86 ∧ T[0]? = some (gw true (.pointer (some ⟨b, 0, none⟩))) ∧ T[3]? = some (gw true (.int .u8 q)) ∧ T[5]? = some (gw true (.pointer (some ⟨w.heap.size, 0, none⟩)))) ⟨rfl, rfl, rfl, rfl⟩ (fun T0 ⟨hz, s0, s3, s5⟩ => ?_)
  refine vh_take 0 true (.pointer (some ⟨b, 0, none⟩)) rfl (by kernel_rfl) (by kernel_rfl) (by kernel_rfl) (want_none rfl) (fun hc v hv => ex_move rfl (ev s0 rfl)) rfl hz (by decide) hS (fun A_1 zz kk s27 => ?_)
  replace s0 := ku s0
  replace s3 := ku s3
  replace s5 := ku s5
  replace hz := zz
  clear kk zz
  refine vh_take 1 true (.pointer (some ⟨b, 0, none⟩)) rfl (by kernel_rfl) (by kernel_rfl) (by kernel_rfl) (want_none rfl) (fun hc v hv => ex_nil rfl (ev s27 rfl)) rfl hz (by decide) hS (fun A_2 zz kk s28 => ?_)
  replace s0 := ku s0
  replace s3 := ku s3
  replace s5 := ku s5
  replace hz := zz
  clear kk zz s27 A_1
  refine vh_take 2 true (.pointer (some ⟨b, 0, none⟩)) rfl (by kernel_rfl) (by kernel_rfl) (by kernel_rfl) (want_none rfl) (fun hc v hv => ex_fa rfl (ev s28 rfl) (by go_simp)) rfl hz (by decide) hS (fun A_3 zz kk s29 => ?_)
  replace s0 := ku s0
  replace s3 := ku s3
  replace s5 := ku s5
  replace hz := zz
  clear kk zz s28 A_2
  refine vh_take 3 true (.pointer (some ⟨w.heap.size, 13, none⟩)) rfl (by kernel_rfl) (by kernel_rfl) (by kernel_rfl) (want_none rfl) (fun hc v hv => ex_fa rfl (ev s5 rfl) (MBox.faLast _ _)) rfl hz (by decide) hS (fun A_4 zz kk s30 => ?_)
  replace s0 := ku s0
  replace s3 := ku s3
  replace s5 := ku s5
  replace s29 := ku s29
  replace hz := zz
  clear kk zz A_3
  refine vh_take 4 true (.int .i64 m.ls) rfl (by kernel_rfl) (by kernel_rfl) (by kernel_rfl) (want_none rfl) (fun hc v hv => ex_ld rfl (ev s30 rfl) ((HM.out v hv).ldLast)) rfl hz (by decide) hS (fun A_5 zz kk s31 => ?_)
  replace s0 := ku s0
  replace s3 := ku s3
  replace s5 := ku s5
  replace s29 := ku s29
  replace hz := zz
  clear kk zz s30 A_4
  refine vh_call 5 rfl (by kernel_rfl) (want_none rfl) (ex_call rfl (by simp only [List.map_toArray, List.map_cons, List.map_nil, (ev s29 rfl), (ev s31 rfl), evc] <;> rfl) rfl) (int_tkI B b l m.ls w1.drew hB hO1.drew hm.ls.1 hm.ls.2 (by omega)) rfl hz (by decide) ?_
  rintro e w2 ⟨rfl, hO2, hb2, ht2⟩
  refine ⟨_, rfl, (hS.trans ht2), fun A_6 zz kk s32 => ?_⟩
  have hb3 : Below B w1 w2 := (Below.refl _ _).drew.trans hb2
  have ht3 : Wi.TKp w1 w2 := ((Wi.TKp.refl w1).drewN 1).trans ht2
  replace s0 := ku s0
  replace s3 := ku s3
  replace s5 := ku s5
  replace hz := zz
  clear kk zz s29 s31 A_5
  refine vh_done (by kernel_rfl) ?_
  go_wp2
  go_end0
  exact ⟨rfl, hO2, (hBw.mono hBl).trans hb3, (Wi.TKp.of_below hBw).trans ht3⟩
set_option maxHeartbeats 4000000 in
theorem wfield_3 (B b : Nat) (l : List Int) (m : Mg) (a1 a2 : Option Addr) (cl cv : Nat) (L : List En) (D : List (Int × Int)) (q : Int) (w0 w : World) (hB : B ≤ b) (h0 : Below w0.heap.size w0 w) (hB0 : w0.heap.size ≤ B) (hL : SlY yE w0 a1 L.length cl L) (hD : SlY yD w0 a2 D.length cv D) (hm : mgF m L D) (h : Wi.WOkT w b l) (hl : l.length + 30000 ≤ 140737488355328) :
    Calls Tryz.prog 91 #[.pointer (some ⟨b, 0, none⟩), m.val (.slice a1 L.length cl) (.slice a2 D.length cv), .int .i64 3, .int .u8 q] w fun e w' => e = .returned (.tuple #[]) ∧ Wi.WOkT w' b (l ++ colBy m L D 3 (!decide (q = 15))) ∧ Below B w w' ∧ Wi.TKp w w' := by
  have hlt := h.lt
  go_enter Tryz.func91, Tryz.ntmps91
  go_upto_region 9 with (refine boxMk rfl (.tmp 1) rfl m _ _ rfl ?_; intro q1 w1 hq1 M1 hBw z1; subst hq1)
  have hO1 := h.later hBw
  have hBl : B ≤ w.heap.size := by omega
  have HM : Hid (∀ v, Wi.TKp w1 v → MBox v w.heap.size m (.slice a1 L.length cl) (.slice a2 D.length cv)) := fun v hv => M1.tk hv
  have hT1 := Wi.TKp.refl w1
  refine vh_start (fun v => Wi.TKp w1 v) (by kernel_rfl) ?_
  have hS : Wi.TKp w1 w1.drew := (Wi.TKp.refl w1).drewN 1
  refine vh_gen (fun T => T.size = 86 ∧ T[0]? = some (gw true (.pointer (some ⟨b, 0, none⟩))) ∧ T[3]? = some (gw true (.int .u8 q)) ∧ T[5]? = some (gw true (.pointer (some ⟨w.heap.size, 0, none⟩)))) ⟨rfl, rfl, rfl, rfl⟩ (fun T0 ⟨hz, s0, s3, s5⟩ => ?_)
  refine vh_take 0 true (.pointer (some ⟨b, 0, none⟩)) rfl (by kernel_rfl) (by kernel_rfl) (by kernel_rfl) (want_none rfl) (fun hc v hv => ex_move rfl (ev s0 rfl)) rfl hz (by decide) hS (fun A_1 zz kk s35 => ?_)
  replace s0 := ku s0
  replace s3 := ku s3
  replace s5 := ku s5
  replace hz := zz
  clear kk zz
  refine vh_take 1 true (.pointer (some ⟨b, 0, none⟩)) rfl (by kernel_rfl) (by kernel_rfl) (by kernel_rfl) (want_none rfl) (fun hc v hv => ex_nil rfl (ev s35 rfl)) rfl hz (by decide) hS (fun A_2 zz kk s36 => ?_)
  replace s0 := ku s0
  replace s3 := ku s3
  replace s5 := ku s5
  replace hz := zz
  clear kk zz s35 A_1
  refine vh_take 2 true (.pointer (some ⟨b, 0, none⟩)) rfl (by kernel_rfl) (by kernel_rfl) (by kernel_rfl) (want_none rfl) (fun hc v hv => ex_fa rfl (ev s36 rfl) (by go_simp)) rfl hz (by decide) hS (fun A_3 zz kk s37 => ?_)
  replace s0 := ku s0
  replace s3 := ku s3
  replace s5 := ku s5
  replace hz := zz
  clear kk zz s36 A_2
  refine vh_take 3 true (.pointer (some ⟨w.heap.size, 11, none⟩)) rfl (by kernel_rfl) (by kernel_rfl) (by kernel_rfl) (want_none rfl) (fun hc v hv => ex_fa rfl (ev s5 rfl) (MBox.faPlace _ _)) rfl hz (by decide) hS (fun A_4 zz kk s38 => ?_)
  replace s0 := ku s0
  replace s3 := ku s3
  replace s5 := ku s5
  replace s37 := ku s37
  replace hz := zz
  clear kk zz A_3
  refine vh_take 4 true (.int .i64 m.p) rfl (by kernel_rfl) (by kernel_rfl) (by kernel_rfl) (want_none rfl) (fun hc v hv => ex_ld rfl (ev s38 rfl) ((HM.out v hv).ldPlace)) rfl hz (by decide) hS (fun A_5 zz kk s39 => ?_)
  replace s0 := ku s0
  replace s3 := ku s3
  replace s5 := ku s5
  replace s37 := ku s37
  replace hz := zz
  clear kk zz s38 A_4
  refine vh_call 5 rfl (by kernel_rfl) (want_none rfl) (ex_call rfl (by simp only [List.map_toArray, List.map_cons, List.map_nil, (ev s37 rfl), (ev s39 rfl), evc] <;> rfl) rfl) (int_tkI B b l m.p w1.drew hB hO1.drew hm.p.1 hm.p.2 (by omega)) rfl hz (by decide) ?_
  rintro e w2 ⟨rfl, hO2, hb2, ht2⟩
  refine ⟨_, rfl, (hS.trans ht2), fun A_6 zz kk s40 => ?_⟩
  have hb3 : Below B w1 w2 := (Below.refl _ _).drew.trans hb2
  have ht3 : Wi.TKp w1 w2 := ((Wi.TKp.refl w1).drewN 1).trans ht2
  replace s0 := ku s0
  replace s3 := ku s3
  replace s5 := ku s5
  replace hz := zz
  clear kk zz s37 s39 A_5
  refine vh_done (by kernel_rfl) ?_
  go_wp2
  go_end0
  exact ⟨rfl, hO2, (hBw.mono hBl).trans hb3, (Wi.TKp.of_below hBw).trans ht3⟩
set_option maxHeartbeats 4000000 in
theorem wfield_4 (B b : Nat) (l : List Int) (m : Mg) (a1 a2 : Option Addr) (cl cv : Nat) (L : List En) (D : List (Int × Int)) (q : Int) (w0 w : World) (hB : B ≤ b) (h0 : Below w0.heap.size w0 w) (hB0 : w0.heap.size ≤ B) (hL : SlY yE w0 a1 L.length cl L) (hD : SlY yD w0 a2 D.length cv D) (hm : mgF m L D) (h : Wi.WOkT w b l) (hl : l.length + 30000 ≤ 140737488355328) :
    Calls Tryz.prog 91 #[.pointer (some ⟨b, 0, none⟩), m.val (.slice a1 L.length cl) (.slice a2 D.length cv), .int .i64 4, .int .u8 q] w fun e w' => e = .returned (.tuple #[]) ∧ Wi.WOkT w' b (l ++ colBy m L D 4 (!decide (q = 15))) ∧ Below B w w' ∧ Wi.TKp w w' := by
  have hlt := h.lt
  go_enter Tryz.func91, Tryz.ntmps91
  go_upto_region 11 with (refine boxMk rfl (.tmp 1) rfl m _ _ rfl ?_; intro q1 w1 hq1 M1 hBw z1; subst hq1)
  have hO1 := h.later hBw
  have hBl : B ≤ w.heap.size := by omega
  have HM : Hid (∀ v, Wi.TKp w1 v → MBox v w.heap.size m (.slice a1 L.length cl) (.slice a2 D.length cv)) := fun v hv => M1.tk hv
  have hT1 := Wi.TKp.refl w1
  refine vh_start (fun v => Wi.TKp w1 v) (by kernel_rfl) ?_
  have hS : Wi.TKp w1 w1.drew := (Wi.TKp.refl w1).drewN 1
  refine vh_gen (fun T => T.size = 86 ∧ T[0]? = some (gw true (.pointer (some ⟨b, 0, none⟩))) ∧ T[3]? = some (gw true (.int .u8 q)) ∧ T[5]? = some (gw true (.pointer (some ⟨w.heap.size, 0, none⟩)))) ⟨rfl, rfl, rfl, rfl⟩ (fun T0 ⟨hz, s0, s3, s5⟩ => ?_)
  refine vh_take 0 true (.pointer (some ⟨b, 0, none⟩)) rfl (by kernel_rfl) (by kernel_rfl) (by kernel_rfl) (want_none rfl) (fun hc v hv => ex_move rfl (ev s0 rfl)) rfl hz (by decide) hS (fun A_1 zz kk s43 => ?_)
  replace s0 := ku s0
  replace s3 := ku s3
  replace s5 := ku s5
  replace hz := zz
  clear kk zz
  refine vh_take 1 true (.pointer (some ⟨b, 0, none⟩)) rfl (by kernel_rfl) (by kernel_rfl) (by kernel_rfl) (want_none rfl) (fun hc v hv => ex_nil rfl (ev s43 rfl)) rfl hz (by decide) hS (fun A_2 zz kk s44 => ?_)
  replace s0 := ku s0
  replace s3 := ku s3
  replace s5 := ku s5
  replace hz := zz
  clear kk zz s43 A_1
  refine vh_take 2 true (.pointer (some ⟨b, 0, none⟩)) rfl (by kernel_rfl) (by kernel_rfl) (by kernel_rfl) (want_none rfl) (fun hc v hv => ex_fa rfl (ev s44 rfl) (by go_simp)) rfl hz (by decide) hS (fun A_3 zz kk s45 => ?_)
  replace s0 := ku s0
  replace s3 := ku s3
  replace s5 := ku s5
  replace hz := zz
  clear kk zz s44 A_2
  refine vh_take 3 true (.pointer (some ⟨w.heap.size, 12, none⟩)) rfl (by kernel_rfl) (by kernel_rfl) (by kernel_rfl) (want_none rfl) (fun hc v hv => ex_fa rfl (ev s5 rfl) (MBox.faCommit _ _)) rfl hz (by decide) hS (fun A_4 zz kk s46 => ?_)
  replace s0 := ku s0
  replace s3 := ku s3
  replace s5 := ku s5
  replace s45 := ku s45
  replace hz := zz
  clear kk zz A_3
  refine vh_take 4 true (.int .i64 m.cm) rfl (by kernel_rfl) (by kernel_rfl) (by kernel_rfl) (want_none rfl) (fun hc v hv => ex_ld rfl (ev s46 rfl) ((HM.out v hv).ldCommit)) rfl hz (by decide) hS (fun A_5 zz kk s47 => ?_)
  replace s0 := ku s0
  replace s3 := ku s3
  replace s5 := ku s5
  replace s45 := ku s45
  replace hz := zz
  clear kk zz s46 A_4
  refine vh_call 5 rfl (by kernel_rfl) (want_none rfl) (ex_call rfl (by simp only [List.map_toArray, List.map_cons, List.map_nil, (ev s45 rfl), (ev s47 rfl), evc] <;> rfl) rfl) (int_tkI B b l m.cm w1.drew hB hO1.drew hm.cm.1 hm.cm.2 (by omega)) rfl hz (by decide) ?_
  rintro e w2 ⟨rfl, hO2, hb2, ht2⟩
  refine ⟨_, rfl, (hS.trans ht2), fun A_6 zz kk s48 => ?_⟩
  have hb3 : Below B w1 w2 := (Below.refl _ _).drew.trans hb2
  have ht3 : Wi.TKp w1 w2 := ((Wi.TKp.refl w1).drewN 1).trans ht2
  replace s0 := ku s0
  replace s3 := ku s3
  replace s5 := ku s5
  replace hz := zz
  clear kk zz s45 s47 A_5
  refine vh_done (by kernel_rfl) ?_
  go_wp2
  go_end0
  exact ⟨rfl, hO2, (hBw.mono hBl).trans hb3, (Wi.TKp.of_below hBw).trans ht3⟩
set_option maxHeartbeats 4000000 in
theorem wfield_5 (B b : Nat) (l : List Int) (m : Mg) (a1 a2 : Option Addr) (cl cv : Nat) (L : List En) (D : List (Int × Int)) (q : Int) (w0 w : World) (hB : B ≤ b) (h0 : Below w0.heap.size w0 w) (hB0 : w0.heap.size ≤ B) (hL : SlY yE w0 a1 L.length cl L) (hD : SlY yD w0 a2 D.length cv D) (hm : mgF m L D) (h : Wi.WOkT w b l) (hl : l.length + 30000 ≤ 140737488355328) :
    Calls Tryz.prog 91 #[.pointer (some ⟨b, 0, none⟩), m.val (.slice a1 L.length cl) (.slice a2 D.length cv), .int .i64 5, .int .u8 q] w fun e w' => e = .returned (.tuple #[]) ∧ Wi.WOkT w' b (l ++ colBy m L D 5 (!decide (q = 15))) ∧ Below B w w' ∧ Wi.TKp w w' := by
  have hlt := h.lt
  go_enter Tryz.func91, Tryz.ntmps91
  go_upto_region 13 with (refine boxMk rfl (.tmp 1) rfl m _ _ rfl ?_; intro q1 w1 hq1 M1 hBw z1; subst hq1)
  have hO1 := h.later hBw
  have hBl : B ≤ w.heap.size := by omega
  have HM : Hid (∀ v, Wi.TKp w1 v → MBox v w.heap.size m (.slice a1 L.length cl) (.slice a2 D.length cv)) := fun v hv => M1.tk hv
  have hT1 := Wi.TKp.refl w1
  refine wp_region_lit ?_
  refine vl_gen (fun T => T.size = 86 ∧ T[0]? = some (gw true (.pointer (some ⟨b, 0, none⟩))) ∧ T[3]? = some (gw true (.int .u8 q)) ∧ T[5]? = some (gw true (.pointer (some ⟨w.heap.size, 0, none⟩)))) ⟨rfl, rfl, rfl, rfl⟩ (fun T0 ⟨hz, s0, s3, s5⟩ => ?_)
  refine vt _ (ex_move rfl (ev s0 rfl)) hz (fun A_1 zz kk s51 => ?_)
  replace s0 := ku s0
  replace s3 := ku s3
  replace s5 := ku s5
  replace hz := zz
  clear kk zz
  refine vt (.pointer (some ⟨w.heap.size, 14, none⟩)) (ex_fa rfl (ev s5 rfl) (MBox.faDraw _ _)) hz (fun A_2 zz kk s52 => ?_)
  replace s0 := ku s0
  replace s3 := ku s3
  replace s5 := ku s5
  replace s51 := ku s51
  replace hz := zz
  clear kk zz A_1
  refine vt (.agg #[.int .u64 m.d.1, .int .u64 m.d.2]) (ex_ld rfl (ev s52 rfl) ((HM.out w1 hT1).ldDraw)) hz (fun A_3 zz kk s53 => ?_)
  replace s0 := ku s0
  replace s3 := ku s3
  replace s5 := ku s5
  replace s51 := ku s51
  replace hz := zz
  clear kk zz s52 A_2
  refine vcallP (want_none rfl) (ex_call rfl (by simp only [List.map_toArray, List.map_cons, List.map_nil, (ev s51 rfl), (ev s53 rfl), evc] <;> rfl) rfl) (wdraw_I B b l m.d w1 hB hO1 hm.d (by omega)) rfl hz (by decide) ?_
  rintro e w2 ⟨rfl, hO2, hb2, ht2⟩
  refine ⟨_, rfl, fun A_4 zz kk s54 => ?_⟩
  have hb3 := hb2
  have ht3 := ht2
  replace s0 := ku s0
  replace s3 := ku s3
  replace s5 := ku s5
  replace hz := zz
  clear kk zz s51 s53 A_3
  refine wpList_nil ?_
  go_wp2
  go_end0
  exact ⟨rfl, hO2, (hBw.mono hBl).trans hb3, (Wi.TKp.of_below hBw).trans ht3⟩
set_option maxHeartbeats 4000000 in
theorem wfield_6 (B b : Nat) (l : List Int) (m : Mg) (a1 a2 : Option Addr) (cl cv : Nat) (L : List En) (D : List (Int × Int)) (q : Int) (w0 w : World) (hB : B ≤ b) (h0 : Below w0.heap.size w0 w) (hB0 : w0.heap.size ≤ B) (hL : SlY yE w0 a1 L.length cl L) (hD : SlY yD w0 a2 D.length cv D) (hm : mgF m L D) (h : Wi.WOkT w b l) (hl : l.length + 30000 ≤ 140737488355328) :
    Calls Tryz.prog 91 #[.pointer (some ⟨b, 0, none⟩), m.val (.slice a1 L.length cl) (.slice a2 D.length cv), .int .i64 6, .int .u8 q] w fun e w' => e = .returned (.tuple #[]) ∧ Wi.WOkT w' b (l ++ colBy m L D 6 (!decide (q = 15))) ∧ Below B w w' ∧ Wi.TKp w w' := by
  have hlt := h.lt
  go_enter Tryz.func91, Tryz.ntmps91
  go_upto_region 15 with (refine boxMk rfl (.tmp 1) rfl m _ _ rfl ?_; intro q1 w1 hq1 M1 hBw z1; subst hq1)
  have hO1 := h.later hBw
  have hBl : B ≤ w.heap.size := by omega
  have HM : Hid (∀ v, Wi.TKp w1 v → MBox v w.heap.size m (.slice a1 L.length cl) (.slice a2 D.length cv)) := fun v hv => M1.tk hv
  have hT1 := Wi.TKp.refl w1
  refine wp_region_lit ?_
  refine vl_gen (fun T => T.size = 86 ∧ T[0]? = some (gw true (.pointer (some ⟨b, 0, none⟩))) ∧ T[3]? = some (gw true (.int .u8 q)) ∧ T[5]? = some (gw true (.pointer (some ⟨w.heap.size, 0, none⟩)))) ⟨rfl, rfl, rfl, rfl⟩ (fun T0 ⟨hz, s0, s3, s5⟩ => ?_)
  refine vt _ (ex_move rfl (ev s0 rfl)) hz (fun A_1 zz kk s57 => ?_)
  replace s0 := ku s0
  replace s3 := ku s3
  replace s5 := ku s5
  replace hz := zz
  clear kk zz
  refine vt (.pointer (some ⟨w.heap.size, 3, none⟩)) (ex_fa rfl (ev s5 rfl) (MBox.faEntry _ _)) hz (fun A_2 zz kk s58 => ?_)
  replace s0 := ku s0
  replace s3 := ku s3
  replace s5 := ku s5
  replace s57 := ku s57
  replace hz := zz
  clear kk zz A_1
  refine vt (.agg #[.int .i64 m.e.c, .int .i64 m.e.n, .int .i64 m.e.o.k, .int .i64 m.e.o.s, .string m.e.o.v]) (ex_ld rfl (ev s58 rfl) ((HM.out w1 hT1).ldEntry)) hz (fun A_3 zz kk s59 => ?_)
  replace s0 := ku s0
  replace s3 := ku s3
  replace s5 := ku s5
  replace s57 := ku s57
  replace hz := zz
  clear kk zz s58 A_2
  refine vcallP (want_none rfl) (ex_call rfl (by simp only [List.map_toArray, List.map_cons, List.map_nil, (ev s57 rfl), (ev s59 rfl), evc] <;> rfl) rfl) (wname_I B b l m.e w1 hB hO1 ⟨hm.e.1, hm.e.2.1, hm.e.2.2.1, hm.e.2.2.2.1⟩ (by omega)) rfl hz (by decide) ?_
  rintro e w2 ⟨rfl, hO2, hb2, ht2⟩
  refine ⟨_, rfl, fun A_4 zz kk s60 => ?_⟩
  have hb3 := hb2
  have ht3 := ht2
  replace s0 := ku s0
  replace s3 := ku s3
  replace s5 := ku s5
  replace hz := zz
  clear kk zz s57 s59 A_3
  refine wpList_nil ?_
  go_upto_region 16 with fail
  refine wp_region_lit ?_
  refine vt _ (ex_move rfl (ev s3 rfl)) hz (fun C_1 zz kk s61 => ?_)
  replace s0 := ku s0
  replace s3 := ku s3
  replace s5 := ku s5
  replace hz := zz
  clear kk zz s60
  refine vt (.bool (!decide (q = 15))) (ex_bin rfl (ev s61 rfl) rfl (neqU8 _ _ _ _ _)) hz (fun C_2 zz kk s62 => ?_)
  replace s0 := ku s0
  replace s3 := ku s3
  replace s5 := ku s5
  replace hz := zz
  clear kk zz s61 C_1
  refine wpList_nil ?_
  go_upto_region 17 with fail
  cases e6 : !decide (q = 15)
  · refine wp_cond_false ((ev s62 rfl).trans (congrArg Value.bool e6)) ?_
    go_wp2
    go_end0
    exact ⟨rfl, by rw [e6]; simpa [colBy] using hO2, (hBw.mono hBl).trans hb3, (Wi.TKp.of_below hBw).trans ht3⟩
  refine wp_cond_true ((ev s62 rfl).trans (congrArg Value.bool e6)) ?_
  go_upto_region 17 with fail
  refine wp_region_lit ?_
  refine vt _ (ex_move rfl (ev s0 rfl)) hz (fun D_1 zz kk s63 => ?_)
  replace s0 := ku s0
  replace s5 := ku s5
  replace hz := zz
  clear kk zz s3 s62
  refine vt (.pointer (some ⟨w.heap.size, 3, none⟩)) (ex_fa rfl (ev s5 rfl) (MBox.faEntry _ _)) hz (fun D_2 zz kk s64 => ?_)
  replace s0 := ku s0
  replace s63 := ku s63
  replace hz := zz
  clear kk zz s5 D_1
  refine vt (.pointer (some ⟨w.heap.size, 5, none⟩)) (ex_fa rfl (ev s64 rfl) (MBox.faOp _ _)) hz (fun D_3 zz kk s65 => ?_)
  replace s0 := ku s0
  replace s63 := ku s63
  replace hz := zz
  clear kk zz s64 D_2
  refine vt (.agg #[.int .i64 m.e.o.k, .int .i64 m.e.o.s, .string m.e.o.v]) (ex_ld rfl (ev s65 rfl) ((HM.out w2 ht2).ldOp)) hz (fun D_4 zz kk s66 => ?_)
  replace s0 := ku s0
  replace s63 := ku s63
  replace hz := zz
  clear kk zz s65 D_3
  refine vcallP (want_none rfl) (ex_call rfl (by simp only [List.map_toArray, List.map_cons, List.map_nil, (ev s63 rfl), (ev s66 rfl), evc] <;> rfl) rfl) (wop_I B b _ m.e.o.k m.e.o.s m.e.o.v w2 hB hO2 ⟨hm.e.2.2.2.2.1, hm.e.2.2.2.2.2.1, hm.e.2.2.2.2.2.2.1, hm.e.2.2.2.2.2.2.2.1, hm.e.2.2.2.2.2.2.2.2⟩ (by rw [List.length_append]; have := nmBy_le (x := m.e.c.toNat) (y := m.e.n.toNat) (by have := hm.e.2.1; have := hm.e.1; omega) (by have := hm.e.2.2.2.1; have := hm.e.2.2.1; omega); omega)) rfl hz (by decide) ?_
  rintro e w3 ⟨rfl, hO3, hb4, ht4⟩
  refine ⟨_, rfl, fun D_5 zz kk s67 => ?_⟩
  replace s0 := ku s0
  replace hz := zz
  clear kk zz s63 s66 D_4
  refine wpList_nil ?_
  go_wp2
  go_end0
  exact ⟨rfl, by rw [e6]; simpa [colBy, List.append_assoc] using hO3, (hBw.mono hBl).trans (hb3.trans hb4), (Wi.TKp.of_below hBw).trans (ht3.trans ht4)⟩
set_option maxHeartbeats 4000000 in
theorem wfield_7 (B b : Nat) (l : List Int) (m : Mg) (a1 a2 : Option Addr) (cl cv : Nat) (L : List En) (D : List (Int × Int)) (q : Int) (w0 w : World) (hB : B ≤ b) (h0 : Below w0.heap.size w0 w) (hB0 : w0.heap.size ≤ B) (hL : SlY yE w0 a1 L.length cl L) (hD : SlY yD w0 a2 D.length cv D) (hm : mgF m L D) (h : Wi.WOkT w b l) (hl : l.length + 30000 ≤ 140737488355328) :
    Calls Tryz.prog 91 #[.pointer (some ⟨b, 0, none⟩), m.val (.slice a1 L.length cl) (.slice a2 D.length cv), .int .i64 7, .int .u8 q] w fun e w' => e = .returned (.tuple #[]) ∧ Wi.WOkT w' b (l ++ colBy m L D 7 (!decide (q = 15))) ∧ Below B w w' ∧ Wi.TKp w w' := by
  have hlt := h.lt
  go_enter Tryz.func91, Tryz.ntmps91
  go_upto_region 19 with (refine boxMk rfl (.tmp 1) rfl m _ _ rfl ?_; intro q1 w1 hq1 M1 hBw z1; subst hq1)
  have hO1 := h.later hBw
  have hBl : B ≤ w.heap.size := by omega
  have HM : Hid (∀ v, Wi.TKp w1 v → MBox v w.heap.size m (.slice a1 L.length cl) (.slice a2 D.length cv)) := fun v hv => M1.tk hv
  have hT1 := Wi.TKp.refl w1
  refine wp_region_lit ?_
  refine vl_gen (fun T => T.size = 86 ∧ T[0]? = some (gw true (.pointer (some ⟨b, 0, none⟩))) ∧ T[3]? = some (gw true (.int .u8 q)) ∧ T[5]? = some (gw true (.pointer (some ⟨w.heap.size, 0, none⟩)))) ⟨rfl, rfl, rfl, rfl⟩ (fun T0 ⟨hz, s0, s3, s5⟩ => ?_)
  refine vt _ (ex_move rfl (ev s0 rfl)) hz (fun A_1 zz kk s70 => ?_)
  replace s0 := ku s0
  replace s3 := ku s3
  replace s5 := ku s5
  replace hz := zz
  clear kk zz
  refine vt (.pointer (some ⟨w.heap.size, 8, none⟩)) (ex_fa rfl (ev s5 rfl) (MBox.faResult _ _)) hz (fun A_2 zz kk s71 => ?_)
  replace s0 := ku s0
  replace s3 := ku s3
  replace s5 := ku s5
  replace s70 := ku s70
  replace hz := zz
  clear kk zz A_1
  refine vt (.agg #[.int .i64 m.r.1, .int .i64 m.r.2.1, .string m.r.2.2]) (ex_ld rfl (ev s71 rfl) ((HM.out w1 hT1).ldResult)) hz (fun A_3 zz kk s72 => ?_)
  replace s0 := ku s0
  replace s3 := ku s3
  replace s5 := ku s5
  replace s70 := ku s70
  replace hz := zz
  clear kk zz s71 A_2
  refine vcallP (want_none rfl) (ex_call rfl (by simp only [List.map_toArray, List.map_cons, List.map_nil, (ev s70 rfl), (ev s72 rfl), evc] <;> rfl) rfl) (wresult_I B b l m.r w1 hB hO1 hm.r (by omega)) rfl hz (by decide) ?_
  rintro e w2 ⟨rfl, hO2, hb2, ht2⟩
  refine ⟨_, rfl, fun A_4 zz kk s73 => ?_⟩
  have hb3 := hb2
  have ht3 := ht2
  replace s0 := ku s0
  replace s3 := ku s3
  replace s5 := ku s5
  replace hz := zz
  clear kk zz s70 s72 A_3
  refine wpList_nil ?_
  go_wp2
  go_end0
  exact ⟨rfl, hO2, (hBw.mono hBl).trans hb3, (Wi.TKp.of_below hBw).trans ht3⟩
set_option maxHeartbeats 4000000 in
theorem wfield_8 (B b : Nat) (l : List Int) (m : Mg) (a1 a2 : Option Addr) (cl cv : Nat) (L : List En) (D : List (Int × Int)) (q : Int) (w0 w : World) (hB : B ≤ b) (h0 : Below w0.heap.size w0 w) (hB0 : w0.heap.size ≤ B) (hL : SlY yE w0 a1 L.length cl L) (hD : SlY yD w0 a2 D.length cv D) (hm : mgF m L D) (h : Wi.WOkT w b l) (hl : l.length + 30000 ≤ 140737488355328) :
    Calls Tryz.prog 91 #[.pointer (some ⟨b, 0, none⟩), m.val (.slice a1 L.length cl) (.slice a2 D.length cv), .int .i64 8, .int .u8 q] w fun e w' => e = .returned (.tuple #[]) ∧ Wi.WOkT w' b (l ++ colBy m L D 8 (!decide (q = 15))) ∧ Below B w w' ∧ Wi.TKp w w' := by
  have hlt := h.lt
  go_enter Tryz.func91, Tryz.ntmps91
  go_upto_region 21 with (refine boxMk rfl (.tmp 1) rfl m _ _ rfl ?_; intro q1 w1 hq1 M1 hBw z1; subst hq1)
  have hO1 := h.later hBw
  have hBl : B ≤ w.heap.size := by omega
  have HM : Hid (∀ v, Wi.TKp w1 v → MBox v w.heap.size m (.slice a1 L.length cl) (.slice a2 D.length cv)) := fun v hv => M1.tk hv
  have hT1 := Wi.TKp.refl w1
  refine wp_region_lit ?_
  refine vl_gen (fun T => T.size = 86 ∧ T[0]? = some (gw true (.pointer (some ⟨b, 0, none⟩))) ∧ T[3]? = some (gw true (.int .u8 q)) ∧ T[5]? = some (gw true (.pointer (some ⟨w.heap.size, 0, none⟩)))) ⟨rfl, rfl, rfl, rfl⟩ (fun T0 ⟨hz, s0, s3, s5⟩ => ?_)
  refine vt _ (ex_move rfl (ev s0 rfl)) hz (fun A_1 zz kk s76 => ?_)
  replace s0 := ku s0
  replace s3 := ku s3
  replace s5 := ku s5
  replace hz := zz
  clear kk zz
  refine vt (.pointer (some ⟨w.heap.size, 16, none⟩)) (ex_fa rfl (ev s5 rfl) (MBox.faLog _ _)) hz (fun A_2 zz kk s77 => ?_)
  replace s0 := ku s0
  replace s3 := ku s3
  replace s5 := ku s5
  replace s76 := ku s76
  replace hz := zz
  clear kk zz A_1
  refine vt (.slice a1 L.length cl) (ex_ld rfl (ev s77 rfl) ((HM.out w1 hT1).ldLog)) hz (fun A_3 zz kk s78 => ?_)
  replace s0 := ku s0
  replace s3 := ku s3
  replace s5 := ku s5
  replace s76 := ku s76
  replace hz := zz
  clear kk zz s77 A_2
  refine vcallP (want_none rfl) (ex_call rfl (by simp only [List.map_toArray, List.map_cons, List.map_nil, (ev s76 rfl), (ev s78 rfl), evc] <;> rfl) rfl) (wlog_tk B b l L a1 cl w0 w1 hB (h0.trans (hBw.mono h0.size)) hB0 hL hm.es hO1 hm.lL (by omega)) rfl hz (by decide) ?_
  rintro e w2 ⟨rfl, hO2, hb2, ht2⟩
  refine ⟨_, rfl, fun A_4 zz kk s79 => ?_⟩
  have hb3 := hb2
  have ht3 := ht2
  replace s0 := ku s0
  replace s3 := ku s3
  replace s5 := ku s5
  replace hz := zz
  clear kk zz s76 s78 A_3
  refine wpList_nil ?_
  go_wp2
  go_end0
  exact ⟨rfl, hO2, (hBw.mono hBl).trans hb3, (Wi.TKp.of_below hBw).trans ht3⟩
set_option maxHeartbeats 4000000 in
theorem wfield_9 (B b : Nat) (l : List Int) (m : Mg) (a1 a2 : Option Addr) (cl cv : Nat) (L : List En) (D : List (Int × Int)) (q : Int) (w0 w : World) (hB : B ≤ b) (h0 : Below w0.heap.size w0 w) (hB0 : w0.heap.size ≤ B) (hL : SlY yE w0 a1 L.length cl L) (hD : SlY yD w0 a2 D.length cv D) (hm : mgF m L D) (h : Wi.WOkT w b l) (hl : l.length + 30000 ≤ 140737488355328) :
    Calls Tryz.prog 91 #[.pointer (some ⟨b, 0, none⟩), m.val (.slice a1 L.length cl) (.slice a2 D.length cv), .int .i64 9, .int .u8 q] w fun e w' => e = .returned (.tuple #[]) ∧ Wi.WOkT w' b (l ++ colBy m L D 9 (!decide (q = 15))) ∧ Below B w w' ∧ Wi.TKp w w' := by
  have hlt := h.lt
  go_enter Tryz.func91, Tryz.ntmps91
  go_upto_region 23 with (refine boxMk rfl (.tmp 1) rfl m _ _ rfl ?_; intro q1 w1 hq1 M1 hBw z1; subst hq1)
  have hO1 := h.later hBw
  have hBl : B ≤ w.heap.size := by omega
  have HM : Hid (∀ v, Wi.TKp w1 v → MBox v w.heap.size m (.slice a1 L.length cl) (.slice a2 D.length cv)) := fun v hv => M1.tk hv
  have hT1 := Wi.TKp.refl w1
  refine wp_region_lit ?_
  refine vl_gen (fun T => T.size = 86 ∧ T[0]? = some (gw true (.pointer (some ⟨b, 0, none⟩))) ∧ T[3]? = some (gw true (.int .u8 q)) ∧ T[5]? = some (gw true (.pointer (some ⟨w.heap.size, 0, none⟩)))) ⟨rfl, rfl, rfl, rfl⟩ (fun T0 ⟨hz, s0, s3, s5⟩ => ?_)
  refine vt _ (ex_move rfl (ev s0 rfl)) hz (fun A_1 zz kk s82 => ?_)
  replace s0 := ku s0
  replace s3 := ku s3
  replace s5 := ku s5
  replace hz := zz
  clear kk zz
  refine vt (.pointer (some ⟨w.heap.size, 17, none⟩)) (ex_fa rfl (ev s5 rfl) (MBox.faVector _ _)) hz (fun A_2 zz kk s83 => ?_)
  replace s0 := ku s0
  replace s3 := ku s3
  replace s5 := ku s5
  replace s82 := ku s82
  replace hz := zz
  clear kk zz A_1
  refine vt (.slice a2 D.length cv) (ex_ld rfl (ev s83 rfl) ((HM.out w1 hT1).ldVector)) hz (fun A_3 zz kk s84 => ?_)
  replace s0 := ku s0
  replace s3 := ku s3
  replace s5 := ku s5
  replace s82 := ku s82
  replace hz := zz
  clear kk zz s83 A_2
  refine vcallP (want_none rfl) (ex_call rfl (by simp only [List.map_toArray, List.map_cons, List.map_nil, (ev s82 rfl), (ev s84 rfl), evc] <;> rfl) rfl) (wvector_tk B b l D a2 cv w0 w1 hB (h0.trans (hBw.mono h0.size)) hB0 hD hm.ds hO1 hm.lD (by omega)) rfl hz (by decide) ?_
  rintro e w2 ⟨rfl, hO2, hb2, ht2⟩
  refine ⟨_, rfl, fun A_4 zz kk s85 => ?_⟩
  have hb3 := hb2
  have ht3 := ht2
  replace s0 := ku s0
  replace s3 := ku s3
  replace s5 := ku s5
  replace hz := zz
  clear kk zz s82 s84 A_3
  refine wpList_nil ?_
  go_wp2
  go_end0
  exact ⟨rfl, hO2, (hBw.mono hBl).trans hb3, (Wi.TKp.of_below hBw).trans ht3⟩
theorem wfield_all (B b : Nat) (l : List Int) (m : Mg) (a1 a2 : Option Addr) (cl cv : Nat) (L : List En) (D : List (Int × Int)) (j : Nat) (hj : j < 10) (q : Int) (w0 w : World) (hB : B ≤ b) (h0 : Below w0.heap.size w0 w) (hB0 : w0.heap.size ≤ B) (hL : SlY yE w0 a1 L.length cl L) (hD : SlY yD w0 a2 D.length cv D) (hm : mgF m L D) (h : Wi.WOkT w b l) (hl : l.length + 30000 ≤ 140737488355328) :
    Calls Tryz.prog 91 #[.pointer (some ⟨b, 0, none⟩), m.val (.slice a1 L.length cl) (.slice a2 D.length cv), .int .i64 (j : Int), .int .u8 q] w fun e w' => e = .returned (.tuple #[]) ∧ Wi.WOkT w' b (l ++ colBy m L D j (!decide (q = 15))) ∧ Below B w w' ∧ Wi.TKp w w' := by
  match j, hj with
  | 0, _ => exact wfield_0 B b l m a1 a2 cl cv L D q w0 w hB h0 hB0 hL hD hm h hl
  | 1, _ => exact wfield_1 B b l m a1 a2 cl cv L D q w0 w hB h0 hB0 hL hD hm h hl
  | 2, _ => exact wfield_2 B b l m a1 a2 cl cv L D q w0 w hB h0 hB0 hL hD hm h hl
  | 3, _ => exact wfield_3 B b l m a1 a2 cl cv L D q w0 w hB h0 hB0 hL hD hm h hl
  | 4, _ => exact wfield_4 B b l m a1 a2 cl cv L D q w0 w hB h0 hB0 hL hD hm h hl
  | 5, _ => exact wfield_5 B b l m a1 a2 cl cv L D q w0 w hB h0 hB0 hL hD hm h hl
  | 6, _ => exact wfield_6 B b l m a1 a2 cl cv L D q w0 w hB h0 hB0 hL hD hm h hl
  | 7, _ => exact wfield_7 B b l m a1 a2 cl cv L D q w0 w hB h0 hB0 hL hD hm h hl
  | 8, _ => exact wfield_8 B b l m a1 a2 cl cv L D q w0 w hB h0 hB0 hL hD hm h hl
  | 9, _ => exact wfield_9 B b l m a1 a2 cl cv L D q w0 w hB h0 hB0 hL hD hm h hl
  | (k + 10), hk => exact absurd hk (by omega)
theorem ckA_lgA : ∀ (L past : List En), (ckA past L).1 = lgA past L
  | [], past => rfl
  | e :: r, past => by
    unfold ckA lgA
    by_cases h : er past e ≠ 0
    · rw [if_pos h, if_pos h]
    · rw [if_neg h, if_neg h]; exact ckA_lgA r _
theorem chk_lg {r : Int} (h1 : 1 ≤ r) (h2 : r ≤ 256) (L : List En) : (chk L r).1 = lg L r := by
  unfold chk lg
  rw [if_neg (by omega)]
  by_cases h : r < L.length
  · rw [if_pos h, if_pos h]
  · rw [if_neg h, if_neg h]; exact ckA_lgA L []
theorem chk_one (e : En) : (chk [e] 1).1 = ckE e := by
  rw [chk_lg (by decide) (by decide)]
  show (if (1 : Int) < ((1 : Nat) : Int) then 60 else lgA [] [e]) = ckE e
  rw [if_neg (by decide)]
  show (if er [] e ≠ 0 then er [] e else 0) = ckE e
  have he : er [] e = ckE e := by
    unfold er
    by_cases h : ckE e ≠ 0
    · rw [if_pos h]
    · rw [if_neg h]
      have h0 : ckE e = 0 := by omega
      rw [h0]
      rfl
  rw [he]
  by_cases h : ckE e ≠ 0
  · rw [if_pos h]
  · rw [if_neg h]; omega
theorem nmB_en (e : En) (k : Int) (hk : k = 2 ∨ k = 14) : nmB e = enK k e := by
  unfold nmB enK
  rw [if_pos hk, chk_one]
  have h : ckE (nmE e) = if e.c < 0 ∨ 16 ≤ e.c then 62 else if e.n < 1 then 63 else 0 := rfl
  rw [Bool.eq_iff_iff, h]
  simp only [Bool.and_eq_true, decide_eq_true_eq]
  constructor
  · rintro ⟨⟨a, b, c⟩, d⟩
    split at d
    · omega
    · split at d
      · omega
      · exact ⟨by omega, by omega, by omega, a, b, c⟩
  · rintro ⟨a1, a2, a3, a, b, c⟩
    exact ⟨⟨a, b, c⟩, by rw [if_neg (by omega), if_neg (by omega)]⟩
theorem en_1 (e : En) : enK 1 e = decide (ckE e = 0) := by unfold enK; simp
theorem en_3 (e : En) : enK 3 e = decide (ckE e = 0) := by unfold enK; simp
theorem en_13 (e : En) : enK 13 e = (decide (ckE e = 0) && (decide (e.o.k = 3) || decide (e.o.k = 4))) := by unfold enK; simp
theorem tmod_in {x n : Int} (hx : 0 ≤ x) (hn : 0 < n) : 0 ≤ x.tmod n ∧ x.tmod n < n := ⟨Int.tmod_nonneg _ hx, Int.tmod_lt_of_pos _ hn⟩
theorem en_z (e : En) : enb e zEn = decide (e = zEn) := by
  rw [Bool.eq_iff_iff, enb_iff, decide_eq_true_eq]
theorem ite_eq_t {c : Prop} [Decidable c] {x : Bool} : ((if c then false else x) = true) = (¬ c ∧ x = true) := by by_cases h : c <;> simp [h]
theorem lg_nil {r : Int} (h : 1 ≤ r) : lg [] r = 0 := by unfold lg; rw [if_neg (by simp; omega)]; rfl
theorem apB_iff (p c r : Int) : (apB p c r = true) = ((c = 7 ∧ p = 0) ∨ (¬ c = 7 ∧ 1 ≤ p ∧ p ≤ r)) := by
  unfold apB inR
  by_cases h : c = 7 <;> simp [h]
theorem own_at (nd : Int) (D : List (Int × Int)) (d : Int × Int) (h0 : 0 ≤ nd) (h1 : nd < (D.length : Int)) : D[nd.toNat]? = some d ↔ d = D.getD nd.toNat (0, 0) := by
  have hl : nd.toNat < D.length := by omega
  rw [List.getD_eq_getElem?_getD, List.getElem?_eq_getElem hl]
  constructor
  · intro h; exact (Option.some.inj h).symm
  · intro h; exact congrArg some h.symm
theorem lg_len {L : List En} {r : Int} (h : lg L r = 0) : (L.length : Int) ≤ r := by
  unfold lg at h
  by_cases hr : r < L.length
  · rw [if_pos hr] at h; omega
  · omega
set_option maxHeartbeats 4000000 in
theorem docm_1 (f r : Int) (m : Mg) (L : List En) (D : List (Int × Int)) (hf1 : 1 ≤ f) (hf2 : f ≤ 3) (hr1 : 1 ≤ r) (hr2 : r ≤ 256) : (unG m L.length D.length false false false false false false true false false false && fiG f r m L D 1 false false false false false false true false false false) = (keepB f r m L D 0 0 && (keepB f r m L D 1 0 && (keepB f r m L D 2 0 && (keepB f r m L D 3 0 && (keepB f r m L D 4 0 && (keepB f r m L D 5 0 && (keepB f r m L D 6 13 && (keepB f r m L D 7 0 && (keepB f r m L D 8 0 && (keepB f r m L D 9 0 && true)))))))))) := by
  have T : m.vw < 0 ∨ (0 ≤ m.vw.tmod (2 * f + 1) ∧ m.vw.tmod (2 * f + 1) < 2 * f + 1) := by
    by_cases h : m.vw < 0
    · exact .inl h
    · exact .inr (tmod_in (by omega) (by omega))
  have G : ¬ lg L r = 0 ∨ (L.length : Int) ≤ r := by
    by_cases h : lg L r = 0
    · exact .inr (lg_len h)
    · exact .inl h
  rw [Bool.eq_iff_iff]
  simp only [unG, fiG, keepB, blB, inR, prB, plB, owB, rdB, chk_one, chk_lg hr1 hr2, nmB_en m.e 14 (Or.inr rfl), en_1, en_3, en_13, en_z, Bool.true_or, Bool.false_or, Bool.true_and, Bool.false_and, Bool.or_false, Bool.and_true, Bool.not_true, Bool.not_false, Bool.or_true, Bool.and_false, Bool.and_eq_true, Bool.or_eq_true, decide_eq_true_eq, ite_eq_t, apB_iff, Bool.false_eq_true, if_false, if_true, Int.reduceEq, decide_false, decide_true, bne_iff_ne, ne_eq, decide_eq_decide, Bool.not_eq_true', decide_eq_false_iff_not, Nat.reduceEqDiff, reduceIte, Nat.one_ne_zero, and_true, and_assoc, not_or, not_and, not_not, Bool.not_eq_true]
  generalize m.vw.tmod (2 * f + 1) = q at *
  constructor <;> intro h <;> (repeat' apply And.intro) <;> first | omega | (simp [h]; done)
set_option maxHeartbeats 4000000 in
theorem docm_2 (f r : Int) (m : Mg) (L : List En) (D : List (Int × Int)) (hf1 : 1 ≤ f) (hf2 : f ≤ 3) (hr1 : 1 ≤ r) (hr2 : r ≤ 256) : (unG m L.length D.length true true false true false false true true false false && fiG f r m L D 2 true true false true false false true true false false) = (keepB f r m L D 0 1 && (keepB f r m L D 1 3 && (keepB f r m L D 2 0 && (keepB f r m L D 3 8 && (keepB f r m L D 4 0 && (keepB f r m L D 5 0 && (keepB f r m L D 6 15 && (keepB f r m L D 7 16 && (keepB f r m L D 8 0 && (keepB f r m L D 9 0 && true)))))))))) := by
  have T : m.vw < 0 ∨ (0 ≤ m.vw.tmod (2 * f + 1) ∧ m.vw.tmod (2 * f + 1) < 2 * f + 1) := by
    by_cases h : m.vw < 0
    · exact .inl h
    · exact .inr (tmod_in (by omega) (by omega))
  have G : ¬ lg L r = 0 ∨ (L.length : Int) ≤ r := by
    by_cases h : lg L r = 0
    · exact .inr (lg_len h)
    · exact .inl h
  rw [Bool.eq_iff_iff]
  simp only [unG, fiG, keepB, blB, inR, prB, plB, owB, rdB, chk_one, chk_lg hr1 hr2, nmB_en m.e 2 (Or.inl rfl), en_1, en_3, en_13, en_z, Bool.true_or, Bool.false_or, Bool.true_and, Bool.false_and, Bool.or_false, Bool.and_true, Bool.not_true, Bool.not_false, Bool.or_true, Bool.and_false, Bool.and_eq_true, Bool.or_eq_true, decide_eq_true_eq, ite_eq_t, apB_iff, Bool.false_eq_true, if_false, if_true, Int.reduceEq, decide_false, decide_true, bne_iff_ne, ne_eq, decide_eq_decide, Bool.not_eq_true', decide_eq_false_iff_not, Nat.reduceEqDiff, reduceIte, Nat.one_ne_zero, and_true, and_assoc, not_or, not_and, not_not, Bool.not_eq_true]
  generalize m.vw.tmod (2 * f + 1) = q at *
  constructor <;> intro h <;> (repeat' apply And.intro) <;> first | omega | (simp [h]; done)
set_option maxHeartbeats 4000000 in
theorem docm_3 (f r : Int) (m : Mg) (L : List En) (D : List (Int × Int)) (hf1 : 1 ≤ f) (hf2 : f ≤ 3) (hr1 : 1 ≤ r) (hr2 : r ≤ 256) : (unG m L.length D.length true true false true true false true false false true && fiG f r m L D 3 true true false true true false true false false true) = (keepB f r m L D 0 2 && (keepB f r m L D 1 3 && (keepB f r m L D 2 0 && (keepB f r m L D 3 7 && (keepB f r m L D 4 9 && (keepB f r m L D 5 0 && (keepB f r m L D 6 13 && (keepB f r m L D 7 0 && (keepB f r m L D 8 0 && (keepB f r m L D 9 20 && true)))))))))) := by
  have T : m.vw < 0 ∨ (0 ≤ m.vw.tmod (2 * f + 1) ∧ m.vw.tmod (2 * f + 1) < 2 * f + 1) := by
    by_cases h : m.vw < 0
    · exact .inl h
    · exact .inr (tmod_in (by omega) (by omega))
  have G : ¬ lg L r = 0 ∨ (L.length : Int) ≤ r := by
    by_cases h : lg L r = 0
    · exact .inr (lg_len h)
    · exact .inl h
  rw [Bool.eq_iff_iff]
  simp only [unG, fiG, keepB, blB, inR, prB, plB, owB, rdB, chk_one, chk_lg hr1 hr2, nmB_en m.e 14 (Or.inr rfl), en_1, en_3, en_13, en_z, Bool.true_or, Bool.false_or, Bool.true_and, Bool.false_and, Bool.or_false, Bool.and_true, Bool.not_true, Bool.not_false, Bool.or_true, Bool.and_false, Bool.and_eq_true, Bool.or_eq_true, decide_eq_true_eq, ite_eq_t, apB_iff, Bool.false_eq_true, if_false, if_true, Int.reduceEq, decide_false, decide_true, bne_iff_ne, ne_eq, decide_eq_decide, Bool.not_eq_true', decide_eq_false_iff_not, Nat.reduceEqDiff, reduceIte, Nat.one_ne_zero, and_true, and_assoc, not_or, not_and, not_not, Bool.not_eq_true]
  generalize m.vw.tmod (2 * f + 1) = q at *
  constructor <;> intro h <;> (repeat' apply And.intro) <;> first | omega | (simp [h]; done)
set_option maxHeartbeats 4000000 in
theorem docm_4 (f r : Int) (m : Mg) (L : List En) (D : List (Int × Int)) (hf1 : 1 ≤ f) (hf2 : f ≤ 3) (hr1 : 1 ≤ r) (hr2 : r ≤ 256) : (unG m L.length D.length true true false true false false false false false true && fiG f r m L D 4 true true false true false false false false false true) = (keepB f r m L D 0 1 && (keepB f r m L D 1 3 && (keepB f r m L D 2 0 && (keepB f r m L D 3 6 && (keepB f r m L D 4 0 && (keepB f r m L D 5 0 && (keepB f r m L D 6 0 && (keepB f r m L D 7 0 && (keepB f r m L D 8 0 && (keepB f r m L D 9 20 && true)))))))))) := by
  have T : m.vw < 0 ∨ (0 ≤ m.vw.tmod (2 * f + 1) ∧ m.vw.tmod (2 * f + 1) < 2 * f + 1) := by
    by_cases h : m.vw < 0
    · exact .inl h
    · exact .inr (tmod_in (by omega) (by omega))
  have G : ¬ lg L r = 0 ∨ (L.length : Int) ≤ r := by
    by_cases h : lg L r = 0
    · exact .inr (lg_len h)
    · exact .inl h
  rw [Bool.eq_iff_iff]
  simp only [unG, fiG, keepB, blB, inR, prB, plB, owB, rdB, chk_one, chk_lg hr1 hr2, nmB_en m.e 14 (Or.inr rfl), en_1, en_3, en_13, en_z, Bool.true_or, Bool.false_or, Bool.true_and, Bool.false_and, Bool.or_false, Bool.and_true, Bool.not_true, Bool.not_false, Bool.or_true, Bool.and_false, Bool.and_eq_true, Bool.or_eq_true, decide_eq_true_eq, ite_eq_t, apB_iff, Bool.false_eq_true, if_false, if_true, Int.reduceEq, decide_false, decide_true, bne_iff_ne, ne_eq, decide_eq_decide, Bool.not_eq_true', decide_eq_false_iff_not, Nat.reduceEqDiff, reduceIte, Nat.one_ne_zero, and_true, and_assoc, not_or, not_and, not_not, Bool.not_eq_true]
  generalize m.vw.tmod (2 * f + 1) = q at *
  constructor <;> intro h <;> (repeat' apply And.intro) <;> first | omega | (simp [h]; done)
set_option maxHeartbeats 4000000 in
theorem docm_5 (f r : Int) (m : Mg) (L : List En) (D : List (Int × Int)) (hf1 : 1 ≤ f) (hf2 : f ≤ 3) (hr1 : 1 ≤ r) (hr2 : r ≤ 256) : (unG m L.length D.length true true false false true false false false false true && fiG f r m L D 5 true true false false true false false false false true) = (keepB f r m L D 0 2 && (keepB f r m L D 1 3 && (keepB f r m L D 2 0 && (keepB f r m L D 3 0 && (keepB f r m L D 4 9 && (keepB f r m L D 5 0 && (keepB f r m L D 6 0 && (keepB f r m L D 7 0 && (keepB f r m L D 8 0 && (keepB f r m L D 9 20 && true)))))))))) := by
  have T : m.vw < 0 ∨ (0 ≤ m.vw.tmod (2 * f + 1) ∧ m.vw.tmod (2 * f + 1) < 2 * f + 1) := by
    by_cases h : m.vw < 0
    · exact .inl h
    · exact .inr (tmod_in (by omega) (by omega))
  have G : ¬ lg L r = 0 ∨ (L.length : Int) ≤ r := by
    by_cases h : lg L r = 0
    · exact .inr (lg_len h)
    · exact .inl h
  rw [Bool.eq_iff_iff]
  simp only [unG, fiG, keepB, blB, inR, prB, plB, owB, rdB, chk_one, chk_lg hr1 hr2, nmB_en m.e 14 (Or.inr rfl), en_1, en_3, en_13, en_z, Bool.true_or, Bool.false_or, Bool.true_and, Bool.false_and, Bool.or_false, Bool.and_true, Bool.not_true, Bool.not_false, Bool.or_true, Bool.and_false, Bool.and_eq_true, Bool.or_eq_true, decide_eq_true_eq, ite_eq_t, apB_iff, Bool.false_eq_true, if_false, if_true, Int.reduceEq, decide_false, decide_true, bne_iff_ne, ne_eq, decide_eq_decide, Bool.not_eq_true', decide_eq_false_iff_not, Nat.reduceEqDiff, reduceIte, Nat.one_ne_zero, and_true, and_assoc, not_or, not_and, not_not, Bool.not_eq_true]
  generalize m.vw.tmod (2 * f + 1) = q at *
  constructor <;> intro h <;> (repeat' apply And.intro) <;> first | omega | (simp [h]; done)
set_option maxHeartbeats 4000000 in
theorem docm_6 (f r : Int) (m : Mg) (L : List En) (D : List (Int × Int)) (hf1 : 1 ≤ f) (hf2 : f ≤ 3) (hr1 : 1 ≤ r) (hr2 : r ≤ 256) : (unG m L.length D.length true true false false false false false false false true && fiG f r m L D 6 true true false false false false false false false true) = (keepB f r m L D 0 1 && (keepB f r m L D 1 4 && (keepB f r m L D 2 0 && (keepB f r m L D 3 0 && (keepB f r m L D 4 0 && (keepB f r m L D 5 0 && (keepB f r m L D 6 0 && (keepB f r m L D 7 0 && (keepB f r m L D 8 0 && (keepB f r m L D 9 20 && true)))))))))) := by
  have T : m.vw < 0 ∨ (0 ≤ m.vw.tmod (2 * f + 1) ∧ m.vw.tmod (2 * f + 1) < 2 * f + 1) := by
    by_cases h : m.vw < 0
    · exact .inl h
    · exact .inr (tmod_in (by omega) (by omega))
  have G : ¬ lg L r = 0 ∨ (L.length : Int) ≤ r := by
    by_cases h : lg L r = 0
    · exact .inr (lg_len h)
    · exact .inl h
  rw [Bool.eq_iff_iff]
  simp only [unG, fiG, keepB, blB, inR, prB, plB, owB, rdB, chk_one, chk_lg hr1 hr2, nmB_en m.e 14 (Or.inr rfl), en_1, en_3, en_13, en_z, Bool.true_or, Bool.false_or, Bool.true_and, Bool.false_and, Bool.or_false, Bool.and_true, Bool.not_true, Bool.not_false, Bool.or_true, Bool.and_false, Bool.and_eq_true, Bool.or_eq_true, decide_eq_true_eq, ite_eq_t, apB_iff, Bool.false_eq_true, if_false, if_true, Int.reduceEq, decide_false, decide_true, bne_iff_ne, ne_eq, decide_eq_decide, Bool.not_eq_true', decide_eq_false_iff_not, Nat.reduceEqDiff, reduceIte, Nat.one_ne_zero, and_true, and_assoc, not_or, not_and, not_not, Bool.not_eq_true]
  generalize m.vw.tmod (2 * f + 1) = q at *
  constructor <;> intro h <;> (repeat' apply And.intro) <;> first | omega | (simp [h]; done)
set_option maxHeartbeats 4000000 in
theorem docm_7 (f r : Int) (m : Mg) (L : List En) (D : List (Int × Int)) (hf1 : 1 ≤ f) (hf2 : f ≤ 3) (hr1 : 1 ≤ r) (hr2 : r ≤ 256) : (unG m L.length D.length true true true false true false false false true true && fiG f r m L D 7 true true true false true false false false true true) = (keepB f r m L D 0 1 && (keepB f r m L D 1 4 && (keepB f r m L D 2 5 && (keepB f r m L D 3 0 && (keepB f r m L D 4 10 && (keepB f r m L D 5 0 && (keepB f r m L D 6 0 && (keepB f r m L D 7 0 && (keepB f r m L D 8 18 && (keepB f r m L D 9 20 && true)))))))))) := by
  have T : m.vw < 0 ∨ (0 ≤ m.vw.tmod (2 * f + 1) ∧ m.vw.tmod (2 * f + 1) < 2 * f + 1) := by
    by_cases h : m.vw < 0
    · exact .inl h
    · exact .inr (tmod_in (by omega) (by omega))
  have G : ¬ lg L r = 0 ∨ (L.length : Int) ≤ r := by
    by_cases h : lg L r = 0
    · exact .inr (lg_len h)
    · exact .inl h
  rw [Bool.eq_iff_iff]
  simp only [unG, fiG, keepB, blB, inR, prB, plB, owB, rdB, chk_one, chk_lg hr1 hr2, nmB_en m.e 14 (Or.inr rfl), en_1, en_3, en_13, en_z, Bool.true_or, Bool.false_or, Bool.true_and, Bool.false_and, Bool.or_false, Bool.and_true, Bool.not_true, Bool.not_false, Bool.or_true, Bool.and_false, Bool.and_eq_true, Bool.or_eq_true, decide_eq_true_eq, ite_eq_t, apB_iff, Bool.false_eq_true, if_false, if_true, Int.reduceEq, decide_false, decide_true, bne_iff_ne, ne_eq, decide_eq_decide, Bool.not_eq_true', decide_eq_false_iff_not, Nat.reduceEqDiff, reduceIte, Nat.one_ne_zero, and_true, and_assoc, not_or, not_and, not_not, Bool.not_eq_true]
  generalize m.vw.tmod (2 * f + 1) = q at *
  constructor <;> intro h <;> (repeat' apply And.intro) <;> first | omega | (simp [h]; done)
end Go.Proofs.YtibedokegignhaaGreatDoor
