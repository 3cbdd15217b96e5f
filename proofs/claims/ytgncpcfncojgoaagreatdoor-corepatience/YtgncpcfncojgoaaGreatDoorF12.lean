import Derived.Test.YtgncpcfncojgoaaGreatDoorF11
set_option maxRecDepth 100000
set_option linter.unusedVariables false
set_option linter.unusedSimpArgs false
namespace Go.Proofs.YtgncpcfncojgoaaGreatDoor
open Go.RowKit Go.Maps Go.Shelf
open Classical
theorem eqlDr7 (x y : Operand) (r r' : Int × Int) (w : World) : (do eqGuard .eql 26 x y (.agg #[.int .u64 r.1,.int .u64 r.2]) (.agg #[.int .u64 r'.1,.int .u64 r'.2]);binOp .eql 26 (.agg #[.int .u64 r.1,.int .u64 r.2]) (.agg #[.int .u64 r'.1,.int .u64 r'.2]) : Sem Value).run Tryz.prog w = .ok (.bool (decide (r = r'))) w:=by
 obtain ⟨a,b⟩:=r;obtain ⟨a',b'⟩:=r'
 go_simp
 by_cases e1 : a = a' <;> by_cases e2 : b = b' <;> simp [e1,e2]
def zAn9 : An:=⟨0,0,0,0,0,⟨none,0,[]⟩⟩
def zBl9 : Bl:=⟨0,0,0,0,0,⟨none,0,[]⟩⟩
theorem alAn9 (w : World) : (Instr.alloc 116 true (.tuple #[])).run Tryz.prog w = .ok (.pointer (some ⟨w.heap.size,0,none⟩)) (w.alloc (.cells zAn9.cs.toArray 116)):=by
 go_simp
 first | done | rfl
theorem stAn9 {w : World} {q : Nat} (h : BX7 w q zAn9.cs) (x : An) : (Instr.storeAt 116 (.pointer (some ⟨q,0,none⟩)) x.val).run Tryz.prog w = .ok () (sets w q 0 x.cs):=by
 have:=run_storeAt_mid (P:=Tryz.prog) w q 0 116 x.cs.toArray (fun j hj => ⟨by rw [Nat.zero_add,h.cell j _ (List.getElem?_eq_getElem (show j < zAn9.cs.length from hj))];rfl,by rw [Nat.zero_add];exact h.free j⟩) (by kernel_rfl) (all_oneCell_toArray (by
  intro v hv;simp only [An.cs,List.mem_cons,List.not_mem_nil,or_false] at hv
  rcases hv with rfl | rfl | rfl | rfl | rfl | rfl <;> rfl))
 rw [setCells_sets] at this
 exact this
theorem putAn9 {w : World} {q : Nat} (h : BX7 w q zAn9.cs) (x : An) : BX7 (sets w q 0 x.cs) q x.cs:=by
 refine ⟨by rw [size_sets];exact h.lt,fun i y hy => ?_,fun i => sets_free _ _ _ (h.free i)⟩;have:=sets_at (b:=q) x.cs 0 w (fun k hk => ⟨_,by rw [Nat.zero_add];exact h.cell k _ (List.getElem?_eq_getElem (show k < zAn9.cs.length from hk))⟩) i y hy;rw [Nat.zero_add] at this
 exact this
theorem upAn9 (w : World) (q : Nat) (x : An) : Upd (fun k => k = q) w (sets w q 0 x.cs):=upd_sets (S:=fun k => k = q) (b:=q) rfl _ _ _ (Upd.refl _ _)
theorem ldAn9 {w : World} {q o : Nat} {x : An} (h : ∀ k u,x.cs[k]? = some u → w.cell? ⟨q,o + k,none⟩ = some u) : (Instr.loadAt 116 (.pointer (some ⟨q,o,none⟩))).run Tryz.prog w = .ok x.val w:=by
 have h0:=h 0 _ rfl;have h1:=h 1 _ rfl;have h2:=h 2 _ rfl;have h3:=h 3 _ rfl;have h4:=h 4 _ rfl;have h5:=h 5 _ rfl;rw [Nat.add_zero] at h0
 unfold An.val
 clear h
 go_simp
theorem fb0An (q : Nat) (w : World) : (Instr.fieldAt 116 (.pointer (some ⟨q,0,none⟩)) 0).run Tryz.prog w = .ok (.pointer (some ⟨q,0,none⟩)) w:=by go_simp
theorem fb2An (q : Nat) (w : World) : (Instr.fieldAt 116 (.pointer (some ⟨q,0,none⟩)) 2).run Tryz.prog w = .ok (.pointer (some ⟨q,3,none⟩)) w:=by go_simp
theorem fb3An (q : Nat) (w : World) : (Instr.fieldAt 116 (.pointer (some ⟨q,0,none⟩)) 3).run Tryz.prog w = .ok (.pointer (some ⟨q,4,none⟩)) w:=by go_simp
theorem fb4An (q : Nat) (w : World) : (Instr.fieldAt 116 (.pointer (some ⟨q,0,none⟩)) 4).run Tryz.prog w = .ok (.pointer (some ⟨q,5,none⟩)) w:=by go_simp
theorem alBl9 (w : World) : (Instr.alloc 114 true (.tuple #[])).run Tryz.prog w = .ok (.pointer (some ⟨w.heap.size,0,none⟩)) (w.alloc (.cells zBl9.cs.toArray 114)):=by
 go_simp
 first | done | rfl
theorem stBl9 {w : World} {q : Nat} (h : BX7 w q zBl9.cs) (x : Bl) : (Instr.storeAt 114 (.pointer (some ⟨q,0,none⟩)) x.val).run Tryz.prog w = .ok () (sets w q 0 x.cs):=by
 have:=run_storeAt_mid (P:=Tryz.prog) w q 0 114 x.cs.toArray (fun j hj => ⟨by rw [Nat.zero_add,h.cell j _ (List.getElem?_eq_getElem (show j < zBl9.cs.length from hj))];rfl,by rw [Nat.zero_add];exact h.free j⟩) (by kernel_rfl) (all_oneCell_toArray (by
  intro v hv;simp only [Bl.cs,List.mem_cons,List.not_mem_nil,or_false] at hv
  rcases hv with rfl | rfl | rfl | rfl | rfl | rfl <;> rfl))
 rw [setCells_sets] at this
 exact this
theorem putBl9 {w : World} {q : Nat} (h : BX7 w q zBl9.cs) (x : Bl) : BX7 (sets w q 0 x.cs) q x.cs:=by
 refine ⟨by rw [size_sets];exact h.lt,fun i y hy => ?_,fun i => sets_free _ _ _ (h.free i)⟩;have:=sets_at (b:=q) x.cs 0 w (fun k hk => ⟨_,by rw [Nat.zero_add];exact h.cell k _ (List.getElem?_eq_getElem (show k < zBl9.cs.length from hk))⟩) i y hy;rw [Nat.zero_add] at this
 exact this
theorem upBl9 (w : World) (q : Nat) (x : Bl) : Upd (fun k => k = q) w (sets w q 0 x.cs):=upd_sets (S:=fun k => k = q) (b:=q) rfl _ _ _ (Upd.refl _ _)
theorem ldBl9 {w : World} {q o : Nat} {x : Bl} (h : ∀ k u,x.cs[k]? = some u → w.cell? ⟨q,o + k,none⟩ = some u) : (Instr.loadAt 114 (.pointer (some ⟨q,o,none⟩))).run Tryz.prog w = .ok x.val w:=by
 have h0:=h 0 _ rfl;have h1:=h 1 _ rfl;have h2:=h 2 _ rfl;have h3:=h 3 _ rfl;have h4:=h 4 _ rfl;have h5:=h 5 _ rfl;rw [Nat.add_zero] at h0
 unfold Bl.val
 clear h
 go_simp
theorem fb2Bl (q : Nat) (w : World) : (Instr.fieldAt 114 (.pointer (some ⟨q,0,none⟩)) 2).run Tryz.prog w = .ok (.pointer (some ⟨q,3,none⟩)) w:=by go_simp
theorem fb3Bl (q : Nat) (w : World) : (Instr.fieldAt 114 (.pointer (some ⟨q,0,none⟩)) 3).run Tryz.prog w = .ok (.pointer (some ⟨q,4,none⟩)) w:=by go_simp
theorem fb4Bl (q : Nat) (w : World) : (Instr.fieldAt 114 (.pointer (some ⟨q,0,none⟩)) 4).run Tryz.prog w = .ok (.pointer (some ⟨q,5,none⟩)) w:=by go_simp
def rab9 (c : Cg) (n : Int) (x : An) : Bool:=(((decide (x.v < 0) || decide (4294967296 < x.v)) || (!lgB9 c x.s.D x.c)) || ((!decide (x.n = x.v % n)) && decide (0 < (x.s.D.length : Int))))
def Sta.rc9 (s : Sta) (c : Cg) (n : Int) : Bool:=bif (decide (0 < (((((((s.view + s.last) + s.commit) + s.idle) + (s.L.length : Int)) + (s.A.length : Int)) + (s.M.length : Int)) + (s.B.length : Int))) || decide (s.V.getD s.self.toNat (0,0) = (0,0))) then false else !(s.N.any (rab9 c n))
theorem any_bad9 {α : Type} {p : α → Bool} {L : List α} {i : Nat} {x : α} (h : L[i]? = some x) (hp : p x = true) : L.any p = true:=List.any_eq_true.2 ⟨x,List.mem_of_getElem? h,hp⟩
theorem any_ok9 {α : Type} {p : α → Bool} {L : List α} (h : ∀ k x,k < L.length → L[k]? = some x → p x = false) : L.any p = false:=by
 rw [List.any_eq_false];intro x hx;obtain ⟨k,hk⟩:=List.mem_iff_getElem?.1 hx;rw [h k x (List.getElem?_eq_some_iff.1 hk).1 hk]
 decide
set_option maxHeartbeats 1000000 in
theorem rrecovering9 (c : Cg) (s : Sta) (n : Int) (w : World) (hI : s.In w) (hF : s.Fit) (hv1 : 0 ≤ s.view∧s.view ≤ 4294967296) (hv2 : 0 ≤ s.last∧s.last ≤ s.view) (hv3 : 0 ≤ s.commit∧s.commit ≤ (s.L.length : Int)) (hv4 : 0 ≤ s.idle∧s.idle < 1000) (hs : 0 ≤ s.self∧s.self < (s.V.length : Int)) (hn : 0 < n∧n < 100) : Calls Tryz.prog 125 #[c.val,s.val,.int .i64 n] w fun e w' => e = .returned (.bool (s.rc9 c n))∧Below w.heap.size w w':=by
 go_enter Tryz.func125,Tryz.ntmps125
 go_upto_region 0 with fail
 refine wp_region_lit ?_;refine vl_gen (fun T => T.size = 91∧T[0]? = some (gw true (c.val))∧T[1]? = some (gw true (s.val))∧T[2]? = some (gw true (.int .i64 n))) ⟨rfl,rfl,rfl,rfl⟩ (fun Z0 ⟨hz,s0,s1,s2⟩ => ?_)
 obtain ⟨w1,hw1⟩ : ∃ y,y = w.alloc (.cells c.cs.toArray 23):=⟨_,rfl⟩
 have hb : Below w.heap.size w w1:=by rw [hw1];exact (Below.refl _ _).alloc (Nat.le_refl _) _
 have hs1 : w1.heap.size = w.heap.size + 1:=by rw [hw1];simp
 have HC : CB7 w1 (w.heap.size) c:=by rw [hw1];exact BX7.new _ _ _
 refine vw (.pointer (some ⟨w.heap.size,0,none⟩)) w1 (want_none rfl) (ex_box8 rfl (ev s0 rfl) (by rw [hw1];exact bxC7 _ _)) rfl hz (by decide) (fun Z1 zz kk s3x => ?_);replace s1:=ku s1;replace s2:=ku s2;clear kk hz s0 hw1;have hz:=zz;have s3:=s3x;clear zz s3x;have hB:=hb;clear hb
 obtain ⟨w2,hw2⟩ : ∃ y,y = w1.alloc (.cells s.cs.toArray 36):=⟨_,rfl⟩
 have hb : Below w1.heap.size w1 w2:=by rw [hw2];exact (Below.refl _ _).alloc (Nat.le_refl _) _
 have hs2 : w2.heap.size = w.heap.size + 2:=by rw [hw2];simp;omega
 have HS : SB7 w2 (w.heap.size + 1) s:=by rw [hw2,← hs1];exact BX7.new _ _ _
 refine vw (.pointer (some ⟨w.heap.size + 1,0,none⟩)) w2 (want_none rfl) (ex_box8 rfl (ev s1 rfl) (by rw [hw2,← hs1];exact bxS7 _ _)) rfl hz (by decide) (fun Z2 zz kk s4x => ?_);replace s2:=ku s2;replace s3:=ku s3;clear kk hz s1 hw2;have hz:=zz;have s4:=s4x;clear zz s4x;have hB:=hB.trans (hb.mono (by omega));have HC:=HC.bel hb;clear hb;have hv0 : Below w2.heap.size w2 w2:=Below.refl _ _;have HI:=hI.later hB;have f0:=hF.ll;have f1:=hF.al;have f2:=hF.ml;have f3:=hF.bl;have f4:=hF.nl;obtain ⟨qv,ov,hva,hQ⟩:=vec_at8 HI.v hs;have q53_0:=(((Rp.nil hz).cons s2).cons s3).cons s4;clear hz s2 s3 s4
 refine q53_0.t (.bool false) (ex_assign rfl rfl) fun _ q53_1 => ?_;clear q53_0
 have hz:=q53_1.z;have s2:=q53_1.a 2 rfl;have s3:=q53_1.a 3 rfl;have s4:=q53_1.a 4 rfl;clear q53_1;refine wpList_nil ?_
 go_upto_region 1 with fail
 refine wp_region_lit ?_;have q54_0:=(((Rp.nil hz).cons s2).cons s3).cons s4;clear hz s2 s3 s4
 refine q54_0.t (.pointer (some ⟨w.heap.size + 1,2,none⟩)) (ex_fa rfl (q54_0.e (j:=4) rfl) (faS2 _ _)) fun _ q54_1 => ?_;clear q54_0
 refine q54_1.t (.int .i64 s.view) (ex_ld rfl (q54_1.e (j:=9) rfl) (ldI8 (cell8 (HS.cell 2 _ rfl) hv0))) fun _ q54_2 => ?_;clear q54_1
 refine q54_2.t (.pointer (some ⟨w.heap.size + 1,3,none⟩)) (ex_fa rfl (q54_2.e (j:=4) rfl) (faS3 _ _)) fun _ q54_3 => ?_;clear q54_2
 refine q54_3.t (.int .i64 s.last) (ex_ld rfl (q54_3.e (j:=11) rfl) (ldI8 (cell8 (HS.cell 3 _ rfl) hv0))) fun _ q54_4 => ?_;clear q54_3
 refine q54_4.t (.int .i64 ((s.view) + (s.last))) (ex_bin rfl (q54_4.e (j:=10) rfl) (q54_4.e (j:=12) rfl) (addD8 _ _ (s.view) (s.last) ((s.view) + (s.last)) (by rw [IntKind.wrap_i64];omega) _)) fun _ q54_5 => ?_;clear q54_4
 refine q54_5.t (.pointer (some ⟨w.heap.size + 1,5,none⟩)) (ex_fa rfl (q54_5.e (j:=4) rfl) (faS5 _ _)) fun _ q54_6 => ?_;clear q54_5
 refine q54_6.t (.int .i64 s.commit) (ex_ld rfl (q54_6.e (j:=14) rfl) (ldI8 (cell8 (HS.cell 5 _ rfl) hv0))) fun _ q54_7 => ?_;clear q54_6
 refine q54_7.t (.int .i64 (((s.view) + (s.last)) + (s.commit))) (ex_bin rfl (q54_7.e (j:=13) rfl) (q54_7.e (j:=15) rfl) (addD8 _ _ ((s.view) + (s.last)) (s.commit) (((s.view) + (s.last)) + (s.commit)) (by rw [IntKind.wrap_i64];omega) _)) fun _ q54_8 => ?_;clear q54_7
 refine q54_8.t (.pointer (some ⟨w.heap.size + 1,7,none⟩)) (ex_fa rfl (q54_8.e (j:=4) rfl) (faS7 _ _)) fun _ q54_9 => ?_;clear q54_8
 refine q54_9.t (.int .i64 s.idle) (ex_ld rfl (q54_9.e (j:=17) rfl) (ldI8 (cell8 (HS.cell 7 _ rfl) hv0))) fun _ q54_10 => ?_;clear q54_9
 refine q54_10.t (.int .i64 ((((s.view) + (s.last)) + (s.commit)) + (s.idle))) (ex_bin rfl (q54_10.e (j:=16) rfl) (q54_10.e (j:=18) rfl) (addD8 _ _ (((s.view) + (s.last)) + (s.commit)) (s.idle) ((((s.view) + (s.last)) + (s.commit)) + (s.idle)) (by rw [IntKind.wrap_i64];omega) _)) fun _ q54_11 => ?_;clear q54_10
 refine q54_11.t (.pointer (some ⟨w.heap.size + 1,4,none⟩)) (ex_fa rfl (q54_11.e (j:=4) rfl) (faS4 _ _)) fun _ q54_12 => ?_;clear q54_11
 refine q54_12.t (.slice s.la s.L.length s.lc) (ex_ld rfl (q54_12.e (j:=20) rfl) (ldE8 (cell8 (HS.cell 4 _ rfl) hv0))) fun _ q54_13 => ?_;clear q54_12
 refine q54_13.t (.int .i64 (s.L.length : Int)) (ex_lenE8 rfl rfl (q54_13.e (j:=21) rfl)) fun _ q54_14 => ?_;clear q54_13
 refine q54_14.t (.int .i64 (((((s.view) + (s.last)) + (s.commit)) + (s.idle)) + ((s.L.length : Int)))) (ex_bin rfl (q54_14.e (j:=19) rfl) (q54_14.e (j:=22) rfl) (addD8 _ _ ((((s.view) + (s.last)) + (s.commit)) + (s.idle)) ((s.L.length : Int)) (((((s.view) + (s.last)) + (s.commit)) + (s.idle)) + ((s.L.length : Int))) (by rw [IntKind.wrap_i64];omega) _)) fun _ q54_15 => ?_;clear q54_14
 refine q54_15.t (.pointer (some ⟨w.heap.size + 1,8,none⟩)) (ex_fa rfl (q54_15.e (j:=4) rfl) (faS8 _ _)) fun _ q54_16 => ?_;clear q54_15
 refine q54_16.t (.slice s.ka s.A.length s.kc) (ex_ld rfl (q54_16.e (j:=24) rfl) (ldK8 (cell8 (HS.cell 8 _ rfl) hv0))) fun _ q54_17 => ?_;clear q54_16
 refine q54_17.t (.int .i64 (s.A.length : Int)) (ex_lenK8 rfl rfl (q54_17.e (j:=25) rfl)) fun _ q54_18 => ?_;clear q54_17
 refine q54_18.t (.int .i64 ((((((s.view) + (s.last)) + (s.commit)) + (s.idle)) + ((s.L.length : Int))) + ((s.A.length : Int)))) (ex_bin rfl (q54_18.e (j:=23) rfl) (q54_18.e (j:=26) rfl) (addD8 _ _ (((((s.view) + (s.last)) + (s.commit)) + (s.idle)) + ((s.L.length : Int))) ((s.A.length : Int)) ((((((s.view) + (s.last)) + (s.commit)) + (s.idle)) + ((s.L.length : Int))) + ((s.A.length : Int))) (by rw [IntKind.wrap_i64];omega) _)) fun _ q54_19 => ?_;clear q54_18
 refine q54_19.t (.pointer (some ⟨w.heap.size + 1,9,none⟩)) (ex_fa rfl (q54_19.e (j:=4) rfl) (faS9 _ _)) fun _ q54_20 => ?_;clear q54_19
 refine q54_20.t (.slice s.ma s.M.length s.mc) (ex_ld rfl (q54_20.e (j:=28) rfl) (ldM8 (cell8 (HS.cell 9 _ rfl) hv0))) fun _ q54_21 => ?_;clear q54_20
 refine q54_21.t (.int .i64 (s.M.length : Int)) (ex_lenM8 rfl rfl (q54_21.e (j:=29) rfl)) fun _ q54_22 => ?_;clear q54_21
 refine q54_22.t (.int .i64 (((((((s.view) + (s.last)) + (s.commit)) + (s.idle)) + ((s.L.length : Int))) + ((s.A.length : Int))) + ((s.M.length : Int)))) (ex_bin rfl (q54_22.e (j:=27) rfl) (q54_22.e (j:=30) rfl) (addD8 _ _ ((((((s.view) + (s.last)) + (s.commit)) + (s.idle)) + ((s.L.length : Int))) + ((s.A.length : Int))) ((s.M.length : Int)) (((((((s.view) + (s.last)) + (s.commit)) + (s.idle)) + ((s.L.length : Int))) + ((s.A.length : Int))) + ((s.M.length : Int))) (by rw [IntKind.wrap_i64];omega) _)) fun _ q54_23 => ?_;clear q54_22
 refine q54_23.t (.pointer (some ⟨w.heap.size + 1,10,none⟩)) (ex_fa rfl (q54_23.e (j:=4) rfl) (faS10 _ _)) fun _ q54_24 => ?_;clear q54_23
 refine q54_24.t (.slice s.ba s.B.length s.bc) (ex_ld rfl (q54_24.e (j:=32) rfl) (ldB8 (cell8 (HS.cell 10 _ rfl) hv0))) fun _ q54_25 => ?_;clear q54_24
 refine q54_25.t (.int .i64 (s.B.length : Int)) (ex_lenB8 rfl rfl (q54_25.e (j:=33) rfl)) fun _ q54_26 => ?_;clear q54_25
 refine q54_26.t (.int .i64 ((((((((s.view) + (s.last)) + (s.commit)) + (s.idle)) + ((s.L.length : Int))) + ((s.A.length : Int))) + ((s.M.length : Int))) + ((s.B.length : Int)))) (ex_bin rfl (q54_26.e (j:=31) rfl) (q54_26.e (j:=34) rfl) (addD8 _ _ (((((((s.view) + (s.last)) + (s.commit)) + (s.idle)) + ((s.L.length : Int))) + ((s.A.length : Int))) + ((s.M.length : Int))) ((s.B.length : Int)) ((((((((s.view) + (s.last)) + (s.commit)) + (s.idle)) + ((s.L.length : Int))) + ((s.A.length : Int))) + ((s.M.length : Int))) + ((s.B.length : Int))) (by rw [IntKind.wrap_i64];omega) _)) fun _ q54_27 => ?_;clear q54_26
 refine q54_27.t (.bool (decide (0 < (((((((s.view) + (s.last)) + (s.commit)) + (s.idle)) + ((s.L.length : Int))) + ((s.A.length : Int))) + ((s.M.length : Int))) + ((s.B.length : Int))))) (ex_bin rfl (q54_27.e (j:=35) rfl) rfl (gtrC _ _ _ _ _)) fun _ q54_28 => ?_;clear q54_27
 refine q54_28.t _ (ex_move rfl (q54_28.e (j:=36) rfl)) fun _ q54_29 => ?_;clear q54_28
 refine vl _ (.pointer (some ⟨w.heap.size + 1,6,none⟩)) (want_g rfl rfl (q54_29.a 37 rfl)) (fun hc => ex_fa rfl (q54_29.e (j:=4) rfl) (faS6 _ _)) rfl q54_29.z (by decide) (q54_29.k fun Ya q54_30 => ?_);clear q54_29;refine vl _ (.slice s.va s.V.length s.vc) (want_g rfl rfl (q54_30.a 37 rfl)) (fun hc => ex_ld rfl (ev (q54_30.a 38 rfl) hc) (ldV8 (cell8 (HS.cell 6 _ rfl) hv0))) rfl q54_30.z (by decide) (q54_30.k fun Yb q54_31 => ?_);clear q54_30;refine vl _ (.pointer (some ⟨w.heap.size + 1,0,none⟩)) (want_g rfl rfl (q54_31.a 37 rfl)) (fun hc => ex_fa rfl (q54_31.e (j:=4) rfl) (faS0 _ _)) rfl q54_31.z (by decide) (q54_31.k fun Yc q54_32 => ?_);clear q54_31;refine vl _ (.int .i64 s.self) (want_g rfl rfl (q54_32.a 37 rfl)) (fun hc => ex_ld rfl (ev (q54_32.a 40 rfl) hc) (ldI8 (cell8 (HS.cell 0 _ rfl) hv0))) rfl q54_32.z (by decide) (q54_32.k fun Yd q54_33 => ?_);clear q54_32;refine vl _ (.pointer (some ⟨qv,ov + s.self.toNat * 2,none⟩)) (want_g rfl rfl (q54_33.a 37 rfl)) (fun hc => ex_ix rfl (ev (q54_33.a 39 rfl) hc) (ev (q54_33.a 41 rfl) hc) (hQ.1 _)) rfl q54_33.z (by decide) (q54_33.k fun Ye q54_34 => ?_);clear q54_33;refine vl _ (.agg #[.int .u64 (s.V.getD s.self.toNat (0,0)).1,.int .u64 (s.V.getD s.self.toNat (0,0)).2]) (want_g rfl rfl (q54_34.a 37 rfl)) (fun hc => ex_ld rfl (ev (q54_34.a 42 rfl) hc) (hQ.2 _ hv0)) rfl q54_34.z (by decide) (q54_34.k fun Yf q54_35 => ?_);clear q54_34;refine vl _ (.agg #[.int .u64 0,.int .u64 0]) (want_g rfl rfl (q54_35.a 37 rfl)) (fun hc => ex_build rfl (buildDr _)) rfl q54_35.z (by decide) (q54_35.k fun Yg q54_36 => ?_);clear q54_35;refine vl _ (.bool (decide ((s.V.getD s.self.toNat (0,0)) = (0,0)))) (want_g rfl rfl (q54_36.a 37 rfl)) (fun hc => ex_bin rfl (ev (q54_36.a 43 rfl) hc) (ev (q54_36.a 44 rfl) hc) (eqlDr7 _ _ (s.V.getD s.self.toNat (0,0)) (0,0) _)) rfl q54_36.z (by decide) (q54_36.k fun Yh q54_37 => ?_);clear q54_36
 refine q54_37.t (.bool ((decide (0 < (((((((s.view) + (s.last)) + (s.commit)) + (s.idle)) + ((s.L.length : Int))) + ((s.A.length : Int))) + ((s.M.length : Int))) + ((s.B.length : Int)))) || (decide ((s.V.getD s.self.toNat (0,0)) = (0,0))))) (ex_or rfl (q54_37.a 37 rfl) (q54_37.a 45 rfl) rfl) fun _ q54_38 => ?_;clear q54_37
 have hz:=q54_38.z;have s2:=q54_38.a 2 rfl;have s3:=q54_38.a 3 rfl;have s4:=q54_38.a 4 rfl;have s46:=q54_38.a 46 rfl;clear q54_38;refine wpList_nil ?_
 go_upto_region 2 with fail
 cases e46 : ((decide (0 < (((((((s.view) + (s.last)) + (s.commit)) + (s.idle)) + ((s.L.length : Int))) + ((s.A.length : Int))) + ((s.M.length : Int))) + ((s.B.length : Int)))) || (decide ((s.V.getD s.self.toNat (0,0)) = (0,0))))
 rotate_left
 ·refine wp_cond_true ((ev s46 rfl).trans (congrArg Value.bool e46)) ?_
  go_upto_region 2 with fail
  refine wp_region_lit ?_;have q55_0:=(((Rp.nil hz).cons s2).cons s3).cons s4;clear hz s2 s3 s4
  refine q55_0.t (.bool false) (ex_assign rfl rfl) fun _ q55_1 => ?_;clear q55_0
  have hz:=q55_1.z;have s6:=q55_1.a 6 rfl;clear q55_1;refine wpList_nil ?_
  go_wp2
  refine bodyPost_ret (results_tmp rfl _ _ _) rfl ⟨?_,hB.trans (hv0.mono (by omega))⟩;rw [getD_of s6]
  unfold Sta.rc9
  rw [show _ = true from e46]
  rfl
 refine wp_cond_false ((ev s46 rfl).trans (congrArg Value.bool e46)) ?_;clear s46
 go_upto_region 3 with fail
 refine wp_region_lit ?_;have q56_0:=(((Rp.nil hz).cons s2).cons s3).cons s4;clear hz s2 s3 s4
 refine q56_0.t (.int .i64 0) (ex_assign rfl rfl) fun _ q56_1 => ?_;clear q56_0
 have hz:=q56_1.z;have s2:=q56_1.a 2 rfl;have s3:=q56_1.a 3 rfl;have s4:=q56_1.a 4 rfl;have s7:=q56_1.a 7 rfl;clear q56_1;refine wpList_nil ?_;have hs7 : _ = some (gw true (.int .i64 ((0 : Nat) : Int))):=s7
 go_upto_region 4 with fail
 refine v_loop 7 s.N.length (fun i T wr => T.size = 91∧T[2]? = some (gw true (.int .i64 n))∧T[3]? = some (gw true (.pointer (some ⟨w.heap.size,0,none⟩)))∧T[4]? = some (gw true (.pointer (some ⟨w.heap.size + 1,0,none⟩)))∧T[7]? = some (gw true (.int .i64 (i : Int)))∧Hid (Below w2.heap.size w2 wr∧∀ k x,k < i → s.N[k]? = some x → rab9 c n x = false)) (fun i T w h => h.2.2.2.2.1) ⟨hz,s2,s3,s4,hs7,Below.refl _ _,fun k x hk => absurd hk (Nat.not_lt_zero _)⟩ ?_;clear hz s2 s3 s4 s7 hs7;intro i R0 wr hi hh;obtain ⟨hz,s2,s3,s4,s7,HJ⟩:=hh;have hbr:=HJ.out.1;have hzr:=hbr.size;have hzw:=hB.size
 by_cases hit : i < s.N.length
 ·have d1 : decide ((i : Int) < (s.N.length : Int)) = true:=decide_eq_true (by omega)
  go_upto_region 4 with fail
  refine wp_region_lit ?_;have q57_0:=((((Rp.nil hz).cons s2).cons s3).cons s4).cons s7;clear hz s2 s3 s4 s7
  refine q57_0.t _ (ex_move rfl (q57_0.e (j:=7) rfl)) fun _ q57_1 => ?_;clear q57_0
  refine q57_1.t (.pointer (some ⟨w.heap.size + 1,11,none⟩)) (ex_fa rfl (q57_1.e (j:=4) rfl) (faS11 _ _)) fun _ q57_2 => ?_;clear q57_1
  refine q57_2.t (.slice s.na s.N.length s.nc) (ex_ld rfl (q57_2.e (j:=48) rfl) (ldN8 (cell8 (HS.cell 11 _ rfl) hbr))) fun _ q57_3 => ?_;clear q57_2
  refine q57_3.t (.int .i64 (s.N.length : Int)) (ex_lenN8 rfl rfl (q57_3.e (j:=49) rfl)) fun _ q57_4 => ?_;clear q57_3
  refine q57_4.t (.bool true) (ex_bin rfl (q57_4.e (j:=47) rfl) (q57_4.e (j:=50) rfl) (lssD8 _ _ _ _ true d1 _)) fun _ q57_5 => ?_;clear q57_4
  have hz:=q57_5.z;have s2:=q57_5.a 2 rfl;have s3:=q57_5.a 3 rfl;have s4:=q57_5.a 4 rfl;have s7:=q57_5.a 7 rfl;have s51:=q57_5.a 51 rfl;clear q57_5;refine wpList_nil ?_
  go_upto_region 6 with fail
  refine wp_cond_true ((ev s51 rfl).trans rfl) ?_;clear s51 d1
  obtain ⟨x,hxi⟩ : ∃ x,s.N[i]? = some x:=⟨_,List.getElem?_eq_getElem hit⟩
  have hmem:=List.mem_of_getElem? hxi;obtain ⟨q,o,hqa,hq,hl⟩:=(HI.n.later hbr).place (by intro e;rw [e] at hit;simp at hit)
  obtain ⟨y1,hy1⟩ : ∃ y,y = wr.alloc (.cells zAn9.cs.toArray 116):=⟨_,rfl⟩
  have hb : Below wr.heap.size wr y1:=by rw [hy1];exact (Below.refl _ _).alloc (Nat.le_refl _) _
  have HA : BX7 y1 wr.heap.size zAn9.cs:=by rw [hy1];exact BX7.new _ _ _
  go_upto_region 6 with fail
  refine wp_region_lit ?_;have q58_0:=((((Rp.nil hz).cons s2).cons s3).cons s4).cons s7;clear hz s2 s3 s4 s7
  refine q58_0.t (.pointer (some ⟨w.heap.size + 1,11,none⟩)) (ex_fa rfl (q58_0.e (j:=4) rfl) (faS11 _ _)) fun _ q58_1 => ?_;clear q58_0
  refine q58_1.t (.slice s.na s.N.length s.nc) (ex_ld rfl (q58_1.e (j:=54) rfl) (ldN8 (cell8 (HS.cell 11 _ rfl) hbr))) fun _ q58_2 => ?_;clear q58_1
  refine q58_2.t _ (ex_move rfl (q58_2.e (j:=7) rfl)) fun _ q58_3 => ?_;clear q58_2
  refine q58_3.t (.pointer (some ⟨q,o + i * 6,none⟩)) (ex_ix rfl (q58_3.e (j:=55) rfl) (q58_3.e (j:=56) rfl) (by rw [hqa];exact ix9An q o s.N.length s.nc i hit _)) fun _ q58_4 => ?_;clear q58_3
  refine q58_4.t (x.val) (ex_ld rfl (q58_4.e (j:=57) rfl) (ldAn9 (fun k u hu => hl i x hxi k u hu))) fun _ q58_5 => ?_;clear q58_4
  refine vw (.pointer (some ⟨wr.heap.size,0,none⟩)) y1 (want_none rfl) (ex_al rfl (by rw [hy1];exact alAn9 _)) rfl q58_5.z (by decide) (q58_5.k fun Yi q58_6 => ?_);clear q58_5;refine vs (sets y1 wr.heap.size 0 x.cs) (want_none rfl) (ex_st rfl (q58_6.e (j:=8) rfl) (q58_6.e (j:=58) rfl) (stAn9 HA x)) rfl ?_;have HP:=putAn9 HA x;have UP:=upAn9 y1 wr.heap.size x
  obtain ⟨y2,hy2⟩ : ∃ v,v = sets y1 wr.heap.size 0 x.cs:=⟨_,rfl⟩
  rw [← hy2] at HP UP ⊢;have hby : Below wr.heap.size wr y2:=hb.trans (UP.below hb.size (fun k hk => by omega));have hbx:=hbr.trans (hby.mono hzr);clear hy2 hy1 HA UP hb hl;have hzy:=hbx.size;have hz:=q58_6.z;have s2:=q58_6.a 2 rfl;have s3:=q58_6.a 3 rfl;have s4:=q58_6.a 4 rfl;have s7:=q58_6.a 7 rfl;have s8:=q58_6.a 8 rfl;clear q58_6;refine wpList_nil ?_;have HC2:=HC.bel hbx
  have xin:=(HI.nl x hmem)
  have hxL:=xin.1.later hbx
  have gd8 : ∀ {b : Bool},(b && (((decide (x.v < 0) || decide (4294967296 < x.v)) || (!lgB9 c x.s.D x.c)) == false)) = true → 0 ≤ x.v∧True:=fun h => by
   simp only [Bool.and_eq_true,beq_iff_eq,Bool.or_eq_false_iff,decide_eq_false_iff_not] at h
   exact ⟨by omega,trivial⟩
  go_upto_region 7 with fail
  refine vq_start (C:=fun v => Below y2.heap.size y2 v) (by kernel_rfl) (by kernel_rfl) (Below.refl _ _).drew ?_;have q59_0:=(((((Rp.nil hz).cons s2).cons s3).cons s4).cons s7).cons s8;clear hz s2 s3 s4 s7 s8
  refine q59_0.q (.pointer (some ⟨wr.heap.size,3,none⟩)) (fun v hv => ex_fa rfl (q59_0.e (j:=8) rfl) (fb2An _ _)) fun _ q59_1 => ?_;clear q59_0
  refine q59_1.q (.int .i64 x.v) (fun v hv => ex_ld rfl (q59_1.e (j:=59) rfl) (ldI8 (cell8 (HP.cell 3 _ rfl) hv))) fun _ q59_2 => ?_;clear q59_1
  refine q59_2.q (.bool (decide (x.v < 0))) (fun v hv => ex_bin rfl (q59_2.e (j:=60) rfl) rfl (lssC _ _ _ _ _)) fun _ q59_3 => ?_;clear q59_2
  refine q59_3.q _ (fun v hv => ex_move rfl (q59_3.e (j:=61) rfl)) fun _ q59_4 => ?_;clear q59_3
  refine vq _ (.pointer (some ⟨wr.heap.size,3,none⟩)) (want_g rfl rfl (q59_4.a 62 rfl)) (fun hc v hv => ex_fa rfl (q59_4.e (j:=8) rfl) (fb2An _ _)) rfl q59_4.z (by decide) (q59_4.k fun Yj q59_5 => ?_);clear q59_4;refine vq _ (.int .i64 x.v) (want_g rfl rfl (q59_5.a 62 rfl)) (fun hc v hv => ex_ld rfl (ev (q59_5.a 63 rfl) hc) (ldI8 (cell8 (HP.cell 3 _ rfl) hv))) rfl q59_5.z (by decide) (q59_5.k fun Yk q59_6 => ?_);clear q59_5;refine vq _ (.bool (decide (4294967296 < x.v))) (want_g rfl rfl (q59_6.a 62 rfl)) (fun hc v hv => ex_bin rfl (ev (q59_6.a 64 rfl) hc) rfl (gtrC _ _ _ _ _)) rfl q59_6.z (by decide) (q59_6.k fun Yl q59_7 => ?_);clear q59_6
  refine q59_7.q (.bool ((decide (x.v < 0)) || (decide (4294967296 < x.v)))) (fun v hv => ex_or rfl (q59_7.a 62 rfl) (q59_7.a 65 rfl) rfl) fun _ q59_8 => ?_;clear q59_7
  refine q59_8.q _ (fun v hv => ex_move rfl (q59_8.e (j:=66) rfl)) fun _ q59_9 => ?_;clear q59_8
  refine vq _ (c.val) (want_g rfl rfl (q59_9.a 67 rfl)) (fun hc v hv => ex_ld rfl (q59_9.e (j:=3) rfl) (CB7.ld (HC2.bel hv))) rfl q59_9.z (by decide) (q59_9.k fun Ym q59_10 => ?_);clear q59_9;refine vq _ (.pointer (some ⟨wr.heap.size,5,none⟩)) (want_g rfl rfl (q59_10.a 67 rfl)) (fun hc v hv => ex_fa rfl (q59_10.e (j:=8) rfl) (fb4An _ _)) rfl q59_10.z (by decide) (q59_10.k fun Yn q59_11 => ?_);clear q59_10;refine vq _ (.slice x.s.a x.s.D.length x.s.c) (want_g rfl rfl (q59_11.a 67 rfl)) (fun hc v hv => ex_ld rfl (ev (q59_11.a 69 rfl) hc) (ldE8 (cell8 (HP.cell 5 _ rfl) hv))) rfl q59_11.z (by decide) (q59_11.k fun Yo q59_12 => ?_);clear q59_11;refine vq _ (.pointer (some ⟨wr.heap.size,4,none⟩)) (want_g rfl rfl (q59_12.a 67 rfl)) (fun hc v hv => ex_fa rfl (q59_12.e (j:=8) rfl) (fb3An _ _)) rfl q59_12.z (by decide) (q59_12.k fun Yp q59_13 => ?_);clear q59_12;refine vq _ (.int .i64 x.c) (want_g rfl rfl (q59_13.a 67 rfl)) (fun hc v hv => ex_ld rfl (ev (q59_13.a 71 rfl) hc) (ldI8 (cell8 (HP.cell 4 _ rfl) hv))) rfl q59_13.z (by decide) (q59_13.k fun Yq q59_14 => ?_);clear q59_13;refine vq_call (true && (((decide (x.v < 0)) || (decide (4294967296 < x.v))) == false)) (.bool (lgB9 c x.s.D x.c)) (want_g rfl rfl (q59_14.a 67 rfl)) (fun hc v hv => ex_call rfl (by simp only [List.map_toArray,List.map_cons,List.map_nil,(ev (q59_14.a 68 rfl) hc),(ev (q59_14.a 70 rfl) hc),(ev (q59_14.a 72 rfl) hc),evc] <;> rfl) rfl) (fun hc v hv => (bel8 hv (rlogged9 c x.s.D x.s.a x.s.c x.c v (hxL.later hv) (hF.ne x hmem)))) rfl q59_14.z (by decide) (q59_14.k fun Yr q59_15 => ?_);clear q59_14;refine vq _ (.bool (!(lgB9 c x.s.D x.c))) (want_g rfl rfl (q59_15.a 67 rfl)) (fun hc v hv => ex_not rfl (ev (q59_15.a 73 rfl) hc)) rfl q59_15.z (by decide) (q59_15.k fun Ys q59_16 => ?_);clear q59_15
  refine q59_16.q (.bool (((decide (x.v < 0)) || (decide (4294967296 < x.v))) || (!(lgB9 c x.s.D x.c)))) (fun v hv => ex_or rfl (q59_16.a 67 rfl) (q59_16.a 74 rfl) rfl) fun _ q59_17 => ?_;clear q59_16
  refine q59_17.q _ (fun v hv => ex_move rfl (q59_17.e (j:=75) rfl)) fun _ q59_18 => ?_;clear q59_17
  refine vq _ (.pointer (some ⟨wr.heap.size,0,none⟩)) (want_g rfl rfl (q59_18.a 76 rfl)) (fun hc v hv => ex_fa rfl (q59_18.e (j:=8) rfl) (fb0An _ _)) rfl q59_18.z (by decide) (q59_18.k fun Yt q59_19 => ?_);clear q59_18;refine vq _ (.int .i64 x.n) (want_g rfl rfl (q59_19.a 76 rfl)) (fun hc v hv => ex_ld rfl (ev (q59_19.a 77 rfl) hc) (ldI8 (cell8 (HP.cell 0 _ rfl) hv))) rfl q59_19.z (by decide) (q59_19.k fun Yu q59_20 => ?_);clear q59_19;refine vq _ (.pointer (some ⟨wr.heap.size,3,none⟩)) (want_g rfl rfl (q59_20.a 76 rfl)) (fun hc v hv => ex_fa rfl (q59_20.e (j:=8) rfl) (fb2An _ _)) rfl q59_20.z (by decide) (q59_20.k fun Yv q59_21 => ?_);clear q59_20;refine vq _ (.int .i64 x.v) (want_g rfl rfl (q59_21.a 76 rfl)) (fun hc v hv => ex_ld rfl (ev (q59_21.a 79 rfl) hc) (ldI8 (cell8 (HP.cell 3 _ rfl) hv))) rfl q59_21.z (by decide) (q59_21.k fun Yw q59_22 => ?_);clear q59_21;refine vq _ (.int .i64 n) (want_g rfl rfl (q59_22.a 76 rfl)) (fun hc v hv => ex_move rfl (q59_22.e (j:=2) rfl)) rfl q59_22.z (by decide) (q59_22.k fun Yx q59_23 => ?_);clear q59_22;refine vq _ (.int .i64 (x.v % n)) (want_g rfl rfl (q59_23.a 76 rfl)) (fun hc v hv => ex_bin rfl (ev (q59_23.a 80 rfl) hc) (ev (q59_23.a 81 rfl) hc) (remD8 _ _ x.v n (gd8 hc).1 hn.1 (by omega) _)) rfl q59_23.z (by decide) (q59_23.k fun Yy q59_24 => ?_);clear q59_23;refine vq _ (.bool (!decide (x.n = (x.v % n)))) (want_g rfl rfl (q59_24.a 76 rfl)) (fun hc v hv => ex_bin rfl (ev (q59_24.a 78 rfl) hc) (ev (q59_24.a 82 rfl) hc) (neqC _ _ _ _ _)) rfl q59_24.z (by decide) (q59_24.k fun Yz q59_25 => ?_);clear q59_24;refine vq _ (.bool (!decide (x.n = (x.v % n)))) (want_g rfl rfl (q59_25.a 76 rfl)) (fun hc v hv => ex_move rfl (ev (q59_25.a 83 rfl) hc)) rfl q59_25.z (by decide) (q59_25.k fun Y0 q59_26 => ?_);clear q59_25;refine vq ((true && ((((decide (x.v < 0)) || (decide (4294967296 < x.v))) || (!(lgB9 c x.s.D x.c))) == false)) && ((!decide (x.n = (x.v % n))) == true)) (.pointer (some ⟨wr.heap.size,5,none⟩)) (want_g rfl rfl (q59_26.a 84 rfl)) (fun hc v hv => ex_fa rfl (q59_26.e (j:=8) rfl) (fb4An _ _)) rfl q59_26.z (by decide) (q59_26.k fun Y1 q59_27 => ?_);clear q59_26;refine vq ((true && ((((decide (x.v < 0)) || (decide (4294967296 < x.v))) || (!(lgB9 c x.s.D x.c))) == false)) && ((!decide (x.n = (x.v % n))) == true)) (.slice x.s.a x.s.D.length x.s.c) (want_g rfl rfl (q59_27.a 84 rfl)) (fun hc v hv => ex_ld rfl (ev (q59_27.a 85 rfl) hc) (ldE8 (cell8 (HP.cell 5 _ rfl) hv))) rfl q59_27.z (by decide) (q59_27.k fun Y2 q59_28 => ?_);clear q59_27;refine vq ((true && ((((decide (x.v < 0)) || (decide (4294967296 < x.v))) || (!(lgB9 c x.s.D x.c))) == false)) && ((!decide (x.n = (x.v % n))) == true)) (.int .i64 (x.s.D.length : Int)) (want_g rfl rfl (q59_28.a 84 rfl)) (fun hc v hv => ex_lenE8 rfl rfl (ev (q59_28.a 86 rfl) hc)) rfl q59_28.z (by decide) (q59_28.k fun Y3 q59_29 => ?_);clear q59_28;refine vq ((true && ((((decide (x.v < 0)) || (decide (4294967296 < x.v))) || (!(lgB9 c x.s.D x.c))) == false)) && ((!decide (x.n = (x.v % n))) == true)) (.bool (decide (0 < (x.s.D.length : Int)))) (want_g rfl rfl (q59_29.a 84 rfl)) (fun hc v hv => ex_bin rfl (ev (q59_29.a 87 rfl) hc) rfl (gtrC _ _ _ _ _)) rfl q59_29.z (by decide) (q59_29.k fun Y4 q59_30 => ?_);clear q59_29;refine vq _ (.bool ((!decide (x.n = (x.v % n))) && (decide (0 < (x.s.D.length : Int))))) (want_g rfl rfl (q59_30.a 76 rfl)) (fun hc v hv => ex_and rfl (q59_30.a 84 rfl) (q59_30.a 88 rfl) hc) rfl q59_30.z (by decide) (q59_30.k fun Y5 q59_31 => ?_);clear q59_30
  refine q59_31.q (.bool ((((decide (x.v < 0)) || (decide (4294967296 < x.v))) || (!(lgB9 c x.s.D x.c))) || ((!decide (x.n = (x.v % n))) && (decide (0 < (x.s.D.length : Int)))))) (fun v hv => ex_or rfl (q59_31.a 76 rfl) (q59_31.a 89 rfl) rfl) fun _ q59_32 => ?_;clear q59_31
  have hz:=q59_32.z;have s2:=q59_32.a 2 rfl;have s3:=q59_32.a 3 rfl;have s4:=q59_32.a 4 rfl;have s7:=q59_32.a 7 rfl;have s90:=q59_32.a 90 rfl;clear q59_32;refine vq_nil (fun x11 hx11 => ?_);have ee : (((((decide (x.v < 0)) || (decide (4294967296 < x.v))) || (!(lgB9 c x.s.D x.c))) || ((!decide (x.n = (x.v % n))) && (decide (0 < (x.s.D.length : Int)))))) = rab9 c n x:=rfl;have hb8:=hbx.trans (hx11.mono hbx.size)
  go_upto_region 8 with fail
  cases eb : rab9 c n x
  rotate_left
  ·refine wp_cond_true ((ev s90 rfl).trans (by rw [ee,eb])) ?_
   go_upto_region 8 with fail
   refine wp_region_lit ?_;have q60_0:=((((Rp.nil hz).cons s2).cons s3).cons s4).cons s7;clear hz s2 s3 s4 s7
   refine q60_0.t (.bool false) (ex_assign rfl rfl) fun _ q60_1 => ?_;clear q60_0
   have hz:=q60_1.z;have s6:=q60_1.a 6 rfl;clear q60_1;refine wpList_nil ?_
   have HR : Hid (s.rc9 c n = false):=by show _ = _;unfold Sta.rc9;rw [show _ = false from e46,any_bad9 hxi eb];rfl
   go_wp2
   refine bodyPost_ret (results_tmp rfl _ _ _) rfl ⟨?_,hB.trans (hb8.mono (by omega))⟩;rw [getD_of s6,HR.out]
   rfl
  refine wp_cond_false ((ev s90 rfl).trans (by rw [ee,eb])) ?_;clear s90
  go_upto_region 5 with fail
  refine wp_region_lit ?_;have q61_0:=((((Rp.nil hz).cons s2).cons s3).cons s4).cons s7;clear hz s2 s3 s4 s7
  refine q61_0.t _ (ex_move rfl (q61_0.e (j:=7) rfl)) fun _ q61_1 => ?_;clear q61_0
  refine q61_1.t (.int .i64 ((i + 1 : Nat) : Int)) (ex_bin rfl (q61_1.e (j:=52) rfl) rfl (addD8 _ _ _ 1 ((i + 1 : Nat) : Int) (by rw [IntKind.wrap_i64];omega) _)) fun _ q61_2 => ?_;clear q61_1
  refine q61_2.t _ (ex_assign rfl (q61_2.e (j:=53) rfl)) fun _ q61_3 => ?_;clear q61_2
  have hz:=q61_3.z;have s2:=q61_3.a 2 rfl;have s3:=q61_3.a 3 rfl;have s4:=q61_3.a 4 rfl;have s7:=q61_3.a 7 rfl;clear q61_3;refine wpList_nil ?_
  exact ⟨_,rfl,by omega,hz,s2,s3,s4,s7,hb8,fun k y hk hy => by
   by_cases e : k = i
   ·subst e;rw [hxi] at hy;cases hy;exact eb
   ·exact HJ.out.2 k y (by omega) hy⟩
 ·have d1 : decide ((i : Int) < (s.N.length : Int)) = false:=decide_eq_false (by omega)
  go_upto_region 4 with fail
  refine wp_region_lit ?_;have q62_0:=((((Rp.nil hz).cons s2).cons s3).cons s4).cons s7;clear hz s2 s3 s4 s7
  refine q62_0.t _ (ex_move rfl (q62_0.e (j:=7) rfl)) fun _ q62_1 => ?_;clear q62_0
  refine q62_1.t (.pointer (some ⟨w.heap.size + 1,11,none⟩)) (ex_fa rfl (q62_1.e (j:=4) rfl) (faS11 _ _)) fun _ q62_2 => ?_;clear q62_1
  refine q62_2.t (.slice s.na s.N.length s.nc) (ex_ld rfl (q62_2.e (j:=48) rfl) (ldN8 (cell8 (HS.cell 11 _ rfl) hbr))) fun _ q62_3 => ?_;clear q62_2
  refine q62_3.t (.int .i64 (s.N.length : Int)) (ex_lenN8 rfl rfl (q62_3.e (j:=49) rfl)) fun _ q62_4 => ?_;clear q62_3
  refine q62_4.t (.bool false) (ex_bin rfl (q62_4.e (j:=47) rfl) (q62_4.e (j:=50) rfl) (lssD8 _ _ _ _ false d1 _)) fun _ q62_5 => ?_;clear q62_4
  have hz:=q62_5.z;have s51:=q62_5.a 51 rfl;clear q62_5;refine wpList_nil ?_
  go_upto_region 9 with fail
  refine wp_cond_false ((ev s51 rfl).trans rfl) ?_;clear s51 d1
  go_upto_region 9 with fail
  refine wp_region_lit ?_;have q63_0:=Rp.nil hz;clear hz
  refine q63_0.t (.bool true) (ex_assign rfl rfl) fun _ q63_1 => ?_;clear q63_0
  have hz:=q63_1.z;have s6:=q63_1.a 6 rfl;clear q63_1;refine wpList_nil ?_
  have HR : Hid (s.rc9 c n = true):=by show _ = _;unfold Sta.rc9;rw [show _ = false from e46,any_ok9 (fun k x hk hx => HJ.out.2 k x (by omega) hx)];rfl
  go_wp2
  refine bodyPost_ret (results_tmp rfl _ _ _) rfl ⟨?_,hB.trans (hbr.mono (by omega))⟩;rw [getD_of s6,HR.out]
  rfl
end Go.Proofs.YtgncpcfncojgoaaGreatDoor
