import Derived.Test.YtpcgnjpodnebpaaGreatDoorG10
set_option maxRecDepth 100000
set_option linter.unusedVariables false
set_option linter.unusedSimpArgs false
set_option maxHeartbeats 8000000
namespace Go.Proofs.YtpcgnjpodnebpaaGreatDoor
open Go.RowKit Go.Maps Go.Shelf
open Classical
theorem eqlDr7 (x y : Operand) (r r' : Int × Int) (w : World) : (do eqGuard .eql 52 x y (.agg #[.int .u64 r.1,.int .u64 r.2]) (.agg #[.int .u64 r'.1,.int .u64 r'.2]);binOp .eql 52 (.agg #[.int .u64 r.1,.int .u64 r.2]) (.agg #[.int .u64 r'.1,.int .u64 r'.2]) : Sem Value).run Tryz.prog w = .ok (.bool (decide (r = r'))) w:=by
 obtain ⟨a,b⟩:=r;obtain ⟨a',b'⟩:=r'
 go_simp
 by_cases e1 : a = a' <;> by_cases e2 : b = b' <;> simp [e1,e2]
def zAn9 : An:=⟨0,0,0,0,0,⟨none,0,[]⟩⟩
def zBl9 : Bl:=⟨0,0,0,0,0,⟨none,0,[]⟩⟩
theorem alAn9 (w : World) : (Instr.alloc 77 true (.tuple #[])).run Tryz.prog w = .ok (.pointer (some ⟨w.heap.size,0,none⟩)) (w.alloc (.cells zAn9.cs.toArray 77)):=by
 go_simp
 first | done | rfl
theorem stAn9 {w : World} {q : Nat} (h : BX7 w q zAn9.cs) (x : An) : (Instr.storeAt 77 (.pointer (some ⟨q,0,none⟩)) x.val).run Tryz.prog w = .ok () (sets w q 0 x.cs):=by
 have:=run_storeAt_mid (P:=Tryz.prog) w q 0 77 x.cs.toArray (fun j hj => ⟨by rw [Nat.zero_add,h.cell j _ (List.getElem?_eq_getElem (show j < zAn9.cs.length from hj))];rfl,by rw [Nat.zero_add];exact h.free j⟩) (by kernel_rfl) (all_oneCell_toArray (by
  intro v hv;simp only [An.cs,List.mem_cons,List.not_mem_nil,or_false] at hv
  rcases hv with rfl | rfl | rfl | rfl | rfl | rfl <;> rfl))
 rw [setCells_sets] at this
 exact this
theorem putAn9 {w : World} {q : Nat} (h : BX7 w q zAn9.cs) (x : An) : BX7 (sets w q 0 x.cs) q x.cs:=by
 refine ⟨by rw [size_sets];exact h.lt,fun i y hy => ?_,fun i => sets_free _ _ _ (h.free i)⟩;have:=sets_at (b:=q) x.cs 0 w (fun k hk => ⟨_,by rw [Nat.zero_add];exact h.cell k _ (List.getElem?_eq_getElem (show k < zAn9.cs.length from hk))⟩) i y hy;rw [Nat.zero_add] at this
 exact this
theorem upAn9 (w : World) (q : Nat) (x : An) : Upd (fun k => k = q) w (sets w q 0 x.cs):=upd_sets (S:=fun k => k = q) (b:=q) rfl _ _ _ (Upd.refl _ _)
theorem ldAn9 {w : World} {q o : Nat} {x : An} (h : ∀ k u,x.cs[k]? = some u → w.cell? ⟨q,o + k,none⟩ = some u) : (Instr.loadAt 77 (.pointer (some ⟨q,o,none⟩))).run Tryz.prog w = .ok x.val w:=by
 have h0:=h 0 _ rfl;have h1:=h 1 _ rfl;have h2:=h 2 _ rfl;have h3:=h 3 _ rfl;have h4:=h 4 _ rfl;have h5:=h 5 _ rfl;rw [Nat.add_zero] at h0
 unfold An.val
 clear h
 go_simp
theorem fb0An (q : Nat) (w : World) : (Instr.fieldAt 77 (.pointer (some ⟨q,0,none⟩)) 0).run Tryz.prog w = .ok (.pointer (some ⟨q,0,none⟩)) w:=by go_simp
theorem fb2An (q : Nat) (w : World) : (Instr.fieldAt 77 (.pointer (some ⟨q,0,none⟩)) 2).run Tryz.prog w = .ok (.pointer (some ⟨q,3,none⟩)) w:=by go_simp
theorem fb3An (q : Nat) (w : World) : (Instr.fieldAt 77 (.pointer (some ⟨q,0,none⟩)) 3).run Tryz.prog w = .ok (.pointer (some ⟨q,4,none⟩)) w:=by go_simp
theorem fb4An (q : Nat) (w : World) : (Instr.fieldAt 77 (.pointer (some ⟨q,0,none⟩)) 4).run Tryz.prog w = .ok (.pointer (some ⟨q,5,none⟩)) w:=by go_simp
theorem alBl9 (w : World) : (Instr.alloc 75 true (.tuple #[])).run Tryz.prog w = .ok (.pointer (some ⟨w.heap.size,0,none⟩)) (w.alloc (.cells zBl9.cs.toArray 75)):=by
 go_simp
 first | done | rfl
theorem stBl9 {w : World} {q : Nat} (h : BX7 w q zBl9.cs) (x : Bl) : (Instr.storeAt 75 (.pointer (some ⟨q,0,none⟩)) x.val).run Tryz.prog w = .ok () (sets w q 0 x.cs):=by
 have:=run_storeAt_mid (P:=Tryz.prog) w q 0 75 x.cs.toArray (fun j hj => ⟨by rw [Nat.zero_add,h.cell j _ (List.getElem?_eq_getElem (show j < zBl9.cs.length from hj))];rfl,by rw [Nat.zero_add];exact h.free j⟩) (by kernel_rfl) (all_oneCell_toArray (by
  intro v hv;simp only [Bl.cs,List.mem_cons,List.not_mem_nil,or_false] at hv
  rcases hv with rfl | rfl | rfl | rfl | rfl | rfl <;> rfl))
 rw [setCells_sets] at this
 exact this
theorem putBl9 {w : World} {q : Nat} (h : BX7 w q zBl9.cs) (x : Bl) : BX7 (sets w q 0 x.cs) q x.cs:=by
 refine ⟨by rw [size_sets];exact h.lt,fun i y hy => ?_,fun i => sets_free _ _ _ (h.free i)⟩;have:=sets_at (b:=q) x.cs 0 w (fun k hk => ⟨_,by rw [Nat.zero_add];exact h.cell k _ (List.getElem?_eq_getElem (show k < zBl9.cs.length from hk))⟩) i y hy;rw [Nat.zero_add] at this
 exact this
theorem upBl9 (w : World) (q : Nat) (x : Bl) : Upd (fun k => k = q) w (sets w q 0 x.cs):=upd_sets (S:=fun k => k = q) (b:=q) rfl _ _ _ (Upd.refl _ _)
theorem ldBl9 {w : World} {q o : Nat} {x : Bl} (h : ∀ k u,x.cs[k]? = some u → w.cell? ⟨q,o + k,none⟩ = some u) : (Instr.loadAt 75 (.pointer (some ⟨q,o,none⟩))).run Tryz.prog w = .ok x.val w:=by
 have h0:=h 0 _ rfl;have h1:=h 1 _ rfl;have h2:=h 2 _ rfl;have h3:=h 3 _ rfl;have h4:=h 4 _ rfl;have h5:=h 5 _ rfl;rw [Nat.add_zero] at h0
 unfold Bl.val
 clear h
 go_simp
theorem fb2Bl (q : Nat) (w : World) : (Instr.fieldAt 75 (.pointer (some ⟨q,0,none⟩)) 2).run Tryz.prog w = .ok (.pointer (some ⟨q,3,none⟩)) w:=by go_simp
theorem fb3Bl (q : Nat) (w : World) : (Instr.fieldAt 75 (.pointer (some ⟨q,0,none⟩)) 3).run Tryz.prog w = .ok (.pointer (some ⟨q,4,none⟩)) w:=by go_simp
theorem fb4Bl (q : Nat) (w : World) : (Instr.fieldAt 75 (.pointer (some ⟨q,0,none⟩)) 4).run Tryz.prog w = .ok (.pointer (some ⟨q,5,none⟩)) w:=by go_simp
def rab9 (c : Cg) (n : Int) (x : An) : Bool:=(((decide (x.v < 0) || decide (4294967296 < x.v)) || (!lgB9 c x.s.D x.c)) || ((!decide (x.n = x.v % n)) && decide (0 < (x.s.D.length : Int))))
def Sta.rc9 (s : Sta) (c : Cg) (n : Int) : Bool:=bif (decide (0 < (((((((s.view + s.last) + s.commit) + s.idle) + (s.L.length : Int)) + (s.A.length : Int)) + (s.M.length : Int)) + (s.B.length : Int))) || decide (s.V.getD s.self.toNat (0,0) = (0,0))) then false else !(s.N.any (rab9 c n))
theorem any_bad9 {α : Type} {p : α → Bool} {L : List α} {i : Nat} {x : α} (h : L[i]? = some x) (hp : p x = true) : L.any p = true:=List.any_eq_true.2 ⟨x,List.mem_of_getElem? h,hp⟩
theorem any_ok9 {α : Type} {p : α → Bool} {L : List α} (h : ∀ k x,k < L.length → L[k]? = some x → p x = false) : L.any p = false:=by
 rw [List.any_eq_false];intro x hx;obtain ⟨k,hk⟩:=List.mem_iff_getElem?.1 hx;rw [h k x (List.getElem?_eq_some_iff.1 hk).1 hk]
 decide
theorem rrecovering9 (c : Cg) (s : Sta) (n : Int) (w : World) (hI : s.In w) (hF : s.Fit) (hv1 : 0 ≤ s.view∧s.view ≤ 4294967296) (hv2 : 0 ≤ s.last∧s.last ≤ s.view) (hv3 : 0 ≤ s.commit∧s.commit ≤ (s.L.length : Int)) (hv4 : 0 ≤ s.idle∧s.idle < 1000) (hs : 0 ≤ s.self∧s.self < (s.V.length : Int)) (hn : 0 < n∧n < 100) : Calls Tryz.prog 52 #[c.val,s.val,.int .i64 n] w fun e w' => e = .returned (.bool (s.rc9 c n))∧Below w.heap.size w w':=by
 go_enter Tryz.func52,Tryz.ntmps52
 go_upto_region 0 with fail
 refine WL ?_;refine vl_gen (fun T => T.size = 91∧T[0]? = some (gw true (c.val))∧T[1]? = some (gw true (s.val))∧T[2]? = some (gw true (.int .i64 n))) ⟨rfl,rfl,rfl,rfl⟩ (fun Z0 ⟨hz,s0,s1,s2⟩ => ?_)
 obtain ⟨w1,hw1⟩ : ∃ y,y = w.alloc (.cells c.cs.toArray 23):=⟨_,rfl⟩
 have hb : Below w.heap.size w w1:=by rw [hw1];exact BR.alloc LR _
 have hs1 : w1.heap.size = w.heap.size + 1:=by rw [hw1];simp
 have HC : CB7 w1 (w.heap.size) c:=by rw [hw1];exact BX7.new _ _ _
 refine vw (.pointer (some ⟨w.heap.size,0,none⟩)) w1 WN (ex_box8 rfl (ev s0 rfl) (by rw [hw1];exact bxC7 _ _)) rfl hz (by decide) (fun Z1 zz kk s3x => ?_);replace s1:=ku s1;replace s2:=ku s2;clear kk hz s0 hw1;have hz:=zz;have s3:=s3x;clear zz s3x;have hB:=hb;clear hb
 obtain ⟨w2,hw2⟩ : ∃ y,y = w1.alloc (.cells s.cs.toArray 33):=⟨_,rfl⟩
 have hb : Below w1.heap.size w1 w2:=by rw [hw2];exact BR.alloc LR _
 have hs2 : w2.heap.size = w.heap.size + 2:=by rw [hw2];simp;omega
 have HS : SB7 w2 (w.heap.size + 1) s:=by rw [hw2,← hs1];exact BX7.new _ _ _
 refine vw (.pointer (some ⟨w.heap.size + 1,0,none⟩)) w2 WN (ex_box8 rfl (ev s1 rfl) (by rw [hw2,← hs1];exact bxS7 _ _)) rfl hz (by decide) (fun Z2 zz kk s4x => ?_);replace s2:=ku s2;replace s3:=ku s3;clear kk hz s1 hw2;have hz:=zz;have s4:=s4x;clear zz s4x;have hB:=hB.trans (hb.mono (by omega));have HC:=HC.bel hb;clear hb;have hv0 : Below w2.heap.size w2 w2:=BR;have HI:=hI.later hB;have f0:=hF.ll;have f1:=hF.al;have f2:=hF.ml;have f3:=hF.bl;have f4:=hF.nl;obtain ⟨qv,ov,hva,hQ⟩:=vec_at8 HI.v hs;have Ya:=(((Rp.nil hz).cons s2).cons s3).cons s4;clear hz s2 s3 s4
 refine Ya.t (.bool false) (ex_assign rfl rfl) fun _ Yb => ?_;clear Ya
 have hz:=Yb.z;have s2:=Yb.a 2 rfl;have s3:=Yb.a 3 rfl;have s4:=Yb.a 4 rfl;clear Yb;refine WE ?_
 go_upto_region 1 with fail
 refine WL ?_;have Yc:=(((Rp.nil hz).cons s2).cons s3).cons s4;clear hz s2 s3 s4
 refine Yc.t _ (ex_fa rfl (Yc.f 4) (faS2 _ _)) fun _ Yd => ?_;clear Yc
 refine Yd.t _ (ex_ld rfl (Yd.f 9) (ldI8 (cell8 (HS.cell 2 _ rfl) hv0))) fun _ Ye => ?_;clear Yd
 refine Ye.t _ (ex_fa rfl (Ye.f 4) (faS3 _ _)) fun _ Yf => ?_;clear Ye
 refine Yf.t _ (ex_ld rfl (Yf.f 11) (ldI8 (cell8 (HS.cell 3 _ rfl) hv0))) fun _ Yg => ?_;clear Yf
 refine Yg.t (.int .i64 ((s.view) + (s.last))) (ex_bin rfl (Yg.f 10) (Yg.f 12) (addD8 _ _ (s.view) (s.last) ((s.view) + (s.last)) (by rw [IntKind.wrap_i64];omega) _)) fun _ Yh => ?_;clear Yg
 refine Yh.t _ (ex_fa rfl (Yh.f 4) (faS5 _ _)) fun _ Yi => ?_;clear Yh
 refine Yi.t _ (ex_ld rfl (Yi.f 14) (ldI8 (cell8 (HS.cell 5 _ rfl) hv0))) fun _ Yj => ?_;clear Yi
 refine Yj.t (.int .i64 (((s.view) + (s.last)) + (s.commit))) (ex_bin rfl (Yj.f 13) (Yj.f 15) (addD8 _ _ ((s.view) + (s.last)) (s.commit) (((s.view) + (s.last)) + (s.commit)) (by rw [IntKind.wrap_i64];omega) _)) fun _ Yk => ?_;clear Yj
 refine Yk.t _ (ex_fa rfl (Yk.f 4) (faS7 _ _)) fun _ Yl => ?_;clear Yk
 refine Yl.t _ (ex_ld rfl (Yl.f 17) (ldI8 (cell8 (HS.cell 7 _ rfl) hv0))) fun _ Ym => ?_;clear Yl
 refine Ym.t (.int .i64 ((((s.view) + (s.last)) + (s.commit)) + (s.idle))) (ex_bin rfl (Ym.f 16) (Ym.f 18) (addD8 _ _ (((s.view) + (s.last)) + (s.commit)) (s.idle) ((((s.view) + (s.last)) + (s.commit)) + (s.idle)) (by rw [IntKind.wrap_i64];omega) _)) fun _ Yn => ?_;clear Ym
 refine Yn.t _ (ex_fa rfl (Yn.f 4) (faS4 _ _)) fun _ Yo => ?_;clear Yn
 refine Yo.t _ (ex_ld rfl (Yo.f 20) (ldE8 (cell8 (HS.cell 4 _ rfl) hv0))) fun _ Yp => ?_;clear Yo
 refine Yp.t _ (ex_lenE8 rfl rfl (Yp.f 21)) fun _ Yq => ?_;clear Yp
 refine Yq.t (.int .i64 (((((s.view) + (s.last)) + (s.commit)) + (s.idle)) + ((s.L.length : Int)))) (ex_bin rfl (Yq.f 19) (Yq.f 22) (addD8 _ _ ((((s.view) + (s.last)) + (s.commit)) + (s.idle)) ((s.L.length : Int)) (((((s.view) + (s.last)) + (s.commit)) + (s.idle)) + ((s.L.length : Int))) (by rw [IntKind.wrap_i64];omega) _)) fun _ Yr => ?_;clear Yq
 refine Yr.t _ (ex_fa rfl (Yr.f 4) (faS8 _ _)) fun _ Ys => ?_;clear Yr
 refine Ys.t _ (ex_ld rfl (Ys.f 24) (ldK8 (cell8 (HS.cell 8 _ rfl) hv0))) fun _ Yt => ?_;clear Ys
 refine Yt.t _ (ex_lenK8 rfl rfl (Yt.f 25)) fun _ Yu => ?_;clear Yt
 refine Yu.t (.int .i64 ((((((s.view) + (s.last)) + (s.commit)) + (s.idle)) + ((s.L.length : Int))) + ((s.A.length : Int)))) (ex_bin rfl (Yu.f 23) (Yu.f 26) (addD8 _ _ (((((s.view) + (s.last)) + (s.commit)) + (s.idle)) + ((s.L.length : Int))) ((s.A.length : Int)) ((((((s.view) + (s.last)) + (s.commit)) + (s.idle)) + ((s.L.length : Int))) + ((s.A.length : Int))) (by rw [IntKind.wrap_i64];omega) _)) fun _ Yv => ?_;clear Yu
 refine Yv.t _ (ex_fa rfl (Yv.f 4) (faS9 _ _)) fun _ Yw => ?_;clear Yv
 refine Yw.t _ (ex_ld rfl (Yw.f 28) (ldM8 (cell8 (HS.cell 9 _ rfl) hv0))) fun _ Yx => ?_;clear Yw
 refine Yx.t _ (ex_lenM8 rfl rfl (Yx.f 29)) fun _ Yy => ?_;clear Yx
 refine Yy.t (.int .i64 (((((((s.view) + (s.last)) + (s.commit)) + (s.idle)) + ((s.L.length : Int))) + ((s.A.length : Int))) + ((s.M.length : Int)))) (ex_bin rfl (Yy.f 27) (Yy.f 30) (addD8 _ _ ((((((s.view) + (s.last)) + (s.commit)) + (s.idle)) + ((s.L.length : Int))) + ((s.A.length : Int))) ((s.M.length : Int)) (((((((s.view) + (s.last)) + (s.commit)) + (s.idle)) + ((s.L.length : Int))) + ((s.A.length : Int))) + ((s.M.length : Int))) (by rw [IntKind.wrap_i64];omega) _)) fun _ Yz => ?_;clear Yy
 refine Yz.t _ (ex_fa rfl (Yz.f 4) (faS10 _ _)) fun _ Y0 => ?_;clear Yz
 refine Y0.t _ (ex_ld rfl (Y0.f 32) (ldB8 (cell8 (HS.cell 10 _ rfl) hv0))) fun _ Y1 => ?_;clear Y0
 refine Y1.t _ (ex_lenB8 rfl rfl (Y1.f 33)) fun _ Y2 => ?_;clear Y1
 refine Y2.t (.int .i64 ((((((((s.view) + (s.last)) + (s.commit)) + (s.idle)) + ((s.L.length : Int))) + ((s.A.length : Int))) + ((s.M.length : Int))) + ((s.B.length : Int)))) (ex_bin rfl (Y2.f 31) (Y2.f 34) (addD8 _ _ (((((((s.view) + (s.last)) + (s.commit)) + (s.idle)) + ((s.L.length : Int))) + ((s.A.length : Int))) + ((s.M.length : Int))) ((s.B.length : Int)) ((((((((s.view) + (s.last)) + (s.commit)) + (s.idle)) + ((s.L.length : Int))) + ((s.A.length : Int))) + ((s.M.length : Int))) + ((s.B.length : Int))) (by rw [IntKind.wrap_i64];omega) _)) fun _ Y3 => ?_;clear Y2
 refine Y3.t (.bool (decide (0 < (((((((s.view) + (s.last)) + (s.commit)) + (s.idle)) + ((s.L.length : Int))) + ((s.A.length : Int))) + ((s.M.length : Int))) + ((s.B.length : Int))))) (ex_bin rfl (Y3.f 35) rfl (gtrC _ _ _ _ _)) fun _ Y4 => ?_;clear Y3
 refine Y4.t _ (ex_move rfl (Y4.f 36)) fun _ Y5 => ?_;clear Y4
 refine Y5.g 37 rfl rfl _ (fun hc => ex_fa rfl (Y5.f 4) (faS6 _ _)) fun Y6 Y7 => ?_;clear Y5
 refine Y7.g 37 rfl rfl _ (fun hc => ex_ld rfl (Y7.v 38 hc) (ldV8 (cell8 (HS.cell 6 _ rfl) hv0))) fun Y8 Y9 => ?_;clear Y7
 refine Y9.g 37 rfl rfl _ (fun hc => ex_fa rfl (Y9.f 4) (faS0 _ _)) fun Yba Ybb => ?_;clear Y9
 refine Ybb.g 37 rfl rfl _ (fun hc => ex_ld rfl (Ybb.v 40 hc) (ldI8 (cell8 (HS.cell 0 _ rfl) hv0))) fun Ybc Ybd => ?_;clear Ybb
 refine Ybd.g 37 rfl rfl _ (fun hc => ex_ix rfl (Ybd.v 39 hc) (Ybd.v 41 hc) (hQ.1 _)) fun Ybe Ybf => ?_;clear Ybd
 refine Ybf.g 37 rfl rfl _ (fun hc => ex_ld rfl (Ybf.v 42 hc) (hQ.2 _ hv0)) fun Ybg Ybh => ?_;clear Ybf
 refine Ybh.g 37 rfl rfl (.agg #[.int .u64 0,.int .u64 0]) (fun hc => ex_build rfl (buildDr _)) fun Ybi Ybj => ?_;clear Ybh
 refine Ybj.g 37 rfl rfl (.bool (decide ((s.V.getD s.self.toNat (0,0)) = (0,0)))) (fun hc => ex_bin rfl (Ybj.v 43 hc) (Ybj.v 44 hc) (eqlDr7 _ _ (s.V.getD s.self.toNat (0,0)) (0,0) _)) fun Ybk Ybl => ?_;clear Ybj
 refine Ybl.t (.bool ((decide (0 < (((((((s.view) + (s.last)) + (s.commit)) + (s.idle)) + ((s.L.length : Int))) + ((s.A.length : Int))) + ((s.M.length : Int))) + ((s.B.length : Int)))) || (decide ((s.V.getD s.self.toNat (0,0)) = (0,0))))) (ex_or rfl (Ybl.a 37 rfl) (Ybl.a 45 rfl) rfl) fun _ Ybm => ?_;clear Ybl
 have hz:=Ybm.z;have s2:=Ybm.a 2 rfl;have s3:=Ybm.a 3 rfl;have s4:=Ybm.a 4 rfl;have s46:=Ybm.a 46 rfl;clear Ybm;refine WE ?_
 go_upto_region 2 with fail
 cases e46 : ((decide (0 < (((((((s.view) + (s.last)) + (s.commit)) + (s.idle)) + ((s.L.length : Int))) + ((s.A.length : Int))) + ((s.M.length : Int))) + ((s.B.length : Int)))) || (decide ((s.V.getD s.self.toNat (0,0)) = (0,0))))
 rotate_left
 ·refine wp_cond_true ((ev s46 rfl).trans (congrArg Value.bool e46)) ?_
  go_upto_region 2 with fail
  refine WL ?_;have Ybn:=(((Rp.nil hz).cons s2).cons s3).cons s4;clear hz s2 s3 s4
  refine Ybn.t (.bool false) (ex_assign rfl rfl) fun _ Ybo => ?_;clear Ybn
  have hz:=Ybo.z;have s6:=Ybo.a 6 rfl;clear Ybo;refine WE ?_
  go_wp2
  refine bodyPost_ret (results_tmp rfl _ _ _) rfl ⟨?_,hB.trans (hv0.mono (by omega))⟩;rw [getD_of s6]
  unfold Sta.rc9
  rw [show _ = true from e46]
  rfl
 refine wp_cond_false ((ev s46 rfl).trans (congrArg Value.bool e46)) ?_;clear s46
 go_upto_region 3 with fail
 refine WL ?_;have Ybp:=(((Rp.nil hz).cons s2).cons s3).cons s4;clear hz s2 s3 s4
 refine Ybp.t (.int .i64 0) (ex_assign rfl rfl) fun _ Ybq => ?_;clear Ybp
 have hz:=Ybq.z;have s2:=Ybq.a 2 rfl;have s3:=Ybq.a 3 rfl;have s4:=Ybq.a 4 rfl;have s7:=Ybq.a 7 rfl;clear Ybq;refine WE ?_;have hs7 : _ = some (gw true (.int .i64 ((0 : Nat) : Int))):=s7
 go_upto_region 4 with fail
 refine v_loop 7 s.N.length (fun i T wr => T.size = 91∧T[2]? = some (gw true (.int .i64 n))∧T[3]? = some (gw true (.pointer (some ⟨w.heap.size,0,none⟩)))∧T[4]? = some (gw true (.pointer (some ⟨w.heap.size + 1,0,none⟩)))∧T[7]? = some (gw true (.int .i64 (i : Int)))∧Hid (Below w2.heap.size w2 wr∧∀ k x,k < i → s.N[k]? = some x → rab9 c n x = false)) (fun i T w h => h.2.2.2.2.1) ⟨hz,s2,s3,s4,hs7,BR,fun k x hk => absurd hk (Nat.not_lt_zero _)⟩ ?_;clear hz s2 s3 s4 s7 hs7;intro i R0 wr hi hh;obtain ⟨hz,s2,s3,s4,s7,HJ⟩:=hh;have hbr:=HJ.out.1;have hzr:=hbr.size;have hzw:=hB.size
 by_cases hit : i < s.N.length
 ·have d1 : decide ((i : Int) < (s.N.length : Int)) = true:=decide_eq_true (by omega)
  go_upto_region 4 with fail
  refine WL ?_;have Ybr:=((((Rp.nil hz).cons s2).cons s3).cons s4).cons s7;clear hz s2 s3 s4 s7
  refine Ybr.t _ (ex_move rfl (Ybr.f 7)) fun _ Ybs => ?_;clear Ybr
  refine Ybs.t _ (ex_fa rfl (Ybs.f 4) (faS11 _ _)) fun _ Ybt => ?_;clear Ybs
  refine Ybt.t _ (ex_ld rfl (Ybt.f 48) (ldN8 (cell8 (HS.cell 11 _ rfl) hbr))) fun _ Ybu => ?_;clear Ybt
  refine Ybu.t _ (ex_lenN8 rfl rfl (Ybu.f 49)) fun _ Ybv => ?_;clear Ybu
  refine Ybv.t (.bool true) (ex_bin rfl (Ybv.f 47) (Ybv.f 50) (lssD8 _ _ _ _ true d1 _)) fun _ Ybw => ?_;clear Ybv
  have hz:=Ybw.z;have s2:=Ybw.a 2 rfl;have s3:=Ybw.a 3 rfl;have s4:=Ybw.a 4 rfl;have s7:=Ybw.a 7 rfl;have s51:=Ybw.a 51 rfl;clear Ybw;refine WE ?_
  go_upto_region 6 with fail
  refine wp_cond_true ((ev s51 rfl).trans rfl) ?_;clear s51 d1
  obtain ⟨x,hxi⟩ : ∃ x,s.N[i]? = some x:=⟨_,List.getElem?_eq_getElem hit⟩
  have hmem:=List.mem_of_getElem? hxi;obtain ⟨q,o,hqa,hq,hl⟩:=(HI.n.later hbr).place (by intro e;rw [e] at hit;simp at hit)
  obtain ⟨y1,hy1⟩ : ∃ y,y = wr.alloc (.cells zAn9.cs.toArray 77):=⟨_,rfl⟩
  have hb : Below wr.heap.size wr y1:=by rw [hy1];exact BR.alloc LR _
  have HA : BX7 y1 wr.heap.size zAn9.cs:=by rw [hy1];exact BX7.new _ _ _
  go_upto_region 6 with fail
  refine WL ?_;have Ybx:=((((Rp.nil hz).cons s2).cons s3).cons s4).cons s7;clear hz s2 s3 s4 s7
  refine Ybx.t _ (ex_fa rfl (Ybx.f 4) (faS11 _ _)) fun _ Yby => ?_;clear Ybx
  refine Yby.t _ (ex_ld rfl (Yby.f 54) (ldN8 (cell8 (HS.cell 11 _ rfl) hbr))) fun _ Ybz => ?_;clear Yby
  refine Ybz.t _ (ex_move rfl (Ybz.f 7)) fun _ Yb0 => ?_;clear Ybz
  refine Yb0.t (.pointer (some ⟨q,o + i * 6,none⟩)) (ex_ix rfl (Yb0.f 55) (Yb0.f 56) (by rw [hqa];exact ix9An q o s.N.length s.nc i hit _)) fun _ Yb1 => ?_;clear Yb0
  refine Yb1.t _ (ex_ld rfl (Yb1.f 57) (ldAn9 (fun k u hu => hl i x hxi k u hu))) fun _ Yb2 => ?_;clear Yb1
  refine vw (.pointer (some ⟨wr.heap.size,0,none⟩)) y1 WN (ex_al rfl (by rw [hy1];exact alAn9 _)) rfl Yb2.z (by decide) (Yb2.k fun Yb3 Yb4 => ?_);clear Yb2;refine vs (sets y1 wr.heap.size 0 x.cs) WN (ex_st rfl (Yb4.f 8) (Yb4.f 58) (stAn9 HA x)) rfl ?_;have HP:=putAn9 HA x;have UP:=upAn9 y1 wr.heap.size x
  obtain ⟨y2,hy2⟩ : ∃ v,v = sets y1 wr.heap.size 0 x.cs:=⟨_,rfl⟩
  rw [← hy2] at HP UP ⊢;have hby : Below wr.heap.size wr y2:=hb.trans (UP.below hb.size (fun k hk => by omega));have hbx:=hbr.trans (hby.mono hzr);clear hy2 hy1 HA UP hb hl;have hzy:=hbx.size;have hz:=Yb4.z;have s2:=Yb4.a 2 rfl;have s3:=Yb4.a 3 rfl;have s4:=Yb4.a 4 rfl;have s7:=Yb4.a 7 rfl;have s8:=Yb4.a 8 rfl;clear Yb4;refine WE ?_;have HC2:=HC.bel hbx
  have xin:=(HI.nl x hmem)
  have hxL:=xin.1.later hbx
  have gd8 : ∀ {b : Bool},(b && (((decide (x.v < 0) || decide (4294967296 < x.v)) || (!lgB9 c x.s.D x.c)) == false)) = true → 0 ≤ x.v∧True:=fun h => by
   simp only [Bool.and_eq_true,beq_iff_eq,Bool.or_eq_false_iff,decide_eq_false_iff_not] at h
   exact ⟨by omega,trivial⟩
  go_upto_region 7 with fail
  refine vq_start (C:=fun v => Below y2.heap.size y2 v) (by kernel_rfl) (by kernel_rfl) BR.drew ?_;have Yb5:=(((((Rp.nil hz).cons s2).cons s3).cons s4).cons s7).cons s8;clear hz s2 s3 s4 s7 s8
  refine Yb5.q _ (fun v hv => ex_fa rfl (Yb5.f 8) (fb2An _ _)) fun _ Yb6 => ?_;clear Yb5
  refine Yb6.q _ (fun v hv => ex_ld rfl (Yb6.f 59) (ldI8 (cell8 (HP.cell 3 _ rfl) hv))) fun _ Yb7 => ?_;clear Yb6
  refine Yb7.q (.bool (decide (x.v < 0))) (fun v hv => ex_bin rfl (Yb7.f 60) rfl (lssC _ _ _ _ _)) fun _ Yb8 => ?_;clear Yb7
  refine Yb8.q _ (fun v hv => ex_move rfl (Yb8.f 61)) fun _ Yb9 => ?_;clear Yb8
  refine Yb9.gq 62 rfl rfl _ (fun hc v hv => ex_fa rfl (Yb9.f 8) (fb2An _ _)) fun Yca Ycb => ?_;clear Yb9
  refine Ycb.gq 62 rfl rfl _ (fun hc v hv => ex_ld rfl (Ycb.v 63 hc) (ldI8 (cell8 (HP.cell 3 _ rfl) hv))) fun Ycc Ycd => ?_;clear Ycb
  refine Ycd.gq 62 rfl rfl (.bool (decide (4294967296 < x.v))) (fun hc v hv => ex_bin rfl (Ycd.v 64 hc) rfl (gtrC _ _ _ _ _)) fun Yce Ycf => ?_;clear Ycd
  refine Ycf.q (.bool ((decide (x.v < 0)) || (decide (4294967296 < x.v)))) (fun v hv => ex_or rfl (Ycf.a 62 rfl) (Ycf.a 65 rfl) rfl) fun _ Ycg => ?_;clear Ycf
  refine Ycg.q _ (fun v hv => ex_move rfl (Ycg.f 66)) fun _ Ych => ?_;clear Ycg
  refine Ych.gq 67 rfl rfl _ (fun hc v hv => ex_ld rfl (Ych.f 3) (CB7.ld (HC2.bel hv))) fun Yci Ycj => ?_;clear Ych
  refine Ycj.gq 67 rfl rfl _ (fun hc v hv => ex_fa rfl (Ycj.f 8) (fb4An _ _)) fun Yck Ycl => ?_;clear Ycj
  refine Ycl.gq 67 rfl rfl _ (fun hc v hv => ex_ld rfl (Ycl.v 69 hc) (ldE8 (cell8 (HP.cell 5 _ rfl) hv))) fun Ycm Ycn => ?_;clear Ycl
  refine Ycn.gq 67 rfl rfl _ (fun hc v hv => ex_fa rfl (Ycn.f 8) (fb3An _ _)) fun Yco Ycp => ?_;clear Ycn
  refine Ycp.gq 67 rfl rfl _ (fun hc v hv => ex_ld rfl (Ycp.v 71 hc) (ldI8 (cell8 (HP.cell 4 _ rfl) hv))) fun Ycq Ycr => ?_;clear Ycp
  refine vq_call (true && (((decide (x.v < 0)) || (decide (4294967296 < x.v))) == false)) (.bool (lgB9 c x.s.D x.c)) (want_g rfl rfl (Ycr.a 67 rfl)) (fun hc v hv => ex_call rfl (by simp only [LA,LB,LC,(Ycr.v 68 hc),(Ycr.v 70 hc),(Ycr.v 72 hc),evc] <;> rfl) rfl) (fun hc v hv => (bel8 hv (rlogged9 c x.s.D x.s.a x.s.c x.c v (hxL.later hv) (hF.ne x hmem)))) rfl Ycr.z (by decide) (Ycr.k fun Ycs Yct => ?_);clear Ycr
  refine Yct.gq 67 rfl rfl (.bool (!(lgB9 c x.s.D x.c))) (fun hc v hv => ex_not rfl (Yct.v 73 hc)) fun Ycu Ycv => ?_;clear Yct
  refine Ycv.q (.bool (((decide (x.v < 0)) || (decide (4294967296 < x.v))) || (!(lgB9 c x.s.D x.c)))) (fun v hv => ex_or rfl (Ycv.a 67 rfl) (Ycv.a 74 rfl) rfl) fun _ Ycw => ?_;clear Ycv
  refine Ycw.q _ (fun v hv => ex_move rfl (Ycw.f 75)) fun _ Ycx => ?_;clear Ycw
  refine Ycx.gq 76 rfl rfl _ (fun hc v hv => ex_fa rfl (Ycx.f 8) (fb0An _ _)) fun Ycy Ycz => ?_;clear Ycx
  refine Ycz.gq 76 rfl rfl _ (fun hc v hv => ex_ld rfl (Ycz.v 77 hc) (ldI8 (cell8 (HP.cell 0 _ rfl) hv))) fun Yc0 Yc1 => ?_;clear Ycz
  refine Yc1.gq 76 rfl rfl _ (fun hc v hv => ex_fa rfl (Yc1.f 8) (fb2An _ _)) fun Yc2 Yc3 => ?_;clear Yc1
  refine Yc3.gq 76 rfl rfl _ (fun hc v hv => ex_ld rfl (Yc3.v 79 hc) (ldI8 (cell8 (HP.cell 3 _ rfl) hv))) fun Yc4 Yc5 => ?_;clear Yc3
  refine Yc5.gq 76 rfl rfl _ (fun hc v hv => ex_move rfl (Yc5.f 2)) fun Yc6 Yc7 => ?_;clear Yc5
  refine Yc7.gq 76 rfl rfl (.int .i64 (x.v % n)) (fun hc v hv => ex_bin rfl (Yc7.v 80 hc) (Yc7.v 81 hc) (remD8 _ _ x.v n (gd8 hc).1 hn.1 (by omega) _)) fun Yc8 Yc9 => ?_;clear Yc7
  refine Yc9.gq 76 rfl rfl (.bool (!decide (x.n = (x.v % n)))) (fun hc v hv => ex_bin rfl (Yc9.v 78 hc) (Yc9.v 82 hc) (neqC _ _ _ _ _)) fun Yda Ydb => ?_;clear Yc9
  refine Ydb.gq 76 rfl rfl _ (fun hc v hv => ex_move rfl (Ydb.v 83 hc)) fun Ydc Ydd => ?_;clear Ydb
  refine Ydd.gq 84 rfl rfl _ (fun hc v hv => ex_fa rfl (Ydd.f 8) (fb4An _ _)) fun Yde Ydf => ?_;clear Ydd
  refine Ydf.gq 84 rfl rfl _ (fun hc v hv => ex_ld rfl (Ydf.v 85 hc) (ldE8 (cell8 (HP.cell 5 _ rfl) hv))) fun Ydg Ydh => ?_;clear Ydf
  refine Ydh.gq 84 rfl rfl _ (fun hc v hv => ex_lenE8 rfl rfl (Ydh.v 86 hc)) fun Ydi Ydj => ?_;clear Ydh
  refine Ydj.gq 84 rfl rfl (.bool (decide (0 < (x.s.D.length : Int)))) (fun hc v hv => ex_bin rfl (Ydj.v 87 hc) rfl (gtrC _ _ _ _ _)) fun Ydk Ydl => ?_;clear Ydj
  refine Ydl.gq 76 rfl rfl (.bool ((!decide (x.n = (x.v % n))) && (decide (0 < (x.s.D.length : Int))))) (fun hc v hv => ex_and rfl (Ydl.a 84 rfl) (Ydl.a 88 rfl) hc) fun Ydm Ydn => ?_;clear Ydl
  refine Ydn.q (.bool ((((decide (x.v < 0)) || (decide (4294967296 < x.v))) || (!(lgB9 c x.s.D x.c))) || ((!decide (x.n = (x.v % n))) && (decide (0 < (x.s.D.length : Int)))))) (fun v hv => ex_or rfl (Ydn.a 76 rfl) (Ydn.a 89 rfl) rfl) fun _ Ydo => ?_;clear Ydn
  have hz:=Ydo.z;have s2:=Ydo.a 2 rfl;have s3:=Ydo.a 3 rfl;have s4:=Ydo.a 4 rfl;have s7:=Ydo.a 7 rfl;have s90:=Ydo.a 90 rfl;clear Ydo;refine vq_nil (fun x11 hx11 => ?_);have ee : (((((decide (x.v < 0)) || (decide (4294967296 < x.v))) || (!(lgB9 c x.s.D x.c))) || ((!decide (x.n = (x.v % n))) && (decide (0 < (x.s.D.length : Int)))))) = rab9 c n x:=rfl;have hb8:=hbx.trans (hx11.mono hbx.size)
  go_upto_region 8 with fail
  cases eb : rab9 c n x
  rotate_left
  ·refine wp_cond_true ((ev s90 rfl).trans (by rw [ee,eb])) ?_
   go_upto_region 8 with fail
   refine WL ?_;have Ydp:=((((Rp.nil hz).cons s2).cons s3).cons s4).cons s7;clear hz s2 s3 s4 s7
   refine Ydp.t (.bool false) (ex_assign rfl rfl) fun _ Ydq => ?_;clear Ydp
   have hz:=Ydq.z;have s6:=Ydq.a 6 rfl;clear Ydq;refine WE ?_
   have HR : Hid (s.rc9 c n = false):=by show _ = _;unfold Sta.rc9;rw [show _ = false from e46,any_bad9 hxi eb];rfl
   go_wp2
   refine bodyPost_ret (results_tmp rfl _ _ _) rfl ⟨?_,hB.trans (hb8.mono (by omega))⟩;rw [getD_of s6,HR.out]
   rfl
  refine wp_cond_false ((ev s90 rfl).trans (by rw [ee,eb])) ?_;clear s90
  go_upto_region 5 with fail
  refine WL ?_;have Ydr:=((((Rp.nil hz).cons s2).cons s3).cons s4).cons s7;clear hz s2 s3 s4 s7
  refine Ydr.t _ (ex_move rfl (Ydr.f 7)) fun _ Yds => ?_;clear Ydr
  refine Yds.t (.int .i64 ((i + 1 : Nat) : Int)) (ex_bin rfl (Yds.f 52) rfl (addD8 _ _ _ 1 ((i + 1 : Nat) : Int) (by rw [IntKind.wrap_i64];omega) _)) fun _ Ydt => ?_;clear Yds
  refine Ydt.t _ (ex_assign rfl (Ydt.f 53)) fun _ Ydu => ?_;clear Ydt
  have hz:=Ydu.z;have s2:=Ydu.a 2 rfl;have s3:=Ydu.a 3 rfl;have s4:=Ydu.a 4 rfl;have s7:=Ydu.a 7 rfl;clear Ydu;refine WE ?_
  exact ⟨_,rfl,by omega,hz,s2,s3,s4,s7,hb8,fun k y hk hy => by
   by_cases e : k = i
   ·subst e;rw [hxi] at hy;cases hy;exact eb
   ·exact HJ.out.2 k y (by omega) hy⟩
 ·have d1 : decide ((i : Int) < (s.N.length : Int)) = false:=decide_eq_false (by omega)
  go_upto_region 4 with fail
  refine WL ?_;have Ydv:=((((Rp.nil hz).cons s2).cons s3).cons s4).cons s7;clear hz s2 s3 s4 s7
  refine Ydv.t _ (ex_move rfl (Ydv.f 7)) fun _ Ydw => ?_;clear Ydv
  refine Ydw.t _ (ex_fa rfl (Ydw.f 4) (faS11 _ _)) fun _ Ydx => ?_;clear Ydw
  refine Ydx.t _ (ex_ld rfl (Ydx.f 48) (ldN8 (cell8 (HS.cell 11 _ rfl) hbr))) fun _ Ydy => ?_;clear Ydx
  refine Ydy.t _ (ex_lenN8 rfl rfl (Ydy.f 49)) fun _ Ydz => ?_;clear Ydy
  refine Ydz.t (.bool false) (ex_bin rfl (Ydz.f 47) (Ydz.f 50) (lssD8 _ _ _ _ false d1 _)) fun _ Yd0 => ?_;clear Ydz
  have hz:=Yd0.z;have s51:=Yd0.a 51 rfl;clear Yd0;refine WE ?_
  go_upto_region 9 with fail
  refine wp_cond_false ((ev s51 rfl).trans rfl) ?_;clear s51 d1
  go_upto_region 9 with fail
  refine WL ?_;have Yd1:=Rp.nil hz;clear hz
  refine Yd1.t (.bool true) (ex_assign rfl rfl) fun _ Yd2 => ?_;clear Yd1
  have hz:=Yd2.z;have s6:=Yd2.a 6 rfl;clear Yd2;refine WE ?_
  have HR : Hid (s.rc9 c n = true):=by show _ = _;unfold Sta.rc9;rw [show _ = false from e46,any_ok9 (fun k x hk hx => HJ.out.2 k x (by omega) hx)];rfl
  go_wp2
  refine bodyPost_ret (results_tmp rfl _ _ _) rfl ⟨?_,hB.trans (hbr.mono (by omega))⟩;rw [getD_of s6,HR.out]
  rfl
theorem fa2Ak (q o : Nat) (w : World) : (Instr.fieldAt 105 (.pointer (some ⟨q,o,none⟩)) 2).run Tryz.prog w = .ok (.pointer (some ⟨q,o + 3,none⟩)) w:=by go_simp
theorem v_cond8 {x : Code} {R : Exit → Act → World → Prop} {T : Array Value} {w : World} {t : Nat} {b : Bool} (J : Array Value → World → Prop) (ht : T[t]? = some (gw true (.bool b))) (h1 : b = true → x.wp Tryz.prog (Exit.then (fun a w' => ∃ T',a = ⟨T',[]⟩∧J T' w') R) ⟨T,[]⟩ w) (h2 : b = false → J T w) (hk : ∀ T' w',J T' w' → R .normal ⟨T',[]⟩ w') : (Code.cond (.tmp t) x .skip).wp Tryz.prog R ⟨T,[]⟩ w:=by
 cases b with
 | true =>
  refine wp_cond_true (ev ht rfl) (Code.wp_mono (fun e a' w' h => ?_) (h1 rfl))
  cases e with
  | normal =>
   obtain ⟨T',rfl,hJ⟩:=h
   exact hk T' w' hJ
  | _ => exact h
 | false => exact wp_cond_false (ev ht rfl) (wp_skip (hk T w (h2 rfl)))
def Sta.mh9 (s : Sta) (c : Cg) : Bool:=(((((((((((decide (s.self < 0)) || (decide (c.nd ≤ s.self))) || (decide (s.view < 0))) || (decide (4294967296 < s.view))) || (decide (s.last < 0))) || (decide (s.view < s.last))) || (!(lgB9 c s.L s.commit))) || (!decide ((s.V.length : Int) = c.nd))) || (decide (s.idle < 0))) || (decide (c.P ≤ s.idle))) || (!(s.vtB9 c.nd)))
def Sta.mn9 (s : Sta) (c : Cg) : Bool:=((((!decide (s.last = s.view)) || (decide (0 < (((s.M.length : Int) + (s.B.length : Int)) + (s.N.length : Int))))) || ((decide (s.self = (s.view % c.nd))) && (!decide (s.idle = 0)))) || ((!(decide (s.self = (s.view % c.nd)))) && (decide (0 < (s.A.length : Int)))))
def Sta.mc9 (s : Sta) (c : Cg) : Bool:=((((decide (s.last = s.view)) || (decide (0 < ((s.A.length : Int) + (s.N.length : Int))))) || ((!(decide (s.self = (s.view % c.nd)))) && (decide (0 < (s.B.length : Int))))) || (decide (c.F ≤ (s.B.length : Int))))
def rkb9 (s : Sta) (x : Ak) : Bool:=decide (x.p < 1) || decide ((s.L.length : Int) < x.p)
def rbb9 (c : Cg) (s : Sta) (x : Bl) : Bool:=(decide (x.v < 0) || decide (s.view ≤ x.v)) || (!lgB9 c x.s.D x.c)
def Sta.mayB9 (s : Sta) (c : Cg) : Bool:=bif s.mh9 c then false else bif decide (s.st = 1) then (bif s.mn9 c then false else !(s.A.any (rkb9 s))) else bif decide (s.st = 2) then (bif s.mc9 c then false else !(s.B.any (rbb9 c s))) else bif decide (s.st = 3) then s.rc9 c c.nd else false
def Sta.rk9 (s : Sta) (c : Cg) : Int:=bif c.okB then (bif s.mayB9 c then 0 else 2) else 1
theorem ok_er9 {c : Cg} (h : c.er = 0) : c.okB = true:=by
 unfold Cg.er at h
 cases e : c.okB with
 | true => rfl
 | false => rw [e] at h;cases h
theorem mh9_facts {s : Sta} {c : Cg} (hok : c.okB = true) (h : s.mh9 c = false) : 0 ≤ s.self∧s.self < c.nd∧0 ≤ s.view∧s.view ≤ 4294967296∧0 ≤ s.last∧s.last ≤ s.view∧0 ≤ s.commit∧s.commit ≤ (s.L.length : Int)∧(s.V.length : Int) = c.nd∧0 ≤ s.idle∧s.idle < c.P:=by
 unfold Sta.mh9 at h
 simp only [lgB9,Bool.or_eq_false_iff,decide_eq_false_iff_not,Bool.not_eq_false',Bool.and_eq_true,decide_eq_true_eq] at h
 omega
theorem rmay9 (c : Cg) (s : Sta) (w : World) (hI : s.In w) (hF : s.Fit) (hok : c.okB = true) : Calls Tryz.prog 22 #[c.val,s.val] w fun e w' => e = .returned (.bool (s.mayB9 c))∧Below w.heap.size w w':=by
 go_enter Tryz.func22,Tryz.ntmps22
 go_upto_region 0 with fail
 refine WL ?_;refine vl_gen (fun T => T.size = 223∧T[0]? = some (gw true (c.val))∧T[1]? = some (gw true (s.val))) ⟨rfl,rfl,rfl⟩ (fun Z0 ⟨hz,s0,s1⟩ => ?_)
 obtain ⟨w1,hw1⟩ : ∃ y,y = w.alloc (.cells c.cs.toArray 23):=⟨_,rfl⟩
 have hb : Below w.heap.size w w1:=by rw [hw1];exact BR.alloc LR _
 have hs1 : w1.heap.size = w.heap.size + 1:=by rw [hw1];simp
 have HC : CB7 w1 (w.heap.size) c:=by rw [hw1];exact BX7.new _ _ _
 refine vw (.pointer (some ⟨w.heap.size,0,none⟩)) w1 WN (ex_box8 rfl (ev s0 rfl) (by rw [hw1];exact bxC7 _ _)) rfl hz (by decide) (fun Z1 zz kk s2x => ?_);replace s1:=ku s1;clear kk hz s0 hw1;have hz:=zz;have s2:=s2x;clear zz s2x;have hB:=hb;clear hb
 obtain ⟨w2,hw2⟩ : ∃ y,y = w1.alloc (.cells s.cs.toArray 33):=⟨_,rfl⟩
 have hb : Below w1.heap.size w1 w2:=by rw [hw2];exact BR.alloc LR _
 have hs2 : w2.heap.size = w.heap.size + 2:=by rw [hw2];simp;omega
 have HS : SB7 w2 (w.heap.size + 1) s:=by rw [hw2,← hs1];exact BX7.new _ _ _
 refine vw (.pointer (some ⟨w.heap.size + 1,0,none⟩)) w2 WN (ex_box8 rfl (ev s1 rfl) (by rw [hw2,← hs1];exact bxS7 _ _)) rfl hz (by decide) (fun Z2 zz kk s3x => ?_);replace s2:=ku s2;clear kk hz s1 hw2;have hz:=zz;have s3:=s3x;clear zz s3x;have hB:=hB.trans (hb.mono (by omega));have HC:=HC.bel hb;clear hb;have hv0 : Below w2.heap.size w2 w2:=BR;have HI:=hI.later hB;have f0:=hF.ll;have f1:=hF.al;have f2:=hF.ml;have f3:=hF.bl;have f4:=hF.nl;obtain ⟨hn1,hn2,hn3⟩:=Cg.nd_ok hok;have hP:=Cg.P_ok hok;have Ya:=((Rp.nil hz).cons s2).cons s3;clear hz s2 s3
 refine Ya.t (.bool false) (ex_assign rfl rfl) fun _ Yb => ?_;clear Ya
 have hz:=Yb.z;have s2:=Yb.a 2 rfl;have s3:=Yb.a 3 rfl;clear Yb;refine WE ?_
 go_upto_region 1 with fail
 refine WL ?_;have Yc:=((Rp.nil hz).cons s2).cons s3;clear hz s2 s3
 refine Yc.t _ (ex_ld rfl (Yc.f 2) (CB7.ld (HC.bel hv0))) fun _ Yd => ?_;clear Yc
 refine vcall true (.int .i64 c.nd) WN (fun hc => ex_call rfl (by simp only [LA,LB,LC,(Yd.f 10),evc] <;> rfl) rfl) (fun hc => rnodes9 c w2) rfl Yd.z (by decide) (Yd.kc fun Ye x1 hb Yf => ?_);clear Yd;have hx1:=hv0.trans (hb.mono hv0.size);clear hb
 refine Yf.t _ (ex_assign rfl (Yf.f 11)) fun _ Yg => ?_;clear Yf
 have hz:=Yg.z;have s2:=Yg.a 2 rfl;have s3:=Yg.a 3 rfl;have s5:=Yg.a 5 rfl;clear Yg;refine WE ?_
 have gv9 : ∀ {b : Bool},(b && ((((((((((decide (s.self < 0) || decide (c.nd ≤ s.self)) || decide (s.view < 0)) || decide (4294967296 < s.view)) || decide (s.last < 0)) || decide (s.view < s.last)) || (!lgB9 c s.L s.commit)) || (!decide ((s.V.length : Int) = c.nd))) || decide (s.idle < 0)) || decide (c.P ≤ s.idle)) == false)) = true → c.nd = (s.V.length : Int)∧0 < s.V.length:=fun h => by
  simp only [Bool.and_eq_true,beq_iff_eq,Bool.or_eq_false_iff,decide_eq_false_iff_not,Bool.not_eq_false',decide_eq_true_eq] at h
  omega
 go_upto_region 2 with fail
 refine WL ?_;have Yh:=(((Rp.nil hz).cons s2).cons s3).cons s5;clear hz s2 s3 s5
 refine Yh.t _ (ex_fa rfl (Yh.f 3) (faS0 _ _)) fun _ Yi => ?_;clear Yh
 refine Yi.t _ (ex_ld rfl (Yi.f 12) (ldI8 (cell8 (HS.cell 0 _ rfl) hx1))) fun _ Yj => ?_;clear Yi
 refine Yj.t (.bool (decide (s.self < 0))) (ex_bin rfl (Yj.f 13) rfl (lssC _ _ _ _ _)) fun _ Yk => ?_;clear Yj
 refine Yk.t _ (ex_move rfl (Yk.f 14)) fun _ Yl => ?_;clear Yk
 refine Yl.g 15 rfl rfl _ (fun hc => ex_fa rfl (Yl.f 3) (faS0 _ _)) fun Ym Yn => ?_;clear Yl
 refine Yn.g 15 rfl rfl _ (fun hc => ex_ld rfl (Yn.v 16 hc) (ldI8 (cell8 (HS.cell 0 _ rfl) hx1))) fun Yo Yp => ?_;clear Yn
 refine Yp.g 15 rfl rfl _ (fun hc => ex_move rfl (Yp.f 5)) fun Yq Yr => ?_;clear Yp
 refine Yr.g 15 rfl rfl (.bool (decide (c.nd ≤ s.self))) (fun hc => ex_bin rfl (Yr.v 17 hc) (Yr.v 18 hc) (geqC _ _ _ _ _)) fun Ys Yt => ?_;clear Yr
 refine Yt.t (.bool ((decide (s.self < 0)) || (decide (c.nd ≤ s.self)))) (ex_or rfl (Yt.a 15 rfl) (Yt.a 19 rfl) rfl) fun _ Yu => ?_;clear Yt
 refine Yu.t _ (ex_move rfl (Yu.f 20)) fun _ Yv => ?_;clear Yu
 refine Yv.g 21 rfl rfl _ (fun hc => ex_fa rfl (Yv.f 3) (faS2 _ _)) fun Yw Yx => ?_;clear Yv
 refine Yx.g 21 rfl rfl _ (fun hc => ex_ld rfl (Yx.v 22 hc) (ldI8 (cell8 (HS.cell 2 _ rfl) hx1))) fun Yy Yz => ?_;clear Yx
 refine Yz.g 21 rfl rfl (.bool (decide (s.view < 0))) (fun hc => ex_bin rfl (Yz.v 23 hc) rfl (lssC _ _ _ _ _)) fun Y0 Y1 => ?_;clear Yz
 refine Y1.t (.bool (((decide (s.self < 0)) || (decide (c.nd ≤ s.self))) || (decide (s.view < 0)))) (ex_or rfl (Y1.a 21 rfl) (Y1.a 24 rfl) rfl) fun _ Y2 => ?_;clear Y1
 refine Y2.t _ (ex_move rfl (Y2.f 25)) fun _ Y3 => ?_;clear Y2
 refine Y3.g 26 rfl rfl _ (fun hc => ex_fa rfl (Y3.f 3) (faS2 _ _)) fun Y4 Y5 => ?_;clear Y3
 refine Y5.g 26 rfl rfl _ (fun hc => ex_ld rfl (Y5.v 27 hc) (ldI8 (cell8 (HS.cell 2 _ rfl) hx1))) fun Y6 Y7 => ?_;clear Y5
 refine Y7.g 26 rfl rfl (.bool (decide (4294967296 < s.view))) (fun hc => ex_bin rfl (Y7.v 28 hc) rfl (gtrC _ _ _ _ _)) fun Y8 Y9 => ?_;clear Y7
 refine Y9.t (.bool ((((decide (s.self < 0)) || (decide (c.nd ≤ s.self))) || (decide (s.view < 0))) || (decide (4294967296 < s.view)))) (ex_or rfl (Y9.a 26 rfl) (Y9.a 29 rfl) rfl) fun _ Yba => ?_;clear Y9
 refine Yba.t _ (ex_move rfl (Yba.f 30)) fun _ Ybb => ?_;clear Yba
 refine Ybb.g 31 rfl rfl _ (fun hc => ex_fa rfl (Ybb.f 3) (faS3 _ _)) fun Ybc Ybd => ?_;clear Ybb
 refine Ybd.g 31 rfl rfl _ (fun hc => ex_ld rfl (Ybd.v 32 hc) (ldI8 (cell8 (HS.cell 3 _ rfl) hx1))) fun Ybe Ybf => ?_;clear Ybd
 refine Ybf.g 31 rfl rfl (.bool (decide (s.last < 0))) (fun hc => ex_bin rfl (Ybf.v 33 hc) rfl (lssC _ _ _ _ _)) fun Ybg Ybh => ?_;clear Ybf
 refine Ybh.t (.bool (((((decide (s.self < 0)) || (decide (c.nd ≤ s.self))) || (decide (s.view < 0))) || (decide (4294967296 < s.view))) || (decide (s.last < 0)))) (ex_or rfl (Ybh.a 31 rfl) (Ybh.a 34 rfl) rfl) fun _ Ybi => ?_;clear Ybh
 refine Ybi.t _ (ex_move rfl (Ybi.f 35)) fun _ Ybj => ?_;clear Ybi
 refine Ybj.g 36 rfl rfl _ (fun hc => ex_fa rfl (Ybj.f 3) (faS3 _ _)) fun Ybk Ybl => ?_;clear Ybj
 refine Ybl.g 36 rfl rfl _ (fun hc => ex_ld rfl (Ybl.v 37 hc) (ldI8 (cell8 (HS.cell 3 _ rfl) hx1))) fun Ybm Ybn => ?_;clear Ybl
 refine Ybn.g 36 rfl rfl _ (fun hc => ex_fa rfl (Ybn.f 3) (faS2 _ _)) fun Ybo Ybp => ?_;clear Ybn
 refine Ybp.g 36 rfl rfl _ (fun hc => ex_ld rfl (Ybp.v 39 hc) (ldI8 (cell8 (HS.cell 2 _ rfl) hx1))) fun Ybq Ybr => ?_;clear Ybp
 refine Ybr.g 36 rfl rfl (.bool (decide (s.view < s.last))) (fun hc => ex_bin rfl (Ybr.v 38 hc) (Ybr.v 40 hc) (gtrC _ _ _ _ _)) fun Ybs Ybt => ?_;clear Ybr
 refine Ybt.t (.bool ((((((decide (s.self < 0)) || (decide (c.nd ≤ s.self))) || (decide (s.view < 0))) || (decide (4294967296 < s.view))) || (decide (s.last < 0))) || (decide (s.view < s.last)))) (ex_or rfl (Ybt.a 36 rfl) (Ybt.a 41 rfl) rfl) fun _ Ybu => ?_;clear Ybt
 refine Ybu.t _ (ex_move rfl (Ybu.f 42)) fun _ Ybv => ?_;clear Ybu
 refine Ybv.g 43 rfl rfl _ (fun hc => ex_ld rfl (Ybv.f 2) (CB7.ld (HC.bel hx1))) fun Ybw Ybx => ?_;clear Ybv
 refine Ybx.g 43 rfl rfl _ (fun hc => ex_fa rfl (Ybx.f 3) (faS4 _ _)) fun Yby Ybz => ?_;clear Ybx
 refine Ybz.g 43 rfl rfl _ (fun hc => ex_ld rfl (Ybz.v 45 hc) (ldE8 (cell8 (HS.cell 4 _ rfl) hx1))) fun Yb0 Yb1 => ?_;clear Ybz
 refine Yb1.g 43 rfl rfl _ (fun hc => ex_fa rfl (Yb1.f 3) (faS5 _ _)) fun Yb2 Yb3 => ?_;clear Yb1
 refine Yb3.g 43 rfl rfl _ (fun hc => ex_ld rfl (Yb3.v 47 hc) (ldI8 (cell8 (HS.cell 5 _ rfl) hx1))) fun Yb4 Yb5 => ?_;clear Yb3
 refine vcall (true && (((((((decide (s.self < 0)) || (decide (c.nd ≤ s.self))) || (decide (s.view < 0))) || (decide (4294967296 < s.view))) || (decide (s.last < 0))) || (decide (s.view < s.last))) == false)) (.bool (lgB9 c s.L s.commit)) (want_g rfl rfl (Yb5.a 43 rfl)) (fun hc => ex_call rfl (by simp only [LA,LB,LC,(Yb5.v 44 hc),(Yb5.v 46 hc),(Yb5.v 48 hc),evc] <;> rfl) rfl) (fun hc => rlogged9 c s.L s.la s.lc s.commit x1 (HI.l.later hx1) hF.le) rfl Yb5.z (by decide) (Yb5.kc fun Yb6 x2 hb Yb7 => ?_);clear Yb5;have hx2:=hx1.trans (hb.mono hx1.size);clear hb
 refine Yb7.g 43 rfl rfl (.bool (!(lgB9 c s.L s.commit))) (fun hc => ex_not rfl (Yb7.v 49 hc)) fun Yb8 Yb9 => ?_;clear Yb7
 refine Yb9.t (.bool (((((((decide (s.self < 0)) || (decide (c.nd ≤ s.self))) || (decide (s.view < 0))) || (decide (4294967296 < s.view))) || (decide (s.last < 0))) || (decide (s.view < s.last))) || (!(lgB9 c s.L s.commit)))) (ex_or rfl (Yb9.a 43 rfl) (Yb9.a 50 rfl) rfl) fun _ Yca => ?_;clear Yb9
 refine Yca.t _ (ex_move rfl (Yca.f 51)) fun _ Ycb => ?_;clear Yca
 refine Ycb.g 52 rfl rfl _ (fun hc => ex_fa rfl (Ycb.f 3) (faS6 _ _)) fun Ycc Ycd => ?_;clear Ycb
 refine Ycd.g 52 rfl rfl _ (fun hc => ex_ld rfl (Ycd.v 53 hc) (ldV8 (cell8 (HS.cell 6 _ rfl) hx2))) fun Yce Ycf => ?_;clear Ycd
 refine Ycf.g 52 rfl rfl _ (fun hc => ex_lenV8 rfl rfl (Ycf.v 54 hc)) fun Ycg Ych => ?_;clear Ycf
 refine Ych.g 52 rfl rfl _ (fun hc => ex_move rfl (Ych.f 5)) fun Yci Ycj => ?_;clear Ych
 refine Ycj.g 52 rfl rfl (.bool (!decide ((s.V.length : Int) = c.nd))) (fun hc => ex_bin rfl (Ycj.v 55 hc) (Ycj.v 56 hc) (neqC _ _ _ _ _)) fun Yck Ycl => ?_;clear Ycj
 refine Ycl.t (.bool ((((((((decide (s.self < 0)) || (decide (c.nd ≤ s.self))) || (decide (s.view < 0))) || (decide (4294967296 < s.view))) || (decide (s.last < 0))) || (decide (s.view < s.last))) || (!(lgB9 c s.L s.commit))) || (!decide ((s.V.length : Int) = c.nd)))) (ex_or rfl (Ycl.a 52 rfl) (Ycl.a 57 rfl) rfl) fun _ Ycm => ?_;clear Ycl
 refine Ycm.t _ (ex_move rfl (Ycm.f 58)) fun _ Ycn => ?_;clear Ycm
 refine Ycn.g 59 rfl rfl _ (fun hc => ex_fa rfl (Ycn.f 3) (faS7 _ _)) fun Yco Ycp => ?_;clear Ycn
 refine Ycp.g 59 rfl rfl _ (fun hc => ex_ld rfl (Ycp.v 60 hc) (ldI8 (cell8 (HS.cell 7 _ rfl) hx2))) fun Ycq Ycr => ?_;clear Ycp
 refine Ycr.g 59 rfl rfl (.bool (decide (s.idle < 0))) (fun hc => ex_bin rfl (Ycr.v 61 hc) rfl (lssC _ _ _ _ _)) fun Ycs Yct => ?_;clear Ycr
 refine Yct.t (.bool (((((((((decide (s.self < 0)) || (decide (c.nd ≤ s.self))) || (decide (s.view < 0))) || (decide (4294967296 < s.view))) || (decide (s.last < 0))) || (decide (s.view < s.last))) || (!(lgB9 c s.L s.commit))) || (!decide ((s.V.length : Int) = c.nd))) || (decide (s.idle < 0)))) (ex_or rfl (Yct.a 59 rfl) (Yct.a 62 rfl) rfl) fun _ Ycu => ?_;clear Yct
 refine Ycu.t _ (ex_move rfl (Ycu.f 63)) fun _ Ycv => ?_;clear Ycu
 refine Ycv.g 64 rfl rfl _ (fun hc => ex_fa rfl (Ycv.f 3) (faS7 _ _)) fun Ycw Ycx => ?_;clear Ycv
 refine Ycx.g 64 rfl rfl _ (fun hc => ex_ld rfl (Ycx.v 65 hc) (ldI8 (cell8 (HS.cell 7 _ rfl) hx2))) fun Ycy Ycz => ?_;clear Ycx
 refine Ycz.g 64 rfl rfl _ (fun hc => ex_fa rfl (Ycz.f 2) (faC2 _ _)) fun Yc0 Yc1 => ?_;clear Ycz
 refine Yc1.g 64 rfl rfl _ (fun hc => ex_ld rfl (Yc1.v 67 hc) (ldI8 (cell8 (HC.cell 2 _ rfl) hx2))) fun Yc2 Yc3 => ?_;clear Yc1
 refine Yc3.g 64 rfl rfl (.bool (decide (c.P ≤ s.idle))) (fun hc => ex_bin rfl (Yc3.v 66 hc) (Yc3.v 68 hc) (geqC _ _ _ _ _)) fun Yc4 Yc5 => ?_;clear Yc3
 refine Yc5.t (.bool ((((((((((decide (s.self < 0)) || (decide (c.nd ≤ s.self))) || (decide (s.view < 0))) || (decide (4294967296 < s.view))) || (decide (s.last < 0))) || (decide (s.view < s.last))) || (!(lgB9 c s.L s.commit))) || (!decide ((s.V.length : Int) = c.nd))) || (decide (s.idle < 0))) || (decide (c.P ≤ s.idle)))) (ex_or rfl (Yc5.a 64 rfl) (Yc5.a 69 rfl) rfl) fun _ Yc6 => ?_;clear Yc5
 refine Yc6.t _ (ex_move rfl (Yc6.f 70)) fun _ Yc7 => ?_;clear Yc6
 refine Yc7.g 71 rfl rfl _ (fun hc => ex_ld rfl (Yc7.f 3) (SB7.ld (HS.bel hx2))) fun Yc8 Yc9 => ?_;clear Yc7
 refine Yc9.g 71 rfl rfl _ (fun hc => ex_move rfl (Yc9.f 5)) fun Yda Ydb => ?_;clear Yc9
 refine vcall (true && (((((((((((decide (s.self < 0)) || (decide (c.nd ≤ s.self))) || (decide (s.view < 0))) || (decide (4294967296 < s.view))) || (decide (s.last < 0))) || (decide (s.view < s.last))) || (!(lgB9 c s.L s.commit))) || (!decide ((s.V.length : Int) = c.nd))) || (decide (s.idle < 0))) || (decide (c.P ≤ s.idle))) == false)) (.bool (s.vtB9 c.nd)) (want_g rfl rfl (Ydb.a 71 rfl)) (fun hc => ex_call rfl (by simp only [LA,LB,LC,(Ydb.v 72 hc),(Ydb.v 73 hc),evc] <;> rfl) rfl) (fun hc => rvotes9 s c.nd x2 (HI.later hx2) hF (gv9 hc).1 (gv9 hc).2) rfl Ydb.z (by decide) (Ydb.kc fun Ydc x3 hb Ydd => ?_);clear Ydb;have hx3:=hx2.trans (hb.mono hx2.size);clear hb
 refine Ydd.g 71 rfl rfl (.bool (!(s.vtB9 c.nd))) (fun hc => ex_not rfl (Ydd.v 74 hc)) fun Yde Ydf => ?_;clear Ydd
 refine Ydf.t (.bool (((((((((((decide (s.self < 0)) || (decide (c.nd ≤ s.self))) || (decide (s.view < 0))) || (decide (4294967296 < s.view))) || (decide (s.last < 0))) || (decide (s.view < s.last))) || (!(lgB9 c s.L s.commit))) || (!decide ((s.V.length : Int) = c.nd))) || (decide (s.idle < 0))) || (decide (c.P ≤ s.idle))) || (!(s.vtB9 c.nd)))) (ex_or rfl (Ydf.a 71 rfl) (Ydf.a 75 rfl) rfl) fun _ Ydg => ?_;clear Ydf
 have hz:=Ydg.z;have s2:=Ydg.a 2 rfl;have s3:=Ydg.a 3 rfl;have s5:=Ydg.a 5 rfl;have s76:=Ydg.a 76 rfl;clear Ydg;refine WE ?_;have hB:=hB.trans (hx3.mono (by omega));have HS:=HS.bel hx3;have HC:=HC.bel hx3;have HI:=HI.later hx3;have hz2:=hx3.size;have hv3 : Below x3.heap.size x3 x3:=BR;have hzw:=hB.size
 go_upto_region 3 with fail
 cases e76 : s.mh9 c
 rotate_left
 ·refine wp_cond_true ((ev s76 rfl).trans (congrArg Value.bool e76)) ?_
  go_upto_region 3 with fail
  refine WL ?_;have Ydh:=(((Rp.nil hz).cons s2).cons s3).cons s5;clear hz s2 s3 s5
  refine Ydh.t (.bool false) (ex_assign rfl rfl) fun _ Ydi => ?_;clear Ydh
  have hz:=Ydi.z;have s4:=Ydi.a 4 rfl;clear Ydi;refine WE ?_
  go_wp2
  refine bodyPost_ret (results_tmp rfl _ _ _) rfl ⟨?_,hB.trans (hv3.mono (by omega))⟩;rw [getD_of s4]
  unfold Sta.mayB9
  rw [e76]
  rfl
 refine wp_cond_false ((ev s76 rfl).trans (congrArg Value.bool e76)) ?_;clear s76;have MF:=mh9_facts hok e76
 go_upto_region 4 with fail
 refine vq_start (C:=fun v => Below x3.heap.size x3 v) (by kernel_rfl) (by kernel_rfl) hv3.drew ?_;have Ydj:=(((Rp.nil hz).cons s2).cons s3).cons s5;clear hz s2 s3 s5
 refine Ydj.q _ (fun v hv => ex_fa rfl (Ydj.f 3) (faS0 _ _)) fun _ Ydk => ?_;clear Ydj
 refine Ydk.q _ (fun v hv => ex_ld rfl (Ydk.f 77) (ldI8 (cell8 (HS.cell 0 _ rfl) hv))) fun _ Ydl => ?_;clear Ydk
 refine Ydl.q _ (fun v hv => ex_fa rfl (Ydl.f 3) (faS2 _ _)) fun _ Ydm => ?_;clear Ydl
 refine Ydm.q _ (fun v hv => ex_ld rfl (Ydm.f 79) (ldI8 (cell8 (HS.cell 2 _ rfl) hv))) fun _ Ydn => ?_;clear Ydm
 refine Ydn.q _ (fun v hv => ex_move rfl (Ydn.f 5)) fun _ Ydo => ?_;clear Ydn
 refine Ydo.q (.int .i64 (s.view % c.nd)) (fun v hv => ex_bin rfl (Ydo.f 80) (Ydo.f 81) (remD8 _ _ s.view c.nd (by omega) (by omega) (by omega) _)) fun _ Ydp => ?_;clear Ydo
 refine Ydp.q (.bool (decide (s.self = (s.view % c.nd)))) (fun v hv => ex_bin rfl (Ydp.f 78) (Ydp.f 82) (eqlC _ _ _ _ _)) fun _ Ydq => ?_;clear Ydp
 refine Ydq.q _ (fun v hv => ex_assign rfl (Ydq.f 83)) fun _ Ydr => ?_;clear Ydq
 have hz:=Ydr.z;have s2:=Ydr.a 2 rfl;have s3:=Ydr.a 3 rfl;have s5:=Ydr.a 5 rfl;have s6:=Ydr.a 6 rfl;clear Ydr;refine vq_nil (fun x4 hx4 => ?_)
 go_upto_region 5 with fail
 refine WL ?_;have Yds:=((((Rp.nil hz).cons s2).cons s3).cons s5).cons s6;clear hz s2 s3 s5 s6
 refine Yds.t _ (ex_fa rfl (Yds.f 3) (faS1 _ _)) fun _ Ydt => ?_;clear Yds
 refine Ydt.t _ (ex_ld rfl (Ydt.f 84) (ldT8 (cell8 (HS.cell 1 _ rfl) hx4))) fun _ Ydu => ?_;clear Ydt
 have hz:=Ydu.z;have s2:=Ydu.a 2 rfl;have s3:=Ydu.a 3 rfl;have s5:=Ydu.a 5 rfl;have s6:=Ydu.a 6 rfl;have s85:=Ydu.a 85 rfl;clear Ydu;refine WE ?_
 go_upto_region 6 with fail
 refine WL ?_;have Ydv:=(((((Rp.nil hz).cons s2).cons s3).cons s5).cons s6).cons s85;clear hz s2 s3 s5 s6 s85
 refine Ydv.t (.bool (decide (s.st = 1))) (ex_bin rfl (Ydv.f 85) rfl (eqlC _ _ _ _ _)) fun _ Ydw => ?_;clear Ydv
 refine Ydw.t _ (ex_assign rfl (Ydw.f 87)) fun _ Ydx => ?_;clear Ydw
 have hz:=Ydx.z;have s2:=Ydx.a 2 rfl;have s3:=Ydx.a 3 rfl;have s5:=Ydx.a 5 rfl;have s6:=Ydx.a 6 rfl;have s85:=Ydx.a 85 rfl;have s86:=Ydx.a 86 rfl;clear Ydx;refine WE ?_
 go_upto_region 7 with fail
 cases e1s : decide (s.st = 1)
 rotate_left
 ·refine wp_cond_true ((ev s86 rfl).trans (congrArg Value.bool e1s)) ?_
  clear s86
  go_upto_region 7 with fail
  refine WL ?_;have Ydy:=(((((Rp.nil hz).cons s2).cons s3).cons s5).cons s6).cons s85;clear hz s2 s3 s5 s6 s85
  refine Ydy.t _ (ex_fa rfl (Ydy.f 3) (faS3 _ _)) fun _ Ydz => ?_;clear Ydy
  refine Ydz.t _ (ex_ld rfl (Ydz.f 88) (ldI8 (cell8 (HS.cell 3 _ rfl) hx4))) fun _ Yd0 => ?_;clear Ydz
  refine Yd0.t _ (ex_fa rfl (Yd0.f 3) (faS2 _ _)) fun _ Yd1 => ?_;clear Yd0
  refine Yd1.t _ (ex_ld rfl (Yd1.f 90) (ldI8 (cell8 (HS.cell 2 _ rfl) hx4))) fun _ Yd2 => ?_;clear Yd1
  refine Yd2.t (.bool (!decide (s.last = s.view))) (ex_bin rfl (Yd2.f 89) (Yd2.f 91) (neqC _ _ _ _ _)) fun _ Yd3 => ?_;clear Yd2
  refine Yd3.t _ (ex_move rfl (Yd3.f 92)) fun _ Yd4 => ?_;clear Yd3
  refine Yd4.g 93 rfl rfl _ (fun hc => ex_fa rfl (Yd4.f 3) (faS9 _ _)) fun Yd5 Yd6 => ?_;clear Yd4
  refine Yd6.g 93 rfl rfl _ (fun hc => ex_ld rfl (Yd6.v 94 hc) (ldM8 (cell8 (HS.cell 9 _ rfl) hx4))) fun Yd7 Yd8 => ?_;clear Yd6
  refine Yd8.g 93 rfl rfl _ (fun hc => ex_lenM8 rfl rfl (Yd8.v 95 hc)) fun Yd9 Yea => ?_;clear Yd8
  refine Yea.g 93 rfl rfl _ (fun hc => ex_fa rfl (Yea.f 3) (faS10 _ _)) fun Yeb Yec => ?_;clear Yea
  refine Yec.g 93 rfl rfl _ (fun hc => ex_ld rfl (Yec.v 97 hc) (ldB8 (cell8 (HS.cell 10 _ rfl) hx4))) fun Yed Yee => ?_;clear Yec
  refine Yee.g 93 rfl rfl _ (fun hc => ex_lenB8 rfl rfl (Yee.v 98 hc)) fun Yef Yeg => ?_;clear Yee
  refine Yeg.g 93 rfl rfl (.int .i64 ((s.M.length : Int) + (s.B.length : Int))) (fun hc => ex_bin rfl (Yeg.v 96 hc) (Yeg.v 99 hc) (addD8 _ _ (s.M.length : Int) (s.B.length : Int) ((s.M.length : Int) + (s.B.length : Int)) (by rw [IntKind.wrap_i64];omega) _)) fun Yeh Yei => ?_;clear Yeg
  refine Yei.g 93 rfl rfl _ (fun hc => ex_fa rfl (Yei.f 3) (faS11 _ _)) fun Yej Yek => ?_;clear Yei
  refine Yek.g 93 rfl rfl _ (fun hc => ex_ld rfl (Yek.v 101 hc) (ldN8 (cell8 (HS.cell 11 _ rfl) hx4))) fun Yel Yem => ?_;clear Yek
  refine Yem.g 93 rfl rfl _ (fun hc => ex_lenN8 rfl rfl (Yem.v 102 hc)) fun Yen Yeo => ?_;clear Yem
  refine Yeo.g 93 rfl rfl (.int .i64 (((s.M.length : Int) + (s.B.length : Int)) + (s.N.length : Int))) (fun hc => ex_bin rfl (Yeo.v 100 hc) (Yeo.v 103 hc) (addD8 _ _ ((s.M.length : Int) + (s.B.length : Int)) (s.N.length : Int) (((s.M.length : Int) + (s.B.length : Int)) + (s.N.length : Int)) (by rw [IntKind.wrap_i64];omega) _)) fun Yep Yeq => ?_;clear Yeo
  refine Yeq.g 93 rfl rfl (.bool (decide (0 < (((s.M.length : Int) + (s.B.length : Int)) + (s.N.length : Int))))) (fun hc => ex_bin rfl (Yeq.v 104 hc) rfl (gtrC _ _ _ _ _)) fun Yer Yes => ?_;clear Yeq
  refine Yes.t (.bool ((!decide (s.last = s.view)) || (decide (0 < (((s.M.length : Int) + (s.B.length : Int)) + (s.N.length : Int)))))) (ex_or rfl (Yes.a 93 rfl) (Yes.a 105 rfl) rfl) fun _ Yet => ?_;clear Yes
  refine Yet.t _ (ex_move rfl (Yet.f 106)) fun _ Yeu => ?_;clear Yet
  refine Yeu.g 107 rfl rfl _ (fun hc => ex_move rfl (Yeu.f 6)) fun Yev Yew => ?_;clear Yeu
  refine Yew.g 107 rfl rfl _ (fun hc => ex_move rfl (Yew.v 108 hc)) fun Yex Yey => ?_;clear Yew
  refine Yey.g 109 rfl rfl _ (fun hc => ex_fa rfl (Yey.f 3) (faS7 _ _)) fun Yez Ye0 => ?_;clear Yey
  refine Ye0.g 109 rfl rfl _ (fun hc => ex_ld rfl (Ye0.v 110 hc) (ldI8 (cell8 (HS.cell 7 _ rfl) hx4))) fun Ye1 Ye2 => ?_;clear Ye0
  refine Ye2.g 109 rfl rfl (.bool (!decide (s.idle = 0))) (fun hc => ex_bin rfl (Ye2.v 111 hc) rfl (neqC _ _ _ _ _)) fun Ye3 Ye4 => ?_;clear Ye2
  refine Ye4.g 107 rfl rfl (.bool ((decide (s.self = (s.view % c.nd))) && (!decide (s.idle = 0)))) (fun hc => ex_and rfl (Ye4.a 109 rfl) (Ye4.a 112 rfl) hc) fun Ye5 Ye6 => ?_;clear Ye4
  refine Ye6.t (.bool (((!decide (s.last = s.view)) || (decide (0 < (((s.M.length : Int) + (s.B.length : Int)) + (s.N.length : Int))))) || ((decide (s.self = (s.view % c.nd))) && (!decide (s.idle = 0))))) (ex_or rfl (Ye6.a 107 rfl) (Ye6.a 113 rfl) rfl) fun _ Ye7 => ?_;clear Ye6
  refine Ye7.t _ (ex_move rfl (Ye7.f 114)) fun _ Ye8 => ?_;clear Ye7
  refine Ye8.g 115 rfl rfl _ (fun hc => ex_move rfl (Ye8.f 6)) fun Ye9 Yfa => ?_;clear Ye8
  refine Yfa.g 115 rfl rfl (.bool (!(decide (s.self = (s.view % c.nd))))) (fun hc => ex_not rfl (Yfa.v 116 hc)) fun Yfb Yfc => ?_;clear Yfa
  refine Yfc.g 115 rfl rfl _ (fun hc => ex_move rfl (Yfc.v 117 hc)) fun Yfd Yfe => ?_;clear Yfc
  refine Yfe.g 118 rfl rfl _ (fun hc => ex_fa rfl (Yfe.f 3) (faS8 _ _)) fun Yff Yfg => ?_;clear Yfe
  refine Yfg.g 118 rfl rfl _ (fun hc => ex_ld rfl (Yfg.v 119 hc) (ldK8 (cell8 (HS.cell 8 _ rfl) hx4))) fun Yfh Yfi => ?_;clear Yfg
  refine Yfi.g 118 rfl rfl _ (fun hc => ex_lenK8 rfl rfl (Yfi.v 120 hc)) fun Yfj Yfk => ?_;clear Yfi
  refine Yfk.g 118 rfl rfl (.bool (decide (0 < (s.A.length : Int)))) (fun hc => ex_bin rfl (Yfk.v 121 hc) rfl (gtrC _ _ _ _ _)) fun Yfl Yfm => ?_;clear Yfk
  refine Yfm.g 115 rfl rfl (.bool ((!(decide (s.self = (s.view % c.nd)))) && (decide (0 < (s.A.length : Int))))) (fun hc => ex_and rfl (Yfm.a 118 rfl) (Yfm.a 122 rfl) hc) fun Yfn Yfo => ?_;clear Yfm
  refine Yfo.t (.bool ((((!decide (s.last = s.view)) || (decide (0 < (((s.M.length : Int) + (s.B.length : Int)) + (s.N.length : Int))))) || ((decide (s.self = (s.view % c.nd))) && (!decide (s.idle = 0)))) || ((!(decide (s.self = (s.view % c.nd)))) && (decide (0 < (s.A.length : Int)))))) (ex_or rfl (Yfo.a 115 rfl) (Yfo.a 123 rfl) rfl) fun _ Yfp => ?_;clear Yfo
  have hz:=Yfp.z;have s2:=Yfp.a 2 rfl;have s3:=Yfp.a 3 rfl;have s124:=Yfp.a 124 rfl;clear Yfp;refine WE ?_
  go_upto_region 8 with fail
  cases eg : s.mn9 c
  rotate_left
  ·refine wp_cond_true ((ev s124 rfl).trans (congrArg Value.bool eg)) ?_
   go_upto_region 8 with fail
   refine WL ?_;have Yfq:=((Rp.nil hz).cons s2).cons s3;clear hz s2 s3
   refine Yfq.t (.bool false) (ex_assign rfl rfl) fun _ Yfr => ?_;clear Yfq
   have hz:=Yfr.z;have s4:=Yfr.a 4 rfl;clear Yfr;refine WE ?_
   go_wp2
   refine bodyPost_ret (results_tmp rfl _ _ _) rfl ⟨?_,hB.trans (hx4.mono (by omega))⟩;rw [getD_of s4]
   unfold Sta.mayB9
   rw [e76,e1s,eg]
   rfl
  refine wp_cond_false ((ev s124 rfl).trans (congrArg Value.bool eg)) ?_;clear s124
  go_upto_region 9 with fail
  refine WL ?_;have Yfs:=((Rp.nil hz).cons s2).cons s3;clear hz s2 s3
  refine Yfs.t (.int .i64 0) (ex_assign rfl rfl) fun _ Yft => ?_;clear Yfs
  have hz:=Yft.z;have s2:=Yft.a 2 rfl;have s3:=Yft.a 3 rfl;have s7:=Yft.a 7 rfl;clear Yft;refine WE ?_;have hsv : _ = some (gw true (.int .i64 ((0 : Nat) : Int))):=s7
  go_upto_region 10 with fail
  refine v_loop 7 s.A.length (fun i T wr => T.size = 223∧T[2]? = some (gw true (.pointer (some ⟨w.heap.size,0,none⟩)))∧T[3]? = some (gw true (.pointer (some ⟨w.heap.size + 1,0,none⟩)))∧T[7]? = some (gw true (.int .i64 (i : Int)))∧Hid (Below x3.heap.size x3 wr∧∀ k x,k < i → s.A[k]? = some x → rkb9 s x = false)) (fun i T w h => h.2.2.2.1) ⟨hz,s2,s3,hsv,hx4,fun k x hk => absurd hk (Nat.not_lt_zero _)⟩ ?_;clear hz s2 s3 s7 hsv;intro i R0 wr hi hh;obtain ⟨hz,s2,s3,s7,HJ⟩:=hh;have hbr:=HJ.out.1;have hzr:=hbr.size
  by_cases hit : i < s.A.length
  ·have d1 : decide ((i : Int) < (s.A.length : Int)) = true:=decide_eq_true (by omega)
   go_upto_region 10 with fail
   refine WL ?_;have Yfu:=(((Rp.nil hz).cons s2).cons s3).cons s7;clear hz s2 s3 s7
   refine Yfu.t _ (ex_move rfl (Yfu.f 7)) fun _ Yfv => ?_;clear Yfu
   refine Yfv.t _ (ex_fa rfl (Yfv.f 3) (faS8 _ _)) fun _ Yfw => ?_;clear Yfv
   refine Yfw.t _ (ex_ld rfl (Yfw.f 126) (ldK8 (cell8 (HS.cell 8 _ rfl) hbr))) fun _ Yfx => ?_;clear Yfw
   refine Yfx.t _ (ex_lenK8 rfl rfl (Yfx.f 127)) fun _ Yfy => ?_;clear Yfx
   refine Yfy.t (.bool true) (ex_bin rfl (Yfy.f 125) (Yfy.f 128) (lssD8 _ _ _ _ true d1 _)) fun _ Yfz => ?_;clear Yfy
   have hz:=Yfz.z;have s2:=Yfz.a 2 rfl;have s3:=Yfz.a 3 rfl;have s7:=Yfz.a 7 rfl;have s129:=Yfz.a 129 rfl;clear Yfz;refine WE ?_
   go_upto_region 12 with fail
   refine wp_cond_true ((ev s129 rfl).trans rfl) ?_;clear s129 d1
   obtain ⟨x,hxi⟩ : ∃ x,s.A[i]? = some x:=⟨_,List.getElem?_eq_getElem hit⟩
   have hmem:=List.mem_of_getElem? hxi;obtain ⟨q,o,hqa,hq,hl⟩:=(HI.a.later hbr).place (by intro e;rw [e] at hit;simp at hit);have e1 : wr.cell? ⟨q,o + i * 4 + 3,none⟩ = some (.int .i64 x.p):=hl i x hxi 3 _ rfl
   go_upto_region 12 with fail
   refine vq_start (C:=fun v => Below wr.heap.size wr v) (by kernel_rfl) (by kernel_rfl) BR.drew ?_;have Yf0:=(((Rp.nil hz).cons s2).cons s3).cons s7;clear hz s2 s3 s7
   refine Yf0.q _ (fun v hv => ex_fa rfl (Yf0.f 3) (faS8 _ _)) fun _ Yf1 => ?_;clear Yf0
   refine Yf1.q _ (fun v hv => ex_ld rfl (Yf1.f 132) (ldK8 (cell8 ((HS.bel hbr).cell 8 _ rfl) hv))) fun _ Yf2 => ?_;clear Yf1
   refine Yf2.q _ (fun v hv => ex_move rfl (Yf2.f 7)) fun _ Yf3 => ?_;clear Yf2
   refine Yf3.q (.pointer (some ⟨q,o + i * 4,none⟩)) (fun v hv => ex_ix rfl (Yf3.f 133) (Yf3.f 134) (by rw [hqa];exact ix9Ak q o s.A.length s.kc i hit _)) fun _ Yf4 => ?_;clear Yf3
   refine Yf4.q _ (fun v hv => ex_fa rfl (Yf4.f 135) (fa2Ak _ _ _)) fun _ Yf5 => ?_;clear Yf4
   refine Yf5.q _ (fun v hv => ex_ld rfl (Yf5.f 136) (ldI8 (cell8 e1 hv))) fun _ Yf6 => ?_;clear Yf5
   refine Yf6.q (.bool (decide (x.p < 1))) (fun v hv => ex_bin rfl (Yf6.f 137) rfl (lssC _ _ _ _ _)) fun _ Yf7 => ?_;clear Yf6
   refine Yf7.q _ (fun v hv => ex_move rfl (Yf7.f 138)) fun _ Yf8 => ?_;clear Yf7
   refine Yf8.gq 139 rfl rfl _ (fun hc v hv => ex_fa rfl (Yf8.f 3) (faS8 _ _)) fun Yf9 Yga => ?_;clear Yf8
   refine Yga.gq 139 rfl rfl _ (fun hc v hv => ex_ld rfl (Yga.v 140 hc) (ldK8 (cell8 ((HS.bel hbr).cell 8 _ rfl) hv))) fun Ygb Ygc => ?_;clear Yga
   refine Ygc.gq 139 rfl rfl _ (fun hc v hv => ex_move rfl (Ygc.f 7)) fun Ygd Yge => ?_;clear Ygc
   refine Yge.gq 139 rfl rfl (.pointer (some ⟨q,o + i * 4,none⟩)) (fun hc v hv => ex_ix rfl (Yge.v 141 hc) (Yge.v 142 hc) (by rw [hqa];exact ix9Ak q o s.A.length s.kc i hit _)) fun Ygf Ygg => ?_;clear Yge
   refine Ygg.gq 139 rfl rfl _ (fun hc v hv => ex_fa rfl (Ygg.v 143 hc) (fa2Ak _ _ _)) fun Ygh Ygi => ?_;clear Ygg
   refine Ygi.gq 139 rfl rfl _ (fun hc v hv => ex_ld rfl (Ygi.v 144 hc) (ldI8 (cell8 e1 hv))) fun Ygj Ygk => ?_;clear Ygi
   refine Ygk.gq 139 rfl rfl _ (fun hc v hv => ex_fa rfl (Ygk.f 3) (faS4 _ _)) fun Ygl Ygm => ?_;clear Ygk
   refine Ygm.gq 139 rfl rfl _ (fun hc v hv => ex_ld rfl (Ygm.v 146 hc) (ldE8 (cell8 ((HS.bel hbr).cell 4 _ rfl) hv))) fun Ygn Ygo => ?_;clear Ygm
   refine Ygo.gq 139 rfl rfl _ (fun hc v hv => ex_lenE8 rfl rfl (Ygo.v 147 hc)) fun Ygp Ygq => ?_;clear Ygo
   refine Ygq.gq 139 rfl rfl (.bool (decide ((s.L.length : Int) < x.p))) (fun hc v hv => ex_bin rfl (Ygq.v 145 hc) (Ygq.v 148 hc) (gtrC _ _ _ _ _)) fun Ygr Ygs => ?_;clear Ygq
   refine Ygs.q (.bool ((decide (x.p < 1)) || (decide ((s.L.length : Int) < x.p)))) (fun v hv => ex_or rfl (Ygs.a 139 rfl) (Ygs.a 149 rfl) rfl) fun _ Ygt => ?_;clear Ygs
   have hz:=Ygt.z;have s2:=Ygt.a 2 rfl;have s3:=Ygt.a 3 rfl;have s7:=Ygt.a 7 rfl;have s150:=Ygt.a 150 rfl;clear Ygt;refine vq_nil (fun x11 hx11 => ?_);have hb8:=hbr.trans (hx11.mono hzr)
   go_upto_region 13 with fail
   cases eb : rkb9 s x
   rotate_left
   ·refine wp_cond_true ((ev s150 rfl).trans (congrArg Value.bool eb)) ?_
    go_upto_region 13 with fail
    refine WL ?_;have Ygu:=(((Rp.nil hz).cons s2).cons s3).cons s7;clear hz s2 s3 s7
    refine Ygu.t (.bool false) (ex_assign rfl rfl) fun _ Ygv => ?_;clear Ygu
    have hz:=Ygv.z;have s4:=Ygv.a 4 rfl;clear Ygv;refine WE ?_
    go_wp2
    refine bodyPost_ret (results_tmp rfl _ _ _) rfl ⟨?_,hB.trans (hb8.mono (by omega))⟩;rw [getD_of s4]
    unfold Sta.mayB9
    rw [e76,e1s,eg,any_bad9 hxi eb]
    rfl
   refine wp_cond_false ((ev s150 rfl).trans (congrArg Value.bool eb)) ?_;clear s150
   go_upto_region 11 with fail
   refine WL ?_;have Ygw:=(((Rp.nil hz).cons s2).cons s3).cons s7;clear hz s2 s3 s7
   refine Ygw.t _ (ex_move rfl (Ygw.f 7)) fun _ Ygx => ?_;clear Ygw
   refine Ygx.t (.int .i64 ((i + 1 : Nat) : Int)) (ex_bin rfl (Ygx.f 130) rfl (addD8 _ _ _ 1 ((i + 1 : Nat) : Int) (by rw [IntKind.wrap_i64];omega) _)) fun _ Ygy => ?_;clear Ygx
   refine Ygy.t _ (ex_assign rfl (Ygy.f 131)) fun _ Ygz => ?_;clear Ygy
   have hz:=Ygz.z;have s2:=Ygz.a 2 rfl;have s3:=Ygz.a 3 rfl;have s7:=Ygz.a 7 rfl;clear Ygz;refine WE ?_
   exact ⟨_,rfl,by omega,hz,s2,s3,s7,hb8,fun k y hk hy => by
    by_cases e : k = i
    ·subst e;rw [hxi] at hy;cases hy;exact eb
    ·exact HJ.out.2 k y (by omega) hy⟩
  ·have d1 : decide ((i : Int) < (s.A.length : Int)) = false:=decide_eq_false (by omega)
   go_upto_region 10 with fail
   refine WL ?_;have Yg0:=(((Rp.nil hz).cons s2).cons s3).cons s7;clear hz s2 s3 s7
   refine Yg0.t _ (ex_move rfl (Yg0.f 7)) fun _ Yg1 => ?_;clear Yg0
   refine Yg1.t _ (ex_fa rfl (Yg1.f 3) (faS8 _ _)) fun _ Yg2 => ?_;clear Yg1
   refine Yg2.t _ (ex_ld rfl (Yg2.f 126) (ldK8 (cell8 (HS.cell 8 _ rfl) hbr))) fun _ Yg3 => ?_;clear Yg2
   refine Yg3.t _ (ex_lenK8 rfl rfl (Yg3.f 127)) fun _ Yg4 => ?_;clear Yg3
   refine Yg4.t (.bool false) (ex_bin rfl (Yg4.f 125) (Yg4.f 128) (lssD8 _ _ _ _ false d1 _)) fun _ Yg5 => ?_;clear Yg4
   have hz:=Yg5.z;have s129:=Yg5.a 129 rfl;clear Yg5;refine WE ?_
   go_upto_region 14 with fail
   refine wp_cond_false ((ev s129 rfl).trans rfl) ?_;clear s129 d1
   go_upto_region 14 with fail
   refine WL ?_;have Yg6:=Rp.nil hz;clear hz
   refine Yg6.t (.bool true) (ex_assign rfl rfl) fun _ Yg7 => ?_;clear Yg6
   have hz:=Yg7.z;have s4:=Yg7.a 4 rfl;clear Yg7;refine WE ?_
   go_wp2
   refine bodyPost_ret (results_tmp rfl _ _ _) rfl ⟨?_,hB.trans (hbr.mono (by omega))⟩;rw [getD_of s4]
   unfold Sta.mayB9
   rw [e76,e1s,eg,any_ok9 (fun k x hk hx => HJ.out.2 k x (by omega) hx)]
   rfl
 refine wp_cond_false ((ev s86 rfl).trans (congrArg Value.bool e1s)) ?_;clear s86
 go_upto_region 15 with fail
 refine WL ?_;have Yg8:=(((((Rp.nil hz).cons s2).cons s3).cons s5).cons s6).cons s85;clear hz s2 s3 s5 s6 s85
 refine Yg8.t (.bool (decide (s.st = 2))) (ex_bin rfl (Yg8.f 85) rfl (eqlC _ _ _ _ _)) fun _ Yg9 => ?_;clear Yg8
 refine Yg9.t _ (ex_assign rfl (Yg9.f 152)) fun _ Yha => ?_;clear Yg9
 have hz:=Yha.z;have s2:=Yha.a 2 rfl;have s3:=Yha.a 3 rfl;have s5:=Yha.a 5 rfl;have s6:=Yha.a 6 rfl;have s85:=Yha.a 85 rfl;have s151:=Yha.a 151 rfl;clear Yha;refine WE ?_
 go_upto_region 16 with fail
 cases e2s : decide (s.st = 2)
 rotate_left
 ·refine wp_cond_true ((ev s151 rfl).trans (congrArg Value.bool e2s)) ?_
  clear s151
  go_upto_region 16 with fail
  refine WL ?_;have Yhb:=(((((Rp.nil hz).cons s2).cons s3).cons s5).cons s6).cons s85;clear hz s2 s3 s5 s6 s85
  refine Yhb.t _ (ex_fa rfl (Yhb.f 3) (faS3 _ _)) fun _ Yhc => ?_;clear Yhb
  refine Yhc.t _ (ex_ld rfl (Yhc.f 153) (ldI8 (cell8 (HS.cell 3 _ rfl) hx4))) fun _ Yhd => ?_;clear Yhc
  refine Yhd.t _ (ex_fa rfl (Yhd.f 3) (faS2 _ _)) fun _ Yhe => ?_;clear Yhd
  refine Yhe.t _ (ex_ld rfl (Yhe.f 155) (ldI8 (cell8 (HS.cell 2 _ rfl) hx4))) fun _ Yhf => ?_;clear Yhe
  refine Yhf.t (.bool (decide (s.last = s.view))) (ex_bin rfl (Yhf.f 154) (Yhf.f 156) (eqlC _ _ _ _ _)) fun _ Yhg => ?_;clear Yhf
  refine Yhg.t _ (ex_move rfl (Yhg.f 157)) fun _ Yhh => ?_;clear Yhg
  refine Yhh.g 158 rfl rfl _ (fun hc => ex_fa rfl (Yhh.f 3) (faS8 _ _)) fun Yhi Yhj => ?_;clear Yhh
  refine Yhj.g 158 rfl rfl _ (fun hc => ex_ld rfl (Yhj.v 159 hc) (ldK8 (cell8 (HS.cell 8 _ rfl) hx4))) fun Yhk Yhl => ?_;clear Yhj
  refine Yhl.g 158 rfl rfl _ (fun hc => ex_lenK8 rfl rfl (Yhl.v 160 hc)) fun Yhm Yhn => ?_;clear Yhl
  refine Yhn.g 158 rfl rfl _ (fun hc => ex_fa rfl (Yhn.f 3) (faS11 _ _)) fun Yho Yhp => ?_;clear Yhn
  refine Yhp.g 158 rfl rfl _ (fun hc => ex_ld rfl (Yhp.v 162 hc) (ldN8 (cell8 (HS.cell 11 _ rfl) hx4))) fun Yhq Yhr => ?_;clear Yhp
  refine Yhr.g 158 rfl rfl _ (fun hc => ex_lenN8 rfl rfl (Yhr.v 163 hc)) fun Yhs Yht => ?_;clear Yhr
  refine Yht.g 158 rfl rfl (.int .i64 ((s.A.length : Int) + (s.N.length : Int))) (fun hc => ex_bin rfl (Yht.v 161 hc) (Yht.v 164 hc) (addD8 _ _ (s.A.length : Int) (s.N.length : Int) ((s.A.length : Int) + (s.N.length : Int)) (by rw [IntKind.wrap_i64];omega) _)) fun Yhu Yhv => ?_;clear Yht
  refine Yhv.g 158 rfl rfl (.bool (decide (0 < ((s.A.length : Int) + (s.N.length : Int))))) (fun hc => ex_bin rfl (Yhv.v 165 hc) rfl (gtrC _ _ _ _ _)) fun Yhw Yhx => ?_;clear Yhv
  refine Yhx.t (.bool ((decide (s.last = s.view)) || (decide (0 < ((s.A.length : Int) + (s.N.length : Int)))))) (ex_or rfl (Yhx.a 158 rfl) (Yhx.a 166 rfl) rfl) fun _ Yhy => ?_;clear Yhx
  refine Yhy.t _ (ex_move rfl (Yhy.f 167)) fun _ Yhz => ?_;clear Yhy
  refine Yhz.g 168 rfl rfl _ (fun hc => ex_move rfl (Yhz.f 6)) fun Yh0 Yh1 => ?_;clear Yhz
  refine Yh1.g 168 rfl rfl (.bool (!(decide (s.self = (s.view % c.nd))))) (fun hc => ex_not rfl (Yh1.v 169 hc)) fun Yh2 Yh3 => ?_;clear Yh1
  refine Yh3.g 168 rfl rfl _ (fun hc => ex_move rfl (Yh3.v 170 hc)) fun Yh4 Yh5 => ?_;clear Yh3
  refine Yh5.g 171 rfl rfl _ (fun hc => ex_fa rfl (Yh5.f 3) (faS10 _ _)) fun Yh6 Yh7 => ?_;clear Yh5
  refine Yh7.g 171 rfl rfl _ (fun hc => ex_ld rfl (Yh7.v 172 hc) (ldB8 (cell8 (HS.cell 10 _ rfl) hx4))) fun Yh8 Yh9 => ?_;clear Yh7
  refine Yh9.g 171 rfl rfl _ (fun hc => ex_lenB8 rfl rfl (Yh9.v 173 hc)) fun Yia Yib => ?_;clear Yh9
  refine Yib.g 171 rfl rfl (.bool (decide (0 < (s.B.length : Int)))) (fun hc => ex_bin rfl (Yib.v 174 hc) rfl (gtrC _ _ _ _ _)) fun Yic Yid => ?_;clear Yib
  refine Yid.g 168 rfl rfl (.bool ((!(decide (s.self = (s.view % c.nd)))) && (decide (0 < (s.B.length : Int))))) (fun hc => ex_and rfl (Yid.a 171 rfl) (Yid.a 175 rfl) hc) fun Yie Yif => ?_;clear Yid
  refine Yif.t (.bool (((decide (s.last = s.view)) || (decide (0 < ((s.A.length : Int) + (s.N.length : Int))))) || ((!(decide (s.self = (s.view % c.nd)))) && (decide (0 < (s.B.length : Int)))))) (ex_or rfl (Yif.a 168 rfl) (Yif.a 176 rfl) rfl) fun _ Yig => ?_;clear Yif
  refine Yig.t _ (ex_move rfl (Yig.f 177)) fun _ Yih => ?_;clear Yig
  refine Yih.g 178 rfl rfl _ (fun hc => ex_fa rfl (Yih.f 3) (faS10 _ _)) fun Yii Yij => ?_;clear Yih
  refine Yij.g 178 rfl rfl _ (fun hc => ex_ld rfl (Yij.v 179 hc) (ldB8 (cell8 (HS.cell 10 _ rfl) hx4))) fun Yik Yil => ?_;clear Yij
  refine Yil.g 178 rfl rfl _ (fun hc => ex_lenB8 rfl rfl (Yil.v 180 hc)) fun Yim Yin => ?_;clear Yil
  refine Yin.g 178 rfl rfl _ (fun hc => ex_fa rfl (Yin.f 2) (faC0 _ _)) fun Yio Yip => ?_;clear Yin
  refine Yip.g 178 rfl rfl _ (fun hc => ex_ld rfl (Yip.v 182 hc) (ldI8 (cell8 (HC.cell 0 _ rfl) hx4))) fun Yiq Yir => ?_;clear Yip
  refine Yir.g 178 rfl rfl (.bool (decide (c.F ≤ (s.B.length : Int)))) (fun hc => ex_bin rfl (Yir.v 181 hc) (Yir.v 183 hc) (geqC _ _ _ _ _)) fun Yis Yit => ?_;clear Yir
  refine Yit.t (.bool ((((decide (s.last = s.view)) || (decide (0 < ((s.A.length : Int) + (s.N.length : Int))))) || ((!(decide (s.self = (s.view % c.nd)))) && (decide (0 < (s.B.length : Int))))) || (decide (c.F ≤ (s.B.length : Int))))) (ex_or rfl (Yit.a 178 rfl) (Yit.a 184 rfl) rfl) fun _ Yiu => ?_;clear Yit
  have hz:=Yiu.z;have s2:=Yiu.a 2 rfl;have s3:=Yiu.a 3 rfl;have s185:=Yiu.a 185 rfl;clear Yiu;refine WE ?_
  go_upto_region 17 with fail
  cases eg : s.mc9 c
  rotate_left
  ·refine wp_cond_true ((ev s185 rfl).trans (congrArg Value.bool eg)) ?_
   go_upto_region 17 with fail
   refine WL ?_;have Yiv:=((Rp.nil hz).cons s2).cons s3;clear hz s2 s3
   refine Yiv.t (.bool false) (ex_assign rfl rfl) fun _ Yiw => ?_;clear Yiv
   have hz:=Yiw.z;have s4:=Yiw.a 4 rfl;clear Yiw;refine WE ?_
   go_wp2
   refine bodyPost_ret (results_tmp rfl _ _ _) rfl ⟨?_,hB.trans (hx4.mono (by omega))⟩;rw [getD_of s4]
   unfold Sta.mayB9
   rw [e76,e1s,e2s,eg]
   rfl
  refine wp_cond_false ((ev s185 rfl).trans (congrArg Value.bool eg)) ?_;clear s185
  go_upto_region 18 with fail
  refine WL ?_;have Yix:=((Rp.nil hz).cons s2).cons s3;clear hz s2 s3
  refine Yix.t (.int .i64 0) (ex_assign rfl rfl) fun _ Yiy => ?_;clear Yix
  have hz:=Yiy.z;have s2:=Yiy.a 2 rfl;have s3:=Yiy.a 3 rfl;have s8:=Yiy.a 8 rfl;clear Yiy;refine WE ?_;have hsv : _ = some (gw true (.int .i64 ((0 : Nat) : Int))):=s8
  go_upto_region 19 with fail
  refine v_loop 8 s.B.length (fun i T wr => T.size = 223∧T[2]? = some (gw true (.pointer (some ⟨w.heap.size,0,none⟩)))∧T[3]? = some (gw true (.pointer (some ⟨w.heap.size + 1,0,none⟩)))∧T[8]? = some (gw true (.int .i64 (i : Int)))∧Hid (Below x3.heap.size x3 wr∧∀ k x,k < i → s.B[k]? = some x → rbb9 c s x = false)) (fun i T w h => h.2.2.2.1) ⟨hz,s2,s3,hsv,hx4,fun k x hk => absurd hk (Nat.not_lt_zero _)⟩ ?_;clear hz s2 s3 s8 hsv;intro i R0 wr hi hh;obtain ⟨hz,s2,s3,s8,HJ⟩:=hh;have hbr:=HJ.out.1;have hzr:=hbr.size
  by_cases hit : i < s.B.length
  ·have d1 : decide ((i : Int) < (s.B.length : Int)) = true:=decide_eq_true (by omega)
   go_upto_region 19 with fail
   refine WL ?_;have Yiz:=(((Rp.nil hz).cons s2).cons s3).cons s8;clear hz s2 s3 s8
   refine Yiz.t _ (ex_move rfl (Yiz.f 8)) fun _ Yi0 => ?_;clear Yiz
   refine Yi0.t _ (ex_fa rfl (Yi0.f 3) (faS10 _ _)) fun _ Yi1 => ?_;clear Yi0
   refine Yi1.t _ (ex_ld rfl (Yi1.f 187) (ldB8 (cell8 (HS.cell 10 _ rfl) hbr))) fun _ Yi2 => ?_;clear Yi1
   refine Yi2.t _ (ex_lenB8 rfl rfl (Yi2.f 188)) fun _ Yi3 => ?_;clear Yi2
   refine Yi3.t (.bool true) (ex_bin rfl (Yi3.f 186) (Yi3.f 189) (lssD8 _ _ _ _ true d1 _)) fun _ Yi4 => ?_;clear Yi3
   have hz:=Yi4.z;have s2:=Yi4.a 2 rfl;have s3:=Yi4.a 3 rfl;have s8:=Yi4.a 8 rfl;have s190:=Yi4.a 190 rfl;clear Yi4;refine WE ?_
   go_upto_region 21 with fail
   refine wp_cond_true ((ev s190 rfl).trans rfl) ?_;clear s190 d1
   obtain ⟨x,hxi⟩ : ∃ x,s.B[i]? = some x:=⟨_,List.getElem?_eq_getElem hit⟩
   have hmem:=List.mem_of_getElem? hxi;obtain ⟨q,o,hqa,hq,hl⟩:=(HI.b.later hbr).place (by intro e;rw [e] at hit;simp at hit)
   obtain ⟨y1,hy1⟩ : ∃ y,y = wr.alloc (.cells zBl9.cs.toArray 75):=⟨_,rfl⟩
   have hb : Below wr.heap.size wr y1:=by rw [hy1];exact BR.alloc LR _
   have HA : BX7 y1 wr.heap.size zBl9.cs:=by rw [hy1];exact BX7.new _ _ _
   go_upto_region 21 with fail
   refine WL ?_;have Yi5:=(((Rp.nil hz).cons s2).cons s3).cons s8;clear hz s2 s3 s8
   refine Yi5.t _ (ex_fa rfl (Yi5.f 3) (faS10 _ _)) fun _ Yi6 => ?_;clear Yi5
   refine Yi6.t _ (ex_ld rfl (Yi6.f 193) (ldB8 (cell8 (HS.cell 10 _ rfl) hbr))) fun _ Yi7 => ?_;clear Yi6
   refine Yi7.t _ (ex_move rfl (Yi7.f 8)) fun _ Yi8 => ?_;clear Yi7
   refine Yi8.t (.pointer (some ⟨q,o + i * 6,none⟩)) (ex_ix rfl (Yi8.f 194) (Yi8.f 195) (by rw [hqa];exact ix9Bl q o s.B.length s.bc i hit _)) fun _ Yi9 => ?_;clear Yi8
   refine Yi9.t _ (ex_ld rfl (Yi9.f 196) (ldBl9 (fun k u hu => hl i x hxi k u hu))) fun _ Yja => ?_;clear Yi9
   refine vw (.pointer (some ⟨wr.heap.size,0,none⟩)) y1 WN (ex_al rfl (by rw [hy1];exact alBl9 _)) rfl Yja.z (by decide) (Yja.k fun Yjb Yjc => ?_);clear Yja;refine vs (sets y1 wr.heap.size 0 x.cs) WN (ex_st rfl (Yjc.f 9) (Yjc.f 197) (stBl9 HA x)) rfl ?_;have HP:=putBl9 HA x;have UP:=upBl9 y1 wr.heap.size x
   obtain ⟨y2,hy2⟩ : ∃ v,v = sets y1 wr.heap.size 0 x.cs:=⟨_,rfl⟩
   rw [← hy2] at HP UP ⊢;have hby : Below wr.heap.size wr y2:=hb.trans (UP.below hb.size (fun k hk => by omega));have hbx:=hbr.trans (hby.mono hzr);clear hy2 hy1 HA UP hb hl;have hzy:=hbx.size;have hz:=Yjc.z;have s2:=Yjc.a 2 rfl;have s3:=Yjc.a 3 rfl;have s8:=Yjc.a 8 rfl;have s9:=Yjc.a 9 rfl;clear Yjc;refine WE ?_;have HC2:=HC.bel hbx;have HS2:=HS.bel hbx
   have xin:=(HI.bl x hmem)
   have hxL:=xin.1.later hbx;have hvy : Below y2.heap.size y2 y2:=BR
   go_upto_region 22 with fail
   refine WL ?_;have Yjd:=((((Rp.nil hz).cons s2).cons s3).cons s8).cons s9;clear hz s2 s3 s8 s9
   refine Yjd.t _ (ex_fa rfl (Yjd.f 9) (fb2Bl _ _)) fun _ Yje => ?_;clear Yjd
   refine Yje.t _ (ex_ld rfl (Yje.f 198) (ldI8 (cell8 (HP.cell 3 _ rfl) hvy))) fun _ Yjf => ?_;clear Yje
   refine Yjf.t (.bool (decide (x.v < 0))) (ex_bin rfl (Yjf.f 199) rfl (lssC _ _ _ _ _)) fun _ Yjg => ?_;clear Yjf
   refine Yjg.t _ (ex_move rfl (Yjg.f 200)) fun _ Yjh => ?_;clear Yjg
   refine Yjh.g 201 rfl rfl _ (fun hc => ex_fa rfl (Yjh.f 9) (fb2Bl _ _)) fun Yji Yjj => ?_;clear Yjh
   refine Yjj.g 201 rfl rfl _ (fun hc => ex_ld rfl (Yjj.v 202 hc) (ldI8 (cell8 (HP.cell 3 _ rfl) hvy))) fun Yjk Yjl => ?_;clear Yjj
   refine Yjl.g 201 rfl rfl _ (fun hc => ex_fa rfl (Yjl.f 3) (faS2 _ _)) fun Yjm Yjn => ?_;clear Yjl
   refine Yjn.g 201 rfl rfl _ (fun hc => ex_ld rfl (Yjn.v 204 hc) (ldI8 (cell8 (HS2.cell 2 _ rfl) hvy))) fun Yjo Yjp => ?_;clear Yjn
   refine Yjp.g 201 rfl rfl (.bool (decide (s.view ≤ x.v))) (fun hc => ex_bin rfl (Yjp.v 203 hc) (Yjp.v 205 hc) (geqC _ _ _ _ _)) fun Yjq Yjr => ?_;clear Yjp
   refine Yjr.t (.bool ((decide (x.v < 0)) || (decide (s.view ≤ x.v)))) (ex_or rfl (Yjr.a 201 rfl) (Yjr.a 206 rfl) rfl) fun _ Yjs => ?_;clear Yjr
   refine Yjs.t _ (ex_move rfl (Yjs.f 207)) fun _ Yjt => ?_;clear Yjs
   refine Yjt.g 208 rfl rfl _ (fun hc => ex_ld rfl (Yjt.f 2) (CB7.ld (HC2.bel hvy))) fun Yju Yjv => ?_;clear Yjt
   refine Yjv.g 208 rfl rfl _ (fun hc => ex_fa rfl (Yjv.f 9) (fb4Bl _ _)) fun Yjw Yjx => ?_;clear Yjv
   refine Yjx.g 208 rfl rfl _ (fun hc => ex_ld rfl (Yjx.v 210 hc) (ldE8 (cell8 (HP.cell 5 _ rfl) hvy))) fun Yjy Yjz => ?_;clear Yjx
   refine Yjz.g 208 rfl rfl _ (fun hc => ex_fa rfl (Yjz.f 9) (fb3Bl _ _)) fun Yj0 Yj1 => ?_;clear Yjz
   refine Yj1.g 208 rfl rfl _ (fun hc => ex_ld rfl (Yj1.v 212 hc) (ldI8 (cell8 (HP.cell 4 _ rfl) hvy))) fun Yj2 Yj3 => ?_;clear Yj1
   refine vcall (true && (((decide (x.v < 0)) || (decide (s.view ≤ x.v))) == false)) (.bool (lgB9 c x.s.D x.c)) (want_g rfl rfl (Yj3.a 208 rfl)) (fun hc => ex_call rfl (by simp only [LA,LB,LC,(Yj3.v 209 hc),(Yj3.v 211 hc),(Yj3.v 213 hc),evc] <;> rfl) rfl) (fun hc => rlogged9 c x.s.D x.s.a x.s.c x.c y2 (hxL.later hvy) (hF.be x hmem)) rfl Yj3.z (by decide) (Yj3.kc fun Yj4 x31 hb Yj5 => ?_);clear Yj3;have hx31:=hvy.trans (hb.mono hvy.size);clear hb
   refine Yj5.g 208 rfl rfl (.bool (!(lgB9 c x.s.D x.c))) (fun hc => ex_not rfl (Yj5.v 214 hc)) fun Yj6 Yj7 => ?_;clear Yj5
   refine Yj7.t (.bool (((decide (x.v < 0)) || (decide (s.view ≤ x.v))) || (!(lgB9 c x.s.D x.c)))) (ex_or rfl (Yj7.a 208 rfl) (Yj7.a 215 rfl) rfl) fun _ Yj8 => ?_;clear Yj7
   have hz:=Yj8.z;have s2:=Yj8.a 2 rfl;have s3:=Yj8.a 3 rfl;have s8:=Yj8.a 8 rfl;have s216:=Yj8.a 216 rfl;clear Yj8;refine WE ?_;have hb8:=hbx.trans (hx31.mono hbx.size)
   go_upto_region 23 with fail
   cases eb : rbb9 c s x
   rotate_left
   ·refine wp_cond_true ((ev s216 rfl).trans (congrArg Value.bool eb)) ?_
    go_upto_region 23 with fail
    refine WL ?_;have Yj9:=(((Rp.nil hz).cons s2).cons s3).cons s8;clear hz s2 s3 s8
    refine Yj9.t (.bool false) (ex_assign rfl rfl) fun _ Yka => ?_;clear Yj9
    have hz:=Yka.z;have s4:=Yka.a 4 rfl;clear Yka;refine WE ?_
    go_wp2
    refine bodyPost_ret (results_tmp rfl _ _ _) rfl ⟨?_,hB.trans (hb8.mono (by omega))⟩;rw [getD_of s4]
    unfold Sta.mayB9
    rw [e76,e1s,e2s,eg,any_bad9 hxi eb]
    rfl
   refine wp_cond_false ((ev s216 rfl).trans (congrArg Value.bool eb)) ?_;clear s216
   go_upto_region 20 with fail
   refine WL ?_;have Ykb:=(((Rp.nil hz).cons s2).cons s3).cons s8;clear hz s2 s3 s8
   refine Ykb.t _ (ex_move rfl (Ykb.f 8)) fun _ Ykc => ?_;clear Ykb
   refine Ykc.t (.int .i64 ((i + 1 : Nat) : Int)) (ex_bin rfl (Ykc.f 191) rfl (addD8 _ _ _ 1 ((i + 1 : Nat) : Int) (by rw [IntKind.wrap_i64];omega) _)) fun _ Ykd => ?_;clear Ykc
   refine Ykd.t _ (ex_assign rfl (Ykd.f 192)) fun _ Yke => ?_;clear Ykd
   have hz:=Yke.z;have s2:=Yke.a 2 rfl;have s3:=Yke.a 3 rfl;have s8:=Yke.a 8 rfl;clear Yke;refine WE ?_
   exact ⟨_,rfl,by omega,hz,s2,s3,s8,hb8,fun k y hk hy => by
    by_cases e : k = i
    ·subst e;rw [hxi] at hy;cases hy;exact eb
    ·exact HJ.out.2 k y (by omega) hy⟩
  ·have d1 : decide ((i : Int) < (s.B.length : Int)) = false:=decide_eq_false (by omega)
   go_upto_region 19 with fail
   refine WL ?_;have Ykf:=(((Rp.nil hz).cons s2).cons s3).cons s8;clear hz s2 s3 s8
   refine Ykf.t _ (ex_move rfl (Ykf.f 8)) fun _ Ykg => ?_;clear Ykf
   refine Ykg.t _ (ex_fa rfl (Ykg.f 3) (faS10 _ _)) fun _ Ykh => ?_;clear Ykg
   refine Ykh.t _ (ex_ld rfl (Ykh.f 187) (ldB8 (cell8 (HS.cell 10 _ rfl) hbr))) fun _ Yki => ?_;clear Ykh
   refine Yki.t _ (ex_lenB8 rfl rfl (Yki.f 188)) fun _ Ykj => ?_;clear Yki
   refine Ykj.t (.bool false) (ex_bin rfl (Ykj.f 186) (Ykj.f 189) (lssD8 _ _ _ _ false d1 _)) fun _ Ykk => ?_;clear Ykj
   have hz:=Ykk.z;have s190:=Ykk.a 190 rfl;clear Ykk;refine WE ?_
   go_upto_region 24 with fail
   refine wp_cond_false ((ev s190 rfl).trans rfl) ?_;clear s190 d1
   go_upto_region 24 with fail
   refine WL ?_;have Ykl:=Rp.nil hz;clear hz
   refine Ykl.t (.bool true) (ex_assign rfl rfl) fun _ Ykm => ?_;clear Ykl
   have hz:=Ykm.z;have s4:=Ykm.a 4 rfl;clear Ykm;refine WE ?_
   go_wp2
   refine bodyPost_ret (results_tmp rfl _ _ _) rfl ⟨?_,hB.trans (hbr.mono (by omega))⟩;rw [getD_of s4]
   unfold Sta.mayB9
   rw [e76,e1s,e2s,eg,any_ok9 (fun k x hk hx => HJ.out.2 k x (by omega) hx)]
   rfl
 refine wp_cond_false ((ev s151 rfl).trans (congrArg Value.bool e2s)) ?_;clear s151
 go_upto_region 25 with fail
 refine WL ?_;have Ykn:=(((((Rp.nil hz).cons s2).cons s3).cons s5).cons s6).cons s85;clear hz s2 s3 s5 s6 s85
 refine Ykn.t (.bool (decide (s.st = 3))) (ex_bin rfl (Ykn.f 85) rfl (eqlC _ _ _ _ _)) fun _ Yko => ?_;clear Ykn
 refine Yko.t _ (ex_assign rfl (Yko.f 218)) fun _ Ykp => ?_;clear Yko
 have hz:=Ykp.z;have s2:=Ykp.a 2 rfl;have s3:=Ykp.a 3 rfl;have s5:=Ykp.a 5 rfl;have s6:=Ykp.a 6 rfl;have s85:=Ykp.a 85 rfl;have s217:=Ykp.a 217 rfl;clear Ykp;refine WE ?_
 go_upto_region 26 with fail
 cases e3s : decide (s.st = 3)
 rotate_left
 ·refine wp_cond_true ((ev s217 rfl).trans (congrArg Value.bool e3s)) ?_
  clear s217
  go_upto_region 26 with fail
  refine WL ?_;have Ykq:=(((((Rp.nil hz).cons s2).cons s3).cons s5).cons s6).cons s85;clear hz s2 s3 s5 s6 s85
  refine Ykq.t _ (ex_ld rfl (Ykq.f 2) (CB7.ld (HC.bel hx4))) fun _ Ykr => ?_;clear Ykq
  refine Ykr.t _ (ex_ld rfl (Ykr.f 3) (SB7.ld (HS.bel hx4))) fun _ Yks => ?_;clear Ykr
  refine Yks.t _ (ex_move rfl (Yks.f 5)) fun _ Ykt => ?_;clear Yks
  refine vcall true (.bool (s.rc9 c c.nd)) WN (fun hc => ex_call rfl (by simp only [LA,LB,LC,(Ykt.f 219),(Ykt.f 220),(Ykt.f 221),evc] <;> rfl) rfl) (fun hc => rrecovering9 c s c.nd x4 (HI.later hx4) hF ⟨by omega,by omega⟩ ⟨by omega,by omega⟩ ⟨by omega,by omega⟩ ⟨by omega,by omega⟩ ⟨by omega,by omega⟩ ⟨by omega,by omega⟩) rfl Ykt.z (by decide) (Ykt.kc fun Yku x61 hb Ykv => ?_);clear Ykt;have hx61:=hx4.trans (hb.mono hx4.size);clear hb
  refine Ykv.t _ (ex_assign rfl (Ykv.f 222)) fun _ Ykw => ?_;clear Ykv
  have hz:=Ykw.z;have s4:=Ykw.a 4 rfl;clear Ykw;refine WE ?_
  go_wp2
  refine bodyPost_ret (results_tmp rfl _ _ _) rfl ⟨?_,hB.trans (hx61.mono (by omega))⟩;rw [getD_of s4]
  unfold Sta.mayB9
  rw [e76,e1s,e2s,e3s]
  rfl
 refine wp_cond_false ((ev s217 rfl).trans (congrArg Value.bool e3s)) ?_;clear s217
 go_upto_region 27 with fail
 refine WL ?_;have Ykx:=(((((Rp.nil hz).cons s2).cons s3).cons s5).cons s6).cons s85;clear hz s2 s3 s5 s6 s85
 refine Ykx.t (.bool false) (ex_assign rfl rfl) fun _ Yky => ?_;clear Ykx
 have hz:=Yky.z;have s4:=Yky.a 4 rfl;clear Yky;refine WE ?_
 go_wp2
 refine bodyPost_ret (results_tmp rfl _ _ _) rfl ⟨?_,hB.trans (hx4.mono (by omega))⟩;rw [getD_of s4]
 unfold Sta.mayB9
 rw [e76,e1s,e2s,e3s]
 rfl
theorem rcheck9 (c : Cg) (s : Sta) (w : World) (hI : s.In w) (hF : s.Fit) : Calls Tryz.prog 7 #[c.val,s.val] w fun e w' => e = .returned (.int .i64 (s.rk9 c))∧Below w.heap.size w w':=by
 go_enter Tryz.func7,Tryz.ntmps7
 go_upto_region 0 with fail
 refine WL ?_;refine vl_gen (fun T => T.size = 17∧T[0]? = some (gw true (c.val))∧T[1]? = some (gw true (s.val))) ⟨rfl,rfl,rfl⟩ (fun Z0 ⟨hz,s0,s1⟩ => ?_)
 obtain ⟨w1,hw1⟩ : ∃ y,y = w.alloc (.cells c.cs.toArray 23):=⟨_,rfl⟩
 have hb : Below w.heap.size w w1:=by rw [hw1];exact BR.alloc LR _
 have hs1 : w1.heap.size = w.heap.size + 1:=by rw [hw1];simp
 have HC : CB7 w1 (w.heap.size) c:=by rw [hw1];exact BX7.new _ _ _
 refine vw (.pointer (some ⟨w.heap.size,0,none⟩)) w1 WN (ex_box8 rfl (ev s0 rfl) (by rw [hw1];exact bxC7 _ _)) rfl hz (by decide) (fun Z1 zz kk s2x => ?_);replace s1:=ku s1;clear kk hz s0 hw1;have hz:=zz;have s2:=s2x;clear zz s2x;have hB:=hb;clear hb
 obtain ⟨w2,hw2⟩ : ∃ y,y = w1.alloc (.cells s.cs.toArray 33):=⟨_,rfl⟩
 have hb : Below w1.heap.size w1 w2:=by rw [hw2];exact BR.alloc LR _
 have hs2 : w2.heap.size = w.heap.size + 2:=by rw [hw2];simp;omega
 have HS : SB7 w2 (w.heap.size + 1) s:=by rw [hw2,← hs1];exact BX7.new _ _ _
 refine vw (.pointer (some ⟨w.heap.size + 1,0,none⟩)) w2 WN (ex_box8 rfl (ev s1 rfl) (by rw [hw2,← hs1];exact bxS7 _ _)) rfl hz (by decide) (fun Z2 zz kk s3x => ?_);replace s2:=ku s2;clear kk hz s1 hw2;have hz:=zz;have s3:=s3x;clear zz s3x;have hB:=hB.trans (hb.mono (by omega));have HC:=HC.bel hb;clear hb;have hv0 : Below w2.heap.size w2 w2:=BR;have HI:=hI.later hB;have Ya:=((Rp.nil hz).cons s2).cons s3;clear hz s2 s3
 refine Ya.t (.int .i64 0) (ex_assign rfl rfl) fun _ Yb => ?_;clear Ya
 have hz:=Yb.z;have s2:=Yb.a 2 rfl;have s3:=Yb.a 3 rfl;clear Yb;refine WE ?_
 go_upto_region 1 with fail
 refine WL ?_;have Yc:=((Rp.nil hz).cons s2).cons s3;clear hz s2 s3
 refine Yc.t _ (ex_ld rfl (Yc.f 2) (CB7.ld (HC.bel hv0))) fun _ Yd => ?_;clear Yc
 refine vcall true (.int .i64 c.er) WN (fun hc => ex_call rfl (by simp only [LA,LB,LC,(Yd.f 6),evc] <;> rfl) rfl) (fun hc => rcheckconfig9 c w2) rfl Yd.z (by decide) (Yd.kc fun Ye x1 hb Yf => ?_);clear Yd;have hx1:=hv0.trans (hb.mono hv0.size);clear hb
 refine Yf.t _ (ex_assign rfl (Yf.f 7)) fun _ Yg => ?_;clear Yf
 have hz:=Yg.z;have s2:=Yg.a 2 rfl;have s3:=Yg.a 3 rfl;have s5:=Yg.a 5 rfl;clear Yg;refine WE ?_
 go_upto_region 2 with fail
 refine WL ?_;have Yh:=(((Rp.nil hz).cons s2).cons s3).cons s5;clear hz s2 s3 s5
 refine Yh.t _ (ex_move rfl (Yh.f 5)) fun _ Yi => ?_;clear Yh
 refine Yi.t (.bool (decide (c.er = 0))) (ex_bin rfl (Yi.f 8) rfl (eqlC _ _ _ _ _)) fun _ Yj => ?_;clear Yi
 refine Yj.t _ (ex_move rfl (Yj.f 9)) fun _ Yk => ?_;clear Yj
 refine Yk.g 10 rfl rfl _ (fun hc => ex_ld rfl (Yk.f 2) (CB7.ld (HC.bel hx1))) fun Yl Ym => ?_;clear Yk
 refine Ym.g 10 rfl rfl _ (fun hc => ex_ld rfl (Ym.f 3) (SB7.ld (HS.bel hx1))) fun Yn Yo => ?_;clear Ym
 refine vcall (true && ((decide (c.er = 0)) == true)) (.bool (s.mayB9 c)) (want_g rfl rfl (Yo.a 10 rfl)) (fun hc => ex_call rfl (by simp only [LA,LB,LC,(Yo.v 11 hc),(Yo.v 12 hc),evc] <;> rfl) rfl) (fun hc => rmay9 c s x1 (HI.later hx1) hF (ok_er9 (by simpa using hc))) rfl Yo.z (by decide) (Yo.kc fun Yp x2 hb Yq => ?_);clear Yo;have hx2:=hx1.trans (hb.mono hx1.size);clear hb
 refine Yq.g 10 rfl rfl (.bool (!(s.mayB9 c))) (fun hc => ex_not rfl (Yq.v 13 hc)) fun Yr Ys => ?_;clear Yq
 refine Ys.t (.bool ((decide (c.er = 0)) && (!(s.mayB9 c)))) (ex_and rfl (Ys.a 10 rfl) (Ys.a 14 rfl) rfl) fun _ Yt => ?_;clear Ys
 have hz:=Yt.z;have s2:=Yt.a 2 rfl;have s3:=Yt.a 3 rfl;have s5:=Yt.a 5 rfl;have s15:=Yt.a 15 rfl;clear Yt;refine WE ?_
 go_upto_region 3 with fail
 have hB8:=hB.trans (hx2.mono (by omega))
 have ee : (((decide (c.er = 0)) && (!(s.mayB9 c)))) = (c.okB && !s.mayB9 c):=by rw [show decide (c.er = 0) = c.okB from Cg.er_eq c]
 refine v_cond8 (fun T w9 => T.size = 17∧T[5]? = some (gw true (.int .i64 (s.rk9 c)))∧Below w.heap.size w w9) s15 (fun hu => ?_) (fun hu => ⟨hz,?_,hB8⟩) ?_
 ·clear s15
  go_upto_region 3 with fail
  refine WL ?_;have Yu:=(((Rp.nil hz).cons s2).cons s3).cons s5;clear hz s2 s3 s5
  refine Yu.t (.int .i64 2) (ex_assign rfl rfl) fun _ Yv => ?_;clear Yu
  have hz:=Yv.z;have s5:=Yv.a 5 rfl;clear Yv;refine WE ?_;refine ⟨_,rfl,hz,?_,hB8⟩;rw [s5,show s.rk9 c = 2 from by rw [ee] at hu;simp at hu;unfold Sta.rk9;rw [hu.1,hu.2];rfl]
 ·rw [s5,show s.rk9 c = c.er from by rw [ee] at hu;unfold Sta.rk9 Cg.er;revert hu;cases c.okB <;> cases s.mayB9 c <;> intro hu <;> first | rfl | cases hu]
 ·clear hz s2 s3 s5 s15
  intro T9 w9 hJ;obtain ⟨hz,s5,hB9⟩:=hJ
  go_upto_region 4 with fail
  refine WL ?_;have Yw:=(Rp.nil hz).cons s5;clear hz s5
  refine Yw.t _ (ex_move rfl (Yw.f 5)) fun _ Yx => ?_;clear Yw
  refine Yx.t _ (ex_assign rfl (Yx.f 16)) fun _ Yy => ?_;clear Yx
  have hz:=Yy.z;have s4:=Yy.a 4 rfl;clear Yy;refine WE ?_;have HB9:=hide hB9;clear hB9
  go_wp2
  refine bodyPost_ret (results_tmp rfl _ _ _) rfl ⟨?_,HB9.out⟩;rw [getD_of s4]
  rfl
end Go.Proofs.YtpcgnjpodnebpaaGreatDoor
