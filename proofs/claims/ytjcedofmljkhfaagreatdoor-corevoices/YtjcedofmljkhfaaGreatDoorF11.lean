import Derived.Test.YtjcedofmljkhfaaGreatDoorF10
set_option maxRecDepth 100000
set_option linter.unusedVariables false
set_option linter.unusedSimpArgs false
namespace Go.Proofs.YtjcedofmljkhfaaGreatDoor
open Go.RowKit Go.Maps Go.Shelf
open Classical
theorem eqlDr7 (x y : Operand) (r r' : Int × Int) (w : World) : (do eqGuard .eql 43 x y (.agg #[.int .u64 r.1,.int .u64 r.2]) (.agg #[.int .u64 r'.1,.int .u64 r'.2]);binOp .eql 43 (.agg #[.int .u64 r.1,.int .u64 r.2]) (.agg #[.int .u64 r'.1,.int .u64 r'.2]) : Sem Value).run Tryz.prog w = .ok (.bool (decide (r = r'))) w:=by
 obtain ⟨a,b⟩:=r;obtain ⟨a',b'⟩:=r'
 go_simp
 by_cases e1 : a = a' <;> by_cases e2 : b = b' <;> simp [e1,e2]
def zAn9 : An:=⟨0,0,0,0,0,⟨none,0,[]⟩⟩
def zBl9 : Bl:=⟨0,0,0,0,0,⟨none,0,[]⟩⟩
theorem alAn9 (w : World) : (Instr.alloc 60 true (.tuple #[])).run Tryz.prog w = .ok (.pointer (some ⟨w.heap.size,0,none⟩)) (w.alloc (.cells zAn9.cs.toArray 60)):=by
 go_simp
 first | done | rfl
theorem stAn9 {w : World} {q : Nat} (h : BX7 w q zAn9.cs) (x : An) : (Instr.storeAt 60 (.pointer (some ⟨q,0,none⟩)) x.val).run Tryz.prog w = .ok () (sets w q 0 x.cs):=by
 have:=run_storeAt_mid (P:=Tryz.prog) w q 0 60 x.cs.toArray (fun j hj => ⟨by rw [Nat.zero_add,h.cell j _ (List.getElem?_eq_getElem (show j < zAn9.cs.length from hj))];rfl,by rw [Nat.zero_add];exact h.free j⟩) (by kernel_rfl) (all_oneCell_toArray (by
  intro v hv;simp only [An.cs,List.mem_cons,List.not_mem_nil,or_false] at hv
  rcases hv with rfl | rfl | rfl | rfl | rfl | rfl <;> rfl))
 rw [setCells_sets] at this
 exact this
theorem putAn9 {w : World} {q : Nat} (h : BX7 w q zAn9.cs) (x : An) : BX7 (sets w q 0 x.cs) q x.cs:=by
 refine ⟨by rw [size_sets];exact h.lt,fun i y hy => ?_,fun i => sets_free _ _ _ (h.free i)⟩;have:=sets_at (b:=q) x.cs 0 w (fun k hk => ⟨_,by rw [Nat.zero_add];exact h.cell k _ (List.getElem?_eq_getElem (show k < zAn9.cs.length from hk))⟩) i y hy;rw [Nat.zero_add] at this
 exact this
theorem upAn9 (w : World) (q : Nat) (x : An) : Upd (fun k => k = q) w (sets w q 0 x.cs):=upd_sets (S:=fun k => k = q) (b:=q) rfl _ _ _ (Upd.refl _ _)
theorem ldAn9 {w : World} {q o : Nat} {x : An} (h : ∀ k u,x.cs[k]? = some u → w.cell? ⟨q,o + k,none⟩ = some u) : (Instr.loadAt 60 (.pointer (some ⟨q,o,none⟩))).run Tryz.prog w = .ok x.val w:=by
 have h0:=h 0 _ rfl;have h1:=h 1 _ rfl;have h2:=h 2 _ rfl;have h3:=h 3 _ rfl;have h4:=h 4 _ rfl;have h5:=h 5 _ rfl;rw [Nat.add_zero] at h0
 unfold An.val
 clear h
 go_simp
theorem fb0An (q : Nat) (w : World) : (Instr.fieldAt 60 (.pointer (some ⟨q,0,none⟩)) 0).run Tryz.prog w = .ok (.pointer (some ⟨q,0,none⟩)) w:=by go_simp
theorem fb2An (q : Nat) (w : World) : (Instr.fieldAt 60 (.pointer (some ⟨q,0,none⟩)) 2).run Tryz.prog w = .ok (.pointer (some ⟨q,3,none⟩)) w:=by go_simp
theorem fb3An (q : Nat) (w : World) : (Instr.fieldAt 60 (.pointer (some ⟨q,0,none⟩)) 3).run Tryz.prog w = .ok (.pointer (some ⟨q,4,none⟩)) w:=by go_simp
theorem fb4An (q : Nat) (w : World) : (Instr.fieldAt 60 (.pointer (some ⟨q,0,none⟩)) 4).run Tryz.prog w = .ok (.pointer (some ⟨q,5,none⟩)) w:=by go_simp
theorem alBl9 (w : World) : (Instr.alloc 58 true (.tuple #[])).run Tryz.prog w = .ok (.pointer (some ⟨w.heap.size,0,none⟩)) (w.alloc (.cells zBl9.cs.toArray 58)):=by
 go_simp
 first | done | rfl
theorem stBl9 {w : World} {q : Nat} (h : BX7 w q zBl9.cs) (x : Bl) : (Instr.storeAt 58 (.pointer (some ⟨q,0,none⟩)) x.val).run Tryz.prog w = .ok () (sets w q 0 x.cs):=by
 have:=run_storeAt_mid (P:=Tryz.prog) w q 0 58 x.cs.toArray (fun j hj => ⟨by rw [Nat.zero_add,h.cell j _ (List.getElem?_eq_getElem (show j < zBl9.cs.length from hj))];rfl,by rw [Nat.zero_add];exact h.free j⟩) (by kernel_rfl) (all_oneCell_toArray (by
  intro v hv;simp only [Bl.cs,List.mem_cons,List.not_mem_nil,or_false] at hv
  rcases hv with rfl | rfl | rfl | rfl | rfl | rfl <;> rfl))
 rw [setCells_sets] at this
 exact this
theorem putBl9 {w : World} {q : Nat} (h : BX7 w q zBl9.cs) (x : Bl) : BX7 (sets w q 0 x.cs) q x.cs:=by
 refine ⟨by rw [size_sets];exact h.lt,fun i y hy => ?_,fun i => sets_free _ _ _ (h.free i)⟩;have:=sets_at (b:=q) x.cs 0 w (fun k hk => ⟨_,by rw [Nat.zero_add];exact h.cell k _ (List.getElem?_eq_getElem (show k < zBl9.cs.length from hk))⟩) i y hy;rw [Nat.zero_add] at this
 exact this
theorem upBl9 (w : World) (q : Nat) (x : Bl) : Upd (fun k => k = q) w (sets w q 0 x.cs):=upd_sets (S:=fun k => k = q) (b:=q) rfl _ _ _ (Upd.refl _ _)
theorem ldBl9 {w : World} {q o : Nat} {x : Bl} (h : ∀ k u,x.cs[k]? = some u → w.cell? ⟨q,o + k,none⟩ = some u) : (Instr.loadAt 58 (.pointer (some ⟨q,o,none⟩))).run Tryz.prog w = .ok x.val w:=by
 have h0:=h 0 _ rfl;have h1:=h 1 _ rfl;have h2:=h 2 _ rfl;have h3:=h 3 _ rfl;have h4:=h 4 _ rfl;have h5:=h 5 _ rfl;rw [Nat.add_zero] at h0
 unfold Bl.val
 clear h
 go_simp
theorem fb2Bl (q : Nat) (w : World) : (Instr.fieldAt 58 (.pointer (some ⟨q,0,none⟩)) 2).run Tryz.prog w = .ok (.pointer (some ⟨q,3,none⟩)) w:=by go_simp
theorem fb3Bl (q : Nat) (w : World) : (Instr.fieldAt 58 (.pointer (some ⟨q,0,none⟩)) 3).run Tryz.prog w = .ok (.pointer (some ⟨q,4,none⟩)) w:=by go_simp
theorem fb4Bl (q : Nat) (w : World) : (Instr.fieldAt 58 (.pointer (some ⟨q,0,none⟩)) 4).run Tryz.prog w = .ok (.pointer (some ⟨q,5,none⟩)) w:=by go_simp
def rab9 (c : Cg) (n : Int) (x : An) : Bool:=(((decide (x.v < 0) || decide (4294967296 < x.v)) || (!lgB9 c x.s.D x.c)) || ((!decide (x.n = x.v % n)) && decide (0 < (x.s.D.length : Int))))
def Sta.rc9 (s : Sta) (c : Cg) (n : Int) : Bool:=bif (decide (0 < (((((((s.view + s.last) + s.commit) + s.idle) + (s.L.length : Int)) + (s.A.length : Int)) + (s.M.length : Int)) + (s.B.length : Int))) || decide (s.V.getD s.self.toNat (0,0) = (0,0))) then false else !(s.N.any (rab9 c n))
theorem any_bad9 {α : Type} {p : α → Bool} {L : List α} {i : Nat} {x : α} (h : L[i]? = some x) (hp : p x = true) : L.any p = true:=List.any_eq_true.2 ⟨x,List.mem_of_getElem? h,hp⟩
theorem any_ok9 {α : Type} {p : α → Bool} {L : List α} (h : ∀ k x,k < L.length → L[k]? = some x → p x = false) : L.any p = false:=by
 rw [List.any_eq_false];intro x hx;obtain ⟨k,hk⟩:=List.mem_iff_getElem?.1 hx;rw [h k x (List.getElem?_eq_some_iff.1 hk).1 hk]
 decide
set_option maxHeartbeats 1000000 in
theorem rrecovering9 (c : Cg) (s : Sta) (n : Int) (w : World) (hI : s.In w) (hF : s.Fit) (hv1 : 0 ≤ s.view∧s.view ≤ 4294967296) (hv2 : 0 ≤ s.last∧s.last ≤ s.view) (hv3 : 0 ≤ s.commit∧s.commit ≤ (s.L.length : Int)) (hv4 : 0 ≤ s.idle∧s.idle < 1000) (hs : 0 ≤ s.self∧s.self < (s.V.length : Int)) (hn : 0 < n∧n < 100) : Calls Tryz.prog 29 #[c.val,s.val,.int .i64 n] w fun e w' => e = .returned (.bool (s.rc9 c n))∧Below w.heap.size w w':=by
 go_enter Tryz.func29,Tryz.ntmps29
 go_upto_region 0 with fail
 refine wp_region_lit ?_;refine vl_gen (fun T => T.size = 91∧T[0]? = some (gw true (c.val))∧T[1]? = some (gw true (s.val))∧T[2]? = some (gw true (.int .i64 n))) ⟨rfl,rfl,rfl,rfl⟩ (fun Z0 ⟨hz,s0,s1,s2⟩ => ?_)
 obtain ⟨w1,hw1⟩ : ∃ y,y = w.alloc (.cells c.cs.toArray 23):=⟨_,rfl⟩
 have hb : Below w.heap.size w w1:=by rw [hw1];exact (Below.refl _ _).alloc (Nat.le_refl _) _
 have hs1 : w1.heap.size = w.heap.size + 1:=by rw [hw1];simp
 have HC : CB7 w1 (w.heap.size) c:=by rw [hw1];exact BX7.new _ _ _
 refine vw (.pointer (some ⟨w.heap.size,0,none⟩)) w1 (want_none rfl) (ex_box8 rfl (ev s0 rfl) (by rw [hw1];exact bxC7 _ _)) rfl hz (by decide) (fun Z1 zz kk s3x => ?_);replace s1:=ku s1;replace s2:=ku s2;clear kk hz s0 hw1;have hz:=zz;have s3:=s3x;clear zz s3x;have hB:=hb;clear hb
 obtain ⟨w2,hw2⟩ : ∃ y,y = w1.alloc (.cells s.cs.toArray 33):=⟨_,rfl⟩
 have hb : Below w1.heap.size w1 w2:=by rw [hw2];exact (Below.refl _ _).alloc (Nat.le_refl _) _
 have hs2 : w2.heap.size = w.heap.size + 2:=by rw [hw2];simp;omega
 have HS : SB7 w2 (w.heap.size + 1) s:=by rw [hw2,← hs1];exact BX7.new _ _ _
 refine vw (.pointer (some ⟨w.heap.size + 1,0,none⟩)) w2 (want_none rfl) (ex_box8 rfl (ev s1 rfl) (by rw [hw2,← hs1];exact bxS7 _ _)) rfl hz (by decide) (fun Z2 zz kk s4x => ?_);replace s2:=ku s2;replace s3:=ku s3;clear kk hz s1 hw2;have hz:=zz;have s4:=s4x;clear zz s4x;have hB:=hB.trans (hb.mono (by omega));have HC:=HC.bel hb;clear hb;have hv0 : Below w2.heap.size w2 w2:=Below.refl _ _;have HI:=hI.later hB;have f0:=hF.ll;have f1:=hF.al;have f2:=hF.ml;have f3:=hF.bl;have f4:=hF.nl;obtain ⟨qv,ov,hva,hQ⟩:=vec_at8 HI.v hs;have Ya:=(((Rp.nil hz).cons s2).cons s3).cons s4;clear hz s2 s3 s4
 refine Ya.t (.bool false) (ex_assign rfl rfl) fun _ Yb => ?_;clear Ya
 have hz:=Yb.z;have s2:=Yb.a 2 rfl;have s3:=Yb.a 3 rfl;have s4:=Yb.a 4 rfl;clear Yb;refine wpList_nil ?_
 go_upto_region 1 with fail
 refine wp_region_lit ?_;have Yc:=(((Rp.nil hz).cons s2).cons s3).cons s4;clear hz s2 s3 s4
 refine Yc.t _ (ex_fa rfl (Yc.f 4) (faS2 _ _)) fun _ Yd => ?_;clear Yc
 refine Yd.t _ (ex_ld rfl (Yd.f 9) (ldI8 (cell8 (HS.cell 2 _ rfl) hv0))) fun _ Ye => ?_;clear Yd
 refine Ye.t _ (ex_fa rfl (Ye.f 4) (faS3 _ _)) fun _ Yf => ?_;clear Ye
 refine Yf.t _ (ex_ld rfl (Yf.f 11) (ldI8 (cell8 (HS.cell 3 _ rfl) hv0))) fun _ Yg => ?_;clear Yf
 refine Yg.t (.int .i64 ((s.view) + (s.last))) (ex_bin rfl (Yg.f 10) (Yg.f 12) (addD8 _ _ (s.view) (s.last) ((s.view) + (s.last)) (by rw [IntKind.wrap_i64];omega) _)) fun _ Yh => ?_;clear Yg
 refine Yh.t _ (ex_fa rfl (Yh.f 4) (faS5 _ _)) fun _ Yi => ?_;clear Yh
 refine Yi.t _ (ex_ld rfl (Yi.f 14) (ldI8 (cell8 (HS.cell 5 _ rfl) hv0))) fun _ Yj => ?_;clear Yi
 refine Yj.t (.int .i64 (((s.view) + (s.last)) + (s.commit))) (ex_bin rfl (Yj.f 13) (Yj.f 15) (addD8 _ _ ((s.view) + (s.last)) (s.commit) (((s.view) + (s.last)) + (s.commit)) (by rw [IntKind.wrap_i64];omega) _)) fun _ Yk => ?_;clear Yj
 refine Yk.t _ (ex_fa rfl (Yk.f 4) (faS7 _ _)) fun _ Yl => ?_;clear Yk
 refine Yl.t _ (ex_ld rfl (Yl.f 17) (ldI8 (cell8 (HS.cell 7 _ rfl) hv0))) fun _ Ym => ?_;clear Yl
 refine Ym.t (.int .i64 ((((s.view) + (s.last)) + (s.commit)) + (s.idle))) (ex_bin rfl (Ym.f 16) (Ym.f 18) (addD8 _ _ (((s.view) + (s.last)) + (s.commit)) (s.idle) ((((s.view) + (s.last)) + (s.commit)) + (s.idle)) (by rw [IntKind.wrap_i64];omega) _)) fun _ Yn => ?_;clear Ym
 refine Yn.t _ (ex_fa rfl (Yn.f 4) (faS4 _ _)) fun _ Yo => ?_;clear Yn
 refine Yo.t _ (ex_ld rfl (Yo.f 20) (ldE8 (cell8 (HS.cell 4 _ rfl) hv0))) fun _ Yp => ?_;clear Yo
 refine Yp.t _ (ex_lenE8 rfl rfl (Yp.f 21)) fun _ Yq => ?_;clear Yp
 refine Yq.t (.int .i64 (((((s.view) + (s.last)) + (s.commit)) + (s.idle)) + ((s.L.length : Int)))) (ex_bin rfl (Yq.f 19) (Yq.f 22) (addD8 _ _ ((((s.view) + (s.last)) + (s.commit)) + (s.idle)) ((s.L.length : Int)) (((((s.view) + (s.last)) + (s.commit)) + (s.idle)) + ((s.L.length : Int))) (by rw [IntKind.wrap_i64];omega) _)) fun _ Yr => ?_;clear Yq
 refine Yr.t _ (ex_fa rfl (Yr.f 4) (faS8 _ _)) fun _ Ys => ?_;clear Yr
 refine Ys.t _ (ex_ld rfl (Ys.f 24) (ldK8 (cell8 (HS.cell 8 _ rfl) hv0))) fun _ Yt => ?_;clear Ys
 refine Yt.t _ (ex_lenK8 rfl rfl (Yt.f 25)) fun _ Yu => ?_;clear Yt
 refine Yu.t (.int .i64 ((((((s.view) + (s.last)) + (s.commit)) + (s.idle)) + ((s.L.length : Int))) + ((s.A.length : Int)))) (ex_bin rfl (Yu.f 23) (Yu.f 26) (addD8 _ _ (((((s.view) + (s.last)) + (s.commit)) + (s.idle)) + ((s.L.length : Int))) ((s.A.length : Int)) ((((((s.view) + (s.last)) + (s.commit)) + (s.idle)) + ((s.L.length : Int))) + ((s.A.length : Int))) (by rw [IntKind.wrap_i64];omega) _)) fun _ Yv => ?_;clear Yu
 refine Yv.t _ (ex_fa rfl (Yv.f 4) (faS9 _ _)) fun _ Yw => ?_;clear Yv
 refine Yw.t _ (ex_ld rfl (Yw.f 28) (ldM8 (cell8 (HS.cell 9 _ rfl) hv0))) fun _ Yx => ?_;clear Yw
 refine Yx.t _ (ex_lenM8 rfl rfl (Yx.f 29)) fun _ Yy => ?_;clear Yx
 refine Yy.t (.int .i64 (((((((s.view) + (s.last)) + (s.commit)) + (s.idle)) + ((s.L.length : Int))) + ((s.A.length : Int))) + ((s.M.length : Int)))) (ex_bin rfl (Yy.f 27) (Yy.f 30) (addD8 _ _ ((((((s.view) + (s.last)) + (s.commit)) + (s.idle)) + ((s.L.length : Int))) + ((s.A.length : Int))) ((s.M.length : Int)) (((((((s.view) + (s.last)) + (s.commit)) + (s.idle)) + ((s.L.length : Int))) + ((s.A.length : Int))) + ((s.M.length : Int))) (by rw [IntKind.wrap_i64];omega) _)) fun _ Yz => ?_;clear Yy
 refine Yz.t _ (ex_fa rfl (Yz.f 4) (faS10 _ _)) fun _ Y0 => ?_;clear Yz
 refine Y0.t _ (ex_ld rfl (Y0.f 32) (ldB8 (cell8 (HS.cell 10 _ rfl) hv0))) fun _ Y1 => ?_;clear Y0
 refine Y1.t _ (ex_lenB8 rfl rfl (Y1.f 33)) fun _ Y2 => ?_;clear Y1
 refine Y2.t (.int .i64 ((((((((s.view) + (s.last)) + (s.commit)) + (s.idle)) + ((s.L.length : Int))) + ((s.A.length : Int))) + ((s.M.length : Int))) + ((s.B.length : Int)))) (ex_bin rfl (Y2.f 31) (Y2.f 34) (addD8 _ _ (((((((s.view) + (s.last)) + (s.commit)) + (s.idle)) + ((s.L.length : Int))) + ((s.A.length : Int))) + ((s.M.length : Int))) ((s.B.length : Int)) ((((((((s.view) + (s.last)) + (s.commit)) + (s.idle)) + ((s.L.length : Int))) + ((s.A.length : Int))) + ((s.M.length : Int))) + ((s.B.length : Int))) (by rw [IntKind.wrap_i64];omega) _)) fun _ Y3 => ?_;clear Y2
 refine Y3.t (.bool (decide (0 < (((((((s.view) + (s.last)) + (s.commit)) + (s.idle)) + ((s.L.length : Int))) + ((s.A.length : Int))) + ((s.M.length : Int))) + ((s.B.length : Int))))) (ex_bin rfl (Y3.f 35) rfl (gtrC _ _ _ _ _)) fun _ Y4 => ?_;clear Y3
 refine Y4.t _ (ex_move rfl (Y4.f 36)) fun _ Y5 => ?_;clear Y4
 refine Y5.g 37 rfl rfl rfl _ (fun hc => ex_fa rfl (Y5.f 4) (faS6 _ _)) fun Y6 Y7 => ?_;clear Y5
 refine Y7.g 37 rfl rfl rfl _ (fun hc => ex_ld rfl (ev (Y7.a 38 rfl) hc) (ldV8 (cell8 (HS.cell 6 _ rfl) hv0))) fun Y8 Y9 => ?_;clear Y7
 refine Y9.g 37 rfl rfl rfl _ (fun hc => ex_fa rfl (Y9.f 4) (faS0 _ _)) fun Yba Ybb => ?_;clear Y9
 refine Ybb.g 37 rfl rfl rfl _ (fun hc => ex_ld rfl (ev (Ybb.a 40 rfl) hc) (ldI8 (cell8 (HS.cell 0 _ rfl) hv0))) fun Ybc Ybd => ?_;clear Ybb
 refine Ybd.g 37 rfl rfl rfl _ (fun hc => ex_ix rfl (ev (Ybd.a 39 rfl) hc) (ev (Ybd.a 41 rfl) hc) (hQ.1 _)) fun Ybe Ybf => ?_;clear Ybd
 refine Ybf.g 37 rfl rfl rfl _ (fun hc => ex_ld rfl (ev (Ybf.a 42 rfl) hc) (hQ.2 _ hv0)) fun Ybg Ybh => ?_;clear Ybf
 refine Ybh.g 37 rfl rfl rfl (.agg #[.int .u64 0,.int .u64 0]) (fun hc => ex_build rfl (buildDr _)) fun Ybi Ybj => ?_;clear Ybh
 refine Ybj.g 37 rfl rfl rfl (.bool (decide ((s.V.getD s.self.toNat (0,0)) = (0,0)))) (fun hc => ex_bin rfl (ev (Ybj.a 43 rfl) hc) (ev (Ybj.a 44 rfl) hc) (eqlDr7 _ _ (s.V.getD s.self.toNat (0,0)) (0,0) _)) fun Ybk Ybl => ?_;clear Ybj
 refine Ybl.t (.bool ((decide (0 < (((((((s.view) + (s.last)) + (s.commit)) + (s.idle)) + ((s.L.length : Int))) + ((s.A.length : Int))) + ((s.M.length : Int))) + ((s.B.length : Int)))) || (decide ((s.V.getD s.self.toNat (0,0)) = (0,0))))) (ex_or rfl (Ybl.a 37 rfl) (Ybl.a 45 rfl) rfl) fun _ Ybm => ?_;clear Ybl
 have hz:=Ybm.z;have s2:=Ybm.a 2 rfl;have s3:=Ybm.a 3 rfl;have s4:=Ybm.a 4 rfl;have s46:=Ybm.a 46 rfl;clear Ybm;refine wpList_nil ?_
 go_upto_region 2 with fail
 cases e46 : ((decide (0 < (((((((s.view) + (s.last)) + (s.commit)) + (s.idle)) + ((s.L.length : Int))) + ((s.A.length : Int))) + ((s.M.length : Int))) + ((s.B.length : Int)))) || (decide ((s.V.getD s.self.toNat (0,0)) = (0,0))))
 rotate_left
 ·refine wp_cond_true ((ev s46 rfl).trans (congrArg Value.bool e46)) ?_
  go_upto_region 2 with fail
  refine wp_region_lit ?_;have Ybn:=(((Rp.nil hz).cons s2).cons s3).cons s4;clear hz s2 s3 s4
  refine Ybn.t (.bool false) (ex_assign rfl rfl) fun _ Ybo => ?_;clear Ybn
  have hz:=Ybo.z;have s6:=Ybo.a 6 rfl;clear Ybo;refine wpList_nil ?_
  go_wp2
  refine bodyPost_ret (results_tmp rfl _ _ _) rfl ⟨?_,hB.trans (hv0.mono (by omega))⟩;rw [getD_of s6]
  unfold Sta.rc9
  rw [show _ = true from e46]
  rfl
 refine wp_cond_false ((ev s46 rfl).trans (congrArg Value.bool e46)) ?_;clear s46
 go_upto_region 3 with fail
 refine wp_region_lit ?_;have Ybp:=(((Rp.nil hz).cons s2).cons s3).cons s4;clear hz s2 s3 s4
 refine Ybp.t (.int .i64 0) (ex_assign rfl rfl) fun _ Ybq => ?_;clear Ybp
 have hz:=Ybq.z;have s2:=Ybq.a 2 rfl;have s3:=Ybq.a 3 rfl;have s4:=Ybq.a 4 rfl;have s7:=Ybq.a 7 rfl;clear Ybq;refine wpList_nil ?_;have hs7 : _ = some (gw true (.int .i64 ((0 : Nat) : Int))):=s7
 go_upto_region 4 with fail
 refine v_loop 7 s.N.length (fun i T wr => T.size = 91∧T[2]? = some (gw true (.int .i64 n))∧T[3]? = some (gw true (.pointer (some ⟨w.heap.size,0,none⟩)))∧T[4]? = some (gw true (.pointer (some ⟨w.heap.size + 1,0,none⟩)))∧T[7]? = some (gw true (.int .i64 (i : Int)))∧Hid (Below w2.heap.size w2 wr∧∀ k x,k < i → s.N[k]? = some x → rab9 c n x = false)) (fun i T w h => h.2.2.2.2.1) ⟨hz,s2,s3,s4,hs7,Below.refl _ _,fun k x hk => absurd hk (Nat.not_lt_zero _)⟩ ?_;clear hz s2 s3 s4 s7 hs7;intro i R0 wr hi hh;obtain ⟨hz,s2,s3,s4,s7,HJ⟩:=hh;have hbr:=HJ.out.1;have hzr:=hbr.size;have hzw:=hB.size
 by_cases hit : i < s.N.length
 ·have d1 : decide ((i : Int) < (s.N.length : Int)) = true:=decide_eq_true (by omega)
  go_upto_region 4 with fail
  refine wp_region_lit ?_;have Ybr:=((((Rp.nil hz).cons s2).cons s3).cons s4).cons s7;clear hz s2 s3 s4 s7
  refine Ybr.t _ (ex_move rfl (Ybr.f 7)) fun _ Ybs => ?_;clear Ybr
  refine Ybs.t _ (ex_fa rfl (Ybs.f 4) (faS11 _ _)) fun _ Ybt => ?_;clear Ybs
  refine Ybt.t _ (ex_ld rfl (Ybt.f 48) (ldN8 (cell8 (HS.cell 11 _ rfl) hbr))) fun _ Ybu => ?_;clear Ybt
  refine Ybu.t _ (ex_lenN8 rfl rfl (Ybu.f 49)) fun _ Ybv => ?_;clear Ybu
  refine Ybv.t (.bool true) (ex_bin rfl (Ybv.f 47) (Ybv.f 50) (lssD8 _ _ _ _ true d1 _)) fun _ Ybw => ?_;clear Ybv
  have hz:=Ybw.z;have s2:=Ybw.a 2 rfl;have s3:=Ybw.a 3 rfl;have s4:=Ybw.a 4 rfl;have s7:=Ybw.a 7 rfl;have s51:=Ybw.a 51 rfl;clear Ybw;refine wpList_nil ?_
  go_upto_region 6 with fail
  refine wp_cond_true ((ev s51 rfl).trans rfl) ?_;clear s51 d1
  obtain ⟨x,hxi⟩ : ∃ x,s.N[i]? = some x:=⟨_,List.getElem?_eq_getElem hit⟩
  have hmem:=List.mem_of_getElem? hxi;obtain ⟨q,o,hqa,hq,hl⟩:=(HI.n.later hbr).place (by intro e;rw [e] at hit;simp at hit)
  obtain ⟨y1,hy1⟩ : ∃ y,y = wr.alloc (.cells zAn9.cs.toArray 60):=⟨_,rfl⟩
  have hb : Below wr.heap.size wr y1:=by rw [hy1];exact (Below.refl _ _).alloc (Nat.le_refl _) _
  have HA : BX7 y1 wr.heap.size zAn9.cs:=by rw [hy1];exact BX7.new _ _ _
  go_upto_region 6 with fail
  refine wp_region_lit ?_;have Ybx:=((((Rp.nil hz).cons s2).cons s3).cons s4).cons s7;clear hz s2 s3 s4 s7
  refine Ybx.t _ (ex_fa rfl (Ybx.f 4) (faS11 _ _)) fun _ Yby => ?_;clear Ybx
  refine Yby.t _ (ex_ld rfl (Yby.f 54) (ldN8 (cell8 (HS.cell 11 _ rfl) hbr))) fun _ Ybz => ?_;clear Yby
  refine Ybz.t _ (ex_move rfl (Ybz.f 7)) fun _ Yb0 => ?_;clear Ybz
  refine Yb0.t (.pointer (some ⟨q,o + i * 6,none⟩)) (ex_ix rfl (Yb0.f 55) (Yb0.f 56) (by rw [hqa];exact ix9An q o s.N.length s.nc i hit _)) fun _ Yb1 => ?_;clear Yb0
  refine Yb1.t _ (ex_ld rfl (Yb1.f 57) (ldAn9 (fun k u hu => hl i x hxi k u hu))) fun _ Yb2 => ?_;clear Yb1
  refine vw (.pointer (some ⟨wr.heap.size,0,none⟩)) y1 (want_none rfl) (ex_al rfl (by rw [hy1];exact alAn9 _)) rfl Yb2.z (by decide) (Yb2.k fun Yb3 Yb4 => ?_);clear Yb2;refine vs (sets y1 wr.heap.size 0 x.cs) (want_none rfl) (ex_st rfl (Yb4.f 8) (Yb4.f 58) (stAn9 HA x)) rfl ?_;have HP:=putAn9 HA x;have UP:=upAn9 y1 wr.heap.size x
  obtain ⟨y2,hy2⟩ : ∃ v,v = sets y1 wr.heap.size 0 x.cs:=⟨_,rfl⟩
  rw [← hy2] at HP UP ⊢;have hby : Below wr.heap.size wr y2:=hb.trans (UP.below hb.size (fun k hk => by omega));have hbx:=hbr.trans (hby.mono hzr);clear hy2 hy1 HA UP hb hl;have hzy:=hbx.size;have hz:=Yb4.z;have s2:=Yb4.a 2 rfl;have s3:=Yb4.a 3 rfl;have s4:=Yb4.a 4 rfl;have s7:=Yb4.a 7 rfl;have s8:=Yb4.a 8 rfl;clear Yb4;refine wpList_nil ?_;have HC2:=HC.bel hbx
  have xin:=(HI.nl x hmem)
  have hxL:=xin.1.later hbx
  have gd8 : ∀ {b : Bool},(b && (((decide (x.v < 0) || decide (4294967296 < x.v)) || (!lgB9 c x.s.D x.c)) == false)) = true → 0 ≤ x.v∧True:=fun h => by
   simp only [Bool.and_eq_true,beq_iff_eq,Bool.or_eq_false_iff,decide_eq_false_iff_not] at h
   exact ⟨by omega,trivial⟩
  go_upto_region 7 with fail
  refine vq_start (C:=fun v => Below y2.heap.size y2 v) (by kernel_rfl) (by kernel_rfl) (Below.refl _ _).drew ?_;have Yb5:=(((((Rp.nil hz).cons s2).cons s3).cons s4).cons s7).cons s8;clear hz s2 s3 s4 s7 s8
  refine Yb5.q _ (fun v hv => ex_fa rfl (Yb5.f 8) (fb2An _ _)) fun _ Yb6 => ?_;clear Yb5
  refine Yb6.q _ (fun v hv => ex_ld rfl (Yb6.f 59) (ldI8 (cell8 (HP.cell 3 _ rfl) hv))) fun _ Yb7 => ?_;clear Yb6
  refine Yb7.q (.bool (decide (x.v < 0))) (fun v hv => ex_bin rfl (Yb7.f 60) rfl (lssC _ _ _ _ _)) fun _ Yb8 => ?_;clear Yb7
  refine Yb8.q _ (fun v hv => ex_move rfl (Yb8.f 61)) fun _ Yb9 => ?_;clear Yb8
  refine Yb9.gq 62 rfl rfl rfl _ (fun hc v hv => ex_fa rfl (Yb9.f 8) (fb2An _ _)) fun Yca Ycb => ?_;clear Yb9
  refine Ycb.gq 62 rfl rfl rfl _ (fun hc v hv => ex_ld rfl (ev (Ycb.a 63 rfl) hc) (ldI8 (cell8 (HP.cell 3 _ rfl) hv))) fun Ycc Ycd => ?_;clear Ycb
  refine Ycd.gq 62 rfl rfl rfl (.bool (decide (4294967296 < x.v))) (fun hc v hv => ex_bin rfl (ev (Ycd.a 64 rfl) hc) rfl (gtrC _ _ _ _ _)) fun Yce Ycf => ?_;clear Ycd
  refine Ycf.q (.bool ((decide (x.v < 0)) || (decide (4294967296 < x.v)))) (fun v hv => ex_or rfl (Ycf.a 62 rfl) (Ycf.a 65 rfl) rfl) fun _ Ycg => ?_;clear Ycf
  refine Ycg.q _ (fun v hv => ex_move rfl (Ycg.f 66)) fun _ Ych => ?_;clear Ycg
  refine Ych.gq 67 rfl rfl rfl _ (fun hc v hv => ex_ld rfl (Ych.f 3) (CB7.ld (HC2.bel hv))) fun Yci Ycj => ?_;clear Ych
  refine Ycj.gq 67 rfl rfl rfl _ (fun hc v hv => ex_fa rfl (Ycj.f 8) (fb4An _ _)) fun Yck Ycl => ?_;clear Ycj
  refine Ycl.gq 67 rfl rfl rfl _ (fun hc v hv => ex_ld rfl (ev (Ycl.a 69 rfl) hc) (ldE8 (cell8 (HP.cell 5 _ rfl) hv))) fun Ycm Ycn => ?_;clear Ycl
  refine Ycn.gq 67 rfl rfl rfl _ (fun hc v hv => ex_fa rfl (Ycn.f 8) (fb3An _ _)) fun Yco Ycp => ?_;clear Ycn
  refine Ycp.gq 67 rfl rfl rfl _ (fun hc v hv => ex_ld rfl (ev (Ycp.a 71 rfl) hc) (ldI8 (cell8 (HP.cell 4 _ rfl) hv))) fun Ycq Ycr => ?_;clear Ycp
  refine vq_call (true && (((decide (x.v < 0)) || (decide (4294967296 < x.v))) == false)) (.bool (lgB9 c x.s.D x.c)) (want_g rfl rfl (Ycr.a 67 rfl)) (fun hc v hv => ex_call rfl (by simp only [List.map_toArray,List.map_cons,List.map_nil,(ev (Ycr.a 68 rfl) hc),(ev (Ycr.a 70 rfl) hc),(ev (Ycr.a 72 rfl) hc),evc] <;> rfl) rfl) (fun hc v hv => (bel8 hv (rlogged9 c x.s.D x.s.a x.s.c x.c v (hxL.later hv) (hF.ne x hmem)))) rfl Ycr.z (by decide) (Ycr.k fun Ycs Yct => ?_);clear Ycr
  refine Yct.gq 67 rfl rfl rfl (.bool (!(lgB9 c x.s.D x.c))) (fun hc v hv => ex_not rfl (ev (Yct.a 73 rfl) hc)) fun Ycu Ycv => ?_;clear Yct
  refine Ycv.q (.bool (((decide (x.v < 0)) || (decide (4294967296 < x.v))) || (!(lgB9 c x.s.D x.c)))) (fun v hv => ex_or rfl (Ycv.a 67 rfl) (Ycv.a 74 rfl) rfl) fun _ Ycw => ?_;clear Ycv
  refine Ycw.q _ (fun v hv => ex_move rfl (Ycw.f 75)) fun _ Ycx => ?_;clear Ycw
  refine Ycx.gq 76 rfl rfl rfl _ (fun hc v hv => ex_fa rfl (Ycx.f 8) (fb0An _ _)) fun Ycy Ycz => ?_;clear Ycx
  refine Ycz.gq 76 rfl rfl rfl _ (fun hc v hv => ex_ld rfl (ev (Ycz.a 77 rfl) hc) (ldI8 (cell8 (HP.cell 0 _ rfl) hv))) fun Yc0 Yc1 => ?_;clear Ycz
  refine Yc1.gq 76 rfl rfl rfl _ (fun hc v hv => ex_fa rfl (Yc1.f 8) (fb2An _ _)) fun Yc2 Yc3 => ?_;clear Yc1
  refine Yc3.gq 76 rfl rfl rfl _ (fun hc v hv => ex_ld rfl (ev (Yc3.a 79 rfl) hc) (ldI8 (cell8 (HP.cell 3 _ rfl) hv))) fun Yc4 Yc5 => ?_;clear Yc3
  refine Yc5.gq 76 rfl rfl rfl _ (fun hc v hv => ex_move rfl (Yc5.f 2)) fun Yc6 Yc7 => ?_;clear Yc5
  refine Yc7.gq 76 rfl rfl rfl (.int .i64 (x.v % n)) (fun hc v hv => ex_bin rfl (ev (Yc7.a 80 rfl) hc) (ev (Yc7.a 81 rfl) hc) (remD8 _ _ x.v n (gd8 hc).1 hn.1 (by omega) _)) fun Yc8 Yc9 => ?_;clear Yc7
  refine Yc9.gq 76 rfl rfl rfl (.bool (!decide (x.n = (x.v % n)))) (fun hc v hv => ex_bin rfl (ev (Yc9.a 78 rfl) hc) (ev (Yc9.a 82 rfl) hc) (neqC _ _ _ _ _)) fun Yda Ydb => ?_;clear Yc9
  refine Ydb.gq 76 rfl rfl rfl _ (fun hc v hv => ex_move rfl (ev (Ydb.a 83 rfl) hc)) fun Ydc Ydd => ?_;clear Ydb
  refine Ydd.gq 84 rfl rfl rfl _ (fun hc v hv => ex_fa rfl (Ydd.f 8) (fb4An _ _)) fun Yde Ydf => ?_;clear Ydd
  refine Ydf.gq 84 rfl rfl rfl _ (fun hc v hv => ex_ld rfl (ev (Ydf.a 85 rfl) hc) (ldE8 (cell8 (HP.cell 5 _ rfl) hv))) fun Ydg Ydh => ?_;clear Ydf
  refine Ydh.gq 84 rfl rfl rfl _ (fun hc v hv => ex_lenE8 rfl rfl (ev (Ydh.a 86 rfl) hc)) fun Ydi Ydj => ?_;clear Ydh
  refine Ydj.gq 84 rfl rfl rfl (.bool (decide (0 < (x.s.D.length : Int)))) (fun hc v hv => ex_bin rfl (ev (Ydj.a 87 rfl) hc) rfl (gtrC _ _ _ _ _)) fun Ydk Ydl => ?_;clear Ydj
  refine Ydl.gq 76 rfl rfl rfl (.bool ((!decide (x.n = (x.v % n))) && (decide (0 < (x.s.D.length : Int))))) (fun hc v hv => ex_and rfl (Ydl.a 84 rfl) (Ydl.a 88 rfl) hc) fun Ydm Ydn => ?_;clear Ydl
  refine Ydn.q (.bool ((((decide (x.v < 0)) || (decide (4294967296 < x.v))) || (!(lgB9 c x.s.D x.c))) || ((!decide (x.n = (x.v % n))) && (decide (0 < (x.s.D.length : Int)))))) (fun v hv => ex_or rfl (Ydn.a 76 rfl) (Ydn.a 89 rfl) rfl) fun _ Ydo => ?_;clear Ydn
  have hz:=Ydo.z;have s2:=Ydo.a 2 rfl;have s3:=Ydo.a 3 rfl;have s4:=Ydo.a 4 rfl;have s7:=Ydo.a 7 rfl;have s90:=Ydo.a 90 rfl;clear Ydo;refine vq_nil (fun x11 hx11 => ?_);have ee : (((((decide (x.v < 0)) || (decide (4294967296 < x.v))) || (!(lgB9 c x.s.D x.c))) || ((!decide (x.n = (x.v % n))) && (decide (0 < (x.s.D.length : Int)))))) = rab9 c n x:=rfl;have hb8:=hbx.trans (hx11.mono hbx.size)
  go_upto_region 8 with fail
  cases eb : rab9 c n x
  rotate_left
  ·refine wp_cond_true ((ev s90 rfl).trans (by rw [ee,eb])) ?_
   go_upto_region 8 with fail
   refine wp_region_lit ?_;have Ydp:=((((Rp.nil hz).cons s2).cons s3).cons s4).cons s7;clear hz s2 s3 s4 s7
   refine Ydp.t (.bool false) (ex_assign rfl rfl) fun _ Ydq => ?_;clear Ydp
   have hz:=Ydq.z;have s6:=Ydq.a 6 rfl;clear Ydq;refine wpList_nil ?_
   have HR : Hid (s.rc9 c n = false):=by show _ = _;unfold Sta.rc9;rw [show _ = false from e46,any_bad9 hxi eb];rfl
   go_wp2
   refine bodyPost_ret (results_tmp rfl _ _ _) rfl ⟨?_,hB.trans (hb8.mono (by omega))⟩;rw [getD_of s6,HR.out]
   rfl
  refine wp_cond_false ((ev s90 rfl).trans (by rw [ee,eb])) ?_;clear s90
  go_upto_region 5 with fail
  refine wp_region_lit ?_;have Ydr:=((((Rp.nil hz).cons s2).cons s3).cons s4).cons s7;clear hz s2 s3 s4 s7
  refine Ydr.t _ (ex_move rfl (Ydr.f 7)) fun _ Yds => ?_;clear Ydr
  refine Yds.t (.int .i64 ((i + 1 : Nat) : Int)) (ex_bin rfl (Yds.f 52) rfl (addD8 _ _ _ 1 ((i + 1 : Nat) : Int) (by rw [IntKind.wrap_i64];omega) _)) fun _ Ydt => ?_;clear Yds
  refine Ydt.t _ (ex_assign rfl (Ydt.f 53)) fun _ Ydu => ?_;clear Ydt
  have hz:=Ydu.z;have s2:=Ydu.a 2 rfl;have s3:=Ydu.a 3 rfl;have s4:=Ydu.a 4 rfl;have s7:=Ydu.a 7 rfl;clear Ydu;refine wpList_nil ?_
  exact ⟨_,rfl,by omega,hz,s2,s3,s4,s7,hb8,fun k y hk hy => by
   by_cases e : k = i
   ·subst e;rw [hxi] at hy;cases hy;exact eb
   ·exact HJ.out.2 k y (by omega) hy⟩
 ·have d1 : decide ((i : Int) < (s.N.length : Int)) = false:=decide_eq_false (by omega)
  go_upto_region 4 with fail
  refine wp_region_lit ?_;have Ydv:=((((Rp.nil hz).cons s2).cons s3).cons s4).cons s7;clear hz s2 s3 s4 s7
  refine Ydv.t _ (ex_move rfl (Ydv.f 7)) fun _ Ydw => ?_;clear Ydv
  refine Ydw.t _ (ex_fa rfl (Ydw.f 4) (faS11 _ _)) fun _ Ydx => ?_;clear Ydw
  refine Ydx.t _ (ex_ld rfl (Ydx.f 48) (ldN8 (cell8 (HS.cell 11 _ rfl) hbr))) fun _ Ydy => ?_;clear Ydx
  refine Ydy.t _ (ex_lenN8 rfl rfl (Ydy.f 49)) fun _ Ydz => ?_;clear Ydy
  refine Ydz.t (.bool false) (ex_bin rfl (Ydz.f 47) (Ydz.f 50) (lssD8 _ _ _ _ false d1 _)) fun _ Yd0 => ?_;clear Ydz
  have hz:=Yd0.z;have s51:=Yd0.a 51 rfl;clear Yd0;refine wpList_nil ?_
  go_upto_region 9 with fail
  refine wp_cond_false ((ev s51 rfl).trans rfl) ?_;clear s51 d1
  go_upto_region 9 with fail
  refine wp_region_lit ?_;have Yd1:=Rp.nil hz;clear hz
  refine Yd1.t (.bool true) (ex_assign rfl rfl) fun _ Yd2 => ?_;clear Yd1
  have hz:=Yd2.z;have s6:=Yd2.a 6 rfl;clear Yd2;refine wpList_nil ?_
  have HR : Hid (s.rc9 c n = true):=by show _ = _;unfold Sta.rc9;rw [show _ = false from e46,any_ok9 (fun k x hk hx => HJ.out.2 k x (by omega) hx)];rfl
  go_wp2
  refine bodyPost_ret (results_tmp rfl _ _ _) rfl ⟨?_,hB.trans (hbr.mono (by omega))⟩;rw [getD_of s6,HR.out]
  rfl
end Go.Proofs.YtjcedofmljkhfaaGreatDoor
