import Derived.Scope
import Derived.Test.YtpcgnjpodnebpaaGreatDoorG6
set_option maxRecDepth 100000
set_option linter.unusedVariables false
set_option linter.unusedSimpArgs false
set_option maxHeartbeats 8000000
namespace Go.Proofs.YtpcgnjpodnebpaaGreatDoor
open Go.RowKit Go.Maps Go.Shelf
open Classical
theorem ex_index8 {o : Oper} {ρ : Operand → Value} {s : TypeId} {x y : Operand} {X Y V : Value} {w : World} (ho : o.op = .index s x y) (hx : ρ x = X) (hy : ρ y = Y) (hr : (Instr.index s X Y).run Tryz.prog w = .ok V w) : (execOp ρ o).run Tryz.prog w = .ok (.value V) w:=by
 unfold execOp
 simp only [ho,hx,hy,Sem.run_bind,hr,Result.andThen_ok]
 rfl
theorem lssD8 (x y : Operand) (a b : Int) (d : Bool) (h : decide (a < b) = d) (w : World) : (do eqGuard .lss 3 x y (.int .i64 a) (.int .i64 b);binOp .lss 3 (.int .i64 a) (.int .i64 b) : Sem Value).run Tryz.prog w = .ok (.bool d) w:=by
 rw [lssC,h]
theorem ex_lenS8 {o : Oper} {ρ : Operand → Value} {i : Nat} {a : Option Addr} {n k : Nat} {w : World} (ho : o.op = .call { callee:=.builtin .len,args:=#[.tmp i],argTypes:=#[130] }) (ht : o.type = 3) (hx : ρ (.tmp i) = .slice a n k) : (execOp ρ o).run Tryz.prog w = .ok (.value (.int .i64 (n : Int))) w:=by
 unfold execOp
 simp only [ho,resolve,invoke,builtin,Sem.run_bind,Sem.run_pure,Result.andThen_ok,LA,LB,LC,hx,ht]
 go_simp
theorem faSt0 (q : Nat) (w : World) : (Instr.fieldAt 133 (.pointer (some ⟨q,0,none⟩)) 0).run Tryz.prog w = .ok (.pointer (some ⟨q,0,none⟩)) w:=by go_simp
theorem faSt1 (q : Nat) (w : World) : (Instr.fieldAt 133 (.pointer (some ⟨q,0,none⟩)) 1).run Tryz.prog w = .ok (.pointer (some ⟨q,1,none⟩)) w:=by go_simp
theorem ixS8 (q o n c i : Nat) (hi : i < n) (w : World) : (Instr.indexAt 130 (.slice (some ⟨q,o,none⟩) n c) (.int .i64 (i : Int))).run Tryz.prog w = .ok (.pointer (some ⟨q,o + i * 3,none⟩)) w:=by
 have h1 : (i : Int) < (n : Int):=by omega
 go_simp
theorem ldS8 {w : World} {q o : Nat} {x : Mk} (h0 : w.cell? ⟨q,o,none⟩ = some (.int .i64 x.n)) (h1 : w.cell? ⟨q,o + 1,none⟩ = some (.int .u64 x.h)) (h2 : w.cell? ⟨q,o + 2,none⟩ = some (.int .u64 x.l)) : (Instr.loadAt 133 (.pointer (some ⟨q,o,none⟩))).run Tryz.prog w = .ok (.agg #[.int .i64 x.n,.int .u64 x.h,.int .u64 x.l]) w:=by go_simp
theorem st_at8 {w : World} {a : Option Addr} {n c i : Nat} {L : List Mk} (h : SlY ySt w a n c L) (hi : i < L.length) : ∃ q o,a = some ⟨q,o,none⟩∧w.cell? ⟨q,o + i * 3,none⟩ = some (.int .i64 L[i].n)∧w.cell? ⟨q,o + i * 3 + 1,none⟩ = some (.int .u64 L[i].h)∧w.cell? ⟨q,o + i * 3 + 2,none⟩ = some (.int .u64 L[i].l):=by
 obtain ⟨q,o,rfl,hq,hl⟩:=h.place (by rintro rfl;simp at hi);have hg:=List.getElem?_eq_getElem hi
 exact ⟨q,o,rfl,hl _ _ hg 0 _ rfl,hl _ _ hg 1 _ rfl,hl _ _ hg 2 _ rfl⟩
def nil3 : List Value:=[.int .i64 0,.int .u64 0,.int .u64 0]
theorem al3 (w : World) : (Instr.alloc 133 true (.tuple #[])).run Tryz.prog w = .ok (.pointer (some ⟨w.heap.size,0,none⟩)) (w.alloc (.cells nil3.toArray 133)):=by
 go_simp
 first | done | rfl
def put3s (w : World) (q : Nat) (x : Mk) : World:=((w.setCell ⟨q,0,none⟩ (.int .i64 x.n)).setCell ⟨q,1,none⟩ (.int .u64 x.h)).setCell ⟨q,2,none⟩ (.int .u64 x.l)
theorem put3s_upd (w : World) (q : Nat) (x : Mk) : Upd (fun k => k = q) w (put3s w q x) :=
 (((Upd.refl (fun k => k = q) w).setCell (p:=⟨q,0,none⟩) (.inl rfl) _).setCell (p:=⟨q,1,none⟩) (.inl rfl) _).setCell (p:=⟨q,2,none⟩) (.inl rfl) _
theorem BX7.put3s {w : World} {q : Nat} (h : BX7 w q nil3) (x : Mk) : BX7 (put3s w q x) q x.cs :=
 ((h.set (j:=0) (by simp [nil3]) (.int .i64 x.n)).set (j:=1) (by simp [nil3]) (.int .u64 x.h)).set (j:=2) (by simp [nil3]) (.int .u64 x.l)
theorem st3 {w : World} {q : Nat} (h : BX7 w q nil3) (x : Mk) : (Instr.storeAt 133 (.pointer (some ⟨q,0,none⟩)) (.agg #[.int .i64 x.n,.int .u64 x.h,.int .u64 x.l])).run Tryz.prog w = .ok () (put3s w q x):=by
 have c0:=h.cell 0 _ rfl;have c1:=h.cell 1 _ rfl;have c2:=h.cell 2 _ rfl;have f0:=h.free 0;have f1:=h.free 1;have f2:=h.free 2
 unfold put3s
 go_simp
def Sta.vs (s : Sta) : Nat → List Mk
 | 0 => s.A.map Ak.sm
 | 1 => s.M.map Mk.sm
 | 2 => s.B.map Bl.sm
 | _ => s.N.map An.sm
theorem vs_at8 {s : Sta} {x1 : World} {g0 g1 g2 g3 : Nat} (p0 : SlY ySt x1 (some ⟨g0,0,none⟩) s.A.length s.A.length (s.A.map Ak.sm)) (p1 : SlY ySt x1 (some ⟨g1,0,none⟩) s.M.length s.M.length (s.M.map Mk.sm)) (p2 : SlY ySt x1 (some ⟨g2,0,none⟩) s.B.length s.B.length (s.B.map Bl.sm)) (p3 : SlY ySt x1 (some ⟨g3,0,none⟩) s.N.length s.N.length (s.N.map An.sm)) :
  ∀ j : Nat,j < 4 → ∃ a n c,(∀ v,(Instr.index 131 (.agg #[.slice (some ⟨g0,0,none⟩) s.A.length s.A.length,.slice (some ⟨g1,0,none⟩) s.M.length s.M.length,.slice (some ⟨g2,0,none⟩) s.B.length s.B.length,.slice (some ⟨g3,0,none⟩) s.N.length s.N.length]) (.int .i64 (j : Int))).run Tryz.prog v = .ok (.slice a n c) v)∧SlY ySt x1 a n c (s.vs j):=by
 intro j hj
 have hc : j = 0 ∨ j = 1 ∨ j = 2 ∨ j = 3:=by omega
 rcases hc with rfl | rfl | rfl | rfl
 ·exact ⟨_,_,_,fun v => by kernel_rfl,p0⟩
 ·exact ⟨_,_,_,fun v => by kernel_rfl,p1⟩
 ·exact ⟨_,_,_,fun v => by kernel_rfl,p2⟩
 ·exact ⟨_,_,_,fun v => by kernel_rfl,p3⟩
def lv8 (V : List (Int × Int)) (x : Mk) : Bool:=decide ((x.h,x.l) = V.getD x.n.toNat (0,0))
def Sta.livB (s : Sta) : Bool:=(((s.vs 0).all (lv8 s.V) && (s.vs 1).all (lv8 s.V)) && (s.vs 2).all (lv8 s.V)) && (s.vs 3).all (lv8 s.V)
theorem liv_ok8 {s : Sta} (h : ∀ k,k < 4 → (s.vs k).all (lv8 s.V) = true) : s.livB = true:=by
 unfold Sta.livB
 rw [h 0 (by decide),h 1 (by decide),h 2 (by decide),h 3 (by decide)]
 rfl
theorem liv_bad8 {s : Sta} {j : Nat} {x : Mk} (hj : j < 4) (hx : x ∈ s.vs j) (h : lv8 s.V x = false) : s.livB = false:=by
 have hb : (s.vs j).all (lv8 s.V) = false:=by
  rw [List.all_eq_false]
  exact ⟨x,hx,by rw [h];decide⟩
 unfold Sta.livB
 match j,hj with
 | 0,_ => rw [hb];rfl
 | 1,_ => rw [hb];simp
 | 2,_ => rw [hb];simp
 | 3,_ => rw [hb];simp
def Sta.stB (s : Sta) (c : Cg) : Bool:=((s.numB c && s.votB c) && s.livB) && s.kpB c
def Sta.ckE (s : Sta) (c : Cg) : Int:=bif c.okB then (bif s.stB c then 0 else 2) else 1
theorem num_in8 {s : Sta} {c : Cg} (hok : c.okB = true) (h : s.numB c = true) : 0 ≤ s.self∧s.self < (s.V.length : Int):=by
 simp only [Sta.numB,Bool.and_eq_true,inB_iff,decide_eq_true_eq] at h;obtain ⟨h1,_⟩:=h;have h2:=h1.1.1.1.1.2;have h3:=h1.1.1.1.2
 split at h2
 ·omega
 ·omega
theorem ckl_in8 {c : Cg} {self : Int} : ∀ (L : List Ak) (l : Int),0 ≤ l → Ak.ckl c self l L = true → ∀ x ∈ L,0 ≤ x.n∧x.n < 2 * c.F + 1
 | [],_,_,_,x,hx => by cases hx
 | y :: r,l,hl,h,x,hx => by
  unfold Ak.ckl at h
  split at h
  ·cases h
  ·rename_i h2
   rcases List.mem_cons.1 hx with rfl | hx
   ·omega
   ·exact ckl_in8 r (y.n + 1) (by omega) h x hx
theorem cklM_in8 {c : Cg} {self : Int} : ∀ (L : List Mk) (l : Int),0 ≤ l → Mk.ckl c self l L = true → ∀ x ∈ L,0 ≤ x.n∧x.n < 2 * c.F + 1
 | [],_,_,_,x,hx => by cases hx
 | y :: r,l,hl,h,x,hx => by
  unfold Mk.ckl at h
  split at h
  ·cases h
  ·rename_i h2
   rcases List.mem_cons.1 hx with rfl | hx
   ·omega
   ·exact cklM_in8 r (y.n + 1) (by omega) h x hx
theorem cklB_in8 {c : Cg} {self : Int} : ∀ (L : List Bl) (l : Int),0 ≤ l → Bl.ckl c self l L = true → ∀ x ∈ L,0 ≤ x.n∧x.n < 2 * c.F + 1
 | [],_,_,_,x,hx => by cases hx
 | y :: r,l,hl,h,x,hx => by
  unfold Bl.ckl at h
  split at h
  ·cases h
  ·rename_i h2
   rcases List.mem_cons.1 hx with rfl | hx
   ·omega
   ·exact cklB_in8 r (y.n + 1) (by omega) h x hx
theorem cklN_in8 {c : Cg} {self : Int} : ∀ (L : List An) (l : Int),0 ≤ l → An.ckl c self l L = true → ∀ x ∈ L,0 ≤ x.n∧x.n < 2 * c.F + 1
 | [],_,_,_,x,hx => by cases hx
 | y :: r,l,hl,h,x,hx => by
  unfold An.ckl at h
  split at h
  ·cases h
  ·rename_i h2
   rcases List.mem_cons.1 hx with rfl | hx
   ·omega
   ·exact cklN_in8 r (y.n + 1) (by omega) h x hx
theorem Cg.ok_of {c : Cg} (h : c.okB = true) : c.ok = true:=by
 simp only [Cg.okB,Bool.and_eq_true,inB_iff] at h
 unfold Cg.ok
 exact decide_eq_true ⟨h.1.1.1,h.1.1.2,h.1.2.1,h.1.2.2⟩
theorem vot_ck8 {s : Sta} {c : Cg} (hok : c.okB = true) (h : s.votB c = true) : Ak.ckl c s.self 0 s.A = true∧Mk.ckl c s.self 0 s.M = true∧Bl.ckl c s.self 0 s.B = true∧An.ckl c s.self 0 s.N = true:=by
 have hk:=Cg.ok_of hok;simp only [Sta.votB,Ak.ck,Mk.ck,Bl.ck,An.ck,hk,Bool.and_eq_true,decide_eq_true_eq] at h;obtain ⟨⟨⟨h1,h2⟩,h3⟩,h4⟩:=h;refine ⟨?_,?_,?_,?_⟩
 ·simp at h1;exact h1
 ·simp at h2;exact h2
 ·simp at h3;exact h3
 ·simp at h4;exact h4
theorem vot_in8 {s : Sta} {c : Cg} (hok : c.okB = true) (h : s.numB c = true∧s.votB c = true) : ∀ j : Nat,j < 4 → ∀ x ∈ s.vs j,0 ≤ x.n∧x.n < (s.V.length : Int):=by
 obtain ⟨h1,h2,h3,h4⟩:=vot_ck8 hok h.2
 have hV : (s.V.length : Int) = 2 * c.F + 1:=by
  have hn:=h.1;simp only [Sta.numB,Bool.and_eq_true,decide_eq_true_eq] at hn;have h5:=hn.1.1.1.1.1.2;have h6:=(Cg.nd_ok hok).1
  split at h5
  ·omega
  ·omega
 rw [hV];intro j hj x hx
 match j,hj,hx with
 | 0,_,hx =>
  obtain ⟨y,hy,rfl⟩:=List.mem_map.1 hx
  exact ckl_in8 _ _ (Int.le_refl _) h1 y hy
 | 1,_,hx =>
  obtain ⟨y,hy,rfl⟩:=List.mem_map.1 hx
  exact cklM_in8 _ _ (Int.le_refl _) h2 y hy
 | 2,_,hx =>
  obtain ⟨y,hy,rfl⟩:=List.mem_map.1 hx
  exact cklB_in8 _ _ (Int.le_refl _) h3 y hy
 | 3,_,hx =>
  obtain ⟨y,hy,rfl⟩:=List.mem_map.1 hx
  exact cklN_in8 _ _ (Int.le_refl _) h4 y hy
theorem live8 (s : Sta) (w : World) (hI : s.In w) (hF : s.Fit) (hN : ∀ j : Nat,j < 4 → ∀ x ∈ s.vs j,0 ≤ x.n∧x.n < (s.V.length : Int)) : Calls Tryz.prog 47 #[s.val] w fun e w' => e = .returned (.bool s.livB)∧Below w.heap.size w w':=by
 go_enter Tryz.func47,Tryz.ntmps47
 go_upto_region 0 with fail
 refine WL ?_;refine vl_gen (fun T => T.size = 31∧T[0]? = some (gw true (s.val))) ⟨rfl,rfl⟩ (fun Z0 ⟨hz,s0⟩ => ?_)
 obtain ⟨w1,hw1⟩ : ∃ y,y = w.alloc (.cells s.cs.toArray 33):=⟨_,rfl⟩
 have hb : Below w.heap.size w w1:=by rw [hw1];exact BR.alloc LR _
 have hs1 : w1.heap.size = w.heap.size + 1:=by rw [hw1];simp
 have HS : SB7 w1 (w.heap.size) s:=by rw [hw1];exact BX7.new _ _ _
 refine vw (.pointer (some ⟨w.heap.size,0,none⟩)) w1 WN (ex_box8 rfl (ev s0 rfl) (by rw [hw1];exact bxS7 _ _)) rfl hz (by decide) (fun Z1 zz kk s1x => ?_);clear kk hz s0 hw1;have hz:=zz;have s1:=s1x;clear zz s1x;have hB:=hb;clear hb;have hv0 : Below w1.heap.size w1 w1:=BR;have HI:=hI.later hB;have Ya:=(Rp.nil hz).cons s1;clear hz s1
 refine Ya.t (.bool false) (ex_assign rfl rfl) fun _ Yb => ?_;clear Ya
 have hz:=Yb.z;have s1:=Yb.a 1 rfl;clear Yb;refine WE ?_
 go_upto_region 1 with fail
 refine wp_scope_straight ?_
 go_upto_region 1 with fail
 refine WL ?_;have Yc:=(Rp.nil hz).cons s1;clear hz s1
 refine Yc.t (.bool true) (ex_assign rfl rfl) fun _ Yd => ?_;clear Yc
 have hz:=Yd.z;have s1:=Yd.a 1 rfl;have s3:=Yd.a 3 rfl;clear Yd;refine WE ?_
 go_upto_region 2 with fail
 refine wp_label ?_
 go_upto_region 2 with fail
 refine WL ?_;have Ye:=((Rp.nil hz).cons s1).cons s3;clear hz s1 s3
 refine Ye.t _ (ex_ld rfl (Ye.f 1) (SB7.ld (HS.bel hv0))) fun _ Yf => ?_;clear Ye
 refine Yf.c (ex_call rfl (by simp only [LA,LB,LC,(Yf.f 8),evc] <;> rfl) rfl) (voters8 s w1 HI hF) ?_;rintro e x1 ⟨g0,g1,g2,g3,rfl,p0,p1,p2,p3,hx1⟩;refine ⟨_,rfl,Yf.k fun Yg Yh => ?_⟩;clear Yf;have HX:=vs_at8 p0 p1 p2 p3;have HXH:=hide HX;clear HX p0 p1 p2 p3;have HN:=hide hN;clear hN
 refine Yh.t (.int .i64 0) (ex_move rfl rfl) fun _ Yi => ?_;clear Yh
 have hz:=Yi.z;have s1:=Yi.a 1 rfl;have s3:=Yi.a 3 rfl;have s9:=Yi.a 9 rfl;have s10:=Yi.a 10 rfl;clear Yi;refine WE ?_;have hs10 : _ = some (gw true (.int .i64 ((0 : Nat) : Int))):=s10
 go_upto_region 3 with fail
 refine v_loop 10 4 (fun j T wr => T.size = 31∧T[1]? = some (gw true (.pointer (some ⟨w.heap.size,0,none⟩)))∧T[3]? = some (gw true (.bool true))∧T[9]? = some (gw true (.agg #[.slice (some ⟨g0,0,none⟩) s.A.length s.A.length,.slice (some ⟨g1,0,none⟩) s.M.length s.M.length,.slice (some ⟨g2,0,none⟩) s.B.length s.B.length,.slice (some ⟨g3,0,none⟩) s.N.length s.N.length]))∧T[10]? = some (gw true (.int .i64 (j : Int)))∧Hid (Below x1.heap.size x1 wr∧∀ k,k < j → (s.vs k).all (lv8 s.V) = true)) (fun j T w h => h.2.2.2.2.1) ⟨hz,s1,s3,s9,hs10,BR,fun k hk => absurd hk (Nat.not_lt_zero _)⟩ ?_;clear hz s1 s3 s9 s10 hs10;intro j R0 wr hj hh;obtain ⟨hz,s1,s3,s9,s10,HJ⟩:=hh;have hbr:=HJ.out.1;have hzr:=hbr.size;have hzx:=hx1.size
 by_cases hjt : j < 4
 ·have d1 : decide ((j : Int) < 4) = true:=decide_eq_true (by omega)
  go_upto_region 3 with fail
  refine WL ?_;have Yj:=((((Rp.nil hz).cons s1).cons s3).cons s9).cons s10;clear hz s1 s3 s9 s10
  refine Yj.t (.bool true) (ex_bin rfl (Yj.f 10) rfl (lssD8 _ _ _ _ true d1 _)) fun _ Yk => ?_;clear Yj
  have hz:=Yk.z;have s1:=Yk.a 1 rfl;have s3:=Yk.a 3 rfl;have s9:=Yk.a 9 rfl;have s10:=Yk.a 10 rfl;have s11:=Yk.a 11 rfl;clear Yk;refine WE ?_
  go_upto_region 4 with fail
  refine wp_cond_true ((ev s11 rfl).trans rfl) ?_;clear s11 d1;obtain ⟨a,n,c,hix,hsl⟩:=HXH.out j hjt
  go_upto_region 4 with fail
  refine WL ?_;have Yl:=((((Rp.nil hz).cons s1).cons s3).cons s9).cons s10;clear hz s1 s3 s9 s10
  refine Yl.t (.slice a n c) (ex_index8 rfl (Yl.f 9) (Yl.f 10) (hix _)) fun _ Ym => ?_;clear Yl
  refine Ym.t _ (ex_assign rfl (Ym.f 12)) fun _ Yn => ?_;clear Ym
  have hz:=Yn.z;have s1:=Yn.a 1 rfl;have s3:=Yn.a 3 rfl;have s5:=Yn.a 5 rfl;have s9:=Yn.a 9 rfl;have s10:=Yn.a 10 rfl;clear Yn;refine WE ?_
  go_upto_region 5 with fail
  refine WL ?_;have Yo:=(((((Rp.nil hz).cons s1).cons s3).cons s5).cons s9).cons s10;clear hz s1 s3 s5 s9 s10
  refine Yo.t _ (ex_move rfl (Yo.f 5)) fun _ Yp => ?_;clear Yo
  refine Yp.t _ (ex_lenS8 rfl rfl (Yp.f 13)) fun _ Yq => ?_;clear Yp
  refine Yq.t (.int .i64 0) (ex_move rfl rfl) fun _ Yr => ?_;clear Yq
  have hz:=Yr.z;have s1:=Yr.a 1 rfl;have s3:=Yr.a 3 rfl;have s9:=Yr.a 9 rfl;have s10:=Yr.a 10 rfl;have s13:=Yr.a 13 rfl;have s14:=Yr.a 14 rfl;have s15:=Yr.a 15 rfl;clear Yr;refine WE ?_;have hln:=hsl.len;have hs15 : _ = some (gw true (.int .i64 ((0 : Nat) : Int))):=s15
  go_upto_region 6 with fail
  refine v_loop 15 n (fun i T wr => T.size = 31∧T[1]? = some (gw true (.pointer (some ⟨w.heap.size,0,none⟩)))∧T[3]? = some (gw true (.bool true))∧T[9]? = some (gw true (.agg #[.slice (some ⟨g0,0,none⟩) s.A.length s.A.length,.slice (some ⟨g1,0,none⟩) s.M.length s.M.length,.slice (some ⟨g2,0,none⟩) s.B.length s.B.length,.slice (some ⟨g3,0,none⟩) s.N.length s.N.length]))∧T[10]? = some (gw true (.int .i64 (j : Int)))∧T[13]? = some (gw true (.slice a n c))∧T[14]? = some (gw true (.int .i64 (n : Int)))∧T[15]? = some (gw true (.int .i64 (i : Int)))∧Hid (Below x1.heap.size x1 wr∧∀ k (hk : k < (s.vs j).length),k < i → lv8 s.V (s.vs j)[k] = true)) (fun i T w h => h.2.2.2.2.2.2.2.1) ⟨hz,s1,s3,s9,s10,s13,s14,hs15,hbr,fun k hk h => absurd h (Nat.not_lt_zero _)⟩ ?_;clear hz s1 s3 s9 s10 s13 s14 s15 hs15 hbr;intro i R1 wr2 hi hh;obtain ⟨hz,s1,s3,s9,s10,s13,s14,s15,HK⟩:=hh;have hbr:=HK.out.1;have hzr2:=hbr.size
  by_cases hit : i < n
  ·have d2 : decide ((i : Int) < (n : Int)) = true:=decide_eq_true (by omega)
   go_upto_region 6 with fail
   refine WL ?_;have Ys:=(((((((Rp.nil hz).cons s1).cons s3).cons s9).cons s10).cons s13).cons s14).cons s15;clear hz s1 s3 s9 s10 s13 s14 s15
   refine Ys.t (.bool true) (ex_bin rfl (Ys.f 15) (Ys.f 14) (lssD8 _ _ _ _ true d2 _)) fun _ Yt => ?_;clear Ys
   have hz:=Yt.z;have s1:=Yt.a 1 rfl;have s3:=Yt.a 3 rfl;have s9:=Yt.a 9 rfl;have s10:=Yt.a 10 rfl;have s13:=Yt.a 13 rfl;have s14:=Yt.a 14 rfl;have s15:=Yt.a 15 rfl;have s16:=Yt.a 16 rfl;clear Yt;refine WE ?_
   go_upto_region 7 with fail
   refine wp_cond_true ((ev s16 rfl).trans rfl) ?_;clear s16 d2
   have hil : i < (s.vs j).length:=by omega
   have hmem:=List.getElem_mem hil;have hbd:=HN.out j hjt _ hmem;obtain ⟨q,o,rfl,c0,c1,c2⟩:=st_at8 (hsl.later hbr) hil
   have HG : Hid (∀ k (hk : k < (s.vs j).length),k < i + 1 → k ≠ i → lv8 s.V (s.vs j)[k] = true):=fun k hk h1 h2 => HK.out.2 k hk (by omega)
   have hxe : Hid ((s.vs j)[i]? = some (s.vs j)[i]):=List.getElem?_eq_getElem hil
   obtain ⟨x,hx⟩ : ∃ x,x = (s.vs j)[i]:=⟨_,rfl⟩
   rw [← hx] at c0 c1 c2 hbd hmem;clear HK
   obtain ⟨y1,hy1⟩ : ∃ y,y = wr2.alloc (.cells nil3.toArray 133):=⟨_,rfl⟩
   have hb : Below wr2.heap.size wr2 y1:=by rw [hy1];exact BR.alloc LR _
   have HA : BX7 y1 wr2.heap.size nil3:=by rw [hy1];exact BX7.new _ _ _
   go_upto_region 7 with fail
   refine WL ?_;have Yu:=(((((((Rp.nil hz).cons s1).cons s3).cons s9).cons s10).cons s13).cons s14).cons s15;clear hz s1 s3 s9 s10 s13 s14 s15
   refine Yu.t _ (ex_ix rfl (Yu.f 13) (Yu.f 15) (ixS8 q o n c i hit _)) fun _ Yv => ?_;clear Yu
   refine Yv.t _ (ex_ld rfl (Yv.f 17) (ldS8 c0 c1 c2)) fun _ Yw => ?_;clear Yv
   refine vw (.pointer (some ⟨wr2.heap.size,0,none⟩)) y1 WN (ex_al rfl (by rw [hy1];exact al3 _)) rfl Yw.z (by decide) (Yw.k fun Yx Yy => ?_);clear Yw;refine vs (put3s y1 wr2.heap.size x) WN (ex_st rfl (Yy.f 7) (Yy.f 18) (st3 HA x)) rfl ?_;have HP:=HA.put3s x;have UP:=put3s_upd y1 wr2.heap.size x
   obtain ⟨y2,hy2⟩ : ∃ v,v = (put3s y1 wr2.heap.size x):=⟨_,rfl⟩
   rw [← hy2] at HP UP ⊢;have hby : Below wr2.heap.size wr2 y2:=hb.trans (UP.below hb.size (fun k hk => by omega));have hbx:=hbr.trans (hby.mono hzr2);have hbw:=hx1.trans (hbx.mono hzx);clear hy2 hy1 HA UP hb c0 c1 c2;obtain ⟨qv,ov,hva,hV1,hV2⟩:=vec_at8 (HI.v.later hbw) hbd;have hz:=Yy.z;have s1:=Yy.a 1 rfl;have s3:=Yy.a 3 rfl;have s7:=Yy.a 7 rfl;have s9:=Yy.a 9 rfl;have s10:=Yy.a 10 rfl;have s13:=Yy.a 13 rfl;have s14:=Yy.a 14 rfl;have s15:=Yy.a 15 rfl;clear Yy;refine WE ?_
   go_upto_region 8 with fail
   refine vq_start (C:=fun v => Below y2.heap.size y2 v) (by kernel_rfl) (by kernel_rfl) BR.drew ?_;have Yz:=((((((((Rp.nil hz).cons s1).cons s3).cons s7).cons s9).cons s10).cons s13).cons s14).cons s15;clear hz s1 s3 s7 s9 s10 s13 s14 s15
   refine Yz.q _ (fun v hv => ex_fa rfl (Yz.f 7) (faSt1 _ _)) fun _ Y0 => ?_;clear Yz
   refine Y0.q _ (fun v hv => ex_ld rfl (Y0.f 19) (ldDr8 (d:=(x.h,x.l)) (cell8 (HP.cell 1 _ rfl) hv) (cell8 (HP.cell 2 _ rfl) hv))) fun _ Y1 => ?_;clear Y0
   refine Y1.q _ (fun v hv => ex_fa rfl (Y1.f 1) (faS6 _ _)) fun _ Y2 => ?_;clear Y1
   refine Y2.q (.slice s.va s.V.length s.vc) (fun v hv => ex_ld rfl (Y2.f 21) (ldV8 ((HS.bel (hbw.trans (hv.mono (by have:=hbw.size;omega)))).cell 6 _ rfl))) fun _ Y3 => ?_;clear Y2
   refine Y3.q _ (fun v hv => ex_fa rfl (Y3.f 7) (faSt0 _ _)) fun _ Y4 => ?_;clear Y3
   refine Y4.q _ (fun v hv => ex_ld rfl (Y4.f 23) (ldI8 (cell8 (HP.cell 0 _ rfl) hv))) fun _ Y5 => ?_;clear Y4
   refine Y5.q _ (fun v hv => ex_ix rfl (Y5.f 22) (Y5.f 24) (hV1 _)) fun _ Y6 => ?_;clear Y5
   refine Y6.q _ (fun v hv => ex_ld rfl (Y6.f 25) (hV2 _ hv)) fun _ Y7 => ?_;clear Y6
   refine Y7.q (.bool (!decide ((x.h,x.l) = (s.V.getD x.n.toNat (0,0))))) (fun v hv => ex_bin rfl (Y7.f 20) (Y7.f 26) (neqDr7 _ _ (x.h,x.l) (s.V.getD x.n.toNat (0,0)) _)) fun _ Y8 => ?_;clear Y7
   have hz:=Y8.z;have s1:=Y8.a 1 rfl;have s3:=Y8.a 3 rfl;have s9:=Y8.a 9 rfl;have s10:=Y8.a 10 rfl;have s13:=Y8.a 13 rfl;have s14:=Y8.a 14 rfl;have s15:=Y8.a 15 rfl;have s27:=Y8.a 27 rfl;clear Y8;refine vq_nil (fun x21 hx21 => ?_);have hb8:=hbx.trans (hx21.mono hbx.size)
   go_upto_region 9 with fail
   cases e27 : decide ((x.h,x.l) = (s.V.getD x.n.toNat (0,0)))
   ·refine wp_cond_true ((ev s27 rfl).trans (by rw [e27];rfl)) ?_
    go_upto_region 9 with fail
    refine WL ?_;have Y9:=(((((((Rp.nil hz).cons s1).cons s3).cons s9).cons s10).cons s13).cons s14).cons s15;clear hz s1 s3 s9 s10 s13 s14 s15
    refine Y9.t (.bool false) (ex_assign rfl rfl) fun _ Yba => ?_;clear Y9
    have hz:=Yba.z;have s3:=Yba.a 3 rfl;clear Yba;refine WE ?_;have HR : Hid (s.livB = false):=liv_bad8 hjt (by rw [hx] at hmem;exact hmem) (by rw [← hx];exact e27)
    go_upto_region 12 with fail
    refine WL ?_;have Ybb:=(Rp.nil hz).cons s3;clear hz s3
    refine Ybb.t _ (ex_move rfl (Ybb.f 3)) fun _ Ybc => ?_;clear Ybb
    refine Ybc.t _ (ex_assign rfl (Ybc.f 30)) fun _ Ybd => ?_;clear Ybc
    have hz:=Ybd.z;have s2:=Ybd.a 2 rfl;clear Ybd;refine WE ?_;have hB9:=hide (hB.trans ((hx1.trans (hb8.mono hzx)).mono (by omega)))
    go_wp2
    try rw [Exit.noGoto_ret]
    refine bodyPost_ret (results_tmp rfl _ _ _) rfl ⟨?_,hB9.out⟩;rw [getD_of s2,HR.out]
    rfl
   ·refine wp_cond_false ((ev s27 rfl).trans (by rw [e27];rfl)) ?_
    clear s27
    go_upto_region 10 with fail
    refine WL ?_;have Ybe:=(((((((Rp.nil hz).cons s1).cons s3).cons s9).cons s10).cons s13).cons s14).cons s15;clear hz s1 s3 s9 s10 s13 s14 s15
    refine Ybe.t (.int .i64 ((i + 1 : Nat) : Int)) (ex_bin rfl (Ybe.f 15) rfl (addD8 _ _ _ 1 ((i + 1 : Nat) : Int) (by rw [IntKind.wrap_i64];have:=hsl.max;have:=hsl.cap;unfold maxLen at *;omega) _)) fun _ Ybf => ?_;clear Ybe
    refine Ybf.t _ (ex_move rfl (Ybf.f 28)) fun _ Ybg => ?_;clear Ybf
    have hz:=Ybg.z;have s1:=Ybg.a 1 rfl;have s3:=Ybg.a 3 rfl;have s9:=Ybg.a 9 rfl;have s10:=Ybg.a 10 rfl;have s13:=Ybg.a 13 rfl;have s14:=Ybg.a 14 rfl;have s15:=Ybg.a 15 rfl;clear Ybg;refine WE ?_
    exact ⟨_,rfl,by omega,hz,s1,s3,s9,s10,s13,s14,s15,hb8,fun k hk h => by
     by_cases e : k = i
     ·subst e;rw [← hx];exact e27
     ·exact HG.out k hk h e⟩
  ·have d2 : decide ((i : Int) < (n : Int)) = false:=decide_eq_false (by omega)
   go_upto_region 6 with fail
   refine WL ?_;have Ybh:=(((((((Rp.nil hz).cons s1).cons s3).cons s9).cons s10).cons s13).cons s14).cons s15;clear hz s1 s3 s9 s10 s13 s14 s15
   refine Ybh.t (.bool false) (ex_bin rfl (Ybh.f 15) (Ybh.f 14) (lssD8 _ _ _ _ false d2 _)) fun _ Ybi => ?_;clear Ybh
   have hz:=Ybi.z;have s1:=Ybi.a 1 rfl;have s3:=Ybi.a 3 rfl;have s9:=Ybi.a 9 rfl;have s10:=Ybi.a 10 rfl;have s16:=Ybi.a 16 rfl;clear Ybi;refine WE ?_
   go_upto_region 11 with fail
   refine wp_cond_false ((ev s16 rfl).trans rfl) ?_;clear s16 d2
   go_upto_region 11 with fail
   refine WL ?_;have Ybj:=((((Rp.nil hz).cons s1).cons s3).cons s9).cons s10;clear hz s1 s3 s9 s10
   refine Ybj.t (.int .i64 ((j + 1 : Nat) : Int)) (ex_bin rfl (Ybj.f 10) rfl (addD8 _ _ _ 1 ((j + 1 : Nat) : Int) (by rw [IntKind.wrap_i64];omega) _)) fun _ Ybk => ?_;clear Ybj
   refine Ybk.t _ (ex_move rfl (Ybk.f 29)) fun _ Ybl => ?_;clear Ybk
   have hz:=Ybl.z;have s1:=Ybl.a 1 rfl;have s3:=Ybl.a 3 rfl;have s9:=Ybl.a 9 rfl;have s10:=Ybl.a 10 rfl;clear Ybl;refine WE ?_
   exact ⟨_,rfl,by omega,hz,s1,s3,s9,s10,hbr,fun k hk => by
    by_cases e : k = j
    ·subst e
     rw [List.all_eq_true];intro y hy;obtain ⟨m,hm,rfl⟩:=List.mem_iff_getElem.1 hy
     exact HK.out.2 m hm (by omega)
    ·exact HJ.out.2 k (by omega)⟩
 ·have d1 : decide ((j : Int) < 4) = false:=decide_eq_false (by omega)
  go_upto_region 3 with fail
  refine WL ?_;have Ybm:=((((Rp.nil hz).cons s1).cons s3).cons s9).cons s10;clear hz s1 s3 s9 s10
  refine Ybm.t (.bool false) (ex_bin rfl (Ybm.f 10) rfl (lssD8 _ _ _ _ false d1 _)) fun _ Ybn => ?_;clear Ybm
  have hz:=Ybn.z;have s3:=Ybn.a 3 rfl;have s11:=Ybn.a 11 rfl;clear Ybn;refine WE ?_
  go_upto_region 12 with fail
  refine wp_cond_false ((ev s11 rfl).trans rfl) ?_;clear s11 d1
  obtain rfl : j = 4:=by omega
  go_upto_region 12 with fail
  refine WL ?_;have Ybo:=(Rp.nil hz).cons s3;clear hz s3
  refine Ybo.t _ (ex_move rfl (Ybo.f 3)) fun _ Ybp => ?_;clear Ybo
  refine Ybp.t _ (ex_assign rfl (Ybp.f 30)) fun _ Ybq => ?_;clear Ybp
  have hz:=Ybq.z;have s2:=Ybq.a 2 rfl;clear Ybq;refine WE ?_;have HR : Hid (s.livB = true):=liv_ok8 HJ.out.2;have hB9:=hide (hB.trans ((hx1.trans (hbr.mono hzx)).mono (by omega)))
  go_wp2
  try rw [Exit.noGoto_ret]
  refine bodyPost_ret (results_tmp rfl _ _ _) rfl ⟨?_,hB9.out⟩;rw [getD_of s2,HR.out]
  rfl
theorem state8 (c : Cg) (s : Sta) (w : World) (hI : s.In w) (hF : s.Fit) (hok : c.okB = true) : Calls Tryz.prog 20 #[c.val,s.val] w fun e w' => e = .returned (.bool (s.stB c))∧Below w.heap.size w w':=by
 go_enter Tryz.func20,Tryz.ntmps20
 go_upto_region 0 with fail
 refine WL ?_;refine vl_gen (fun T => T.size = 22∧T[0]? = some (gw true (c.val))∧T[1]? = some (gw true (s.val))) ⟨rfl,rfl,rfl⟩ (fun Z0 ⟨hz,s0,s1⟩ => ?_)
 obtain ⟨w1,hw1⟩ : ∃ y,y = w.alloc (.cells c.cs.toArray 23):=⟨_,rfl⟩
 have hb : Below w.heap.size w w1:=by rw [hw1];exact BR.alloc LR _
 have hs1 : w1.heap.size = w.heap.size + 1:=by rw [hw1];simp
 have HC : CB7 w1 (w.heap.size) c:=by rw [hw1];exact BX7.new _ _ _
 refine vw (.pointer (some ⟨w.heap.size,0,none⟩)) w1 WN (ex_box8 rfl (ev s0 rfl) (by rw [hw1];exact bxC7 _ _)) rfl hz (by decide) (fun Z1 zz kk s2x => ?_);replace s1:=ku s1;clear kk hz s0 hw1;have hz:=zz;have s2:=s2x;clear zz s2x;have hB:=hb;clear hb
 obtain ⟨w2,hw2⟩ : ∃ y,y = w1.alloc (.cells s.cs.toArray 33):=⟨_,rfl⟩
 have hb : Below w1.heap.size w1 w2:=by rw [hw2];exact BR.alloc LR _
 have hs2 : w2.heap.size = w.heap.size + 2:=by rw [hw2];simp;omega
 have HS : SB7 w2 (w.heap.size + 1) s:=by rw [hw2,← hs1];exact BX7.new _ _ _
 refine vw (.pointer (some ⟨w.heap.size + 1,0,none⟩)) w2 WN (ex_box8 rfl (ev s1 rfl) (by rw [hw2,← hs1];exact bxS7 _ _)) rfl hz (by decide) (fun Z2 zz kk s3x => ?_);replace s2:=ku s2;clear kk hz s1 hw2;have hz:=zz;have s3:=s3x;clear zz s3x;have hB:=hB.trans (hb.mono (by omega));have HC:=HC.bel hb;clear hb;have hv0 : Below w2.heap.size w2 w2:=BR;have HI:=hI.later hB;have Ya:=((Rp.nil hz).cons s2).cons s3;clear hz s2 s3
 refine Ya.t (.bool false) (ex_assign rfl rfl) fun _ Yb => ?_;clear Ya
 have hz:=Yb.z;have s2:=Yb.a 2 rfl;have s3:=Yb.a 3 rfl;clear Yb;refine WE ?_
 go_upto_region 1 with fail
 refine WL ?_;have Yc:=((Rp.nil hz).cons s2).cons s3;clear hz s2 s3
 refine Yc.t _ (ex_ld rfl (Yc.f 2) (CB7.ld (HC.bel hv0))) fun _ Yd => ?_;clear Yc
 refine Yd.t _ (ex_ld rfl (Yd.f 3) (SB7.ld (HS.bel hv0))) fun _ Ye => ?_;clear Yd
 refine vcall true (.bool (s.numB c)) WN (fun hc => ex_call rfl (by simp only [LA,LB,LC,(Ye.f 5),(Ye.f 6),evc] <;> rfl) rfl) (fun hc => numbers8 c s w2 (HI.later hv0) hF hok) rfl Ye.z (by decide) (Ye.kc fun Yf x1 hb Yg => ?_);clear Ye;have hx1:=hv0.trans (hb.mono hv0.size);clear hb
 refine Yg.t _ (ex_move rfl (Yg.f 7)) fun _ Yh => ?_;clear Yg
 refine Yh.g 8 rfl rfl _ (fun hc => ex_ld rfl (Yh.f 2) (CB7.ld (HC.bel hx1))) fun Yi Yj => ?_;clear Yh
 refine Yj.g 8 rfl rfl _ (fun hc => ex_ld rfl (Yj.f 3) (SB7.ld (HS.bel hx1))) fun Yk Yl => ?_;clear Yj
 refine vcall (true && ((s.numB c) == true)) (.bool (s.votB c)) (want_g rfl rfl (Yl.a 8 rfl)) (fun hc => ex_call rfl (by simp only [LA,LB,LC,(Yl.v 9 hc),(Yl.v 10 hc),evc] <;> rfl) rfl) (fun hc => votes8 c s x1 (HI.later hx1) hF) rfl Yl.z (by decide) (Yl.kc fun Ym x2 hb Yn => ?_);clear Yl;have hx2:=hx1.trans (hb.mono hx1.size);clear hb
 refine Yn.t (.bool ((s.numB c) && (s.votB c))) (ex_and rfl (Yn.a 8 rfl) (Yn.a 11 rfl) rfl) fun _ Yo => ?_;clear Yn
 refine Yo.t _ (ex_move rfl (Yo.f 12)) fun _ Yp => ?_;clear Yo
 refine Yp.g 13 rfl rfl _ (fun hc => ex_ld rfl (Yp.f 3) (SB7.ld (HS.bel hx2))) fun Yq Yr => ?_;clear Yp
 refine vcall (true && (((s.numB c) && (s.votB c)) == true)) (.bool s.livB) (want_g rfl rfl (Yr.a 13 rfl)) (fun hc => ex_call rfl (by simp only [LA,LB,LC,(Yr.v 14 hc),evc] <;> rfl) rfl) (fun hc => live8 s x2 (HI.later hx2) hF (vot_in8 hok (by simpa using hc))) rfl Yr.z (by decide) (Yr.kc fun Ys x3 hb Yt => ?_);clear Yr;have hx3:=hx2.trans (hb.mono hx2.size);clear hb
 refine Yt.t (.bool (((s.numB c) && (s.votB c)) && s.livB)) (ex_and rfl (Yt.a 13 rfl) (Yt.a 15 rfl) rfl) fun _ Yu => ?_;clear Yt
 refine Yu.t _ (ex_move rfl (Yu.f 16)) fun _ Yv => ?_;clear Yu
 refine Yv.g 17 rfl rfl _ (fun hc => ex_ld rfl (Yv.f 2) (CB7.ld (HC.bel hx3))) fun Yw Yx => ?_;clear Yv
 refine Yx.g 17 rfl rfl _ (fun hc => ex_ld rfl (Yx.f 3) (SB7.ld (HS.bel hx3))) fun Yy Yz => ?_;clear Yx
 refine vcall (true && ((((s.numB c) && (s.votB c)) && s.livB) == true)) (.bool (s.kpB c)) (want_g rfl rfl (Yz.a 17 rfl)) (fun hc => ex_call rfl (by simp only [LA,LB,LC,(Yz.v 18 hc),(Yz.v 19 hc),evc] <;> rfl) rfl) (fun hc => keeps8 c s x3 (HI.later hx3) hF (num_in8 hok (by simp at hc;exact hc.1.1))) rfl Yz.z (by decide) (Yz.kc fun Y0 x4 hb Y1 => ?_);clear Yz;have hx4:=hx3.trans (hb.mono hx3.size);clear hb
 refine Y1.t (.bool ((((s.numB c) && (s.votB c)) && s.livB) && (s.kpB c))) (ex_and rfl (Y1.a 17 rfl) (Y1.a 20 rfl) rfl) fun _ Y2 => ?_;clear Y1
 refine Y2.t _ (ex_assign rfl (Y2.f 21)) fun _ Y3 => ?_;clear Y2
 have hz:=Y3.z;have s4:=Y3.a 4 rfl;clear Y3;refine WE ?_
 go_wp2
 refine bodyPost_ret (results_tmp rfl _ _ _) rfl ⟨?_,hB.trans (hx4.mono (by omega))⟩;rw [getD_of s4]
 rfl
theorem check8 (c : Cg) (s : Sta) (w : World) (hI : s.In w) (hF : s.Fit) : Calls Tryz.prog 6 #[c.val,s.val] w fun e w' => e = .returned (.int .i64 (s.ckE c))∧Below w.heap.size w w':=by
 go_enter Tryz.func6,Tryz.ntmps6
 go_upto_region 0 with fail
 refine WL ?_;refine vl_gen (fun T => T.size = 14∧T[0]? = some (gw true (c.val))∧T[1]? = some (gw true (s.val))) ⟨rfl,rfl,rfl⟩ (fun Z0 ⟨hz,s0,s1⟩ => ?_)
 obtain ⟨w1,hw1⟩ : ∃ y,y = w.alloc (.cells c.cs.toArray 23):=⟨_,rfl⟩
 have hb : Below w.heap.size w w1:=by rw [hw1];exact BR.alloc LR _
 have hs1 : w1.heap.size = w.heap.size + 1:=by rw [hw1];simp
 have HC : CB7 w1 (w.heap.size) c:=by rw [hw1];exact BX7.new _ _ _
 refine vw (.pointer (some ⟨w.heap.size,0,none⟩)) w1 WN (ex_box8 rfl (ev s0 rfl) (by rw [hw1];exact bxC7 _ _)) rfl hz (by decide) (fun Z1 zz kk s2x => ?_);replace s1:=ku s1;clear kk hz s0 hw1;have hz:=zz;have s2:=s2x;clear zz s2x;have hB:=hb;clear hb
 obtain ⟨w2,hw2⟩ : ∃ y,y = w1.alloc (.cells s.cs.toArray 33):=⟨_,rfl⟩
 have hb : Below w1.heap.size w1 w2:=by rw [hw2];exact BR.alloc LR _
 have hs2 : w2.heap.size = w.heap.size + 2:=by rw [hw2];simp;omega
 have HS : SB7 w2 (w.heap.size + 1) s:=by rw [hw2,← hs1];exact BX7.new _ _ _
 refine vw (.pointer (some ⟨w.heap.size + 1,0,none⟩)) w2 WN (ex_box8 rfl (ev s1 rfl) (by rw [hw2,← hs1];exact bxS7 _ _)) rfl hz (by decide) (fun Z2 zz kk s3x => ?_);replace s2:=ku s2;clear kk hz s1 hw2;have hz:=zz;have s3:=s3x;clear zz s3x;have hB:=hB.trans (hb.mono (by omega));have HC:=HC.bel hb;clear hb;have hv0 : Below w2.heap.size w2 w2:=BR;have HI:=hI.later hB;have Ya:=((Rp.nil hz).cons s2).cons s3;clear hz s2 s3
 refine Ya.t (.int .i64 0) (ex_assign rfl rfl) fun _ Yb => ?_;clear Ya
 have hz:=Yb.z;have s2:=Yb.a 2 rfl;have s3:=Yb.a 3 rfl;clear Yb;refine WE ?_
 go_upto_region 1 with fail
 refine WL ?_;have Yc:=((Rp.nil hz).cons s2).cons s3;clear hz s2 s3
 refine Yc.t _ (ex_ld rfl (Yc.f 2) (CB7.ld (HC.bel hv0))) fun _ Yd => ?_;clear Yc
 refine vcall true (.int .i64 c.er) WN (fun hc => ex_call rfl (by simp only [LA,LB,LC,(Yd.f 6),evc] <;> rfl) rfl) (fun hc => checkconfig8 c w2) rfl Yd.z (by decide) (Yd.kc fun Ye x1 hb Yf => ?_);clear Yd;have hx1:=hv0.trans (hb.mono hv0.size);clear hb
 refine Yf.t (.bool (!decide (c.er = 0))) (ex_bin rfl (Yf.f 7) rfl (neqN8 _ _ _ _ _)) fun _ Yg => ?_;clear Yf
 refine Yg.t _ (ex_assign rfl (Yg.f 8)) fun _ Yh => ?_;clear Yg
 have hz:=Yh.z;have s2:=Yh.a 2 rfl;have s3:=Yh.a 3 rfl;have s5:=Yh.a 5 rfl;clear Yh;refine WE ?_
 go_upto_region 2 with fail
 cases hok : c.okB
 ·refine wp_cond_true ((ev s5 rfl).trans (by unfold Cg.er;rw [hok];rfl)) ?_
  go_upto_region 2 with fail
  refine WL ?_;have Yi:=((Rp.nil hz).cons s2).cons s3;clear hz s2 s3
  refine Yi.t (.int .i64 1) (ex_assign rfl rfl) fun _ Yj => ?_;clear Yi
  have hz:=Yj.z;have s4:=Yj.a 4 rfl;clear Yj;refine WE ?_
  go_wp2
  refine bodyPost_ret (results_tmp rfl _ _ _) rfl ⟨?_,hB.trans (hx1.mono (by omega))⟩;rw [getD_of s4]
  unfold Sta.ckE
  rw [hok]
  rfl
 ·refine wp_cond_false ((ev s5 rfl).trans (by unfold Cg.er;rw [hok];rfl)) ?_
  clear s5
  go_upto_region 3 with fail
  refine WL ?_;have Yk:=((Rp.nil hz).cons s2).cons s3;clear hz s2 s3
  refine Yk.t _ (ex_ld rfl (Yk.f 2) (CB7.ld (HC.bel hx1))) fun _ Yl => ?_;clear Yk
  refine Yl.t _ (ex_ld rfl (Yl.f 3) (SB7.ld (HS.bel hx1))) fun _ Ym => ?_;clear Yl
  refine vcall true (.bool (s.stB c)) WN (fun hc => ex_call rfl (by simp only [LA,LB,LC,(Ym.f 10),(Ym.f 11),evc] <;> rfl) rfl) (fun hc => state8 c s x1 (HI.later hx1) hF hok) rfl Ym.z (by decide) (Ym.kc fun Yn x2 hb Yo => ?_);clear Ym;have hx2:=hx1.trans (hb.mono hx1.size);clear hb
  refine Yo.t (.bool (!(s.stB c))) (ex_not rfl (Yo.f 12)) fun _ Yp => ?_;clear Yo
  refine Yp.t _ (ex_assign rfl (Yp.f 13)) fun _ Yq => ?_;clear Yp
  have hz:=Yq.z;have s9:=Yq.a 9 rfl;clear Yq;refine WE ?_
  go_upto_region 4 with fail
  cases e9 : s.stB c
  ·refine wp_cond_true ((ev s9 rfl).trans (by rw [e9];rfl)) ?_
   go_upto_region 4 with fail
   refine WL ?_;have Yr:=Rp.nil hz;clear hz
   refine Yr.t (.int .i64 2) (ex_assign rfl rfl) fun _ Ys => ?_;clear Yr
   have hz:=Ys.z;have s4:=Ys.a 4 rfl;clear Ys;refine WE ?_
   go_wp2
   refine bodyPost_ret (results_tmp rfl _ _ _) rfl ⟨?_,hB.trans (hx2.mono (by omega))⟩;rw [getD_of s4]
   unfold Sta.ckE
   rw [hok,e9]
   rfl
  ·refine wp_cond_false ((ev s9 rfl).trans (by rw [e9];rfl)) ?_
   clear s9
   go_upto_region 5 with fail
   refine WL ?_;have Yt:=Rp.nil hz;clear hz
   refine Yt.t (.int .i64 0) (ex_assign rfl rfl) fun _ Yu => ?_;clear Yt
   have hz:=Yu.z;have s4:=Yu.a 4 rfl;clear Yu;refine WE ?_
   go_wp2
   refine bodyPost_ret (results_tmp rfl _ _ _) rfl ⟨?_,hB.trans (hx2.mono (by omega))⟩;rw [getD_of s4]
   unfold Sta.ckE
   rw [hok,e9]
   rfl
end Go.Proofs.YtpcgnjpodnebpaaGreatDoor
namespace Go.Proofs.YtpcgnjpodnebpaaGreatDoor
open Go.RowKit Go.Maps
open Classical
/-! Regions that draw their order and end in stores over what they read: what only reads is taken first under S;the stores (late) wait for all of it,and behind them S is asked no more. -/
section
variable {P : Program} {ops : Array Oper} {Q : Exit → Act → World → Prop} {md : Region.Mode} {S : World → Prop} {late : Nat → Bool}
def wpAnyG (P : Program) (md : Region.Mode) (ops : Array Oper) (late : Nat → Bool) (Q : Exit → Act → World → Prop) (S : World → Prop) : Nat → Array Bool → Act → World → Prop
 | 0,listed,a,w => Region.ready md ops listed = []∧Q .normal a w
 | fuel + 1,listed,a,w =>
  (Region.ready md ops listed = [] → Q .normal a w) ∧
  ∀ i ∈ Region.ready md ops listed,wpOp P ops Q i (fun a' w' => ((∀ k,late k = true → (listed.setIfInBounds i true).getD k false = false) → S w')∧wpAnyG P md ops late Q S fuel (listed.setIfInBounds i true) a' w') a w
theorem wpAny_of_G : ∀ (fuel : Nat) (listed : Array Bool) (a : Act) (w : World),wpAnyG P md ops late Q S fuel listed a w → wpAny P md ops Q fuel listed a w
 | 0,_,_,_,h => h
 | fuel + 1,_,_,_,h => ⟨h.1,fun i hi => wpOp_mono (fun a' w' h' => wpAny_of_G fuel _ a' w' h'.2) (h.2 i hi)⟩
theorem getD_setb {l : Array Bool} {i k : Nat} (h : i ≠ k) (d : Bool) : (l.setIfInBounds i true).getD k d = l.getD k d:=by
 simp [Array.getD_eq_getD_getElem?,Array.getElem?_setIfInBounds,h]
theorem wpAnyG_first {i : Nat} {oi : Oper} {v : Value} (hi : ops[i]? = some oi) (hsel : ∀ (j : Nat) (o : Oper) cs b,ops[j]? = some o → o.op ≠ .select cs b)
  (hQ : ∀ c a w,Q (.panic c) (a.put oi.dst v) w → Q (.panic c) a w) (hlate : ∀ k ok,late k = true → ops[k]? = some ok → ∃ e ∈ ok.after,Region.binds md e = true∧e.on = i) (hil : late i = false) :
  ∀ (fuel : Nat) (listed : Array Bool) (a : Act) (w : World),(∀ k,late k = true → listed.getD k false = false) →
   (∀ j oj,ops[j]? = some oj → j ≠ i → listed.getD j true = false → (∀ e ∈ oj.after,Region.binds md e = true → e.on ≠ i) → oi.apart ops oj = true) →
   i ∈ Region.ready md ops listed → YieldsIf P ops S oi v a → S w →
   wpAnyG P md ops late Q S fuel (listed.setIfInBounds i true) (a.put oi.dst v) w → wpAnyG P md ops late Q S (fuel + 1) listed a w:=by
 intro fuel
 induction fuel with
 | zero =>
  intro listed a w _ _ hr hy hS H;refine ⟨fun h => (by rw [h] at hr;cases hr),fun j hj => ?_⟩
  by_cases hji : j = i
  ·subst hji;exact hy.wpOp hi hS ⟨fun _ => hS,H⟩
  ·have:=ready_mono hj hji
   rw [H.1] at this
   cases this
 | succ fuel ih =>
  intro listed a w hno hfree hr hy hS H;refine ⟨fun h => (by rw [h] at hr;cases hr),fun j hj => ?_⟩
  by_cases hji : j = i
  ·subst hji;exact hy.wpOp hi hS ⟨fun _ => hS,H⟩
  ·have h1:=H.2 j (ready_mono hj hji)
   obtain ⟨hjun,oj,hoj,hall⟩:=mem_ready.1 hj
   have hnot : ∀ e ∈ oj.after,Region.binds md e = true → e.on ≠ i:=fun e he hb heq => by
    have h1:=hall e he hb;have h0:=(mem_ready.1 hr).1;rw [heq] at h1
    rcases Nat.lt_or_ge i listed.size with h' | h'
    ·simp [h'] at h0 h1;rw [h0] at h1;cases h1
    ·simp [Array.getElem?_eq_none h'] at h1
   have hjl : late j = false:=by
    cases e : late j with
    | false => rfl
    | true =>
     obtain ⟨x,hx,hb,ho⟩:=hlate j oj e hoj
     exact absurd ho (hnot x hx hb)
   have hno2 : ∀ k,late k = true → ((listed.setIfInBounds i true).setIfInBounds j true).getD k false = false:=fun k hk => by
    rw [getD_setb (by rintro rfl;rw [hjl] at hk;cases hk),getD_setb (by rintro rfl;rw [hil] at hk;cases hk)]
    exact hno k hk
   have hno3 : ∀ k,late k = true → (listed.setIfInBounds j true).getD k false = false:=fun k hk => by
    rw [getD_setb (by rintro rfl;rw [hjl] at hk;cases hk)]
    exact hno k hk
   have h2:=wpOp_putIf hoj (hfree j oj hoj hji hjun hnot) (fun cs b => hsel i oi cs b hi) (fun cs b => hsel j oj cs b hoj) hQ hy h1
   have hfree' : ∀ k ok,ops[k]? = some ok → k ≠ i → (listed.setIfInBounds j true).getD k true = false →
     (∀ e ∈ ok.after,Region.binds md e = true → e.on ≠ i) → oi.apart ops ok = true:=fun k ok hk hki hun hno => by
    refine hfree k ok hk hki ?_ hno
    by_cases hjk : j = k
    ·subst hjk;exact hjun
    ·rw [getD_set_ne true hjk] at hun;exact hun
   refine wpOp_mono (fun a' w' h3 => ⟨fun _ => h3.2.1 hno2,ih (listed.setIfInBounds j true) a' w' hno3 hfree' (ready_mono hr (Ne.symm hji)) h3.1 (h3.2.1 hno2) ?_⟩) h2;rw [Array.setIfInBounds_comm _ _ hji]
   exact h3.2.2
theorem wpAnyG_firstW {i : Nat} {oi : Oper} {v : Value} (hi : ops[i]? = some oi) (hsel : ∀ (j : Nat) (o : Oper) cs b,ops[j]? = some o → o.op ≠ .select cs b)
  (hQ : ∀ c a w,Q (.panic c) (a.put oi.dst v) w → Q (.panic c) a w) (hil : late i = false) :
  ∀ (fuel : Nat) (listed : Array Bool) (a : Act) (w : World),
   (∀ j oj,ops[j]? = some oj → j ≠ i → listed.getD j true = false → (∀ e ∈ oj.after,Region.binds md e = true → e.on ≠ i) → oi.apart ops oj = true) →
   i ∈ Region.ready md ops listed → YieldsIf P ops (fun _ => True) oi v a → ((∀ k,late k = true → listed.getD k false = false) → S w) →
   wpAnyG P md ops late Q S fuel (listed.setIfInBounds i true) (a.put oi.dst v) w → wpAnyG P md ops late Q S (fuel + 1) listed a w:=by
 have hset : ∀ (listed : Array Bool),(∀ k,late k = true → (listed.setIfInBounds i true).getD k false = false) → ∀ k,late k = true → listed.getD k false = false:=fun listed h k hk => by
  have:=h k hk
  rwa [getD_setb (by rintro rfl;rw [hil] at hk;cases hk)] at this
 intro fuel
 induction fuel with
 | zero =>
  intro listed a w _ hr hy hS H;refine ⟨fun h => (by rw [h] at hr;cases hr),fun j hj => ?_⟩
  by_cases hji : j = i
  ·subst hji;exact hy.wpOp hi trivial ⟨fun h => hS (hset listed h),H⟩
  ·have:=ready_mono hj hji
   rw [H.1] at this
   cases this
 | succ fuel ih =>
  intro listed a w hfree hr hy hS H;refine ⟨fun h => (by rw [h] at hr;cases hr),fun j hj => ?_⟩
  by_cases hji : j = i
  ·subst hji;exact hy.wpOp hi trivial ⟨fun h => hS (hset listed h),H⟩
  ·have h1:=H.2 j (ready_mono hj hji)
   obtain ⟨hjun,oj,hoj,hall⟩:=mem_ready.1 hj
   have hnot : ∀ e ∈ oj.after,Region.binds md e = true → e.on ≠ i:=fun e he hb heq => by
    have h1:=hall e he hb;have h0:=(mem_ready.1 hr).1;rw [heq] at h1
    rcases Nat.lt_or_ge i listed.size with h' | h'
    ·simp [h'] at h0 h1;rw [h0] at h1;cases h1
    ·simp [Array.getElem?_eq_none h'] at h1
   have hno : (∀ k,late k = true → (listed.setIfInBounds j true).getD k false = false) → ∀ k,late k = true → ((listed.setIfInBounds i true).setIfInBounds j true).getD k false = false:=fun h k hk => by
    rw [Array.setIfInBounds_comm _ _ (Ne.symm hji),getD_setb (by rintro rfl;rw [hil] at hk;cases hk)]
    exact h k hk
   have h2:=wpOp_putIf hoj (hfree j oj hoj hji hjun hnot) (fun cs b => hsel i oi cs b hi) (fun cs b => hsel j oj cs b hoj) hQ hy h1
   have hfree' : ∀ k ok,ops[k]? = some ok → k ≠ i → (listed.setIfInBounds j true).getD k true = false →
     (∀ e ∈ ok.after,Region.binds md e = true → e.on ≠ i) → oi.apart ops ok = true:=fun k ok hk hki hun hno => by
    refine hfree k ok hk hki ?_ hno
    by_cases hjk : j = k
    ·subst hjk;exact hjun
    ·rw [getD_set_ne true hjk] at hun;exact hun
   refine wpOp_mono (fun a' w' h3 => ⟨fun h => h3.2.1 (hno h),ih (listed.setIfInBounds j true) a' w' hfree' (ready_mono hr (Ne.symm hji)) h3.1 (fun h => h3.2.1 (hno h)) ?_⟩) h2;rw [Array.setIfInBounds_comm _ _ hji]
   exact h3.2.2
end
def waitsB (ops : Array Oper) (late : Nat → Bool) (i : Nat) : Bool:=(List.range ops.size).all fun k => !late k || match ops[k]? with
 | none => true
 | some o => o.after.toList.any fun e => Region.binds .any e && e.on == i
def noneB (late : Nat → Bool) (listed : Array Bool) : Bool:=(List.range listed.size).all fun k => !late k || !listed.getD k false
theorem noneB_spec {late : Nat → Bool} {listed : Array Bool} (h : noneB late listed = true) (k : Nat) (hk : late k = true) : listed.getD k false = false:=by
 by_cases hl : k < listed.size
 ·have:=List.all_eq_true.1 h k (List.mem_range.2 hl)
  simpa [hk] using this
 ·simp [Array.getD_eq_getD_getElem?,Array.getElem?_eq_none (Nat.le_of_not_lt hl)]
theorem waitsB_spec {ops : Array Oper} {late : Nat → Bool} {i : Nat} (h : waitsB ops late i = true) (k : Nat) (ok : Oper) (hk : late k = true) (ho : ops[k]? = some ok) : ∃ e ∈ ok.after,Region.binds .any e = true∧e.on = i:=by
 have hl : k < ops.size:=(Array.getElem?_eq_some_iff.1 ho).1;have:=List.all_eq_true.1 h k (List.mem_range.2 hl);simp only [hk,Bool.not_true,Bool.false_or,ho] at this;obtain ⟨e,he,h2⟩:=List.any_eq_true.1 this;simp only [Bool.and_eq_true,beq_iff_eq] at h2
 exact ⟨e,by simpa using he,h2.1,h2.2⟩
structure VG (ops : Array Oper) (late : Nat → Bool) (Q : Exit → Act → World → Prop) (S : World → Prop) (fuel : Nat) (listed : Array Bool) (a : Act) (w : World) : Prop where
 out : wpAnyG Tryz.prog .any ops late (NoPanic Q) S fuel listed a w
theorem vg_start {id : Nat} {Q : Exit → Act → World → Prop} {a : Act} {w : World} {l : List Oper} (late : Nat → Bool) (S : World → Prop) (hm : Tryz.prog.follows .mixedOrders = true) (h : VG l.toArray late Q S l.length (Array.replicate l.length false) a w.drew) : (Code.region id l.toArray true).wp Tryz.prog Q a w :=
 wp_region_noPanic (wp_region_any hm (wpAny_of_G _ _ _ _ (by simpa using h.out)))
theorem vg_done {ops : Array Oper} {late : Nat → Bool} {Q : Exit → Act → World → Prop} {S : World → Prop} {fuel : Nat} {listed : Array Bool} {a : Act} {w : World} (hr : Region.ready .any ops listed = []) (h : Q .normal a w) : VG ops late Q S fuel listed a w:=by
 cases fuel with
 | zero => exact ⟨hr,NoPanic.normal h⟩
 | succ n => exact ⟨⟨fun _ => NoPanic.normal h,by rw [hr];simp⟩⟩
theorem vg_take {ops : Array Oper} {late : Nat → Bool} {o : Oper} {T : Array Value} {df : List Deferred} {w : World} {Q : Exit → Act → World → Prop} {S : World → Prop} {fuel d n : Nat} {listed : Array Bool} (i : Nat) (c : Bool) (V : Value) (hi : ops[i]? = some o) (hs : Region.noSelect ops = true) (hf : Region.free .any ops listed i = true) (hr : (Region.ready .any ops listed).contains i = true)
  (hb1 : waitsB ops late i = true) (hb2 : noneB late listed = true) (hb3 : late i = false)
  (hw : Region.wanted o (yielded ops T) = c) (he : c = true → ∀ v,S v → (execOp (⟨T,df⟩ : Act).eval o).run Tryz.prog v = .ok (.value V) v) (hd : o.dst = some d) (hz : T.size = n) (hn : d < n) (hS : S w)
  (hk : ∀ T' : Array Value,T'.size = n → (∀ j,j ≠ d → T'[j]? = T[j]?) → T'[d]? = some (gw c V) → VG ops late Q S fuel (listed.setIfInBounds i true) ⟨T',df⟩ w) : VG ops late Q S (fuel + 1) listed ⟨T,df⟩ w:=by
 cases c with
 | false =>
  refine ⟨wpAnyG_first (v:=undef) hi (Region.noSelect_spec hs) (fun _ _ _ h => h) (waitsB_spec hb1) hb3 fuel listed _ w (noneB_spec hb2) (Region.free_spec hi hf) (by simpa using hr) (.inr ⟨hw,rfl⟩) hS ?_⟩;rw [hd]
  exact (hk (T.setIfInBounds d undef) (by simp [hz]) (fun i hi => at_set_ne _ hi) (at_set _ (by omega))).out
 | true =>
  refine ⟨wpAnyG_first (v:=V) hi (Region.noSelect_spec hs) (fun _ _ _ h => h) (waitsB_spec hb1) hb3 fuel listed _ w (noneB_spec hb2) (Region.free_spec hi hf) (by simpa using hr) (.inl ⟨hw,he rfl⟩) hS ?_⟩;rw [hd]
  exact (hk (T.setIfInBounds d V) (by simp [hz]) (fun i hi => at_set_ne _ hi) (at_set _ (by omega))).out
theorem vg_takeW {ops : Array Oper} {late : Nat → Bool} {o : Oper} {T : Array Value} {df : List Deferred} {w : World} {Q : Exit → Act → World → Prop} {S : World → Prop} {fuel d n : Nat} {listed : Array Bool} (i : Nat) (c : Bool) (V : Value) (hi : ops[i]? = some o) (hs : Region.noSelect ops = true) (hf : Region.free .any ops listed i = true) (hr : (Region.ready .any ops listed).contains i = true) (hb3 : late i = false)
  (hw : Region.wanted o (yielded ops T) = c) (he : c = true → ∀ v,(execOp (⟨T,df⟩ : Act).eval o).run Tryz.prog v = .ok (.value V) v) (hd : o.dst = some d) (hz : T.size = n) (hn : d < n) (hS : (∀ k,late k = true → listed.getD k false = false) → S w)
  (hk : ∀ T' : Array Value,T'.size = n → (∀ j,j ≠ d → T'[j]? = T[j]?) → T'[d]? = some (gw c V) → VG ops late Q S fuel (listed.setIfInBounds i true) ⟨T',df⟩ w) : VG ops late Q S (fuel + 1) listed ⟨T,df⟩ w:=by
 cases c with
 | false =>
  refine ⟨wpAnyG_firstW (v:=undef) hi (Region.noSelect_spec hs) (fun _ _ _ h => h) hb3 fuel listed _ w (Region.free_spec hi hf) (by simpa using hr) (.inr ⟨hw,rfl⟩) hS ?_⟩;rw [hd]
  exact (hk (T.setIfInBounds d undef) (by simp [hz]) (fun i hi => at_set_ne _ hi) (at_set _ (by omega))).out
 | true =>
  refine ⟨wpAnyG_firstW (v:=V) hi (Region.noSelect_spec hs) (fun _ _ _ h => h) hb3 fuel listed _ w (Region.free_spec hi hf) (by simpa using hr) (.inl ⟨hw,fun v _ => he rfl v⟩) hS ?_⟩;rw [hd]
  exact (hk (T.setIfInBounds d V) (by simp [hz]) (fun i hi => at_set_ne _ hi) (at_set _ (by omega))).out
theorem late_no {late : Nat → Bool} {listed : Array Bool} {P : Prop} (k : Nat) (h : (late k && listed.getD k false) = true) : (∀ k,late k = true → listed.getD k false = false) → P:=fun h2 => by
 have h3 : late k = true∧listed.getD k false = true:=by simpa using h
 rw [h2 k h3.1] at h3
 cases h3.2
theorem wpAnyG_all {ops : Array Oper} {late : Nat → Bool} {Q : Exit → Act → World → Prop} {S : World → Prop} {rs : List Nat} {fuel : Nat} {listed : Array Bool} {a : Act} {w : World} (hr : Region.ready .any ops listed = rs) (hne : rs ≠ [])
  (h : ∀ i ∈ rs,wpOp Tryz.prog ops Q i (fun a' w' => ((∀ k,late k = true → (listed.setIfInBounds i true).getD k false = false) → S w')∧wpAnyG Tryz.prog .any ops late Q S fuel (listed.setIfInBounds i true) a' w') a w) : wpAnyG Tryz.prog .any ops late Q S (fuel + 1) listed a w :=
 ⟨fun h0 => absurd (hr ▸ h0) hne,hr ▸ h⟩
theorem vg_call {ops : Array Oper} {late : Nat → Bool} {o : Oper} {T : Array Value} {df : List Deferred} {w : World} {Q : Exit → Act → World → Prop} {S : World → Prop} {fuel d n : Nat} {listed : Array Bool} (i : Nat) {fid : FuncId} {args : Array Value} {R : Ending → World → Prop} (hi : ops[i]? = some o) (hr : Region.ready .any ops listed = [i])
  (hw : Region.wanted o (yielded ops T) = true) (he : (execOp (⟨T,df⟩ : Act).eval o).run Tryz.prog w = .ok (.enter fid args) w) (hc : Calls Tryz.prog fid args w R) (hd : o.dst = some d) (hz : T.size = n) (hn : d < n)
  (hk : ∀ (e : Ending) (w' : World),R e w' → ∃ V,e = .returned V∧S w'∧∀ T' : Array Value,T'.size = n → (∀ j,j ≠ d → T'[j]? = T[j]?) → T'[d]? = some (gw true V) → VG ops late Q S fuel (listed.setIfInBounds i true) ⟨T',df⟩ w') : VG ops late Q S (fuel + 1) listed ⟨T,df⟩ w:=by
 refine ⟨wpAnyG_all hr (by simp) (fun j hj => ?_)⟩
 obtain rfl : j = i:=by simpa using hj
 unfold wpOp
 rw [hi];simp only [hw,if_true];refine .inl ?_
 unfold Oper.wp
 rw [he,Oper.upon_enter];refine hc.mono ?_;intro e w' hR;obtain ⟨V,rfl,hS,hk'⟩:=hk e w' hR;refine ⟨fun _ => hS,?_⟩;rw [hd]
 exact (hk' (T.setIfInBounds d V) (by simp [hz]) (fun i hi => at_set_ne _ hi) (at_set _ (by omega))).out
theorem vg_store {ops : Array Oper} {late : Nat → Bool} {o : Oper} {T : Array Value} {df : List Deferred} {w : World} {Q : Exit → Act → World → Prop} {S : World → Prop} {fuel : Nat} {listed : Array Bool} (i : Nat) (w' : World) (hi : ops[i]? = some o) (hr : Region.ready .any ops listed = [i])
  (hl : (late i && decide (i < listed.size)) = true) (hw : Region.wanted o (yielded ops T) = true) (he : (execOp (⟨T,df⟩ : Act).eval o).run Tryz.prog w = .ok .skip w') (hd : o.dst = none)
  (hk : VG ops late Q S fuel (listed.setIfInBounds i true) ⟨T,df⟩ w') : VG ops late Q S (fuel + 1) listed ⟨T,df⟩ w:=by
 refine ⟨wpAnyG_all hr (by simp) (fun j hj => ?_)⟩
 obtain rfl : j = i:=by simpa using hj
 unfold wpOp
 rw [hi];simp only [hw,if_true];refine .inl ?_
 unfold Oper.wp
 rw [he,Oper.upon_skip]
 have hl2 : late j = true∧j < listed.size:=by simpa using hl
 refine ⟨fun h => ?_,?_⟩
 ·have:=h j hl2.1
  simp [Array.getD_eq_getD_getElem?,Array.getElem?_setIfInBounds,hl2.2] at this
 rw [hd]
 exact hk.out
end Go.Proofs.YtpcgnjpodnebpaaGreatDoor
namespace Go.Proofs.YtpcgnjpodnebpaaGreatDoor
open Go.RowKit Go.Maps
open Classical
variable {α : Type} {Y : Lay α}
theorem run_clearY (K : Y.Ok) (w : World) (ty : TypeId) (B g i m n cp c : Nat) (M : List α) (hM : OwnY Y B w (.slice (some ⟨g,0,none⟩) n cp) M) (hi : i + m = n) (hm0 : 0 < m) :
  ∃ w',(Builtin.clear_ #[Y.ST] ty #[.slice (some ⟨g,i * Y.k,none⟩) m c]).run Tryz.prog w = .ok (.tuple #[]) w'∧OwnY Y B w' (.slice (some ⟨g,0,none⟩) n cp) (put M i (List.replicate m Y.z))∧Upd (· = g) w w'∧w'.heap.size = w.heap.size:=by
 obtain ⟨zv,hinfo,hzc⟩:=K.info;obtain ⟨i0,hi0,hz0,hz1,hz2⟩:=info_parts hinfo;have hMn : M.length = n:=(hM.sl' K).len
 have hzs : zv.cells.size = Y.k:=by rw [hzc,List.size_toArray,K.len]
 have hml : (Builtin.zeroCells zv.cells m).toList = fl Y (List.replicate m Y.z):=by rw [zeroCells_made,hzs];exact madeY K hzc m
 rcases hM with ⟨h0,h1 | ⟨g1,cap,cur,e1,e2,e3,e4,e5,e6,e7⟩⟩
 ·have:=h1.1;cases this
 ·injection e1 with q1 q2 q3
  injection q1 with q1
  cases q1
  subst q3
  have hcs : (fl Y (List.replicate m Y.z)).length = m * Y.k:=by rw [fl_length K,List.length_replicate]
  have hfit : i * Y.k + (fl Y (List.replicate m Y.z)).length ≤ cur.size:=by rw [hcs,e6,← Nat.add_mul];exact Nat.mul_le_mul_right _ (by omega)
  have hst:=run_storeCells_at (P:=Tryz.prog) g (i * Y.k) Y.T (fl Y (List.replicate m Y.z)) 0 cur w e3 (by omega) (fl_one K _);rw [Nat.add_zero] at hst
  have hr : (Builtin.clear_ #[Y.ST] ty #[.slice (some ⟨g,i * Y.k,none⟩) m c]).run Tryz.prog w = .ok (.tuple #[]) (w.setRow g (cur.toList.take (i * Y.k) ++ fl Y (List.replicate m Y.z) ++ cur.toList.drop (i * Y.k + (fl Y (List.replicate m Y.z)).length)).toArray):=by
   cases m with
   | zero => omega
   | succ m => simp [Builtin.clear_,run_underlying K.und,zeroValue,typeInfo,hi0,hz0,hml,hst]
  refine ⟨_,hr,?_,⟨rfl,rfl,rfl,by simp,fun b hb hs => setRow_other w g b _ hs⟩,by simp⟩;have hpl : (put M i (List.replicate m Y.z)).length = M.length:=put_length (by rw [List.length_replicate];omega);refine ⟨by rw [fl_length K],.inr ⟨g,cp,_,?_,e2,setRow_heap w g cur _ Y.T (0,0) e3,?_,e5,?_,?_⟩⟩
  ·rw [hpl,← q2]
  ·rw [hpl];exact e4
  ·rw [List.size_toArray,← e6]
   simp only [List.length_append,List.length_take,List.length_drop,Array.length_toList]
   omega
  ·rw [hpl,fl_put K (by rw [List.length_replicate];omega),← e7]
   have hfit2 : i * Y.k + (fl Y (List.replicate m Y.z)).length ≤ M.length * Y.k:=by rw [hcs,← Nat.add_mul];exact Nat.mul_le_mul_right _ (by omega)
   exact splice_take hfit2
theorem clearY (K : Y.Ok) (w : World) {ops : Array Oper} {rest : List Oper} {o : Oper} {a : Act} {Q : Exit → Act → World → Prop} (hgd : o.guard = none) (d : Operand)
  (ho : o.op = .call { callee:=.builtin .clear,args:=#[d],argTypes:=#[Y.ST] }) (B g i m n cp c : Nat) (M : List α)
  (hd : a.eval d = .slice (some ⟨g,i * Y.k,none⟩) m c) (hM : OwnY Y B w (.slice (some ⟨g,0,none⟩) n cp) M) (hi : i + m = n) (hm0 : 0 < m)
  (h : ∀ w',OwnY Y B w' (.slice (some ⟨g,0,none⟩) n cp) (put M i (List.replicate m Y.z)) → Upd (· = g) w w' → w'.heap.size = w.heap.size → wpList Tryz.prog ops Q rest (a.put o.dst (.tuple #[])) w') : wpList Tryz.prog ops Q (o :: rest) a w:=by
 refine wpList_plain hgd fun K' hK' => ?_
 obtain ⟨w',hr,h1,h2,h3⟩:=run_clearY K w o.type B g i m n cp c M hM hi hm0
 unfold Oper.wp execOp
 simp only [ho,resolve,invoke,builtin,Sem.run_bind,Sem.run_pure,Result.andThen_ok,LA,LB,LC,hd,hr]
 exact hK' _ _ (h w' h1 h2 h3)
theorem OwnY.pre (K : Y.Ok) {B g n c : Nat} {w : World} {l : List α} (h : OwnY Y B w (.slice (some ⟨g,0,none⟩) n c) l) (m : Nat) (hm : m ≤ n) : OwnY Y B w (.slice (some ⟨g,0,none⟩) m c) (l.take m):=by
 have hln : l.length = n:=(h.sl' K).len
 rcases h with ⟨h0,h1 | ⟨g1,cap,cur,e1,e2,e3,e4,e5,e6,e7⟩⟩
 ·have:=h1.1;cases this
 ·injection e1 with q1 q2 q3
  injection q1 with q1
  cases q1
  subst q3
  have hl2 : (l.take m).length = m:=by rw [List.length_take];omega
  refine ⟨by rw [fl_length K],.inr ⟨g,c,cur,by rw [hl2],e2,e3,by omega,e5,e6,?_⟩⟩;rw [hl2]
  have hA : fl Y l = fl Y (l.take m) ++ fl Y (l.drop m):=by rw [← fl_append,List.take_append_drop]
  have hL : (fl Y (l.take m)).length = m * Y.k:=by rw [fl_length K,hl2]
  have : (cur.toList.take (l.length * Y.k)).take (m * Y.k) = cur.toList.take (m * Y.k):=by
   rw [List.take_take,Nat.min_eq_left (Nat.mul_le_mul_right _ (by omega))]
  rw [← this,e7,hA,← hL]
  exact List.take_left
def ovr (D : List (Int × Int)) (n h l : Int) : Bool:=decide (0 ≤ n∧n < (D.length : Int)) && decide (cmpD h l (D.getD n.toNat (0,0)).1 (D.getD n.toNat (0,0)).2 < 0)
end Go.Proofs.YtpcgnjpodnebpaaGreatDoor
namespace Go.Proofs.YtpcgnjpodnebpaaGreatDoor
open Go.RowKit Go.Maps
open Classical
theorem isover_any (D : List (Int × Int)) (a : Option Addr) (n c : Nat) (nd h l : Int) (w : World) (hD : SlY yD w a n c D) :
  Calls Tryz.prog 133 #[.slice a n c,.int .i64 nd,.agg #[.int .u64 h,.int .u64 l]] w fun e w' => e = .returned (.bool (ovr D nd h l))∧Below w.heap.size w w':=by
 have hmx:=hD.max;have hcp:=hD.cap;have hln:=hD.len
 unfold maxLen at hmx
 have HB : Hid (∀ v,Below (w.heap.size + 1) (w.alloc (.cells #[.int .u64 h,.int .u64 l] 52)) v → Below w.heap.size w v):=fun v hv => ((Below.refl _ w).alloc LR _).trans (hv.mono (by omega))
 have HV : Hid (ovr D nd h l = (decide (0 ≤ nd∧nd < (n : Int)) && decide (cmpD h l (D.getD nd.toNat (0,0)).1 (D.getD nd.toNat (0,0)).2 < 0))):=by show _ = _;unfold ovr;rw [hln]
 generalize ovr D nd h l = V at *
 by_cases h0 : 0 ≤ nd
 ·by_cases h1 : nd < (n : Int)
  ·obtain ⟨j,rfl⟩ : ∃ j : Nat,nd = (j : Int):=⟨nd.toNat,by omega⟩
   have hj : j < n:=by omega
   have hg : D[j]? = some (D[j]'(by omega)):=List.getElem?_eq_getElem (by omega);obtain ⟨q,o,rfl,hq,hl⟩:=hD.place (by rintro rfl;simp at hg);have x0:=hl j _ hg 0 _ rfl;have x1:=hl j _ hg 1 _ rfl
   have HV2 : Hid (V = decide (cmpD h l (D[j]'(by omega)).1 (D[j]'(by omega)).2 < 0)):=by
    show _ = _
    rw [HV.out,decide_eq_true (show (0 : Int) ≤ (j : Int)∧(j : Int) < (n : Int) from ⟨h0,h1⟩),Bool.true_and,Int.toNat_natCast,List.getD_eq_getElem?_getD,hg,Option.getD_some]
   clear HV hl hg
   generalize (D[j]'(by omega)) = x at *
   have CC:=hide (fun W => compare_any h l x.1 x.2 W)
   generalize cmpD h l x.1 x.2 = r at *
   have KC : Hid (∀ v,Below (w.heap.size + 1) (w.alloc (.cells #[.int .u64 h,.int .u64 l] 52)) v → (v.cell? ⟨w.heap.size,0,none⟩ = some (.int .u64 h)∧v.cell? ⟨w.heap.size,1,none⟩ = some (.int .u64 l))∧(v.cell? ⟨q,o + j * 2,none⟩ = some (.int .u64 x.1)∧v.cell? ⟨q,o + j * 2 + 1,none⟩ = some (.int .u64 x.2))):=fun v hv =>
    ⟨⟨(hv.cell (p:=⟨w.heap.size,0,none⟩) (by simp)).trans (by simp),(hv.cell (p:=⟨w.heap.size,1,none⟩) (by simp)).trans (by simp)⟩,⟨((HB.out v hv).cell (p:=⟨q,_,none⟩) hq).trans x0,((HB.out v hv).cell (p:=⟨q,_,none⟩) hq).trans x1⟩⟩
   have KZ : Hid (∀ v,Below (w.heap.size + 1) (w.alloc (.cells #[.int .u64 h,.int .u64 l] 52)) v → w.heap.size + 1 ≤ v.heap.size):=fun v hv => by have:=hv.size;simpa using this
   clear x0 x1 hD
   go_enter Tryz.func133,Tryz.ntmps133
   go_wp2_with fail
   refine region_q9 (C:=fun v => Below (w.heap.size + 1) (w.alloc (.cells #[.int .u64 h,.int .u64 l] 52)) v) (by kernel_rfl) (by kernel_rfl) BR.drew ?_;refine wqk (.int .i64 (j : Int)) ?_;simp only [pu,pn,pv,pw,px];refine wqg (.bool true) ?_;refine wqk (.bool true) ?_;refine wqk (.int .i64 (j : Int)) ?_;refine wqk (.slice (some ⟨q,o,none⟩) n c) ?_;simp only [pu,pn,pv,pw,px];refine wqg (.int .i64 (n : Int)) ?_;simp only [pu,pn,pv,pw,px];refine wqg (.bool true) ?_;refine wqk (.bool true) ?_;refine wqk (.bool true) ?_;simp only [pu,pn,pv,pw,px];refine wqv (u:=.agg #[.int .u64 h,.int .u64 l]) (by kernel_rfl) (fun v hv => by obtain ⟨⟨y0,y1⟩,_⟩:=KC.out v hv;go_simp) ?_;refine wqk (.slice (some ⟨q,o,none⟩) n c) ?_;refine wqk (.int .i64 (j : Int)) ?_;simp only [pu,pn,pv,pw,px];refine wqg (.pointer (some ⟨q,o + j * 2,none⟩)) ?_;simp only [pu,pn,pv,pw,px];refine wqv (u:=.agg #[.int .u64 x.1,.int .u64 x.2]) (by kernel_rfl) (fun v hv => by obtain ⟨_,⟨y0,y1⟩⟩:=KC.out v hv;go_simp) ?_;simp only [pu,pn,pv,pw,px];refine wqc (fid:=39) (args:=#[.agg #[.int .u64 h,.int .u64 l],.agg #[.int .u64 x.1,.int .u64 x.2]]) (u:=.int .i64 r) (by kernel_rfl) (fun v => by kernel_rfl) (fun v hv => (CC.out v).mono fun e w' h => ⟨h.1,hv.trans (h.2.mono (KZ.out v hv))⟩) ?_;simp only [pu,pn,pv,pw,px];refine wqg (.bool (decide (r < 0))) ?_;refine wqk (.bool (decide (r < 0))) ?_;refine wqk (.bool (decide (r < 0))) ?_;simp only [pu,pn,pv,pw,px];refine wqnil (fun v hv => ?_);have BV:=hide (HB.out v hv);clear hv KC KZ CC HB
   go_wp2
   go_ret
   exact ⟨by rw [HV2.out];rfl,BV.out⟩
  ·have hV : V = false:=by rw [HV.out,decide_eq_false (fun e => h1 e.2),Bool.false_and]
   subst hV;clear HV hD
   go_enter Tryz.func133,Tryz.ntmps133
   go_wp2_with fail
   refine region_q9 (C:=fun v => Below (w.heap.size + 1) (w.alloc (.cells #[.int .u64 h,.int .u64 l] 52)) v) (by kernel_rfl) (by kernel_rfl) BR.drew ?_;refine wqk (.int .i64 nd) ?_;simp only [pu,pn,pv,pw,px];refine wqg (.bool true) ?_;refine wqk (.bool true) ?_;refine wqk (.int .i64 nd) ?_;refine wqk (.slice a n c) ?_;simp only [pu,pn,pv,pw,px];refine wqg (.int .i64 (n : Int)) ?_;simp only [pu,pn,pv,pw,px];refine wqg (.bool false) ?_;refine wqk (.bool false) ?_;refine wqk (.bool false) ?_;refine wqskip (by kernel_rfl) ?_;refine wqskip (by kernel_rfl) ?_;refine wqskip (by kernel_rfl) ?_;refine wqskip (by kernel_rfl) ?_;refine wqskip (by kernel_rfl) ?_;refine wqskip (by kernel_rfl) ?_;refine wqskip (by kernel_rfl) ?_;refine wqk (.bool false) ?_;refine wqk (.bool false) ?_;simp only [pu,pn,pv,pw,px];refine wqnil (fun v hv => ?_);have BV:=hide (HB.out v hv);clear hv HB
   go_wp2
   go_ret
   exact ⟨rfl,BV.out⟩
 ·have hV : V = false:=by rw [HV.out,decide_eq_false (fun e => h0 e.1),Bool.false_and]
  subst hV;clear HV hD
  go_enter Tryz.func133,Tryz.ntmps133
  go_wp2_with fail
  refine region_q9 (C:=fun v => Below (w.heap.size + 1) (w.alloc (.cells #[.int .u64 h,.int .u64 l] 52)) v) (by kernel_rfl) (by kernel_rfl) BR.drew ?_;refine wqk (.int .i64 nd) ?_;simp only [pu,pn,pv,pw,px];refine wqg (.bool false) ?_;refine wqk (.bool false) ?_;refine wqskip (by kernel_rfl) ?_;refine wqskip (by kernel_rfl) ?_;refine wqskip (by kernel_rfl) ?_;refine wqskip (by kernel_rfl) ?_;refine wqk (.bool false) ?_;refine wqk (.bool false) ?_;refine wqskip (by kernel_rfl) ?_;refine wqskip (by kernel_rfl) ?_;refine wqskip (by kernel_rfl) ?_;refine wqskip (by kernel_rfl) ?_;refine wqskip (by kernel_rfl) ?_;refine wqskip (by kernel_rfl) ?_;refine wqskip (by kernel_rfl) ?_;refine wqk (.bool false) ?_;refine wqk (.bool false) ?_;simp only [pu,pn,pv,pw,px];refine wqnil (fun v hv => ?_);have BV:=hide (HB.out v hv);clear hv HB
  go_wp2
  go_ret
  exact ⟨rfl,BV.out⟩
theorem Ak.delete_any (p : Ak → Bool) (f : Nat) (lb : Array Value) (eg : ∀ args w,(callFunc f args).run Tryz.prog w = .ok (.enter f args) w) (L : List Ak) (n g B : Nat) (w : World) (hn : L.length = n) (h : OwnY yAkV B w (.slice (some ⟨g,0,none⟩) n n) L) (hB : B ≤ w.heap.size)
  (hp : ∀ (W : World) (x : Ak),Upd (· = g) w W → Calls Tryz.prog f (#[x.val] ++ lb) W fun e w' => e = .returned (.bool (p x))∧Below W.heap.size W w') :
  Calls Tryz.prog 131 #[.slice (some ⟨g,0,none⟩) n n,.func (.func f) #[] lb] w fun e w' => ∃ m : Nat,e = .returned (.slice (some ⟨g,0,none⟩) m n)∧OwnY yAkV B w' (.slice (some ⟨g,0,none⟩) m n) (L.filter (fun x => !p x))∧Below B w w':=by
 have hgb : B ≤ g∧g < w.heap.size:=by
  obtain ⟨_,_,ee,_,_,_,h4⟩:=h.form
  injection ee with ee
  obtain ⟨g',e2,h6,h5⟩:=h4 _ ee.symm
  cases e2
  exact ⟨h6,h5⟩
 have hnm : n ≤ 9223372036854775807:=by have:=(h.sl' kAkV).max;unfold maxLen at this;omega
 have O:=hide h;have HN:=hide hn;have HP:=hide hp;have CI:=hide (Ak.index_any p f lb eg L (some ⟨g,0,none⟩) n n w (h.sl' kAkV) (fun W x hW => (hp W x (Upd.of_below hW)).mono fun e w' hq => ⟨hq.1,hW.trans (hq.2.mono hW.size)⟩));clear h hn hp
 cases hf : L.findIdx? p with
 | none =>
  have hix : ix p L = -1:=by unfold ix;rw [hf]
  have hfl : Hid (L.filter (fun x => !p x) = L):=by
   show _ = _
   rw [List.filter_eq_self];intro x hx;have:=(List.findIdx?_eq_none_iff.1 hf) x hx
   simp [this]
  rw [hix] at CI;clear hf hix
  go_enter Tryz.func131,Tryz.ntmps131
  go_wp2_with fail
  refine CI.out.mono ?_;rintro e w1 ⟨rfl,b1⟩;have O1:=hide (O.out.grow b1);clear CI
  dsimp only
  go_wp2
  go_ret
  exact ⟨n,rfl,by rw [hfl.out];exact O1.out,b1.mono hB⟩
 | some i0 =>
  have hix : ix p L = (i0 : Int):=by unfold ix;rw [hf]
  obtain ⟨hil,hpi,hno⟩:=List.findIdx?_eq_some_iff_getElem.1 hf
  have hin : i0 < n:=by rw [← HN.out];exact hil
  have hst : Hid (L.take i0 = (L.take (i0 + 1)).filter (fun x => !p x)):=by
   show _ = _
   rw [List.take_add_one,List.getElem?_eq_getElem hil,Option.toList_some,List.filter_append,List.filter_cons,hpi];simp only [Bool.not_true,Bool.false_eq_true,if_false,List.filter_nil,List.append_nil]
   symm
   rw [List.filter_eq_self];intro x hx;obtain ⟨j,hj,rfl⟩:=List.mem_iff_getElem.1 hx;rw [List.length_take] at hj;have:=hno j (by omega);rw [List.getElem_take]
   simpa using this
  rw [hix] at CI;clear hf hix hno hpi
  have hm1 : ((i0 : Int) == -1) = false:=by rw [beq_eq_false_iff_ne];omega
  have hw1 : IntKind.i64.wrap ((i0 : Int) + 1) = (i0 : Int) + 1:=by rw [IntKind.wrap_i64];omega
  go_enter Tryz.func131,Tryz.ntmps131
  go_wp2_with fail
  refine CI.out.mono ?_;rintro e w1 ⟨rfl,b1⟩;have O1:=hide (O.out.grow b1);clear CI O
  dsimp only
  go_wp2_with fail
  go_loopw [6,5] (fun jj ii wr => ∃ (i j : Nat) (XX : List Ak),ii = .int .i64 (i : Int)∧jj = .int .i64 (j : Int)∧i < j∧j ≤ n∧Hid (OwnY yAkV B wr (.slice (some ⟨g,0,none⟩) n n) XX)∧Hid (XX.take i = (L.take j).filter (fun x => !p x)∧XX.drop j = L.drop j)∧Hid (Upd (· = g) w wr)) (fun jj _ _ => n - (intOf jj).toNat)
  case atStart => exact ⟨i0,i0 + 1,L,rfl,by go_num,by omega,by omega,O1,⟨hst.out,rfl⟩,Upd.of_below b1⟩
  case round =>
   clear b1 O1 hst;obtain ⟨i,j,XX,rfl,rfl,hij,hj,hO,hX,hU⟩:=hrel;have hXl : Hid (XX.length = n):=(hO.out.sl' kAkV).len;have hUs:=hU.out.size
   by_cases hlt : j < n
   ·have hjl : j < L.length:=by rw [HN.out];exact hlt
    have hgx : XX[j]? = some L[j]:=by
     have h1 : (XX.drop j)[0]? = (L.drop j)[0]?:=by rw [hX.out.2]
     rw [List.getElem?_drop,List.getElem?_drop,Nat.add_zero,List.getElem?_eq_getElem hjl] at h1
     exact h1
    obtain ⟨q,o,ea,hq,y0,y1,y2,y3⟩:=(hO.out.sl' kAkV).AkV hgx
    cases ea
    simp only [Nat.zero_add] at y0 y1 y2 y3
    have hcall:=fun W hW => HP.out W L[j] hW
    have hskip : Hid (p L[j] = true → XX.take i = (L.take (j + 1)).filter (fun x => !p x)):=fun hpx => by
     rw [hX.out.1,List.take_add_one,List.getElem?_eq_getElem hjl,Option.toList_some,List.filter_append,List.filter_cons,hpx]
     simp
    have hkeep : Hid (p L[j] = false → (XX.set i L[j]).take (i + 1) = (L.take (j + 1)).filter (fun x => !p x)):=fun hpx => by
     have hi2 : i < XX.length:=by rw [hXl.out];omega
     rw [List.take_add_one,List.getElem?_set_self hi2,Option.toList_some,List.take_set_of_le LR,hX.out.1,List.take_add_one,List.getElem?_eq_getElem hjl,Option.toList_some,List.filter_append,List.filter_cons,hpx]
     simp
    have hdrop : Hid (XX.drop (j + 1) = L.drop (j + 1)∧∀ x,(XX.set i x).drop (j + 1) = L.drop (j + 1)):=by
     have h1 : XX.drop (j + 1) = L.drop (j + 1):=by
      rw [← List.drop_drop,← List.drop_drop,hX.out.2]
     exact ⟨h1,fun x => by rw [List.drop_set_of_lt (by omega)];exact h1⟩
    have hgi : Hid (XX[i]? = some (XX[i]'(by rw [hXl.out];omega))):=List.getElem?_eq_getElem _;clear hgx hX
    generalize L[j] = x at *
    unfold Ak.val at hcall
    have bA : Below wr.heap.size wr (wr.alloc (.cells #[.int .i64 x.n,.int .u64 x.h,.int .u64 x.l,.int .i64 x.p] 141)):=(Below.refl _ wr).alloc LR _;have UA:=hide (hU.out.trans (Upd.of_below bA));have OA:=hide (hO.out.alloc (.cells #[.int .i64 x.n,.int .u64 x.h,.int .u64 x.l,.int .i64 x.p] 141));have hcl:=hide (hcall _ UA.out);clear hO hU bA hcall
    cases hpx : p x with
    | true =>
     have ht:=hide (hskip.out hpx);clear hskip hkeep
     go_wp2_with (go_at_fn f;refine (hpx ▸ hcl.out).mono ?_;rintro e w2 ⟨rfl,b2⟩)
     go_round
     case rel => exact ⟨i,j + 1,XX,rfl,by go_num,by omega,by omega,OA.out.grow b2,⟨ht.out,hdrop.out.1⟩,UA.out.trans (Upd.of_below b2)⟩
     case measure => simp [intOf];omega
    | false =>
     have ht:=hide (hkeep.out hpx);clear hskip hkeep
     generalize hXi : (XX[i]'(by rw [hXl.out];omega)) = xi at hgi
     clear hXi
     have hii : (i : Int) < (n : Int):=by omega
     go_wp2_with (first
      | (go_at_fn f;refine (hpx ▸ hcl.out).mono ?_;rintro e w2 ⟨rfl,b2⟩;have O2:=hide (OA.out.grow b2);have U2:=hide (UA.out.trans (Upd.of_below b2));have z2:=b2.size;have hbx:=x.box wr w2 (by simpa using b2);obtain ⟨z0,z1,z2,z3⟩:=hbx;clear b2)
      | (refine storeY kAkV _ rfl 141 (.tmp 33) (.tmp 32) rfl B g n n XX i 0 xi x _ rfl rfl hgi.out (by kernel_rfl) (by exact (by decide : 4 ≤ 4)) rfl O2.out ?_;intro w3 o3 u3 z3;have O3:=hide o3;have U3:=hide (U2.out.trans u3);clear o3 u3)
      | go_in)
     go_round
     case rel => exact ⟨i + 1,j + 1,XX.set i x,by go_num,by go_num,by omega,by omega,O3,⟨ht.out,hdrop.out.2 x⟩,U3⟩
     case measure => simp [intOf];omega
   ·obtain rfl : j = n:=by omega
    have hii : (i : Int) ≤ (j : Int):=by omega
    have hi1 : ¬ (j = i):=by omega
    go_wp2_with (refine clearY kAkV _ rfl (.tmp 38) rfl B g i (j - i) j j (j - i) XX rfl hO.out (by omega) (by omega) ?zk)
    intro w2 o2 u2 z2;have O2:=o2.pre kAkV i (by omega)
    have e1 : (Go.Proofs.YtpcgnjpodnebpaaGreatDoor.put XX i (List.replicate (j - i) yAkV.z)).take i = L.filter (fun x => !p x):=by
     have hl : (XX.take i).length = i:=by rw [List.length_take,hXl.out];omega
     unfold Go.Proofs.YtpcgnjpodnebpaaGreatDoor.put
     rw [List.append_assoc,List.take_append_of_le_length (by omega),List.take_of_length_le (by omega),hX.out.1,List.take_of_length_le (by rw [HN.out];exact LR)]
    rw [e1] at O2;have O3:=hide O2;have U3:=hide (hU.out.trans u2);clear o2 u2 O2 e1 hO hX
    go_wp2
    go_ret
    exact ⟨i,rfl,O3.out,U3.out.below hB (fun k e => by subst e;exact hgb.1)⟩
theorem Ak.f60 (args : Array Value) (w : World) : (callFunc 132 args).run Tryz.prog w = .ok (.enter 132 args) w:=enters_of Tryz.func132 (by kernel_rfl) rfl args w
theorem Ak.over_any (D : List (Int × Int)) (x : Ak) (a : Option Addr) (n c b : Nat) (w : World) (hb : b < w.heap.size) (hc : w.cell? ⟨b,0,none⟩ = some (.slice a n c)) (hD : SlY yD w a n c D) : Calls Tryz.prog 132 #[x.val,.pointer (some ⟨b,0,none⟩)] w fun e w' => e = .returned (.bool (ovr D x.n x.h x.l))∧Below w.heap.size w w':=by
 have hbW : b ≠ w.heap.size:=by omega
 have HB : Hid (∀ v,Below (w.heap.size + 1) (w.alloc (.cells #[.int .i64 x.n,.int .u64 x.h,.int .u64 x.l,.int .i64 x.p] 141)) v → Below w.heap.size w v):=fun v hv => ((Below.refl _ w).alloc LR _).trans (hv.mono (by omega))
 have KH : Hid (∀ v,Below (w.heap.size + 1) (w.alloc (.cells #[.int .i64 x.n,.int .u64 x.h,.int .u64 x.l,.int .i64 x.p] 141)) v → (v.cell? ⟨w.heap.size,0,none⟩ = some (.int .i64 x.n)∧v.cell? ⟨w.heap.size,1,none⟩ = some (.int .u64 x.h)∧v.cell? ⟨w.heap.size,2,none⟩ = some (.int .u64 x.l)∧v.cell? ⟨w.heap.size,3,none⟩ = some (.int .i64 x.p))∧v.cell? ⟨b,0,none⟩ = some (.slice a n c)):=fun v hv => ⟨x.box w v hv,((HB.out v hv).cell (p:=⟨b,0,none⟩) hb).trans hc⟩
 have CO:=hide (fun W (hW : Below w.heap.size w W) => isover_any D a n c x.n x.h x.l W (hD.later hW))
 generalize ovr D x.n x.h x.l = V at *
 clear hc hD
 show Calls Tryz.prog 132 #[.agg #[.int .i64 x.n,.int .u64 x.h,.int .u64 x.l,.int .i64 x.p],.pointer (some ⟨b,0,none⟩)] w _
 go_enter Tryz.func132,Tryz.ntmps132
 go_wp2_with fail
 refine region_q9 (C:=fun v => Below (w.heap.size + 1) (w.alloc (.cells #[.int .i64 x.n,.int .u64 x.h,.int .u64 x.l,.int .i64 x.p] 141)) v) (by kernel_rfl) (by kernel_rfl) BR.drew ?_;refine wqv (u:=.slice a n c) (by kernel_rfl) (fun v hv => by obtain ⟨_,y0⟩:=KH.out v hv;go_simp) ?_;simp only [pu,pn,pv,pw,px];refine wqv (u:=x.val) (by kernel_rfl) (fun v hv => by obtain ⟨⟨y0,y1,y2,y3⟩,_⟩:=KH.out v hv;go_simp;rfl) ?_;refine wqk (.iface 141 x.val) ?_;simp only [pu,pn,pv,pw,px];refine wqi (fid:=172) (args:=#[x.val]) (AS:=#[]) (V:=.iface 141 x.val) (u:=.int .i64 x.n) (by kernel_rfl) _ _ rfl (by kernel_rfl) (by kernel_rfl) (fun v => x.ifnode v) (fun v hv => (x.node_any v).mono fun e w' h => ⟨h.1,hv.trans (h.2.mono (by have:=hv.size;rwa [World.size_alloc] at this))⟩) ?_;simp only [pu,pn,pv,pw,px];refine wqv (u:=x.val) (by kernel_rfl) (fun v hv => by obtain ⟨⟨y0,y1,y2,y3⟩,_⟩:=KH.out v hv;go_simp;rfl) ?_;refine wqk (.iface 141 x.val) ?_;simp only [pu,pn,pv,pw,px];refine wqi (fid:=170) (args:=#[x.val]) (AS:=#[]) (V:=.iface 141 x.val) (u:=.agg #[.int .u64 x.h,.int .u64 x.l]) (by kernel_rfl) _ _ rfl (by kernel_rfl) (by kernel_rfl) (fun v => x.ifdraw v) (fun v hv => (x.draw_any v).mono fun e w' h => ⟨h.1,hv.trans (h.2.mono (by have:=hv.size;rwa [World.size_alloc] at this))⟩) ?_;simp only [pu,pn,pv,pw,px];refine wqc (fid:=133) (args:=#[.slice a n c,.int .i64 x.n,.agg #[.int .u64 x.h,.int .u64 x.l]]) (u:=.bool V) (by kernel_rfl) (fun v => by kernel_rfl) (fun v hv => (CO.out v (HB.out v hv)).mono fun e w' h => ⟨h.1,hv.trans (h.2.mono (by have:=hv.size;rwa [World.size_alloc] at this))⟩) ?_;refine wqk (.bool V) ?_;simp only [pu,pn,pv,pw,px];refine wqnil (fun v hv => ?_);have BV:=hide (HB.out v hv);clear hv KH CO HB
 go_wp2
 go_ret
 exact ⟨rfl,BV.out⟩
def Ak.prn (L : List Ak) (D : List (Int × Int)) : List Ak:=L.filter (fun x => !ovr D x.n x.h x.l)
theorem Ak.prune_any (L : List Ak) (D : List (Int × Int)) (a : Option Addr) (vn vc n g B : Nat) (w : World) (hn : L.length = n) (h : OwnY yAkV B w (.slice (some ⟨g,0,none⟩) n n) L) (hB : B ≤ w.heap.size) (hD : SlY yD w a vn vc D) (hDg : ∀ z,a = some z → D ≠ [] → z.block ≠ g) :
  Calls Tryz.prog 91 #[.slice (some ⟨g,0,none⟩) n n,.slice a vn vc] w fun e w' => ∃ m : Nat,e = .returned (.slice (some ⟨g,0,none⟩) m n)∧OwnY yAkV B w' (.slice (some ⟨g,0,none⟩) m n) (Ak.prn L D)∧Below B w w':=by
 have hgl : g < w.heap.size:=by
  obtain ⟨_,_,ee,_,_,_,h4⟩:=h.form
  injection ee with ee
  obtain ⟨g',e2,_,h5⟩:=h4 _ ee.symm
  cases e2
  exact h5
 have b1 : Below w.heap.size w (w.alloc (.cells #[.slice a vn vc] 27)):=(Below.refl _ w).alloc LR _;have O1:=h.alloc (.cells #[.slice a vn vc] 27);have cd:=Ak.delete_any (fun x => ovr D x.n x.h x.l) 132 #[.pointer (some ⟨w.heap.size,0,none⟩)] Ak.f60 L n g B (w.alloc (.cells #[.slice a vn vc] 27)) hn O1 (by simp;omega) (fun W x hU => Ak.over_any D x a vn vc w.heap.size W (by have:=hU.size;simp at this;omega) ((hU.cell (p:=⟨w.heap.size,0,none⟩) (by simp) (by show ¬ (w.heap.size = g);omega)).trans (by simp)) ((hD.later b1).upd hU (fun z hz hne => hDg z hz hne)));have CD:=hide cd;have B1:=hide b1;clear cd b1 O1 h hD hDg
 go_enter Tryz.func91,Tryz.ntmps91
 go_wp2_with fail
 refine CD.out.mono ?_;rintro e w2 ⟨m,rfl,o2,b2⟩;have O2:=hide o2;clear o2 CD
 dsimp only
 go_wp2
 go_ret
 exact ⟨m,rfl,O2.out,(B1.out.mono hB).trans b2⟩
theorem Ak.Prune_any (L : List Ak) (D : List (Int × Int)) (a av : Option Addr) (n c vn vc : Nat) (w : World) (h : SlY yAkA w a n c L) (hD : SlY yD w av vn vc D) (hm : n * 32 ≤ 281474976710656) :
  Calls Tryz.prog 60 #[.slice a n c,.slice av vn vc] w fun e w' => ∃ v,e = .returned v∧OwnY yAkA w.heap.size w' v (Ak.prn L D)∧Below w.heap.size w w':=by
 have hln:=h.len;have ch:=hide (Ak.hold_any L a n c w h hm);have HD:=hide hD
 have HL : Hid ((Ak.prn L D).length * 32 ≤ 281474976710656):=by
  show _ ≤ _
  have h1 : (Ak.prn L D).length ≤ n:=by rw [← hln];exact List.length_filter_le _ _
  have h2:=Nat.mul_le_mul_right 32 h1
  omega
 clear h hD
 go_enter Tryz.func60,Tryz.ntmps60
 go_wp2_with fail
 refine ch.out.mono ?_;rintro e w1 ⟨rfl,o1,b1⟩;have z1:=b1.size
 have cp:=hide (Ak.prune_any L D av vn vc n w.heap.size w.heap.size w1 hln o1 z1 (HD.out.later b1) (fun z hz hne => by
  rcases HD.out.at_ z hz with e | ⟨q,o,rfl,hq,_⟩
  ·exact absurd e hne
  ·show q ≠ w.heap.size
   omega))
 clear ch o1
 dsimp only
 go_wp2_with fail
 refine cp.out.mono ?_;rintro e w2 ⟨m,rfl,o2,b2⟩;have s2:=o2.sl' kAkV;have hm2:=s2.len;have B2:=hide (b1.trans b2);have z2:=b2.size;have ct:=hide (Ak.tell_any (Ak.prn L D) _ m n w2 s2 (by rw [← hm2];exact HL.out));clear cp o2 s2 b1 b2
 dsimp only
 go_wp2_with fail
 refine ct.out.mono ?_;rintro e w3 ⟨rfl,o3,b3⟩;have O3:=hide (o3.low (B':=w.heap.size) (by omega));have B3:=hide (B2.out.trans (b3.mono (by omega)));clear ct o3 b3
 dsimp only
 go_wp2
 go_ret
 exact ⟨_,rfl,O3.out,B3.out⟩
end Go.Proofs.YtpcgnjpodnebpaaGreatDoor
