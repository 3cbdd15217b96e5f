import Derived.Scope
import Derived.Test.YtgncpcfncojgoaaGreatDoorF6
set_option maxRecDepth 100000
set_option linter.unusedVariables false
set_option linter.unusedSimpArgs false
namespace Go.Proofs.YtgncpcfncojgoaaGreatDoor
open Go.RowKit Go.Maps Go.Shelf
open Classical
theorem ex_index8 {o : Oper} {ρ : Operand → Value} {s : TypeId} {x y : Operand} {X Y V : Value} {w : World} (ho : o.op = .index s x y) (hx : ρ x = X) (hy : ρ y = Y) (hr : (Instr.index s X Y).run Tryz.prog w = .ok V w) : (execOp ρ o).run Tryz.prog w = .ok (.value V) w:=by
 unfold execOp
 simp only [ho,hx,hy,Sem.run_bind,hr,Result.andThen_ok]
 rfl
theorem lssD8 (x y : Operand) (a b : Int) (d : Bool) (h : decide (a < b) = d) (w : World) : (do eqGuard .lss 3 x y (.int .i64 a) (.int .i64 b);binOp .lss 3 (.int .i64 a) (.int .i64 b) : Sem Value).run Tryz.prog w = .ok (.bool d) w:=by
 rw [lssC,h]
theorem ex_lenS8 {o : Oper} {ρ : Operand → Value} {i : Nat} {a : Option Addr} {n k : Nat} {w : World} (ho : o.op = .call { callee:=.builtin .len,args:=#[.tmp i],argTypes:=#[216] }) (ht : o.type = 3) (hx : ρ (.tmp i) = .slice a n k) : (execOp ρ o).run Tryz.prog w = .ok (.value (.int .i64 (n : Int))) w:=by
 unfold execOp
 simp only [ho,resolve,invoke,builtin,Sem.run_bind,Sem.run_pure,Result.andThen_ok,List.map_toArray,List.map_cons,List.map_nil,hx,ht]
 go_simp
theorem faSt0 (q : Nat) (w : World) : (Instr.fieldAt 217 (.pointer (some ⟨q,0,none⟩)) 0).run Tryz.prog w = .ok (.pointer (some ⟨q,0,none⟩)) w:=by go_simp
theorem faSt1 (q : Nat) (w : World) : (Instr.fieldAt 217 (.pointer (some ⟨q,0,none⟩)) 1).run Tryz.prog w = .ok (.pointer (some ⟨q,1,none⟩)) w:=by go_simp
theorem ixS8 (q o n c i : Nat) (hi : i < n) (w : World) : (Instr.indexAt 216 (.slice (some ⟨q,o,none⟩) n c) (.int .i64 (i : Int))).run Tryz.prog w = .ok (.pointer (some ⟨q,o + i * 3,none⟩)) w:=by
 have h1 : (i : Int) < (n : Int):=by omega
 go_simp
theorem ldS8 {w : World} {q o : Nat} {x : Mk} (h0 : w.cell? ⟨q,o,none⟩ = some (.int .i64 x.n)) (h1 : w.cell? ⟨q,o + 1,none⟩ = some (.int .u64 x.h)) (h2 : w.cell? ⟨q,o + 2,none⟩ = some (.int .u64 x.l)) : (Instr.loadAt 217 (.pointer (some ⟨q,o,none⟩))).run Tryz.prog w = .ok (.agg #[.int .i64 x.n,.int .u64 x.h,.int .u64 x.l]) w:=by go_simp
theorem st_at8 {w : World} {a : Option Addr} {n c i : Nat} {L : List Mk} (h : SlY ySt w a n c L) (hi : i < L.length) : ∃ q o,a = some ⟨q,o,none⟩∧w.cell? ⟨q,o + i * 3,none⟩ = some (.int .i64 L[i].n)∧w.cell? ⟨q,o + i * 3 + 1,none⟩ = some (.int .u64 L[i].h)∧w.cell? ⟨q,o + i * 3 + 2,none⟩ = some (.int .u64 L[i].l):=by
 obtain ⟨q,o,rfl,hq,hl⟩:=h.place (by rintro rfl;simp at hi);have hg:=List.getElem?_eq_getElem hi
 exact ⟨q,o,rfl,hl _ _ hg 0 _ rfl,hl _ _ hg 1 _ rfl,hl _ _ hg 2 _ rfl⟩
def nil3 : List Value:=[.int .i64 0,.int .u64 0,.int .u64 0]
theorem al3 (w : World) : (Instr.alloc 217 true (.tuple #[])).run Tryz.prog w = .ok (.pointer (some ⟨w.heap.size,0,none⟩)) (w.alloc (.cells nil3.toArray 217)):=by
 go_simp
 first | done | rfl
def put3s (w : World) (q : Nat) (x : Mk) : World:=((w.setCell ⟨q,0,none⟩ (.int .i64 x.n)).setCell ⟨q,1,none⟩ (.int .u64 x.h)).setCell ⟨q,2,none⟩ (.int .u64 x.l)
theorem put3s_upd (w : World) (q : Nat) (x : Mk) : Upd (fun k => k = q) w (put3s w q x) :=
 (((Upd.refl (fun k => k = q) w).setCell (p:=⟨q,0,none⟩) (.inl rfl) _).setCell (p:=⟨q,1,none⟩) (.inl rfl) _).setCell (p:=⟨q,2,none⟩) (.inl rfl) _
theorem BX7.put3s {w : World} {q : Nat} (h : BX7 w q nil3) (x : Mk) : BX7 (put3s w q x) q x.cs :=
 ((h.set (j:=0) (by simp [nil3]) (.int .i64 x.n)).set (j:=1) (by simp [nil3]) (.int .u64 x.h)).set (j:=2) (by simp [nil3]) (.int .u64 x.l)
theorem st3 {w : World} {q : Nat} (h : BX7 w q nil3) (x : Mk) : (Instr.storeAt 217 (.pointer (some ⟨q,0,none⟩)) (.agg #[.int .i64 x.n,.int .u64 x.h,.int .u64 x.l])).run Tryz.prog w = .ok () (put3s w q x):=by
 have c0:=h.cell 0 _ rfl;have c1:=h.cell 1 _ rfl;have c2:=h.cell 2 _ rfl;have f0:=h.free 0;have f1:=h.free 1;have f2:=h.free 2
 unfold put3s
 go_simp
def Sta.vs (s : Sta) : Nat → List Mk
 | 0 => s.A.map Ak.sm
 | 1 => s.M.map Mk.sm
 | 2 => s.B.map Bl.sm
 | _ => s.N.map An.sm
theorem vs_at8 {s : Sta} {x1 : World} {g0 g1 g2 g3 : Nat} (p0 : SlY ySt x1 (some ⟨g0,0,none⟩) s.A.length s.A.length (s.A.map Ak.sm)) (p1 : SlY ySt x1 (some ⟨g1,0,none⟩) s.M.length s.M.length (s.M.map Mk.sm)) (p2 : SlY ySt x1 (some ⟨g2,0,none⟩) s.B.length s.B.length (s.B.map Bl.sm)) (p3 : SlY ySt x1 (some ⟨g3,0,none⟩) s.N.length s.N.length (s.N.map An.sm)) :
  ∀ j : Nat,j < 4 → ∃ a n c,(∀ v,(Instr.index 227 (.agg #[.slice (some ⟨g0,0,none⟩) s.A.length s.A.length,.slice (some ⟨g1,0,none⟩) s.M.length s.M.length,.slice (some ⟨g2,0,none⟩) s.B.length s.B.length,.slice (some ⟨g3,0,none⟩) s.N.length s.N.length]) (.int .i64 (j : Int))).run Tryz.prog v = .ok (.slice a n c) v)∧SlY ySt x1 a n c (s.vs j):=by
 intro j hj
 have hc : j = 0 ∨ j = 1 ∨ j = 2 ∨ j = 3:=by omega
 rcases hc with rfl | rfl | rfl | rfl
 ·exact ⟨_,_,_,fun v => by kernel_rfl,p0⟩
 ·exact ⟨_,_,_,fun v => by kernel_rfl,p1⟩
 ·exact ⟨_,_,_,fun v => by kernel_rfl,p2⟩
 ·exact ⟨_,_,_,fun v => by kernel_rfl,p3⟩
def lv8 (V : List (Int × Int)) (x : Mk) : Bool:=decide ((x.h,x.l) = V.getD x.n.toNat (0,0))
def Sta.livB (s : Sta) : Bool:=(((s.vs 0).all (lv8 s.V) && (s.vs 1).all (lv8 s.V)) && (s.vs 2).all (lv8 s.V)) && (s.vs 3).all (lv8 s.V)
theorem liv_ok8 {s : Sta} (h : ∀ k,k < 4 → (s.vs k).all (lv8 s.V) = true) : s.livB = true:=by
 unfold Sta.livB
 rw [h 0 (by decide),h 1 (by decide),h 2 (by decide),h 3 (by decide)]
 rfl
theorem liv_bad8 {s : Sta} {j : Nat} {x : Mk} (hj : j < 4) (hx : x ∈ s.vs j) (h : lv8 s.V x = false) : s.livB = false:=by
 have hb : (s.vs j).all (lv8 s.V) = false:=by
  rw [List.all_eq_false]
  exact ⟨x,hx,by rw [h];decide⟩
 unfold Sta.livB
 match j,hj with
 | 0,_ => rw [hb];rfl
 | 1,_ => rw [hb];simp
 | 2,_ => rw [hb];simp
 | 3,_ => rw [hb];simp
def Sta.stB (s : Sta) (c : Cg) : Bool:=((s.numB c && s.votB c) && s.livB) && s.kpB c
def Sta.ckE (s : Sta) (c : Cg) : Int:=bif c.okB then (bif s.stB c then 0 else 2) else 1
theorem num_in8 {s : Sta} {c : Cg} (hok : c.okB = true) (h : s.numB c = true) : 0 ≤ s.self∧s.self < (s.V.length : Int):=by
 simp only [Sta.numB,Bool.and_eq_true,inB_iff,decide_eq_true_eq] at h;obtain ⟨h1,_⟩:=h;have h2:=h1.1.1.1.1.2;have h3:=h1.1.1.1.2
 split at h2
 ·omega
 ·omega
theorem ckl_in8 {c : Cg} {self : Int} : ∀ (L : List Ak) (l : Int),0 ≤ l → Ak.ckl c self l L = true → ∀ x ∈ L,0 ≤ x.n∧x.n < 2 * c.F + 1
 | [],_,_,_,x,hx => by cases hx
 | y :: r,l,hl,h,x,hx => by
  unfold Ak.ckl at h
  split at h
  ·cases h
  ·rename_i h2
   rcases List.mem_cons.1 hx with rfl | hx
   ·omega
   ·exact ckl_in8 r (y.n + 1) (by omega) h x hx
theorem cklM_in8 {c : Cg} {self : Int} : ∀ (L : List Mk) (l : Int),0 ≤ l → Mk.ckl c self l L = true → ∀ x ∈ L,0 ≤ x.n∧x.n < 2 * c.F + 1
 | [],_,_,_,x,hx => by cases hx
 | y :: r,l,hl,h,x,hx => by
  unfold Mk.ckl at h
  split at h
  ·cases h
  ·rename_i h2
   rcases List.mem_cons.1 hx with rfl | hx
   ·omega
   ·exact cklM_in8 r (y.n + 1) (by omega) h x hx
theorem cklB_in8 {c : Cg} {self : Int} : ∀ (L : List Bl) (l : Int),0 ≤ l → Bl.ckl c self l L = true → ∀ x ∈ L,0 ≤ x.n∧x.n < 2 * c.F + 1
 | [],_,_,_,x,hx => by cases hx
 | y :: r,l,hl,h,x,hx => by
  unfold Bl.ckl at h
  split at h
  ·cases h
  ·rename_i h2
   rcases List.mem_cons.1 hx with rfl | hx
   ·omega
   ·exact cklB_in8 r (y.n + 1) (by omega) h x hx
theorem cklN_in8 {c : Cg} {self : Int} : ∀ (L : List An) (l : Int),0 ≤ l → An.ckl c self l L = true → ∀ x ∈ L,0 ≤ x.n∧x.n < 2 * c.F + 1
 | [],_,_,_,x,hx => by cases hx
 | y :: r,l,hl,h,x,hx => by
  unfold An.ckl at h
  split at h
  ·cases h
  ·rename_i h2
   rcases List.mem_cons.1 hx with rfl | hx
   ·omega
   ·exact cklN_in8 r (y.n + 1) (by omega) h x hx
theorem Cg.ok_of {c : Cg} (h : c.okB = true) : c.ok = true:=by
 simp only [Cg.okB,Bool.and_eq_true,inB_iff] at h
 unfold Cg.ok
 exact decide_eq_true ⟨h.1.1.1,h.1.1.2,h.1.2.1,h.1.2.2⟩
theorem vot_ck8 {s : Sta} {c : Cg} (hok : c.okB = true) (h : s.votB c = true) : Ak.ckl c s.self 0 s.A = true∧Mk.ckl c s.self 0 s.M = true∧Bl.ckl c s.self 0 s.B = true∧An.ckl c s.self 0 s.N = true:=by
 have hk:=Cg.ok_of hok;simp only [Sta.votB,Ak.ck,Mk.ck,Bl.ck,An.ck,hk,Bool.and_eq_true,decide_eq_true_eq] at h;obtain ⟨⟨⟨h1,h2⟩,h3⟩,h4⟩:=h;refine ⟨?_,?_,?_,?_⟩
 ·simp at h1;exact h1
 ·simp at h2;exact h2
 ·simp at h3;exact h3
 ·simp at h4;exact h4
theorem vot_in8 {s : Sta} {c : Cg} (hok : c.okB = true) (h : s.numB c = true∧s.votB c = true) : ∀ j : Nat,j < 4 → ∀ x ∈ s.vs j,0 ≤ x.n∧x.n < (s.V.length : Int):=by
 obtain ⟨h1,h2,h3,h4⟩:=vot_ck8 hok h.2
 have hV : (s.V.length : Int) = 2 * c.F + 1:=by
  have hn:=h.1;simp only [Sta.numB,Bool.and_eq_true,decide_eq_true_eq] at hn;have h5:=hn.1.1.1.1.1.2;have h6:=(Cg.nd_ok hok).1
  split at h5
  ·omega
  ·omega
 rw [hV];intro j hj x hx
 match j,hj,hx with
 | 0,_,hx =>
  obtain ⟨y,hy,rfl⟩:=List.mem_map.1 hx
  exact ckl_in8 _ _ (Int.le_refl _) h1 y hy
 | 1,_,hx =>
  obtain ⟨y,hy,rfl⟩:=List.mem_map.1 hx
  exact cklM_in8 _ _ (Int.le_refl _) h2 y hy
 | 2,_,hx =>
  obtain ⟨y,hy,rfl⟩:=List.mem_map.1 hx
  exact cklB_in8 _ _ (Int.le_refl _) h3 y hy
 | 3,_,hx =>
  obtain ⟨y,hy,rfl⟩:=List.mem_map.1 hx
  exact cklN_in8 _ _ (Int.le_refl _) h4 y hy
set_option maxHeartbeats 1000000 in
theorem live8 (s : Sta) (w : World) (hI : s.In w) (hF : s.Fit) (hN : ∀ j : Nat,j < 4 → ∀ x ∈ s.vs j,0 ≤ x.n∧x.n < (s.V.length : Int)) : Calls Tryz.prog 121 #[s.val] w fun e w' => e = .returned (.bool s.livB)∧Below w.heap.size w w':=by
 go_enter Tryz.func121,Tryz.ntmps121
 go_upto_region 0 with fail
 refine wp_region_lit ?_;refine vl_gen (fun T => T.size = 31∧T[0]? = some (gw true (s.val))) ⟨rfl,rfl⟩ (fun Z0 ⟨hz,s0⟩ => ?_)
 obtain ⟨w1,hw1⟩ : ∃ y,y = w.alloc (.cells s.cs.toArray 36):=⟨_,rfl⟩
 have hb : Below w.heap.size w w1:=by rw [hw1];exact (Below.refl _ _).alloc (Nat.le_refl _) _
 have hs1 : w1.heap.size = w.heap.size + 1:=by rw [hw1];simp
 have HS : SB7 w1 (w.heap.size) s:=by rw [hw1];exact BX7.new _ _ _
 refine vw (.pointer (some ⟨w.heap.size,0,none⟩)) w1 (want_none rfl) (ex_box8 rfl (ev s0 rfl) (by rw [hw1];exact bxS7 _ _)) rfl hz (by decide) (fun Z1 zz kk s1x => ?_);clear kk hz s0 hw1;have hz:=zz;have s1:=s1x;clear zz s1x;have hB:=hb;clear hb;have hv0 : Below w1.heap.size w1 w1:=Below.refl _ _;have HI:=hI.later hB;have q51_0:=(Rp.nil hz).cons s1;clear hz s1
 refine q51_0.t (.bool false) (ex_assign rfl rfl) fun _ q51_1 => ?_;clear q51_0
 have hz:=q51_1.z;have s1:=q51_1.a 1 rfl;clear q51_1;refine wpList_nil ?_
 go_upto_region 1 with fail
 refine wp_scope_straight ?_
 go_upto_region 1 with fail
 refine wp_region_lit ?_;have q52_0:=(Rp.nil hz).cons s1;clear hz s1
 refine q52_0.t (.bool true) (ex_assign rfl rfl) fun _ q52_1 => ?_;clear q52_0
 have hz:=q52_1.z;have s1:=q52_1.a 1 rfl;have s3:=q52_1.a 3 rfl;clear q52_1;refine wpList_nil ?_
 go_upto_region 2 with fail
 refine wp_label ?_
 go_upto_region 2 with fail
 refine wp_region_lit ?_;have q53_0:=((Rp.nil hz).cons s1).cons s3;clear hz s1 s3
 refine q53_0.t (s.val) (ex_ld rfl (q53_0.e (j:=1) rfl) (SB7.ld (HS.bel hv0))) fun _ q53_1 => ?_;clear q53_0
 refine vcallP (want_none rfl) (ex_call rfl (by simp only [List.map_toArray,List.map_cons,List.map_nil,(q53_1.e (j:=8) rfl),evc] <;> rfl) rfl) (voters8 s w1 HI hF) rfl q53_1.z (by decide) ?_;rintro e x1 ⟨g0,g1,g2,g3,rfl,p0,p1,p2,p3,hx1⟩;refine ⟨_,rfl,q53_1.k fun Ya q53_2 => ?_⟩;clear q53_1;have HX:=vs_at8 p0 p1 p2 p3;have HXH:=hide HX;clear HX p0 p1 p2 p3;have HN:=hide hN;clear hN
 refine q53_2.t (.int .i64 0) (ex_move rfl rfl) fun _ q53_3 => ?_;clear q53_2
 have hz:=q53_3.z;have s1:=q53_3.a 1 rfl;have s3:=q53_3.a 3 rfl;have s9:=q53_3.a 9 rfl;have s10:=q53_3.a 10 rfl;clear q53_3;refine wpList_nil ?_;have hs10 : _ = some (gw true (.int .i64 ((0 : Nat) : Int))):=s10
 go_upto_region 3 with fail
 refine v_loop 10 4 (fun j T wr => T.size = 31∧T[1]? = some (gw true (.pointer (some ⟨w.heap.size,0,none⟩)))∧T[3]? = some (gw true (.bool true))∧T[9]? = some (gw true (.agg #[.slice (some ⟨g0,0,none⟩) s.A.length s.A.length,.slice (some ⟨g1,0,none⟩) s.M.length s.M.length,.slice (some ⟨g2,0,none⟩) s.B.length s.B.length,.slice (some ⟨g3,0,none⟩) s.N.length s.N.length]))∧T[10]? = some (gw true (.int .i64 (j : Int)))∧Hid (Below x1.heap.size x1 wr∧∀ k,k < j → (s.vs k).all (lv8 s.V) = true)) (fun j T w h => h.2.2.2.2.1) ⟨hz,s1,s3,s9,hs10,Below.refl _ _,fun k hk => absurd hk (Nat.not_lt_zero _)⟩ ?_;clear hz s1 s3 s9 s10 hs10;intro j R0 wr hj hh;obtain ⟨hz,s1,s3,s9,s10,HJ⟩:=hh;have hbr:=HJ.out.1;have hzr:=hbr.size;have hzx:=hx1.size
 by_cases hjt : j < 4
 ·have d1 : decide ((j : Int) < 4) = true:=decide_eq_true (by omega)
  go_upto_region 3 with fail
  refine wp_region_lit ?_;have q54_0:=((((Rp.nil hz).cons s1).cons s3).cons s9).cons s10;clear hz s1 s3 s9 s10
  refine q54_0.t (.bool true) (ex_bin rfl (q54_0.e (j:=10) rfl) rfl (lssD8 _ _ _ _ true d1 _)) fun _ q54_1 => ?_;clear q54_0
  have hz:=q54_1.z;have s1:=q54_1.a 1 rfl;have s3:=q54_1.a 3 rfl;have s9:=q54_1.a 9 rfl;have s10:=q54_1.a 10 rfl;have s11:=q54_1.a 11 rfl;clear q54_1;refine wpList_nil ?_
  go_upto_region 4 with fail
  refine wp_cond_true ((ev s11 rfl).trans rfl) ?_;clear s11 d1;obtain ⟨a,n,c,hix,hsl⟩:=HXH.out j hjt
  go_upto_region 4 with fail
  refine wp_region_lit ?_;have q55_0:=((((Rp.nil hz).cons s1).cons s3).cons s9).cons s10;clear hz s1 s3 s9 s10
  refine q55_0.t (.slice a n c) (ex_index8 rfl (q55_0.e (j:=9) rfl) (q55_0.e (j:=10) rfl) (hix _)) fun _ q55_1 => ?_;clear q55_0
  refine q55_1.t _ (ex_assign rfl (q55_1.e (j:=12) rfl)) fun _ q55_2 => ?_;clear q55_1
  have hz:=q55_2.z;have s1:=q55_2.a 1 rfl;have s3:=q55_2.a 3 rfl;have s5:=q55_2.a 5 rfl;have s9:=q55_2.a 9 rfl;have s10:=q55_2.a 10 rfl;clear q55_2;refine wpList_nil ?_
  go_upto_region 5 with fail
  refine wp_region_lit ?_;have q56_0:=(((((Rp.nil hz).cons s1).cons s3).cons s5).cons s9).cons s10;clear hz s1 s3 s5 s9 s10
  refine q56_0.t _ (ex_move rfl (q56_0.e (j:=5) rfl)) fun _ q56_1 => ?_;clear q56_0
  refine q56_1.t (.int .i64 (n : Int)) (ex_lenS8 rfl rfl (q56_1.e (j:=13) rfl)) fun _ q56_2 => ?_;clear q56_1
  refine q56_2.t (.int .i64 0) (ex_move rfl rfl) fun _ q56_3 => ?_;clear q56_2
  have hz:=q56_3.z;have s1:=q56_3.a 1 rfl;have s3:=q56_3.a 3 rfl;have s9:=q56_3.a 9 rfl;have s10:=q56_3.a 10 rfl;have s13:=q56_3.a 13 rfl;have s14:=q56_3.a 14 rfl;have s15:=q56_3.a 15 rfl;clear q56_3;refine wpList_nil ?_;have hln:=hsl.len;have hs15 : _ = some (gw true (.int .i64 ((0 : Nat) : Int))):=s15
  go_upto_region 6 with fail
  refine v_loop 15 n (fun i T wr => T.size = 31∧T[1]? = some (gw true (.pointer (some ⟨w.heap.size,0,none⟩)))∧T[3]? = some (gw true (.bool true))∧T[9]? = some (gw true (.agg #[.slice (some ⟨g0,0,none⟩) s.A.length s.A.length,.slice (some ⟨g1,0,none⟩) s.M.length s.M.length,.slice (some ⟨g2,0,none⟩) s.B.length s.B.length,.slice (some ⟨g3,0,none⟩) s.N.length s.N.length]))∧T[10]? = some (gw true (.int .i64 (j : Int)))∧T[13]? = some (gw true (.slice a n c))∧T[14]? = some (gw true (.int .i64 (n : Int)))∧T[15]? = some (gw true (.int .i64 (i : Int)))∧Hid (Below x1.heap.size x1 wr∧∀ k (hk : k < (s.vs j).length),k < i → lv8 s.V (s.vs j)[k] = true)) (fun i T w h => h.2.2.2.2.2.2.2.1) ⟨hz,s1,s3,s9,s10,s13,s14,hs15,hbr,fun k hk h => absurd h (Nat.not_lt_zero _)⟩ ?_;clear hz s1 s3 s9 s10 s13 s14 s15 hs15 hbr;intro i R1 wr2 hi hh;obtain ⟨hz,s1,s3,s9,s10,s13,s14,s15,HK⟩:=hh;have hbr:=HK.out.1;have hzr2:=hbr.size
  by_cases hit : i < n
  ·have d2 : decide ((i : Int) < (n : Int)) = true:=decide_eq_true (by omega)
   go_upto_region 6 with fail
   refine wp_region_lit ?_;have q57_0:=(((((((Rp.nil hz).cons s1).cons s3).cons s9).cons s10).cons s13).cons s14).cons s15;clear hz s1 s3 s9 s10 s13 s14 s15
   refine q57_0.t (.bool true) (ex_bin rfl (q57_0.e (j:=15) rfl) (q57_0.e (j:=14) rfl) (lssD8 _ _ _ _ true d2 _)) fun _ q57_1 => ?_;clear q57_0
   have hz:=q57_1.z;have s1:=q57_1.a 1 rfl;have s3:=q57_1.a 3 rfl;have s9:=q57_1.a 9 rfl;have s10:=q57_1.a 10 rfl;have s13:=q57_1.a 13 rfl;have s14:=q57_1.a 14 rfl;have s15:=q57_1.a 15 rfl;have s16:=q57_1.a 16 rfl;clear q57_1;refine wpList_nil ?_
   go_upto_region 7 with fail
   refine wp_cond_true ((ev s16 rfl).trans rfl) ?_;clear s16 d2
   have hil : i < (s.vs j).length:=by omega
   have hmem:=List.getElem_mem hil;have hbd:=HN.out j hjt _ hmem;obtain ⟨q,o,rfl,c0,c1,c2⟩:=st_at8 (hsl.later hbr) hil
   have HG : Hid (∀ k (hk : k < (s.vs j).length),k < i + 1 → k ≠ i → lv8 s.V (s.vs j)[k] = true):=fun k hk h1 h2 => HK.out.2 k hk (by omega)
   have hxe : Hid ((s.vs j)[i]? = some (s.vs j)[i]):=List.getElem?_eq_getElem hil
   obtain ⟨x,hx⟩ : ∃ x,x = (s.vs j)[i]:=⟨_,rfl⟩
   rw [← hx] at c0 c1 c2 hbd hmem;clear HK
   obtain ⟨y1,hy1⟩ : ∃ y,y = wr2.alloc (.cells nil3.toArray 217):=⟨_,rfl⟩
   have hb : Below wr2.heap.size wr2 y1:=by rw [hy1];exact (Below.refl _ _).alloc (Nat.le_refl _) _
   have HA : BX7 y1 wr2.heap.size nil3:=by rw [hy1];exact BX7.new _ _ _
   go_upto_region 7 with fail
   refine wp_region_lit ?_;have q58_0:=(((((((Rp.nil hz).cons s1).cons s3).cons s9).cons s10).cons s13).cons s14).cons s15;clear hz s1 s3 s9 s10 s13 s14 s15
   refine q58_0.t (.pointer (some ⟨q,o + i * 3,none⟩)) (ex_ix rfl (q58_0.e (j:=13) rfl) (q58_0.e (j:=15) rfl) (ixS8 q o n c i hit _)) fun _ q58_1 => ?_;clear q58_0
   refine q58_1.t (.agg #[.int .i64 x.n,.int .u64 x.h,.int .u64 x.l]) (ex_ld rfl (q58_1.e (j:=17) rfl) (ldS8 c0 c1 c2)) fun _ q58_2 => ?_;clear q58_1
   refine vw (.pointer (some ⟨wr2.heap.size,0,none⟩)) y1 (want_none rfl) (ex_al rfl (by rw [hy1];exact al3 _)) rfl q58_2.z (by decide) (q58_2.k fun Yb q58_3 => ?_);clear q58_2;refine vs (put3s y1 wr2.heap.size x) (want_none rfl) (ex_st rfl (q58_3.e (j:=7) rfl) (q58_3.e (j:=18) rfl) (st3 HA x)) rfl ?_;have HP:=HA.put3s x;have UP:=put3s_upd y1 wr2.heap.size x
   obtain ⟨y2,hy2⟩ : ∃ v,v = (put3s y1 wr2.heap.size x):=⟨_,rfl⟩
   rw [← hy2] at HP UP ⊢;have hby : Below wr2.heap.size wr2 y2:=hb.trans (UP.below hb.size (fun k hk => by omega));have hbx:=hbr.trans (hby.mono hzr2);have hbw:=hx1.trans (hbx.mono hzx);clear hy2 hy1 HA UP hb c0 c1 c2;obtain ⟨qv,ov,hva,hV1,hV2⟩:=vec_at8 (HI.v.later hbw) hbd;have hz:=q58_3.z;have s1:=q58_3.a 1 rfl;have s3:=q58_3.a 3 rfl;have s7:=q58_3.a 7 rfl;have s9:=q58_3.a 9 rfl;have s10:=q58_3.a 10 rfl;have s13:=q58_3.a 13 rfl;have s14:=q58_3.a 14 rfl;have s15:=q58_3.a 15 rfl;clear q58_3;refine wpList_nil ?_
   go_upto_region 8 with fail
   refine vq_start (C:=fun v => Below y2.heap.size y2 v) (by kernel_rfl) (by kernel_rfl) (Below.refl _ _).drew ?_;have q59_0:=((((((((Rp.nil hz).cons s1).cons s3).cons s7).cons s9).cons s10).cons s13).cons s14).cons s15;clear hz s1 s3 s7 s9 s10 s13 s14 s15
   refine q59_0.q (.pointer (some ⟨wr2.heap.size,1,none⟩)) (fun v hv => ex_fa rfl (q59_0.e (j:=7) rfl) (faSt1 _ _)) fun _ q59_1 => ?_;clear q59_0
   refine q59_1.q (.agg #[.int .u64 x.h,.int .u64 x.l]) (fun v hv => ex_ld rfl (q59_1.e (j:=19) rfl) (ldDr8 (d:=(x.h,x.l)) (cell8 (HP.cell 1 _ rfl) hv) (cell8 (HP.cell 2 _ rfl) hv))) fun _ q59_2 => ?_;clear q59_1
   refine q59_2.q (.pointer (some ⟨w.heap.size,6,none⟩)) (fun v hv => ex_fa rfl (q59_2.e (j:=1) rfl) (faS6 _ _)) fun _ q59_3 => ?_;clear q59_2
   refine q59_3.q (.slice s.va s.V.length s.vc) (fun v hv => ex_ld rfl (q59_3.e (j:=21) rfl) (ldV8 ((HS.bel (hbw.trans (hv.mono (by have:=hbw.size;omega)))).cell 6 _ rfl))) fun _ q59_4 => ?_;clear q59_3
   refine q59_4.q (.pointer (some ⟨wr2.heap.size,0,none⟩)) (fun v hv => ex_fa rfl (q59_4.e (j:=7) rfl) (faSt0 _ _)) fun _ q59_5 => ?_;clear q59_4
   refine q59_5.q (.int .i64 x.n) (fun v hv => ex_ld rfl (q59_5.e (j:=23) rfl) (ldI8 (cell8 (HP.cell 0 _ rfl) hv))) fun _ q59_6 => ?_;clear q59_5
   refine q59_6.q (.pointer (some ⟨qv,ov + x.n.toNat * 2,none⟩)) (fun v hv => ex_ix rfl (q59_6.e (j:=22) rfl) (q59_6.e (j:=24) rfl) (hV1 _)) fun _ q59_7 => ?_;clear q59_6
   refine q59_7.q (.agg #[.int .u64 (s.V.getD x.n.toNat (0,0)).1,.int .u64 (s.V.getD x.n.toNat (0,0)).2]) (fun v hv => ex_ld rfl (q59_7.e (j:=25) rfl) (hV2 _ hv)) fun _ q59_8 => ?_;clear q59_7
   refine q59_8.q (.bool (!decide ((x.h,x.l) = (s.V.getD x.n.toNat (0,0))))) (fun v hv => ex_bin rfl (q59_8.e (j:=20) rfl) (q59_8.e (j:=26) rfl) (neqDr7 _ _ (x.h,x.l) (s.V.getD x.n.toNat (0,0)) _)) fun _ q59_9 => ?_;clear q59_8
   have hz:=q59_9.z;have s1:=q59_9.a 1 rfl;have s3:=q59_9.a 3 rfl;have s9:=q59_9.a 9 rfl;have s10:=q59_9.a 10 rfl;have s13:=q59_9.a 13 rfl;have s14:=q59_9.a 14 rfl;have s15:=q59_9.a 15 rfl;have s27:=q59_9.a 27 rfl;clear q59_9;refine vq_nil (fun x21 hx21 => ?_);have hb8:=hbx.trans (hx21.mono hbx.size)
   go_upto_region 9 with fail
   cases e27 : decide ((x.h,x.l) = (s.V.getD x.n.toNat (0,0)))
   ·refine wp_cond_true ((ev s27 rfl).trans (by rw [e27];rfl)) ?_
    go_upto_region 9 with fail
    refine wp_region_lit ?_;have q60_0:=(((((((Rp.nil hz).cons s1).cons s3).cons s9).cons s10).cons s13).cons s14).cons s15;clear hz s1 s3 s9 s10 s13 s14 s15
    refine q60_0.t (.bool false) (ex_assign rfl rfl) fun _ q60_1 => ?_;clear q60_0
    have hz:=q60_1.z;have s3:=q60_1.a 3 rfl;clear q60_1;refine wpList_nil ?_;have HR : Hid (s.livB = false):=liv_bad8 hjt (by rw [hx] at hmem;exact hmem) (by rw [← hx];exact e27)
    go_upto_region 12 with fail
    refine wp_region_lit ?_;have q61_0:=(Rp.nil hz).cons s3;clear hz s3
    refine q61_0.t _ (ex_move rfl (q61_0.e (j:=3) rfl)) fun _ q61_1 => ?_;clear q61_0
    refine q61_1.t _ (ex_assign rfl (q61_1.e (j:=30) rfl)) fun _ q61_2 => ?_;clear q61_1
    have hz:=q61_2.z;have s2:=q61_2.a 2 rfl;clear q61_2;refine wpList_nil ?_;have hB9:=hide (hB.trans ((hx1.trans (hb8.mono hzx)).mono (by omega)))
    go_wp2
    try rw [Exit.noGoto_ret]
    refine bodyPost_ret (results_tmp rfl _ _ _) rfl ⟨?_,hB9.out⟩;rw [getD_of s2,HR.out]
    rfl
   ·refine wp_cond_false ((ev s27 rfl).trans (by rw [e27];rfl)) ?_
    clear s27
    go_upto_region 10 with fail
    refine wp_region_lit ?_;have q62_0:=(((((((Rp.nil hz).cons s1).cons s3).cons s9).cons s10).cons s13).cons s14).cons s15;clear hz s1 s3 s9 s10 s13 s14 s15
    refine q62_0.t (.int .i64 ((i + 1 : Nat) : Int)) (ex_bin rfl (q62_0.e (j:=15) rfl) rfl (addD8 _ _ _ 1 ((i + 1 : Nat) : Int) (by rw [IntKind.wrap_i64];have:=hsl.max;have:=hsl.cap;unfold maxLen at *;omega) _)) fun _ q62_1 => ?_;clear q62_0
    refine q62_1.t _ (ex_move rfl (q62_1.e (j:=28) rfl)) fun _ q62_2 => ?_;clear q62_1
    have hz:=q62_2.z;have s1:=q62_2.a 1 rfl;have s3:=q62_2.a 3 rfl;have s9:=q62_2.a 9 rfl;have s10:=q62_2.a 10 rfl;have s13:=q62_2.a 13 rfl;have s14:=q62_2.a 14 rfl;have s15:=q62_2.a 15 rfl;clear q62_2;refine wpList_nil ?_
    exact ⟨_,rfl,by omega,hz,s1,s3,s9,s10,s13,s14,s15,hb8,fun k hk h => by
     by_cases e : k = i
     ·subst e;rw [← hx];exact e27
     ·exact HG.out k hk h e⟩
  ·have d2 : decide ((i : Int) < (n : Int)) = false:=decide_eq_false (by omega)
   go_upto_region 6 with fail
   refine wp_region_lit ?_;have q63_0:=(((((((Rp.nil hz).cons s1).cons s3).cons s9).cons s10).cons s13).cons s14).cons s15;clear hz s1 s3 s9 s10 s13 s14 s15
   refine q63_0.t (.bool false) (ex_bin rfl (q63_0.e (j:=15) rfl) (q63_0.e (j:=14) rfl) (lssD8 _ _ _ _ false d2 _)) fun _ q63_1 => ?_;clear q63_0
   have hz:=q63_1.z;have s1:=q63_1.a 1 rfl;have s3:=q63_1.a 3 rfl;have s9:=q63_1.a 9 rfl;have s10:=q63_1.a 10 rfl;have s16:=q63_1.a 16 rfl;clear q63_1;refine wpList_nil ?_
   go_upto_region 11 with fail
   refine wp_cond_false ((ev s16 rfl).trans rfl) ?_;clear s16 d2
   go_upto_region 11 with fail
   refine wp_region_lit ?_;have q64_0:=((((Rp.nil hz).cons s1).cons s3).cons s9).cons s10;clear hz s1 s3 s9 s10
   refine q64_0.t (.int .i64 ((j + 1 : Nat) : Int)) (ex_bin rfl (q64_0.e (j:=10) rfl) rfl (addD8 _ _ _ 1 ((j + 1 : Nat) : Int) (by rw [IntKind.wrap_i64];omega) _)) fun _ q64_1 => ?_;clear q64_0
   refine q64_1.t _ (ex_move rfl (q64_1.e (j:=29) rfl)) fun _ q64_2 => ?_;clear q64_1
   have hz:=q64_2.z;have s1:=q64_2.a 1 rfl;have s3:=q64_2.a 3 rfl;have s9:=q64_2.a 9 rfl;have s10:=q64_2.a 10 rfl;clear q64_2;refine wpList_nil ?_
   exact ⟨_,rfl,by omega,hz,s1,s3,s9,s10,hbr,fun k hk => by
    by_cases e : k = j
    ·subst e
     rw [List.all_eq_true];intro y hy;obtain ⟨m,hm,rfl⟩:=List.mem_iff_getElem.1 hy
     exact HK.out.2 m hm (by omega)
    ·exact HJ.out.2 k (by omega)⟩
 ·have d1 : decide ((j : Int) < 4) = false:=decide_eq_false (by omega)
  go_upto_region 3 with fail
  refine wp_region_lit ?_;have q65_0:=((((Rp.nil hz).cons s1).cons s3).cons s9).cons s10;clear hz s1 s3 s9 s10
  refine q65_0.t (.bool false) (ex_bin rfl (q65_0.e (j:=10) rfl) rfl (lssD8 _ _ _ _ false d1 _)) fun _ q65_1 => ?_;clear q65_0
  have hz:=q65_1.z;have s3:=q65_1.a 3 rfl;have s11:=q65_1.a 11 rfl;clear q65_1;refine wpList_nil ?_
  go_upto_region 12 with fail
  refine wp_cond_false ((ev s11 rfl).trans rfl) ?_;clear s11 d1
  obtain rfl : j = 4:=by omega
  go_upto_region 12 with fail
  refine wp_region_lit ?_;have q66_0:=(Rp.nil hz).cons s3;clear hz s3
  refine q66_0.t _ (ex_move rfl (q66_0.e (j:=3) rfl)) fun _ q66_1 => ?_;clear q66_0
  refine q66_1.t _ (ex_assign rfl (q66_1.e (j:=30) rfl)) fun _ q66_2 => ?_;clear q66_1
  have hz:=q66_2.z;have s2:=q66_2.a 2 rfl;clear q66_2;refine wpList_nil ?_;have HR : Hid (s.livB = true):=liv_ok8 HJ.out.2;have hB9:=hide (hB.trans ((hx1.trans (hbr.mono hzx)).mono (by omega)))
  go_wp2
  try rw [Exit.noGoto_ret]
  refine bodyPost_ret (results_tmp rfl _ _ _) rfl ⟨?_,hB9.out⟩;rw [getD_of s2,HR.out]
  rfl
set_option maxHeartbeats 1000000 in
theorem state8 (c : Cg) (s : Sta) (w : World) (hI : s.In w) (hF : s.Fit) (hok : c.okB = true) : Calls Tryz.prog 68 #[c.val,s.val] w fun e w' => e = .returned (.bool (s.stB c))∧Below w.heap.size w w':=by
 go_enter Tryz.func68,Tryz.ntmps68
 go_upto_region 0 with fail
 refine wp_region_lit ?_;refine vl_gen (fun T => T.size = 22∧T[0]? = some (gw true (c.val))∧T[1]? = some (gw true (s.val))) ⟨rfl,rfl,rfl⟩ (fun Z0 ⟨hz,s0,s1⟩ => ?_)
 obtain ⟨w1,hw1⟩ : ∃ y,y = w.alloc (.cells c.cs.toArray 23):=⟨_,rfl⟩
 have hb : Below w.heap.size w w1:=by rw [hw1];exact (Below.refl _ _).alloc (Nat.le_refl _) _
 have hs1 : w1.heap.size = w.heap.size + 1:=by rw [hw1];simp
 have HC : CB7 w1 (w.heap.size) c:=by rw [hw1];exact BX7.new _ _ _
 refine vw (.pointer (some ⟨w.heap.size,0,none⟩)) w1 (want_none rfl) (ex_box8 rfl (ev s0 rfl) (by rw [hw1];exact bxC7 _ _)) rfl hz (by decide) (fun Z1 zz kk s2x => ?_);replace s1:=ku s1;clear kk hz s0 hw1;have hz:=zz;have s2:=s2x;clear zz s2x;have hB:=hb;clear hb
 obtain ⟨w2,hw2⟩ : ∃ y,y = w1.alloc (.cells s.cs.toArray 36):=⟨_,rfl⟩
 have hb : Below w1.heap.size w1 w2:=by rw [hw2];exact (Below.refl _ _).alloc (Nat.le_refl _) _
 have hs2 : w2.heap.size = w.heap.size + 2:=by rw [hw2];simp;omega
 have HS : SB7 w2 (w.heap.size + 1) s:=by rw [hw2,← hs1];exact BX7.new _ _ _
 refine vw (.pointer (some ⟨w.heap.size + 1,0,none⟩)) w2 (want_none rfl) (ex_box8 rfl (ev s1 rfl) (by rw [hw2,← hs1];exact bxS7 _ _)) rfl hz (by decide) (fun Z2 zz kk s3x => ?_);replace s2:=ku s2;clear kk hz s1 hw2;have hz:=zz;have s3:=s3x;clear zz s3x;have hB:=hB.trans (hb.mono (by omega));have HC:=HC.bel hb;clear hb;have hv0 : Below w2.heap.size w2 w2:=Below.refl _ _;have HI:=hI.later hB;have q67_0:=((Rp.nil hz).cons s2).cons s3;clear hz s2 s3
 refine q67_0.t (.bool false) (ex_assign rfl rfl) fun _ q67_1 => ?_;clear q67_0
 have hz:=q67_1.z;have s2:=q67_1.a 2 rfl;have s3:=q67_1.a 3 rfl;clear q67_1;refine wpList_nil ?_
 go_upto_region 1 with fail
 refine wp_region_lit ?_;have q68_0:=((Rp.nil hz).cons s2).cons s3;clear hz s2 s3
 refine q68_0.t (c.val) (ex_ld rfl (q68_0.e (j:=2) rfl) (CB7.ld (HC.bel hv0))) fun _ q68_1 => ?_;clear q68_0
 refine q68_1.t (s.val) (ex_ld rfl (q68_1.e (j:=3) rfl) (SB7.ld (HS.bel hv0))) fun _ q68_2 => ?_;clear q68_1
 refine vcall true (.bool (s.numB c)) (want_none rfl) (fun hc => ex_call rfl (by simp only [List.map_toArray,List.map_cons,List.map_nil,(q68_2.e (j:=5) rfl),(q68_2.e (j:=6) rfl),evc] <;> rfl) rfl) (fun hc => numbers8 c s w2 (HI.later hv0) hF hok) rfl q68_2.z (by decide) (q68_2.kc fun Ya x1 hb q68_3 => ?_);clear q68_2;have hx1:=hv0.trans (hb.mono hv0.size);clear hb
 refine q68_3.t _ (ex_move rfl (q68_3.e (j:=7) rfl)) fun _ q68_4 => ?_;clear q68_3
 refine vl _ (c.val) (want_g rfl rfl (q68_4.a 8 rfl)) (fun hc => ex_ld rfl (q68_4.e (j:=2) rfl) (CB7.ld (HC.bel hx1))) rfl q68_4.z (by decide) (q68_4.k fun Yb q68_5 => ?_);clear q68_4;refine vl _ (s.val) (want_g rfl rfl (q68_5.a 8 rfl)) (fun hc => ex_ld rfl (q68_5.e (j:=3) rfl) (SB7.ld (HS.bel hx1))) rfl q68_5.z (by decide) (q68_5.k fun Yc q68_6 => ?_);clear q68_5;refine vcall (true && ((s.numB c) == true)) (.bool (s.votB c)) (want_g rfl rfl (q68_6.a 8 rfl)) (fun hc => ex_call rfl (by simp only [List.map_toArray,List.map_cons,List.map_nil,(ev (q68_6.a 9 rfl) hc),(ev (q68_6.a 10 rfl) hc),evc] <;> rfl) rfl) (fun hc => votes8 c s x1 (HI.later hx1) hF) rfl q68_6.z (by decide) (q68_6.kc fun Yd x2 hb q68_7 => ?_);clear q68_6;have hx2:=hx1.trans (hb.mono hx1.size);clear hb
 refine q68_7.t (.bool ((s.numB c) && (s.votB c))) (ex_and rfl (q68_7.a 8 rfl) (q68_7.a 11 rfl) rfl) fun _ q68_8 => ?_;clear q68_7
 refine q68_8.t _ (ex_move rfl (q68_8.e (j:=12) rfl)) fun _ q68_9 => ?_;clear q68_8
 refine vl _ (s.val) (want_g rfl rfl (q68_9.a 13 rfl)) (fun hc => ex_ld rfl (q68_9.e (j:=3) rfl) (SB7.ld (HS.bel hx2))) rfl q68_9.z (by decide) (q68_9.k fun Ye q68_10 => ?_);clear q68_9;refine vcall (true && (((s.numB c) && (s.votB c)) == true)) (.bool s.livB) (want_g rfl rfl (q68_10.a 13 rfl)) (fun hc => ex_call rfl (by simp only [List.map_toArray,List.map_cons,List.map_nil,(ev (q68_10.a 14 rfl) hc),evc] <;> rfl) rfl) (fun hc => live8 s x2 (HI.later hx2) hF (vot_in8 hok (by simpa using hc))) rfl q68_10.z (by decide) (q68_10.kc fun Yf x3 hb q68_11 => ?_);clear q68_10;have hx3:=hx2.trans (hb.mono hx2.size);clear hb
 refine q68_11.t (.bool (((s.numB c) && (s.votB c)) && s.livB)) (ex_and rfl (q68_11.a 13 rfl) (q68_11.a 15 rfl) rfl) fun _ q68_12 => ?_;clear q68_11
 refine q68_12.t _ (ex_move rfl (q68_12.e (j:=16) rfl)) fun _ q68_13 => ?_;clear q68_12
 refine vl _ (c.val) (want_g rfl rfl (q68_13.a 17 rfl)) (fun hc => ex_ld rfl (q68_13.e (j:=2) rfl) (CB7.ld (HC.bel hx3))) rfl q68_13.z (by decide) (q68_13.k fun Yg q68_14 => ?_);clear q68_13;refine vl _ (s.val) (want_g rfl rfl (q68_14.a 17 rfl)) (fun hc => ex_ld rfl (q68_14.e (j:=3) rfl) (SB7.ld (HS.bel hx3))) rfl q68_14.z (by decide) (q68_14.k fun Yh q68_15 => ?_);clear q68_14;refine vcall (true && ((((s.numB c) && (s.votB c)) && s.livB) == true)) (.bool (s.kpB c)) (want_g rfl rfl (q68_15.a 17 rfl)) (fun hc => ex_call rfl (by simp only [List.map_toArray,List.map_cons,List.map_nil,(ev (q68_15.a 18 rfl) hc),(ev (q68_15.a 19 rfl) hc),evc] <;> rfl) rfl) (fun hc => keeps8 c s x3 (HI.later hx3) hF (num_in8 hok (by simp at hc;exact hc.1.1))) rfl q68_15.z (by decide) (q68_15.kc fun Yi x4 hb q68_16 => ?_);clear q68_15;have hx4:=hx3.trans (hb.mono hx3.size);clear hb
 refine q68_16.t (.bool ((((s.numB c) && (s.votB c)) && s.livB) && (s.kpB c))) (ex_and rfl (q68_16.a 17 rfl) (q68_16.a 20 rfl) rfl) fun _ q68_17 => ?_;clear q68_16
 refine q68_17.t _ (ex_assign rfl (q68_17.e (j:=21) rfl)) fun _ q68_18 => ?_;clear q68_17
 have hz:=q68_18.z;have s4:=q68_18.a 4 rfl;clear q68_18;refine wpList_nil ?_
 go_wp2
 refine bodyPost_ret (results_tmp rfl _ _ _) rfl ⟨?_,hB.trans (hx4.mono (by omega))⟩;rw [getD_of s4]
 rfl
set_option maxHeartbeats 1000000 in
theorem check8 (c : Cg) (s : Sta) (w : World) (hI : s.In w) (hF : s.Fit) : Calls Tryz.prog 27 #[c.val,s.val] w fun e w' => e = .returned (.int .i64 (s.ckE c))∧Below w.heap.size w w':=by
 go_enter Tryz.func27,Tryz.ntmps27
 go_upto_region 0 with fail
 refine wp_region_lit ?_;refine vl_gen (fun T => T.size = 14∧T[0]? = some (gw true (c.val))∧T[1]? = some (gw true (s.val))) ⟨rfl,rfl,rfl⟩ (fun Z0 ⟨hz,s0,s1⟩ => ?_)
 obtain ⟨w1,hw1⟩ : ∃ y,y = w.alloc (.cells c.cs.toArray 23):=⟨_,rfl⟩
 have hb : Below w.heap.size w w1:=by rw [hw1];exact (Below.refl _ _).alloc (Nat.le_refl _) _
 have hs1 : w1.heap.size = w.heap.size + 1:=by rw [hw1];simp
 have HC : CB7 w1 (w.heap.size) c:=by rw [hw1];exact BX7.new _ _ _
 refine vw (.pointer (some ⟨w.heap.size,0,none⟩)) w1 (want_none rfl) (ex_box8 rfl (ev s0 rfl) (by rw [hw1];exact bxC7 _ _)) rfl hz (by decide) (fun Z1 zz kk s2x => ?_);replace s1:=ku s1;clear kk hz s0 hw1;have hz:=zz;have s2:=s2x;clear zz s2x;have hB:=hb;clear hb
 obtain ⟨w2,hw2⟩ : ∃ y,y = w1.alloc (.cells s.cs.toArray 36):=⟨_,rfl⟩
 have hb : Below w1.heap.size w1 w2:=by rw [hw2];exact (Below.refl _ _).alloc (Nat.le_refl _) _
 have hs2 : w2.heap.size = w.heap.size + 2:=by rw [hw2];simp;omega
 have HS : SB7 w2 (w.heap.size + 1) s:=by rw [hw2,← hs1];exact BX7.new _ _ _
 refine vw (.pointer (some ⟨w.heap.size + 1,0,none⟩)) w2 (want_none rfl) (ex_box8 rfl (ev s1 rfl) (by rw [hw2,← hs1];exact bxS7 _ _)) rfl hz (by decide) (fun Z2 zz kk s3x => ?_);replace s2:=ku s2;clear kk hz s1 hw2;have hz:=zz;have s3:=s3x;clear zz s3x;have hB:=hB.trans (hb.mono (by omega));have HC:=HC.bel hb;clear hb;have hv0 : Below w2.heap.size w2 w2:=Below.refl _ _;have HI:=hI.later hB;have q69_0:=((Rp.nil hz).cons s2).cons s3;clear hz s2 s3
 refine q69_0.t (.int .i64 0) (ex_assign rfl rfl) fun _ q69_1 => ?_;clear q69_0
 have hz:=q69_1.z;have s2:=q69_1.a 2 rfl;have s3:=q69_1.a 3 rfl;clear q69_1;refine wpList_nil ?_
 go_upto_region 1 with fail
 refine wp_region_lit ?_;have q70_0:=((Rp.nil hz).cons s2).cons s3;clear hz s2 s3
 refine q70_0.t (c.val) (ex_ld rfl (q70_0.e (j:=2) rfl) (CB7.ld (HC.bel hv0))) fun _ q70_1 => ?_;clear q70_0
 refine vcall true (.int .i64 c.er) (want_none rfl) (fun hc => ex_call rfl (by simp only [List.map_toArray,List.map_cons,List.map_nil,(q70_1.e (j:=6) rfl),evc] <;> rfl) rfl) (fun hc => checkconfig8 c w2) rfl q70_1.z (by decide) (q70_1.kc fun Ya x1 hb q70_2 => ?_);clear q70_1;have hx1:=hv0.trans (hb.mono hv0.size);clear hb
 refine q70_2.t (.bool (!decide (c.er = 0))) (ex_bin rfl (q70_2.e (j:=7) rfl) rfl (neqN8 _ _ _ _ _)) fun _ q70_3 => ?_;clear q70_2
 refine q70_3.t _ (ex_assign rfl (q70_3.e (j:=8) rfl)) fun _ q70_4 => ?_;clear q70_3
 have hz:=q70_4.z;have s2:=q70_4.a 2 rfl;have s3:=q70_4.a 3 rfl;have s5:=q70_4.a 5 rfl;clear q70_4;refine wpList_nil ?_
 go_upto_region 2 with fail
 cases hok : c.okB
 ·refine wp_cond_true ((ev s5 rfl).trans (by unfold Cg.er;rw [hok];rfl)) ?_
  go_upto_region 2 with fail
  refine wp_region_lit ?_;have q71_0:=((Rp.nil hz).cons s2).cons s3;clear hz s2 s3
  refine q71_0.t (.int .i64 1) (ex_assign rfl rfl) fun _ q71_1 => ?_;clear q71_0
  have hz:=q71_1.z;have s4:=q71_1.a 4 rfl;clear q71_1;refine wpList_nil ?_
  go_wp2
  refine bodyPost_ret (results_tmp rfl _ _ _) rfl ⟨?_,hB.trans (hx1.mono (by omega))⟩;rw [getD_of s4]
  unfold Sta.ckE
  rw [hok]
  rfl
 ·refine wp_cond_false ((ev s5 rfl).trans (by unfold Cg.er;rw [hok];rfl)) ?_
  clear s5
  go_upto_region 3 with fail
  refine wp_region_lit ?_;have q72_0:=((Rp.nil hz).cons s2).cons s3;clear hz s2 s3
  refine q72_0.t (c.val) (ex_ld rfl (q72_0.e (j:=2) rfl) (CB7.ld (HC.bel hx1))) fun _ q72_1 => ?_;clear q72_0
  refine q72_1.t (s.val) (ex_ld rfl (q72_1.e (j:=3) rfl) (SB7.ld (HS.bel hx1))) fun _ q72_2 => ?_;clear q72_1
  refine vcall true (.bool (s.stB c)) (want_none rfl) (fun hc => ex_call rfl (by simp only [List.map_toArray,List.map_cons,List.map_nil,(q72_2.e (j:=10) rfl),(q72_2.e (j:=11) rfl),evc] <;> rfl) rfl) (fun hc => state8 c s x1 (HI.later hx1) hF hok) rfl q72_2.z (by decide) (q72_2.kc fun Yb x2 hb q72_3 => ?_);clear q72_2;have hx2:=hx1.trans (hb.mono hx1.size);clear hb
  refine q72_3.t (.bool (!(s.stB c))) (ex_not rfl (q72_3.e (j:=12) rfl)) fun _ q72_4 => ?_;clear q72_3
  refine q72_4.t _ (ex_assign rfl (q72_4.e (j:=13) rfl)) fun _ q72_5 => ?_;clear q72_4
  have hz:=q72_5.z;have s9:=q72_5.a 9 rfl;clear q72_5;refine wpList_nil ?_
  go_upto_region 4 with fail
  cases e9 : s.stB c
  ·refine wp_cond_true ((ev s9 rfl).trans (by rw [e9];rfl)) ?_
   go_upto_region 4 with fail
   refine wp_region_lit ?_;have q73_0:=Rp.nil hz;clear hz
   refine q73_0.t (.int .i64 2) (ex_assign rfl rfl) fun _ q73_1 => ?_;clear q73_0
   have hz:=q73_1.z;have s4:=q73_1.a 4 rfl;clear q73_1;refine wpList_nil ?_
   go_wp2
   refine bodyPost_ret (results_tmp rfl _ _ _) rfl ⟨?_,hB.trans (hx2.mono (by omega))⟩;rw [getD_of s4]
   unfold Sta.ckE
   rw [hok,e9]
   rfl
  ·refine wp_cond_false ((ev s9 rfl).trans (by rw [e9];rfl)) ?_
   clear s9
   go_upto_region 5 with fail
   refine wp_region_lit ?_;have q74_0:=Rp.nil hz;clear hz
   refine q74_0.t (.int .i64 0) (ex_assign rfl rfl) fun _ q74_1 => ?_;clear q74_0
   have hz:=q74_1.z;have s4:=q74_1.a 4 rfl;clear q74_1;refine wpList_nil ?_
   go_wp2
   refine bodyPost_ret (results_tmp rfl _ _ _) rfl ⟨?_,hB.trans (hx2.mono (by omega))⟩;rw [getD_of s4]
   unfold Sta.ckE
   rw [hok,e9]
   rfl
end Go.Proofs.YtgncpcfncojgoaaGreatDoor
namespace Go.Proofs.YtgncpcfncojgoaaGreatDoor
open Go.RowKit Go.Maps
open Classical
/-! Regions that draw their order and end in stores over what they read: what only reads is taken first under S;the stores (late) wait for all of it,and behind them S is asked no more. -/
section
variable {P : Program} {ops : Array Oper} {Q : Exit → Act → World → Prop} {md : Region.Mode} {S : World → Prop} {late : Nat → Bool}
def wpAnyG (P : Program) (md : Region.Mode) (ops : Array Oper) (late : Nat → Bool) (Q : Exit → Act → World → Prop) (S : World → Prop) : Nat → Array Bool → Act → World → Prop
 | 0,listed,a,w => Region.ready md ops listed = []∧Q .normal a w
 | fuel + 1,listed,a,w =>
  (Region.ready md ops listed = [] → Q .normal a w) ∧
  ∀ i ∈ Region.ready md ops listed,wpOp P ops Q i (fun a' w' => ((∀ k,late k = true → (listed.setIfInBounds i true).getD k false = false) → S w')∧wpAnyG P md ops late Q S fuel (listed.setIfInBounds i true) a' w') a w
theorem wpAny_of_G : ∀ (fuel : Nat) (listed : Array Bool) (a : Act) (w : World),wpAnyG P md ops late Q S fuel listed a w → wpAny P md ops Q fuel listed a w
 | 0,_,_,_,h => h
 | fuel + 1,_,_,_,h => ⟨h.1,fun i hi => wpOp_mono (fun a' w' h' => wpAny_of_G fuel _ a' w' h'.2) (h.2 i hi)⟩
theorem getD_setb {l : Array Bool} {i k : Nat} (h : i ≠ k) (d : Bool) : (l.setIfInBounds i true).getD k d = l.getD k d:=by
 simp [Array.getD_eq_getD_getElem?,Array.getElem?_setIfInBounds,h]
theorem wpAnyG_first {i : Nat} {oi : Oper} {v : Value} (hi : ops[i]? = some oi) (hsel : ∀ (j : Nat) (o : Oper) cs b,ops[j]? = some o → o.op ≠ .select cs b)
  (hQ : ∀ c a w,Q (.panic c) (a.put oi.dst v) w → Q (.panic c) a w) (hlate : ∀ k ok,late k = true → ops[k]? = some ok → ∃ e ∈ ok.after,Region.binds md e = true∧e.on = i) (hil : late i = false) :
  ∀ (fuel : Nat) (listed : Array Bool) (a : Act) (w : World),(∀ k,late k = true → listed.getD k false = false) →
   (∀ j oj,ops[j]? = some oj → j ≠ i → listed.getD j true = false → (∀ e ∈ oj.after,Region.binds md e = true → e.on ≠ i) → oi.apart ops oj = true) →
   i ∈ Region.ready md ops listed → YieldsIf P ops S oi v a → S w →
   wpAnyG P md ops late Q S fuel (listed.setIfInBounds i true) (a.put oi.dst v) w → wpAnyG P md ops late Q S (fuel + 1) listed a w:=by
 intro fuel
 induction fuel with
 | zero =>
  intro listed a w _ _ hr hy hS H;refine ⟨fun h => (by rw [h] at hr;cases hr),fun j hj => ?_⟩
  by_cases hji : j = i
  ·subst hji;exact hy.wpOp hi hS ⟨fun _ => hS,H⟩
  ·have:=ready_mono hj hji
   rw [H.1] at this
   cases this
 | succ fuel ih =>
  intro listed a w hno hfree hr hy hS H;refine ⟨fun h => (by rw [h] at hr;cases hr),fun j hj => ?_⟩
  by_cases hji : j = i
  ·subst hji;exact hy.wpOp hi hS ⟨fun _ => hS,H⟩
  ·have h1:=H.2 j (ready_mono hj hji)
   obtain ⟨hjun,oj,hoj,hall⟩:=mem_ready.1 hj
   have hnot : ∀ e ∈ oj.after,Region.binds md e = true → e.on ≠ i:=fun e he hb heq => by
    have h1:=hall e he hb;have h0:=(mem_ready.1 hr).1;rw [heq] at h1
    rcases Nat.lt_or_ge i listed.size with h' | h'
    ·simp [h'] at h0 h1;rw [h0] at h1;cases h1
    ·simp [Array.getElem?_eq_none h'] at h1
   have hjl : late j = false:=by
    cases e : late j with
    | false => rfl
    | true =>
     obtain ⟨x,hx,hb,ho⟩:=hlate j oj e hoj
     exact absurd ho (hnot x hx hb)
   have hno2 : ∀ k,late k = true → ((listed.setIfInBounds i true).setIfInBounds j true).getD k false = false:=fun k hk => by
    rw [getD_setb (by rintro rfl;rw [hjl] at hk;cases hk),getD_setb (by rintro rfl;rw [hil] at hk;cases hk)]
    exact hno k hk
   have hno3 : ∀ k,late k = true → (listed.setIfInBounds j true).getD k false = false:=fun k hk => by
    rw [getD_setb (by rintro rfl;rw [hjl] at hk;cases hk)]
    exact hno k hk
   have h2:=wpOp_putIf hoj (hfree j oj hoj hji hjun hnot) (fun cs b => hsel i oi cs b hi) (fun cs b => hsel j oj cs b hoj) hQ hy h1
   have hfree' : ∀ k ok,ops[k]? = some ok → k ≠ i → (listed.setIfInBounds j true).getD k true = false →
     (∀ e ∈ ok.after,Region.binds md e = true → e.on ≠ i) → oi.apart ops ok = true:=fun k ok hk hki hun hno => by
    refine hfree k ok hk hki ?_ hno
    by_cases hjk : j = k
    ·subst hjk;exact hjun
    ·rw [getD_set_ne true hjk] at hun;exact hun
   refine wpOp_mono (fun a' w' h3 => ⟨fun _ => h3.2.1 hno2,ih (listed.setIfInBounds j true) a' w' hno3 hfree' (ready_mono hr (Ne.symm hji)) h3.1 (h3.2.1 hno2) ?_⟩) h2;rw [Array.setIfInBounds_comm _ _ hji]
   exact h3.2.2
theorem wpAnyG_firstW {i : Nat} {oi : Oper} {v : Value} (hi : ops[i]? = some oi) (hsel : ∀ (j : Nat) (o : Oper) cs b,ops[j]? = some o → o.op ≠ .select cs b)
  (hQ : ∀ c a w,Q (.panic c) (a.put oi.dst v) w → Q (.panic c) a w) (hil : late i = false) :
  ∀ (fuel : Nat) (listed : Array Bool) (a : Act) (w : World),
   (∀ j oj,ops[j]? = some oj → j ≠ i → listed.getD j true = false → (∀ e ∈ oj.after,Region.binds md e = true → e.on ≠ i) → oi.apart ops oj = true) →
   i ∈ Region.ready md ops listed → YieldsIf P ops (fun _ => True) oi v a → ((∀ k,late k = true → listed.getD k false = false) → S w) →
   wpAnyG P md ops late Q S fuel (listed.setIfInBounds i true) (a.put oi.dst v) w → wpAnyG P md ops late Q S (fuel + 1) listed a w:=by
 have hset : ∀ (listed : Array Bool),(∀ k,late k = true → (listed.setIfInBounds i true).getD k false = false) → ∀ k,late k = true → listed.getD k false = false:=fun listed h k hk => by
  have:=h k hk
  rwa [getD_setb (by rintro rfl;rw [hil] at hk;cases hk)] at this
 intro fuel
 induction fuel with
 | zero =>
  intro listed a w _ hr hy hS H;refine ⟨fun h => (by rw [h] at hr;cases hr),fun j hj => ?_⟩
  by_cases hji : j = i
  ·subst hji;exact hy.wpOp hi trivial ⟨fun h => hS (hset listed h),H⟩
  ·have:=ready_mono hj hji
   rw [H.1] at this
   cases this
 | succ fuel ih =>
  intro listed a w hfree hr hy hS H;refine ⟨fun h => (by rw [h] at hr;cases hr),fun j hj => ?_⟩
  by_cases hji : j = i
  ·subst hji;exact hy.wpOp hi trivial ⟨fun h => hS (hset listed h),H⟩
  ·have h1:=H.2 j (ready_mono hj hji)
   obtain ⟨hjun,oj,hoj,hall⟩:=mem_ready.1 hj
   have hnot : ∀ e ∈ oj.after,Region.binds md e = true → e.on ≠ i:=fun e he hb heq => by
    have h1:=hall e he hb;have h0:=(mem_ready.1 hr).1;rw [heq] at h1
    rcases Nat.lt_or_ge i listed.size with h' | h'
    ·simp [h'] at h0 h1;rw [h0] at h1;cases h1
    ·simp [Array.getElem?_eq_none h'] at h1
   have hno : (∀ k,late k = true → (listed.setIfInBounds j true).getD k false = false) → ∀ k,late k = true → ((listed.setIfInBounds i true).setIfInBounds j true).getD k false = false:=fun h k hk => by
    rw [Array.setIfInBounds_comm _ _ (Ne.symm hji),getD_setb (by rintro rfl;rw [hil] at hk;cases hk)]
    exact h k hk
   have h2:=wpOp_putIf hoj (hfree j oj hoj hji hjun hnot) (fun cs b => hsel i oi cs b hi) (fun cs b => hsel j oj cs b hoj) hQ hy h1
   have hfree' : ∀ k ok,ops[k]? = some ok → k ≠ i → (listed.setIfInBounds j true).getD k true = false →
     (∀ e ∈ ok.after,Region.binds md e = true → e.on ≠ i) → oi.apart ops ok = true:=fun k ok hk hki hun hno => by
    refine hfree k ok hk hki ?_ hno
    by_cases hjk : j = k
    ·subst hjk;exact hjun
    ·rw [getD_set_ne true hjk] at hun;exact hun
   refine wpOp_mono (fun a' w' h3 => ⟨fun h => h3.2.1 (hno h),ih (listed.setIfInBounds j true) a' w' hfree' (ready_mono hr (Ne.symm hji)) h3.1 (fun h => h3.2.1 (hno h)) ?_⟩) h2;rw [Array.setIfInBounds_comm _ _ hji]
   exact h3.2.2
end
def waitsB (ops : Array Oper) (late : Nat → Bool) (i : Nat) : Bool:=(List.range ops.size).all fun k => !late k || match ops[k]? with
 | none => true
 | some o => o.after.toList.any fun e => Region.binds .any e && e.on == i
def noneB (late : Nat → Bool) (listed : Array Bool) : Bool:=(List.range listed.size).all fun k => !late k || !listed.getD k false
theorem noneB_spec {late : Nat → Bool} {listed : Array Bool} (h : noneB late listed = true) (k : Nat) (hk : late k = true) : listed.getD k false = false:=by
 by_cases hl : k < listed.size
 ·have:=List.all_eq_true.1 h k (List.mem_range.2 hl)
  simpa [hk] using this
 ·simp [Array.getD_eq_getD_getElem?,Array.getElem?_eq_none (Nat.le_of_not_lt hl)]
theorem waitsB_spec {ops : Array Oper} {late : Nat → Bool} {i : Nat} (h : waitsB ops late i = true) (k : Nat) (ok : Oper) (hk : late k = true) (ho : ops[k]? = some ok) : ∃ e ∈ ok.after,Region.binds .any e = true∧e.on = i:=by
 have hl : k < ops.size:=(Array.getElem?_eq_some_iff.1 ho).1;have:=List.all_eq_true.1 h k (List.mem_range.2 hl);simp only [hk,Bool.not_true,Bool.false_or,ho] at this;obtain ⟨e,he,h2⟩:=List.any_eq_true.1 this;simp only [Bool.and_eq_true,beq_iff_eq] at h2
 exact ⟨e,by simpa using he,h2.1,h2.2⟩
structure VG (ops : Array Oper) (late : Nat → Bool) (Q : Exit → Act → World → Prop) (S : World → Prop) (fuel : Nat) (listed : Array Bool) (a : Act) (w : World) : Prop where
 out : wpAnyG Tryz.prog .any ops late (NoPanic Q) S fuel listed a w
theorem vg_start {id : Nat} {Q : Exit → Act → World → Prop} {a : Act} {w : World} {l : List Oper} (late : Nat → Bool) (S : World → Prop) (hm : Tryz.prog.follows .mixedOrders = true) (h : VG l.toArray late Q S l.length (Array.replicate l.length false) a w.drew) : (Code.region id l.toArray true).wp Tryz.prog Q a w :=
 wp_region_noPanic (wp_region_any hm (wpAny_of_G _ _ _ _ (by simpa using h.out)))
theorem vg_done {ops : Array Oper} {late : Nat → Bool} {Q : Exit → Act → World → Prop} {S : World → Prop} {fuel : Nat} {listed : Array Bool} {a : Act} {w : World} (hr : Region.ready .any ops listed = []) (h : Q .normal a w) : VG ops late Q S fuel listed a w:=by
 cases fuel with
 | zero => exact ⟨hr,NoPanic.normal h⟩
 | succ n => exact ⟨⟨fun _ => NoPanic.normal h,by rw [hr];simp⟩⟩
theorem vg_take {ops : Array Oper} {late : Nat → Bool} {o : Oper} {T : Array Value} {df : List Deferred} {w : World} {Q : Exit → Act → World → Prop} {S : World → Prop} {fuel d n : Nat} {listed : Array Bool} (i : Nat) (c : Bool) (V : Value) (hi : ops[i]? = some o) (hs : Region.noSelect ops = true) (hf : Region.free .any ops listed i = true) (hr : (Region.ready .any ops listed).contains i = true)
  (hb1 : waitsB ops late i = true) (hb2 : noneB late listed = true) (hb3 : late i = false)
  (hw : Region.wanted o (yielded ops T) = c) (he : c = true → ∀ v,S v → (execOp (⟨T,df⟩ : Act).eval o).run Tryz.prog v = .ok (.value V) v) (hd : o.dst = some d) (hz : T.size = n) (hn : d < n) (hS : S w)
  (hk : ∀ T' : Array Value,T'.size = n → (∀ j,j ≠ d → T'[j]? = T[j]?) → T'[d]? = some (gw c V) → VG ops late Q S fuel (listed.setIfInBounds i true) ⟨T',df⟩ w) : VG ops late Q S (fuel + 1) listed ⟨T,df⟩ w:=by
 cases c with
 | false =>
  refine ⟨wpAnyG_first (v:=undef) hi (Region.noSelect_spec hs) (fun _ _ _ h => h) (waitsB_spec hb1) hb3 fuel listed _ w (noneB_spec hb2) (Region.free_spec hi hf) (by simpa using hr) (.inr ⟨hw,rfl⟩) hS ?_⟩;rw [hd]
  exact (hk (T.setIfInBounds d undef) (by simp [hz]) (fun i hi => at_set_ne _ hi) (at_set _ (by omega))).out
 | true =>
  refine ⟨wpAnyG_first (v:=V) hi (Region.noSelect_spec hs) (fun _ _ _ h => h) (waitsB_spec hb1) hb3 fuel listed _ w (noneB_spec hb2) (Region.free_spec hi hf) (by simpa using hr) (.inl ⟨hw,he rfl⟩) hS ?_⟩;rw [hd]
  exact (hk (T.setIfInBounds d V) (by simp [hz]) (fun i hi => at_set_ne _ hi) (at_set _ (by omega))).out
theorem vg_takeW {ops : Array Oper} {late : Nat → Bool} {o : Oper} {T : Array Value} {df : List Deferred} {w : World} {Q : Exit → Act → World → Prop} {S : World → Prop} {fuel d n : Nat} {listed : Array Bool} (i : Nat) (c : Bool) (V : Value) (hi : ops[i]? = some o) (hs : Region.noSelect ops = true) (hf : Region.free .any ops listed i = true) (hr : (Region.ready .any ops listed).contains i = true) (hb3 : late i = false)
  (hw : Region.wanted o (yielded ops T) = c) (he : c = true → ∀ v,(execOp (⟨T,df⟩ : Act).eval o).run Tryz.prog v = .ok (.value V) v) (hd : o.dst = some d) (hz : T.size = n) (hn : d < n) (hS : (∀ k,late k = true → listed.getD k false = false) → S w)
  (hk : ∀ T' : Array Value,T'.size = n → (∀ j,j ≠ d → T'[j]? = T[j]?) → T'[d]? = some (gw c V) → VG ops late Q S fuel (listed.setIfInBounds i true) ⟨T',df⟩ w) : VG ops late Q S (fuel + 1) listed ⟨T,df⟩ w:=by
 cases c with
 | false =>
  refine ⟨wpAnyG_firstW (v:=undef) hi (Region.noSelect_spec hs) (fun _ _ _ h => h) hb3 fuel listed _ w (Region.free_spec hi hf) (by simpa using hr) (.inr ⟨hw,rfl⟩) hS ?_⟩;rw [hd]
  exact (hk (T.setIfInBounds d undef) (by simp [hz]) (fun i hi => at_set_ne _ hi) (at_set _ (by omega))).out
 | true =>
  refine ⟨wpAnyG_firstW (v:=V) hi (Region.noSelect_spec hs) (fun _ _ _ h => h) hb3 fuel listed _ w (Region.free_spec hi hf) (by simpa using hr) (.inl ⟨hw,fun v _ => he rfl v⟩) hS ?_⟩;rw [hd]
  exact (hk (T.setIfInBounds d V) (by simp [hz]) (fun i hi => at_set_ne _ hi) (at_set _ (by omega))).out
theorem late_no {late : Nat → Bool} {listed : Array Bool} {P : Prop} (k : Nat) (h : (late k && listed.getD k false) = true) : (∀ k,late k = true → listed.getD k false = false) → P:=fun h2 => by
 have h3 : late k = true∧listed.getD k false = true:=by simpa using h
 rw [h2 k h3.1] at h3
 cases h3.2
theorem wpAnyG_all {ops : Array Oper} {late : Nat → Bool} {Q : Exit → Act → World → Prop} {S : World → Prop} {rs : List Nat} {fuel : Nat} {listed : Array Bool} {a : Act} {w : World} (hr : Region.ready .any ops listed = rs) (hne : rs ≠ [])
  (h : ∀ i ∈ rs,wpOp Tryz.prog ops Q i (fun a' w' => ((∀ k,late k = true → (listed.setIfInBounds i true).getD k false = false) → S w')∧wpAnyG Tryz.prog .any ops late Q S fuel (listed.setIfInBounds i true) a' w') a w) : wpAnyG Tryz.prog .any ops late Q S (fuel + 1) listed a w :=
 ⟨fun h0 => absurd (hr ▸ h0) hne,hr ▸ h⟩
theorem vg_call {ops : Array Oper} {late : Nat → Bool} {o : Oper} {T : Array Value} {df : List Deferred} {w : World} {Q : Exit → Act → World → Prop} {S : World → Prop} {fuel d n : Nat} {listed : Array Bool} (i : Nat) {fid : FuncId} {args : Array Value} {R : Ending → World → Prop} (hi : ops[i]? = some o) (hr : Region.ready .any ops listed = [i])
  (hw : Region.wanted o (yielded ops T) = true) (he : (execOp (⟨T,df⟩ : Act).eval o).run Tryz.prog w = .ok (.enter fid args) w) (hc : Calls Tryz.prog fid args w R) (hd : o.dst = some d) (hz : T.size = n) (hn : d < n)
  (hk : ∀ (e : Ending) (w' : World),R e w' → ∃ V,e = .returned V∧S w'∧∀ T' : Array Value,T'.size = n → (∀ j,j ≠ d → T'[j]? = T[j]?) → T'[d]? = some (gw true V) → VG ops late Q S fuel (listed.setIfInBounds i true) ⟨T',df⟩ w') : VG ops late Q S (fuel + 1) listed ⟨T,df⟩ w:=by
 refine ⟨wpAnyG_all hr (by simp) (fun j hj => ?_)⟩
 obtain rfl : j = i:=by simpa using hj
 unfold wpOp
 rw [hi];simp only [hw,if_true];refine .inl ?_
 unfold Oper.wp
 rw [he,Oper.upon_enter];refine hc.mono ?_;intro e w' hR;obtain ⟨V,rfl,hS,hk'⟩:=hk e w' hR;refine ⟨fun _ => hS,?_⟩;rw [hd]
 exact (hk' (T.setIfInBounds d V) (by simp [hz]) (fun i hi => at_set_ne _ hi) (at_set _ (by omega))).out
theorem vg_store {ops : Array Oper} {late : Nat → Bool} {o : Oper} {T : Array Value} {df : List Deferred} {w : World} {Q : Exit → Act → World → Prop} {S : World → Prop} {fuel : Nat} {listed : Array Bool} (i : Nat) (w' : World) (hi : ops[i]? = some o) (hr : Region.ready .any ops listed = [i])
  (hl : (late i && decide (i < listed.size)) = true) (hw : Region.wanted o (yielded ops T) = true) (he : (execOp (⟨T,df⟩ : Act).eval o).run Tryz.prog w = .ok .skip w') (hd : o.dst = none)
  (hk : VG ops late Q S fuel (listed.setIfInBounds i true) ⟨T,df⟩ w') : VG ops late Q S (fuel + 1) listed ⟨T,df⟩ w:=by
 refine ⟨wpAnyG_all hr (by simp) (fun j hj => ?_)⟩
 obtain rfl : j = i:=by simpa using hj
 unfold wpOp
 rw [hi];simp only [hw,if_true];refine .inl ?_
 unfold Oper.wp
 rw [he,Oper.upon_skip]
 have hl2 : late j = true∧j < listed.size:=by simpa using hl
 refine ⟨fun h => ?_,?_⟩
 ·have:=h j hl2.1
  simp [Array.getD_eq_getD_getElem?,Array.getElem?_setIfInBounds,hl2.2] at this
 rw [hd]
 exact hk.out
end Go.Proofs.YtgncpcfncojgoaaGreatDoor
namespace Go.Proofs.YtgncpcfncojgoaaGreatDoor
open Go.RowKit Go.Maps
open Classical
variable {α : Type} {Y : Lay α}
theorem run_clearY (K : Y.Ok) (w : World) (ty : TypeId) (B g i m n cp c : Nat) (M : List α) (hM : OwnY Y B w (.slice (some ⟨g,0,none⟩) n cp) M) (hi : i + m = n) (hm0 : 0 < m) :
  ∃ w',(Builtin.clear_ #[Y.ST] ty #[.slice (some ⟨g,i * Y.k,none⟩) m c]).run Tryz.prog w = .ok (.tuple #[]) w'∧OwnY Y B w' (.slice (some ⟨g,0,none⟩) n cp) (put M i (List.replicate m Y.z))∧Upd (· = g) w w'∧w'.heap.size = w.heap.size:=by
 obtain ⟨zv,hinfo,hzc⟩:=K.info;obtain ⟨i0,hi0,hz0,hz1,hz2⟩:=info_parts hinfo;have hMn : M.length = n:=(hM.sl' K).len
 have hzs : zv.cells.size = Y.k:=by rw [hzc,List.size_toArray,K.len]
 have hml : (Builtin.zeroCells zv.cells m).toList = fl Y (List.replicate m Y.z):=by rw [zeroCells_made,hzs];exact madeY K hzc m
 rcases hM with ⟨h0,h1 | ⟨g1,cap,cur,e1,e2,e3,e4,e5,e6,e7⟩⟩
 ·have:=h1.1;cases this
 ·injection e1 with q1 q2 q3
  injection q1 with q1
  cases q1
  subst q3
  have hcs : (fl Y (List.replicate m Y.z)).length = m * Y.k:=by rw [fl_length K,List.length_replicate]
  have hfit : i * Y.k + (fl Y (List.replicate m Y.z)).length ≤ cur.size:=by rw [hcs,e6,← Nat.add_mul];exact Nat.mul_le_mul_right _ (by omega)
  have hst:=run_storeCells_at (P:=Tryz.prog) g (i * Y.k) Y.T (fl Y (List.replicate m Y.z)) 0 cur w e3 (by omega) (fl_one K _);rw [Nat.add_zero] at hst
  have hr : (Builtin.clear_ #[Y.ST] ty #[.slice (some ⟨g,i * Y.k,none⟩) m c]).run Tryz.prog w = .ok (.tuple #[]) (w.setRow g (cur.toList.take (i * Y.k) ++ fl Y (List.replicate m Y.z) ++ cur.toList.drop (i * Y.k + (fl Y (List.replicate m Y.z)).length)).toArray):=by
   cases m with
   | zero => omega
   | succ m => simp [Builtin.clear_,run_underlying K.und,zeroValue,typeInfo,hi0,hz0,hml,hst]
  refine ⟨_,hr,?_,⟨rfl,rfl,rfl,by simp,fun b hb hs => setRow_other w g b _ hs⟩,by simp⟩;have hpl : (put M i (List.replicate m Y.z)).length = M.length:=put_length (by rw [List.length_replicate];omega);refine ⟨by rw [fl_length K],.inr ⟨g,cp,_,?_,e2,setRow_heap w g cur _ Y.T (0,0) e3,?_,e5,?_,?_⟩⟩
  ·rw [hpl,← q2]
  ·rw [hpl];exact e4
  ·rw [List.size_toArray,← e6]
   simp only [List.length_append,List.length_take,List.length_drop,Array.length_toList]
   omega
  ·rw [hpl,fl_put K (by rw [List.length_replicate];omega),← e7]
   have hfit2 : i * Y.k + (fl Y (List.replicate m Y.z)).length ≤ M.length * Y.k:=by rw [hcs,← Nat.add_mul];exact Nat.mul_le_mul_right _ (by omega)
   exact splice_take hfit2
theorem clearY (K : Y.Ok) (w : World) {ops : Array Oper} {rest : List Oper} {o : Oper} {a : Act} {Q : Exit → Act → World → Prop} (hgd : o.guard = none) (d : Operand)
  (ho : o.op = .call { callee:=.builtin .clear,args:=#[d],argTypes:=#[Y.ST] }) (B g i m n cp c : Nat) (M : List α)
  (hd : a.eval d = .slice (some ⟨g,i * Y.k,none⟩) m c) (hM : OwnY Y B w (.slice (some ⟨g,0,none⟩) n cp) M) (hi : i + m = n) (hm0 : 0 < m)
  (h : ∀ w',OwnY Y B w' (.slice (some ⟨g,0,none⟩) n cp) (put M i (List.replicate m Y.z)) → Upd (· = g) w w' → w'.heap.size = w.heap.size → wpList Tryz.prog ops Q rest (a.put o.dst (.tuple #[])) w') : wpList Tryz.prog ops Q (o :: rest) a w:=by
 refine wpList_plain hgd fun K' hK' => ?_
 obtain ⟨w',hr,h1,h2,h3⟩:=run_clearY K w o.type B g i m n cp c M hM hi hm0
 unfold Oper.wp execOp
 simp only [ho,resolve,invoke,builtin,Sem.run_bind,Sem.run_pure,Result.andThen_ok,List.map_toArray,List.map_cons,List.map_nil,hd,hr]
 exact hK' _ _ (h w' h1 h2 h3)
theorem OwnY.pre (K : Y.Ok) {B g n c : Nat} {w : World} {l : List α} (h : OwnY Y B w (.slice (some ⟨g,0,none⟩) n c) l) (m : Nat) (hm : m ≤ n) : OwnY Y B w (.slice (some ⟨g,0,none⟩) m c) (l.take m):=by
 have hln : l.length = n:=(h.sl' K).len
 rcases h with ⟨h0,h1 | ⟨g1,cap,cur,e1,e2,e3,e4,e5,e6,e7⟩⟩
 ·have:=h1.1;cases this
 ·injection e1 with q1 q2 q3
  injection q1 with q1
  cases q1
  subst q3
  have hl2 : (l.take m).length = m:=by rw [List.length_take];omega
  refine ⟨by rw [fl_length K],.inr ⟨g,c,cur,by rw [hl2],e2,e3,by omega,e5,e6,?_⟩⟩;rw [hl2]
  have hA : fl Y l = fl Y (l.take m) ++ fl Y (l.drop m):=by rw [← fl_append,List.take_append_drop]
  have hL : (fl Y (l.take m)).length = m * Y.k:=by rw [fl_length K,hl2]
  have : (cur.toList.take (l.length * Y.k)).take (m * Y.k) = cur.toList.take (m * Y.k):=by
   rw [List.take_take,Nat.min_eq_left (Nat.mul_le_mul_right _ (by omega))]
  rw [← this,e7,hA,← hL]
  exact List.take_left
def ovr (D : List (Int × Int)) (n h l : Int) : Bool:=decide (0 ≤ n∧n < (D.length : Int)) && decide (cmpD h l (D.getD n.toNat (0,0)).1 (D.getD n.toNat (0,0)).2 < 0)
end Go.Proofs.YtgncpcfncojgoaaGreatDoor
namespace Go.Proofs.YtgncpcfncojgoaaGreatDoor
open Go.RowKit Go.Maps
open Classical
set_option maxHeartbeats 1000000 in
theorem isover_any (D : List (Int × Int)) (a : Option Addr) (n c : Nat) (nd h l : Int) (w : World) (hD : SlY yD w a n c D) :
  Calls Tryz.prog 219 #[.slice a n c,.int .i64 nd,.agg #[.int .u64 h,.int .u64 l]] w fun e w' => e = .returned (.bool (ovr D nd h l))∧Below w.heap.size w w':=by
 have hmx:=hD.max;have hcp:=hD.cap;have hln:=hD.len
 unfold maxLen at hmx
 have HB : Hid (∀ v,Below (w.heap.size + 1) (w.alloc (.cells #[.int .u64 h,.int .u64 l] 26)) v → Below w.heap.size w v):=fun v hv => ((Below.refl _ w).alloc (Nat.le_refl _) _).trans (hv.mono (by omega))
 have HV : Hid (ovr D nd h l = (decide (0 ≤ nd∧nd < (n : Int)) && decide (cmpD h l (D.getD nd.toNat (0,0)).1 (D.getD nd.toNat (0,0)).2 < 0))):=by show _ = _;unfold ovr;rw [hln]
 generalize ovr D nd h l = V at *
 by_cases h0 : 0 ≤ nd
 ·by_cases h1 : nd < (n : Int)
  ·obtain ⟨j,rfl⟩ : ∃ j : Nat,nd = (j : Int):=⟨nd.toNat,by omega⟩
   have hj : j < n:=by omega
   have hg : D[j]? = some (D[j]'(by omega)):=List.getElem?_eq_getElem (by omega);obtain ⟨q,o,rfl,hq,hl⟩:=hD.place (by rintro rfl;simp at hg);have x0:=hl j _ hg 0 _ rfl;have x1:=hl j _ hg 1 _ rfl
   have HV2 : Hid (V = decide (cmpD h l (D[j]'(by omega)).1 (D[j]'(by omega)).2 < 0)):=by
    show _ = _
    rw [HV.out,decide_eq_true (show (0 : Int) ≤ (j : Int)∧(j : Int) < (n : Int) from ⟨h0,h1⟩),Bool.true_and,Int.toNat_natCast,List.getD_eq_getElem?_getD,hg,Option.getD_some]
   clear HV hl hg
   generalize (D[j]'(by omega)) = x at *
   have CC:=hide (fun W => compare_any h l x.1 x.2 W)
   generalize cmpD h l x.1 x.2 = r at *
   have KC : Hid (∀ v,Below (w.heap.size + 1) (w.alloc (.cells #[.int .u64 h,.int .u64 l] 26)) v → (v.cell? ⟨w.heap.size,0,none⟩ = some (.int .u64 h)∧v.cell? ⟨w.heap.size,1,none⟩ = some (.int .u64 l))∧(v.cell? ⟨q,o + j * 2,none⟩ = some (.int .u64 x.1)∧v.cell? ⟨q,o + j * 2 + 1,none⟩ = some (.int .u64 x.2))):=fun v hv =>
    ⟨⟨(hv.cell (p:=⟨w.heap.size,0,none⟩) (by simp)).trans (by simp),(hv.cell (p:=⟨w.heap.size,1,none⟩) (by simp)).trans (by simp)⟩,⟨((HB.out v hv).cell (p:=⟨q,_,none⟩) hq).trans x0,((HB.out v hv).cell (p:=⟨q,_,none⟩) hq).trans x1⟩⟩
   have KZ : Hid (∀ v,Below (w.heap.size + 1) (w.alloc (.cells #[.int .u64 h,.int .u64 l] 26)) v → w.heap.size + 1 ≤ v.heap.size):=fun v hv => by have:=hv.size;simpa using this
   clear x0 x1 hD
   go_enter Tryz.func219,Tryz.ntmps219
   go_wp2_with fail
   refine region_q9 (C:=fun v => Below (w.heap.size + 1) (w.alloc (.cells #[.int .u64 h,.int .u64 l] 26)) v) (by kernel_rfl) (by kernel_rfl) (Below.refl _ _).drew ?_;refine wqv (u:=.int .i64 (j : Int)) (by kernel_rfl) (fun v hv => by kernel_rfl) ?_;simp only [pu,pn,pv,pw,px];refine wqv (u:=.bool true) (by kernel_rfl) (fun v hv => by go_simp) ?_;simp only [pu,pn,pv,pw,px];refine wqv (u:=.bool true) (by kernel_rfl) (fun v hv => by kernel_rfl) ?_;simp only [pu,pn,pv,pw,px];refine wqv (u:=.int .i64 (j : Int)) (by kernel_rfl) (fun v hv => by kernel_rfl) ?_;simp only [pu,pn,pv,pw,px];refine wqv (u:=.slice (some ⟨q,o,none⟩) n c) (by kernel_rfl) (fun v hv => by kernel_rfl) ?_;simp only [pu,pn,pv,pw,px];refine wqv (u:=.int .i64 (n : Int)) (by kernel_rfl) (fun v hv => by go_simp) ?_;simp only [pu,pn,pv,pw,px];refine wqv (u:=.bool true) (by kernel_rfl) (fun v hv => by go_simp) ?_;simp only [pu,pn,pv,pw,px];refine wqv (u:=.bool true) (by kernel_rfl) (fun v hv => by kernel_rfl) ?_;simp only [pu,pn,pv,pw,px];refine wqv (u:=.bool true) (by kernel_rfl) (fun v hv => by kernel_rfl) ?_;simp only [pu,pn,pv,pw,px];refine wqv (u:=.agg #[.int .u64 h,.int .u64 l]) (by kernel_rfl) (fun v hv => by obtain ⟨⟨y0,y1⟩,_⟩:=KC.out v hv;go_simp) ?_;simp only [pu,pn,pv,pw,px];refine wqv (u:=.slice (some ⟨q,o,none⟩) n c) (by kernel_rfl) (fun v hv => by kernel_rfl) ?_;simp only [pu,pn,pv,pw,px];refine wqv (u:=.int .i64 (j : Int)) (by kernel_rfl) (fun v hv => by kernel_rfl) ?_;simp only [pu,pn,pv,pw,px];refine wqv (u:=.pointer (some ⟨q,o + j * 2,none⟩)) (by kernel_rfl) (fun v hv => by go_simp) ?_;simp only [pu,pn,pv,pw,px];refine wqv (u:=.agg #[.int .u64 x.1,.int .u64 x.2]) (by kernel_rfl) (fun v hv => by obtain ⟨_,⟨y0,y1⟩⟩:=KC.out v hv;go_simp) ?_;simp only [pu,pn,pv,pw,px];refine wqc (fid:=101) (args:=#[.agg #[.int .u64 h,.int .u64 l],.agg #[.int .u64 x.1,.int .u64 x.2]]) (u:=.int .i64 r) (by kernel_rfl) (fun v => by kernel_rfl) (fun v hv => (CC.out v).mono fun e w' h => ⟨h.1,hv.trans (h.2.mono (KZ.out v hv))⟩) ?_;simp only [pu,pn,pv,pw,px];refine wqv (u:=.bool (decide (r < 0))) (by kernel_rfl) (fun v hv => by go_simp) ?_;simp only [pu,pn,pv,pw,px];refine wqv (u:=.bool (decide (r < 0))) (by kernel_rfl) (fun v hv => by kernel_rfl) ?_;simp only [pu,pn,pv,pw,px];refine wqv (u:=.bool (decide (r < 0))) (by kernel_rfl) (fun v hv => by kernel_rfl) ?_;simp only [pu,pn,pv,pw,px];refine wqnil (fun v hv => ?_);have BV:=hide (HB.out v hv);clear hv KC KZ CC HB
   go_wp2
   go_ret
   exact ⟨by rw [HV2.out];rfl,BV.out⟩
  ·have hV : V = false:=by rw [HV.out,decide_eq_false (fun e => h1 e.2),Bool.false_and]
   subst hV;clear HV hD
   go_enter Tryz.func219,Tryz.ntmps219
   go_wp2_with fail
   refine region_q9 (C:=fun v => Below (w.heap.size + 1) (w.alloc (.cells #[.int .u64 h,.int .u64 l] 26)) v) (by kernel_rfl) (by kernel_rfl) (Below.refl _ _).drew ?_;refine wqv (u:=.int .i64 nd) (by kernel_rfl) (fun v hv => by kernel_rfl) ?_;simp only [pu,pn,pv,pw,px];refine wqv (u:=.bool true) (by kernel_rfl) (fun v hv => by go_simp) ?_;simp only [pu,pn,pv,pw,px];refine wqv (u:=.bool true) (by kernel_rfl) (fun v hv => by kernel_rfl) ?_;simp only [pu,pn,pv,pw,px];refine wqv (u:=.int .i64 nd) (by kernel_rfl) (fun v hv => by kernel_rfl) ?_;simp only [pu,pn,pv,pw,px];refine wqv (u:=.slice a n c) (by kernel_rfl) (fun v hv => by kernel_rfl) ?_;simp only [pu,pn,pv,pw,px];refine wqv (u:=.int .i64 (n : Int)) (by kernel_rfl) (fun v hv => by go_simp) ?_;simp only [pu,pn,pv,pw,px];refine wqv (u:=.bool false) (by kernel_rfl) (fun v hv => by go_simp) ?_;simp only [pu,pn,pv,pw,px];refine wqv (u:=.bool false) (by kernel_rfl) (fun v hv => by kernel_rfl) ?_;simp only [pu,pn,pv,pw,px];refine wqv (u:=.bool false) (by kernel_rfl) (fun v hv => by kernel_rfl) ?_;simp only [pu,pn,pv,pw,px];refine wqskip (by kernel_rfl) ?_;simp only [pu,pn,pv,pw,px];refine wqskip (by kernel_rfl) ?_;simp only [pu,pn,pv,pw,px];refine wqskip (by kernel_rfl) ?_;simp only [pu,pn,pv,pw,px];refine wqskip (by kernel_rfl) ?_;simp only [pu,pn,pv,pw,px];refine wqskip (by kernel_rfl) ?_;simp only [pu,pn,pv,pw,px];refine wqskip (by kernel_rfl) ?_;simp only [pu,pn,pv,pw,px];refine wqskip (by kernel_rfl) ?_;simp only [pu,pn,pv,pw,px];refine wqv (u:=.bool false) (by kernel_rfl) (fun v hv => by kernel_rfl) ?_;simp only [pu,pn,pv,pw,px];refine wqv (u:=.bool false) (by kernel_rfl) (fun v hv => by kernel_rfl) ?_;simp only [pu,pn,pv,pw,px];refine wqnil (fun v hv => ?_);have BV:=hide (HB.out v hv);clear hv HB
   go_wp2
   go_ret
   exact ⟨rfl,BV.out⟩
 ·have hV : V = false:=by rw [HV.out,decide_eq_false (fun e => h0 e.1),Bool.false_and]
  subst hV;clear HV hD
  go_enter Tryz.func219,Tryz.ntmps219
  go_wp2_with fail
  refine region_q9 (C:=fun v => Below (w.heap.size + 1) (w.alloc (.cells #[.int .u64 h,.int .u64 l] 26)) v) (by kernel_rfl) (by kernel_rfl) (Below.refl _ _).drew ?_;refine wqv (u:=.int .i64 nd) (by kernel_rfl) (fun v hv => by kernel_rfl) ?_;simp only [pu,pn,pv,pw,px];refine wqv (u:=.bool false) (by kernel_rfl) (fun v hv => by go_simp) ?_;simp only [pu,pn,pv,pw,px];refine wqv (u:=.bool false) (by kernel_rfl) (fun v hv => by kernel_rfl) ?_;simp only [pu,pn,pv,pw,px];refine wqskip (by kernel_rfl) ?_;simp only [pu,pn,pv,pw,px];refine wqskip (by kernel_rfl) ?_;simp only [pu,pn,pv,pw,px];refine wqskip (by kernel_rfl) ?_;simp only [pu,pn,pv,pw,px];refine wqskip (by kernel_rfl) ?_;simp only [pu,pn,pv,pw,px];refine wqv (u:=.bool false) (by kernel_rfl) (fun v hv => by kernel_rfl) ?_;simp only [pu,pn,pv,pw,px];refine wqv (u:=.bool false) (by kernel_rfl) (fun v hv => by kernel_rfl) ?_;simp only [pu,pn,pv,pw,px];refine wqskip (by kernel_rfl) ?_;simp only [pu,pn,pv,pw,px];refine wqskip (by kernel_rfl) ?_;simp only [pu,pn,pv,pw,px];refine wqskip (by kernel_rfl) ?_;simp only [pu,pn,pv,pw,px];refine wqskip (by kernel_rfl) ?_;simp only [pu,pn,pv,pw,px];refine wqskip (by kernel_rfl) ?_;simp only [pu,pn,pv,pw,px];refine wqskip (by kernel_rfl) ?_;simp only [pu,pn,pv,pw,px];refine wqskip (by kernel_rfl) ?_;simp only [pu,pn,pv,pw,px];refine wqv (u:=.bool false) (by kernel_rfl) (fun v hv => by kernel_rfl) ?_;simp only [pu,pn,pv,pw,px];refine wqv (u:=.bool false) (by kernel_rfl) (fun v hv => by kernel_rfl) ?_;simp only [pu,pn,pv,pw,px];refine wqnil (fun v hv => ?_);have BV:=hide (HB.out v hv);clear hv HB
  go_wp2
  go_ret
  exact ⟨rfl,BV.out⟩
end Go.Proofs.YtgncpcfncojgoaaGreatDoor
