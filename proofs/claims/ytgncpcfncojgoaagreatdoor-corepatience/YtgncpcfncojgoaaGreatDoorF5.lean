import Derived.Test.YtgncpcfncojgoaaGreatDoorF4
set_option maxRecDepth 100000
set_option linter.unusedVariables false
set_option linter.unusedSimpArgs false
namespace Go.Proofs.YtgncpcfncojgoaaGreatDoor
open Go.RowKit Go.Maps
open Classical
theorem want_k {ops : Array Oper} {o : Oper} {T : Array Value} {g j : Nat} {pol : Bool} (h : o.guard = some (g,pol)) (hg : (ops[g]?).bind (·.dst) = some j) (hj : T[j]? = some (gw true (.bool pol))) : Region.wanted o (yielded ops T) = true:=by
 rw [want_g h hg hj]
 simp
theorem vq_call {ops : Array Oper} {rest : List Oper} {o : Oper} {T : Array Value} {df : List Deferred} {C : World → Prop} {Q : Act → Prop} {d n : Nat} (c : Bool) (V : Value) {fid : FuncId} {args : Array Value} (hw : Region.wanted o (yielded ops T) = c) (he : c = true → ∀ v,C v → (execOp (⟨T,df⟩ : Act).eval o).run Tryz.prog v = .ok (.enter fid args) v)
  (hc : c = true → ∀ v,C v → Calls Tryz.prog fid args v fun e w' => e = .returned V∧C w') (hd : o.dst = some d) (hz : T.size = n) (hn : d < n)
  (hk : ∀ T' : Array Value,T'.size = n → (∀ i,i ≠ d → T'[i]? = T[i]?) → T'[d]? = some (gw c V) → VJ ops C Q rest ⟨T',df⟩) : VJ ops C Q (o :: rest) ⟨T,df⟩:=by
 cases c with
 | false =>
  refine ⟨BigFrame.wpQuiet_skip hw ?_⟩;rw [hd]
  exact (hk (T.setIfInBounds d undef) (by simp [hz]) (fun i hi => at_set_ne _ hi) (at_set _ (by omega))).out
 | true =>
  refine ⟨BigFrame.wpQuiet_want hw (fun K hK => ⟨V,fun v hv => by unfold Oper.quietAt;rw [he rfl v hv];exact ⟨rfl,hc rfl v hv⟩,hK _ ?_⟩)⟩;rw [hd]
  exact (hk (T.setIfInBounds d V) (by simp [hz]) (fun i hi => at_set_ne _ hi) (at_set _ (by omega))).out
theorem bel8 {w v : World} {B : Nat} {f : FuncId} {args : Array Value} {V : Value} (hv : Below B w v) (h : Calls Tryz.prog f args v fun e w' => e = .returned V∧Below v.heap.size v w') (hB : B ≤ v.heap.size:=by first | assumption | (have:=hv.size;omega)) : Calls Tryz.prog f args v fun e w' => e = .returned V∧Below B w w' :=
 h.mono fun e w' ⟨h1,h2⟩ => ⟨h1,hv.trans (h2.mono hB)⟩
theorem ex_ext8 {o : Oper} {ρ : Operand → Value} {x : Operand} {i : Nat} {X V : Value} {w : World} (ho : o.op = .extract x i) (hx : ρ x = X) (hr : (Instr.extract X i).run Tryz.prog w = .ok V w) : (execOp ρ o).run Tryz.prog w = .ok (.value V) w:=by
 unfold execOp
 simp only [ho,hx]
 simp [hr]
theorem ex_box8 {o : Oper} {ρ : Operand → Value} {s : TypeId} {x : Operand} {X V : Value} {w w' : World} (ho : o.op = .box s x) (hx : ρ x = X) (hr : (Instr.box s X).run Tryz.prog w = .ok V w') : (execOp ρ o).run Tryz.prog w = .ok (.value V) w':=by
 unfold execOp
 simp only [ho,hx,Sem.run_bind,hr,Result.andThen_ok]
 rfl
def inB (x a b : Int) : Bool:=decide (a ≤ x) && decide (x ≤ b)
theorem inB_iff {x a b : Int} : inB x a b = true ↔ a ≤ x∧x ≤ b:=by simp [inB]
def Cg.okB (c : Cg) : Bool:=(inB c.F 1 3 && inB c.R 1 256) && inB c.P 6 100
def Cg.er (c : Cg) : Int:=bif c.okB then 0 else 1
def Cg.nd (c : Cg) : Int:=bif c.okB then 2 * c.F + 1 else 0
def Cg.pr (c : Cg) (v : Int) : Int:=bif (c.okB && inB v 0 4294967296) then v % c.nd else -1
theorem Cg.er_eq (c : Cg) : decide (c.er = 0) = c.okB:=by unfold Cg.er;cases c.okB <;> rfl
theorem Cg.nd_ok {c : Cg} (h : c.okB = true) : c.nd = 2 * c.F + 1∧1 ≤ c.F∧c.F ≤ 3:=by
 have h2:=h;simp only [Cg.okB,Bool.and_eq_true,inB_iff] at h2
 exact ⟨by simp [Cg.nd,h],h2.1.1⟩
theorem addD8 (x y : Operand) (a b z : Int) (h : IntKind.i64.wrap (a + b) = z) (w : World) : (do eqGuard .add 3 x y (.int .i64 a) (.int .i64 b);binOp .add 3 (.int .i64 a) (.int .i64 b) : Sem Value).run Tryz.prog w = .ok (.int .i64 z) w:=by
 subst h
 go_simp
theorem subD8 (x y : Operand) (a b z : Int) (h : IntKind.i64.wrap (a - b) = z) (w : World) : (do eqGuard .sub 3 x y (.int .i64 a) (.int .i64 b);binOp .sub 3 (.int .i64 a) (.int .i64 b) : Sem Value).run Tryz.prog w = .ok (.int .i64 z) w:=by
 subst h
 go_simp
theorem mulD8 (x y : Operand) (a b z : Int) (h : IntKind.i64.wrap (a * b) = z) (w : World) : (do eqGuard .mul 3 x y (.int .i64 a) (.int .i64 b);binOp .mul 3 (.int .i64 a) (.int .i64 b) : Sem Value).run Tryz.prog w = .ok (.int .i64 z) w:=by
 subst h
 go_simp
theorem remD8 (x y : Operand) (a b : Int) (ha : 0 ≤ a) (hb : 0 < b) (hb2 : b < 4611686018427387904) (w : World) : (do eqGuard .rem 3 x y (.int .i64 a) (.int .i64 b);binOp .rem 3 (.int .i64 a) (.int .i64 b) : Sem Value).run Tryz.prog w = .ok (.int .i64 (a % b)) w:=by
 have hb0 : b ≠ 0:=by omega
 have e : a.tmod b = a % b:=Int.tmod_eq_emod_of_nonneg ha;have h1:=Int.emod_nonneg a hb0;have h2:=Int.emod_lt_of_pos a hb
 have e2 : IntKind.i64.wrap (a % b) = a % b:=by rw [IntKind.wrap_i64];omega
 go_simp
 first | done | (rw [e,e2]) | (simp [e,e2]) | (rw [e])
theorem neqDr7 (x y : Operand) (r r' : Int × Int) (w : World) : (do eqGuard .neq 26 x y (.agg #[.int .u64 r.1,.int .u64 r.2]) (.agg #[.int .u64 r'.1,.int .u64 r'.2]);binOp .neq 26 (.agg #[.int .u64 r.1,.int .u64 r.2]) (.agg #[.int .u64 r'.1,.int .u64 r'.2]) : Sem Value).run Tryz.prog w = .ok (.bool (!decide (r = r'))) w:=by
 obtain ⟨a,b⟩:=r;obtain ⟨a',b'⟩:=r'
 go_simp
 by_cases e1 : a = a' <;> by_cases e2 : b = b' <;> simp [e1,e2]
theorem Cg.P_ok {c : Cg} (h : c.okB = true) : 6 ≤ c.P∧c.P ≤ 100:=by
 simp only [Cg.okB,Bool.and_eq_true,inB_iff] at h
 exact h.2
theorem ldDr8 {w : World} {q o : Nat} {d : Int × Int} (h0 : w.cell? ⟨q,o,none⟩ = some (.int .u64 d.1)) (h1 : w.cell? ⟨q,o + 1,none⟩ = some (.int .u64 d.2)) : (Instr.loadAt 26 (.pointer (some ⟨q,o,none⟩))).run Tryz.prog w = .ok (.agg #[.int .u64 d.1,.int .u64 d.2]) w:=by go_simp
theorem vec_at8 {w : World} {a : Option Addr} {n c : Nat} {V : List (Int × Int)} {k : Int} (h : SlY yD w a n c V) (hk : 0 ≤ k∧k < (n : Int)) : ∃ q o,a = some ⟨q,o,none⟩∧(∀ v,(Instr.indexAt 30 (.slice a n c) (.int .i64 k)).run Tryz.prog v = .ok (.pointer (some ⟨q,o + k.toNat * 2,none⟩)) v)∧∀ v,Below w.heap.size w v → (Instr.loadAt 26 (.pointer (some ⟨q,o + k.toNat * 2,none⟩))).run Tryz.prog v = .ok (.agg #[.int .u64 (V.getD k.toNat (0,0)).1,.int .u64 (V.getD k.toNat (0,0)).2]) v:=by
 obtain ⟨j,rfl⟩:=Int.eq_ofNat_of_zero_le hk.1;have hl:=h.len
 have hj : j < V.length:=by omega
 obtain ⟨q,o,rfl,hq,hlie⟩:=h.place (by rintro rfl;simp at hj);have hg:=List.getElem?_eq_getElem hj
 have e : V.getD (j : Int).toNat (0,0) = V[j]:=by simp [List.getD,hg]
 rw [e];refine ⟨q,o,rfl,fun v => ?_,fun v hv => ?_⟩
 ·have h1 : (j : Int) < (n : Int):=hk.2
  simp only [Int.toNat_natCast]
  go_simp
 ·have l0:=hlie _ _ hg 0 _ rfl
  have l1:=hlie _ _ hg 1 _ rfl
  exact ldDr8 (cell8 l0 hv) (cell8 l1 hv)
def Sta.votB (s : Sta) (c : Cg) : Bool:=((decide (Ak.ck c s.self s.A = 0) && decide (Mk.ck c s.self s.M = 0)) && decide (Bl.ck c s.self s.B = 0)) && decide (An.ck c s.self s.N = 0)
def Sta.numB (s : Sta) (c : Cg) : Bool:=(((((decide ((chk s.L c.R).1 = 0) && decide ((if (s.V.length : Int) = c.nd then (0 : Int) else 30) = 0)) && inB s.self 0 (c.nd - 1)) && inB s.view 0 4294967296) && inB s.last 0 s.view) && inB s.commit 0 (s.L.length : Int)) && inB s.idle 0 (c.P - 1)
def Sta.recB (s : Sta) : Bool:=((decide (s.view = 0) && decide (s.idle = 0)) && decide ((((s.L.length : Int) + (s.A.length : Int)) + (s.M.length : Int)) + (s.B.length : Int) = 0)) && (!decide (s.V.getD s.self.toNat (0,0) = (0,0)))
set_option maxHeartbeats 1000000 in
theorem vcheck_any (f : Int) (a : Option Addr) (n c : Nat) (w : World) (hf1 : 1 ≤ f) (hf2 : f ≤ 3) : Calls Tryz.prog 148 #[.slice a n c,.int .i64 (2 * f + 1)] w fun e w' => e = .returned (.int .i64 (if (n : Int) = 2 * f + 1 then 0 else 30))∧Below w.heap.size w w':=by
 have h3 : f = 1 ∨ f = 2 ∨ f = 3:=by omega
 by_cases h : (n : Int) = 2 * f + 1
 ·rw [if_pos h]
  rcases h3 with rfl | rfl | rfl
  ·have hq : ((n : Int) != 3) = false:=by simp;omega
   clear h
   go_enter Tryz.func148,Tryz.ntmps148
   go_wp2_with (go_at_call 163;go_in)
   go_ret
   exact ⟨rfl,Below.refl _ _⟩
  ·have hq : ((n : Int) != 5) = false:=by simp;omega
   clear h
   go_enter Tryz.func148,Tryz.ntmps148
   go_wp2_with (go_at_call 163;go_in)
   go_ret
   exact ⟨rfl,Below.refl _ _⟩
  ·have hq : ((n : Int) != 7) = false:=by simp;omega
   clear h
   go_enter Tryz.func148,Tryz.ntmps148
   go_wp2_with (go_at_call 163;go_in)
   go_ret
   exact ⟨rfl,Below.refl _ _⟩
 ·rw [if_neg h]
  rcases h3 with rfl | rfl | rfl
  ·have hq : ((n : Int) != 3) = true:=by simp;omega
   clear h
   go_enter Tryz.func148,Tryz.ntmps148
   go_wp2_with (go_at_call 163;go_in)
   go_ret
   exact ⟨rfl,Below.refl _ _⟩
  ·have hq : ((n : Int) != 5) = true:=by simp;omega
   clear h
   go_enter Tryz.func148,Tryz.ntmps148
   go_wp2_with (go_at_call 163;go_in)
   go_ret
   exact ⟨rfl,Below.refl _ _⟩
  ·have hq : ((n : Int) != 7) = true:=by simp;omega
   clear h
   go_enter Tryz.func148,Tryz.ntmps148
   go_wp2_with (go_at_call 163;go_in)
   go_ret
   exact ⟨rfl,Below.refl _ _⟩
theorem vcheck8 (c : Cg) (a : Option Addr) (n k : Nat) (w : World) (hok : c.okB = true) : Calls Tryz.prog 148 #[.slice a n k,.int .i64 c.nd] w fun e w' => e = .returned (.int .i64 (if (n : Int) = c.nd then 0 else 30))∧Below w.heap.size w w':=by
 obtain ⟨h1,h2,h3⟩:=Cg.nd_ok hok;rw [h1]
 exact vcheck_any c.F a n k w h2 h3
set_option maxHeartbeats 1000000 in
theorem within8 (x a b : Int) (w : World)  : Calls Tryz.prog 57 #[.int .i64 x,.int .i64 a,.int .i64 b] w fun e w' => e = .returned (.bool (inB x a b))∧Below w.heap.size w w':=by
 go_enter Tryz.func57,Tryz.ntmps57
 go_upto_region 0 with fail
 refine wp_region_lit ?_;refine vl_gen (fun T => T.size = 15∧T[0]? = some (gw true (.int .i64 x))∧T[1]? = some (gw true (.int .i64 a))∧T[2]? = some (gw true (.int .i64 b))) ⟨rfl,rfl,rfl,rfl⟩ (fun Z0 ⟨hz,s0,s1,s2⟩ => ?_);have hB : Below w.heap.size w w:=Below.refl _ _;have hv0 : Below w.heap.size w w:=Below.refl _ _;have q34_0:=(((Rp.nil hz).cons s0).cons s1).cons s2;clear hz s0 s1 s2
 refine q34_0.t (.bool false) (ex_assign rfl rfl) fun _ q34_1 => ?_;clear q34_0
 have hz:=q34_1.z;have s0:=q34_1.a 0 rfl;have s1:=q34_1.a 1 rfl;have s2:=q34_1.a 2 rfl;clear q34_1;refine wpList_nil ?_
 go_upto_region 1 with fail
 refine wp_region_lit ?_;have q35_0:=(((Rp.nil hz).cons s0).cons s1).cons s2;clear hz s0 s1 s2
 refine q35_0.t _ (ex_move rfl (q35_0.e (j:=0) rfl)) fun _ q35_1 => ?_;clear q35_0
 refine q35_1.t _ (ex_move rfl (q35_1.e (j:=1) rfl)) fun _ q35_2 => ?_;clear q35_1
 refine q35_2.t (.bool (decide (a ≤ x))) (ex_bin rfl (q35_2.e (j:=7) rfl) (q35_2.e (j:=8) rfl) (geqC _ _ _ _ _)) fun _ q35_3 => ?_;clear q35_2
 refine q35_3.t _ (ex_move rfl (q35_3.e (j:=9) rfl)) fun _ q35_4 => ?_;clear q35_3
 refine vl _ (.int .i64 x) (want_g rfl rfl (q35_4.a 10 rfl)) (fun hc => ex_move rfl (q35_4.e (j:=0) rfl)) rfl q35_4.z (by decide) (q35_4.k fun Ya q35_5 => ?_);clear q35_4;refine vl _ (.int .i64 b) (want_g rfl rfl (q35_5.a 10 rfl)) (fun hc => ex_move rfl (q35_5.e (j:=2) rfl)) rfl q35_5.z (by decide) (q35_5.k fun Yb q35_6 => ?_);clear q35_5;refine vl _ (.bool (decide (x ≤ b))) (want_g rfl rfl (q35_6.a 10 rfl)) (fun hc => ex_bin rfl (ev (q35_6.a 11 rfl) hc) (ev (q35_6.a 12 rfl) hc) (leqC8 _ _ _ _ _)) rfl q35_6.z (by decide) (q35_6.k fun Yc q35_7 => ?_);clear q35_6
 refine q35_7.t (.bool ((decide (a ≤ x)) && (decide (x ≤ b)))) (ex_and rfl (q35_7.a 10 rfl) (q35_7.a 13 rfl) rfl) fun _ q35_8 => ?_;clear q35_7
 refine q35_8.t _ (ex_assign rfl (q35_8.e (j:=14) rfl)) fun _ q35_9 => ?_;clear q35_8
 have hz:=q35_9.z;have s6:=q35_9.a 6 rfl;clear q35_9;refine wpList_nil ?_
 go_wp2
 refine bodyPost_ret (results_tmp rfl _ _ _) rfl ⟨?_,hB.trans (hv0.mono (by omega))⟩;rw [getD_of s6]
 rfl
set_option maxHeartbeats 1000000 in
theorem checkconfig8 (c : Cg) (w : World)  : Calls Tryz.prog 18 #[c.val] w fun e w' => e = .returned (.int .i64 c.er)∧Below w.heap.size w w':=by
 go_enter Tryz.func18,Tryz.ntmps18
 go_upto_region 0 with fail
 refine wp_region_lit ?_;refine vl_gen (fun T => T.size = 16∧T[0]? = some (gw true (c.val))) ⟨rfl,rfl⟩ (fun Z0 ⟨hz,s0⟩ => ?_)
 obtain ⟨w1,hw1⟩ : ∃ y,y = w.alloc (.cells c.cs.toArray 23):=⟨_,rfl⟩
 have hb : Below w.heap.size w w1:=by rw [hw1];exact (Below.refl _ _).alloc (Nat.le_refl _) _
 have hs1 : w1.heap.size = w.heap.size + 1:=by rw [hw1];simp
 have HC : CB7 w1 (w.heap.size) c:=by rw [hw1];exact BX7.new _ _ _
 refine vw (.pointer (some ⟨w.heap.size,0,none⟩)) w1 (want_none rfl) (ex_box8 rfl (ev s0 rfl) (by rw [hw1];exact bxC7 _ _)) rfl hz (by decide) (fun Z1 zz kk s1x => ?_);clear kk hz s0 hw1;have hz:=zz;have s1:=s1x;clear zz s1x;have hB:=hb;clear hb;have hv0 : Below w1.heap.size w1 w1:=Below.refl _ _;have q36_0:=(Rp.nil hz).cons s1;clear hz s1
 refine q36_0.t (.int .i64 0) (ex_assign rfl rfl) fun _ q36_1 => ?_;clear q36_0
 have hz:=q36_1.z;have s1:=q36_1.a 1 rfl;clear q36_1;refine wpList_nil ?_
 go_upto_region 1 with fail
 refine wp_region_lit ?_;have q37_0:=(Rp.nil hz).cons s1;clear hz s1
 refine q37_0.t (.pointer (some ⟨w.heap.size,0,none⟩)) (ex_fa rfl (q37_0.e (j:=1) rfl) (faC0 _ _)) fun _ q37_1 => ?_;clear q37_0
 refine q37_1.t (.int .i64 c.F) (ex_ld rfl (q37_1.e (j:=3) rfl) (ldI8 (cell8 (HC.cell 0 _ rfl) hv0))) fun _ q37_2 => ?_;clear q37_1
 refine vcall true (.bool (inB (c.F) (1) (3))) (want_none rfl) (fun hc => ex_call rfl (by simp only [List.map_toArray,List.map_cons,List.map_nil,(q37_2.e (j:=4) rfl),evc] <;> rfl) rfl) (fun hc => within8 (c.F) (1) (3) w1) rfl q37_2.z (by decide) (q37_2.kc fun Ya x1 hb q37_3 => ?_);clear q37_2;have hx1:=hv0.trans (hb.mono hv0.size);clear hb
 refine q37_3.t _ (ex_move rfl (q37_3.e (j:=5) rfl)) fun _ q37_4 => ?_;clear q37_3
 refine vl _ (.pointer (some ⟨w.heap.size,1,none⟩)) (want_g rfl rfl (q37_4.a 6 rfl)) (fun hc => ex_fa rfl (q37_4.e (j:=1) rfl) (faC1 _ _)) rfl q37_4.z (by decide) (q37_4.k fun Yb q37_5 => ?_);clear q37_4;refine vl _ (.int .i64 c.R) (want_g rfl rfl (q37_5.a 6 rfl)) (fun hc => ex_ld rfl (ev (q37_5.a 7 rfl) hc) (ldI8 (cell8 (HC.cell 1 _ rfl) hx1))) rfl q37_5.z (by decide) (q37_5.k fun Yc q37_6 => ?_);clear q37_5;refine vcall (true && ((inB (c.F) (1) (3)) == true)) (.bool (inB (c.R) (1) (256))) (want_g rfl rfl (q37_6.a 6 rfl)) (fun hc => ex_call rfl (by simp only [List.map_toArray,List.map_cons,List.map_nil,(ev (q37_6.a 8 rfl) hc),evc] <;> rfl) rfl) (fun hc => within8 (c.R) (1) (256) x1) rfl q37_6.z (by decide) (q37_6.kc fun Yd x2 hb q37_7 => ?_);clear q37_6;have hx2:=hx1.trans (hb.mono hx1.size);clear hb
 refine q37_7.t (.bool ((inB (c.F) (1) (3)) && (inB (c.R) (1) (256)))) (ex_and rfl (q37_7.a 6 rfl) (q37_7.a 9 rfl) rfl) fun _ q37_8 => ?_;clear q37_7
 refine q37_8.t _ (ex_move rfl (q37_8.e (j:=10) rfl)) fun _ q37_9 => ?_;clear q37_8
 refine vl _ (.pointer (some ⟨w.heap.size,2,none⟩)) (want_g rfl rfl (q37_9.a 11 rfl)) (fun hc => ex_fa rfl (q37_9.e (j:=1) rfl) (faC2 _ _)) rfl q37_9.z (by decide) (q37_9.k fun Ye q37_10 => ?_);clear q37_9;refine vl _ (.int .i64 c.P) (want_g rfl rfl (q37_10.a 11 rfl)) (fun hc => ex_ld rfl (ev (q37_10.a 12 rfl) hc) (ldI8 (cell8 (HC.cell 2 _ rfl) hx2))) rfl q37_10.z (by decide) (q37_10.k fun Yf q37_11 => ?_);clear q37_10;refine vcall (true && (((inB (c.F) (1) (3)) && (inB (c.R) (1) (256))) == true)) (.bool (inB (c.P) (6) (100))) (want_g rfl rfl (q37_11.a 11 rfl)) (fun hc => ex_call rfl (by simp only [List.map_toArray,List.map_cons,List.map_nil,(ev (q37_11.a 13 rfl) hc),evc] <;> rfl) rfl) (fun hc => within8 (c.P) (6) (100) x2) rfl q37_11.z (by decide) (q37_11.kc fun Yg x3 hb q37_12 => ?_);clear q37_11;have hx3:=hx2.trans (hb.mono hx2.size);clear hb
 refine q37_12.t (.bool (((inB (c.F) (1) (3)) && (inB (c.R) (1) (256))) && (inB (c.P) (6) (100)))) (ex_and rfl (q37_12.a 11 rfl) (q37_12.a 14 rfl) rfl) fun _ q37_13 => ?_;clear q37_12
 have hz:=q37_13.z;have s15:=q37_13.a 15 rfl;clear q37_13;refine wpList_nil ?_
 go_upto_region 2 with fail
 cases e15 : (((inB (c.F) (1) (3)) && (inB (c.R) (1) (256))) && (inB (c.P) (6) (100)))
 ·refine wp_cond_false ((ev s15 rfl).trans (congrArg Value.bool e15)) ?_
  go_upto_region 3 with fail
  refine wp_region_lit ?_;have q38_0:=(Rp.nil hz).cons s15;clear hz s15
  refine q38_0.t (.int .i64 1) (ex_assign rfl rfl) fun _ q38_1 => ?_;clear q38_0
  have hz:=q38_1.z;have s2:=q38_1.a 2 rfl;clear q38_1;refine wpList_nil ?_
  go_wp2
  refine bodyPost_ret (results_tmp rfl _ _ _) rfl ⟨?_,hB.trans (hx3.mono (by omega))⟩;rw [getD_of s2];rw [show c.er = 1 from by unfold Cg.er Cg.okB;rw [e15];rfl]
  rfl
 ·refine wp_cond_true ((ev s15 rfl).trans (congrArg Value.bool e15)) ?_
  go_upto_region 2 with fail
  refine wp_region_lit ?_;have q39_0:=(Rp.nil hz).cons s15;clear hz s15
  refine q39_0.t (.int .i64 0) (ex_assign rfl rfl) fun _ q39_1 => ?_;clear q39_0
  have hz:=q39_1.z;have s2:=q39_1.a 2 rfl;clear q39_1;refine wpList_nil ?_
  go_wp2
  refine bodyPost_ret (results_tmp rfl _ _ _) rfl ⟨?_,hB.trans (hx3.mono (by omega))⟩;rw [getD_of s2];rw [show c.er = 0 from by unfold Cg.er Cg.okB;rw [e15];rfl]
  rfl
set_option maxHeartbeats 1000000 in
theorem nodes8 (c : Cg) (w : World)  : Calls Tryz.prog 20 #[c.val] w fun e w' => e = .returned (.int .i64 c.nd)∧Below w.heap.size w w':=by
 go_enter Tryz.func20,Tryz.ntmps20
 go_upto_region 0 with fail
 refine wp_region_lit ?_;refine vl_gen (fun T => T.size = 10∧T[0]? = some (gw true (c.val))) ⟨rfl,rfl⟩ (fun Z0 ⟨hz,s0⟩ => ?_)
 obtain ⟨w1,hw1⟩ : ∃ y,y = w.alloc (.cells c.cs.toArray 23):=⟨_,rfl⟩
 have hb : Below w.heap.size w w1:=by rw [hw1];exact (Below.refl _ _).alloc (Nat.le_refl _) _
 have hs1 : w1.heap.size = w.heap.size + 1:=by rw [hw1];simp
 have HC : CB7 w1 (w.heap.size) c:=by rw [hw1];exact BX7.new _ _ _
 refine vw (.pointer (some ⟨w.heap.size,0,none⟩)) w1 (want_none rfl) (ex_box8 rfl (ev s0 rfl) (by rw [hw1];exact bxC7 _ _)) rfl hz (by decide) (fun Z1 zz kk s1x => ?_);clear kk hz s0 hw1;have hz:=zz;have s1:=s1x;clear zz s1x;have hB:=hb;clear hb;have hv0 : Below w1.heap.size w1 w1:=Below.refl _ _;have q40_0:=(Rp.nil hz).cons s1;clear hz s1
 refine q40_0.t (.int .i64 0) (ex_assign rfl rfl) fun _ q40_1 => ?_;clear q40_0
 have hz:=q40_1.z;have s1:=q40_1.a 1 rfl;clear q40_1;refine wpList_nil ?_
 go_upto_region 1 with fail
 refine wp_region_lit ?_;have q41_0:=(Rp.nil hz).cons s1;clear hz s1
 refine q41_0.t (c.val) (ex_ld rfl (q41_0.e (j:=1) rfl) (CB7.ld (HC.bel hv0))) fun _ q41_1 => ?_;clear q41_0
 refine vcall true (.int .i64 c.er) (want_none rfl) (fun hc => ex_call rfl (by simp only [List.map_toArray,List.map_cons,List.map_nil,(q41_1.e (j:=3) rfl),evc] <;> rfl) rfl) (fun hc => checkconfig8 c w1) rfl q41_1.z (by decide) (q41_1.kc fun Ya x1 hb q41_2 => ?_);clear q41_1;have hx1:=hv0.trans (hb.mono hv0.size);clear hb
 refine q41_2.t (.bool (!decide (c.er = 0))) (ex_bin rfl (q41_2.e (j:=4) rfl) rfl (neqN8 _ _ _ _ _)) fun _ q41_3 => ?_;clear q41_2
 have hz:=q41_3.z;have s1:=q41_3.a 1 rfl;have s5:=q41_3.a 5 rfl;clear q41_3;refine wpList_nil ?_
 go_upto_region 2 with fail
 cases eo : c.okB
 ·refine wp_cond_true ((ev s5 rfl).trans (by unfold Cg.er;rw [eo];rfl)) ?_
  go_upto_region 2 with fail
  refine wp_region_lit ?_;have q42_0:=((Rp.nil hz).cons s1).cons s5;clear hz s1 s5
  refine q42_0.t (.int .i64 0) (ex_assign rfl rfl) fun _ q42_1 => ?_;clear q42_0
  have hz:=q42_1.z;have s2:=q42_1.a 2 rfl;clear q42_1;refine wpList_nil ?_
  go_wp2
  refine bodyPost_ret (results_tmp rfl _ _ _) rfl ⟨?_,hB.trans (hx1.mono (by omega))⟩;rw [getD_of s2];rw [show c.nd = 0 from by unfold Cg.nd;rw [eo];rfl]
  rfl
 ·refine wp_cond_false ((ev s5 rfl).trans (by unfold Cg.er;rw [eo];rfl)) ?_
  obtain ⟨h1,h2,h3⟩:=Cg.nd_ok eo
  go_upto_region 3 with fail
  refine wp_region_lit ?_;have q43_0:=(Rp.nil hz).cons s1;clear hz s1
  refine q43_0.t (.pointer (some ⟨w.heap.size,0,none⟩)) (ex_fa rfl (q43_0.e (j:=1) rfl) (faC0 _ _)) fun _ q43_1 => ?_;clear q43_0
  refine q43_1.t (.int .i64 c.F) (ex_ld rfl (q43_1.e (j:=6) rfl) (ldI8 (cell8 (HC.cell 0 _ rfl) hx1))) fun _ q43_2 => ?_;clear q43_1
  refine q43_2.t (.int .i64 (2 * c.F)) (ex_bin rfl rfl (q43_2.e (j:=7) rfl) (mulD8 _ _ 2 c.F (2 * c.F) (by rw [IntKind.wrap_i64];omega) _)) fun _ q43_3 => ?_;clear q43_2
  refine q43_3.t (.int .i64 (2 * c.F + 1)) (ex_bin rfl (q43_3.e (j:=8) rfl) rfl (addD8 _ _ (2 * c.F) 1 (2 * c.F + 1) (by rw [IntKind.wrap_i64];omega) _)) fun _ q43_4 => ?_;clear q43_3
  refine q43_4.t _ (ex_assign rfl (q43_4.e (j:=9) rfl)) fun _ q43_5 => ?_;clear q43_4
  have hz:=q43_5.z;have s2:=q43_5.a 2 rfl;clear q43_5;refine wpList_nil ?_
  go_wp2
  refine bodyPost_ret (results_tmp rfl _ _ _) rfl ⟨?_,hB.trans (hx1.mono (by omega))⟩;rw [getD_of s2];rw [h1]
  rfl
set_option maxHeartbeats 1000000 in
theorem primary8 (c : Cg) (x : Int) (w : World)  : Calls Tryz.prog 22 #[c.val,.int .i64 x] w fun e w' => e = .returned (.int .i64 (c.pr x))∧Below w.heap.size w w':=by
 go_enter Tryz.func22,Tryz.ntmps22
 go_upto_region 0 with fail
 refine wp_region_lit ?_;refine vl_gen (fun T => T.size = 17∧T[0]? = some (gw true (c.val))∧T[1]? = some (gw true (.int .i64 x))) ⟨rfl,rfl,rfl⟩ (fun Z0 ⟨hz,s0,s1⟩ => ?_)
 obtain ⟨w1,hw1⟩ : ∃ y,y = w.alloc (.cells c.cs.toArray 23):=⟨_,rfl⟩
 have hb : Below w.heap.size w w1:=by rw [hw1];exact (Below.refl _ _).alloc (Nat.le_refl _) _
 have hs1 : w1.heap.size = w.heap.size + 1:=by rw [hw1];simp
 have HC : CB7 w1 (w.heap.size) c:=by rw [hw1];exact BX7.new _ _ _
 refine vw (.pointer (some ⟨w.heap.size,0,none⟩)) w1 (want_none rfl) (ex_box8 rfl (ev s0 rfl) (by rw [hw1];exact bxC7 _ _)) rfl hz (by decide) (fun Z1 zz kk s2x => ?_);replace s1:=ku s1;clear kk hz s0 hw1;have hz:=zz;have s2:=s2x;clear zz s2x;have hB:=hb;clear hb;have hv0 : Below w1.heap.size w1 w1:=Below.refl _ _;have q44_0:=((Rp.nil hz).cons s1).cons s2;clear hz s1 s2
 refine q44_0.t (.int .i64 0) (ex_assign rfl rfl) fun _ q44_1 => ?_;clear q44_0
 have hz:=q44_1.z;have s1:=q44_1.a 1 rfl;have s2:=q44_1.a 2 rfl;clear q44_1;refine wpList_nil ?_
 go_upto_region 1 with fail
 refine wp_region_lit ?_;have q45_0:=((Rp.nil hz).cons s1).cons s2;clear hz s1 s2
 refine q45_0.t (c.val) (ex_ld rfl (q45_0.e (j:=2) rfl) (CB7.ld (HC.bel hv0))) fun _ q45_1 => ?_;clear q45_0
 refine vcall true (.int .i64 c.er) (want_none rfl) (fun hc => ex_call rfl (by simp only [List.map_toArray,List.map_cons,List.map_nil,(q45_1.e (j:=5) rfl),evc] <;> rfl) rfl) (fun hc => checkconfig8 c w1) rfl q45_1.z (by decide) (q45_1.kc fun Ya x1 hb q45_2 => ?_);clear q45_1;have hx1:=hv0.trans (hb.mono hv0.size);clear hb
 refine q45_2.t (.bool (!decide (c.er = 0))) (ex_bin rfl (q45_2.e (j:=6) rfl) rfl (neqN8 _ _ _ _ _)) fun _ q45_3 => ?_;clear q45_2
 refine q45_3.t _ (ex_move rfl (q45_3.e (j:=7) rfl)) fun _ q45_4 => ?_;clear q45_3
 refine vl _ (.int .i64 x) (want_g rfl rfl (q45_4.a 8 rfl)) (fun hc => ex_move rfl (q45_4.e (j:=1) rfl)) rfl q45_4.z (by decide) (q45_4.k fun Yb q45_5 => ?_);clear q45_4;refine vcall (true && ((!decide (c.er = 0)) == false)) (.bool (inB (x) (0) (4294967296))) (want_g rfl rfl (q45_5.a 8 rfl)) (fun hc => ex_call rfl (by simp only [List.map_toArray,List.map_cons,List.map_nil,(ev (q45_5.a 9 rfl) hc),evc] <;> rfl) rfl) (fun hc => within8 (x) (0) (4294967296) x1) rfl q45_5.z (by decide) (q45_5.kc fun Yc x2 hb q45_6 => ?_);clear q45_5;have hx2:=hx1.trans (hb.mono hx1.size);clear hb;refine vl _ (.bool (!(inB (x) (0) (4294967296)))) (want_g rfl rfl (q45_6.a 8 rfl)) (fun hc => ex_not rfl (ev (q45_6.a 10 rfl) hc)) rfl q45_6.z (by decide) (q45_6.k fun Yd q45_7 => ?_);clear q45_6
 refine q45_7.t (.bool ((!decide (c.er = 0)) || (!(inB (x) (0) (4294967296))))) (ex_or rfl (q45_7.a 8 rfl) (q45_7.a 11 rfl) rfl) fun _ q45_8 => ?_;clear q45_7
 have hz:=q45_8.z;have s1:=q45_8.a 1 rfl;have s2:=q45_8.a 2 rfl;have s12:=q45_8.a 12 rfl;clear q45_8;refine wpList_nil ?_
 go_upto_region 2 with fail
 cases eo : (c.okB && inB x 0 4294967296)
 ·refine wp_cond_true ((ev s12 rfl).trans (by unfold Cg.er;revert eo;cases c.okB <;> cases inB x 0 4294967296 <;> intro eo <;> first | rfl | cases eo)) ?_
  go_upto_region 2 with fail
  refine wp_region_lit ?_;have q46_0:=(((Rp.nil hz).cons s1).cons s2).cons s12;clear hz s1 s2 s12
  refine q46_0.t (.int IntKind.i64 (-1)) (ex_assign rfl rfl) fun _ q46_1 => ?_;clear q46_0
  have hz:=q46_1.z;have s4:=q46_1.a 4 rfl;clear q46_1;refine wpList_nil ?_
  go_wp2
  refine bodyPost_ret (results_tmp rfl _ _ _) rfl ⟨?_,hB.trans (hx2.mono (by omega))⟩;rw [getD_of s4];rw [show c.pr x = -1 from by unfold Cg.pr;rw [eo];rfl]
  rfl
 ·refine wp_cond_false ((ev s12 rfl).trans (by unfold Cg.er;revert eo;cases c.okB <;> cases inB x 0 4294967296 <;> intro eo <;> first | rfl | cases eo)) ?_
  have eo2 : c.okB = true∧inB x 0 4294967296 = true:=by simpa using eo
  obtain ⟨h1,h2,h3⟩:=Cg.nd_ok eo2.1;have h4:=inB_iff.1 eo2.2
  have h5 : 0 < c.nd:=by omega
  go_upto_region 3 with fail
  refine wp_region_lit ?_;have q47_0:=((Rp.nil hz).cons s1).cons s2;clear hz s1 s2
  refine q47_0.t _ (ex_move rfl (q47_0.e (j:=1) rfl)) fun _ q47_1 => ?_;clear q47_0
  refine q47_1.t (c.val) (ex_ld rfl (q47_1.e (j:=2) rfl) (CB7.ld (HC.bel hx2))) fun _ q47_2 => ?_;clear q47_1
  refine vcall true (.int .i64 c.nd) (want_none rfl) (fun hc => ex_call rfl (by simp only [List.map_toArray,List.map_cons,List.map_nil,(q47_2.e (j:=14) rfl),evc] <;> rfl) rfl) (fun hc => nodes8 c x2) rfl q47_2.z (by decide) (q47_2.kc fun Ye x3 hb q47_3 => ?_);clear q47_2;have hx3:=hx2.trans (hb.mono hx2.size);clear hb
  refine q47_3.t (.int .i64 (x % c.nd)) (ex_bin rfl (q47_3.e (j:=13) rfl) (q47_3.e (j:=15) rfl) (remD8 _ _ x c.nd h4.1 h5 (by omega) _)) fun _ q47_4 => ?_;clear q47_3
  refine q47_4.t _ (ex_assign rfl (q47_4.e (j:=16) rfl)) fun _ q47_5 => ?_;clear q47_4
  have hz:=q47_5.z;have s4:=q47_5.a 4 rfl;clear q47_5;refine wpList_nil ?_
  go_wp2
  refine bodyPost_ret (results_tmp rfl _ _ _) rfl ⟨?_,hB.trans (hx3.mono (by omega))⟩;rw [getD_of s4];rw [show c.pr x = x % c.nd from by unfold Cg.pr;rw [eo];rfl]
  rfl
set_option maxHeartbeats 1000000 in
theorem isprimary8 (c : Cg) (s : Sta) (w : World)  : Calls Tryz.prog 136 #[c.val,s.val] w fun e w' => e = .returned (.bool (decide (s.self = c.pr s.view)))∧Below w.heap.size w w':=by
 go_enter Tryz.func136,Tryz.ntmps136
 go_upto_region 0 with fail
 refine wp_region_lit ?_;refine vl_gen (fun T => T.size = 12∧T[0]? = some (gw true (c.val))∧T[1]? = some (gw true (s.val))) ⟨rfl,rfl,rfl⟩ (fun Z0 ⟨hz,s0,s1⟩ => ?_)
 obtain ⟨w1,hw1⟩ : ∃ y,y = w.alloc (.cells c.cs.toArray 23):=⟨_,rfl⟩
 have hb : Below w.heap.size w w1:=by rw [hw1];exact (Below.refl _ _).alloc (Nat.le_refl _) _
 have hs1 : w1.heap.size = w.heap.size + 1:=by rw [hw1];simp
 have HC : CB7 w1 (w.heap.size) c:=by rw [hw1];exact BX7.new _ _ _
 refine vw (.pointer (some ⟨w.heap.size,0,none⟩)) w1 (want_none rfl) (ex_box8 rfl (ev s0 rfl) (by rw [hw1];exact bxC7 _ _)) rfl hz (by decide) (fun Z1 zz kk s2x => ?_);replace s1:=ku s1;clear kk hz s0 hw1;have hz:=zz;have s2:=s2x;clear zz s2x;have hB:=hb;clear hb
 obtain ⟨w2,hw2⟩ : ∃ y,y = w1.alloc (.cells s.cs.toArray 36):=⟨_,rfl⟩
 have hb : Below w1.heap.size w1 w2:=by rw [hw2];exact (Below.refl _ _).alloc (Nat.le_refl _) _
 have hs2 : w2.heap.size = w.heap.size + 2:=by rw [hw2];simp;omega
 have HS : SB7 w2 (w.heap.size + 1) s:=by rw [hw2,← hs1];exact BX7.new _ _ _
 refine vw (.pointer (some ⟨w.heap.size + 1,0,none⟩)) w2 (want_none rfl) (ex_box8 rfl (ev s1 rfl) (by rw [hw2,← hs1];exact bxS7 _ _)) rfl hz (by decide) (fun Z2 zz kk s3x => ?_);replace s2:=ku s2;clear kk hz s1 hw2;have hz:=zz;have s3:=s3x;clear zz s3x;have hB:=hB.trans (hb.mono (by omega));have HC:=HC.bel hb;clear hb;have hv0 : Below w2.heap.size w2 w2:=Below.refl _ _;have q48_0:=((Rp.nil hz).cons s2).cons s3;clear hz s2 s3
 refine q48_0.t (.bool false) (ex_assign rfl rfl) fun _ q48_1 => ?_;clear q48_0
 have hz:=q48_1.z;have s2:=q48_1.a 2 rfl;have s3:=q48_1.a 3 rfl;clear q48_1;refine wpList_nil ?_
 go_upto_region 1 with fail
 refine vq_start (C:=fun v => Below w2.heap.size w2 v) (by kernel_rfl) (by kernel_rfl) hv0.drew ?_;have q49_0:=((Rp.nil hz).cons s2).cons s3;clear hz s2 s3
 refine q49_0.q (.pointer (some ⟨w.heap.size + 1,0,none⟩)) (fun v hv => ex_fa rfl (q49_0.e (j:=3) rfl) (faS0 _ _)) fun _ q49_1 => ?_;clear q49_0
 refine q49_1.q (.int .i64 s.self) (fun v hv => ex_ld rfl (q49_1.e (j:=5) rfl) (ldI8 (cell8 (HS.cell 0 _ rfl) hv))) fun _ q49_2 => ?_;clear q49_1
 refine q49_2.q (c.val) (fun v hv => ex_ld rfl (q49_2.e (j:=2) rfl) (CB7.ld (HC.bel hv))) fun _ q49_3 => ?_;clear q49_2
 refine q49_3.q (.pointer (some ⟨w.heap.size + 1,2,none⟩)) (fun v hv => ex_fa rfl (q49_3.e (j:=3) rfl) (faS2 _ _)) fun _ q49_4 => ?_;clear q49_3
 refine q49_4.q (.int .i64 s.view) (fun v hv => ex_ld rfl (q49_4.e (j:=8) rfl) (ldI8 (cell8 (HS.cell 2 _ rfl) hv))) fun _ q49_5 => ?_;clear q49_4
 refine vq_call true (.int .i64 (c.pr (s.view))) (want_none rfl) (fun hc v hv => ex_call rfl (by simp only [List.map_toArray,List.map_cons,List.map_nil,(q49_5.e (j:=7) rfl),(q49_5.e (j:=9) rfl),evc] <;> rfl) rfl) (fun hc v hv => (bel8 hv (primary8 c (s.view) v))) rfl q49_5.z (by decide) (q49_5.k fun Ya q49_6 => ?_);clear q49_5
 refine q49_6.q (.bool (decide (s.self = (c.pr (s.view))))) (fun v hv => ex_bin rfl (q49_6.e (j:=6) rfl) (q49_6.e (j:=10) rfl) (eqlC _ _ _ _ _)) fun _ q49_7 => ?_;clear q49_6
 refine q49_7.q _ (fun v hv => ex_assign rfl (q49_7.e (j:=11) rfl)) fun _ q49_8 => ?_;clear q49_7
 have hz:=q49_8.z;have s4:=q49_8.a 4 rfl;clear q49_8;refine vq_nil (fun x1 hx1 => ?_)
 go_wp2
 refine bodyPost_ret (results_tmp rfl _ _ _) rfl ⟨?_,hB.trans (hx1.mono (by omega))⟩;rw [getD_of s4]
 rfl
set_option maxHeartbeats 1000000 in
theorem leads8 (c : Cg) (s : Sta) (w : World)  : Calls Tryz.prog 87 #[c.val,s.val] w fun e w' => e = .returned (.bool (decide (s.st = 1) && decide (s.self = c.pr s.view)))∧Below w.heap.size w w':=by
 go_enter Tryz.func87,Tryz.ntmps87
 go_upto_region 0 with fail
 refine wp_region_lit ?_;refine vl_gen (fun T => T.size = 13∧T[0]? = some (gw true (c.val))∧T[1]? = some (gw true (s.val))) ⟨rfl,rfl,rfl⟩ (fun Z0 ⟨hz,s0,s1⟩ => ?_)
 obtain ⟨w1,hw1⟩ : ∃ y,y = w.alloc (.cells c.cs.toArray 23):=⟨_,rfl⟩
 have hb : Below w.heap.size w w1:=by rw [hw1];exact (Below.refl _ _).alloc (Nat.le_refl _) _
 have hs1 : w1.heap.size = w.heap.size + 1:=by rw [hw1];simp
 have HC : CB7 w1 (w.heap.size) c:=by rw [hw1];exact BX7.new _ _ _
 refine vw (.pointer (some ⟨w.heap.size,0,none⟩)) w1 (want_none rfl) (ex_box8 rfl (ev s0 rfl) (by rw [hw1];exact bxC7 _ _)) rfl hz (by decide) (fun Z1 zz kk s2x => ?_);replace s1:=ku s1;clear kk hz s0 hw1;have hz:=zz;have s2:=s2x;clear zz s2x;have hB:=hb;clear hb
 obtain ⟨w2,hw2⟩ : ∃ y,y = w1.alloc (.cells s.cs.toArray 36):=⟨_,rfl⟩
 have hb : Below w1.heap.size w1 w2:=by rw [hw2];exact (Below.refl _ _).alloc (Nat.le_refl _) _
 have hs2 : w2.heap.size = w.heap.size + 2:=by rw [hw2];simp;omega
 have HS : SB7 w2 (w.heap.size + 1) s:=by rw [hw2,← hs1];exact BX7.new _ _ _
 refine vw (.pointer (some ⟨w.heap.size + 1,0,none⟩)) w2 (want_none rfl) (ex_box8 rfl (ev s1 rfl) (by rw [hw2,← hs1];exact bxS7 _ _)) rfl hz (by decide) (fun Z2 zz kk s3x => ?_);replace s2:=ku s2;clear kk hz s1 hw2;have hz:=zz;have s3:=s3x;clear zz s3x;have hB:=hB.trans (hb.mono (by omega));have HC:=HC.bel hb;clear hb;have hv0 : Below w2.heap.size w2 w2:=Below.refl _ _;have q50_0:=((Rp.nil hz).cons s2).cons s3;clear hz s2 s3
 refine q50_0.t (.bool false) (ex_assign rfl rfl) fun _ q50_1 => ?_;clear q50_0
 have hz:=q50_1.z;have s2:=q50_1.a 2 rfl;have s3:=q50_1.a 3 rfl;clear q50_1;refine wpList_nil ?_
 go_upto_region 1 with fail
 refine wp_region_lit ?_;have q51_0:=((Rp.nil hz).cons s2).cons s3;clear hz s2 s3
 refine q51_0.t (.pointer (some ⟨w.heap.size + 1,1,none⟩)) (ex_fa rfl (q51_0.e (j:=3) rfl) (faS1 _ _)) fun _ q51_1 => ?_;clear q51_0
 refine q51_1.t (.int .i64 s.st) (ex_ld rfl (q51_1.e (j:=5) rfl) (ldT8 (cell8 (HS.cell 1 _ rfl) hv0))) fun _ q51_2 => ?_;clear q51_1
 refine q51_2.t (.bool (decide (s.st = 1))) (ex_bin rfl (q51_2.e (j:=6) rfl) rfl (eqlT8 _ _ _ _ _)) fun _ q51_3 => ?_;clear q51_2
 refine q51_3.t _ (ex_move rfl (q51_3.e (j:=7) rfl)) fun _ q51_4 => ?_;clear q51_3
 refine vl _ (c.val) (want_g rfl rfl (q51_4.a 8 rfl)) (fun hc => ex_ld rfl (q51_4.e (j:=2) rfl) (CB7.ld (HC.bel hv0))) rfl q51_4.z (by decide) (q51_4.k fun Ya q51_5 => ?_);clear q51_4;refine vl _ (s.val) (want_g rfl rfl (q51_5.a 8 rfl)) (fun hc => ex_ld rfl (q51_5.e (j:=3) rfl) (SB7.ld (HS.bel hv0))) rfl q51_5.z (by decide) (q51_5.k fun Yb q51_6 => ?_);clear q51_5;refine vcall (true && ((decide (s.st = 1)) == true)) (.bool (decide (s.self = c.pr s.view))) (want_g rfl rfl (q51_6.a 8 rfl)) (fun hc => ex_call rfl (by simp only [List.map_toArray,List.map_cons,List.map_nil,(ev (q51_6.a 9 rfl) hc),(ev (q51_6.a 10 rfl) hc),evc] <;> rfl) rfl) (fun hc => isprimary8 c s w2) rfl q51_6.z (by decide) (q51_6.kc fun Yc x1 hb q51_7 => ?_);clear q51_6;have hx1:=hv0.trans (hb.mono hv0.size);clear hb
 refine q51_7.t (.bool ((decide (s.st = 1)) && (decide (s.self = c.pr s.view)))) (ex_and rfl (q51_7.a 8 rfl) (q51_7.a 11 rfl) rfl) fun _ q51_8 => ?_;clear q51_7
 refine q51_8.t _ (ex_assign rfl (q51_8.e (j:=12) rfl)) fun _ q51_9 => ?_;clear q51_8
 have hz:=q51_9.z;have s4:=q51_9.a 4 rfl;clear q51_9;refine wpList_nil ?_
 go_wp2
 refine bodyPost_ret (results_tmp rfl _ _ _) rfl ⟨?_,hB.trans (hx1.mono (by omega))⟩;rw [getD_of s4]
 rfl
set_option maxHeartbeats 1000000 in
theorem votes8 (c : Cg) (s : Sta) (w : World) (hI : s.In w) (hF : s.Fit) : Calls Tryz.prog 120 #[c.val,s.val] w fun e w' => e = .returned (.bool (s.votB c))∧Below w.heap.size w w':=by
 go_enter Tryz.func120,Tryz.ntmps120
 go_upto_region 0 with fail
 refine wp_region_lit ?_;refine vl_gen (fun T => T.size = 39∧T[0]? = some (gw true (c.val))∧T[1]? = some (gw true (s.val))) ⟨rfl,rfl,rfl⟩ (fun Z0 ⟨hz,s0,s1⟩ => ?_)
 obtain ⟨w1,hw1⟩ : ∃ y,y = w.alloc (.cells c.cs.toArray 23):=⟨_,rfl⟩
 have hb : Below w.heap.size w w1:=by rw [hw1];exact (Below.refl _ _).alloc (Nat.le_refl _) _
 have hs1 : w1.heap.size = w.heap.size + 1:=by rw [hw1];simp
 have HC : CB7 w1 (w.heap.size) c:=by rw [hw1];exact BX7.new _ _ _
 refine vw (.pointer (some ⟨w.heap.size,0,none⟩)) w1 (want_none rfl) (ex_box8 rfl (ev s0 rfl) (by rw [hw1];exact bxC7 _ _)) rfl hz (by decide) (fun Z1 zz kk s2x => ?_);replace s1:=ku s1;clear kk hz s0 hw1;have hz:=zz;have s2:=s2x;clear zz s2x;have hB:=hb;clear hb
 obtain ⟨w2,hw2⟩ : ∃ y,y = w1.alloc (.cells s.cs.toArray 36):=⟨_,rfl⟩
 have hb : Below w1.heap.size w1 w2:=by rw [hw2];exact (Below.refl _ _).alloc (Nat.le_refl _) _
 have hs2 : w2.heap.size = w.heap.size + 2:=by rw [hw2];simp;omega
 have HS : SB7 w2 (w.heap.size + 1) s:=by rw [hw2,← hs1];exact BX7.new _ _ _
 refine vw (.pointer (some ⟨w.heap.size + 1,0,none⟩)) w2 (want_none rfl) (ex_box8 rfl (ev s1 rfl) (by rw [hw2,← hs1];exact bxS7 _ _)) rfl hz (by decide) (fun Z2 zz kk s3x => ?_);replace s2:=ku s2;clear kk hz s1 hw2;have hz:=zz;have s3:=s3x;clear zz s3x;have hB:=hB.trans (hb.mono (by omega));have HC:=HC.bel hb;clear hb;have hv0 : Below w2.heap.size w2 w2:=Below.refl _ _;have HI:=hI.later hB;have q52_0:=((Rp.nil hz).cons s2).cons s3;clear hz s2 s3
 refine q52_0.t (.bool false) (ex_assign rfl rfl) fun _ q52_1 => ?_;clear q52_0
 have hz:=q52_1.z;have s2:=q52_1.a 2 rfl;have s3:=q52_1.a 3 rfl;clear q52_1;refine wpList_nil ?_
 go_upto_region 1 with fail
 refine wp_region_lit ?_;have q53_0:=((Rp.nil hz).cons s2).cons s3;clear hz s2 s3
 refine q53_0.t (c.val) (ex_ld rfl (q53_0.e (j:=2) rfl) (CB7.ld (HC.bel hv0))) fun _ q53_1 => ?_;clear q53_0
 refine q53_1.t (.pointer (some ⟨w.heap.size + 1,0,none⟩)) (ex_fa rfl (q53_1.e (j:=3) rfl) (faS0 _ _)) fun _ q53_2 => ?_;clear q53_1
 refine q53_2.t (.int .i64 s.self) (ex_ld rfl (q53_2.e (j:=6) rfl) (ldI8 (cell8 (HS.cell 0 _ rfl) hv0))) fun _ q53_3 => ?_;clear q53_2
 refine q53_3.t (.pointer (some ⟨w.heap.size + 1,8,none⟩)) (ex_fa rfl (q53_3.e (j:=3) rfl) (faS8 _ _)) fun _ q53_4 => ?_;clear q53_3
 refine q53_4.t (.slice s.ka s.A.length s.kc) (ex_ld rfl (q53_4.e (j:=8) rfl) (ldK8 (cell8 (HS.cell 8 _ rfl) hv0))) fun _ q53_5 => ?_;clear q53_4
 refine vcall true (.int .i64 (Ak.ck c s.self s.A)) (want_none rfl) (fun hc => ex_call rfl (by simp only [List.map_toArray,List.map_cons,List.map_nil,(q53_5.e (j:=5) rfl),(q53_5.e (j:=7) rfl),(q53_5.e (j:=9) rfl),evc] <;> rfl) rfl) (fun hc => Ak.Check_any c s.self s.A s.ka _ s.kc w2 (HI.a.later hv0) (by have:=hF.al;omega)) rfl q53_5.z (by decide) (q53_5.kc fun Ya x1 hb q53_6 => ?_);clear q53_5;have hx1:=hv0.trans (hb.mono hv0.size);clear hb
 refine q53_6.t (.bool (decide ((Ak.ck c s.self s.A) = 0))) (ex_bin rfl (q53_6.e (j:=10) rfl) rfl (eqlN8 _ _ _ _ _)) fun _ q53_7 => ?_;clear q53_6
 refine q53_7.t _ (ex_move rfl (q53_7.e (j:=11) rfl)) fun _ q53_8 => ?_;clear q53_7
 refine vl _ (c.val) (want_g rfl rfl (q53_8.a 12 rfl)) (fun hc => ex_ld rfl (q53_8.e (j:=2) rfl) (CB7.ld (HC.bel hx1))) rfl q53_8.z (by decide) (q53_8.k fun Yb q53_9 => ?_);clear q53_8;refine vl _ (.pointer (some ⟨w.heap.size + 1,0,none⟩)) (want_g rfl rfl (q53_9.a 12 rfl)) (fun hc => ex_fa rfl (q53_9.e (j:=3) rfl) (faS0 _ _)) rfl q53_9.z (by decide) (q53_9.k fun Yc q53_10 => ?_);clear q53_9;refine vl _ (.int .i64 s.self) (want_g rfl rfl (q53_10.a 12 rfl)) (fun hc => ex_ld rfl (ev (q53_10.a 14 rfl) hc) (ldI8 (cell8 (HS.cell 0 _ rfl) hx1))) rfl q53_10.z (by decide) (q53_10.k fun Yd q53_11 => ?_);clear q53_10;refine vl _ (.pointer (some ⟨w.heap.size + 1,9,none⟩)) (want_g rfl rfl (q53_11.a 12 rfl)) (fun hc => ex_fa rfl (q53_11.e (j:=3) rfl) (faS9 _ _)) rfl q53_11.z (by decide) (q53_11.k fun Ye q53_12 => ?_);clear q53_11;refine vl _ (.slice s.ma s.M.length s.mc) (want_g rfl rfl (q53_12.a 12 rfl)) (fun hc => ex_ld rfl (ev (q53_12.a 16 rfl) hc) (ldM8 (cell8 (HS.cell 9 _ rfl) hx1))) rfl q53_12.z (by decide) (q53_12.k fun Yf q53_13 => ?_);clear q53_12;refine vcall (true && ((decide ((Ak.ck c s.self s.A) = 0)) == true)) (.int .i64 (Mk.ck c s.self s.M)) (want_g rfl rfl (q53_13.a 12 rfl)) (fun hc => ex_call rfl (by simp only [List.map_toArray,List.map_cons,List.map_nil,(ev (q53_13.a 13 rfl) hc),(ev (q53_13.a 15 rfl) hc),(ev (q53_13.a 17 rfl) hc),evc] <;> rfl) rfl) (fun hc => Mk.Check_any c s.self s.M s.ma _ s.mc x1 (HI.m.later hx1) (by have:=hF.ml;omega)) rfl q53_13.z (by decide) (q53_13.kc fun Yg x2 hb q53_14 => ?_);clear q53_13;have hx2:=hx1.trans (hb.mono hx1.size);clear hb;refine vl _ (.bool (decide ((Mk.ck c s.self s.M) = 0))) (want_g rfl rfl (q53_14.a 12 rfl)) (fun hc => ex_bin rfl (ev (q53_14.a 18 rfl) hc) rfl (eqlN8 _ _ _ _ _)) rfl q53_14.z (by decide) (q53_14.k fun Yh q53_15 => ?_);clear q53_14
 refine q53_15.t (.bool ((decide ((Ak.ck c s.self s.A) = 0)) && (decide ((Mk.ck c s.self s.M) = 0)))) (ex_and rfl (q53_15.a 12 rfl) (q53_15.a 19 rfl) rfl) fun _ q53_16 => ?_;clear q53_15
 refine q53_16.t _ (ex_move rfl (q53_16.e (j:=20) rfl)) fun _ q53_17 => ?_;clear q53_16
 refine vl _ (c.val) (want_g rfl rfl (q53_17.a 21 rfl)) (fun hc => ex_ld rfl (q53_17.e (j:=2) rfl) (CB7.ld (HC.bel hx2))) rfl q53_17.z (by decide) (q53_17.k fun Yi q53_18 => ?_);clear q53_17;refine vl _ (.pointer (some ⟨w.heap.size + 1,0,none⟩)) (want_g rfl rfl (q53_18.a 21 rfl)) (fun hc => ex_fa rfl (q53_18.e (j:=3) rfl) (faS0 _ _)) rfl q53_18.z (by decide) (q53_18.k fun Yj q53_19 => ?_);clear q53_18;refine vl _ (.int .i64 s.self) (want_g rfl rfl (q53_19.a 21 rfl)) (fun hc => ex_ld rfl (ev (q53_19.a 23 rfl) hc) (ldI8 (cell8 (HS.cell 0 _ rfl) hx2))) rfl q53_19.z (by decide) (q53_19.k fun Yk q53_20 => ?_);clear q53_19;refine vl _ (.pointer (some ⟨w.heap.size + 1,10,none⟩)) (want_g rfl rfl (q53_20.a 21 rfl)) (fun hc => ex_fa rfl (q53_20.e (j:=3) rfl) (faS10 _ _)) rfl q53_20.z (by decide) (q53_20.k fun Yl q53_21 => ?_);clear q53_20;refine vl _ (.slice s.ba s.B.length s.bc) (want_g rfl rfl (q53_21.a 21 rfl)) (fun hc => ex_ld rfl (ev (q53_21.a 25 rfl) hc) (ldB8 (cell8 (HS.cell 10 _ rfl) hx2))) rfl q53_21.z (by decide) (q53_21.k fun Ym q53_22 => ?_);clear q53_21;refine vcall (true && (((decide ((Ak.ck c s.self s.A) = 0)) && (decide ((Mk.ck c s.self s.M) = 0))) == true)) (.int .i64 (Bl.ck c s.self s.B)) (want_g rfl rfl (q53_22.a 21 rfl)) (fun hc => ex_call rfl (by simp only [List.map_toArray,List.map_cons,List.map_nil,(ev (q53_22.a 22 rfl) hc),(ev (q53_22.a 24 rfl) hc),(ev (q53_22.a 26 rfl) hc),evc] <;> rfl) rfl) (fun hc => Bl.Check_any c s.self s.B s.ba _ s.bc x2 (HI.b.later hx2) (by have:=hF.bl;omega) (fun x hx => ⟨⟨(HI.bl x hx).1.later hx2,(HI.bl x hx).2⟩,hF.be x hx⟩)) rfl q53_22.z (by decide) (q53_22.kc fun Yn x3 hb q53_23 => ?_);clear q53_22;have hx3:=hx2.trans (hb.mono hx2.size);clear hb;refine vl _ (.bool (decide ((Bl.ck c s.self s.B) = 0))) (want_g rfl rfl (q53_23.a 21 rfl)) (fun hc => ex_bin rfl (ev (q53_23.a 27 rfl) hc) rfl (eqlN8 _ _ _ _ _)) rfl q53_23.z (by decide) (q53_23.k fun Yo q53_24 => ?_);clear q53_23
 refine q53_24.t (.bool (((decide ((Ak.ck c s.self s.A) = 0)) && (decide ((Mk.ck c s.self s.M) = 0))) && (decide ((Bl.ck c s.self s.B) = 0)))) (ex_and rfl (q53_24.a 21 rfl) (q53_24.a 28 rfl) rfl) fun _ q53_25 => ?_;clear q53_24
 refine q53_25.t _ (ex_move rfl (q53_25.e (j:=29) rfl)) fun _ q53_26 => ?_;clear q53_25
 refine vl _ (c.val) (want_g rfl rfl (q53_26.a 30 rfl)) (fun hc => ex_ld rfl (q53_26.e (j:=2) rfl) (CB7.ld (HC.bel hx3))) rfl q53_26.z (by decide) (q53_26.k fun Yp q53_27 => ?_);clear q53_26;refine vl _ (.pointer (some ⟨w.heap.size + 1,0,none⟩)) (want_g rfl rfl (q53_27.a 30 rfl)) (fun hc => ex_fa rfl (q53_27.e (j:=3) rfl) (faS0 _ _)) rfl q53_27.z (by decide) (q53_27.k fun Yq q53_28 => ?_);clear q53_27;refine vl _ (.int .i64 s.self) (want_g rfl rfl (q53_28.a 30 rfl)) (fun hc => ex_ld rfl (ev (q53_28.a 32 rfl) hc) (ldI8 (cell8 (HS.cell 0 _ rfl) hx3))) rfl q53_28.z (by decide) (q53_28.k fun Yr q53_29 => ?_);clear q53_28;refine vl _ (.pointer (some ⟨w.heap.size + 1,11,none⟩)) (want_g rfl rfl (q53_29.a 30 rfl)) (fun hc => ex_fa rfl (q53_29.e (j:=3) rfl) (faS11 _ _)) rfl q53_29.z (by decide) (q53_29.k fun Ys q53_30 => ?_);clear q53_29;refine vl _ (.slice s.na s.N.length s.nc) (want_g rfl rfl (q53_30.a 30 rfl)) (fun hc => ex_ld rfl (ev (q53_30.a 34 rfl) hc) (ldN8 (cell8 (HS.cell 11 _ rfl) hx3))) rfl q53_30.z (by decide) (q53_30.k fun Yt q53_31 => ?_);clear q53_30;refine vcall (true && ((((decide ((Ak.ck c s.self s.A) = 0)) && (decide ((Mk.ck c s.self s.M) = 0))) && (decide ((Bl.ck c s.self s.B) = 0))) == true)) (.int .i64 (An.ck c s.self s.N)) (want_g rfl rfl (q53_31.a 30 rfl)) (fun hc => ex_call rfl (by simp only [List.map_toArray,List.map_cons,List.map_nil,(ev (q53_31.a 31 rfl) hc),(ev (q53_31.a 33 rfl) hc),(ev (q53_31.a 35 rfl) hc),evc] <;> rfl) rfl) (fun hc => An.Check_any c s.self s.N s.na _ s.nc x3 (HI.n.later hx3) (by have:=hF.nl;omega) (fun x hx => ⟨⟨(HI.nl x hx).1.later hx3,(HI.nl x hx).2⟩,hF.ne x hx⟩)) rfl q53_31.z (by decide) (q53_31.kc fun Yu x4 hb q53_32 => ?_);clear q53_31;have hx4:=hx3.trans (hb.mono hx3.size);clear hb;refine vl _ (.bool (decide ((An.ck c s.self s.N) = 0))) (want_g rfl rfl (q53_32.a 30 rfl)) (fun hc => ex_bin rfl (ev (q53_32.a 36 rfl) hc) rfl (eqlN8 _ _ _ _ _)) rfl q53_32.z (by decide) (q53_32.k fun Yv q53_33 => ?_);clear q53_32
 refine q53_33.t (.bool ((((decide ((Ak.ck c s.self s.A) = 0)) && (decide ((Mk.ck c s.self s.M) = 0))) && (decide ((Bl.ck c s.self s.B) = 0))) && (decide ((An.ck c s.self s.N) = 0)))) (ex_and rfl (q53_33.a 30 rfl) (q53_33.a 37 rfl) rfl) fun _ q53_34 => ?_;clear q53_33
 refine q53_34.t _ (ex_assign rfl (q53_34.e (j:=38) rfl)) fun _ q53_35 => ?_;clear q53_34
 have hz:=q53_35.z;have s4:=q53_35.a 4 rfl;clear q53_35;refine wpList_nil ?_
 go_wp2
 refine bodyPost_ret (results_tmp rfl _ _ _) rfl ⟨?_,hB.trans (hx4.mono (by omega))⟩;rw [getD_of s4]
 rfl
set_option maxHeartbeats 1000000 in
theorem numbers8 (c : Cg) (s : Sta) (w : World) (hI : s.In w) (hF : s.Fit) (hok : c.okB = true) : Calls Tryz.prog 119 #[c.val,s.val] w fun e w' => e = .returned (.bool (s.numB c))∧Below w.heap.size w w':=by
 go_enter Tryz.func119,Tryz.ntmps119
 go_upto_region 0 with fail
 refine wp_region_lit ?_;refine vl_gen (fun T => T.size = 61∧T[0]? = some (gw true (c.val))∧T[1]? = some (gw true (s.val))) ⟨rfl,rfl,rfl⟩ (fun Z0 ⟨hz,s0,s1⟩ => ?_)
 obtain ⟨w1,hw1⟩ : ∃ y,y = w.alloc (.cells c.cs.toArray 23):=⟨_,rfl⟩
 have hb : Below w.heap.size w w1:=by rw [hw1];exact (Below.refl _ _).alloc (Nat.le_refl _) _
 have hs1 : w1.heap.size = w.heap.size + 1:=by rw [hw1];simp
 have HC : CB7 w1 (w.heap.size) c:=by rw [hw1];exact BX7.new _ _ _
 refine vw (.pointer (some ⟨w.heap.size,0,none⟩)) w1 (want_none rfl) (ex_box8 rfl (ev s0 rfl) (by rw [hw1];exact bxC7 _ _)) rfl hz (by decide) (fun Z1 zz kk s2x => ?_);replace s1:=ku s1;clear kk hz s0 hw1;have hz:=zz;have s2:=s2x;clear zz s2x;have hB:=hb;clear hb
 obtain ⟨w2,hw2⟩ : ∃ y,y = w1.alloc (.cells s.cs.toArray 36):=⟨_,rfl⟩
 have hb : Below w1.heap.size w1 w2:=by rw [hw2];exact (Below.refl _ _).alloc (Nat.le_refl _) _
 have hs2 : w2.heap.size = w.heap.size + 2:=by rw [hw2];simp;omega
 have HS : SB7 w2 (w.heap.size + 1) s:=by rw [hw2,← hs1];exact BX7.new _ _ _
 refine vw (.pointer (some ⟨w.heap.size + 1,0,none⟩)) w2 (want_none rfl) (ex_box8 rfl (ev s1 rfl) (by rw [hw2,← hs1];exact bxS7 _ _)) rfl hz (by decide) (fun Z2 zz kk s3x => ?_);replace s2:=ku s2;clear kk hz s1 hw2;have hz:=zz;have s3:=s3x;clear zz s3x;have hB:=hB.trans (hb.mono (by omega));have HC:=HC.bel hb;clear hb;have hv0 : Below w2.heap.size w2 w2:=Below.refl _ _;have HI:=hI.later hB;obtain ⟨hn1,hn2,hn3⟩:=Cg.nd_ok hok;have hP:=Cg.P_ok hok;have q54_0:=((Rp.nil hz).cons s2).cons s3;clear hz s2 s3
 refine q54_0.t (.bool false) (ex_assign rfl rfl) fun _ q54_1 => ?_;clear q54_0
 have hz:=q54_1.z;have s2:=q54_1.a 2 rfl;have s3:=q54_1.a 3 rfl;clear q54_1;refine wpList_nil ?_
 go_upto_region 1 with fail
 refine wp_region_lit ?_;have q55_0:=((Rp.nil hz).cons s2).cons s3;clear hz s2 s3
 refine q55_0.t (.pointer (some ⟨w.heap.size + 1,4,none⟩)) (ex_fa rfl (q55_0.e (j:=3) rfl) (faS4 _ _)) fun _ q55_1 => ?_;clear q55_0
 refine q55_1.t (.slice s.la s.L.length s.lc) (ex_ld rfl (q55_1.e (j:=8) rfl) (ldE8 (cell8 (HS.cell 4 _ rfl) hv0))) fun _ q55_2 => ?_;clear q55_1
 refine q55_2.t (.pointer (some ⟨w.heap.size,1,none⟩)) (ex_fa rfl (q55_2.e (j:=2) rfl) (faC1 _ _)) fun _ q55_3 => ?_;clear q55_2
 refine q55_3.t (.int .i64 c.R) (ex_ld rfl (q55_3.e (j:=10) rfl) (ldI8 (cell8 (HC.cell 1 _ rfl) hv0))) fun _ q55_4 => ?_;clear q55_3
 refine vcall true (.tuple #[.int .i64 (chk s.L c.R).1,.int .i64 (chk s.L c.R).2]) (want_none rfl) (fun hc => ex_call rfl (by simp only [List.map_toArray,List.map_cons,List.map_nil,(q55_4.e (j:=9) rfl),(q55_4.e (j:=11) rfl),evc] <;> rfl) rfl) (fun hc => checkO_any s.L s.la _ s.lc c.R w2 (HI.l.later hv0) hF.le) rfl q55_4.z (by decide) (q55_4.kc fun Ya x1 hb q55_5 => ?_);clear q55_4;have hx1:=hv0.trans (hb.mono hv0.size);clear hb
 refine q55_5.t _ (ex_move rfl (q55_5.e (j:=12) rfl)) fun _ q55_6 => ?_;clear q55_5
 refine q55_6.t (.int .i64 (chk s.L c.R).1) (ex_ext8 rfl (q55_6.e (j:=7) rfl) rfl) fun _ q55_7 => ?_;clear q55_6
 refine q55_7.t (.int .i64 (chk s.L c.R).2) (ex_ext8 rfl (q55_7.e (j:=7) rfl) rfl) fun _ q55_8 => ?_;clear q55_7
 refine q55_8.t _ (ex_assign rfl (q55_8.e (j:=13) rfl)) fun _ q55_9 => ?_;clear q55_8
 refine q55_9.t _ (ex_assign rfl (q55_9.e (j:=14) rfl)) fun _ q55_10 => ?_;clear q55_9
 have hz:=q55_10.z;have s2:=q55_10.a 2 rfl;have s3:=q55_10.a 3 rfl;have s5:=q55_10.a 5 rfl;clear q55_10;refine wpList_nil ?_
 go_upto_region 2 with fail
 refine vq_start (C:=fun v => Below w2.heap.size w2 v) (by kernel_rfl) (by kernel_rfl) hx1.drew ?_;have q56_0:=(((Rp.nil hz).cons s2).cons s3).cons s5;clear hz s2 s3 s5
 refine q56_0.q _ (fun v hv => ex_move rfl (q56_0.e (j:=5) rfl)) fun _ q56_1 => ?_;clear q56_0
 refine q56_1.q (.bool (decide ((chk s.L c.R).1 = 0))) (fun v hv => ex_bin rfl (q56_1.e (j:=15) rfl) rfl (eqlN8 _ _ _ _ _)) fun _ q56_2 => ?_;clear q56_1
 refine q56_2.q _ (fun v hv => ex_move rfl (q56_2.e (j:=16) rfl)) fun _ q56_3 => ?_;clear q56_2
 refine vq _ (.pointer (some ⟨w.heap.size + 1,6,none⟩)) (want_g rfl rfl (q56_3.a 17 rfl)) (fun hc v hv => ex_fa rfl (q56_3.e (j:=3) rfl) (faS6 _ _)) rfl q56_3.z (by decide) (q56_3.k fun Yb q56_4 => ?_);clear q56_3;refine vq _ (.slice s.va s.V.length s.vc) (want_g rfl rfl (q56_4.a 17 rfl)) (fun hc v hv => ex_ld rfl (ev (q56_4.a 18 rfl) hc) (ldV8 (cell8 (HS.cell 6 _ rfl) hv))) rfl q56_4.z (by decide) (q56_4.k fun Yc q56_5 => ?_);clear q56_4;refine vq _ (c.val) (want_g rfl rfl (q56_5.a 17 rfl)) (fun hc v hv => ex_ld rfl (q56_5.e (j:=2) rfl) (CB7.ld (HC.bel hv))) rfl q56_5.z (by decide) (q56_5.k fun Yd q56_6 => ?_);clear q56_5;refine vq_call (true && ((decide ((chk s.L c.R).1 = 0)) == true)) (.int .i64 c.nd) (want_g rfl rfl (q56_6.a 17 rfl)) (fun hc v hv => ex_call rfl (by simp only [List.map_toArray,List.map_cons,List.map_nil,(ev (q56_6.a 20 rfl) hc),evc] <;> rfl) rfl) (fun hc v hv => (bel8 hv (nodes8 c v))) rfl q56_6.z (by decide) (q56_6.k fun Ye q56_7 => ?_);clear q56_6;refine vq_call (true && ((decide ((chk s.L c.R).1 = 0)) == true)) (.int .i64 (if (s.V.length : Int) = c.nd then 0 else 30)) (want_g rfl rfl (q56_7.a 17 rfl)) (fun hc v hv => ex_call rfl (by simp only [List.map_toArray,List.map_cons,List.map_nil,(ev (q56_7.a 19 rfl) hc),(ev (q56_7.a 21 rfl) hc),evc] <;> rfl) rfl) (fun hc v hv => (bel8 hv (vcheck8 c s.va s.V.length s.vc v hok))) rfl q56_7.z (by decide) (q56_7.k fun Yf q56_8 => ?_);clear q56_7;refine vq _ (.bool (decide ((if (s.V.length : Int) = c.nd then 0 else 30) = 0))) (want_g rfl rfl (q56_8.a 17 rfl)) (fun hc v hv => ex_bin rfl (ev (q56_8.a 22 rfl) hc) rfl (eqlN8 _ _ _ _ _)) rfl q56_8.z (by decide) (q56_8.k fun Yg q56_9 => ?_);clear q56_8
 refine q56_9.q (.bool ((decide ((chk s.L c.R).1 = 0)) && (decide ((if (s.V.length : Int) = c.nd then 0 else 30) = 0)))) (fun v hv => ex_and rfl (q56_9.a 17 rfl) (q56_9.a 23 rfl) rfl) fun _ q56_10 => ?_;clear q56_9
 refine q56_10.q _ (fun v hv => ex_move rfl (q56_10.e (j:=24) rfl)) fun _ q56_11 => ?_;clear q56_10
 refine vq _ (.pointer (some ⟨w.heap.size + 1,0,none⟩)) (want_g rfl rfl (q56_11.a 25 rfl)) (fun hc v hv => ex_fa rfl (q56_11.e (j:=3) rfl) (faS0 _ _)) rfl q56_11.z (by decide) (q56_11.k fun Yh q56_12 => ?_);clear q56_11;refine vq _ (.int .i64 s.self) (want_g rfl rfl (q56_12.a 25 rfl)) (fun hc v hv => ex_ld rfl (ev (q56_12.a 26 rfl) hc) (ldI8 (cell8 (HS.cell 0 _ rfl) hv))) rfl q56_12.z (by decide) (q56_12.k fun Yi q56_13 => ?_);clear q56_12;refine vq _ (c.val) (want_g rfl rfl (q56_13.a 25 rfl)) (fun hc v hv => ex_ld rfl (q56_13.e (j:=2) rfl) (CB7.ld (HC.bel hv))) rfl q56_13.z (by decide) (q56_13.k fun Yj q56_14 => ?_);clear q56_13;refine vq_call (true && (((decide ((chk s.L c.R).1 = 0)) && (decide ((if (s.V.length : Int) = c.nd then 0 else 30) = 0))) == true)) (.int .i64 c.nd) (want_g rfl rfl (q56_14.a 25 rfl)) (fun hc v hv => ex_call rfl (by simp only [List.map_toArray,List.map_cons,List.map_nil,(ev (q56_14.a 28 rfl) hc),evc] <;> rfl) rfl) (fun hc v hv => (bel8 hv (nodes8 c v))) rfl q56_14.z (by decide) (q56_14.k fun Yk q56_15 => ?_);clear q56_14;refine vq _ (.int .i64 (c.nd - 1)) (want_g rfl rfl (q56_15.a 25 rfl)) (fun hc v hv => ex_bin rfl (ev (q56_15.a 29 rfl) hc) rfl (subD8 _ _ c.nd 1 (c.nd - 1) (by rw [IntKind.wrap_i64];omega) _)) rfl q56_15.z (by decide) (q56_15.k fun Yl q56_16 => ?_);clear q56_15;refine vq_call (true && (((decide ((chk s.L c.R).1 = 0)) && (decide ((if (s.V.length : Int) = c.nd then 0 else 30) = 0))) == true)) (.bool (inB (s.self) (0) ((c.nd - 1)))) (want_g rfl rfl (q56_16.a 25 rfl)) (fun hc v hv => ex_call rfl (by simp only [List.map_toArray,List.map_cons,List.map_nil,(ev (q56_16.a 27 rfl) hc),(ev (q56_16.a 30 rfl) hc),evc] <;> rfl) rfl) (fun hc v hv => (bel8 hv (within8 (s.self) (0) ((c.nd - 1)) v))) rfl q56_16.z (by decide) (q56_16.k fun Ym q56_17 => ?_);clear q56_16
 refine q56_17.q (.bool (((decide ((chk s.L c.R).1 = 0)) && (decide ((if (s.V.length : Int) = c.nd then 0 else 30) = 0))) && (inB (s.self) (0) ((c.nd - 1))))) (fun v hv => ex_and rfl (q56_17.a 25 rfl) (q56_17.a 31 rfl) rfl) fun _ q56_18 => ?_;clear q56_17
 refine q56_18.q _ (fun v hv => ex_move rfl (q56_18.e (j:=32) rfl)) fun _ q56_19 => ?_;clear q56_18
 refine vq _ (.pointer (some ⟨w.heap.size + 1,2,none⟩)) (want_g rfl rfl (q56_19.a 33 rfl)) (fun hc v hv => ex_fa rfl (q56_19.e (j:=3) rfl) (faS2 _ _)) rfl q56_19.z (by decide) (q56_19.k fun Yn q56_20 => ?_);clear q56_19;refine vq _ (.int .i64 s.view) (want_g rfl rfl (q56_20.a 33 rfl)) (fun hc v hv => ex_ld rfl (ev (q56_20.a 34 rfl) hc) (ldI8 (cell8 (HS.cell 2 _ rfl) hv))) rfl q56_20.z (by decide) (q56_20.k fun Yo q56_21 => ?_);clear q56_20;refine vq_call (true && ((((decide ((chk s.L c.R).1 = 0)) && (decide ((if (s.V.length : Int) = c.nd then 0 else 30) = 0))) && (inB (s.self) (0) ((c.nd - 1)))) == true)) (.bool (inB (s.view) (0) (4294967296))) (want_g rfl rfl (q56_21.a 33 rfl)) (fun hc v hv => ex_call rfl (by simp only [List.map_toArray,List.map_cons,List.map_nil,(ev (q56_21.a 35 rfl) hc),evc] <;> rfl) rfl) (fun hc v hv => (bel8 hv (within8 (s.view) (0) (4294967296) v))) rfl q56_21.z (by decide) (q56_21.k fun Yp q56_22 => ?_);clear q56_21
 refine q56_22.q (.bool ((((decide ((chk s.L c.R).1 = 0)) && (decide ((if (s.V.length : Int) = c.nd then 0 else 30) = 0))) && (inB (s.self) (0) ((c.nd - 1)))) && (inB (s.view) (0) (4294967296)))) (fun v hv => ex_and rfl (q56_22.a 33 rfl) (q56_22.a 36 rfl) rfl) fun _ q56_23 => ?_;clear q56_22
 refine q56_23.q _ (fun v hv => ex_move rfl (q56_23.e (j:=37) rfl)) fun _ q56_24 => ?_;clear q56_23
 refine vq _ (.pointer (some ⟨w.heap.size + 1,3,none⟩)) (want_g rfl rfl (q56_24.a 38 rfl)) (fun hc v hv => ex_fa rfl (q56_24.e (j:=3) rfl) (faS3 _ _)) rfl q56_24.z (by decide) (q56_24.k fun Yq q56_25 => ?_);clear q56_24;refine vq _ (.int .i64 s.last) (want_g rfl rfl (q56_25.a 38 rfl)) (fun hc v hv => ex_ld rfl (ev (q56_25.a 39 rfl) hc) (ldI8 (cell8 (HS.cell 3 _ rfl) hv))) rfl q56_25.z (by decide) (q56_25.k fun Yr q56_26 => ?_);clear q56_25;refine vq _ (.pointer (some ⟨w.heap.size + 1,2,none⟩)) (want_g rfl rfl (q56_26.a 38 rfl)) (fun hc v hv => ex_fa rfl (q56_26.e (j:=3) rfl) (faS2 _ _)) rfl q56_26.z (by decide) (q56_26.k fun Ys q56_27 => ?_);clear q56_26;refine vq _ (.int .i64 s.view) (want_g rfl rfl (q56_27.a 38 rfl)) (fun hc v hv => ex_ld rfl (ev (q56_27.a 41 rfl) hc) (ldI8 (cell8 (HS.cell 2 _ rfl) hv))) rfl q56_27.z (by decide) (q56_27.k fun Yt q56_28 => ?_);clear q56_27;refine vq_call (true && (((((decide ((chk s.L c.R).1 = 0)) && (decide ((if (s.V.length : Int) = c.nd then 0 else 30) = 0))) && (inB (s.self) (0) ((c.nd - 1)))) && (inB (s.view) (0) (4294967296))) == true)) (.bool (inB (s.last) (0) (s.view))) (want_g rfl rfl (q56_28.a 38 rfl)) (fun hc v hv => ex_call rfl (by simp only [List.map_toArray,List.map_cons,List.map_nil,(ev (q56_28.a 40 rfl) hc),(ev (q56_28.a 42 rfl) hc),evc] <;> rfl) rfl) (fun hc v hv => (bel8 hv (within8 (s.last) (0) (s.view) v))) rfl q56_28.z (by decide) (q56_28.k fun Yu q56_29 => ?_);clear q56_28
 refine q56_29.q (.bool (((((decide ((chk s.L c.R).1 = 0)) && (decide ((if (s.V.length : Int) = c.nd then 0 else 30) = 0))) && (inB (s.self) (0) ((c.nd - 1)))) && (inB (s.view) (0) (4294967296))) && (inB (s.last) (0) (s.view)))) (fun v hv => ex_and rfl (q56_29.a 38 rfl) (q56_29.a 43 rfl) rfl) fun _ q56_30 => ?_;clear q56_29
 refine q56_30.q _ (fun v hv => ex_move rfl (q56_30.e (j:=44) rfl)) fun _ q56_31 => ?_;clear q56_30
 refine vq _ (.pointer (some ⟨w.heap.size + 1,5,none⟩)) (want_g rfl rfl (q56_31.a 45 rfl)) (fun hc v hv => ex_fa rfl (q56_31.e (j:=3) rfl) (faS5 _ _)) rfl q56_31.z (by decide) (q56_31.k fun Yv q56_32 => ?_);clear q56_31;refine vq _ (.int .i64 s.commit) (want_g rfl rfl (q56_32.a 45 rfl)) (fun hc v hv => ex_ld rfl (ev (q56_32.a 46 rfl) hc) (ldI8 (cell8 (HS.cell 5 _ rfl) hv))) rfl q56_32.z (by decide) (q56_32.k fun Yw q56_33 => ?_);clear q56_32;refine vq _ (.pointer (some ⟨w.heap.size + 1,4,none⟩)) (want_g rfl rfl (q56_33.a 45 rfl)) (fun hc v hv => ex_fa rfl (q56_33.e (j:=3) rfl) (faS4 _ _)) rfl q56_33.z (by decide) (q56_33.k fun Yx q56_34 => ?_);clear q56_33;refine vq _ (.slice s.la s.L.length s.lc) (want_g rfl rfl (q56_34.a 45 rfl)) (fun hc v hv => ex_ld rfl (ev (q56_34.a 48 rfl) hc) (ldE8 (cell8 (HS.cell 4 _ rfl) hv))) rfl q56_34.z (by decide) (q56_34.k fun Yy q56_35 => ?_);clear q56_34;refine vq _ (.int .i64 (s.L.length : Int)) (want_g rfl rfl (q56_35.a 45 rfl)) (fun hc v hv => ex_lenE8 rfl rfl (ev (q56_35.a 49 rfl) hc)) rfl q56_35.z (by decide) (q56_35.k fun Yz q56_36 => ?_);clear q56_35;refine vq_call (true && ((((((decide ((chk s.L c.R).1 = 0)) && (decide ((if (s.V.length : Int) = c.nd then 0 else 30) = 0))) && (inB (s.self) (0) ((c.nd - 1)))) && (inB (s.view) (0) (4294967296))) && (inB (s.last) (0) (s.view))) == true)) (.bool (inB (s.commit) (0) ((s.L.length : Int)))) (want_g rfl rfl (q56_36.a 45 rfl)) (fun hc v hv => ex_call rfl (by simp only [List.map_toArray,List.map_cons,List.map_nil,(ev (q56_36.a 47 rfl) hc),(ev (q56_36.a 50 rfl) hc),evc] <;> rfl) rfl) (fun hc v hv => (bel8 hv (within8 (s.commit) (0) ((s.L.length : Int)) v))) rfl q56_36.z (by decide) (q56_36.k fun Y0 q56_37 => ?_);clear q56_36
 refine q56_37.q (.bool ((((((decide ((chk s.L c.R).1 = 0)) && (decide ((if (s.V.length : Int) = c.nd then 0 else 30) = 0))) && (inB (s.self) (0) ((c.nd - 1)))) && (inB (s.view) (0) (4294967296))) && (inB (s.last) (0) (s.view))) && (inB (s.commit) (0) ((s.L.length : Int))))) (fun v hv => ex_and rfl (q56_37.a 45 rfl) (q56_37.a 51 rfl) rfl) fun _ q56_38 => ?_;clear q56_37
 refine q56_38.q _ (fun v hv => ex_move rfl (q56_38.e (j:=52) rfl)) fun _ q56_39 => ?_;clear q56_38
 refine vq _ (.pointer (some ⟨w.heap.size + 1,7,none⟩)) (want_g rfl rfl (q56_39.a 53 rfl)) (fun hc v hv => ex_fa rfl (q56_39.e (j:=3) rfl) (faS7 _ _)) rfl q56_39.z (by decide) (q56_39.k fun Y1 q56_40 => ?_);clear q56_39;refine vq _ (.int .i64 s.idle) (want_g rfl rfl (q56_40.a 53 rfl)) (fun hc v hv => ex_ld rfl (ev (q56_40.a 54 rfl) hc) (ldI8 (cell8 (HS.cell 7 _ rfl) hv))) rfl q56_40.z (by decide) (q56_40.k fun Y2 q56_41 => ?_);clear q56_40;refine vq _ (.pointer (some ⟨w.heap.size,2,none⟩)) (want_g rfl rfl (q56_41.a 53 rfl)) (fun hc v hv => ex_fa rfl (q56_41.e (j:=2) rfl) (faC2 _ _)) rfl q56_41.z (by decide) (q56_41.k fun Y3 q56_42 => ?_);clear q56_41;refine vq _ (.int .i64 c.P) (want_g rfl rfl (q56_42.a 53 rfl)) (fun hc v hv => ex_ld rfl (ev (q56_42.a 56 rfl) hc) (ldI8 (cell8 (HC.cell 2 _ rfl) hv))) rfl q56_42.z (by decide) (q56_42.k fun Y4 q56_43 => ?_);clear q56_42;refine vq _ (.int .i64 (c.P - 1)) (want_g rfl rfl (q56_43.a 53 rfl)) (fun hc v hv => ex_bin rfl (ev (q56_43.a 57 rfl) hc) rfl (subD8 _ _ c.P 1 (c.P - 1) (by rw [IntKind.wrap_i64];omega) _)) rfl q56_43.z (by decide) (q56_43.k fun Y5 q56_44 => ?_);clear q56_43;refine vq_call (true && (((((((decide ((chk s.L c.R).1 = 0)) && (decide ((if (s.V.length : Int) = c.nd then 0 else 30) = 0))) && (inB (s.self) (0) ((c.nd - 1)))) && (inB (s.view) (0) (4294967296))) && (inB (s.last) (0) (s.view))) && (inB (s.commit) (0) ((s.L.length : Int)))) == true)) (.bool (inB (s.idle) (0) ((c.P - 1)))) (want_g rfl rfl (q56_44.a 53 rfl)) (fun hc v hv => ex_call rfl (by simp only [List.map_toArray,List.map_cons,List.map_nil,(ev (q56_44.a 55 rfl) hc),(ev (q56_44.a 58 rfl) hc),evc] <;> rfl) rfl) (fun hc v hv => (bel8 hv (within8 (s.idle) (0) ((c.P - 1)) v))) rfl q56_44.z (by decide) (q56_44.k fun Y6 q56_45 => ?_);clear q56_44
 refine q56_45.q (.bool (((((((decide ((chk s.L c.R).1 = 0)) && (decide ((if (s.V.length : Int) = c.nd then 0 else 30) = 0))) && (inB (s.self) (0) ((c.nd - 1)))) && (inB (s.view) (0) (4294967296))) && (inB (s.last) (0) (s.view))) && (inB (s.commit) (0) ((s.L.length : Int)))) && (inB (s.idle) (0) ((c.P - 1))))) (fun v hv => ex_and rfl (q56_45.a 53 rfl) (q56_45.a 59 rfl) rfl) fun _ q56_46 => ?_;clear q56_45
 refine q56_46.q _ (fun v hv => ex_assign rfl (q56_46.e (j:=60) rfl)) fun _ q56_47 => ?_;clear q56_46
 have hz:=q56_47.z;have s4:=q56_47.a 4 rfl;clear q56_47;refine vq_nil (fun x2 hx2 => ?_)
 go_wp2
 refine bodyPost_ret (results_tmp rfl _ _ _) rfl ⟨?_,hB.trans (hx2.mono (by omega))⟩;rw [getD_of s4]
 rfl
set_option maxHeartbeats 1000000 in
theorem recovering8 (s : Sta) (w : World) (hI : s.In w) (hF : s.Fit) (hs : 0 ≤ s.self∧s.self < (s.V.length : Int)) : Calls Tryz.prog 172 #[s.val] w fun e w' => e = .returned (.bool s.recB)∧Below w.heap.size w w':=by
 go_enter Tryz.func172,Tryz.ntmps172
 go_upto_region 0 with fail
 refine wp_region_lit ?_;refine vl_gen (fun T => T.size = 39∧T[0]? = some (gw true (s.val))) ⟨rfl,rfl⟩ (fun Z0 ⟨hz,s0⟩ => ?_)
 obtain ⟨w1,hw1⟩ : ∃ y,y = w.alloc (.cells s.cs.toArray 36):=⟨_,rfl⟩
 have hb : Below w.heap.size w w1:=by rw [hw1];exact (Below.refl _ _).alloc (Nat.le_refl _) _
 have hs1 : w1.heap.size = w.heap.size + 1:=by rw [hw1];simp
 have HS : SB7 w1 (w.heap.size) s:=by rw [hw1];exact BX7.new _ _ _
 refine vw (.pointer (some ⟨w.heap.size,0,none⟩)) w1 (want_none rfl) (ex_box8 rfl (ev s0 rfl) (by rw [hw1];exact bxS7 _ _)) rfl hz (by decide) (fun Z1 zz kk s1x => ?_);clear kk hz s0 hw1;have hz:=zz;have s1:=s1x;clear zz s1x;have hB:=hb;clear hb;have hv0 : Below w1.heap.size w1 w1:=Below.refl _ _;have HI:=hI.later hB;obtain ⟨q,o,hq,hQ⟩:=vec_at8 HI.v hs;have f1:=hF.ll;have f2:=hF.al;have f3:=hF.ml;have f4:=hF.bl;have q57_0:=(Rp.nil hz).cons s1;clear hz s1
 refine q57_0.t (.bool false) (ex_assign rfl rfl) fun _ q57_1 => ?_;clear q57_0
 have hz:=q57_1.z;have s1:=q57_1.a 1 rfl;clear q57_1;refine wpList_nil ?_
 go_upto_region 1 with fail
 refine wp_region_lit ?_;have q58_0:=(Rp.nil hz).cons s1;clear hz s1
 refine q58_0.t (.pointer (some ⟨w.heap.size,2,none⟩)) (ex_fa rfl (q58_0.e (j:=1) rfl) (faS2 _ _)) fun _ q58_1 => ?_;clear q58_0
 refine q58_1.t (.int .i64 s.view) (ex_ld rfl (q58_1.e (j:=3) rfl) (ldI8 (cell8 (HS.cell 2 _ rfl) hv0))) fun _ q58_2 => ?_;clear q58_1
 refine q58_2.t (.bool (decide (s.view = 0))) (ex_bin rfl (q58_2.e (j:=4) rfl) rfl (eqlC _ _ _ _ _)) fun _ q58_3 => ?_;clear q58_2
 refine q58_3.t _ (ex_move rfl (q58_3.e (j:=5) rfl)) fun _ q58_4 => ?_;clear q58_3
 refine vl _ (.pointer (some ⟨w.heap.size,7,none⟩)) (want_g rfl rfl (q58_4.a 6 rfl)) (fun hc => ex_fa rfl (q58_4.e (j:=1) rfl) (faS7 _ _)) rfl q58_4.z (by decide) (q58_4.k fun Ya q58_5 => ?_);clear q58_4;refine vl _ (.int .i64 s.idle) (want_g rfl rfl (q58_5.a 6 rfl)) (fun hc => ex_ld rfl (ev (q58_5.a 7 rfl) hc) (ldI8 (cell8 (HS.cell 7 _ rfl) hv0))) rfl q58_5.z (by decide) (q58_5.k fun Yb q58_6 => ?_);clear q58_5;refine vl _ (.bool (decide (s.idle = 0))) (want_g rfl rfl (q58_6.a 6 rfl)) (fun hc => ex_bin rfl (ev (q58_6.a 8 rfl) hc) rfl (eqlC _ _ _ _ _)) rfl q58_6.z (by decide) (q58_6.k fun Yc q58_7 => ?_);clear q58_6
 refine q58_7.t (.bool ((decide (s.view = 0)) && (decide (s.idle = 0)))) (ex_and rfl (q58_7.a 6 rfl) (q58_7.a 9 rfl) rfl) fun _ q58_8 => ?_;clear q58_7
 refine q58_8.t _ (ex_move rfl (q58_8.e (j:=10) rfl)) fun _ q58_9 => ?_;clear q58_8
 refine vl _ (.pointer (some ⟨w.heap.size,4,none⟩)) (want_g rfl rfl (q58_9.a 11 rfl)) (fun hc => ex_fa rfl (q58_9.e (j:=1) rfl) (faS4 _ _)) rfl q58_9.z (by decide) (q58_9.k fun Yd q58_10 => ?_);clear q58_9;refine vl _ (.slice s.la s.L.length s.lc) (want_g rfl rfl (q58_10.a 11 rfl)) (fun hc => ex_ld rfl (ev (q58_10.a 12 rfl) hc) (ldE8 (cell8 (HS.cell 4 _ rfl) hv0))) rfl q58_10.z (by decide) (q58_10.k fun Ye q58_11 => ?_);clear q58_10;refine vl _ (.int .i64 (s.L.length : Int)) (want_g rfl rfl (q58_11.a 11 rfl)) (fun hc => ex_lenE8 rfl rfl (ev (q58_11.a 13 rfl) hc)) rfl q58_11.z (by decide) (q58_11.k fun Yf q58_12 => ?_);clear q58_11;refine vl _ (.pointer (some ⟨w.heap.size,8,none⟩)) (want_g rfl rfl (q58_12.a 11 rfl)) (fun hc => ex_fa rfl (q58_12.e (j:=1) rfl) (faS8 _ _)) rfl q58_12.z (by decide) (q58_12.k fun Yg q58_13 => ?_);clear q58_12;refine vl _ (.slice s.ka s.A.length s.kc) (want_g rfl rfl (q58_13.a 11 rfl)) (fun hc => ex_ld rfl (ev (q58_13.a 15 rfl) hc) (ldK8 (cell8 (HS.cell 8 _ rfl) hv0))) rfl q58_13.z (by decide) (q58_13.k fun Yh q58_14 => ?_);clear q58_13;refine vl _ (.int .i64 (s.A.length : Int)) (want_g rfl rfl (q58_14.a 11 rfl)) (fun hc => ex_lenK8 rfl rfl (ev (q58_14.a 16 rfl) hc)) rfl q58_14.z (by decide) (q58_14.k fun Yi q58_15 => ?_);clear q58_14;refine vl _ (.int .i64 ((s.L.length : Int) + (s.A.length : Int))) (want_g rfl rfl (q58_15.a 11 rfl)) (fun hc => ex_bin rfl (ev (q58_15.a 14 rfl) hc) (ev (q58_15.a 17 rfl) hc) (addD8 _ _ (s.L.length : Int) (s.A.length : Int) ((s.L.length : Int) + (s.A.length : Int)) (by rw [IntKind.wrap_i64];omega) _)) rfl q58_15.z (by decide) (q58_15.k fun Yj q58_16 => ?_);clear q58_15;refine vl _ (.pointer (some ⟨w.heap.size,9,none⟩)) (want_g rfl rfl (q58_16.a 11 rfl)) (fun hc => ex_fa rfl (q58_16.e (j:=1) rfl) (faS9 _ _)) rfl q58_16.z (by decide) (q58_16.k fun Yk q58_17 => ?_);clear q58_16;refine vl _ (.slice s.ma s.M.length s.mc) (want_g rfl rfl (q58_17.a 11 rfl)) (fun hc => ex_ld rfl (ev (q58_17.a 19 rfl) hc) (ldM8 (cell8 (HS.cell 9 _ rfl) hv0))) rfl q58_17.z (by decide) (q58_17.k fun Yl q58_18 => ?_);clear q58_17;refine vl _ (.int .i64 (s.M.length : Int)) (want_g rfl rfl (q58_18.a 11 rfl)) (fun hc => ex_lenM8 rfl rfl (ev (q58_18.a 20 rfl) hc)) rfl q58_18.z (by decide) (q58_18.k fun Ym q58_19 => ?_);clear q58_18;refine vl _ (.int .i64 (((s.L.length : Int) + (s.A.length : Int)) + (s.M.length : Int))) (want_g rfl rfl (q58_19.a 11 rfl)) (fun hc => ex_bin rfl (ev (q58_19.a 18 rfl) hc) (ev (q58_19.a 21 rfl) hc) (addD8 _ _ ((s.L.length : Int) + (s.A.length : Int)) (s.M.length : Int) (((s.L.length : Int) + (s.A.length : Int)) + (s.M.length : Int)) (by rw [IntKind.wrap_i64];omega) _)) rfl q58_19.z (by decide) (q58_19.k fun Yn q58_20 => ?_);clear q58_19;refine vl _ (.pointer (some ⟨w.heap.size,10,none⟩)) (want_g rfl rfl (q58_20.a 11 rfl)) (fun hc => ex_fa rfl (q58_20.e (j:=1) rfl) (faS10 _ _)) rfl q58_20.z (by decide) (q58_20.k fun Yo q58_21 => ?_);clear q58_20;refine vl _ (.slice s.ba s.B.length s.bc) (want_g rfl rfl (q58_21.a 11 rfl)) (fun hc => ex_ld rfl (ev (q58_21.a 23 rfl) hc) (ldB8 (cell8 (HS.cell 10 _ rfl) hv0))) rfl q58_21.z (by decide) (q58_21.k fun Yp q58_22 => ?_);clear q58_21;refine vl _ (.int .i64 (s.B.length : Int)) (want_g rfl rfl (q58_22.a 11 rfl)) (fun hc => ex_lenB8 rfl rfl (ev (q58_22.a 24 rfl) hc)) rfl q58_22.z (by decide) (q58_22.k fun Yq q58_23 => ?_);clear q58_22;refine vl _ (.int .i64 ((((s.L.length : Int) + (s.A.length : Int)) + (s.M.length : Int)) + (s.B.length : Int))) (want_g rfl rfl (q58_23.a 11 rfl)) (fun hc => ex_bin rfl (ev (q58_23.a 22 rfl) hc) (ev (q58_23.a 25 rfl) hc) (addD8 _ _ (((s.L.length : Int) + (s.A.length : Int)) + (s.M.length : Int)) (s.B.length : Int) ((((s.L.length : Int) + (s.A.length : Int)) + (s.M.length : Int)) + (s.B.length : Int)) (by rw [IntKind.wrap_i64];omega) _)) rfl q58_23.z (by decide) (q58_23.k fun Yr q58_24 => ?_);clear q58_23;refine vl _ (.bool (decide (((((s.L.length : Int) + (s.A.length : Int)) + (s.M.length : Int)) + (s.B.length : Int)) = 0))) (want_g rfl rfl (q58_24.a 11 rfl)) (fun hc => ex_bin rfl (ev (q58_24.a 26 rfl) hc) rfl (eqlC _ _ _ _ _)) rfl q58_24.z (by decide) (q58_24.k fun Ys q58_25 => ?_);clear q58_24
 refine q58_25.t (.bool (((decide (s.view = 0)) && (decide (s.idle = 0))) && (decide (((((s.L.length : Int) + (s.A.length : Int)) + (s.M.length : Int)) + (s.B.length : Int)) = 0)))) (ex_and rfl (q58_25.a 11 rfl) (q58_25.a 27 rfl) rfl) fun _ q58_26 => ?_;clear q58_25
 refine q58_26.t _ (ex_move rfl (q58_26.e (j:=28) rfl)) fun _ q58_27 => ?_;clear q58_26
 refine vl _ (.pointer (some ⟨w.heap.size,6,none⟩)) (want_g rfl rfl (q58_27.a 29 rfl)) (fun hc => ex_fa rfl (q58_27.e (j:=1) rfl) (faS6 _ _)) rfl q58_27.z (by decide) (q58_27.k fun Yt q58_28 => ?_);clear q58_27;refine vl _ (.slice s.va s.V.length s.vc) (want_g rfl rfl (q58_28.a 29 rfl)) (fun hc => ex_ld rfl (ev (q58_28.a 30 rfl) hc) (ldV8 (cell8 (HS.cell 6 _ rfl) hv0))) rfl q58_28.z (by decide) (q58_28.k fun Yu q58_29 => ?_);clear q58_28;refine vl _ (.pointer (some ⟨w.heap.size,0,none⟩)) (want_g rfl rfl (q58_29.a 29 rfl)) (fun hc => ex_fa rfl (q58_29.e (j:=1) rfl) (faS0 _ _)) rfl q58_29.z (by decide) (q58_29.k fun Yv q58_30 => ?_);clear q58_29;refine vl _ (.int .i64 s.self) (want_g rfl rfl (q58_30.a 29 rfl)) (fun hc => ex_ld rfl (ev (q58_30.a 32 rfl) hc) (ldI8 (cell8 (HS.cell 0 _ rfl) hv0))) rfl q58_30.z (by decide) (q58_30.k fun Yw q58_31 => ?_);clear q58_30;refine vl _ (.pointer (some ⟨q,o + s.self.toNat * 2,none⟩)) (want_g rfl rfl (q58_31.a 29 rfl)) (fun hc => ex_ix rfl (ev (q58_31.a 31 rfl) hc) (ev (q58_31.a 33 rfl) hc) (hQ.1 _)) rfl q58_31.z (by decide) (q58_31.k fun Yx q58_32 => ?_);clear q58_31;refine vl _ (.agg #[.int .u64 (s.V.getD s.self.toNat (0,0)).1,.int .u64 (s.V.getD s.self.toNat (0,0)).2]) (want_g rfl rfl (q58_32.a 29 rfl)) (fun hc => ex_ld rfl (ev (q58_32.a 34 rfl) hc) (hQ.2 _ hv0)) rfl q58_32.z (by decide) (q58_32.k fun Yy q58_33 => ?_);clear q58_32;refine vl _ (.agg #[.int .u64 0,.int .u64 0]) (want_g rfl rfl (q58_33.a 29 rfl)) (fun hc => ex_build rfl (buildDr _)) rfl q58_33.z (by decide) (q58_33.k fun Yz q58_34 => ?_);clear q58_33;refine vl _ (.bool (!decide ((s.V.getD s.self.toNat (0,0)) = (0,0)))) (want_g rfl rfl (q58_34.a 29 rfl)) (fun hc => ex_bin rfl (ev (q58_34.a 35 rfl) hc) (ev (q58_34.a 36 rfl) hc) (neqDr7 _ _ (s.V.getD s.self.toNat (0,0)) (0,0) _)) rfl q58_34.z (by decide) (q58_34.k fun Y0 q58_35 => ?_);clear q58_34
 refine q58_35.t (.bool ((((decide (s.view = 0)) && (decide (s.idle = 0))) && (decide (((((s.L.length : Int) + (s.A.length : Int)) + (s.M.length : Int)) + (s.B.length : Int)) = 0))) && (!decide ((s.V.getD s.self.toNat (0,0)) = (0,0))))) (ex_and rfl (q58_35.a 29 rfl) (q58_35.a 37 rfl) rfl) fun _ q58_36 => ?_;clear q58_35
 refine q58_36.t _ (ex_assign rfl (q58_36.e (j:=38) rfl)) fun _ q58_37 => ?_;clear q58_36
 have hz:=q58_37.z;have s2:=q58_37.a 2 rfl;clear q58_37;refine wpList_nil ?_
 go_wp2
 refine bodyPost_ret (results_tmp rfl _ _ _) rfl ⟨?_,hB.trans (hv0.mono (by omega))⟩;rw [getD_of s2]
 rfl
set_option maxHeartbeats 1000000 in
theorem Ak.index_any (p : Ak → Bool) (g : Nat) (lb : Array Value) (eg : ∀ args w,(callFunc g args).run Tryz.prog w = .ok (.enter g args) w) (L : List Ak) (a : Option Addr) (n c : Nat) (w : World) (h : SlY yAkV w a n c L)
  (hp : ∀ (W : World) (x : Ak),Below w.heap.size w W → Calls Tryz.prog g (#[x.val] ++ lb) W fun e w' => e = .returned (.bool (p x))∧Below w.heap.size w w') :
  Calls Tryz.prog 237 #[.slice a n c,.func (.func g) #[] lb] w fun e w' => e = .returned (.int .i64 (ix p L))∧Below w.heap.size w w':=by
 have hmx:=h.max;have hcp:=h.cap;have hln:=h.len
 unfold maxLen at hmx
 have H:=hide h;have HN:=hide hln;have HP:=hide hp;clear h hln hp
 go_enter Tryz.func237,Tryz.ntmps237
 go_wp2
 go_loopw [8] (fun i wr => ∃ j : Nat,i = .int .i64 (j : Int)∧j ≤ n∧Hid (∀ k (hk : k < L.length),k < j → p L[k] = false)∧Below w.heap.size w wr) (fun i _ => n - (intOf i).toNat)
 case atStart => exact ⟨0,rfl,Nat.zero_le _,fun k hk h => absurd h (Nat.not_lt_zero _),Below.refl _ _⟩
 case round =>
  obtain ⟨j,rfl,hj,hA,hbl⟩:=hrel;have hsz:=hbl.size
  by_cases hlt : j < n
  ·have hjl : j < L.length:=by rw [HN.out];exact hlt
   have hg : L[j]? = some L[j]:=List.getElem?_eq_getElem hjl;obtain ⟨q,o,rfl,hq,y0,y1,y2,y3⟩:=(H.out.later hbl).AkV hg;have hcall:=HP.out wr L[j] hbl
   have hH : Hid (p L[j] = true → ix p L = (j : Int)):=fun hp => ix_hit hjl hp (fun k hk => hA.out k (by omega) hk)
   have hS : Hid (p L[j] = false → ∀ k (hk : k < L.length),k < j + 1 → p L[k] = false):=fun hp k hk hkj => by
    by_cases e : k = j
    ·subst e;exact hp
    ·exact hA.out k hk (by omega)
   clear hA hg
   generalize L[j] = x at *
   unfold Ak.val at hcall
   cases hq2 : p x with
   | true =>
    have hx:=hide (hH.out hq2);rw [hq2] at hcall;clear hH hS
    go_wp2_with (go_at_fn g;refine hcall.mono ?_;rintro e w' ⟨rfl,hb'⟩)
    go_ret
    exact ⟨by rw [hx.out];rfl,hb'⟩
   | false =>
    have hx:=hide (hS.out hq2);rw [hq2] at hcall;clear hH hS
    go_wp2_with (go_at_fn g;refine hcall.mono ?_;rintro e w' ⟨rfl,hb'⟩)
    go_round
    case rel => exact ⟨j + 1,by go_num,by omega,hx,hb'⟩
    case measure => simp [intOf];omega
  ·obtain rfl : j = n:=by omega
   have hx : Hid (ix p L = -1):=ix_miss (fun x hx => by
    obtain ⟨k,hk,rfl⟩:=List.mem_iff_getElem.1 hx
    exact hA.out k hk (by rw [← HN.out];exact hk))
   clear hA
   go_wp2
   go_ret
   exact ⟨by rw [hx.out];rfl,hbl⟩
theorem Ak.box (x : Ak) (w v : World) (hv : Below (w.heap.size + 1) (w.alloc (.cells #[.int .i64 x.n,.int .u64 x.h,.int .u64 x.l,.int .i64 x.p] 231)) v) : v.cell? ⟨w.heap.size,0,none⟩ = some (.int .i64 x.n)∧v.cell? ⟨w.heap.size,1,none⟩ = some (.int .u64 x.h)∧v.cell? ⟨w.heap.size,2,none⟩ = some (.int .u64 x.l)∧v.cell? ⟨w.heap.size,3,none⟩ = some (.int .i64 x.p) :=
 ⟨(hv.cell (p:=⟨w.heap.size,0,none⟩) (by simp)).trans (by simp),(hv.cell (p:=⟨w.heap.size,1,none⟩) (by simp)).trans (by simp),(hv.cell (p:=⟨w.heap.size,2,none⟩) (by simp)).trans (by simp),(hv.cell (p:=⟨w.heap.size,3,none⟩) (by simp)).trans (by simp)⟩
theorem Ak.ifdraw (x : Ak) (w : World) : (invoke (.fn (.method "amnesia/tally.draw") #[]) #[.iface 231 x.val]).run Tryz.prog w = .ok (.enter 289 #[x.val]) w := by kernel_rfl
theorem Ak.told_any (x : Ak) (w : World) : Calls Tryz.prog 178 #[x.val] w fun e w' => e = .returned x.val∧Below w.heap.size w w':=by
 show Calls Tryz.prog 178 #[.agg #[.int .i64 x.n,.int .u64 x.h,.int .u64 x.l,.int .i64 x.p]] w _
 go_enter Tryz.func178,Tryz.ntmps178
 go_wp2
 refine bodyPost_ret (v:=x.val) (by simp [results,Tryz.results178,go_sem,Ak.val]) rfl ?_
 exact ⟨rfl,by (repeat (first | exact Below.refl _ _ | assumption | refine Below.drew ?_ | refine Below.alloc ?_ (by first | (simp;done) | (simp;omega) | omega) _ | refine Below.setCell ?_ (by first | (simp;done) | (simp;omega) | omega) _))⟩
set_option maxHeartbeats 1000000 in
theorem Ak.tell_any (L : List Ak) (a : Option Addr) (n c : Nat) (w : World) (h : SlY yAkV w a n c L) (hb : n * 32 ≤ 281474976710656) :
  Calls Tryz.prog 174 #[.slice a n c,.func (.func 178) #[] #[]] w fun e w' => e = .returned (.slice (some ⟨w.heap.size,0,none⟩) n n)∧OwnY yAkA w.heap.size w' (.slice (some ⟨w.heap.size,0,none⟩) n n) L∧Below w.heap.size w w':=by
 have hmx:=h.max;have hcp:=h.cap;have hln:=h.len
 unfold maxLen at hmx
 have H:=hide h;have HN:=hide hln;clear h hln
 go_enter Tryz.func174,Tryz.ntmps174
 go_wp2_with (at_make;go_must (refine makeYs kAkA _ rfl (.tmp 9) rfl n rfl (by unfold maxLen;omega) hb ?zk))
 intro w1 o1 b1
 have HO : Hid (OwnY yAkA w.heap.size w1 (.slice (some ⟨w.heap.size,0,none⟩) n n) (L.take 0 ++ List.replicate (n - 0) yAkA.z)):=by
  show OwnY _ _ _ _ _
  simpa using o1
 clear o1
 go_wp2
 go_loopw [13] (fun i wr => ∃ j : Nat,i = .int .i64 (j : Int)∧j ≤ n∧Hid (OwnY yAkA w.heap.size wr (.slice (some ⟨w.heap.size,0,none⟩) n n) (L.take j ++ List.replicate (n - j) yAkA.z))∧Below w.heap.size w wr) (fun i _ => n - (intOf i).toNat)
 case atStart => exact ⟨0,rfl,Nat.zero_le _,HO,b1⟩
 case round =>
  obtain ⟨j,rfl,hj,hO,hbl⟩:=hrel;have hsz:=hbl.size
  by_cases hlt : j < n
  ·have hjl : j < L.length:=by rw [HN.out];exact hlt
   have hg : L[j]? = some L[j]:=List.getElem?_eq_getElem hjl;obtain ⟨q,o,rfl,hq,y0,y1,y2,y3⟩:=(H.out.later hbl).AkV hg
   have hlt0 : w.heap.size < wr.heap.size:=by
    obtain ⟨_,_,ee,_,_,_,h4⟩:=hO.out.form
    injection ee with ee
    obtain ⟨g',e2,_,h5⟩:=h4 _ ee.symm
    cases e2
    exact h5
   have hset : Hid ((L.take j ++ List.replicate (n - j) yAkA.z).set j L[j] = L.take (j + 1) ++ List.replicate (n - (j + 1)) yAkA.z):=by
    show _ = _
    have hl : (L.take j).length = j:=by rw [List.length_take];omega
    rw [List.set_append_right _ _ (by omega),hl,Nat.sub_self,show n - j = (n - (j + 1)) + 1 by omega,List.replicate_succ,List.set_cons_zero,List.take_add_one,hg];simp only [Option.toList_some,List.append_assoc,List.cons_append,List.nil_append]
   have hget : Hid ((L.take j ++ List.replicate (n - j) yAkA.z)[j]? = some yAkA.z):=by
    show _ = _
    have hl : (L.take j).length = j:=by rw [List.length_take];omega
    rw [List.getElem?_append_right (by omega),hl,Nat.sub_self,show n - j = (n - (j + 1)) + 1 by omega,List.replicate_succ]
    rfl
   clear hg
   generalize L[j] = x at *
   generalize hX : L.take j ++ List.replicate (n - j) yAkA.z = XX at *
   clear hX;have bA:=hide (hbl.trans (((Below.refl _ wr).alloc (Nat.le_refl _) (.cells #[.int .i64 x.n,.int .u64 x.h,.int .u64 x.l,.int .i64 x.p] 231)).mono hsz));have OA:=hide (hO.out.alloc (.cells #[.int .i64 x.n,.int .u64 x.h,.int .u64 x.l,.int .i64 x.p] 231));have ca:=hide (x.told_any (wr.alloc (.cells #[.int .i64 x.n,.int .u64 x.h,.int .u64 x.l,.int .i64 x.p] 231)));clear hO
   go_wp2_with fail
   refine ca.out.mono ?_;rintro e w2 ⟨rfl,b2⟩;have O2:=hide (OA.out.grow b2);have z2:=b2.size;rw [World.size_alloc] at z2
   dsimp only
   go_wp2_with (first
    | (refine storeY kAkA _ rfl 110 (.tmp 23) (.tmp 22) rfl w.heap.size w.heap.size n n XX j 0 yAkA.z x _ rfl rfl hget.out (by kernel_rfl) (by exact (by decide : 4 ≤ 4)) rfl O2.out ?_;intro w3 o3 u3 z3;have O3:=hide o3;clear o3)
    | go_in)
   go_round
   case rel =>
    refine ⟨j + 1,by go_num,by omega,by show OwnY _ _ _ _ _;rw [← hset.out];exact O3.out,bA.out.trans ((b2.mono (by simp;omega)).trans (u3.below (by omega) (fun k e => by subst e;exact Nat.le_refl _)))⟩
   case measure => simp [intOf];omega
  ·obtain rfl : j = n:=by omega
   have O9 : Hid (OwnY yAkA w.heap.size wr (.slice (some ⟨w.heap.size,0,none⟩) j j) L):=by
    show OwnY _ _ _ _ _
    have:=hO.out;rw [Nat.sub_self,List.replicate_zero,List.append_nil,List.take_of_length_le (by rw [HN.out];exact Nat.le_refl _)] at this
    exact this
   clear hO
   go_wp2
   go_ret
   exact ⟨rfl,O9.out,hbl⟩
end Go.Proofs.YtgncpcfncojgoaaGreatDoor
