import Derived.Test.YtpcgnjpodnebpaaGreatDoorG19
set_option maxRecDepth 100000
set_option linter.unusedVariables false
set_option linter.unusedSimpArgs false
set_option maxHeartbeats 8000000
namespace Go.Proofs.YtpcgnjpodnebpaaGreatDoor
open Go.RowKit Go.Maps Go.Shelf
open Classical
/-! Messages in a row. -/
def zMs9 : Ms9:=⟨⟨0,0,0,⟨0,0,⟨0,0,ByteArray.empty⟩⟩,(0,0,ByteArray.empty),0,0,0,(0,0)⟩,none,0,[],none,0,[]⟩
def yMs9 : Lay Ms9:=⟨54,34,18,192,Ms9.cs,zMs9⟩
theorem kMs9 : yMs9.Ok:=⟨by decide,fun x => rfl,fun x u h => by
  simp [yMs9,Ms9.cs,Mg.cs] at h
  rcases h with rfl | rfl | rfl | rfl | rfl | rfl | rfl | rfl | rfl | rfl | rfl | rfl | rfl | rfl | rfl | rfl | rfl | rfl <;> rfl,Tryz.underlying34,⟨.agg #[.int .i64 0,.int .i64 0,.int .i64 0,.int .i64 0,.int .i64 0,.int .i64 0,.int .i64 0,.string ByteArray.empty,.int .i64 0,.int .i64 0,.string ByteArray.empty,.int .i64 0,.int .i64 0,.int .i64 0,.int .u64 0,.int .u64 0,.slice none 0 0,.slice none 0 0],by kernel_rfl,rfl⟩⟩
theorem ixMs9 (q o n c j : Nat) (hj : j < n) (w : World) : (Instr.indexAt 34 (.slice (some ⟨q,o,none⟩) n c) (.int .i64 (j : Int))).run Tryz.prog w = .ok (.pointer (some ⟨q,o + j * 18,none⟩)) w:=by
 have h1 : (j : Int) < (n : Int):=by omega
 go_simp
theorem faMs0 (q o : Nat) (w : World) : (Instr.fieldAt 54 (.pointer (some ⟨q,o,none⟩)) 0).run Tryz.prog w = .ok (.pointer (some ⟨q,o,none⟩)) w:=by go_simp
theorem faMs1 (q o : Nat) (w : World) : (Instr.fieldAt 54 (.pointer (some ⟨q,o,none⟩)) 1).run Tryz.prog w = .ok (.pointer (some ⟨q,o + 1,none⟩)) w:=by go_simp
theorem faMs10 (q o : Nat) (w : World) : (Instr.fieldAt 54 (.pointer (some ⟨q,o,none⟩)) 10).run Tryz.prog w = .ok (.pointer (some ⟨q,o + 17,none⟩)) w:=by go_simp
theorem infoMs9 : (Tryz.prog.info? 54).map (·.size) = some 18:=by kernel_rfl
theorem ldMs9 {w : World} {q o : Nat} {l : List Ms9} (h : LieY yMs9 w q o l) {j : Nat} {x : Ms9} (hx : l[j]? = some x) : (Instr.loadAt 54 (.pointer (some ⟨q,o + j * 18,none⟩))).run Tryz.prog w = .ok x.val w :=
 run_loadAt_mid (P:=Tryz.prog) w q (o + j * 18) 54 x.cs _ (fun i u hu => h j x hx i u hu) Tryz.underlying54 rfl infoMs9
theorem ex_lenMs9 {o : Oper} {ρ : Operand → Value} {i : Nat} {a : Option Addr} {n k : Nat} {w : World} (ho : o.op = .call { callee:=.builtin .len,args:=#[.tmp i],argTypes:=#[34] }) (ht : o.type = 3) (hx : ρ (.tmp i) = .slice a n k) : (execOp ρ o).run Tryz.prog w = .ok (.value (.int .i64 (n : Int))) w:=by
 unfold execOp
 simp only [ho,resolve,invoke,builtin,Sem.run_bind,Sem.run_pure,Result.andThen_ok,LA,LB,LC,hx,ht]
 go_simp
theorem neqTs9 (x y : Operand) (a : Int) (w : World) : (do eqGuard .neq 24 x y (.int .i64 a) (.int .i64 a);binOp .neq 24 (.int .i64 a) (.int .i64 a) : Sem Value).run Tryz.prog w = .ok (.bool false) w:=by go_simp
theorem neqBs9 (x y : Operand) (a : Bool) (w : World) : (do eqGuard .neq 4 x y (.bool a) (.bool a);binOp .neq 4 (.bool a) (.bool a) : Sem Value).run Tryz.prog w = .ok (.bool false) w:=by
 cases a <;> go_simp
theorem ex_buildP9 {o : Oper} {ρ : Operand → Value} {s : TypeId} {ps : Array (Nat × Operand)} {P : Array (Nat × Value)} {V : Value} {w : World} (ho : o.op = .build s ps) (hp : ps.map (fun (i,x) => (i,ρ x)) = P) (hr : (Instr.build s P).run Tryz.prog w = .ok V w) : (execOp ρ o).run Tryz.prog w = .ok (.value V) w:=by
 unfold execOp
 simp only [ho]
 simp [hp,hr]
theorem Ad9.later9 {B : Nat} {c : Cg} {s t : Sta} {m : Ms9} {b : Bool} {w w' : World} (h : Ad9 B c s m t b w) (hb : Below w.heap.size w w') : Ad9 B c s m t b w':=by
 rcases h with h | ⟨h1,k,lo,h2⟩
 ·exact .inl h
 ·exact .inr ⟨h1,k.later8 hb,lo,h2⟩
theorem Ad9.low9 {B B' : Nat} {c : Cg} {s t : Sta} {m : Ms9} {b : Bool} {w : World} (h : Ad9 B c s m t b w) (hB : B' ≤ B) : Ad9 B' c s m t b w:=by
 rcases h with h | ⟨h1,k,lo,h2⟩
 ·exact .inl h
 ·exact .inr ⟨h1,k.low8 hB,lo.low hB,h2⟩
theorem Ad9.set9 {B q : Nat} {c : Cg} {s t : Sta} {m : Ms9} {b : Bool} {w w' : World} (h : Ad9 B c s m t b w) (u : Upd (fun k => k = q) w w') (hq : q < B) : Ad9 B c s m t b w':=by
 rcases h with h | ⟨h1,k,lo,h2⟩
 ·exact .inl h
 ·exact .inr ⟨h1,k.set8 u hq lo,lo,h2⟩
structure Nw9 (c : Cg) (s n : Sta) : Prop where
 fit : n.Fit
 ck : n.ckE c = 0
 self : n.self = s.self
 st : n.st = s.st
 view : n.view = s.view
 commit : n.commit = s.commit
 l : n.L = s.L
 len : n.V.length = s.V.length
 own : n.V.getD s.self.toNat (0,0) = s.V.getD s.self.toNat (0,0)
theorem Nw9.of {c : Cg} {s n : Sta} (h : s.Alike9 n) (hF : s.Fit) (hc : s.ckE c = 0) : Nw9 c s n :=
 ⟨h.fit hF,by rw [ckE_alike9 h];exact hc,h.self,h.st,h.view,h.commit,h.l,by rw [h.v],by rw [h.v]⟩
theorem Nw9.next {c : Cg} {s n t : Sta} {m : Ms9} (h : Nw9 c s n) (hm : adM9 c m = 0) (k : (prnS9 n (adV9 c n m)).Alike9 t) : Nw9 c s t:=by
 refine ⟨k.fit (prn_fit9 h.fit (adV_len9 c n m)),by rw [ckE_alike9 k];exact prn_ck9 h.ck hm,k.self.trans h.self,k.st.trans h.st,k.view.trans h.view,k.commit.trans h.commit,k.l.trans h.l,?_,?_⟩
 ·rw [k.v]
  show (adV9 c n m).length = _
  rw [adV_len9]
  exact h.len
 ·rw [k.v]
  show (adV9 c n m).getD s.self.toNat (0,0) = _
  have:=own9 h.ck hm;rw [h.self] at this;rw [this]
  exact h.own
theorem twice9 {c : Cg} {n t u : Sta} {m : Ms9} {b b2 : Bool} {B B2 : Nat} {w w2 : World} (hc : n.ckE c = 0) (hm : adM9 c m = 0) (k : (prnS9 n (adV9 c n m)).Alike9 t) (hb : b = adB9 c n m) (h : Ad9 B2 c t m u b2 w2) : adE9 c t m = 0∧b2 = b∧u.Alike9 t:=by
 have ht : t.ckE c = 0:=by rw [ckE_alike9 k];exact prn_ck9 hc hm
 obtain ⟨h1,h2⟩:=again9 (t:=t) hc hm k.self k.v
 have hE : adE9 c t m = 0:=by unfold adE9;rw [if_pos ht];exact hm
 rcases h with ⟨h9,_⟩ | ⟨_,k2,_,e⟩
 ·exact absurd hE h9
 ·have k3:=k2.prn9
  rw [h2,prn_self9 (ck_liv9 ht)] at k3
  exact ⟨hE,by rw [e,h1,hb],k3.symm⟩
theorem same9 {c : Cg} {n t : Sta} {m : Ms9} (hc : n.ckE c = 0) (k : (prnS9 n (adV9 c n m)).Alike9 t) (hb : adB9 c n m = false) : t.Alike9 n:=by
 rw [no9 hb,prn_self9 (ck_liv9 hc)] at k
 exact k.symm
theorem compareV9 (A B : List (Int × Int)) (a b : Option Addr) (c1 c2 : Nat) (w : World) (h1 : SlY yD w a A.length c1 A) (h2 : SlY yD w b B.length c2 B) (hl : A.length = B.length) (hle : ∀ k,k < A.length → ¬ 0 < cmpD (A.getD k (0,0)).1 (A.getD k (0,0)).2 (B.getD k (0,0)).1 (B.getD k (0,0)).2) (hn : A.length ≤ 7) :
  Calls Tryz.prog 12 #[.slice a A.length c1,.slice b B.length c2] w fun e w' => ∃ r : Int,(r = 1 ∨ r = 2)∧e = .returned (.int .i64 r)∧Below w.heap.size w w':=by
 go_enter Tryz.func12,Tryz.ntmps12
 go_upto_region 0 with fail
 refine WL ?_;refine vl_gen (fun T => Rp T 48 [(1,gw true (.slice b B.length c2)),(0,gw true (.slice a A.length c1))]) (((Rp.nil rfl).cons rfl).cons rfl) (fun Z0 q0 => ?_)
 refine q0.t (.int .i64 (0)) (ex_assign rfl rfl) fun _ q1 => ?_;clear q0
 refine WE ?_
 go_upto_region 1 with fail
 refine WL ?_
 refine q1.t _ (ex_move rfl (q1.f 0)) fun _ q2 => ?_;clear q1
 refine q2.t _ (ex_lenV8 rfl rfl (q2.f 10)) fun _ q3 => ?_;clear q2
 refine q3.t _ (ex_move rfl (q3.f 1)) fun _ q4 => ?_;clear q3
 refine q4.t _ (ex_lenV8 rfl rfl (q4.f 12)) fun _ q5 => ?_;clear q4
 refine q5.t (.bool false) (ex_bin rfl (q5.f 11) (q5.f 13) (by rw [neqC,hl,decide_eq_true rfl];rfl)) fun _ q6 => ?_;clear q5
 refine WE ?_
 go_upto_region 3 with fail
 refine wp_cond_false (q6.f 14) ?_
 go_upto_region 3 with fail
 refine WL ?_
 refine q6.t (.bool false) (ex_assign rfl rfl) fun _ q7 => ?_;clear q6
 refine q7.t (.bool false) (ex_assign rfl rfl) fun _ q8 => ?_;clear q7
 refine WE ?_
 go_upto_region 4 with fail
 refine WL ?_
 refine q8.t _ (ex_move rfl (q8.f 0)) fun _ q9 => ?_;clear q8
 refine q9.t _ (ex_lenV8 rfl rfl (q9.f 15)) fun _ q10 => ?_;clear q9
 refine q10.t (.int .i64 ((0 : Nat) : Int)) (ex_move rfl rfl) fun _ q11 => ?_;clear q10
 have q12:=(((((((Rp.nil q11.z).cons (q11.a 1 rfl)).cons (q11.a 5 rfl)).cons (q11.a 6 rfl)).cons (q11.a 15 rfl)).cons (q11.a 16 rfl)).cons (q11.a 17 rfl))
 clear q11;refine WE ?_
 go_upto_region 5 with fail
 refine v_loop 17 A.length (fun j T wr => ∃ bl : Bool,Rp T 48 [(17,gw true (.int .i64 ((j : Nat) : Int))),(16,gw true (.int .i64 ((A.length : Nat) : Int))),(15,gw true (.slice a A.length c1)),(6,gw true (.bool false)),(5,gw true (.bool bl)),(1,gw true (.slice b B.length c2))]∧Hid (Below w.heap.size w wr)) (fun j T w h => by obtain ⟨_,h,_⟩:=h;exact h.a 17 rfl) ⟨false,q12,BR⟩ ?_;clear q12;intro j T wr hj hh;obtain ⟨bl,Ya,HJ⟩:=hh;have d:=HJ.out;clear HJ;have zr:=d.size
 by_cases hit : j < A.length
 ·go_upto_region 5 with fail
  refine WL ?_
  refine Ya.t (.bool true) (ex_bin rfl (Ya.f 17) (Ya.f 16) (lssD8 _ _ _ _ true (decide_eq_true (by omega)) _)) fun _ Yb => ?_;clear Ya
  refine WE ?_
  go_upto_region 6 with fail
  refine wp_cond_true (Yb.f 18) ?_
  go_upto_region 6 with fail
  refine WL ?_;obtain ⟨qa,oa,hqa,hva⟩:=vec_at9 (h1.later d) (by omega);obtain ⟨ia,la⟩:=hva (j : Int) (by omega) (by omega);obtain ⟨qb,ob,hqb,hvb⟩:=vec_at9 (h2.later d) (by omega);obtain ⟨ib,lb⟩:=hvb (j : Int) (by omega) (by omega);rw [Int.toNat_natCast] at ia la ib lb;have hcm:=hle j hit
  refine Yb.t _ (ex_move rfl (Yb.f 17)) fun _ Yc => ?_;clear Yb
  refine Yc.t _ (ex_ix rfl (Yc.f 15) (Yc.f 17) (ia _)) fun _ Yd => ?_;clear Yc
  refine Yd.t _ (ex_ld rfl (Yd.f 20) (la _ BR)) fun _ Ye => ?_;clear Yd
  obtain ⟨w1,hw1⟩ : ∃ y,y = wr.alloc (.cells #[.int .u64 0,.int .u64 0] 52):=⟨_,rfl⟩
  refine vw (.pointer (some ⟨wr.heap.size,0,none⟩)) w1 WN (ex_al rfl (by rw [hw1];exact alD9 _)) rfl Ye.z (by decide) (Ye.k fun _ Yf => ?_);clear Ye
  have HD0 : DB9 w1 wr.heap.size (0,0):=by rw [hw1];exact BX7.new _ _ _
  have b1 : Below wr.heap.size wr w1:=by rw [hw1];exact BR.alloc LR _
  have y1 : w1.heap.size = wr.heap.size + 1:=by rw [hw1];exact World.size_alloc _ _
  clear hw1
  obtain ⟨w2,hw2⟩ : ∃ y,y = sets w1 wr.heap.size 0 (dcs9 (A.getD j (0,0))):=⟨_,rfl⟩
  refine Yf.t _ (ex_assign rfl (Yf.f 19)) fun _ Yg => ?_;clear Yf
  refine vs w2 WN (ex_st rfl (Yg.f 8) (Yg.f 21) (by rw [hw2];exact stD9 HD0 _)) rfl ?_
  have HD : DB9 w2 wr.heap.size (A.getD j (0,0)):=by rw [hw2];exact DB9.put HD0 _
  have u2 : Upd (fun k => k = wr.heap.size) w1 w2:=by rw [hw2];exact updD9 _ _ _
  clear hw2 HD0;have y2:=u2.size;have b2 : Below wr.heap.size wr w2:=b1.trans (u2.below (by omega) (fun k hk => by omega));clear b1 u2
  have Yh:=(((((((((Rp.nil Yg.z).cons (Yg.a 1 rfl)).cons (Yg.a 5 rfl)).cons (Yg.a 6 rfl)).cons (Yg.a 7 rfl)).cons (Yg.a 8 rfl)).cons (Yg.a 15 rfl)).cons (Yg.a 16 rfl)).cons (Yg.a 17 rfl))
  clear Yg;refine WE ?_
  go_upto_region 7 with fail
  refine vh_start (fun v => Below w2.heap.size w2 v) (by kernel_rfl) ?_;have hd3 : Below w2.heap.size w2 w2.drew:=BR.drew;have hz3 : w2.drew.heap.size = w2.heap.size:=rfl
  generalize w2.drew = d3 at *
  refine Yh.h 0 rfl _ (fun v hv => ex_ld rfl (Yh.f 8) (DB9.ld (HD.bel hv))) hd3 fun _ Yi => ?_;clear Yh
  refine Yi.h 1 rfl _ (fun v hv => ex_move rfl (Yi.f 1)) hd3 fun _ Yj => ?_;clear Yi
  refine Yj.h 2 rfl _ (fun v hv => ex_move rfl (Yj.f 7)) hd3 fun _ Yk => ?_;clear Yj
  refine Yk.h 3 rfl _ (fun v hv => ex_ix rfl (Yk.f 23) (Yk.f 24) (ib _)) hd3 fun _ Yl => ?_;clear Yk
  refine Yl.h 4 rfl _ (fun v hv => ex_ld rfl (Yl.f 25) (lb _ (b2.trans (hv.mono b2.size)))) hd3 fun _ Ym => ?_;clear Yl
  refine Ym.w 5 rfl (ex_call rfl (by simp only [LA,LB,LC,(Ym.f 22),(Ym.f 26),evc] <;> rfl) rfl) (compare_any (A.getD j (0,0)).1 (A.getD j (0,0)).2 (B.getD j (0,0)).1 (B.getD j (0,0)).2 d3) ?_;rintro e w4 ⟨rfl,b4⟩;have hd4 : Below w2.heap.size w2 w4:=hd3.trans (b4.mono (by omega));have z4:=hd4.size;have d4 : Below w.heap.size w w4:=(d.trans (b2.mono zr)).trans (hd4.mono (by omega));refine ⟨_,rfl,hd4,Ym.k fun _ Yn => ?_⟩;clear Ym
  refine Yn.h 6 rfl _ (fun v hv => ex_assign rfl (Yn.f 27)) hd4 fun _ Yo => ?_;clear Yn
  refine vh_done (by kernel_rfl) ?_
  have Yp:=((((((((Rp.nil Yo.z).cons (Yo.a 1 rfl)).cons (Yo.a 5 rfl)).cons (Yo.a 6 rfl)).cons (Yo.a 9 rfl)).cons (Yo.a 15 rfl)).cons (Yo.a 16 rfl)).cons (Yo.a 17 rfl))
  clear Yo
  go_upto_region 8 with fail
  refine WL ?_
  refine Yp.t _ (ex_move rfl (Yp.f 5)) fun _ Yq => ?_;clear Yp
  refine Yq.t _ (ex_move rfl (Yq.f 28)) fun _ Yr => ?_;clear Yq
  refine Yr.g 29 rfl rfl _ (fun hc => ex_move rfl (Yr.f 9)) fun _ Ys => ?_;clear Yr
  refine Ys.g 29 rfl rfl (.bool (decide (cmpD (A.getD j (0,0)).1 (A.getD j (0,0)).2 (B.getD j (0,0)).1 (B.getD j (0,0)).2 < 0))) (fun hc => ex_bin (Y:=.int .i64 (0)) rfl (Ys.v 30 hc) rfl (lssC _ _ _ _ _)) fun _ Yt => ?_;clear Ys
  refine Yt.t (.bool (bl || decide (cmpD (A.getD j (0,0)).1 (A.getD j (0,0)).2 (B.getD j (0,0)).1 (B.getD j (0,0)).2 < 0))) (ex_or (c:=true) (b:=bl) (z:=decide (cmpD (A.getD j (0,0)).1 (A.getD j (0,0)).2 (B.getD j (0,0)).1 (B.getD j (0,0)).2 < 0)) rfl (Yt.a 29 rfl) (Yt.a 31 rfl) rfl) fun _ Yu => ?_;clear Yt
  refine Yu.t _ (ex_assign rfl (Yu.f 32)) fun _ Yv => ?_;clear Yu
  refine WE ?_
  go_upto_region 9 with fail
  refine WL ?_
  refine Yv.t _ (ex_move rfl (Yv.f 6)) fun _ Yw => ?_;clear Yv
  refine Yw.t _ (ex_move rfl (Yw.f 33)) fun _ Yx => ?_;clear Yw
  refine Yx.g 34 rfl rfl _ (fun hc => ex_move rfl (Yx.f 9)) fun _ Yy => ?_;clear Yx
  refine Yy.g 34 rfl rfl (.bool false) (fun hc => ex_bin (Y:=.int .i64 (0)) rfl (Yy.v 35 hc) rfl (by rw [gtrC,decide_eq_false (by omega)])) fun _ Yz => ?_;clear Yy
  refine Yz.t (.bool false) (ex_or (c:=true) (b:=false) (z:=false) rfl (Yz.a 34 rfl) (Yz.a 36 rfl) rfl) fun _ Y0 => ?_;clear Yz
  refine Y0.t _ (ex_assign rfl (Y0.f 37)) fun _ Y1 => ?_;clear Y0
  refine WE ?_
  go_upto_region 10 with fail
  refine WL ?_
  refine Y1.t (.int .i64 ((j + 1 : Nat) : Int)) (ex_bin (Y:=.int .i64 (1)) rfl (Y1.f 17) rfl (addD8 _ _ _ _ _ (by rw [IntKind.wrap_i64];omega) _)) fun _ Y2 => ?_;clear Y1
  refine Y2.t _ (ex_move rfl (Y2.f 38)) fun _ Y3 => ?_;clear Y2
  have Y4:=(((((((Rp.nil Y3.z).cons (Y3.a 1 rfl)).cons (Y3.a 5 rfl)).cons (Y3.a 6 rfl)).cons (Y3.a 15 rfl)).cons (Y3.a 16 rfl)).cons (Y3.a 17 rfl))
  clear Y3;refine WE ?_
  exact ⟨_,rfl,hit,(bl || decide (cmpD (A.getD j (0,0)).1 (A.getD j (0,0)).2 (B.getD j (0,0)).1 (B.getD j (0,0)).2 < 0)),Y4,d4⟩
 ·obtain rfl : j = A.length:=by omega
  go_upto_region 5 with fail
  refine WL ?_
  refine Ya.t (.bool false) (ex_bin rfl (Ya.f 17) (Ya.f 16) (lssD8 _ _ _ _ false (decide_eq_false (by omega)) _)) fun _ Yb => ?_;clear Ya
  refine WE ?_
  go_upto_region 11 with fail
  refine wp_cond_false (Yb.f 18) ?_
  have Yc:=(((Rp.nil Yb.z).cons (Yb.a 5 rfl)).cons (Yb.a 6 rfl))
  clear Yb
  cases bl
  ·go_upto_region 11 with fail
   refine WL ?_
   refine Yc.t _ (ex_move rfl (Yc.f 5)) fun _ Yd => ?_;clear Yc
   refine Yd.t _ (ex_move rfl (Yd.f 40)) fun _ Ye => ?_;clear Yd
   refine Ye.g 41 rfl rfl _ (fun hc => ex_move rfl (Ye.f 6)) fun _ Yf => ?_;clear Ye
   refine Yf.t (.bool false) (ex_and (c:=true) (b:=false) (z:=false) rfl (Yf.a 41 rfl) (Yf.a 42 rfl) rfl) fun _ Yg => ?_;clear Yf
   refine Yg.t _ (ex_assign rfl (Yg.f 43)) fun _ Yh => ?_;clear Yg
   refine WE ?_
   go_upto_region 13 with fail
   refine wp_cond_false (Yh.f 39) ?_
   go_upto_region 13 with fail
   refine WL ?_
   refine Yh.t _ (ex_move rfl (Yh.f 5)) fun _ Yi => ?_;clear Yh
   refine Yi.t _ (ex_assign rfl (Yi.f 45)) fun _ Yj => ?_;clear Yi
   refine WE ?_
   go_upto_region 15 with fail
   refine wp_cond_false (Yj.f 44) ?_
   go_upto_region 15 with fail
   refine WL ?_
   refine Yj.t _ (ex_move rfl (Yj.f 6)) fun _ Yk => ?_;clear Yj
   refine Yk.t _ (ex_assign rfl (Yk.f 47)) fun _ Yl => ?_;clear Yk
   refine WE ?_
   go_upto_region 17 with fail
   refine wp_cond_false (Yl.f 46) ?_
   go_upto_region 17 with fail
   refine WL ?_
   refine Yl.t (.int .i64 (1)) (ex_assign rfl rfl) fun _ Ym => ?_;clear Yl
   refine WE ?_
   go_wp2
   refine bodyPost_ret (results_tmp rfl _ _ _) rfl ?_;rw [getD_of (Ym.a 4 rfl)]
   exact ⟨1,.inl rfl,rfl,d⟩
  ·go_upto_region 11 with fail
   refine WL ?_
   refine Yc.t _ (ex_move rfl (Yc.f 5)) fun _ Yd => ?_;clear Yc
   refine Yd.t _ (ex_move rfl (Yd.f 40)) fun _ Ye => ?_;clear Yd
   refine Ye.g 41 rfl rfl _ (fun hc => ex_move rfl (Ye.f 6)) fun _ Yf => ?_;clear Ye
   refine Yf.t (.bool false) (ex_and (c:=true) (b:=true) (z:=false) rfl (Yf.a 41 rfl) (Yf.a 42 rfl) rfl) fun _ Yg => ?_;clear Yf
   refine Yg.t _ (ex_assign rfl (Yg.f 43)) fun _ Yh => ?_;clear Yg
   refine WE ?_
   go_upto_region 13 with fail
   refine wp_cond_false (Yh.f 39) ?_
   go_upto_region 13 with fail
   refine WL ?_
   refine Yh.t _ (ex_move rfl (Yh.f 5)) fun _ Yi => ?_;clear Yh
   refine Yi.t _ (ex_assign rfl (Yi.f 45)) fun _ Yj => ?_;clear Yi
   refine WE ?_
   go_upto_region 14 with fail
   refine wp_cond_true (Yj.f 44) ?_
   go_upto_region 14 with fail
   refine WL ?_
   refine Yj.t (.int .i64 (2)) (ex_assign rfl rfl) fun _ Yk => ?_;clear Yj
   refine WE ?_
   go_wp2
   refine bodyPost_ret (results_tmp rfl _ _ _) rfl ?_;rw [getD_of (Yk.a 4 rfl)]
   exact ⟨2,.inr rfl,rfl,d⟩
theorem knows9 (c : Cg) (s : Sta) (L : List Ms9) (a2 : Option Addr) (c2 : Nat) (w : World) (hI : s.In w) (hF : s.Fit) (hb1 : ∀ x ∈ s.B,x.s.D.length * 48 ≤ 140737488351232) (hb2 : ∀ x ∈ s.N,x.s.D.length * 48 ≤ 140737488351232) (hML : SlY yMs9 w a2 L.length c2 L) (hMI : ∀ x ∈ L,x.In w) (hMF : ∀ x ∈ L,x.Fit) (hn : L.length * 192 ≤ 140737488351232) (hT : Tab w) :
  Calls Tryz.prog 3 #[c.val,s.val,.slice a2 L.length c2] w fun e w' => e = .returned (.bool true)∧Below w.heap.size w w':=by
 go_enter Tryz.func3,Tryz.ntmps3
 go_upto_region 0 with fail
 refine WL ?_;refine vl_gen (fun T => Rp T 229 [(2,gw true (.slice a2 L.length c2)),(1,gw true (s.val)),(0,gw true (c.val))]) ((((Rp.nil rfl).cons rfl).cons rfl).cons rfl) (fun Z0 q0 => ?_)
 obtain ⟨w1,hw1⟩ : ∃ y,y = w.alloc (.cells c.cs.toArray 23):=⟨_,rfl⟩
 refine vw (.pointer (some ⟨w.heap.size,0,none⟩)) w1 WN (ex_box8 rfl (q0.f 0) (by rw [hw1];exact bxC7 _ _)) rfl q0.z (by decide) (q0.k fun _ q1 => ?_);clear q0
 have HC : CB7 w1 w.heap.size c:=by rw [hw1];exact BX7.new _ _ _
 have bw1 : Below w.heap.size w w1:=by rw [hw1];exact BR.alloc LR _
 have yw1 : w1.heap.size = w.heap.size + 1:=by rw [hw1];exact World.size_alloc _ _
 clear hw1
 obtain ⟨w2,hw2⟩ : ∃ y,y = w1.alloc (.cells s.cs.toArray 33):=⟨_,rfl⟩
 refine vw (.pointer (some ⟨w1.heap.size,0,none⟩)) w2 WN (ex_box8 rfl (q1.f 1) (by rw [hw2];exact bxS7 _ _)) rfl q1.z (by decide) (q1.k fun _ q2 => ?_);clear q1
 have HS : SB7 w2 w1.heap.size s:=by rw [hw2];exact BX7.new _ _ _
 have bw2 : Below w1.heap.size w1 w2:=by rw [hw2];exact BR.alloc LR _
 have yw2 : w2.heap.size = w1.heap.size + 1:=by rw [hw2];exact World.size_alloc _ _
 clear hw2;replace HC:=HC.bel bw2;have d : Below w.heap.size w w2:=bw1.trans (bw2.mono (by omega));clear bw1 bw2
 refine q2.t (.bool false) (ex_assign rfl rfl) fun _ q3 => ?_;clear q2
 have q4:=(((((Rp.nil q3.z).cons (q3.a 2 rfl)).cons (q3.a 3 rfl)).cons (q3.a 4 rfl)).cons (q3.a 6 rfl))
 clear q3;refine WE ?_
 go_upto_region 1 with fail
 refine WL ?_;refine q4.c (ex_call (args:=#[]) rfl (by simp) rfl) (alive9 w2 (hT.later d hT.lt)) ?_;rintro e w3 ⟨rfl,b3⟩;refine ⟨_,rfl,q4.k fun _ q5 => ?_⟩;clear q4;replace HC:=HC.bel b3;replace HS:=HS.bel b3;replace d:=d.trans (b3.mono (by have:=d.size;omega));have zw3:=b3.size;clear b3
 refine q5.t (.bool false) (ex_not rfl (q5.f 20)) fun _ q6 => ?_;clear q5
 refine WE ?_
 go_upto_region 3 with fail
 refine wp_cond_false (q6.f 21) ?_
 go_upto_region 3 with fail
 refine WL ?_
 refine q6.t _ (ex_ld rfl (q6.f 3) (CB7.ld HC)) fun _ q7 => ?_;clear q6
 refine q7.t _ (ex_ld rfl (q7.f 4) (SB7.ld HS)) fun _ q8 => ?_;clear q7
 refine q8.c (ex_call rfl (by simp only [LA,LB,LC,(q8.f 22),(q8.f 23),evc] <;> rfl) rfl) (check8 c s w3 (hI.later d) hF) ?_;rintro e w4 ⟨rfl,b4⟩;refine ⟨_,rfl,q8.k fun _ q9 => ?_⟩;clear q8;replace HC:=HC.bel b4;replace HS:=HS.bel b4;replace d:=d.trans (b4.mono (by have:=d.size;omega));have zw4:=b4.size;clear b4;refine q9.c (ex_call rfl (by simp only [LA,LB,LC,(q9.f 24),evc] <;> rfl) rfl) (num9 (s.ckE c) w4) ?_;rintro e w5 ⟨rfl,b5⟩;refine ⟨_,rfl,q9.k fun _ q10 => ?_⟩;clear q9;replace HC:=HC.bel b5;replace HS:=HS.bel b5;replace d:=d.trans (b5.mono (by have:=d.size;omega));have zw5:=b5.size;clear b5
 refine q10.t (.bool (!decide (s.ckE c = 0))) (ex_bin (Y:=.int .i64 (0)) rfl (q10.f 25) rfl (neqC _ _ _ _ _)) fun _ q11 => ?_;clear q10
 have q12:=((((((Rp.nil q11.z).cons (q11.a 2 rfl)).cons (q11.a 3 rfl)).cons (q11.a 4 rfl)).cons (q11.a 6 rfl)).cons (q11.a 26 rfl))
 clear q11;refine WE ?_
 by_cases hck : s.ckE c = 0
 ·rw [decide_eq_true hck] at q12
  go_upto_region 5 with fail
  refine wp_cond_false (q12.f 26) ?_
  go_upto_region 5 with fail
  refine WL ?_
  refine q12.t _ (ex_ld rfl (q12.f 4) (SB7.ld HS)) fun _ q13 => ?_;clear q12
  refine q13.c (ex_call rfl (by simp only [LA,LB,LC,(q13.f 31),evc] <;> rfl) rfl) (copystate9 s w5 (hI.later d) hF hb1 hb2) ?_;rintro e w6 ⟨t0,rfl,hcp,hlo0,b6⟩;refine ⟨_,rfl,q13.k fun _ q14 => ?_⟩;clear q13;have nin:=hcp.inn;have nw : Nw9 c s t0:=Nw9.of hcp.alike hF hck;clear hcp hlo0;replace HC:=HC.bel b6;replace HS:=HS.bel b6;replace d:=d.trans (b6.mono (by have:=d.size;omega));have zw6:=b6.size;clear b6
  obtain ⟨w7,hw7⟩ : ∃ y,y = w6.alloc (.cells zS8.cs.toArray 33):=⟨_,rfl⟩
  refine vw (.pointer (some ⟨w6.heap.size,0,none⟩)) w7 WN (ex_al rfl (by rw [hw7];exact al12 _)) rfl q14.z (by decide) (q14.k fun _ q15 => ?_);clear q14
  have HQ0 : SB7 w7 w6.heap.size zS8:=by rw [hw7];exact BX7.new _ _ _
  have bq : Below w6.heap.size w6 w7:=by rw [hw7];exact BR.alloc LR _
  have yw7 : w7.heap.size = w6.heap.size + 1:=by rw [hw7];exact World.size_alloc _ _
  clear hw7
  obtain ⟨w8,hw8⟩ : ∃ y,y = sets w7 w6.heap.size 0 t0.cs:=⟨_,rfl⟩
  refine vs w8 WN (ex_st rfl (q15.f 7) (q15.f 32) (by rw [hw8];exact st12 HQ0 t0)) rfl ?_
  have HN : SB7 w8 w6.heap.size t0:=by rw [hw8];exact SB7.put HQ0 t0
  have uq : Upd (fun k => k = w6.heap.size) w7 w8:=by rw [hw8];exact upd12 _ _ _
  clear hw8 HQ0;have yw8:=uq.size;have bw8 : Below w6.heap.size w6 w8:=bq.trans (uq.below (by omega) (fun k hk => by omega));clear bq uq;replace nin:=nin.later bw8;replace HC:=HC.bel bw8;replace HS:=HS.bel bw8;replace d:=d.trans (bw8.mono (by have:=d.size;omega));have zw8:=bw8.size;clear bw8
  have q16:=(((((Rp.nil q15.z).cons (q15.a 2 rfl)).cons (q15.a 3 rfl)).cons (q15.a 4 rfl)).cons (q15.a 7 rfl))
  clear q15;refine WE ?_
  go_upto_region 6 with fail
  refine WL ?_
  refine q16.t (.int .i64 ((0 : Nat) : Int)) (ex_assign rfl rfl) fun _ q17 => ?_;clear q16
  refine WE ?_
  go_upto_region 7 with fail
  refine v_loop 8 L.length (fun j T wr => ∃ n : Sta,Rp T 229 [(8,gw true (.int .i64 ((j : Nat) : Int))),(7,gw true (.pointer (some ⟨w6.heap.size,0,none⟩))),(4,gw true (.pointer (some ⟨w1.heap.size,0,none⟩))),(3,gw true (.pointer (some ⟨w.heap.size,0,none⟩))),(2,gw true (.slice a2 L.length c2))]∧Hid (SB7 wr w6.heap.size n∧n.In wr∧Nw9 c s n∧CB7 wr w.heap.size c∧SB7 wr w1.heap.size s∧Below w.heap.size w wr∧w6.heap.size < wr.heap.size)) (fun j T w h => by obtain ⟨_,h,_⟩:=h;exact h.a 8 rfl) ⟨t0,q17,HN,nin,nw,HC,HS,d,HN.lt⟩ ?_;clear q17 HN nin nw HC HS d;intro j T wr hj hh;obtain ⟨n,Ya,HJ⟩:=hh;obtain ⟨HN,nin,nw,HC,HS,d,l7⟩:=HJ.out;clear HJ;have zwr:=d.size
  by_cases hit : j < L.length
  ·obtain ⟨m,hm⟩ : ∃ m,L[j]? = some m:=⟨_,List.getElem?_eq_getElem (by omega)⟩
   have hE : adE9 c n m = adM9 c m:=if_pos nw.ck
   go_upto_region 7 with fail
   refine WL ?_
   refine Ya.t _ (ex_move rfl (Ya.f 8)) fun _ Yb => ?_;clear Ya
   refine Yb.t _ (ex_move rfl (Yb.f 2)) fun _ Yc => ?_;clear Yb
   refine Yc.t _ (ex_lenMs9 rfl rfl (Yc.f 34)) fun _ Yd => ?_;clear Yc
   refine Yd.t (.bool true) (ex_bin rfl (Yd.f 33) (Yd.f 35) (lssD8 _ _ _ _ true (decide_eq_true (by omega)) _)) fun _ Ye => ?_;clear Yd
   refine WE ?_
   go_upto_region 9 with fail
   refine wp_cond_true (Ye.f 36) ?_;obtain ⟨qm,om,hqm,hmal,hml0⟩:=hML.place (by rintro rfl;simp at hm);have hml : LieY yMs9 wr qm om L:=hml0.upd (S:=fun _ => False) (Upd.of_below d) hmal id;clear hml0
   have Yf:=((((((Rp.nil Ye.z).cons (Ye.a 2 rfl)).cons (Ye.a 3 rfl)).cons (Ye.a 4 rfl)).cons (Ye.a 7 rfl)).cons (Ye.a 8 rfl))
   clear Ye
   go_upto_region 9 with fail
   refine v_cut9 (fun T v => ∃ (q9 : Nat) (t : Sta) (b : Bool),Rp T 229 [(11,gw true (.int .i64 (adE9 c n m))),(10,gw true (.bool b)),(9,gw true (.pointer (some ⟨q9,0,none⟩))),(8,gw true (.int .i64 ((j : Nat) : Int))),(7,gw true (.pointer (some ⟨w6.heap.size,0,none⟩))),(4,gw true (.pointer (some ⟨w1.heap.size,0,none⟩))),(3,gw true (.pointer (some ⟨w.heap.size,0,none⟩))),(2,gw true (.slice a2 L.length c2))]∧Hid (SB7 v q9 t∧Ad9 wr.heap.size c n m t b v∧t.In v∧Below wr.heap.size wr v∧wr.heap.size ≤ q9∧q9 < v.heap.size)) ?_ ?_
   ·refine vh_start (fun v => Below wr.heap.size wr v) (by kernel_rfl) ?_
    have hd1 : Below wr.heap.size wr wr.drew:=BR.drew;have hz1 : wr.drew.heap.size = wr.heap.size:=rfl
    generalize wr.drew = d1 at *
    have dd:=d.trans (hd1.mono d.size);have hqW : qm < wr.heap.size:=Nat.lt_of_lt_of_le hmal d.size
    refine Yf.h 0 rfl _ (fun v hv => ex_ld rfl (Yf.f 3) (CB7.ld (HC.bel hv))) hd1 fun _ Yg => ?_;clear Yf
    refine Yg.h 1 rfl _ (fun v hv => ex_ld rfl (Yg.f 7) (SB7.ld (HN.bel hv))) hd1 fun _ Yh => ?_;clear Yg
    refine Yh.h 2 rfl _ (fun v hv => ex_move rfl (Yh.f 2)) hd1 fun _ Yi => ?_;clear Yh
    refine Yi.h 3 rfl _ (fun v hv => ex_move rfl (Yi.f 8)) hd1 fun _ Yj => ?_;clear Yi
    refine Yj.h 4 rfl _ (fun v hv => ex_ix rfl (Yj.f 42) (Yj.f 43) (by rw [hqm];exact ixMs9 qm om L.length c2 j (by omega) _)) hd1 fun _ Yk => ?_;clear Yj
    refine Yk.h 5 rfl _ (fun v hv => ex_ld rfl (Yk.f 44) (ldMs9 (hml.upd (S:=fun _ => False) (Upd.of_below hv) hqW id) hm)) hd1 fun _ Yl => ?_;clear Yk
    obtain ⟨wal,hwal⟩ : ∃ y,y = d1.alloc (.cells zS8.cs.toArray 33):=⟨_,rfl⟩
    have Hal : SB7 wal d1.heap.size zS8:=by rw [hwal];exact BX7.new _ _ _
    have bal : Below d1.heap.size d1 wal:=by rw [hwal];exact BR.alloc LR _
    have yal : wal.heap.size = d1.heap.size + 1:=by rw [hwal];exact World.size_alloc _ _
    have hSal : Below wr.heap.size wr wal:=hd1.trans (bal.mono (by omega));have dal:=dd.trans (bal.mono dd.size);refine vh_two9 6 11 (by kernel_rfl) rfl rfl WN (ex_call rfl (by simp only [LA,LB,LC,(Yl.f 40),(Yl.f 41),(Yl.f 45),evc] <;> rfl) rfl) (admit9 c n m d1 (nin.later hd1) nw.fit (((hMI m (List.mem_of_getElem? hm)).later d).later hd1) (hMF m (List.mem_of_getElem? hm)) (hT.later dd hT.lt)) rfl Yl.z (by decide) ?_ (.pointer (some ⟨d1.heap.size,0,none⟩)) wal WN (ex_al rfl (by rw [hwal];exact al12 _)) rfl (by decide) hSal ?_
    ·rintro e w6 ⟨t,b,rfl,tin0,had0,b6⟩
     have hS6 : Below wr.heap.size wr w6:=hd1.trans (b6.mono (by omega));have z6:=b6.size;refine ⟨_,rfl,hS6,Yl.k fun _ Ym => ?_⟩;clear Yl
     refine Ym.h 7 rfl _ (fun v hv => ex_move rfl (Ym.f 46)) hS6 fun _ Yn => ?_;clear Ym
     refine Yn.h 8 rfl _ (fun v hv => ex_ext8 rfl (Yn.f 39) rfl) hS6 fun _ Yo => ?_;clear Yn
     refine Yo.h 9 rfl _ (fun v hv => ex_ext8 rfl (Yo.f 39) rfl) hS6 fun _ Yp => ?_;clear Yo
     refine Yp.h 10 rfl _ (fun v hv => ex_ext8 rfl (Yp.f 39) rfl) hS6 fun _ Yq => ?_;clear Yp
     obtain ⟨w7,hw7⟩ : ∃ y,y = w6.alloc (.cells zS8.cs.toArray 33):=⟨_,rfl⟩
     have HQ0 : SB7 w7 w6.heap.size zS8:=by rw [hw7];exact BX7.new _ _ _
     have b7 : Below w6.heap.size w6 w7:=by rw [hw7];exact BR.alloc LR _
     have y7 : w7.heap.size = w6.heap.size + 1:=by rw [hw7];exact World.size_alloc _ _
     have hS7 : Below wr.heap.size wr w7:=hS6.trans (b7.mono (by omega));refine vh_val8 11 (.pointer (some ⟨w6.heap.size,0,none⟩)) w7 rfl (by kernel_rfl) WN (ex_al rfl (by rw [hw7];exact al12 _)) rfl Yq.z (by decide) hS7 (Yq.k fun _ Yr => ?_);clear Yq
     obtain ⟨w8,hw8⟩ : ∃ y,y = sets w7 w6.heap.size 0 t.cs:=⟨_,rfl⟩
     have HQ : SB7 w8 w6.heap.size t:=by rw [hw8];exact SB7.put HQ0 t
     have u8 : Upd (fun k => k = w6.heap.size) w7 w8:=by rw [hw8];exact upd12 _ _ _
     have y8:=u8.size;have b8 : Below w6.heap.size w6 w8:=b7.trans (u8.below (by omega) (fun k hk => by omega));have hS8 : Below wr.heap.size wr w8:=hS6.trans (b8.mono (by omega));have hadz:=(had0.later9 b8).low9 (show wr.heap.size ≤ d1.heap.size by omega);have tinz:=tin0.later b8;refine vh_store8 12 w8 rfl (by kernel_rfl) WN (ex_st rfl (Yr.f 9) (Yr.f 47) (by rw [hw8];exact st12 HQ0 t)) rfl hS8 ?_
     refine Yr.h 13 rfl _ (fun v hv => ex_assign rfl (Yr.f 48)) hS8 fun _ Ys => ?_;clear Yr
     refine Ys.h 14 rfl _ (fun v hv => ex_assign rfl (Ys.f 49)) hS8 fun _ Yt => ?_;clear Ys
     refine vh_done (by kernel_rfl) ?_
     have Yu:=(((((((((Rp.nil Yt.z).cons (Yt.a 2 rfl)).cons (Yt.a 3 rfl)).cons (Yt.a 4 rfl)).cons (Yt.a 7 rfl)).cons (Yt.a 8 rfl)).cons (Yt.a 9 rfl)).cons (Yt.a 10 rfl)).cons (Yt.a 11 rfl))
     clear Yt
     exact ⟨_,rfl,w6.heap.size,t,b,Yu,HQ,hadz,tinz,hS8,by omega,HQ.lt⟩
    ·refine Yl.k fun _ Ym => ?_;clear Yl
     refine Ym.w 6 rfl (ex_call rfl (by simp only [LA,LB,LC,(Ym.f 40),(Ym.f 41),(Ym.f 45),evc] <;> rfl) rfl) (admit9 c n m wal (nin.later hSal) nw.fit (((hMI m (List.mem_of_getElem? hm)).later d).later hSal) (hMF m (List.mem_of_getElem? hm)) (hT.later dal hT.lt)) ?_;rintro e w6 ⟨t,b,rfl,tin0,had0,b6⟩;have hS6 : Below wr.heap.size wr w6:=hSal.trans (b6.mono (by omega));have z6:=b6.size;refine ⟨_,rfl,hS6,Ym.k fun _ Yn => ?_⟩;clear Ym
     refine Yn.h 7 rfl _ (fun v hv => ex_move rfl (Yn.f 46)) hS6 fun _ Yo => ?_;clear Yn
     refine Yo.h 8 rfl _ (fun v hv => ex_ext8 rfl (Yo.f 39) rfl) hS6 fun _ Yp => ?_;clear Yo
     refine Yp.h 9 rfl _ (fun v hv => ex_ext8 rfl (Yp.f 39) rfl) hS6 fun _ Yq => ?_;clear Yp
     refine Yq.h 10 rfl _ (fun v hv => ex_ext8 rfl (Yq.f 39) rfl) hS6 fun _ Yr => ?_;clear Yq
     have HQ0:=Hal.bel b6
     obtain ⟨w8,hw8⟩ : ∃ y,y = sets w6 d1.heap.size 0 t.cs:=⟨_,rfl⟩
     have HQ : SB7 w8 d1.heap.size t:=by rw [hw8];exact SB7.put HQ0 t
     have u8 : Upd (fun k => k = d1.heap.size) w6 w8:=by rw [hw8];exact upd12 _ _ _
     have y8:=u8.size;have hS8 : Below wr.heap.size wr w8:=hS6.trans (u8.below (by omega) (fun k hk => by omega));have tinz:=had0.in9 tin0 u8 (by omega);have hadz:=(had0.set9 u8 (by omega)).low9 (show wr.heap.size ≤ wal.heap.size by omega);refine vh_store8 12 w8 rfl (by kernel_rfl) WN (ex_st rfl (Yr.f 9) (Yr.f 47) (by rw [hw8];exact st12 HQ0 t)) rfl hS8 ?_
     refine Yr.h 13 rfl _ (fun v hv => ex_assign rfl (Yr.f 48)) hS8 fun _ Ys => ?_;clear Yr
     refine Ys.h 14 rfl _ (fun v hv => ex_assign rfl (Ys.f 49)) hS8 fun _ Yt => ?_;clear Ys
     refine vh_done (by kernel_rfl) ?_
     have Yu:=(((((((((Rp.nil Yt.z).cons (Yt.a 2 rfl)).cons (Yt.a 3 rfl)).cons (Yt.a 4 rfl)).cons (Yt.a 7 rfl)).cons (Yt.a 8 rfl)).cons (Yt.a 9 rfl)).cons (Yt.a 10 rfl)).cons (Yt.a 11 rfl))
     clear Yt
     exact ⟨_,rfl,d1.heap.size,t,b,Yu,HQ,hadz,tinz,hS8,by omega,HQ.lt⟩
   ·rintro T wa ⟨q9,t,b,Yv,HJ⟩
    obtain ⟨HT,had,tin,ba,l9,l9b⟩:=HJ.out;clear HJ;replace HC:=HC.bel ba;replace HS:=HS.bel ba;replace HN:=HN.bel ba;replace nin:=nin.later ba;replace d:=d.trans (ba.mono (by have:=d.size;omega));have zwa:=ba.size;replace hml : LieY yMs9 wa qm om L:=hml.upd (S:=fun _ => False) (Upd.of_below ba) (Nat.lt_of_lt_of_le hmal zwr) id;clear ba
    go_upto_region 10 with fail
    refine WL ?_
    refine Yv.t _ (ex_move rfl (Yv.f 11)) fun _ Yw => ?_;clear Yv
    refine Yw.c (ex_call rfl (by simp only [LA,LB,LC,(Yw.f 50),evc] <;> rfl) rfl) (num9 (adE9 c n m) wa) ?_;rintro e wb ⟨rfl,bb⟩;refine ⟨_,rfl,Yw.k fun _ Yx => ?_⟩;clear Yw;replace HC:=HC.bel bb;replace HS:=HS.bel bb;replace HN:=HN.bel bb;replace nin:=nin.later bb;replace HT:=HT.bel bb;replace tin:=tin.later bb;replace had:=had.later9 bb;replace d:=d.trans (bb.mono (by have:=d.size;omega));have zwb:=bb.size;replace hml : LieY yMs9 wb qm om L:=hml.upd (S:=fun _ => False) (Upd.of_below bb) (by have:=Nat.lt_of_lt_of_le hmal zwr;omega) id;clear bb
    refine Yx.t (.bool (!decide (adE9 c n m = 0))) (ex_bin (Y:=.int .i64 (0)) rfl (Yx.f 51) rfl (neqC _ _ _ _ _)) fun _ Yy => ?_;clear Yx
    have Yz:=((((((((((Rp.nil Yy.z).cons (Yy.a 2 rfl)).cons (Yy.a 3 rfl)).cons (Yy.a 4 rfl)).cons (Yy.a 7 rfl)).cons (Yy.a 8 rfl)).cons (Yy.a 9 rfl)).cons (Yy.a 10 rfl)).cons (Yy.a 11 rfl)).cons (Yy.a 52 rfl))
    clear Yy;refine WE ?_
    by_cases hae : adE9 c n m = 0
    ·rw [decide_eq_true hae] at Yz
     have hm0 : adM9 c m = 0:=hE.symm.trans hae
     have hk : (prnS9 n (adV9 c n m)).Alike9 t:=by
      rcases had with ⟨h9,_⟩ | ⟨_,h9,_⟩
      ·exact absurd hae h9
      ·exact h9.prn9
     have hb : b = adB9 c n m:=by
      rcases had with ⟨h9,_⟩ | ⟨_,_,_,h9⟩
      ·exact absurd hae h9
      ·exact h9
     have nt : Nw9 c s t:=nw.next hm0 hk;have hVt : t.V = adV9 c n m:=hk.v
     go_upto_region 13 with fail
     refine wp_cond_false (Yz.f 52) ?_
     have Y0:=((((((((Rp.nil Yz.z).cons (Yz.a 2 rfl)).cons (Yz.a 3 rfl)).cons (Yz.a 4 rfl)).cons (Yz.a 7 rfl)).cons (Yz.a 8 rfl)).cons (Yz.a 9 rfl)).cons (Yz.a 10 rfl))
     clear Yz
     go_upto_region 13 with fail
     refine v_cut9 (fun T v => Rp T 229 [(67,gw true (.bool false)),(10,gw true (.bool b)),(9,gw true (.pointer (some ⟨q9,0,none⟩))),(8,gw true (.int .i64 ((j : Nat) : Int))),(7,gw true (.pointer (some ⟨w6.heap.size,0,none⟩))),(4,gw true (.pointer (some ⟨w1.heap.size,0,none⟩))),(3,gw true (.pointer (some ⟨w.heap.size,0,none⟩))),(2,gw true (.slice a2 L.length c2))]∧Hid (Below wb.heap.size wb v)) ?_ ?_
     ·cases hbb : b
      ·rw [hbb] at Y0
       refine WL ?_
       refine Y0.t _ (ex_move rfl (Y0.f 10)) fun _ Y1 => ?_;clear Y0
       refine Y1.t (.bool true) (ex_not rfl (Y1.f 60)) fun _ Y2 => ?_;clear Y1
       refine Y2.t _ (ex_move rfl (Y2.f 61)) fun _ Y3 => ?_;clear Y2
       refine Y3.g 62 rfl rfl _ (fun hc => ex_ld rfl (Y3.f 9) (SB7.ld HT)) fun _ Y4 => ?_;clear Y3
       refine Y4.g 62 rfl rfl _ (fun hc => ex_ld rfl (Y4.f 7) (SB7.ld HN)) fun _ Y5 => ?_;clear Y4
       refine vcallP (show Region.wanted _ _ = (true && (true == true)) from want_g rfl rfl (Y5.a 62 rfl)) (ex_call rfl (by simp only [LA,LB,LC,(Y5.v 63 rfl),(Y5.v 64 rfl),evc] <;> rfl) rfl) (samestate9 t n wb tin nin (same9 nw.ck hk (hb.symm.trans hbb))) rfl Y5.z (by decide) ?_;rintro e wc ⟨rfl,bc⟩;refine ⟨_,rfl,Y5.k fun _ Y6 => ?_⟩;clear Y5
       refine Y6.g 62 rfl rfl (.bool false) (fun hc => ex_not rfl (Y6.v 65 hc)) fun _ Y7 => ?_;clear Y6
       refine Y7.t (.bool false) (ex_and (c:=true) (b:=true) (z:=false) rfl (Y7.a 62 rfl) (Y7.a 66 rfl) rfl) fun _ Y8 => ?_;clear Y7
       have Y9:=(((((((((Rp.nil Y8.z).cons (Y8.a 2 rfl)).cons (Y8.a 3 rfl)).cons (Y8.a 4 rfl)).cons (Y8.a 7 rfl)).cons (Y8.a 8 rfl)).cons (Y8.a 9 rfl)).cons (Y8.a 10 rfl)).cons (Y8.a 67 rfl))
       clear Y8;refine WE ?_
       exact ⟨_,rfl,Y9,bc⟩
      ·rw [hbb] at Y0
       refine WL ?_
       refine Y0.t _ (ex_move rfl (Y0.f 10)) fun _ Y1 => ?_;clear Y0
       refine Y1.t (.bool false) (ex_not rfl (Y1.f 60)) fun _ Y2 => ?_;clear Y1
       refine Y2.t _ (ex_move rfl (Y2.f 61)) fun _ Y3 => ?_;clear Y2
       refine Y3.g 62 rfl rfl (undef) (fun hc => absurd hc (by decide)) fun _ Y4 => ?_;clear Y3
       refine Y4.g 62 rfl rfl (undef) (fun hc => absurd hc (by decide)) fun _ Y5 => ?_;clear Y4
       refine Y5.g 62 rfl rfl (undef) (fun hc => absurd hc (by decide)) fun _ Y6 => ?_;clear Y5
       refine Y6.g 62 rfl rfl (.bool false) (fun hc => absurd hc (by decide)) fun _ Y7 => ?_;clear Y6
       refine Y7.t (.bool false) (ex_and (c:=true) (b:=false) (z:=false) rfl (Y7.a 62 rfl) (Y7.a 66 rfl) rfl) fun _ Y8 => ?_;clear Y7
       have Y9:=(((((((((Rp.nil Y8.z).cons (Y8.a 2 rfl)).cons (Y8.a 3 rfl)).cons (Y8.a 4 rfl)).cons (Y8.a 7 rfl)).cons (Y8.a 8 rfl)).cons (Y8.a 9 rfl)).cons (Y8.a 10 rfl)).cons (Y8.a 67 rfl))
       clear Y8;refine WE ?_
       exact ⟨_,rfl,Y9,BR⟩
     ·rintro T wc ⟨Yba,HJ⟩
      have bc:=HJ.out;clear HJ;replace HC:=HC.bel bc;replace HS:=HS.bel bc;replace HN:=HN.bel bc;replace nin:=nin.later bc;replace HT:=HT.bel bc;replace tin:=tin.later bc;replace had:=had.later9 bc;replace d:=d.trans (bc.mono (by have:=d.size;omega));have zwc:=bc.size;replace hml : LieY yMs9 wc qm om L:=hml.upd (S:=fun _ => False) (Upd.of_below bc) (by have:=Nat.lt_of_lt_of_le hmal zwr;omega) id;clear bc
      go_upto_region 15 with fail
      refine wp_cond_false (Yba.f 67) ?_
      have Ybb:=((((((((Rp.nil Yba.z).cons (Yba.a 2 rfl)).cons (Yba.a 3 rfl)).cons (Yba.a 4 rfl)).cons (Yba.a 7 rfl)).cons (Yba.a 8 rfl)).cons (Yba.a 9 rfl)).cons (Yba.a 10 rfl))
      clear Yba
      go_upto_region 15 with fail
      refine v_cut9 (fun T v => ∃ (q12 : Nat) (u : Sta) (b2 : Bool),Rp T 229 [(14,gw true (.int .i64 (adE9 c t m))),(13,gw true (.bool b2)),(12,gw true (.pointer (some ⟨q12,0,none⟩))),(10,gw true (.bool b)),(9,gw true (.pointer (some ⟨q9,0,none⟩))),(8,gw true (.int .i64 ((j : Nat) : Int))),(7,gw true (.pointer (some ⟨w6.heap.size,0,none⟩))),(4,gw true (.pointer (some ⟨w1.heap.size,0,none⟩))),(3,gw true (.pointer (some ⟨w.heap.size,0,none⟩))),(2,gw true (.slice a2 L.length c2))]∧Hid (SB7 v q12 u∧Ad9 wc.heap.size c t m u b2 v∧u.In v∧Below wc.heap.size wc v∧wc.heap.size ≤ q12∧q12 < v.heap.size)) ?_ ?_
      ·refine vh_start (fun v => Below wc.heap.size wc v) (by kernel_rfl) ?_
       have hd1 : Below wc.heap.size wc wc.drew:=BR.drew;have hz1 : wc.drew.heap.size = wc.heap.size:=rfl
       generalize wc.drew = d1 at *
       have dd:=d.trans (hd1.mono d.size);have hqW : qm < wc.heap.size:=Nat.lt_of_lt_of_le hmal d.size
       refine Ybb.h 0 rfl _ (fun v hv => ex_ld rfl (Ybb.f 3) (CB7.ld (HC.bel hv))) hd1 fun _ Ybc => ?_;clear Ybb
       refine Ybc.h 1 rfl _ (fun v hv => ex_ld rfl (Ybc.f 9) (SB7.ld (HT.bel hv))) hd1 fun _ Ybd => ?_;clear Ybc
       refine Ybd.h 2 rfl _ (fun v hv => ex_move rfl (Ybd.f 2)) hd1 fun _ Ybe => ?_;clear Ybd
       refine Ybe.h 3 rfl _ (fun v hv => ex_move rfl (Ybe.f 8)) hd1 fun _ Ybf => ?_;clear Ybe
       refine Ybf.h 4 rfl _ (fun v hv => ex_ix rfl (Ybf.f 71) (Ybf.f 72) (by rw [hqm];exact ixMs9 qm om L.length c2 j (by omega) _)) hd1 fun _ Ybg => ?_;clear Ybf
       refine Ybg.h 5 rfl _ (fun v hv => ex_ld rfl (Ybg.f 73) (ldMs9 (hml.upd (S:=fun _ => False) (Upd.of_below hv) hqW id) hm)) hd1 fun _ Ybh => ?_;clear Ybg
       obtain ⟨wal,hwal⟩ : ∃ y,y = d1.alloc (.cells zS8.cs.toArray 33):=⟨_,rfl⟩
       have Hal : SB7 wal d1.heap.size zS8:=by rw [hwal];exact BX7.new _ _ _
       have bal : Below d1.heap.size d1 wal:=by rw [hwal];exact BR.alloc LR _
       have yal : wal.heap.size = d1.heap.size + 1:=by rw [hwal];exact World.size_alloc _ _
       have hSal : Below wc.heap.size wc wal:=hd1.trans (bal.mono (by omega));have dal:=dd.trans (bal.mono dd.size);refine vh_two9 6 11 (by kernel_rfl) rfl rfl WN (ex_call rfl (by simp only [LA,LB,LC,(Ybh.f 69),(Ybh.f 70),(Ybh.f 74),evc] <;> rfl) rfl) (admit9 c t m d1 (tin.later hd1) nt.fit (((hMI m (List.mem_of_getElem? hm)).later d).later hd1) (hMF m (List.mem_of_getElem? hm)) (hT.later dd hT.lt)) rfl Ybh.z (by decide) ?_ (.pointer (some ⟨d1.heap.size,0,none⟩)) wal WN (ex_al rfl (by rw [hwal];exact al12 _)) rfl (by decide) hSal ?_
       ·rintro e w6 ⟨u,b2,rfl,tin0,had0,b6⟩
        have hS6 : Below wc.heap.size wc w6:=hd1.trans (b6.mono (by omega));have z6:=b6.size;refine ⟨_,rfl,hS6,Ybh.k fun _ Ybi => ?_⟩;clear Ybh
        refine Ybi.h 7 rfl _ (fun v hv => ex_move rfl (Ybi.f 75)) hS6 fun _ Ybj => ?_;clear Ybi
        refine Ybj.h 8 rfl _ (fun v hv => ex_ext8 rfl (Ybj.f 68) rfl) hS6 fun _ Ybk => ?_;clear Ybj
        refine Ybk.h 9 rfl _ (fun v hv => ex_ext8 rfl (Ybk.f 68) rfl) hS6 fun _ Ybl => ?_;clear Ybk
        refine Ybl.h 10 rfl _ (fun v hv => ex_ext8 rfl (Ybl.f 68) rfl) hS6 fun _ Ybm => ?_;clear Ybl
        obtain ⟨w7,hw7⟩ : ∃ y,y = w6.alloc (.cells zS8.cs.toArray 33):=⟨_,rfl⟩
        have HQ0 : SB7 w7 w6.heap.size zS8:=by rw [hw7];exact BX7.new _ _ _
        have b7 : Below w6.heap.size w6 w7:=by rw [hw7];exact BR.alloc LR _
        have y7 : w7.heap.size = w6.heap.size + 1:=by rw [hw7];exact World.size_alloc _ _
        have hS7 : Below wc.heap.size wc w7:=hS6.trans (b7.mono (by omega));refine vh_val8 11 (.pointer (some ⟨w6.heap.size,0,none⟩)) w7 rfl (by kernel_rfl) WN (ex_al rfl (by rw [hw7];exact al12 _)) rfl Ybm.z (by decide) hS7 (Ybm.k fun _ Ybn => ?_);clear Ybm
        obtain ⟨w8,hw8⟩ : ∃ y,y = sets w7 w6.heap.size 0 u.cs:=⟨_,rfl⟩
        have HQ : SB7 w8 w6.heap.size u:=by rw [hw8];exact SB7.put HQ0 u
        have u8 : Upd (fun k => k = w6.heap.size) w7 w8:=by rw [hw8];exact upd12 _ _ _
        have y8:=u8.size;have b8 : Below w6.heap.size w6 w8:=b7.trans (u8.below (by omega) (fun k hk => by omega));have hS8 : Below wc.heap.size wc w8:=hS6.trans (b8.mono (by omega));have hadz:=(had0.later9 b8).low9 (show wc.heap.size ≤ d1.heap.size by omega);have tinz:=tin0.later b8;refine vh_store8 12 w8 rfl (by kernel_rfl) WN (ex_st rfl (Ybn.f 12) (Ybn.f 76) (by rw [hw8];exact st12 HQ0 u)) rfl hS8 ?_
        refine Ybn.h 13 rfl _ (fun v hv => ex_assign rfl (Ybn.f 77)) hS8 fun _ Ybo => ?_;clear Ybn
        refine Ybo.h 14 rfl _ (fun v hv => ex_assign rfl (Ybo.f 78)) hS8 fun _ Ybp => ?_;clear Ybo
        refine vh_done (by kernel_rfl) ?_
        have Ybq:=(((((((((((Rp.nil Ybp.z).cons (Ybp.a 2 rfl)).cons (Ybp.a 3 rfl)).cons (Ybp.a 4 rfl)).cons (Ybp.a 7 rfl)).cons (Ybp.a 8 rfl)).cons (Ybp.a 9 rfl)).cons (Ybp.a 10 rfl)).cons (Ybp.a 12 rfl)).cons (Ybp.a 13 rfl)).cons (Ybp.a 14 rfl))
        clear Ybp
        exact ⟨_,rfl,w6.heap.size,u,b2,Ybq,HQ,hadz,tinz,hS8,by omega,HQ.lt⟩
       ·refine Ybh.k fun _ Ybi => ?_;clear Ybh
        refine Ybi.w 6 rfl (ex_call rfl (by simp only [LA,LB,LC,(Ybi.f 69),(Ybi.f 70),(Ybi.f 74),evc] <;> rfl) rfl) (admit9 c t m wal (tin.later hSal) nt.fit (((hMI m (List.mem_of_getElem? hm)).later d).later hSal) (hMF m (List.mem_of_getElem? hm)) (hT.later dal hT.lt)) ?_;rintro e w6 ⟨u,b2,rfl,tin0,had0,b6⟩;have hS6 : Below wc.heap.size wc w6:=hSal.trans (b6.mono (by omega));have z6:=b6.size;refine ⟨_,rfl,hS6,Ybi.k fun _ Ybj => ?_⟩;clear Ybi
        refine Ybj.h 7 rfl _ (fun v hv => ex_move rfl (Ybj.f 75)) hS6 fun _ Ybk => ?_;clear Ybj
        refine Ybk.h 8 rfl _ (fun v hv => ex_ext8 rfl (Ybk.f 68) rfl) hS6 fun _ Ybl => ?_;clear Ybk
        refine Ybl.h 9 rfl _ (fun v hv => ex_ext8 rfl (Ybl.f 68) rfl) hS6 fun _ Ybm => ?_;clear Ybl
        refine Ybm.h 10 rfl _ (fun v hv => ex_ext8 rfl (Ybm.f 68) rfl) hS6 fun _ Ybn => ?_;clear Ybm
        have HQ0:=Hal.bel b6
        obtain ⟨w8,hw8⟩ : ∃ y,y = sets w6 d1.heap.size 0 u.cs:=⟨_,rfl⟩
        have HQ : SB7 w8 d1.heap.size u:=by rw [hw8];exact SB7.put HQ0 u
        have u8 : Upd (fun k => k = d1.heap.size) w6 w8:=by rw [hw8];exact upd12 _ _ _
        have y8:=u8.size;have hS8 : Below wc.heap.size wc w8:=hS6.trans (u8.below (by omega) (fun k hk => by omega));have tinz:=had0.in9 tin0 u8 (by omega);have hadz:=(had0.set9 u8 (by omega)).low9 (show wc.heap.size ≤ wal.heap.size by omega);refine vh_store8 12 w8 rfl (by kernel_rfl) WN (ex_st rfl (Ybn.f 12) (Ybn.f 76) (by rw [hw8];exact st12 HQ0 u)) rfl hS8 ?_
        refine Ybn.h 13 rfl _ (fun v hv => ex_assign rfl (Ybn.f 77)) hS8 fun _ Ybo => ?_;clear Ybn
        refine Ybo.h 14 rfl _ (fun v hv => ex_assign rfl (Ybo.f 78)) hS8 fun _ Ybp => ?_;clear Ybo
        refine vh_done (by kernel_rfl) ?_
        have Ybq:=(((((((((((Rp.nil Ybp.z).cons (Ybp.a 2 rfl)).cons (Ybp.a 3 rfl)).cons (Ybp.a 4 rfl)).cons (Ybp.a 7 rfl)).cons (Ybp.a 8 rfl)).cons (Ybp.a 9 rfl)).cons (Ybp.a 10 rfl)).cons (Ybp.a 12 rfl)).cons (Ybp.a 13 rfl)).cons (Ybp.a 14 rfl))
        clear Ybp
        exact ⟨_,rfl,d1.heap.size,u,b2,Ybq,HQ,hadz,tinz,hS8,by omega,HQ.lt⟩
      ·rintro T we ⟨q12,u,b2,Ybr,HJ⟩
       obtain ⟨HU,hadu,uin,be,l12,l12b⟩:=HJ.out;clear HJ;obtain ⟨hEt,hb2e,hau⟩:=twice9 (B:=wr.heap.size) (w:=wr) nw.ck hm0 hk hb hadu;clear hadu;subst hb2e;rw [hEt] at Ybr;replace HC:=HC.bel be;replace HS:=HS.bel be;replace HN:=HN.bel be;replace nin:=nin.later be;replace HT:=HT.bel be;replace tin:=tin.later be;replace had:=had.later9 be;replace d:=d.trans (be.mono (by have:=d.size;omega));have zwe:=be.size;replace hml : LieY yMs9 we qm om L:=hml.upd (S:=fun _ => False) (Upd.of_below be) (by have:=Nat.lt_of_lt_of_le hmal zwr;omega) id;clear be
       go_upto_region 16 with fail
       refine WL ?_
       refine Ybr.t _ (ex_move rfl (Ybr.f 14)) fun _ Ybs => ?_;clear Ybr
       refine Ybs.c (ex_call rfl (by simp only [LA,LB,LC,(Ybs.f 79),evc] <;> rfl) rfl) (num9 0 we) ?_;rintro e wf ⟨rfl,bf⟩;refine ⟨_,rfl,Ybs.k fun _ Ybt => ?_⟩;clear Ybs;replace HU:=HU.bel bf;replace uin:=uin.later bf;replace HC:=HC.bel bf;replace HS:=HS.bel bf;replace HN:=HN.bel bf;replace nin:=nin.later bf;replace HT:=HT.bel bf;replace tin:=tin.later bf;replace had:=had.later9 bf;replace d:=d.trans (bf.mono (by have:=d.size;omega));have zwf:=bf.size;replace hml : LieY yMs9 wf qm om L:=hml.upd (S:=fun _ => False) (Upd.of_below bf) (by have:=Nat.lt_of_lt_of_le hmal zwr;omega) id;clear bf
       refine Ybt.t (.bool false) (ex_bin (Y:=.int .i64 (0)) rfl (Ybt.f 80) rfl (by rw [neqC,decide_eq_true rfl];rfl)) fun _ Ybu => ?_;clear Ybt
       refine Ybu.t _ (ex_move rfl (Ybu.f 81)) fun _ Ybv => ?_;clear Ybu
       refine Ybv.g 82 rfl rfl _ (fun hc => ex_move rfl (Ybv.f 13)) fun _ Ybw => ?_;clear Ybv
       refine Ybw.g 82 rfl rfl _ (fun hc => ex_move rfl (Ybw.f 10)) fun _ Ybx => ?_;clear Ybw
       refine Ybx.g 82 rfl rfl (.bool false) (fun hc => ex_bin rfl (Ybx.v 83 hc) (Ybx.v 84 hc) (neqBs9 _ _ _ _)) fun _ Yby => ?_;clear Ybx
       refine Yby.t (.bool false) (ex_or (c:=true) (b:=false) (z:=false) rfl (Yby.a 82 rfl) (Yby.a 85 rfl) rfl) fun _ Ybz => ?_;clear Yby
       refine Ybz.t _ (ex_move rfl (Ybz.f 86)) fun _ Yb0 => ?_;clear Ybz
       refine Yb0.g 87 rfl rfl _ (fun hc => ex_ld rfl (Yb0.f 12) (SB7.ld HU)) fun _ Yb1 => ?_;clear Yb0
       refine Yb1.g 87 rfl rfl _ (fun hc => ex_ld rfl (Yb1.f 9) (SB7.ld HT)) fun _ Yb2 => ?_;clear Yb1
       refine vcallP (show Region.wanted _ _ = (true && (false == false)) from want_g rfl rfl (Yb2.a 87 rfl)) (ex_call rfl (by simp only [LA,LB,LC,(Yb2.v 88 rfl),(Yb2.v 89 rfl),evc] <;> rfl) rfl) (samestate9 u t wf uin tin hau) rfl Yb2.z (by decide) ?_;rintro e wg ⟨rfl,bg⟩;refine ⟨_,rfl,Yb2.k fun _ Yb3 => ?_⟩;clear Yb2;clear HU uin;replace HC:=HC.bel bg;replace HS:=HS.bel bg;replace HN:=HN.bel bg;replace nin:=nin.later bg;replace HT:=HT.bel bg;replace tin:=tin.later bg;replace had:=had.later9 bg;replace d:=d.trans (bg.mono (by have:=d.size;omega));have zwg:=bg.size;replace hml : LieY yMs9 wg qm om L:=hml.upd (S:=fun _ => False) (Upd.of_below bg) (by have:=Nat.lt_of_lt_of_le hmal zwr;omega) id;clear bg
       refine Yb3.g 87 rfl rfl (.bool false) (fun hc => ex_not rfl (Yb3.v 90 hc)) fun _ Yb4 => ?_;clear Yb3
       refine Yb4.t (.bool false) (ex_or (c:=true) (b:=false) (z:=false) rfl (Yb4.a 87 rfl) (Yb4.a 91 rfl) rfl) fun _ Yb5 => ?_;clear Yb4
       refine WE ?_
       go_upto_region 18 with fail
       refine wp_cond_false (Yb5.f 92) ?_
       have Yb6:=(((((((Rp.nil Yb5.z).cons (Yb5.a 2 rfl)).cons (Yb5.a 3 rfl)).cons (Yb5.a 4 rfl)).cons (Yb5.a 7 rfl)).cons (Yb5.a 8 rfl)).cons (Yb5.a 9 rfl))
       clear Yb5
       go_upto_region 18 with fail
       refine WL ?_
       refine Yb6.t _ (ex_fa rfl (Yb6.f 7) (faS6 _ _)) fun _ Yb7 => ?_;clear Yb6
       refine Yb7.t _ (ex_ld rfl (Yb7.f 93) (ldV8 (HN.cell 6 _ rfl))) fun _ Yb8 => ?_;clear Yb7
       refine Yb8.t _ (ex_fa rfl (Yb8.f 9) (faS6 _ _)) fun _ Yb9 => ?_;clear Yb8
       refine Yb9.t _ (ex_ld rfl (Yb9.f 95) (ldV8 (HT.cell 6 _ rfl))) fun _ Yca => ?_;clear Yb9
       obtain ⟨hnum,hs0,hs1,hv1,hv7⟩:=ck_num9 hck;have hln : n.V.length = s.V.length:=nw.len;have hlt : t.V.length = s.V.length:=nt.len;refine Yca.c (ex_call rfl (by simp only [LA,LB,LC,(Yca.f 94),(Yca.f 96),evc] <;> rfl) rfl) (compareV9 n.V t.V n.va t.va n.vc t.vc wg nin.v tin.v (by omega) (fun k hk9 => by rw [hVt];exact up9 c n m k hk9) (by omega)) ?_;rintro e wh ⟨r,hr,rfl,bh⟩;refine ⟨_,rfl,Yca.k fun _ Ycb => ?_⟩;clear Yca;replace HC:=HC.bel bh;replace HS:=HS.bel bh;replace HN:=HN.bel bh;replace nin:=nin.later bh;replace HT:=HT.bel bh;replace tin:=tin.later bh;replace had:=had.later9 bh;replace d:=d.trans (bh.mono (by have:=d.size;omega));have zwh:=bh.size;replace hml : LieY yMs9 wh qm om L:=hml.upd (S:=fun _ => False) (Upd.of_below bh) (by have:=Nat.lt_of_lt_of_le hmal zwr;omega) id;clear bh
       refine Ycb.t _ (ex_assign rfl (Ycb.f 97)) fun _ Ycc => ?_;clear Ycb
       have Ycd:=((((((((Rp.nil Ycc.z).cons (Ycc.a 2 rfl)).cons (Ycc.a 3 rfl)).cons (Ycc.a 4 rfl)).cons (Ycc.a 7 rfl)).cons (Ycc.a 8 rfl)).cons (Ycc.a 9 rfl)).cons (Ycc.a 15 rfl))
       clear Ycc;refine WE ?_
       go_upto_region 19 with fail
       have hr2 : (!decide (r = 1) && !decide (r = 2)) = false:=by
        rcases hr with rfl | rfl <;> rfl
       refine vh_start (fun v => Below wh.heap.size wh v) (by kernel_rfl) ?_;have hd1 : Below wh.heap.size wh wh.drew:=BR.drew;have hz1 : wh.drew.heap.size = wh.heap.size:=rfl
       generalize wh.drew = d1 at *
       refine Ycd.h 0 rfl _ (fun v hv => ex_move rfl (Ycd.f 15)) hd1 fun _ Yce => ?_;clear Ycd
       refine Yce.h 1 rfl (.bool (!decide (r = 1))) (fun v hv => ex_bin (Y:=.int .i64 (1)) rfl (Yce.f 98) rfl (neqC _ _ _ _ _)) hd1 fun _ Ycf => ?_;clear Yce
       refine Ycf.h 2 rfl _ (fun v hv => ex_move rfl (Ycf.f 99)) hd1 fun _ Ycg => ?_;clear Ycf
       refine Ycg.hg 3 100 rfl rfl rfl (.int .i64 r) (fun hc v hv => ex_move rfl (Ycg.f 15)) hd1 fun _ Ych => ?_;clear Ycg
       refine Ych.hg 4 100 rfl rfl rfl (.bool (!decide (r = 2))) (fun hc v hv => ex_bin (Y:=.int .i64 (2)) rfl (Ych.v 101 hc) rfl (neqC _ _ _ _ _)) hd1 fun _ Yci => ?_;clear Ych
       refine Yci.h 5 rfl (.bool (!decide (r = 1) && !decide (r = 2))) (fun v hv => ex_and (c:=true) (b:=!decide (r = 1)) (z:=!decide (r = 2)) rfl (Yci.a 100 rfl) (Yci.a 102 rfl) rfl) hd1 fun _ Ycj => ?_;clear Yci
       rw [hr2] at Ycj
       refine Ycj.h 6 rfl _ (fun v hv => ex_move rfl (Ycj.f 103)) hd1 fun _ Yck => ?_;clear Ycj
       obtain ⟨qt,ot,hqt,hvt⟩:=vec_at9 tin.v (by omega);obtain ⟨it,lt⟩:=hvt s.self hs0 (by omega);rw [nt.own] at lt;obtain ⟨qs,os,hqs,hvs⟩:=vec_at9 (hI.later d).v (by omega);obtain ⟨is,ls⟩:=hvs s.self hs0 hs1;have htview:=nt.view;have htcom:=nt.commit;have htst:=nt.st;have htl:=nt.l
       refine Yck.hg 7 104 rfl rfl rfl (.pointer (some ⟨q9,6,none⟩)) (fun hc v hv => ex_fa rfl (Yck.f 9) (faS6 _ _)) hd1 fun _ Ycl => ?_;clear Yck
       refine Ycl.hg 8 104 rfl rfl rfl (.slice t.va t.V.length t.vc) (fun hc v hv => ex_ld rfl (Ycl.v 105 hc) (ldV8 ((HT.bel hv).cell 6 _ rfl))) hd1 fun _ Ycm => ?_;clear Ycl
       refine Ycm.hg 9 104 rfl rfl rfl (.pointer (some ⟨w1.heap.size,0,none⟩)) (fun hc v hv => ex_fa rfl (Ycm.f 4) (faS0 _ _)) hd1 fun _ Ycn => ?_;clear Ycm
       refine Ycn.hg 10 104 rfl rfl rfl (.int .i64 s.self) (fun hc v hv => ex_ld rfl (Ycn.v 107 hc) (ldI8 ((HS.bel hv).cell 0 _ rfl))) hd1 fun _ Yco => ?_;clear Ycn
       refine Yco.hg 11 104 rfl rfl rfl (.pointer (some ⟨qt,ot + s.self.toNat * 2,none⟩)) (fun hc v hv => ex_ix rfl (Yco.v 106 hc) (Yco.v 108 hc) (it _)) hd1 fun _ Ycp => ?_;clear Yco
       refine Ycp.hg 12 104 rfl rfl rfl (.agg #[.int .u64 (s.V.getD s.self.toNat (0,0)).1,.int .u64 (s.V.getD s.self.toNat (0,0)).2]) (fun hc v hv => ex_ld rfl (Ycp.v 109 hc) (lt _ hv)) hd1 fun _ Ycq => ?_;clear Ycp
       refine Ycq.hg 13 104 rfl rfl rfl (.pointer (some ⟨w1.heap.size,6,none⟩)) (fun hc v hv => ex_fa rfl (Ycq.f 4) (faS6 _ _)) hd1 fun _ Ycr => ?_;clear Ycq
       refine Ycr.hg 14 104 rfl rfl rfl (.slice s.va s.V.length s.vc) (fun hc v hv => ex_ld rfl (Ycr.v 111 hc) (ldV8 ((HS.bel hv).cell 6 _ rfl))) hd1 fun _ Ycs => ?_;clear Ycr
       refine Ycs.hg 15 104 rfl rfl rfl (.pointer (some ⟨w1.heap.size,0,none⟩)) (fun hc v hv => ex_fa rfl (Ycs.f 4) (faS0 _ _)) hd1 fun _ Yct => ?_;clear Ycs
       refine Yct.hg 16 104 rfl rfl rfl (.int .i64 s.self) (fun hc v hv => ex_ld rfl (Yct.v 113 hc) (ldI8 ((HS.bel hv).cell 0 _ rfl))) hd1 fun _ Ycu => ?_;clear Yct
       refine Ycu.hg 17 104 rfl rfl rfl (.pointer (some ⟨qs,os + s.self.toNat * 2,none⟩)) (fun hc v hv => ex_ix rfl (Ycu.v 112 hc) (Ycu.v 114 hc) (is _)) hd1 fun _ Ycv => ?_;clear Ycu
       refine Ycv.hg 18 104 rfl rfl rfl (.agg #[.int .u64 (s.V.getD s.self.toNat (0,0)).1,.int .u64 (s.V.getD s.self.toNat (0,0)).2]) (fun hc v hv => ex_ld rfl (Ycv.v 115 hc) (ls _ hv)) hd1 fun _ Ycw => ?_;clear Ycv
       refine Ycw.hg 19 104 rfl rfl rfl (.bool false) (fun hc v hv => ex_bin rfl (Ycw.v 110 hc) (Ycw.v 116 hc) (neqDs9 _ _ _ _)) hd1 fun _ Ycx => ?_;clear Ycw
       refine Ycx.h 20 rfl (.bool false) (fun v hv => ex_or (c:=true) (b:=false) (z:=false) rfl (Ycx.a 104 rfl) (Ycx.a 117 rfl) rfl) hd1 fun _ Ycy => ?_;clear Ycx
       refine Ycy.h 21 rfl _ (fun v hv => ex_move rfl (Ycy.f 118)) hd1 fun _ Ycz => ?_;clear Ycy
       refine Ycz.hg 22 119 rfl rfl rfl (.pointer (some ⟨q9,2,none⟩)) (fun hc v hv => ex_fa rfl (Ycz.f 9) (faS2 _ _)) hd1 fun _ Yc0 => ?_;clear Ycz
       refine Yc0.hg 23 119 rfl rfl rfl (.int .i64 s.view) (fun hc v hv => ex_ld rfl (Yc0.v 120 hc) (ldI8 (by rw [← htview];exact (HT.bel hv).cell 2 _ rfl))) hd1 fun _ Yc1 => ?_;clear Yc0
       refine Yc1.hg 24 119 rfl rfl rfl (.pointer (some ⟨w1.heap.size,2,none⟩)) (fun hc v hv => ex_fa rfl (Yc1.f 4) (faS2 _ _)) hd1 fun _ Yc2 => ?_;clear Yc1
       refine Yc2.hg 25 119 rfl rfl rfl (.int .i64 s.view) (fun hc v hv => ex_ld rfl (Yc2.v 122 hc) (ldI8 ((HS.bel hv).cell 2 _ rfl))) hd1 fun _ Yc3 => ?_;clear Yc2
       refine Yc3.hg 26 119 rfl rfl rfl (.bool false) (fun hc v hv => ex_bin rfl (Yc3.v 121 hc) (Yc3.v 123 hc) (by rw [neqC,decide_eq_true rfl];rfl)) hd1 fun _ Yc4 => ?_;clear Yc3
       refine Yc4.h 27 rfl (.bool false) (fun v hv => ex_or (c:=true) (b:=false) (z:=false) rfl (Yc4.a 119 rfl) (Yc4.a 124 rfl) rfl) hd1 fun _ Yc5 => ?_;clear Yc4
       refine Yc5.h 28 rfl _ (fun v hv => ex_move rfl (Yc5.f 125)) hd1 fun _ Yc6 => ?_;clear Yc5
       refine Yc6.hg 29 126 rfl rfl rfl (.pointer (some ⟨q9,5,none⟩)) (fun hc v hv => ex_fa rfl (Yc6.f 9) (faS5 _ _)) hd1 fun _ Yc7 => ?_;clear Yc6
       refine Yc7.hg 30 126 rfl rfl rfl (.int .i64 s.commit) (fun hc v hv => ex_ld rfl (Yc7.v 127 hc) (ldI8 (by rw [← htcom];exact (HT.bel hv).cell 5 _ rfl))) hd1 fun _ Yc8 => ?_;clear Yc7
       refine Yc8.hg 31 126 rfl rfl rfl (.pointer (some ⟨w1.heap.size,5,none⟩)) (fun hc v hv => ex_fa rfl (Yc8.f 4) (faS5 _ _)) hd1 fun _ Yc9 => ?_;clear Yc8
       refine Yc9.hg 32 126 rfl rfl rfl (.int .i64 s.commit) (fun hc v hv => ex_ld rfl (Yc9.v 129 hc) (ldI8 ((HS.bel hv).cell 5 _ rfl))) hd1 fun _ Yda => ?_;clear Yc9
       refine Yda.hg 33 126 rfl rfl rfl (.bool false) (fun hc v hv => ex_bin rfl (Yda.v 128 hc) (Yda.v 130 hc) (by rw [neqC,decide_eq_true rfl];rfl)) hd1 fun _ Ydb => ?_;clear Yda
       refine Ydb.h 34 rfl (.bool false) (fun v hv => ex_or (c:=true) (b:=false) (z:=false) rfl (Ydb.a 126 rfl) (Ydb.a 131 rfl) rfl) hd1 fun _ Ydc => ?_;clear Ydb
       refine Ydc.h 35 rfl _ (fun v hv => ex_move rfl (Ydc.f 132)) hd1 fun _ Ydd => ?_;clear Ydc
       refine Ydd.hg 36 133 rfl rfl rfl (.pointer (some ⟨q9,1,none⟩)) (fun hc v hv => ex_fa rfl (Ydd.f 9) (faS1 _ _)) hd1 fun _ Yde => ?_;clear Ydd
       refine Yde.hg 37 133 rfl rfl rfl (.int .i64 s.st) (fun hc v hv => ex_ld rfl (Yde.v 134 hc) (ldT8 (by rw [← htst];exact (HT.bel hv).cell 1 _ rfl))) hd1 fun _ Ydf => ?_;clear Yde
       refine Ydf.hg 38 133 rfl rfl rfl (.pointer (some ⟨w1.heap.size,1,none⟩)) (fun hc v hv => ex_fa rfl (Ydf.f 4) (faS1 _ _)) hd1 fun _ Ydg => ?_;clear Ydf
       refine Ydg.hg 39 133 rfl rfl rfl (.int .i64 s.st) (fun hc v hv => ex_ld rfl (Ydg.v 136 hc) (ldT8 ((HS.bel hv).cell 1 _ rfl))) hd1 fun _ Ydh => ?_;clear Ydg
       refine Ydh.hg 40 133 rfl rfl rfl (.bool false) (fun hc v hv => ex_bin rfl (Ydh.v 135 hc) (Ydh.v 137 hc) (neqTs9 _ _ _ _)) hd1 fun _ Ydi => ?_;clear Ydh
       refine Ydi.h 41 rfl (.bool false) (fun v hv => ex_or (c:=true) (b:=false) (z:=false) rfl (Ydi.a 133 rfl) (Ydi.a 138 rfl) rfl) hd1 fun _ Ydj => ?_;clear Ydi
       refine Ydj.h 42 rfl _ (fun v hv => ex_move rfl (Ydj.f 139)) hd1 fun _ Ydk => ?_;clear Ydj
       refine Ydk.hg 43 140 rfl rfl rfl (.pointer (some ⟨q9,4,none⟩)) (fun hc v hv => ex_fa rfl (Ydk.f 9) (faS4 _ _)) hd1 fun _ Ydl => ?_;clear Ydk
       refine Ydl.hg 44 140 rfl rfl rfl (.slice t.la t.L.length t.lc) (fun hc v hv => ex_ld rfl (Ydl.v 141 hc) (ldE8 ((HT.bel hv).cell 4 _ rfl))) hd1 fun _ Ydm => ?_;clear Ydl
       refine Ydm.hg 45 140 rfl rfl rfl (.pointer (some ⟨w1.heap.size,4,none⟩)) (fun hc v hv => ex_fa rfl (Ydm.f 4) (faS4 _ _)) hd1 fun _ Ydn => ?_;clear Ydm
       refine Ydn.hg 46 140 rfl rfl rfl (.slice s.la s.L.length s.lc) (fun hc v hv => ex_ld rfl (Ydn.v 143 hc) (ldE8 ((HS.bel hv).cell 4 _ rfl))) hd1 fun _ Ydo => ?_;clear Ydn
       refine vh_call 47 rfl (by kernel_rfl) (show Region.wanted _ _ = (true && (false == false)) from want_g rfl rfl (Ydo.a 140 rfl)) (ex_call rfl (by simp only [LA,LB,LC,(Ydo.v 142 rfl),(Ydo.v 144 rfl),evc] <;> rfl) rfl) (sameentsB t.L s.L t.la s.la t.L.length s.L.length t.lc s.lc d1 (tin.l.later hd1) ((hI.l.later d).later hd1)) rfl Ydo.z (by decide) ?_;rintro e wi ⟨rfl,ki,hki⟩
       have hd5 : Below wh.heap.size wh wi:=by rw [hki];exact belN9 hd1 ki
       clear hki;refine ⟨_,rfl,hd5,Ydo.k fun _ Ydp => ?_⟩;clear Ydo;rw [decide_eq_true htl] at Ydp
       refine Ydp.hg 48 140 rfl rfl rfl (.bool false) (fun hc v hv => ex_not rfl (Ydp.v 145 hc)) hd5 fun _ Ydq => ?_;clear Ydp
       refine Ydq.h 49 rfl (.bool false) (fun v hv => ex_or (c:=true) (b:=false) (z:=false) rfl (Ydq.a 140 rfl) (Ydq.a 146 rfl) rfl) hd5 fun _ Ydr => ?_;clear Ydq
       refine vh_done (by kernel_rfl) ?_;clear it lt is ls hd1 hz1;replace HC:=HC.bel hd5;replace HS:=HS.bel hd5;replace HN:=HN.bel hd5;replace nin:=nin.later hd5;replace HT:=HT.bel hd5;replace tin:=tin.later hd5;replace had:=had.later9 hd5;replace d:=d.trans (hd5.mono (by have:=d.size;omega));have zwi:=hd5.size;replace hml : LieY yMs9 wi qm om L:=hml.upd (S:=fun _ => False) (Upd.of_below hd5) (by have:=Nat.lt_of_lt_of_le hmal zwr;omega) id;clear hd5
       go_upto_region 21 with fail
       refine wp_cond_false (Ydr.f 147) ?_
       have Yds:=(((((((Rp.nil Ydr.z).cons (Ydr.a 2 rfl)).cons (Ydr.a 3 rfl)).cons (Ydr.a 4 rfl)).cons (Ydr.a 7 rfl)).cons (Ydr.a 8 rfl)).cons (Ydr.a 9 rfl))
       clear Ydr
       go_upto_region 21 with fail
       refine WL ?_
       refine Yds.t (.int .i64 ((0 : Nat) : Int)) (ex_assign rfl rfl) fun _ Ydt => ?_;clear Yds
       refine WE ?_
       go_upto_region 22 with fail
       refine v_loop 16 j (fun k T wk => Rp T 229 [(16,gw true (.int .i64 ((k : Nat) : Int))),(9,gw true (.pointer (some ⟨q9,0,none⟩))),(8,gw true (.int .i64 ((j : Nat) : Int))),(7,gw true (.pointer (some ⟨w6.heap.size,0,none⟩))),(4,gw true (.pointer (some ⟨w1.heap.size,0,none⟩))),(3,gw true (.pointer (some ⟨w.heap.size,0,none⟩))),(2,gw true (.slice a2 L.length c2))]∧Hid (SB7 wk q9 t∧SB7 wk w6.heap.size n∧CB7 wk w.heap.size c∧SB7 wk w1.heap.size s∧Ad9 wr.heap.size c n m t b2 wk∧t.In wk∧n.In wk∧Below w.heap.size w wk∧wi.heap.size ≤ wk.heap.size)) (fun k T w h => h.1.a 16 rfl) ⟨Ydt,HT,HN,HC,HS,had,tin,nin,d,LR⟩ ?_;clear Ydt HT HN HC HS had tin nin d hml;intro k T wk hkj hh;obtain ⟨Ydu,HJ⟩:=hh;obtain ⟨HT,HN,HC,HS,had,tin,nin,d,lwk⟩:=HJ.out;clear HJ
       by_cases hik : k < j
       ·obtain ⟨x,hx⟩ : ∃ x,L[k]? = some x:=⟨_,List.getElem?_eq_getElem (by omega)⟩
        have zwk:=d.size
        have hml : LieY yMs9 wk qm om L:=by
         obtain ⟨qm2,om2,hqm2,hmal2,hml2⟩:=hML.place (by rintro rfl;simp at hm);rw [hqm] at hqm2
         cases hqm2
         exact hml2.upd (S:=fun _ => False) (Upd.of_below d) hmal id
        go_upto_region 22 with fail
        refine WL ?_
        refine Ydu.t _ (ex_move rfl (Ydu.f 16)) fun _ Ydv => ?_;clear Ydu
        refine Ydv.t _ (ex_move rfl (Ydv.f 8)) fun _ Ydw => ?_;clear Ydv
        refine Ydw.t (.bool true) (ex_bin rfl (Ydw.f 148) (Ydw.f 149) (lssD8 _ _ _ _ true (decide_eq_true (by omega)) _)) fun _ Ydx => ?_;clear Ydw
        refine WE ?_
        go_upto_region 24 with fail
        refine wp_cond_true (Ydx.f 150) ?_
        have Ydy:=((((((((Rp.nil Ydx.z).cons (Ydx.a 2 rfl)).cons (Ydx.a 3 rfl)).cons (Ydx.a 4 rfl)).cons (Ydx.a 7 rfl)).cons (Ydx.a 8 rfl)).cons (Ydx.a 9 rfl)).cons (Ydx.a 16 rfl))
        clear Ydx
        go_upto_region 24 with fail
        refine v_cut9 (fun T v => Rp T 229 [(202,gw true (.bool (((((!c.u) && decide ((x.V.length : Int) = (t.V.length : Int))) && decide (0 ≤ x.m.nd)) && decide (x.m.nd < (t.V.length : Int))) && ovB9 n.V (thr9 x)))),(16,gw true (.int .i64 ((k : Nat) : Int))),(9,gw true (.pointer (some ⟨q9,0,none⟩))),(8,gw true (.int .i64 ((j : Nat) : Int))),(7,gw true (.pointer (some ⟨w6.heap.size,0,none⟩))),(4,gw true (.pointer (some ⟨w1.heap.size,0,none⟩))),(3,gw true (.pointer (some ⟨w.heap.size,0,none⟩))),(2,gw true (.slice a2 L.length c2))]∧Hid (Below wk.heap.size wk v)) ?_ ?_
        ·refine vh_start (fun v => Below wk.heap.size wk v) (by kernel_rfl) ?_
         have hd1 : Below wk.heap.size wk wk.drew:=BR.drew;have hz1 : wk.drew.heap.size = wk.heap.size:=rfl
         generalize wk.drew = d1 at *
         have hqW : qm < wk.heap.size:=Nat.lt_of_lt_of_le hmal zwk
         have hcell : ∀ v,Below wk.heap.size wk v → ∀ (i : Nat) (u : Value),x.cs[i]? = some u → v.cell? ⟨qm,om + k * 18 + i,none⟩ = some u:=fun v hv i u hu => (hml.upd (S:=fun _ => False) (Upd.of_below hv) hqW id) k x hx i u hu
         have hixk : ∀ v,(Instr.indexAt 34 (.slice a2 L.length c2) (.int .i64 ((k : Nat) : Int))).run Tryz.prog v = .ok (.pointer (some ⟨qm,om + k * 18,none⟩)) v:=fun v => by rw [hqm];exact ixMs9 qm om L.length c2 k (by omega) v
         refine Ydy.h 0 rfl _ (fun v hv => ex_fa rfl (Ydy.f 3) (faC3 _ _)) hd1 fun _ Ydz => ?_;clear Ydy
         refine Ydz.h 1 rfl _ (fun v hv => ex_ld rfl (Ydz.f 153) (ldU8 ((HC.bel hv).cell 3 _ rfl))) hd1 fun _ Yd0 => ?_;clear Ydz
         refine Yd0.h 2 rfl (.bool (!c.u)) (fun v hv => ex_not rfl (Yd0.f 154)) hd1 fun _ Yd1 => ?_;clear Yd0
         refine Yd1.h 3 rfl _ (fun v hv => ex_move rfl (Yd1.f 155)) hd1 fun _ Yd2 => ?_;clear Yd1
         refine Yd2.hg 4 156 rfl rfl rfl (.slice a2 L.length c2) (fun hc v hv => ex_move rfl (Yd2.f 2)) hd1 fun _ Yd3 => ?_;clear Yd2
         refine Yd3.hg 5 156 rfl rfl rfl (.int .i64 ((k : Nat) : Int)) (fun hc v hv => ex_move rfl (Yd3.f 16)) hd1 fun _ Yd4 => ?_;clear Yd3
         refine Yd4.hg 6 156 rfl rfl rfl (.pointer (some ⟨qm,om + k * 18,none⟩)) (fun hc v hv => ex_ix rfl (Yd4.v 157 hc) (Yd4.v 158 hc) (hixk _)) hd1 fun _ Yd5 => ?_;clear Yd4
         refine Yd5.hg 7 156 rfl rfl rfl (.pointer (some ⟨qm,om + k * 18 + 17,none⟩)) (fun hc v hv => ex_fa rfl (Yd5.v 159 hc) (faMs10 _ _ _)) hd1 fun _ Yd6 => ?_;clear Yd5
         refine Yd6.hg 8 156 rfl rfl rfl (.slice x.va x.V.length x.vc) (fun hc v hv => ex_ld rfl (Yd6.v 160 hc) (ldV8 (hcell v hv 17 _ rfl))) hd1 fun _ Yd7 => ?_;clear Yd6
         refine Yd7.hg 9 156 rfl rfl rfl (.int .i64 ((x.V.length : Nat) : Int)) (fun hc v hv => ex_lenV8 rfl rfl (Yd7.v 161 hc)) hd1 fun _ Yd8 => ?_;clear Yd7
         refine Yd8.hg 10 156 rfl rfl rfl (.pointer (some ⟨q9,6,none⟩)) (fun hc v hv => ex_fa rfl (Yd8.f 9) (faS6 _ _)) hd1 fun _ Yd9 => ?_;clear Yd8
         refine Yd9.hg 11 156 rfl rfl rfl (.slice t.va t.V.length t.vc) (fun hc v hv => ex_ld rfl (Yd9.v 163 hc) (ldV8 ((HT.bel hv).cell 6 _ rfl))) hd1 fun _ Yea => ?_;clear Yd9
         refine Yea.hg 12 156 rfl rfl rfl (.int .i64 ((t.V.length : Nat) : Int)) (fun hc v hv => ex_lenV8 rfl rfl (Yea.v 164 hc)) hd1 fun _ Yeb => ?_;clear Yea
         refine Yeb.hg 13 156 rfl rfl rfl (.bool (decide ((x.V.length : Int) = (t.V.length : Int)))) (fun hc v hv => ex_bin rfl (Yeb.v 162 hc) (Yeb.v 165 hc) (eqlC _ _ _ _ _)) hd1 fun _ Yec => ?_;clear Yeb
         refine Yec.h 14 rfl (.bool ((!c.u) && decide ((x.V.length : Int) = (t.V.length : Int)))) (fun v hv => ex_and (c:=true) (b:=(!c.u)) (z:=decide ((x.V.length : Int) = (t.V.length : Int))) rfl (Yec.a 156 rfl) (Yec.a 166 rfl) rfl) hd1 fun _ Yed => ?_;clear Yec
         refine Yed.h 15 rfl _ (fun v hv => ex_move rfl (Yed.f 167)) hd1 fun _ Yee => ?_;clear Yed
         refine Yee.hg 16 168 rfl rfl rfl (.slice a2 L.length c2) (fun hc v hv => ex_move rfl (Yee.f 2)) hd1 fun _ Yef => ?_;clear Yee
         refine Yef.hg 17 168 rfl rfl rfl (.int .i64 ((k : Nat) : Int)) (fun hc v hv => ex_move rfl (Yef.f 16)) hd1 fun _ Yeg => ?_;clear Yef
         refine Yeg.hg 18 168 rfl rfl rfl (.pointer (some ⟨qm,om + k * 18,none⟩)) (fun hc v hv => ex_ix rfl (Yeg.v 169 hc) (Yeg.v 170 hc) (hixk _)) hd1 fun _ Yeh => ?_;clear Yeg
         refine Yeh.hg 19 168 rfl rfl rfl (.pointer (some ⟨qm,om + k * 18 + 1,none⟩)) (fun hc v hv => ex_fa rfl (Yeh.v 171 hc) (faMs1 _ _ _)) hd1 fun _ Yei => ?_;clear Yeh
         refine Yei.hg 20 168 rfl rfl rfl (.int .i64 x.m.nd) (fun hc v hv => ex_ld rfl (Yei.v 172 hc) (ldI8 (hcell v hv 1 _ rfl))) hd1 fun _ Yej => ?_;clear Yei
         refine Yej.hg 21 168 rfl rfl rfl (.bool (decide (0 ≤ x.m.nd))) (fun hc v hv => ex_bin (Y:=.int .i64 (0)) rfl (Yej.v 173 hc) rfl (geqC _ _ _ _ _)) hd1 fun _ Yek => ?_;clear Yej
         refine Yek.h 22 rfl (.bool (((!c.u) && decide ((x.V.length : Int) = (t.V.length : Int))) && decide (0 ≤ x.m.nd))) (fun v hv => ex_and (c:=true) (b:=((!c.u) && decide ((x.V.length : Int) = (t.V.length : Int)))) (z:=decide (0 ≤ x.m.nd)) rfl (Yek.a 168 rfl) (Yek.a 174 rfl) rfl) hd1 fun _ Yel => ?_;clear Yek
         refine Yel.h 23 rfl _ (fun v hv => ex_move rfl (Yel.f 175)) hd1 fun _ Yem => ?_;clear Yel
         refine Yem.hg 24 176 rfl rfl rfl (.slice a2 L.length c2) (fun hc v hv => ex_move rfl (Yem.f 2)) hd1 fun _ Yen => ?_;clear Yem
         refine Yen.hg 25 176 rfl rfl rfl (.int .i64 ((k : Nat) : Int)) (fun hc v hv => ex_move rfl (Yen.f 16)) hd1 fun _ Yeo => ?_;clear Yen
         refine Yeo.hg 26 176 rfl rfl rfl (.pointer (some ⟨qm,om + k * 18,none⟩)) (fun hc v hv => ex_ix rfl (Yeo.v 177 hc) (Yeo.v 178 hc) (hixk _)) hd1 fun _ Yep => ?_;clear Yeo
         refine Yep.hg 27 176 rfl rfl rfl (.pointer (some ⟨qm,om + k * 18 + 1,none⟩)) (fun hc v hv => ex_fa rfl (Yep.v 179 hc) (faMs1 _ _ _)) hd1 fun _ Yeq => ?_;clear Yep
         refine Yeq.hg 28 176 rfl rfl rfl (.int .i64 x.m.nd) (fun hc v hv => ex_ld rfl (Yeq.v 180 hc) (ldI8 (hcell v hv 1 _ rfl))) hd1 fun _ Yer => ?_;clear Yeq
         refine Yer.hg 29 176 rfl rfl rfl (.pointer (some ⟨q9,6,none⟩)) (fun hc v hv => ex_fa rfl (Yer.f 9) (faS6 _ _)) hd1 fun _ Yes => ?_;clear Yer
         refine Yes.hg 30 176 rfl rfl rfl (.slice t.va t.V.length t.vc) (fun hc v hv => ex_ld rfl (Yes.v 182 hc) (ldV8 ((HT.bel hv).cell 6 _ rfl))) hd1 fun _ Yet => ?_;clear Yes
         refine Yet.hg 31 176 rfl rfl rfl (.int .i64 ((t.V.length : Nat) : Int)) (fun hc v hv => ex_lenV8 rfl rfl (Yet.v 183 hc)) hd1 fun _ Yeu => ?_;clear Yet
         refine Yeu.hg 32 176 rfl rfl rfl (.bool (decide (x.m.nd < (t.V.length : Int)))) (fun hc v hv => ex_bin rfl (Yeu.v 181 hc) (Yeu.v 184 hc) (lssC _ _ _ _ _)) hd1 fun _ Yev => ?_;clear Yeu
         refine Yev.h 33 rfl (.bool ((((!c.u) && decide ((x.V.length : Int) = (t.V.length : Int))) && decide (0 ≤ x.m.nd)) && decide (x.m.nd < (t.V.length : Int)))) (fun v hv => ex_and (c:=true) (b:=(((!c.u) && decide ((x.V.length : Int) = (t.V.length : Int))) && decide (0 ≤ x.m.nd))) (z:=decide (x.m.nd < (t.V.length : Int))) rfl (Yev.a 176 rfl) (Yev.a 185 rfl) rfl) hd1 fun _ Yew => ?_;clear Yev
         refine Yew.h 34 rfl _ (fun v hv => ex_move rfl (Yew.f 186)) hd1 fun _ Yex => ?_;clear Yew
         refine Yex.hg 35 187 rfl rfl rfl (.pointer (some ⟨w6.heap.size,6,none⟩)) (fun hc v hv => ex_fa rfl (Yex.f 7) (faS6 _ _)) hd1 fun _ Yey => ?_;clear Yex
         refine Yey.hg 36 187 rfl rfl rfl (.slice n.va n.V.length n.vc) (fun hc v hv => ex_ld rfl (Yey.v 188 hc) (ldV8 ((HN.bel hv).cell 6 _ rfl))) hd1 fun _ Yez => ?_;clear Yey
         refine Yez.hg 37 187 rfl rfl rfl (.slice a2 L.length c2) (fun hc v hv => ex_move rfl (Yez.f 2)) hd1 fun _ Ye0 => ?_;clear Yez
         refine Ye0.hg 38 187 rfl rfl rfl (.int .i64 ((k : Nat) : Int)) (fun hc v hv => ex_move rfl (Ye0.f 16)) hd1 fun _ Ye1 => ?_;clear Ye0
         refine Ye1.hg 39 187 rfl rfl rfl (.pointer (some ⟨qm,om + k * 18,none⟩)) (fun hc v hv => ex_ix rfl (Ye1.v 190 hc) (Ye1.v 191 hc) (hixk _)) hd1 fun _ Ye2 => ?_;clear Ye1
         refine Ye2.hg 40 187 rfl rfl rfl (.pointer (some ⟨qm,om + k * 18 + 1,none⟩)) (fun hc v hv => ex_fa rfl (Ye2.v 192 hc) (faMs1 _ _ _)) hd1 fun _ Ye3 => ?_;clear Ye2
         refine Ye3.hg 41 187 rfl rfl rfl (.int .i64 x.m.nd) (fun hc v hv => ex_ld rfl (Ye3.v 193 hc) (ldI8 (hcell v hv 1 _ rfl))) hd1 fun _ Ye4 => ?_;clear Ye3
         refine Ye4.hg 42 187 rfl rfl rfl (.slice a2 L.length c2) (fun hc v hv => ex_move rfl (Ye4.f 2)) hd1 fun _ Ye5 => ?_;clear Ye4
         refine Ye5.hg 43 187 rfl rfl rfl (.int .i64 ((k : Nat) : Int)) (fun hc v hv => ex_move rfl (Ye5.f 16)) hd1 fun _ Ye6 => ?_;clear Ye5
         refine Ye6.hg 44 187 rfl rfl rfl (.pointer (some ⟨qm,om + k * 18,none⟩)) (fun hc v hv => ex_ix rfl (Ye6.v 195 hc) (Ye6.v 196 hc) (hixk _)) hd1 fun _ Ye7 => ?_;clear Ye6
         refine Ye7.hg 45 187 rfl rfl rfl (.pointer (some ⟨qm,om + k * 18 + 17,none⟩)) (fun hc v hv => ex_fa rfl (Ye7.v 197 hc) (faMs10 _ _ _)) hd1 fun _ Ye8 => ?_;clear Ye7
         refine Ye8.hg 46 187 rfl rfl rfl (.slice x.va x.V.length x.vc) (fun hc v hv => ex_ld rfl (Ye8.v 198 hc) (ldV8 (hcell v hv 17 _ rfl))) hd1 fun _ Ye9 => ?_;clear Ye8
         refine Ye9.hg 47 187 rfl rfl rfl ((thr9 x).val) (fun hc v hv => ex_buildP9 (P:=#[(0,.int .i64 x.m.nd),(1,.slice x.va x.V.length x.vc)]) rfl (by simp only [LA,LB,LC,(Ye9.v 194 hc),(Ye9.v 199 hc),evc] <;> rfl) (bdV9 _ _ _ _ _)) hd1 fun _ Yfa => ?_;clear Ye9
         cases hG : ((((!c.u) && decide ((x.V.length : Int) = (t.V.length : Int))) && decide (0 ≤ x.m.nd)) && decide (x.m.nd < (t.V.length : Int)))
         ·rw [hG] at Yfa
          refine Yfa.hg 48 187 rfl rfl rfl (.bool (ovB9 n.V (thr9 x))) (fun hc v hv => absurd hc (by decide)) hd1 fun _ Yfb => ?_;clear Yfa
          refine Yfb.h 49 rfl (.bool (false && ovB9 n.V (thr9 x))) (fun v hv => ex_and (c:=true) (b:=false) (z:=ovB9 n.V (thr9 x)) rfl (Yfb.a 187 rfl) (Yfb.a 201 rfl) rfl) hd1 fun _ Yfc => ?_;clear Yfb
          refine vh_done (by kernel_rfl) ?_
          have Yfd:=(((((((((Rp.nil Yfc.z).cons (Yfc.a 2 rfl)).cons (Yfc.a 3 rfl)).cons (Yfc.a 4 rfl)).cons (Yfc.a 7 rfl)).cons (Yfc.a 8 rfl)).cons (Yfc.a 9 rfl)).cons (Yfc.a 16 rfl)).cons (Yfc.a 202 rfl))
          clear Yfc
          exact ⟨_,rfl,Yfd,hd1⟩
         ·rw [hG] at Yfa
          refine vh_call 48 rfl (by kernel_rfl) (show Region.wanted _ _ = (true && (true == true)) from want_g rfl rfl (Yfa.a 187 rfl)) (ex_call rfl (by simp only [LA,LB,LC,(Yfa.v 189 rfl),(Yfa.v 200 rfl),evc] <;> rfl) rfl) (over9 n.V n.va n.vc (thr9 x) d1 (nin.v.later hd1) (((hMI x (List.mem_of_getElem? hx)).v.later d).later hd1)) rfl Yfa.z (by decide) ?_;rintro e wm ⟨rfl,bm⟩;have hdm : Below wk.heap.size wk wm:=hd1.trans (bm.mono (by omega));refine ⟨_,rfl,hdm,Yfa.k fun _ Yfb => ?_⟩;clear Yfa
          refine Yfb.h 49 rfl (.bool (true && ovB9 n.V (thr9 x))) (fun v hv => ex_and (c:=true) (b:=true) (z:=ovB9 n.V (thr9 x)) rfl (Yfb.a 187 rfl) (Yfb.a 201 rfl) rfl) hdm fun _ Yfc => ?_;clear Yfb
          refine vh_done (by kernel_rfl) ?_
          have Yfd:=(((((((((Rp.nil Yfc.z).cons (Yfc.a 2 rfl)).cons (Yfc.a 3 rfl)).cons (Yfc.a 4 rfl)).cons (Yfc.a 7 rfl)).cons (Yfc.a 8 rfl)).cons (Yfc.a 9 rfl)).cons (Yfc.a 16 rfl)).cons (Yfc.a 202 rfl))
          clear Yfc
          exact ⟨_,rfl,Yfd,hdm⟩
        ·rintro T wn ⟨Yfe,HJ⟩
         have bn:=HJ.out;clear HJ;replace HC:=HC.bel bn;replace HS:=HS.bel bn;replace HN:=HN.bel bn;replace nin:=nin.later bn;replace HT:=HT.bel bn;replace tin:=tin.later bn;replace had:=had.later9 bn;replace d:=d.trans (bn.mono (by have:=d.size;omega));have zwn:=bn.size;replace hml : LieY yMs9 wn qm om L:=hml.upd (S:=fun _ => False) (Upd.of_below bn) (by have:=Nat.lt_of_lt_of_le hmal zwk;omega) id;clear bn
         cases hX : (((((!c.u) && decide ((x.V.length : Int) = (t.V.length : Int))) && decide (0 ≤ x.m.nd)) && decide (x.m.nd < (t.V.length : Int))) && ovB9 n.V (thr9 x))
         ·rw [hX] at Yfe
          go_upto_region 23 with fail
          refine wp_cond_false (Yfe.f 202) ?_
          go_upto_region 23 with fail
          refine WL ?_
          refine Yfe.t _ (ex_move rfl (Yfe.f 16)) fun _ Yff => ?_;clear Yfe
          refine Yff.t (.int .i64 ((k + 1 : Nat) : Int)) (ex_bin (Y:=.int .i64 (1)) rfl (Yff.f 151) rfl (addD8 _ _ _ _ _ (by rw [IntKind.wrap_i64];omega) _)) fun _ Yfg => ?_;clear Yff
          refine Yfg.t _ (ex_assign rfl (Yfg.f 152)) fun _ Yfh => ?_;clear Yfg
          have Yfi:=((((((((Rp.nil Yfh.z).cons (Yfh.a 2 rfl)).cons (Yfh.a 3 rfl)).cons (Yfh.a 4 rfl)).cons (Yfh.a 7 rfl)).cons (Yfh.a 8 rfl)).cons (Yfh.a 9 rfl)).cons (Yfh.a 16 rfl))
          clear Yfh;refine WE ?_
          exact ⟨_,rfl,hik,Yfi,HT,HN,HC,HS,had,tin,nin,d,by omega⟩
         ·rw [hX] at Yfe
          have hov : ovB9 n.V (thr9 x) = true:=(Bool.and_eq_true_iff.1 hX).2
          have hcu : c.u = false:=by
           have h9:=(Bool.and_eq_true_iff.1 (Bool.and_eq_true_iff.1 (Bool.and_eq_true_iff.1 (Bool.and_eq_true_iff.1 hX).1).1).1).1
           cases hu : c.u with
           | false => rfl
           | true => rw [hu] at h9;exact absurd h9 (by decide)
          have hst:=stays9 (t:=t) (m:=m) (x:=x) nw.ck hcu hVt hov
          go_upto_region 25 with fail
          refine wp_cond_true (Yfe.f 202) ?_
          have Yff:=((((((((Rp.nil Yfe.z).cons (Yfe.a 2 rfl)).cons (Yfe.a 3 rfl)).cons (Yfe.a 4 rfl)).cons (Yfe.a 7 rfl)).cons (Yfe.a 8 rfl)).cons (Yfe.a 9 rfl)).cons (Yfe.a 16 rfl))
          clear Yfe
          go_upto_region 25 with fail
          refine v_cut9 (fun T v => ∃ (q17 : Nat) (u : Sta) (b3 : Bool),Rp T 229 [(19,gw true (.int .i64 (adE9 c t x))),(18,gw true (.bool b3)),(17,gw true (.pointer (some ⟨q17,0,none⟩))),(16,gw true (.int .i64 ((k : Nat) : Int))),(9,gw true (.pointer (some ⟨q9,0,none⟩))),(8,gw true (.int .i64 ((j : Nat) : Int))),(7,gw true (.pointer (some ⟨w6.heap.size,0,none⟩))),(4,gw true (.pointer (some ⟨w1.heap.size,0,none⟩))),(3,gw true (.pointer (some ⟨w.heap.size,0,none⟩))),(2,gw true (.slice a2 L.length c2))]∧Hid (SB7 v q17 u∧Ad9 wn.heap.size c t x u b3 v∧u.In v∧Below wn.heap.size wn v∧wn.heap.size ≤ q17∧q17 < v.heap.size)) ?_ ?_
          ·refine vh_start (fun v => Below wn.heap.size wn v) (by kernel_rfl) ?_
           have hd1 : Below wn.heap.size wn wn.drew:=BR.drew;have hz1 : wn.drew.heap.size = wn.heap.size:=rfl
           generalize wn.drew = d1 at *
           have dd:=d.trans (hd1.mono d.size);have hqW : qm < wn.heap.size:=Nat.lt_of_lt_of_le hmal d.size
           refine Yff.h 0 rfl _ (fun v hv => ex_ld rfl (Yff.f 3) (CB7.ld (HC.bel hv))) hd1 fun _ Yfg => ?_;clear Yff
           refine Yfg.h 1 rfl _ (fun v hv => ex_ld rfl (Yfg.f 9) (SB7.ld (HT.bel hv))) hd1 fun _ Yfh => ?_;clear Yfg
           refine Yfh.h 2 rfl _ (fun v hv => ex_move rfl (Yfh.f 2)) hd1 fun _ Yfi => ?_;clear Yfh
           refine Yfi.h 3 rfl _ (fun v hv => ex_move rfl (Yfi.f 16)) hd1 fun _ Yfj => ?_;clear Yfi
           refine Yfj.h 4 rfl _ (fun v hv => ex_ix rfl (Yfj.f 206) (Yfj.f 207) (by rw [hqm];exact ixMs9 qm om L.length c2 k (by omega) _)) hd1 fun _ Yfk => ?_;clear Yfj
           refine Yfk.h 5 rfl _ (fun v hv => ex_ld rfl (Yfk.f 208) (ldMs9 (hml.upd (S:=fun _ => False) (Upd.of_below hv) hqW id) hx)) hd1 fun _ Yfl => ?_;clear Yfk
           obtain ⟨wal,hwal⟩ : ∃ y,y = d1.alloc (.cells zS8.cs.toArray 33):=⟨_,rfl⟩
           have Hal : SB7 wal d1.heap.size zS8:=by rw [hwal];exact BX7.new _ _ _
           have bal : Below d1.heap.size d1 wal:=by rw [hwal];exact BR.alloc LR _
           have yal : wal.heap.size = d1.heap.size + 1:=by rw [hwal];exact World.size_alloc _ _
           have hSal : Below wn.heap.size wn wal:=hd1.trans (bal.mono (by omega));have dal:=dd.trans (bal.mono dd.size);refine vh_two9 6 11 (by kernel_rfl) rfl rfl WN (ex_call rfl (by simp only [LA,LB,LC,(Yfl.f 204),(Yfl.f 205),(Yfl.f 209),evc] <;> rfl) rfl) (admit9 c t x d1 (tin.later hd1) nt.fit (((hMI x (List.mem_of_getElem? hx)).later d).later hd1) (hMF x (List.mem_of_getElem? hx)) (hT.later dd hT.lt)) rfl Yfl.z (by decide) ?_ (.pointer (some ⟨d1.heap.size,0,none⟩)) wal WN (ex_al rfl (by rw [hwal];exact al12 _)) rfl (by decide) hSal ?_
           ·rintro e w6 ⟨u,b3,rfl,tin0,had0,b6⟩
            have hS6 : Below wn.heap.size wn w6:=hd1.trans (b6.mono (by omega));have z6:=b6.size;refine ⟨_,rfl,hS6,Yfl.k fun _ Yfm => ?_⟩;clear Yfl
            refine Yfm.h 7 rfl _ (fun v hv => ex_move rfl (Yfm.f 210)) hS6 fun _ Yfn => ?_;clear Yfm
            refine Yfn.h 8 rfl _ (fun v hv => ex_ext8 rfl (Yfn.f 203) rfl) hS6 fun _ Yfo => ?_;clear Yfn
            refine Yfo.h 9 rfl _ (fun v hv => ex_ext8 rfl (Yfo.f 203) rfl) hS6 fun _ Yfp => ?_;clear Yfo
            refine Yfp.h 10 rfl _ (fun v hv => ex_ext8 rfl (Yfp.f 203) rfl) hS6 fun _ Yfq => ?_;clear Yfp
            obtain ⟨w7,hw7⟩ : ∃ y,y = w6.alloc (.cells zS8.cs.toArray 33):=⟨_,rfl⟩
            have HQ0 : SB7 w7 w6.heap.size zS8:=by rw [hw7];exact BX7.new _ _ _
            have b7 : Below w6.heap.size w6 w7:=by rw [hw7];exact BR.alloc LR _
            have y7 : w7.heap.size = w6.heap.size + 1:=by rw [hw7];exact World.size_alloc _ _
            have hS7 : Below wn.heap.size wn w7:=hS6.trans (b7.mono (by omega));refine vh_val8 11 (.pointer (some ⟨w6.heap.size,0,none⟩)) w7 rfl (by kernel_rfl) WN (ex_al rfl (by rw [hw7];exact al12 _)) rfl Yfq.z (by decide) hS7 (Yfq.k fun _ Yfr => ?_);clear Yfq
            obtain ⟨w8,hw8⟩ : ∃ y,y = sets w7 w6.heap.size 0 u.cs:=⟨_,rfl⟩
            have HQ : SB7 w8 w6.heap.size u:=by rw [hw8];exact SB7.put HQ0 u
            have u8 : Upd (fun k => k = w6.heap.size) w7 w8:=by rw [hw8];exact upd12 _ _ _
            have y8:=u8.size;have b8 : Below w6.heap.size w6 w8:=b7.trans (u8.below (by omega) (fun k hk => by omega));have hS8 : Below wn.heap.size wn w8:=hS6.trans (b8.mono (by omega));have hadz:=(had0.later9 b8).low9 (show wn.heap.size ≤ d1.heap.size by omega);have tinz:=tin0.later b8;refine vh_store8 12 w8 rfl (by kernel_rfl) WN (ex_st rfl (Yfr.f 17) (Yfr.f 211) (by rw [hw8];exact st12 HQ0 u)) rfl hS8 ?_
            refine Yfr.h 13 rfl _ (fun v hv => ex_assign rfl (Yfr.f 212)) hS8 fun _ Yfs => ?_;clear Yfr
            refine Yfs.h 14 rfl _ (fun v hv => ex_assign rfl (Yfs.f 213)) hS8 fun _ Yft => ?_;clear Yfs
            refine vh_done (by kernel_rfl) ?_
            have Yfu:=(((((((((((Rp.nil Yft.z).cons (Yft.a 2 rfl)).cons (Yft.a 3 rfl)).cons (Yft.a 4 rfl)).cons (Yft.a 7 rfl)).cons (Yft.a 8 rfl)).cons (Yft.a 9 rfl)).cons (Yft.a 16 rfl)).cons (Yft.a 17 rfl)).cons (Yft.a 18 rfl)).cons (Yft.a 19 rfl))
            clear Yft
            exact ⟨_,rfl,w6.heap.size,u,b3,Yfu,HQ,hadz,tinz,hS8,by omega,HQ.lt⟩
           ·refine Yfl.k fun _ Yfm => ?_;clear Yfl
            refine Yfm.w 6 rfl (ex_call rfl (by simp only [LA,LB,LC,(Yfm.f 204),(Yfm.f 205),(Yfm.f 209),evc] <;> rfl) rfl) (admit9 c t x wal (tin.later hSal) nt.fit (((hMI x (List.mem_of_getElem? hx)).later d).later hSal) (hMF x (List.mem_of_getElem? hx)) (hT.later dal hT.lt)) ?_;rintro e w6 ⟨u,b3,rfl,tin0,had0,b6⟩;have hS6 : Below wn.heap.size wn w6:=hSal.trans (b6.mono (by omega));have z6:=b6.size;refine ⟨_,rfl,hS6,Yfm.k fun _ Yfn => ?_⟩;clear Yfm
            refine Yfn.h 7 rfl _ (fun v hv => ex_move rfl (Yfn.f 210)) hS6 fun _ Yfo => ?_;clear Yfn
            refine Yfo.h 8 rfl _ (fun v hv => ex_ext8 rfl (Yfo.f 203) rfl) hS6 fun _ Yfp => ?_;clear Yfo
            refine Yfp.h 9 rfl _ (fun v hv => ex_ext8 rfl (Yfp.f 203) rfl) hS6 fun _ Yfq => ?_;clear Yfp
            refine Yfq.h 10 rfl _ (fun v hv => ex_ext8 rfl (Yfq.f 203) rfl) hS6 fun _ Yfr => ?_;clear Yfq
            have HQ0:=Hal.bel b6
            obtain ⟨w8,hw8⟩ : ∃ y,y = sets w6 d1.heap.size 0 u.cs:=⟨_,rfl⟩
            have HQ : SB7 w8 d1.heap.size u:=by rw [hw8];exact SB7.put HQ0 u
            have u8 : Upd (fun k => k = d1.heap.size) w6 w8:=by rw [hw8];exact upd12 _ _ _
            have y8:=u8.size;have hS8 : Below wn.heap.size wn w8:=hS6.trans (u8.below (by omega) (fun k hk => by omega));have tinz:=had0.in9 tin0 u8 (by omega);have hadz:=(had0.set9 u8 (by omega)).low9 (show wn.heap.size ≤ wal.heap.size by omega);refine vh_store8 12 w8 rfl (by kernel_rfl) WN (ex_st rfl (Yfr.f 17) (Yfr.f 211) (by rw [hw8];exact st12 HQ0 u)) rfl hS8 ?_
            refine Yfr.h 13 rfl _ (fun v hv => ex_assign rfl (Yfr.f 212)) hS8 fun _ Yfs => ?_;clear Yfr
            refine Yfs.h 14 rfl _ (fun v hv => ex_assign rfl (Yfs.f 213)) hS8 fun _ Yft => ?_;clear Yfs
            refine vh_done (by kernel_rfl) ?_
            have Yfu:=(((((((((((Rp.nil Yft.z).cons (Yft.a 2 rfl)).cons (Yft.a 3 rfl)).cons (Yft.a 4 rfl)).cons (Yft.a 7 rfl)).cons (Yft.a 8 rfl)).cons (Yft.a 9 rfl)).cons (Yft.a 16 rfl)).cons (Yft.a 17 rfl)).cons (Yft.a 18 rfl)).cons (Yft.a 19 rfl))
            clear Yft
            exact ⟨_,rfl,d1.heap.size,u,b3,Yfu,HQ,hadz,tinz,hS8,by omega,HQ.lt⟩
          ·rintro T wo ⟨q17,u,b3,Yfv,HJ⟩
           obtain ⟨_,hadu,_,bo,_,_⟩:=HJ.out;clear HJ
           have hno : ((decide (adE9 c t x = 0) && b3) && btB x.m.k) = false:=by
            rcases hadu with ⟨h9,_⟩ | ⟨h8,_,_,h9⟩
            ·rw [decide_eq_false h9];rfl
            ·rw [decide_eq_true h8,h9];exact hst
           clear hadu;replace HC:=HC.bel bo;replace HS:=HS.bel bo;replace HN:=HN.bel bo;replace nin:=nin.later bo;replace HT:=HT.bel bo;replace tin:=tin.later bo;replace had:=had.later9 bo;replace d:=d.trans (bo.mono (by have:=d.size;omega));have zwo:=bo.size;replace hml : LieY yMs9 wo qm om L:=hml.upd (S:=fun _ => False) (Upd.of_below bo) (by have:=Nat.lt_of_lt_of_le hmal zwk;omega) id;clear bo
           go_upto_region 26 with fail
           refine WL ?_
           refine Yfv.t _ (ex_move rfl (Yfv.f 19)) fun _ Yfw => ?_;clear Yfv
           refine Yfw.c (ex_call rfl (by simp only [LA,LB,LC,(Yfw.f 214),evc] <;> rfl) rfl) (num9 (adE9 c t x) wo) ?_;rintro e wp ⟨rfl,bp⟩;refine ⟨_,rfl,Yfw.k fun _ Yfx => ?_⟩;clear Yfw;replace HC:=HC.bel bp;replace HS:=HS.bel bp;replace HN:=HN.bel bp;replace nin:=nin.later bp;replace HT:=HT.bel bp;replace tin:=tin.later bp;replace had:=had.later9 bp;replace d:=d.trans (bp.mono (by have:=d.size;omega));have zwp:=bp.size;replace hml : LieY yMs9 wp qm om L:=hml.upd (S:=fun _ => False) (Upd.of_below bp) (by have:=Nat.lt_of_lt_of_le hmal zwk;omega) id;clear bp
           refine Yfx.t (.bool (decide (adE9 c t x = 0))) (ex_bin (Y:=.int .i64 (0)) rfl (Yfx.f 215) rfl (eqlC _ _ _ _ _)) fun _ Yfy => ?_;clear Yfx
           refine Yfy.t _ (ex_move rfl (Yfy.f 216)) fun _ Yfz => ?_;clear Yfy
           refine Yfz.g 217 rfl rfl _ (fun hc => ex_move rfl (Yfz.f 18)) fun _ Yf0 => ?_;clear Yfz
           refine Yf0.t (.bool (decide (adE9 c t x = 0) && b3)) (ex_and (c:=true) (b:=decide (adE9 c t x = 0)) (z:=b3) rfl (Yf0.a 217 rfl) (Yf0.a 218 rfl) rfl) fun _ Yf1 => ?_;clear Yf0
           refine Yf1.t _ (ex_move rfl (Yf1.f 219)) fun _ Yf2 => ?_;clear Yf1
           cases hg3 : (decide (adE9 c t x = 0) && b3)
           ·rw [hg3] at Yf2 hno
            refine Yf2.g 220 rfl rfl (undef) (fun hc => absurd hc (by decide)) fun _ Yf3 => ?_;clear Yf2
            refine Yf3.g 220 rfl rfl (undef) (fun hc => absurd hc (by decide)) fun _ Yf4 => ?_;clear Yf3
            refine Yf4.g 220 rfl rfl (undef) (fun hc => absurd hc (by decide)) fun _ Yf5 => ?_;clear Yf4
            refine Yf5.g 220 rfl rfl (undef) (fun hc => absurd hc (by decide)) fun _ Yf6 => ?_;clear Yf5
            refine Yf6.g 220 rfl rfl (undef) (fun hc => absurd hc (by decide)) fun _ Yf7 => ?_;clear Yf6
            refine Yf7.g 220 rfl rfl (.bool false) (fun hc => absurd hc (by decide)) fun _ Yf8 => ?_;clear Yf7
            refine Yf8.t (.bool false) (ex_and (c:=true) (b:=false) (z:=false) rfl (Yf8.a 220 rfl) (Yf8.a 226 rfl) rfl) fun _ Yf9 => ?_;clear Yf8
            refine WE ?_
            go_upto_region 23 with fail
            refine wp_cond_false (Yf9.f 227) ?_
            have Yga:=((((((((Rp.nil Yf9.z).cons (Yf9.a 2 rfl)).cons (Yf9.a 3 rfl)).cons (Yf9.a 4 rfl)).cons (Yf9.a 7 rfl)).cons (Yf9.a 8 rfl)).cons (Yf9.a 9 rfl)).cons (Yf9.a 16 rfl))
            clear Yf9
            go_upto_region 23 with fail
            refine WL ?_
            refine Yga.t _ (ex_move rfl (Yga.f 16)) fun _ Ygb => ?_;clear Yga
            refine Ygb.t (.int .i64 ((k + 1 : Nat) : Int)) (ex_bin (Y:=.int .i64 (1)) rfl (Ygb.f 151) rfl (addD8 _ _ _ _ _ (by rw [IntKind.wrap_i64];omega) _)) fun _ Ygc => ?_;clear Ygb
            refine Ygc.t _ (ex_assign rfl (Ygc.f 152)) fun _ Ygd => ?_;clear Ygc
            have Yge:=((((((((Rp.nil Ygd.z).cons (Ygd.a 2 rfl)).cons (Ygd.a 3 rfl)).cons (Ygd.a 4 rfl)).cons (Ygd.a 7 rfl)).cons (Ygd.a 8 rfl)).cons (Ygd.a 9 rfl)).cons (Ygd.a 16 rfl))
            clear Ygd;refine WE ?_
            exact ⟨_,rfl,hik,Yge,HT,HN,HC,HS,had,tin,nin,d,by omega⟩
           ·rw [hg3] at Yf2 hno
            refine Yf2.g 220 rfl rfl _ (fun hc => ex_move rfl (Yf2.f 2)) fun _ Yf3 => ?_;clear Yf2
            refine Yf3.g 220 rfl rfl _ (fun hc => ex_move rfl (Yf3.f 16)) fun _ Yf4 => ?_;clear Yf3
            refine Yf4.g 220 rfl rfl (.pointer (some ⟨qm,om + k * 18,none⟩)) (fun hc => ex_ix rfl (Yf4.v 221 hc) (Yf4.v 222 hc) (by rw [hqm];exact ixMs9 qm om L.length c2 k (by omega) _)) fun _ Yf5 => ?_;clear Yf4
            refine Yf5.g 220 rfl rfl _ (fun hc => ex_fa rfl (Yf5.v 223 hc) (faMs0 _ _ _)) fun _ Yf6 => ?_;clear Yf5
            refine Yf6.g 220 rfl rfl _ (fun hc => ex_ld rfl (Yf6.v 224 hc) (ldKd9 (hml k x hx 0 _ rfl))) fun _ Yf7 => ?_;clear Yf6
            refine vcallP (show Region.wanted _ _ = (true && (true == true)) from want_g rfl rfl (Yf7.a 220 rfl)) (ex_call rfl (by simp only [LA,LB,LC,(Yf7.v 225 rfl),evc] <;> rfl) rfl) (between9 x.m.k wp (hT.later d hT.lt)) rfl Yf7.z (by decide) ?_;rintro e wq ⟨rfl,bq⟩;refine ⟨_,rfl,Yf7.k fun _ Yf8 => ?_⟩;clear Yf7;replace HC:=HC.bel bq;replace HS:=HS.bel bq;replace HN:=HN.bel bq;replace nin:=nin.later bq;replace HT:=HT.bel bq;replace tin:=tin.later bq;replace had:=had.later9 bq;replace d:=d.trans (bq.mono (by have:=d.size;omega));have zwq:=bq.size;clear bq;rw [Bool.true_and] at hno;rw [hno] at Yf8
            refine Yf8.t (.bool false) (ex_and (c:=true) (b:=true) (z:=false) rfl (Yf8.a 220 rfl) (Yf8.a 226 rfl) rfl) fun _ Yf9 => ?_;clear Yf8
            refine WE ?_
            go_upto_region 23 with fail
            refine wp_cond_false (Yf9.f 227) ?_
            have Yga:=((((((((Rp.nil Yf9.z).cons (Yf9.a 2 rfl)).cons (Yf9.a 3 rfl)).cons (Yf9.a 4 rfl)).cons (Yf9.a 7 rfl)).cons (Yf9.a 8 rfl)).cons (Yf9.a 9 rfl)).cons (Yf9.a 16 rfl))
            clear Yf9
            go_upto_region 23 with fail
            refine WL ?_
            refine Yga.t _ (ex_move rfl (Yga.f 16)) fun _ Ygb => ?_;clear Yga
            refine Ygb.t (.int .i64 ((k + 1 : Nat) : Int)) (ex_bin (Y:=.int .i64 (1)) rfl (Ygb.f 151) rfl (addD8 _ _ _ _ _ (by rw [IntKind.wrap_i64];omega) _)) fun _ Ygc => ?_;clear Ygb
            refine Ygc.t _ (ex_assign rfl (Ygc.f 152)) fun _ Ygd => ?_;clear Ygc
            have Yge:=((((((((Rp.nil Ygd.z).cons (Ygd.a 2 rfl)).cons (Ygd.a 3 rfl)).cons (Ygd.a 4 rfl)).cons (Ygd.a 7 rfl)).cons (Ygd.a 8 rfl)).cons (Ygd.a 9 rfl)).cons (Ygd.a 16 rfl))
            clear Ygd;refine WE ?_
            exact ⟨_,rfl,hik,Yge,HT,HN,HC,HS,had,tin,nin,d,by omega⟩
       ·obtain rfl : k = j:=by omega
        go_upto_region 22 with fail
        refine WL ?_
        refine Ydu.t _ (ex_move rfl (Ydu.f 16)) fun _ Ydv => ?_;clear Ydu
        refine Ydv.t _ (ex_move rfl (Ydv.f 8)) fun _ Ydw => ?_;clear Ydv
        refine Ydw.t (.bool false) (ex_bin rfl (Ydw.f 148) (Ydw.f 149) (lssD8 _ _ _ _ false (decide_eq_false (by omega)) _)) fun _ Ydx => ?_;clear Ydw
        refine WE ?_
        go_upto_region 28 with fail
        refine wp_cond_false (Ydx.f 150) ?_
        go_upto_region 28 with fail
        refine WL ?_
        refine Ydx.t _ (ex_ld rfl (Ydx.f 9) (SB7.ld HT)) fun _ Ydy => ?_;clear Ydx
        obtain ⟨wx,hwx⟩ : ∃ y,y = sets wk w6.heap.size 0 t.cs:=⟨_,rfl⟩
        refine vs wx WN (ex_st rfl (Ydy.f 7) (Ydy.f 228) (by rw [hwx];exact st12 HN t)) rfl ?_
        have HN2 : SB7 wx w6.heap.size t:=by rw [hwx];exact SB7.put HN t
        have ux : Upd (fun k => k = w6.heap.size) wk wx:=by rw [hwx];exact upd12 _ _ _
        clear hwx;have zx:=ux.size;have tin2:=had.in9 tin ux l7;have HC2:=HC.upd ux (by omega);have HS2:=HS.upd ux (by omega);have d2 : Below w.heap.size w wx:=d.trans (ux.below d.size (fun k hk => by omega))
        have Ydz:=((((((Rp.nil Ydy.z).cons (Ydy.a 2 rfl)).cons (Ydy.a 3 rfl)).cons (Ydy.a 4 rfl)).cons (Ydy.a 7 rfl)).cons (Ydy.a 8 rfl))
        clear Ydy;refine WE ?_
        go_upto_region 8 with fail
        refine WL ?_
        refine Ydz.t _ (ex_move rfl (Ydz.f 8)) fun _ Yd0 => ?_;clear Ydz
        refine Yd0.t (.int .i64 ((k + 1 : Nat) : Int)) (ex_bin (Y:=.int .i64 (1)) rfl (Yd0.f 37) rfl (addD8 _ _ _ _ _ (by rw [IntKind.wrap_i64];omega) _)) fun _ Yd1 => ?_;clear Yd0
        refine Yd1.t _ (ex_assign rfl (Yd1.f 38)) fun _ Yd2 => ?_;clear Yd1
        have Yd3:=((((((Rp.nil Yd2.z).cons (Yd2.a 2 rfl)).cons (Yd2.a 3 rfl)).cons (Yd2.a 4 rfl)).cons (Yd2.a 7 rfl)).cons (Yd2.a 8 rfl))
        clear Yd2;refine WE ?_
        exact ⟨_,rfl,hit,t,Yd3,HN2,tin2,nt,HC2,HS2,d2,HN2.lt⟩
    ·rw [decide_eq_false hae] at Yz
     have hm0 : ¬ adM9 c m = 0:=fun h => hae (hE.trans h)
     go_upto_region 11 with fail
     refine wp_cond_true (Yz.f 52) ?_
     go_upto_region 11 with fail
     have Y0:=((((((Rp.nil Yz.z).cons (Yz.a 2 rfl)).cons (Yz.a 3 rfl)).cons (Yz.a 4 rfl)).cons (Yz.a 7 rfl)).cons (Yz.a 8 rfl))
     clear Yz;refine vh_start (fun v => Below wb.heap.size wb v) (by kernel_rfl) ?_;have hd1 : Below wb.heap.size wb wb.drew:=BR.drew;have hz1 : wb.drew.heap.size = wb.heap.size:=rfl
     generalize wb.drew = d1 at *
     have hqW : qm < wb.heap.size:=Nat.lt_of_lt_of_le hmal d.size;have dd:=d.trans (hd1.mono d.size)
     refine Y0.h 0 rfl _ (fun v hv => ex_ld rfl (Y0.f 3) (CB7.ld (HC.bel hv))) hd1 fun _ Y1 => ?_;clear Y0
     refine Y1.h 1 rfl _ (fun v hv => ex_move rfl (Y1.f 2)) hd1 fun _ Y2 => ?_;clear Y1
     refine Y2.h 2 rfl _ (fun v hv => ex_move rfl (Y2.f 8)) hd1 fun _ Y3 => ?_;clear Y2
     refine Y3.h 3 rfl _ (fun v hv => ex_ix rfl (Y3.f 54) (Y3.f 55) (by rw [hqm];exact ixMs9 qm om L.length c2 j (by omega) _)) hd1 fun _ Y4 => ?_;clear Y3
     refine Y4.h 4 rfl _ (fun v hv => ex_ld rfl (Y4.f 56) (ldMs9 (hml.upd (S:=fun _ => False) (Upd.of_below hv) hqW id) hm)) hd1 fun _ Y5 => ?_;clear Y4
     refine Y5.w 5 rfl (ex_call rfl (by simp only [LA,LB,LC,(Y5.f 53),(Y5.f 57),evc] <;> rfl) rfl) (rmcheck9 c m d1 ((hMI m (List.mem_of_getElem? hm)).later dd) (hMF m (List.mem_of_getElem? hm))) ?_;rintro e wc ⟨rfl,bc⟩;have hdc : Below wb.heap.size wb wc:=hd1.trans (bc.mono (by omega));refine ⟨_,rfl,hdc,Y5.k fun _ Y6 => ?_⟩;clear Y5
     refine Y6.h 6 rfl (.bool false) (fun v hv => ex_bin (Y:=.int .i64 (0)) rfl (Y6.f 58) rfl (by rw [eqlC,decide_eq_false hm0])) hdc fun _ Y7 => ?_;clear Y6
     refine vh_done (by kernel_rfl) ?_;clear hd1 hz1 dd
     have l7c : w6.heap.size < wc.heap.size:=by have:=hdc.size;omega
     replace HC:=HC.bel hdc;replace HS:=HS.bel hdc;replace HN:=HN.bel hdc;replace nin:=nin.later hdc;replace d:=d.trans (hdc.mono (by have:=d.size;omega));have zwc:=hdc.size;clear hdc
     go_upto_region 8 with fail
     refine wp_cond_false (Y7.f 59) ?_
     go_upto_region 8 with fail
     refine WL ?_
     refine Y7.t _ (ex_move rfl (Y7.f 8)) fun _ Y8 => ?_;clear Y7
     refine Y8.t (.int .i64 ((j + 1 : Nat) : Int)) (ex_bin (Y:=.int .i64 (1)) rfl (Y8.f 37) rfl (addD8 _ _ _ _ _ (by rw [IntKind.wrap_i64];omega) _)) fun _ Y9 => ?_;clear Y8
     refine Y9.t _ (ex_assign rfl (Y9.f 38)) fun _ Ygf => ?_;clear Y9
     have Ygg:=((((((Rp.nil Ygf.z).cons (Ygf.a 2 rfl)).cons (Ygf.a 3 rfl)).cons (Ygf.a 4 rfl)).cons (Ygf.a 7 rfl)).cons (Ygf.a 8 rfl))
     clear Ygf;refine WE ?_
     exact ⟨_,rfl,hit,n,Ygg,HN,nin,nw,HC,HS,d,l7c⟩
  ·obtain rfl : j = L.length:=by omega
   go_upto_region 7 with fail
   refine WL ?_
   refine Ya.t _ (ex_move rfl (Ya.f 8)) fun _ Yb => ?_;clear Ya
   refine Yb.t _ (ex_move rfl (Yb.f 2)) fun _ Yc => ?_;clear Yb
   refine Yc.t _ (ex_lenMs9 rfl rfl (Yc.f 34)) fun _ Yd => ?_;clear Yc
   refine Yd.t (.bool false) (ex_bin rfl (Yd.f 33) (Yd.f 35) (lssD8 _ _ _ _ false (decide_eq_false (by omega)) _)) fun _ Ye => ?_;clear Yd
   refine WE ?_
   go_upto_region 29 with fail
   refine wp_cond_false (Ye.f 36) ?_
   go_upto_region 29 with fail
   refine WL ?_
   refine Ye.t (.bool true) (ex_assign rfl rfl) fun _ Yf => ?_;clear Ye
   refine WE ?_
   go_wp2
   refine bodyPost_ret (results_tmp rfl _ _ _) rfl ?_;rw [getD_of (Yf.a 6 rfl)]
   exact ⟨rfl,d⟩
 ·rw [decide_eq_false hck] at q12
  have hrk:=rk9_ckE s c
  go_upto_region 4 with fail
  refine wp_cond_true (q12.f 26) ?_
  go_upto_region 4 with fail
  refine WL ?_
  refine q12.t _ (ex_ld rfl (q12.f 3) (CB7.ld HC)) fun _ q13 => ?_;clear q12
  refine q13.t _ (ex_ld rfl (q13.f 4) (SB7.ld HS)) fun _ q14 => ?_;clear q13
  refine q14.c (ex_call rfl (by simp only [LA,LB,LC,(q14.f 27),(q14.f 28),evc] <;> rfl) rfl) (rcheck9 c s w5 (hI.later d) hF) ?_;rintro e w6 ⟨rfl,b6⟩;refine ⟨_,rfl,q14.k fun _ q15 => ?_⟩;clear q14;replace HC:=HC.bel b6;replace HS:=HS.bel b6;replace d:=d.trans (b6.mono (by have:=d.size;omega));have zw6:=b6.size;clear b6
  refine q15.t (.bool true) (ex_bin (Y:=.int .i64 (0)) rfl (q15.f 29) rfl (by rw [neqC,hrk,decide_eq_false hck];rfl)) fun _ q16 => ?_;clear q15
  refine q16.t _ (ex_assign rfl (q16.f 30)) fun _ q17 => ?_;clear q16
  refine WE ?_
  go_wp2
  refine bodyPost_ret (results_tmp rfl _ _ _) rfl ?_;rw [getD_of (q17.a 6 rfl)]
  exact ⟨rfl,d⟩
end Go.Proofs.YtpcgnjpodnebpaaGreatDoor
