import Derived.Test.YtgncpcfncojgoaaGreatDoorF17
set_option maxRecDepth 100000
set_option linter.unusedVariables false
set_option linter.unusedSimpArgs false
namespace Go.Proofs.YtgncpcfncojgoaaGreatDoor
open Go.RowKit Go.Maps Go.Shelf
open Classical
structure Ms9 where
 m : Mg
 la : Option Addr
 lc : Nat
 L : List En
 va : Option Addr
 vc : Nat
 V : List (Int × Int)
def Ms9.val (x : Ms9) : Value:=x.m.val (.slice x.la x.L.length x.lc) (.slice x.va x.V.length x.vc)
def Ms9.cs (x : Ms9) : List Value:=x.m.cs (.slice x.la x.L.length x.lc) (.slice x.va x.V.length x.vc)
structure Ms9.In (w : World) (x : Ms9) : Prop where
 l : SlY yE w x.la x.L.length x.lc x.L
 v : SlY yD w x.va x.V.length x.vc x.V
structure Ms9.Fit (x : Ms9) : Prop where
 le : ∀ e ∈ x.L,e.fits
 ee : x.m.e.fits
 ll : x.L.length * 48 ≤ 140737488351232
 vl : x.V.length * 16 ≤ 140737488351232
theorem Ms9.In.later {w w' : World} {x : Ms9} (h : x.In w) (hb : Below w.heap.size w w') : x.In w':=⟨h.l.later hb,h.v.later hb⟩
abbrev MB9 (w : World) (q : Nat) (x : Ms9) : Prop:=BX7 w q x.cs
theorem bxM9 (x : Ms9) (w : World) : (Instr.box 70 x.val).run Tryz.prog w = .ok (.pointer (some ⟨w.heap.size,0,none⟩)) (w.alloc (.cells x.cs.toArray 70)):=rfl
theorem MB9.ld {w : World} {q : Nat} {x : Ms9} (h : MB9 w q x) : (Instr.loadAt 70 (.pointer (some ⟨q,0,none⟩))).run Tryz.prog w = .ok x.val w :=
 run_loadAt_mid (P:=Tryz.prog) w q 0 70 x.cs _ (fun j v hv => by rw [Nat.zero_add];exact h.cell j v hv) Tryz.underlying70 rfl (by kernel_rfl)
theorem ldKd9 {w : World} {q i : Nat} {z : Int} (h : w.cell? ⟨q,i,none⟩ = some (.int .i64 z)) : (Instr.loadAt 62 (.pointer (some ⟨q,i,none⟩))).run Tryz.prog w = .ok (.int .i64 z) w:=by go_simp
theorem faM9_0 (q : Nat) (w : World) : (Instr.fieldAt 70 (.pointer (some ⟨q,0,none⟩)) 0).run Tryz.prog w = .ok (.pointer (some ⟨q,0,none⟩)) w:=by go_simp
theorem faM9_1 (q : Nat) (w : World) : (Instr.fieldAt 70 (.pointer (some ⟨q,0,none⟩)) 1).run Tryz.prog w = .ok (.pointer (some ⟨q,1,none⟩)) w:=by go_simp
theorem faM9_10 (q : Nat) (w : World) : (Instr.fieldAt 70 (.pointer (some ⟨q,0,none⟩)) 10).run Tryz.prog w = .ok (.pointer (some ⟨q,17,none⟩)) w:=by go_simp
def zV9 : Vo9:=⟨0,none,0,[]⟩
theorem alV9 (w : World) : (Instr.alloc 106 true (.tuple #[])).run Tryz.prog w = .ok (.pointer (some ⟨w.heap.size,0,none⟩)) (w.alloc (.cells zV9.cs.toArray 106)):=by
 go_simp
 first | done | rfl
theorem bdV9 (n : Int) (a : Option Addr) (k c : Nat) (w : World) : (Instr.build 106 #[(0,.int .i64 n),(1,.slice a k c)]).run Tryz.prog w = .ok (.agg #[.int .i64 n,.slice a k c]) w:=by
 go_simp
 first | done | rfl
theorem stV9 {w : World} {q : Nat} {x : Vo9} (h : VB9 w q x) (y : Vo9) : (Instr.storeAt 106 (.pointer (some ⟨q,0,none⟩)) y.val).run Tryz.prog w = .ok () (sets w q 0 y.cs):=by
 have:=run_storeAt_mid (P:=Tryz.prog) w q 0 106 y.cs.toArray (fun j hj => ⟨by rw [Nat.zero_add,h.cell j _ (List.getElem?_eq_getElem (show j < x.cs.length from hj))];rfl,by rw [Nat.zero_add];exact h.free j⟩) (by kernel_rfl) (by first | rfl | (simp [Vo9.cs];first | done | rfl | exact ⟨rfl,rfl⟩));rw [setCells_sets] at this
 exact this
theorem VB9.put {w : World} {q : Nat} {x : Vo9} (h : VB9 w q x) (y : Vo9) : VB9 (sets w q 0 y.cs) q y:=by
 have h1:=BX7.set h (j:=0) (by simp [Vo9.cs]) (.int .i64 y.n);have h2:=BX7.set h1 (j:=1) (by simp [Vo9.cs]) (.slice y.a y.D.length y.c)
 exact h2
theorem updV9 (w : World) (q : Nat) (y : Vo9) : Upd (fun k => k = q) w (sets w q 0 y.cs):=((Upd.refl (fun k => k = q) w).setCell (p:=⟨q,0,none⟩) (.inl rfl) _).setCell (p:=⟨q,1,none⟩) (.inl rfl) _
theorem vh_twoV9 {ops : Array Oper} {o o2 : Oper} {T : Array Value} {df : List Deferred} {w : World} {Q : Exit → Act → World → Prop} {S : World → Prop} {fuel d d2 n : Nat} {listed : Array Bool} (i j : Nat) (hr : Region.ready .any ops listed = [i,j]) (hi : ops[i]? = some o) (hj : ops[j]? = some o2)
  (V1 : Value) (w1 : World) (hw : Region.wanted o (yielded ops T) = true) (he : (execOp (⟨T,df⟩ : Act).eval o).run Tryz.prog w = .ok (.value V1) w1) (hd : o.dst = some d) (hz : T.size = n) (hn : d < n) (hS1 : S w1)
  (hk : ∀ T' : Array Value,T'.size = n → (∀ j,j ≠ d → T'[j]? = T[j]?) → T'[d]? = some (gw true V1) → VH ops Q S fuel (listed.setIfInBounds i true) ⟨T',df⟩ w1)
  (V : Value) (w2 : World) (hw2 : Region.wanted o2 (yielded ops T) = true) (he2 : (execOp (⟨T,df⟩ : Act).eval o2).run Tryz.prog w = .ok (.value V) w2) (hd2 : o2.dst = some d2) (hn2 : d2 < n) (hS2 : S w2)
  (hk2 : ∀ T' : Array Value,T'.size = n → (∀ j,j ≠ d2 → T'[j]? = T[j]?) → T'[d2]? = some (gw true V) → VH ops Q S fuel (listed.setIfInBounds j true) ⟨T',df⟩ w2) : VH ops Q S (fuel + 1) listed ⟨T,df⟩ w:=by
 refine ⟨wpAnyH_all hr (by simp) (fun k hkm => ?_)⟩
 have hkm : k = i ∨ k = j:=by simpa using hkm
 rcases hkm with rfl | rfl
 ·unfold wpOp
  rw [hi];simp only [hw,if_true];refine .inl ?_
  unfold Oper.wp
  rw [he,Oper.upon_value];refine ⟨hS1,?_⟩;rw [hd]
  exact (hk (T.setIfInBounds d V1) (by simp [hz]) (fun i hi => at_set_ne _ hi) (at_set _ (by omega))).out
 ·unfold wpOp
  rw [hj];simp only [hw2,if_true];refine .inl ?_
  unfold Oper.wp
  rw [he2,Oper.upon_value];refine ⟨hS2,?_⟩;rw [hd2]
  exact (hk2 (T.setIfInBounds d2 V) (by simp [hz]) (fun i hi => at_set_ne _ hi) (at_set _ (by omega))).out
theorem ex_bs2_9 {o : Oper} {ρ : Operand → Value} {s : TypeId} {x y : Operand} {X Y V : Value} {w w' : World} (ho : o.op = .buildSlice s 2 #[(0,x),(1,y)]) (hx : ρ x = X) (hy : ρ y = Y) (hr : (Instr.buildSlice s 2 #[(0,X),(1,Y)]).run Tryz.prog w = .ok V w') : (execOp ρ o).run Tryz.prog w = .ok (.value V) w':=by
 unfold execOp
 simp only [ho,List.map_toArray,List.map_cons,List.map_nil,hx,hy,Sem.run_bind,hr,Result.andThen_ok]
 rfl
theorem bsVV9 (a b : Option Addr) {n m c k : Nat} (w : World) : (Instr.buildSlice 52 2 #[(0,.slice a n c),(1,.slice b m k)]).run Tryz.prog w = .ok (.slice (some ⟨w.heap.size,0,none⟩) 2 2) (w.alloc (.cells #[.slice a n c,.slice b m k] 30)):=by
 go_simp
 first | done | rfl
def mine9 (s : Sta) : Vo9:=⟨s.self,s.va,s.vc,s.V⟩
def thr9 (m : Ms9) : Vo9:=⟨m.m.nd,m.va,m.vc,m.V⟩
def hear9 (s : Sta) (m : Ms9) : Bool:=!ovB9 s.V (thr9 m) && !ovB9 m.V (mine9 s)
def Cg.cf (c : Cg) : Cf:=⟨c.F,c.R,c.P,c.u⟩
def adM9 (c : Cg) (m : Ms9) : Int:=ckM c.cf m.m m.L m.V
def adE9 (c : Cg) (s : Sta) (m : Ms9) : Int:=if s.ckE c = 0 then adM9 c m else s.ckE c
def adB9 (c : Cg) (s : Sta) (m : Ms9) : Bool:=!btB m.m.k || (!decide (m.m.nd = s.self) && (c.u || hear9 s m))
def adV9 (c : Cg) (s : Sta) (m : Ms9) : List (Int × Int):=if (btB m.m.k && (!decide (m.m.nd = s.self) && (!c.u && hear9 s m))) = true then jn9 s.V m.V else s.V
def Ad9 (B : Nat) (c : Cg) (s : Sta) (m : Ms9) (t : Sta) (b : Bool) (w : World) : Prop :=
 (adE9 c s m ≠ 0∧t = zS8∧b = false) ∨ (adE9 c s m = 0∧t.Kn B s (adV9 c s m) w∧t.Lo B∧b = adB9 c s m)
theorem mcheck9 (c : Cg) (m : Ms9) (w : World) (hT : Tab w) (hM : m.In w) (hF : m.Fit) : Calls Tryz.prog 43 #[c.val,m.val] w fun e w' => e = .returned (.int .i64 (adM9 c m))∧Below w.heap.size w w' :=
 checkM_any c.cf m.m m.la m.va m.lc m.vc m.L m.V w hT hM.l hF.le hM.v hF.ee
theorem between9 (x : Int) (w : World) (hT : Tab w) : Calls Tryz.prog 49 #[.int .i64 x] w fun e w' => e = .returned (.bool (btB x))∧Below w.heap.size w w' :=
 (between7 x w hT).mono fun e w' h => ⟨h.1,by rw [h.2];exact Below.refl _ _⟩
theorem tab_vec9 : ∀ k,k < 15 → 3 ≤ k → k ≤ 12 → tabA k 9 = 20:=by decide
theorem adlen9 {c : Cg} {s : Sta} {m : Ms9} (h1 : s.ckE c = 0) (h2 : adM9 c m = 0) (h3 : btB m.m.k = true) : (1 ≤ s.V.length∧s.V.length ≤ 7)∧m.V.length = s.V.length:=by
 have hok : c.okB = true:=by
  unfold Sta.ckE at h1
  cases e : c.okB with
  | true => rfl
  | false => rw [e] at h1;simp at h1
 obtain ⟨n1,n2,n3⟩:=Cg.nd_ok hok
 have hs : s.stB c = true:=by
  unfold Sta.ckE at h1
  rw [hok] at h1
  cases e : s.stB c with
  | true => rfl
  | false => rw [e] at h1;simp at h1
 simp only [Sta.stB,Bool.and_eq_true] at hs;have hn:=hs.1.1.1;simp only [Sta.numB,Bool.and_eq_true,decide_eq_true_eq] at hn
 have hv : (s.V.length : Int) = c.nd:=by
  have h:=hn.1.1.1.1.1.2
  by_cases e : (s.V.length : Int) = c.nd
  ·exact e
  ·rw [if_neg e] at h;omega
 have hk : 3 ≤ m.m.k∧m.m.k ≤ 12:=by simpa [btB] using h3
 unfold adM9 ckM at h2
 split at h2
 ·omega
 ·split at h2
  ·omega
  ·split at h2
   ·rename_i hall
    have h9:=List.all_eq_true.1 hall 9 (by simp);obtain ⟨k,hk'⟩:=Int.eq_ofNat_of_zero_le (show 0 ≤ m.m.k by omega)
    have ht : tabA m.m.k.toNat 9 = 20:=by rw [hk'];exact tab_vec9 k (by omega) (by omega) (by omega)
    rw [ht] at h9;have h8 : (m.V.length : Int) = 2 * c.F + 1:=of_decide_eq_true h9
    omega
   ·omega
set_option maxHeartbeats 1000000 in
theorem mayhear9 (s : Sta) (m : Ms9) (w : World) (hI : s.In w) (hM : m.In w) : Calls Tryz.prog 81 #[s.val,m.val] w fun e w' => e = .returned (.bool (hear9 s m))∧Below w.heap.size w w':=by
 go_enter Tryz.func81,Tryz.ntmps81
 go_upto_region 0 with fail
 refine wp_region_lit ?_;refine vl_gen (fun T => T.size = 29∧T[0]? = some (gw true (s.val))∧T[1]? = some (gw true (m.val))) ⟨rfl,rfl,rfl⟩ (fun Z0 ⟨hz,s0,s1⟩ => ?_)
 obtain ⟨w1,hw1⟩ : ∃ y,y = w.alloc (.cells s.cs.toArray 36):=⟨_,rfl⟩
 have hb : Below w.heap.size w w1:=by rw [hw1];exact (Below.refl _ _).alloc (Nat.le_refl _) _
 have hs1 : w1.heap.size = w.heap.size + 1:=by rw [hw1];simp
 have HS : SB7 w1 (w.heap.size) s:=by rw [hw1];exact BX7.new _ _ _
 refine vw (.pointer (some ⟨w.heap.size,0,none⟩)) w1 (want_none rfl) (ex_box8 rfl (ev s0 rfl) (by rw [hw1];exact bxS7 _ _)) rfl hz (by decide) (fun Z1 zz kk s2x => ?_);replace s1:=ku s1;clear kk hz s0 hw1;have hz:=zz;have s2:=s2x;clear zz s2x;have hB:=hb;clear hb
 obtain ⟨w2,hw2⟩ : ∃ y,y = w1.alloc (.cells m.cs.toArray 70):=⟨_,rfl⟩
 have hb : Below w1.heap.size w1 w2:=by rw [hw2];exact (Below.refl _ _).alloc (Nat.le_refl _) _
 have hs2 : w2.heap.size = w.heap.size + 2:=by rw [hw2];simp;omega
 have HM : MB9 w2 (w.heap.size + 1) m:=by rw [hw2,← hs1];exact BX7.new _ _ _
 refine vw (.pointer (some ⟨w.heap.size + 1,0,none⟩)) w2 (want_none rfl) (ex_box8 rfl (ev s1 rfl) (by rw [hw2,← hs1];exact bxM9 _ _)) rfl hz (by decide) (fun Z2 zz kk s3x => ?_);replace s2:=ku s2;clear kk hz s1 hw2;have hz:=zz;have s3:=s3x;clear zz s3x;have hB:=hB.trans (hb.mono (by omega));have HS:=HS.bel hb;clear hb;have hv0 : Below w2.heap.size w2 w2:=Below.refl _ _;have q115_0:=((Rp.nil hz).cons s2).cons s3;clear hz s2 s3
 refine q115_0.t (.bool false) (ex_assign rfl rfl) fun _ q115_1 => ?_;clear q115_0
 have hz:=q115_1.z;have s2:=q115_1.a 2 rfl;have s3:=q115_1.a 3 rfl;clear q115_1;refine wpList_nil ?_;have hb0 : Below w2.heap.size w2 w2.drew:=(Below.refl _ _).drew;have hB:=hB.trans (hb0.mono (by omega))
 have hS : SB7 w2.drew (w.heap.size) s∧MB9 w2.drew (w.heap.size + 1) m:=⟨HS.bel hb0,HM.bel hb0⟩
 have hzd : w2.drew.heap.size = w.heap.size + 2:=hs2;clear hb0 HS HM hv0
 go_upto_region 1 with fail
 refine v_cut9 (fun T v => T.size = 29∧T[2]? = some (gw true (.pointer (some ⟨w.heap.size,0,none⟩)))∧T[3]? = some (gw true (.pointer (some ⟨w.heap.size + 1,0,none⟩)))∧∃ (q5 q6 : Nat),T[5]? = some (gw true (.pointer (some ⟨q5,0,none⟩)))∧T[6]? = some (gw true (.pointer (some ⟨q6,0,none⟩)))∧Hid (VB9 v q5 (mine9 s)∧VB9 v q6 (thr9 m)∧SB7 v (w.heap.size) s∧MB9 v (w.heap.size + 1) m∧Below w.heap.size w v)) ?_ ?_
 ·refine vh_start (fun v => SB7 v (w.heap.size) s∧MB9 v (w.heap.size + 1) m) (by kernel_rfl) ?_
  obtain ⟨wd,hwd⟩ : ∃ y,y = w2.drew:=⟨_,rfl⟩
  rw [← hwd] at hS hB hzd ⊢;clear hwd;refine vh_take 0 true (.pointer (some ⟨w.heap.size,0,none⟩)) rfl (by kernel_rfl) (by kernel_rfl) (by kernel_rfl) (want_none rfl) (fun hc v hv => ex_fa rfl (ev s2 rfl) (faS0 _ _)) rfl hz (by decide) hS (fun R1 zz kk s7 => ?_);replace s2:=ku s2;replace s3:=ku s3;replace hz:=zz;clear kk zz;refine vh_take 1 true (.int .i64 s.self) rfl (by kernel_rfl) (by kernel_rfl) (by kernel_rfl) (want_none rfl) (fun hc v hv => ex_ld rfl (ev s7 rfl) (ldI8 (hv.1.cell 0 _ rfl))) rfl hz (by decide) hS (fun R2 zz kk s8 => ?_);replace s2:=ku s2;replace s3:=ku s3;replace s7:=ku s7;replace hz:=zz;clear kk zz;refine vh_take 2 true (.pointer (some ⟨w.heap.size,6,none⟩)) rfl (by kernel_rfl) (by kernel_rfl) (by kernel_rfl) (want_none rfl) (fun hc v hv => ex_fa rfl (ev s2 rfl) (faS6 _ _)) rfl hz (by decide) hS (fun R3 zz kk s9 => ?_);replace s2:=ku s2;replace s3:=ku s3;replace s7:=ku s7;replace s8:=ku s8;replace hz:=zz;clear kk zz;refine vh_take 3 true (.slice s.va s.V.length s.vc) rfl (by kernel_rfl) (by kernel_rfl) (by kernel_rfl) (want_none rfl) (fun hc v hv => ex_ld rfl (ev s9 rfl) (ldV8 (hv.1.cell 6 _ rfl))) rfl hz (by decide) hS (fun R4 zz kk s10 => ?_);replace s2:=ku s2;replace s3:=ku s3;replace s7:=ku s7;replace s8:=ku s8;replace s9:=ku s9;replace hz:=zz;clear kk zz;refine vh_take 4 true (Vo9.val (mine9 s)) rfl (by kernel_rfl) (by kernel_rfl) (by kernel_rfl) (want_none rfl) (fun hc v hv => ex_buildP rfl (by simp only [List.map_toArray,List.map_cons,List.map_nil,(ev s8 rfl),(ev s10 rfl)] <;> rfl) (bdV9 _ _ _ _ _)) rfl hz (by decide) hS (fun R5 zz kk s11 => ?_);replace s2:=ku s2;replace s3:=ku s3;replace s7:=ku s7;replace s8:=ku s8;replace s9:=ku s9;replace s10:=ku s10;replace hz:=zz;clear kk zz;refine vh_take 5 true (.pointer (some ⟨w.heap.size + 1,1,none⟩)) rfl (by kernel_rfl) (by kernel_rfl) (by kernel_rfl) (want_none rfl) (fun hc v hv => ex_fa rfl (ev s3 rfl) (faM9_1 _ _)) rfl hz (by decide) hS (fun R6 zz kk s12 => ?_);replace s2:=ku s2;replace s3:=ku s3;replace s7:=ku s7;replace s8:=ku s8;replace s9:=ku s9;replace s10:=ku s10;replace s11:=ku s11;replace hz:=zz;clear kk zz;refine vh_take 6 true (.int .i64 m.m.nd) rfl (by kernel_rfl) (by kernel_rfl) (by kernel_rfl) (want_none rfl) (fun hc v hv => ex_ld rfl (ev s12 rfl) (ldI8 (hv.2.cell 1 _ rfl))) rfl hz (by decide) hS (fun R7 zz kk s13 => ?_);replace s2:=ku s2;replace s3:=ku s3;replace s7:=ku s7;replace s8:=ku s8;replace s9:=ku s9;replace s10:=ku s10;replace s11:=ku s11;replace s12:=ku s12;replace hz:=zz;clear kk zz;refine vh_take 7 true (.pointer (some ⟨w.heap.size + 1,17,none⟩)) rfl (by kernel_rfl) (by kernel_rfl) (by kernel_rfl) (want_none rfl) (fun hc v hv => ex_fa rfl (ev s3 rfl) (faM9_10 _ _)) rfl hz (by decide) hS (fun R8 zz kk s14 => ?_);replace s2:=ku s2;replace s3:=ku s3;replace s7:=ku s7;replace s8:=ku s8;replace s9:=ku s9;replace s10:=ku s10;replace s11:=ku s11;replace s12:=ku s12;replace s13:=ku s13;replace hz:=zz;clear kk zz;refine vh_take 8 true (.slice m.va m.V.length m.vc) rfl (by kernel_rfl) (by kernel_rfl) (by kernel_rfl) (want_none rfl) (fun hc v hv => ex_ld rfl (ev s14 rfl) (ldV8 (hv.2.cell 17 _ rfl))) rfl hz (by decide) hS (fun R9 zz kk s15 => ?_);replace s2:=ku s2;replace s3:=ku s3;replace s7:=ku s7;replace s8:=ku s8;replace s9:=ku s9;replace s10:=ku s10;replace s11:=ku s11;replace s12:=ku s12;replace s13:=ku s13;replace s14:=ku s14;replace hz:=zz;clear kk zz;refine vh_take 9 true (Vo9.val (thr9 m)) rfl (by kernel_rfl) (by kernel_rfl) (by kernel_rfl) (want_none rfl) (fun hc v hv => ex_buildP rfl (by simp only [List.map_toArray,List.map_cons,List.map_nil,(ev s13 rfl),(ev s15 rfl)] <;> rfl) (bdV9 _ _ _ _ _)) rfl hz (by decide) hS (fun R10 zz kk s16 => ?_);replace s2:=ku s2;replace s3:=ku s3;replace s7:=ku s7;replace s8:=ku s8;replace s9:=ku s9;replace s10:=ku s10;replace s11:=ku s11;replace s12:=ku s12;replace s13:=ku s13;replace s14:=ku s14;replace s15:=ku s15;replace hz:=zz;clear kk zz
  obtain ⟨q5,hq5⟩ : ∃ z,z = wd.heap.size:=⟨_,rfl⟩
  obtain ⟨wa,hwa⟩ : ∃ y,y = wd.alloc (.cells zV9.cs.toArray 106):=⟨_,rfl⟩
  have bwa : Below wd.heap.size wd wa:=by rw [hwa];exact (Below.refl _ _).alloc (Nat.le_refl _) _
  have HQq5 : VB9 wa q5 zV9:=by rw [hwa,hq5];exact BX7.new _ _ _
  have zwa:=bwa.size;have hS5:=And.intro (hS.1.bel bwa) (hS.2.bel bwa);have lwa:=HQq5.lt
  obtain ⟨q6,hq6⟩ : ∃ z,z = wd.heap.size:=⟨_,rfl⟩
  obtain ⟨wb,hwb⟩ : ∃ y,y = wd.alloc (.cells zV9.cs.toArray 106):=⟨_,rfl⟩
  have bwb : Below wd.heap.size wd wb:=by rw [hwb];exact (Below.refl _ _).alloc (Nat.le_refl _) _
  have HQq6 : VB9 wb q6 zV9:=by rw [hwb,hq6];exact BX7.new _ _ _
  have zwb:=bwb.size;have hS6:=And.intro (hS.1.bel bwb) (hS.2.bel bwb);have lwb:=HQq6.lt;refine vh_twoV9 10 11 (by kernel_rfl) rfl rfl (.pointer (some ⟨q5,0,none⟩)) wa (want_none rfl) (ex_al rfl (by rw [hwa,hq5];exact alV9 _)) rfl hz (by decide) hS5 ?_ (.pointer (some ⟨q6,0,none⟩)) wb (want_none rfl) (ex_al rfl (by rw [hwb,hq6];exact alV9 _)) rfl (by decide) hS6 ?_
  ·skip
   clear hwb bwb HQq6 zwb hS6 lwb hq6 wb q6;intro R11 zz kk s5x;replace s2:=ku s2;replace s3:=ku s3;replace s7:=ku s7;replace s8:=ku s8;replace s9:=ku s9;replace s10:=ku s10;replace s11:=ku s11;replace s12:=ku s12;replace s13:=ku s13;replace s14:=ku s14;replace s15:=ku s15;replace s16:=ku s16;clear kk hz;have hz:=zz;have s5:=s5x;clear zz s5x;clear hS;have hS:=hS5;have hB:=hB.trans (bwa.mono (by omega));clear hwa
   obtain ⟨q6,hq6⟩ : ∃ z,z = wa.heap.size:=⟨_,rfl⟩
   obtain ⟨wf,hwf⟩ : ∃ y,y = wa.alloc (.cells zV9.cs.toArray 106):=⟨_,rfl⟩
   have bwf : Below wa.heap.size wa wf:=by rw [hwf];exact (Below.refl _ _).alloc (Nat.le_refl _) _
   have HQq6 : VB9 wf q6 zV9:=by rw [hwf,hq6];exact BX7.new _ _ _
   have zwf:=bwf.size;have hS7:=And.intro (hS.1.bel bwf) (hS.2.bel bwf);have lwf:=HQq6.lt;have HQq5:=HQq5.bel bwf;refine vh_val8 11 (.pointer (some ⟨q6,0,none⟩)) wf rfl (by kernel_rfl) (want_none rfl) (ex_al rfl (by rw [hwf,hq6];exact alV9 _)) rfl hz (by decide) hS7 (fun R12 zz kk s6 => ?_);replace s2:=ku s2;replace s3:=ku s3;replace s7:=ku s7;replace s8:=ku s8;replace s9:=ku s9;replace s10:=ku s10;replace s11:=ku s11;replace s12:=ku s12;replace s13:=ku s13;replace s14:=ku s14;replace s15:=ku s15;replace s16:=ku s16;replace s5:=ku s5;replace hz:=zz;clear kk zz;clear hS;have hS:=hS7;have hB:=hB.trans (bwf.mono (by omega));clear hwf hS7;have HPq5:=VB9.put HQq5 (mine9 s);have UPq5:=updV9 wf q5 (mine9 s);have hS8:=And.intro (hS.1.upd UPq5 (by show ¬ w.heap.size = q5;omega)) (hS.2.upd UPq5 (by show ¬ w.heap.size + 1 = q5;omega));refine vh_store8 12 (sets wf q5 0 (Vo9.cs (mine9 s))) rfl (by kernel_rfl) (want_none rfl) (ex_st rfl (ev s5 rfl) (ev s11 rfl) (stV9 HQq5 (mine9 s))) rfl hS8 ?_
   obtain ⟨wc,hwc⟩ : ∃ v,v = sets wf q5 0 (Vo9.cs (mine9 s)):=⟨_,rfl⟩
   rw [← hwc] at HPq5 UPq5 hS8 ⊢;clear hwc;have hB:=hB.trans (UPq5.below (B:=w.heap.size) (by omega) (fun k hk => by omega));have zz9:=UPq5.size;clear hS;have hS:=hS8;clear hS8;have HQq6:=HQq6.upd UPq5 (by show ¬ q6 = q5;omega);have HPq6:=VB9.put HQq6 (thr9 m);have UPq6:=updV9 wc q6 (thr9 m);have hS8:=And.intro (hS.1.upd UPq6 (by show ¬ w.heap.size = q6;omega)) (hS.2.upd UPq6 (by show ¬ w.heap.size + 1 = q6;omega));refine vh_store8 13 (sets wc q6 0 (Vo9.cs (thr9 m))) rfl (by kernel_rfl) (want_none rfl) (ex_st rfl (ev s6 rfl) (ev s16 rfl) (stV9 HQq6 (thr9 m))) rfl hS8 ?_
   obtain ⟨we,hwe⟩ : ∃ v,v = sets wc q6 0 (Vo9.cs (thr9 m)):=⟨_,rfl⟩
   rw [← hwe] at HPq6 UPq6 hS8 ⊢;clear hwe;have hB:=hB.trans (UPq6.below (B:=w.heap.size) (by omega) (fun k hk => by omega));have zz9:=UPq6.size;clear hS;have hS:=hS8;clear hS8;have HPq5:=HPq5.upd UPq6 (by show ¬ q5 = q6;omega);refine vh_done (by kernel_rfl) ?_
   exact ⟨_,rfl,hz,s2,s3,q5,q6,s5,s6,HPq5,HPq6,hS.1,hS.2,hB⟩
  ·skip
   clear hwa bwa HQq5 zwa hS5 lwa hq5 wa q5;intro R13 zz kk s6x;replace s2:=ku s2;replace s3:=ku s3;replace s7:=ku s7;replace s8:=ku s8;replace s9:=ku s9;replace s10:=ku s10;replace s11:=ku s11;replace s12:=ku s12;replace s13:=ku s13;replace s14:=ku s14;replace s15:=ku s15;replace s16:=ku s16;clear kk hz;have hz:=zz;have s6:=s6x;clear zz s6x;clear hS;have hS:=hS6;have hB:=hB.trans (bwb.mono (by omega));clear hwb
   obtain ⟨q5,hq5⟩ : ∃ z,z = wb.heap.size:=⟨_,rfl⟩
   obtain ⟨wf,hwf⟩ : ∃ y,y = wb.alloc (.cells zV9.cs.toArray 106):=⟨_,rfl⟩
   have bwf : Below wb.heap.size wb wf:=by rw [hwf];exact (Below.refl _ _).alloc (Nat.le_refl _) _
   have HQq5 : VB9 wf q5 zV9:=by rw [hwf,hq5];exact BX7.new _ _ _
   have zwf:=bwf.size;have hS7:=And.intro (hS.1.bel bwf) (hS.2.bel bwf);have lwf:=HQq5.lt;have HQq6:=HQq6.bel bwf;refine vh_val8 10 (.pointer (some ⟨q5,0,none⟩)) wf rfl (by kernel_rfl) (want_none rfl) (ex_al rfl (by rw [hwf,hq5];exact alV9 _)) rfl hz (by decide) hS7 (fun R14 zz kk s5 => ?_);replace s2:=ku s2;replace s3:=ku s3;replace s7:=ku s7;replace s8:=ku s8;replace s9:=ku s9;replace s10:=ku s10;replace s11:=ku s11;replace s12:=ku s12;replace s13:=ku s13;replace s14:=ku s14;replace s15:=ku s15;replace s16:=ku s16;replace s6:=ku s6;replace hz:=zz;clear kk zz;clear hS;have hS:=hS7;have hB:=hB.trans (bwf.mono (by omega));clear hwf hS7;have HPq5:=VB9.put HQq5 (mine9 s);have UPq5:=updV9 wf q5 (mine9 s);have hS8:=And.intro (hS.1.upd UPq5 (by show ¬ w.heap.size = q5;omega)) (hS.2.upd UPq5 (by show ¬ w.heap.size + 1 = q5;omega));refine vh_store8 12 (sets wf q5 0 (Vo9.cs (mine9 s))) rfl (by kernel_rfl) (want_none rfl) (ex_st rfl (ev s5 rfl) (ev s11 rfl) (stV9 HQq5 (mine9 s))) rfl hS8 ?_
   obtain ⟨wc,hwc⟩ : ∃ v,v = sets wf q5 0 (Vo9.cs (mine9 s)):=⟨_,rfl⟩
   rw [← hwc] at HPq5 UPq5 hS8 ⊢;clear hwc;have hB:=hB.trans (UPq5.below (B:=w.heap.size) (by omega) (fun k hk => by omega));have zz9:=UPq5.size;clear hS;have hS:=hS8;clear hS8;have HQq6:=HQq6.upd UPq5 (by show ¬ q6 = q5;omega);have HPq6:=VB9.put HQq6 (thr9 m);have UPq6:=updV9 wc q6 (thr9 m);have hS8:=And.intro (hS.1.upd UPq6 (by show ¬ w.heap.size = q6;omega)) (hS.2.upd UPq6 (by show ¬ w.heap.size + 1 = q6;omega));refine vh_store8 13 (sets wc q6 0 (Vo9.cs (thr9 m))) rfl (by kernel_rfl) (want_none rfl) (ex_st rfl (ev s6 rfl) (ev s16 rfl) (stV9 HQq6 (thr9 m))) rfl hS8 ?_
   obtain ⟨we,hwe⟩ : ∃ v,v = sets wc q6 0 (Vo9.cs (thr9 m)):=⟨_,rfl⟩
   rw [← hwe] at HPq6 UPq6 hS8 ⊢;clear hwe;have hB:=hB.trans (UPq6.below (B:=w.heap.size) (by omega) (fun k hk => by omega));have zz9:=UPq6.size;clear hS;have hS:=hS8;clear hS8;have HPq5:=HPq5.upd UPq6 (by show ¬ q5 = q6;omega);refine vh_done (by kernel_rfl) ?_
   exact ⟨_,rfl,hz,s2,s3,q5,q6,s5,s6,HPq5,HPq6,hS.1,hS.2,hB⟩
 ·clear hz s2 s3 hS hB hzd
  intro T9 z1 hJ;obtain ⟨hz,s2,s3,q5,q6,s5,s6,HI9⟩:=hJ;obtain ⟨H5,H6,HS,HM,hB⟩:=HI9.out;clear HI9;have hv0 : Below z1.heap.size z1 z1:=Below.refl _ _;have hzz:=hB.size
  go_upto_region 2 with fail
  refine wp_region_lit ?_;have q116_0:=((((Rp.nil hz).cons s2).cons s3).cons s5).cons s6;clear hz s2 s3 s5 s6
  refine q116_0.t (.pointer (some ⟨w.heap.size,6,none⟩)) (ex_fa rfl (q116_0.e (j:=2) rfl) (faS6 _ _)) fun _ q116_1 => ?_;clear q116_0
  refine q116_1.t (.slice s.va s.V.length s.vc) (ex_ld rfl (q116_1.e (j:=17) rfl) (ldV8 ((HS.bel hv0).cell 6 _ rfl))) fun _ q116_2 => ?_;clear q116_1
  refine q116_2.t (Vo9.val (thr9 m)) (ex_ld rfl (q116_2.e (j:=6) rfl) (VB9.ld (H6.bel hv0))) fun _ q116_3 => ?_;clear q116_2
  refine vcall true (.bool (ovB9 s.V (thr9 m))) (want_none rfl) (fun hc => ex_call rfl (by simp only [List.map_toArray,List.map_cons,List.map_nil,(q116_3.e (j:=18) rfl),(q116_3.e (j:=19) rfl),evc] <;> rfl) rfl) (fun hc => over9 s.V s.va s.vc (thr9 m) z1 ((hI.later (hB.trans (hv0.mono hzz))).v) ((hM.later (hB.trans (hv0.mono hzz))).v)) rfl q116_3.z (by decide) (q116_3.kc fun Ya x1 hb q116_4 => ?_);clear q116_3;have hx1:=hv0.trans (hb.mono hv0.size);clear hb
  refine q116_4.t (.bool (!(ovB9 s.V (thr9 m)))) (ex_not rfl (q116_4.e (j:=20) rfl)) fun _ q116_5 => ?_;clear q116_4
  refine q116_5.t _ (ex_move rfl (q116_5.e (j:=21) rfl)) fun _ q116_6 => ?_;clear q116_5
  refine vl _ (.pointer (some ⟨w.heap.size + 1,17,none⟩)) (want_g rfl rfl (q116_6.a 22 rfl)) (fun hc => ex_fa rfl (q116_6.e (j:=3) rfl) (faM9_10 _ _)) rfl q116_6.z (by decide) (q116_6.k fun Yb q116_7 => ?_);clear q116_6;refine vl _ (.slice m.va m.V.length m.vc) (want_g rfl rfl (q116_7.a 22 rfl)) (fun hc => ex_ld rfl (ev (q116_7.a 23 rfl) hc) (ldV8 ((HM.bel hx1).cell 17 _ rfl))) rfl q116_7.z (by decide) (q116_7.k fun Yc q116_8 => ?_);clear q116_7;refine vl _ (Vo9.val (mine9 s)) (want_g rfl rfl (q116_8.a 22 rfl)) (fun hc => ex_ld rfl (q116_8.e (j:=5) rfl) (VB9.ld (H5.bel hx1))) rfl q116_8.z (by decide) (q116_8.k fun Yd q116_9 => ?_);clear q116_8;refine vcall (true && ((!(ovB9 s.V (thr9 m))) == true)) (.bool (ovB9 m.V (mine9 s))) (want_g rfl rfl (q116_9.a 22 rfl)) (fun hc => ex_call rfl (by simp only [List.map_toArray,List.map_cons,List.map_nil,(ev (q116_9.a 24 rfl) hc),(ev (q116_9.a 25 rfl) hc),evc] <;> rfl) rfl) (fun hc => over9 m.V m.va m.vc (mine9 s) x1 ((hM.later (hB.trans (hx1.mono hzz))).v) ((hI.later (hB.trans (hx1.mono hzz))).v)) rfl q116_9.z (by decide) (q116_9.kc fun Ye x2 hb q116_10 => ?_);clear q116_9;have hx2:=hx1.trans (hb.mono hx1.size);clear hb;refine vl _ (.bool (!(ovB9 m.V (mine9 s)))) (want_g rfl rfl (q116_10.a 22 rfl)) (fun hc => ex_not rfl (ev (q116_10.a 26 rfl) hc)) rfl q116_10.z (by decide) (q116_10.k fun Yf q116_11 => ?_);clear q116_10
  refine q116_11.t (.bool ((!(ovB9 s.V (thr9 m))) && (!(ovB9 m.V (mine9 s))))) (ex_and rfl (q116_11.a 22 rfl) (q116_11.a 27 rfl) rfl) fun _ q116_12 => ?_;clear q116_11
  refine q116_12.t _ (ex_assign rfl (q116_12.e (j:=28) rfl)) fun _ q116_13 => ?_;clear q116_12
  have hz:=q116_13.z;have s4:=q116_13.a 4 rfl;clear q116_13;refine wpList_nil ?_
  go_wp2
  refine bodyPost_ret (results_tmp rfl _ _ _) rfl ⟨?_,hB.trans (hx2.mono hzz)⟩;rw [getD_of s4]
  rfl
set_option maxHeartbeats 1000000 in
theorem admit9 (c : Cg) (s : Sta) (m : Ms9) (w : World) (hI : s.In w) (hF : s.Fit) (hM : m.In w) (hMF : m.Fit) (hT : Tab w) : Calls Tryz.prog 31 #[c.val,s.val,m.val] w fun e w' => ∃ (t : Sta) (b : Bool),e = .returned (.tuple #[t.val,.bool b,.int .i64 (adE9 c s m)])∧t.In w'∧Ad9 w.heap.size c s m t b w'∧Below w.heap.size w w':=by
 go_enter Tryz.func31,Tryz.ntmps31
 go_upto_region 0 with fail
 refine wp_region_lit ?_;refine vl_gen (fun T => T.size = 66∧T[0]? = some (gw true (c.val))∧T[1]? = some (gw true (s.val))∧T[2]? = some (gw true (m.val))) ⟨rfl,rfl,rfl,rfl⟩ (fun Z0 ⟨hz,s0,s1,s2⟩ => ?_)
 obtain ⟨w1,hw1⟩ : ∃ y,y = w.alloc (.cells c.cs.toArray 23):=⟨_,rfl⟩
 have hb : Below w.heap.size w w1:=by rw [hw1];exact (Below.refl _ _).alloc (Nat.le_refl _) _
 have hs1 : w1.heap.size = w.heap.size + 1:=by rw [hw1];simp
 have HC : CB7 w1 (w.heap.size) c:=by rw [hw1];exact BX7.new _ _ _
 refine vw (.pointer (some ⟨w.heap.size,0,none⟩)) w1 (want_none rfl) (ex_box8 rfl (ev s0 rfl) (by rw [hw1];exact bxC7 _ _)) rfl hz (by decide) (fun Z1 zz kk s3x => ?_);replace s1:=ku s1;replace s2:=ku s2;clear kk hz s0 hw1;have hz:=zz;have s3:=s3x;clear zz s3x;have hB:=hb;clear hb
 obtain ⟨w2,hw2⟩ : ∃ y,y = w1.alloc (.cells s.cs.toArray 36):=⟨_,rfl⟩
 have hb : Below w1.heap.size w1 w2:=by rw [hw2];exact (Below.refl _ _).alloc (Nat.le_refl _) _
 have hs2 : w2.heap.size = w.heap.size + 2:=by rw [hw2];simp;omega
 have HS : SB7 w2 (w.heap.size + 1) s:=by rw [hw2,← hs1];exact BX7.new _ _ _
 refine vw (.pointer (some ⟨w.heap.size + 1,0,none⟩)) w2 (want_none rfl) (ex_box8 rfl (ev s1 rfl) (by rw [hw2,← hs1];exact bxS7 _ _)) rfl hz (by decide) (fun Z2 zz kk s4x => ?_);replace s2:=ku s2;replace s3:=ku s3;clear kk hz s1 hw2;have hz:=zz;have s4:=s4x;clear zz s4x;have hB:=hB.trans (hb.mono (by omega));have HC:=HC.bel hb;clear hb
 obtain ⟨w3,hw3⟩ : ∃ y,y = w2.alloc (.cells m.cs.toArray 70):=⟨_,rfl⟩
 have hb : Below w2.heap.size w2 w3:=by rw [hw3];exact (Below.refl _ _).alloc (Nat.le_refl _) _
 have hs3 : w3.heap.size = w.heap.size + 3:=by rw [hw3];simp;omega
 have HM : MB9 w3 (w.heap.size + 2) m:=by rw [hw3,← hs2];exact BX7.new _ _ _
 refine vw (.pointer (some ⟨w.heap.size + 2,0,none⟩)) w3 (want_none rfl) (ex_box8 rfl (ev s2 rfl) (by rw [hw3,← hs2];exact bxM9 _ _)) rfl hz (by decide) (fun Z3 zz kk s5x => ?_);replace s3:=ku s3;replace s4:=ku s4;clear kk hz s2 hw3;have hz:=zz;have s5:=s5x;clear zz s5x;have hB:=hB.trans (hb.mono (by omega));have HC:=HC.bel hb;have HS:=HS.bel hb;clear hb;have hv0 : Below w3.heap.size w3 w3:=Below.refl _ _
 obtain ⟨w4,hw4⟩ : ∃ y,y = w3.alloc (.cells zS8.cs.toArray 36):=⟨_,rfl⟩
 have hb : Below w3.heap.size w3 w4:=by rw [hw4];exact (Below.refl _ _).alloc (Nat.le_refl _) _
 have HZ : SB7 w4 (w.heap.size + 3) zS8:=by rw [hw4,← hs3];exact BX7.new _ _ _
 have hz4 : w4.heap.size = w.heap.size + 4:=by rw [hw4];simp;omega
 have q117_0:=(((Rp.nil hz).cons s3).cons s4).cons s5;clear hz s3 s4 s5;refine vw (.pointer (some ⟨w.heap.size + 3,0,none⟩)) w4 (want_none rfl) (ex_al rfl (by rw [hw4,← hs3];exact al12 _)) rfl q117_0.z (by decide) (q117_0.k fun Ya q117_1 => ?_);clear q117_0
 refine q117_1.t (.bool false) (ex_assign rfl rfl) fun _ q117_2 => ?_;clear q117_1
 refine q117_2.t (.int .i64 0) (ex_assign rfl rfl) fun _ q117_3 => ?_;clear q117_2
 have hz:=q117_3.z;have s3:=q117_3.a 3 rfl;have s4:=q117_3.a 4 rfl;have s5:=q117_3.a 5 rfl;have s6:=q117_3.a 6 rfl;clear q117_3;refine wpList_nil ?_;have hB:=hB.trans (hb.mono (by omega));have HS:=HS.bel hb;have HC:=HC.bel hb;have HM:=HM.bel hb;clear hb hw4 hv0;have hv0 : Below w4.heap.size w4 w4:=Below.refl _ _;have hzc : w4.heap.size ≤ w4.heap.size:=Nat.le_refl _;have HI:=hI.later hB;have hT4:=hT.later hB hT.lt
 go_upto_region 1 with fail
 refine wp_region_lit ?_;have q118_0:=((((Rp.nil hz).cons s3).cons s4).cons s5).cons s6;clear hz s3 s4 s5 s6
 refine q118_0.t (c.val) (ex_ld rfl (q118_0.e (j:=3) rfl) (CB7.ld (HC.bel hv0))) fun _ q118_1 => ?_;clear q118_0
 refine q118_1.t (s.val) (ex_ld rfl (q118_1.e (j:=4) rfl) (SB7.ld (HS.bel hv0))) fun _ q118_2 => ?_;clear q118_1
 refine vcall true (.int .i64 (s.ckE c)) (want_none rfl) (fun hc => ex_call rfl (by simp only [List.map_toArray,List.map_cons,List.map_nil,(q118_2.e (j:=13) rfl),(q118_2.e (j:=14) rfl),evc] <;> rfl) rfl) (fun hc => check8 c s w4 (HI.later hv0) hF) rfl q118_2.z (by decide) (q118_2.kc fun Yb x1 hb q118_3 => ?_);clear q118_2;have hx1:=hv0.trans (hb.mono hv0.size);clear hb
 refine q118_3.t _ (ex_assign rfl (q118_3.e (j:=15) rfl)) fun _ q118_4 => ?_;clear q118_3
 have hz:=q118_4.z;have s3:=q118_4.a 3 rfl;have s4:=q118_4.a 4 rfl;have s5:=q118_4.a 5 rfl;have s6:=q118_4.a 6 rfl;have s9:=q118_4.a 9 rfl;clear q118_4;refine wpList_nil ?_
 go_upto_region 2 with fail
 refine wp_region_lit ?_;have q119_0:=(((((Rp.nil hz).cons s3).cons s4).cons s5).cons s6).cons s9;clear hz s3 s4 s5 s6 s9
 refine q119_0.t _ (ex_move rfl (q119_0.e (j:=9) rfl)) fun _ q119_1 => ?_;clear q119_0
 refine q119_1.t (.bool (!decide ((s.ckE c) = 0))) (ex_bin rfl (q119_1.e (j:=16) rfl) rfl (neqN8 _ _ _ _ _)) fun _ q119_2 => ?_;clear q119_1
 have hz:=q119_2.z;have s3:=q119_2.a 3 rfl;have s4:=q119_2.a 4 rfl;have s5:=q119_2.a 5 rfl;have s6:=q119_2.a 6 rfl;have s9:=q119_2.a 9 rfl;have s17:=q119_2.a 17 rfl;clear q119_2;refine wpList_nil ?_
 go_upto_region 3 with fail
 cases e17 : decide (s.ckE c = 0)
 ·refine wp_cond_true ((ev s17 rfl).trans (by rw [e17];rfl)) ?_
  have hne:=of_decide_eq_false e17;have hEE : adE9 c s m = s.ckE c:=if_neg hne
  go_upto_region 3 with fail
  refine wp_region_lit ?_;have q120_0:=(((((Rp.nil hz).cons s3).cons s4).cons s5).cons s6).cons s9;clear hz s3 s4 s5 s6 s9
  refine q120_0.t (zS8.val) (ex_build rfl (bd12 _)) fun _ q120_1 => ?_;clear q120_0
  refine q120_1.t _ (ex_move rfl (q120_1.e (j:=9) rfl)) fun _ q120_2 => ?_;clear q120_1
  refine vs (sets x1 (w.heap.size + 3) 0 (Sta.cs zS8)) (want_none rfl) (ex_st rfl (q120_2.e (j:=6) rfl) (q120_2.e (j:=18) rfl) (st12 (HZ.bel hx1) zS8)) rfl ?_;have HP:=SB7.put (HZ.bel hx1) zS8;have UP:=upd12 x1 (w.heap.size + 3) zS8
  obtain ⟨u9,hu9⟩ : ∃ v,v = sets x1 (w.heap.size + 3) 0 (Sta.cs zS8):=⟨_,rfl⟩
  rw [← hu9] at HP UP ⊢;clear hu9
  refine q120_2.t (.bool false) (ex_assign rfl rfl) fun _ q120_3 => ?_;clear q120_2
  refine q120_3.t _ (ex_assign rfl (q120_3.e (j:=19) rfl)) fun _ q120_4 => ?_;clear q120_3
  have hz:=q120_4.z;have s6:=q120_4.a 6 rfl;have s7:=q120_4.a 7 rfl;have s8:=q120_4.a 8 rfl;clear q120_4;refine wpList_nil ?_;have hB9:=hide ((hB.trans (hx1.mono (by omega))).trans (UP.below (by have:=hx1.size;omega) (fun k hk => by omega)))
  go_wp2
  refine bodyPost_ret (results_sta3 rfl (getD_of s6) (getD_of s7) (getD_of s8) HP) rfl ?_;rw [hEE]
  exact ⟨zS8,false,rfl,zS8_in _,.inl ⟨by rw [hEE];exact hne,rfl,rfl⟩,hB9.out⟩
 ·refine wp_cond_false ((ev s17 rfl).trans (by rw [e17];rfl)) ?_
  clear s17 s9;have hE0:=of_decide_eq_true e17;have hEE : adE9 c s m = adM9 c m:=if_pos hE0;have hB:=hB.trans (hx1.mono (by omega));have HS:=HS.bel hx1;have HC:=HC.bel hx1;have HM:=HM.bel hx1;have HZ:=HZ.bel hx1;have hzc:=hx1.size;have hv1 : Below x1.heap.size x1 x1:=Below.refl _ _
  go_upto_region 4 with fail
  refine wp_region_lit ?_;have q121_0:=((((Rp.nil hz).cons s3).cons s4).cons s5).cons s6;clear hz s3 s4 s5 s6
  refine q121_0.t (c.val) (ex_ld rfl (q121_0.e (j:=3) rfl) (CB7.ld (HC.bel hv1))) fun _ q121_1 => ?_;clear q121_0
  refine q121_1.t (m.val) (ex_ld rfl (q121_1.e (j:=5) rfl) (MB9.ld (HM.bel hv1))) fun _ q121_2 => ?_;clear q121_1
  refine vcall true (.int .i64 (adM9 c m)) (want_none rfl) (fun hc => ex_call rfl (by simp only [List.map_toArray,List.map_cons,List.map_nil,(q121_2.e (j:=20) rfl),(q121_2.e (j:=21) rfl),evc] <;> rfl) rfl) (fun hc => mcheck9 c m x1 (hT.later (hB.trans (hv1.mono (by omega))) hT.lt) (hM.later (hB.trans (hv1.mono (by omega)))) hMF) rfl q121_2.z (by decide) (q121_2.kc fun Yc x2 hb q121_3 => ?_);clear q121_2;have hx2:=hv1.trans (hb.mono hv1.size);clear hb
  refine q121_3.t _ (ex_assign rfl (q121_3.e (j:=22) rfl)) fun _ q121_4 => ?_;clear q121_3
  have hz:=q121_4.z;have s3:=q121_4.a 3 rfl;have s4:=q121_4.a 4 rfl;have s5:=q121_4.a 5 rfl;have s6:=q121_4.a 6 rfl;have s10:=q121_4.a 10 rfl;clear q121_4;refine wpList_nil ?_
  go_upto_region 5 with fail
  refine wp_region_lit ?_;have q122_0:=(((((Rp.nil hz).cons s3).cons s4).cons s5).cons s6).cons s10;clear hz s3 s4 s5 s6 s10
  refine q122_0.t _ (ex_move rfl (q122_0.e (j:=10) rfl)) fun _ q122_1 => ?_;clear q122_0
  refine q122_1.t (.bool (!decide ((adM9 c m) = 0))) (ex_bin rfl (q122_1.e (j:=23) rfl) rfl (neqN8 _ _ _ _ _)) fun _ q122_2 => ?_;clear q122_1
  have hz:=q122_2.z;have s3:=q122_2.a 3 rfl;have s4:=q122_2.a 4 rfl;have s5:=q122_2.a 5 rfl;have s6:=q122_2.a 6 rfl;have s10:=q122_2.a 10 rfl;have s24:=q122_2.a 24 rfl;clear q122_2;refine wpList_nil ?_
  go_upto_region 6 with fail
  cases e24 : decide (adM9 c m = 0)
  ·refine wp_cond_true ((ev s24 rfl).trans (by rw [e24];rfl)) ?_
   have hne:=of_decide_eq_false e24
   go_upto_region 6 with fail
   refine wp_region_lit ?_;have q123_0:=(((((Rp.nil hz).cons s3).cons s4).cons s5).cons s6).cons s10;clear hz s3 s4 s5 s6 s10
   refine q123_0.t (zS8.val) (ex_build rfl (bd12 _)) fun _ q123_1 => ?_;clear q123_0
   refine q123_1.t _ (ex_move rfl (q123_1.e (j:=10) rfl)) fun _ q123_2 => ?_;clear q123_1
   refine vs (sets x2 (w.heap.size + 3) 0 (Sta.cs zS8)) (want_none rfl) (ex_st rfl (q123_2.e (j:=6) rfl) (q123_2.e (j:=25) rfl) (st12 (HZ.bel hx2) zS8)) rfl ?_;have HP:=SB7.put (HZ.bel hx2) zS8;have UP:=upd12 x2 (w.heap.size + 3) zS8
   obtain ⟨u9,hu9⟩ : ∃ v,v = sets x2 (w.heap.size + 3) 0 (Sta.cs zS8):=⟨_,rfl⟩
   rw [← hu9] at HP UP ⊢;clear hu9
   refine q123_2.t (.bool false) (ex_assign rfl rfl) fun _ q123_3 => ?_;clear q123_2
   refine q123_3.t _ (ex_assign rfl (q123_3.e (j:=26) rfl)) fun _ q123_4 => ?_;clear q123_3
   have hz:=q123_4.z;have s6:=q123_4.a 6 rfl;have s7:=q123_4.a 7 rfl;have s8:=q123_4.a 8 rfl;clear q123_4;refine wpList_nil ?_;have hB9:=hide ((hB.trans (hx2.mono (by omega))).trans (UP.below (by have:=hx2.size;omega) (fun k hk => by omega)))
   go_wp2
   refine bodyPost_ret (results_sta3 rfl (getD_of s6) (getD_of s7) (getD_of s8) HP) rfl ?_;rw [hEE]
   exact ⟨zS8,false,rfl,zS8_in _,.inl ⟨by rw [hEE];exact hne,rfl,rfl⟩,hB9.out⟩
  refine wp_cond_false ((ev s24 rfl).trans (by rw [e24];rfl)) ?_;clear s24 s10;have hM0:=of_decide_eq_true e24;have hE9 : adE9 c s m = 0:=hEE.trans hM0;have hB:=hB.trans (hx2.mono (by omega));have HS:=HS.bel hx2;have HC:=HC.bel hx2;have HM:=HM.bel hx2;have HZ:=HZ.bel hx2;have hzc:=hx2.size;have hv2 : Below x2.heap.size x2 x2:=Below.refl _ _
  go_upto_region 7 with fail
  refine wp_region_lit ?_;have q124_0:=((((Rp.nil hz).cons s3).cons s4).cons s5).cons s6;clear hz s3 s4 s5 s6
  refine q124_0.t (.pointer (some ⟨w.heap.size + 2,0,none⟩)) (ex_fa rfl (q124_0.e (j:=5) rfl) (faM9_0 _ _)) fun _ q124_1 => ?_;clear q124_0
  refine q124_1.t (.int .i64 m.m.k) (ex_ld rfl (q124_1.e (j:=28) rfl) (ldKd9 ((HM.bel hv2).cell 0 _ rfl))) fun _ q124_2 => ?_;clear q124_1
  refine vcall true (.bool (btB m.m.k)) (want_none rfl) (fun hc => ex_call rfl (by simp only [List.map_toArray,List.map_cons,List.map_nil,(q124_2.e (j:=29) rfl),evc] <;> rfl) rfl) (fun hc => between9 m.m.k x2 (hT.later (hB.trans (hv2.mono (by omega))) hT.lt)) rfl q124_2.z (by decide) (q124_2.kc fun Yd x3 hb q124_3 => ?_);clear q124_2;have hx3:=hv2.trans (hb.mono hv2.size);clear hb
  refine q124_3.t (.bool (!(btB m.m.k))) (ex_not rfl (q124_3.e (j:=30) rfl)) fun _ q124_4 => ?_;clear q124_3
  refine q124_4.t _ (ex_assign rfl (q124_4.e (j:=31) rfl)) fun _ q124_5 => ?_;clear q124_4
  have hz:=q124_5.z;have s3:=q124_5.a 3 rfl;have s4:=q124_5.a 4 rfl;have s5:=q124_5.a 5 rfl;have s6:=q124_5.a 6 rfl;have s27:=q124_5.a 27 rfl;clear q124_5;refine wpList_nil ?_
  go_upto_region 8 with fail
  cases eb : btB m.m.k
  ·refine wp_cond_true ((ev s27 rfl).trans (by rw [eb];rfl)) ?_
   clear s27
   go_upto_region 8 with fail
   refine wp_region_lit ?_;have q125_0:=((((Rp.nil hz).cons s3).cons s4).cons s5).cons s6;clear hz s3 s4 s5 s6
   refine q125_0.t (s.val) (ex_ld rfl (q125_0.e (j:=4) rfl) (SB7.ld (HS.bel hx3))) fun _ q125_1 => ?_;clear q125_0
   refine vcallP (want_none rfl) (ex_call rfl (by simp only [List.map_toArray,List.map_cons,List.map_nil,(q125_1.e (j:=32) rfl),evc] <;> rfl) rfl) (copied8 s x3 (hI.later (hB.trans (hx3.mono (by omega)))) hF) rfl q125_1.z (by decide) ?_;rintro e x9 ⟨t,rfl,hk,hlo,bk⟩;refine ⟨_,rfl,q125_1.k fun Ye q125_2 => ?_⟩;clear q125_1;have zk:=hx3.size;have zk2:=bk.size;have hB:=(hB.trans (hx3.mono (by omega))).trans (bk.mono (by omega));have HZ:=(HZ.bel hx3).bel bk;refine vs (sets x9 (w.heap.size + 3) 0 (Sta.cs t)) (want_none rfl) (ex_st rfl (q125_2.e (j:=6) rfl) (q125_2.e (j:=33) rfl) (st12 HZ t)) rfl ?_;have HP:=SB7.put HZ t;have UP:=upd12 x9 (w.heap.size + 3) t
   obtain ⟨u9,hu9⟩ : ∃ v,v = sets x9 (w.heap.size + 3) 0 (Sta.cs t):=⟨_,rfl⟩
   rw [← hu9] at HP UP ⊢;clear hu9
   refine q125_2.t (.bool true) (ex_assign rfl rfl) fun _ q125_3 => ?_;clear q125_2
   refine q125_3.t (.int .i64 0) (ex_assign rfl rfl) fun _ q125_4 => ?_;clear q125_3
   have hz:=q125_4.z;have s6:=q125_4.a 6 rfl;have s7:=q125_4.a 7 rfl;have s8:=q125_4.a 8 rfl;clear q125_4;refine wpList_nil ?_;have hk:=hk.set8 UP (by omega) hlo;have hB9:=hide (hB.trans (UP.below (by omega) (fun k hk => by omega)))
   go_wp2
   refine bodyPost_ret (results_sta3 rfl (getD_of s6) (getD_of s7) (getD_of s8) HP) rfl ?_;rw [hE9]
   exact ⟨t,true,rfl,hk.inn,.inr ⟨hE9,by rw [show adV9 c s m = s.V from by unfold adV9;rw [eb];rfl];exact hk.low8 (by omega),hlo.low (by omega),by unfold adB9;rw [eb];rfl⟩,hB9.out⟩
  refine wp_cond_false ((ev s27 rfl).trans (by rw [eb];rfl)) ?_;clear s27;have hB:=hB.trans (hx3.mono (by omega));have HS:=HS.bel hx3;have HC:=HC.bel hx3;have HM:=HM.bel hx3;have HZ:=HZ.bel hx3;have hzc:=hx3.size;have hv3 : Below x3.heap.size x3 x3:=Below.refl _ _
  go_upto_region 9 with fail
  refine wp_region_lit ?_;have q126_0:=((((Rp.nil hz).cons s3).cons s4).cons s5).cons s6;clear hz s3 s4 s5 s6
  refine q126_0.t (.pointer (some ⟨w.heap.size + 2,1,none⟩)) (ex_fa rfl (q126_0.e (j:=5) rfl) (faM9_1 _ _)) fun _ q126_1 => ?_;clear q126_0
  refine q126_1.t (.int .i64 m.m.nd) (ex_ld rfl (q126_1.e (j:=35) rfl) (ldI8 ((HM.bel hv3).cell 1 _ rfl))) fun _ q126_2 => ?_;clear q126_1
  refine q126_2.t (.pointer (some ⟨w.heap.size + 1,0,none⟩)) (ex_fa rfl (q126_2.e (j:=4) rfl) (faS0 _ _)) fun _ q126_3 => ?_;clear q126_2
  refine q126_3.t (.int .i64 s.self) (ex_ld rfl (q126_3.e (j:=37) rfl) (ldI8 ((HS.bel hv3).cell 0 _ rfl))) fun _ q126_4 => ?_;clear q126_3
  refine q126_4.t (.bool (decide (m.m.nd = s.self))) (ex_bin rfl (q126_4.e (j:=36) rfl) (q126_4.e (j:=38) rfl) (eqlC _ _ _ _ _)) fun _ q126_5 => ?_;clear q126_4
  refine q126_5.t _ (ex_assign rfl (q126_5.e (j:=39) rfl)) fun _ q126_6 => ?_;clear q126_5
  have hz:=q126_6.z;have s3:=q126_6.a 3 rfl;have s4:=q126_6.a 4 rfl;have s5:=q126_6.a 5 rfl;have s6:=q126_6.a 6 rfl;have s34:=q126_6.a 34 rfl;clear q126_6;refine wpList_nil ?_
  go_upto_region 10 with fail
  cases en : decide (m.m.nd = s.self)
  rotate_left
  ·refine wp_cond_true ((ev s34 rfl).trans (congrArg Value.bool en)) ?_
   clear s34
   go_upto_region 10 with fail
   refine wp_region_lit ?_;have q127_0:=((((Rp.nil hz).cons s3).cons s4).cons s5).cons s6;clear hz s3 s4 s5 s6
   refine q127_0.t (s.val) (ex_ld rfl (q127_0.e (j:=4) rfl) (SB7.ld (HS.bel hv3))) fun _ q127_1 => ?_;clear q127_0
   refine vcallP (want_none rfl) (ex_call rfl (by simp only [List.map_toArray,List.map_cons,List.map_nil,(q127_1.e (j:=40) rfl),evc] <;> rfl) rfl) (copied8 s x3 (hI.later (hB.trans (hv3.mono (by omega)))) hF) rfl q127_1.z (by decide) ?_;rintro e x9 ⟨t,rfl,hk,hlo,bk⟩;refine ⟨_,rfl,q127_1.k fun Yf q127_2 => ?_⟩;clear q127_1;have zk:=hv3.size;have zk2:=bk.size;have hB:=(hB.trans (hv3.mono (by omega))).trans (bk.mono (by omega));have HZ:=(HZ.bel hv3).bel bk;refine vs (sets x9 (w.heap.size + 3) 0 (Sta.cs t)) (want_none rfl) (ex_st rfl (q127_2.e (j:=6) rfl) (q127_2.e (j:=41) rfl) (st12 HZ t)) rfl ?_;have HP:=SB7.put HZ t;have UP:=upd12 x9 (w.heap.size + 3) t
   obtain ⟨u9,hu9⟩ : ∃ v,v = sets x9 (w.heap.size + 3) 0 (Sta.cs t):=⟨_,rfl⟩
   rw [← hu9] at HP UP ⊢;clear hu9
   refine q127_2.t (.bool false) (ex_assign rfl rfl) fun _ q127_3 => ?_;clear q127_2
   refine q127_3.t (.int .i64 0) (ex_assign rfl rfl) fun _ q127_4 => ?_;clear q127_3
   have hz:=q127_4.z;have s6:=q127_4.a 6 rfl;have s7:=q127_4.a 7 rfl;have s8:=q127_4.a 8 rfl;clear q127_4;refine wpList_nil ?_;have hk:=hk.set8 UP (by omega) hlo;have hB9:=hide (hB.trans (UP.below (by omega) (fun k hk => by omega)))
   go_wp2
   refine bodyPost_ret (results_sta3 rfl (getD_of s6) (getD_of s7) (getD_of s8) HP) rfl ?_;rw [hE9]
   exact ⟨t,false,rfl,hk.inn,.inr ⟨hE9,by rw [show adV9 c s m = s.V from by unfold adV9;rw [eb,en];rfl];exact hk.low8 (by omega),hlo.low (by omega),by unfold adB9;rw [eb,en];rfl⟩,hB9.out⟩
  refine wp_cond_false ((ev s34 rfl).trans (congrArg Value.bool en)) ?_;clear s34
  go_upto_region 11 with fail
  refine wp_region_lit ?_;have q128_0:=((((Rp.nil hz).cons s3).cons s4).cons s5).cons s6;clear hz s3 s4 s5 s6
  refine q128_0.t (.pointer (some ⟨w.heap.size,3,none⟩)) (ex_fa rfl (q128_0.e (j:=3) rfl) (faC3 _ _)) fun _ q128_1 => ?_;clear q128_0
  refine q128_1.t (.bool c.u) (ex_ld rfl (q128_1.e (j:=43) rfl) (ldU8 ((HC.bel hv3).cell 3 _ rfl))) fun _ q128_2 => ?_;clear q128_1
  refine q128_2.t _ (ex_assign rfl (q128_2.e (j:=44) rfl)) fun _ q128_3 => ?_;clear q128_2
  have hz:=q128_3.z;have s3:=q128_3.a 3 rfl;have s4:=q128_3.a 4 rfl;have s5:=q128_3.a 5 rfl;have s6:=q128_3.a 6 rfl;have s42:=q128_3.a 42 rfl;clear q128_3;refine wpList_nil ?_
  go_upto_region 12 with fail
  cases eu : c.u
  rotate_left
  ·refine wp_cond_true ((ev s42 rfl).trans (congrArg Value.bool eu)) ?_
   clear s42
   go_upto_region 12 with fail
   refine wp_region_lit ?_;have q129_0:=((((Rp.nil hz).cons s3).cons s4).cons s5).cons s6;clear hz s3 s4 s5 s6
   refine q129_0.t (s.val) (ex_ld rfl (q129_0.e (j:=4) rfl) (SB7.ld (HS.bel hv3))) fun _ q129_1 => ?_;clear q129_0
   refine vcallP (want_none rfl) (ex_call rfl (by simp only [List.map_toArray,List.map_cons,List.map_nil,(q129_1.e (j:=45) rfl),evc] <;> rfl) rfl) (copied8 s x3 (hI.later (hB.trans (hv3.mono (by omega)))) hF) rfl q129_1.z (by decide) ?_;rintro e x9 ⟨t,rfl,hk,hlo,bk⟩;refine ⟨_,rfl,q129_1.k fun Yg q129_2 => ?_⟩;clear q129_1;have zk:=hv3.size;have zk2:=bk.size;have hB:=(hB.trans (hv3.mono (by omega))).trans (bk.mono (by omega));have HZ:=(HZ.bel hv3).bel bk;refine vs (sets x9 (w.heap.size + 3) 0 (Sta.cs t)) (want_none rfl) (ex_st rfl (q129_2.e (j:=6) rfl) (q129_2.e (j:=46) rfl) (st12 HZ t)) rfl ?_;have HP:=SB7.put HZ t;have UP:=upd12 x9 (w.heap.size + 3) t
   obtain ⟨u9,hu9⟩ : ∃ v,v = sets x9 (w.heap.size + 3) 0 (Sta.cs t):=⟨_,rfl⟩
   rw [← hu9] at HP UP ⊢;clear hu9
   refine q129_2.t (.bool true) (ex_assign rfl rfl) fun _ q129_3 => ?_;clear q129_2
   refine q129_3.t (.int .i64 0) (ex_assign rfl rfl) fun _ q129_4 => ?_;clear q129_3
   have hz:=q129_4.z;have s6:=q129_4.a 6 rfl;have s7:=q129_4.a 7 rfl;have s8:=q129_4.a 8 rfl;clear q129_4;refine wpList_nil ?_;have hk:=hk.set8 UP (by omega) hlo;have hB9:=hide (hB.trans (UP.below (by omega) (fun k hk => by omega)))
   go_wp2
   refine bodyPost_ret (results_sta3 rfl (getD_of s6) (getD_of s7) (getD_of s8) HP) rfl ?_;rw [hE9]
   exact ⟨t,true,rfl,hk.inn,.inr ⟨hE9,by rw [show adV9 c s m = s.V from by unfold adV9;rw [eb,en,eu];rfl];exact hk.low8 (by omega),hlo.low (by omega),by unfold adB9;rw [eb,en,eu];rfl⟩,hB9.out⟩
  refine wp_cond_false ((ev s42 rfl).trans (congrArg Value.bool eu)) ?_;clear s42
  go_upto_region 13 with fail
  refine wp_region_lit ?_;have q130_0:=((((Rp.nil hz).cons s3).cons s4).cons s5).cons s6;clear hz s3 s4 s5 s6
  refine q130_0.t (s.val) (ex_ld rfl (q130_0.e (j:=4) rfl) (SB7.ld (HS.bel hv3))) fun _ q130_1 => ?_;clear q130_0
  refine q130_1.t (m.val) (ex_ld rfl (q130_1.e (j:=5) rfl) (MB9.ld (HM.bel hv3))) fun _ q130_2 => ?_;clear q130_1
  refine vcall true (.bool (hear9 s m)) (want_none rfl) (fun hc => ex_call rfl (by simp only [List.map_toArray,List.map_cons,List.map_nil,(q130_2.e (j:=48) rfl),(q130_2.e (j:=49) rfl),evc] <;> rfl) rfl) (fun hc => mayhear9 s m x3 (hI.later (hB.trans (hv3.mono (by omega)))) (hM.later (hB.trans (hv3.mono (by omega))))) rfl q130_2.z (by decide) (q130_2.kc fun Yh x4 hb q130_3 => ?_);clear q130_2;have hx4:=hv3.trans (hb.mono hv3.size);clear hb
  refine q130_3.t (.bool (!(hear9 s m))) (ex_not rfl (q130_3.e (j:=50) rfl)) fun _ q130_4 => ?_;clear q130_3
  refine q130_4.t _ (ex_assign rfl (q130_4.e (j:=51) rfl)) fun _ q130_5 => ?_;clear q130_4
  have hz:=q130_5.z;have s3:=q130_5.a 3 rfl;have s4:=q130_5.a 4 rfl;have s5:=q130_5.a 5 rfl;have s6:=q130_5.a 6 rfl;have s47:=q130_5.a 47 rfl;clear q130_5;refine wpList_nil ?_
  go_upto_region 14 with fail
  cases eh : hear9 s m
  ·refine wp_cond_true ((ev s47 rfl).trans (by rw [eh];rfl)) ?_
   clear s47
   go_upto_region 14 with fail
   refine wp_region_lit ?_;have q131_0:=((((Rp.nil hz).cons s3).cons s4).cons s5).cons s6;clear hz s3 s4 s5 s6
   refine q131_0.t (s.val) (ex_ld rfl (q131_0.e (j:=4) rfl) (SB7.ld (HS.bel hx4))) fun _ q131_1 => ?_;clear q131_0
   refine vcallP (want_none rfl) (ex_call rfl (by simp only [List.map_toArray,List.map_cons,List.map_nil,(q131_1.e (j:=52) rfl),evc] <;> rfl) rfl) (copied8 s x4 (hI.later (hB.trans (hx4.mono (by omega)))) hF) rfl q131_1.z (by decide) ?_;rintro e x9 ⟨t,rfl,hk,hlo,bk⟩;refine ⟨_,rfl,q131_1.k fun Yi q131_2 => ?_⟩;clear q131_1;have zk:=hx4.size;have zk2:=bk.size;have hB:=(hB.trans (hx4.mono (by omega))).trans (bk.mono (by omega));have HZ:=(HZ.bel hx4).bel bk;refine vs (sets x9 (w.heap.size + 3) 0 (Sta.cs t)) (want_none rfl) (ex_st rfl (q131_2.e (j:=6) rfl) (q131_2.e (j:=53) rfl) (st12 HZ t)) rfl ?_;have HP:=SB7.put HZ t;have UP:=upd12 x9 (w.heap.size + 3) t
   obtain ⟨u9,hu9⟩ : ∃ v,v = sets x9 (w.heap.size + 3) 0 (Sta.cs t):=⟨_,rfl⟩
   rw [← hu9] at HP UP ⊢;clear hu9
   refine q131_2.t (.bool false) (ex_assign rfl rfl) fun _ q131_3 => ?_;clear q131_2
   refine q131_3.t (.int .i64 0) (ex_assign rfl rfl) fun _ q131_4 => ?_;clear q131_3
   have hz:=q131_4.z;have s6:=q131_4.a 6 rfl;have s7:=q131_4.a 7 rfl;have s8:=q131_4.a 8 rfl;clear q131_4;refine wpList_nil ?_;have hk:=hk.set8 UP (by omega) hlo;have hB9:=hide (hB.trans (UP.below (by omega) (fun k hk => by omega)))
   go_wp2
   refine bodyPost_ret (results_sta3 rfl (getD_of s6) (getD_of s7) (getD_of s8) HP) rfl ?_;rw [hE9]
   exact ⟨t,false,rfl,hk.inn,.inr ⟨hE9,by rw [show adV9 c s m = s.V from by unfold adV9;rw [eb,en,eu,eh];rfl];exact hk.low8 (by omega),hlo.low (by omega),by unfold adB9;rw [eb,en,eu,eh];rfl⟩,hB9.out⟩
  refine wp_cond_false ((ev s47 rfl).trans (by rw [eh];rfl)) ?_;clear s47;have hB:=hB.trans (hx4.mono (by omega));have HS:=HS.bel hx4;have HC:=HC.bel hx4;have HM:=HM.bel hx4;have HZ:=HZ.bel hx4;have hzc:=hx4.size;have hv4 : Below x4.heap.size x4 x4:=Below.refl _ _;obtain ⟨hv7,hlm⟩:=adlen9 hE0 hM0 eb
  obtain ⟨y5,hy5⟩ : ∃ y,y = x4.alloc (.cells #[.slice s.va s.V.length s.vc,.slice m.va m.V.length m.vc] 30):=⟨_,rfl⟩
  have b5 : Below x4.heap.size x4 y5:=by rw [hy5];exact (Below.refl _ _).alloc (Nat.le_refl _) _
  have k0 : y5.cell? ⟨x4.heap.size,0,none⟩ = some (.slice s.va s.V.length s.vc):=by rw [hy5];exact cell_box7 _ _ _ _ _ rfl
  have k1 : y5.cell? ⟨x4.heap.size,1,none⟩ = some (.slice m.va m.V.length m.vc):=by rw [hy5];exact cell_box7 _ _ _ _ _ rfl
  have z5:=b5.size;have hB5:=hB.trans (b5.mono (by omega))
  go_upto_region 15 with fail
  refine wp_region_lit ?_;have q132_0:=((((Rp.nil hz).cons s3).cons s4).cons s5).cons s6;clear hz s3 s4 s5 s6
  refine q132_0.t (.pointer (some ⟨w.heap.size + 1,6,none⟩)) (ex_fa rfl (q132_0.e (j:=4) rfl) (faS6 _ _)) fun _ q132_1 => ?_;clear q132_0
  refine q132_1.t (.slice s.va s.V.length s.vc) (ex_ld rfl (q132_1.e (j:=55) rfl) (ldV8 ((HS.bel hv4).cell 6 _ rfl))) fun _ q132_2 => ?_;clear q132_1
  refine q132_2.t (.pointer (some ⟨w.heap.size + 2,17,none⟩)) (ex_fa rfl (q132_2.e (j:=5) rfl) (faM9_10 _ _)) fun _ q132_3 => ?_;clear q132_2
  refine q132_3.t (.slice m.va m.V.length m.vc) (ex_ld rfl (q132_3.e (j:=57) rfl) (ldV8 ((HM.bel hv4).cell 17 _ rfl))) fun _ q132_4 => ?_;clear q132_3
  refine vw (.slice (some ⟨x4.heap.size,0,none⟩) 2 2) y5 (want_none rfl) (ex_bs2_9 rfl (q132_4.e (j:=56) rfl) (q132_4.e (j:=58) rfl) (by rw [hy5];exact bsVV9 _ _ _)) rfl q132_4.z (by decide) (q132_4.k fun Yj q132_5 => ?_);clear q132_4;refine vcallP (want_none rfl) (ex_call rfl (by simp only [List.map_toArray,List.map_cons,List.map_nil,(q132_5.e (j:=59) rfl),evc] <;> rfl) rfl) (merge9 s.V m.V s.va m.va s.vc m.vc _ y5 (hI.later hB5).v (hM.later hB5).v hlm hv7 k0 k1) rfl q132_5.z (by decide) ?_;rintro e y6 ⟨gm,rfl,oJ,bJ⟩;refine ⟨_,rfl,q132_5.k fun Yk q132_6 => ?_⟩;clear q132_5;have z6:=bJ.size;have hB:=hB5.trans (bJ.mono (by omega));have HS:=(HS.bel b5).bel bJ;have HZ:=(HZ.bel b5).bel bJ;clear b5 k0 k1 hy5
  refine q132_6.t _ (ex_move rfl (q132_6.e (j:=60) rfl)) fun _ q132_7 => ?_;clear q132_6
  refine q132_7.t (.slice (some ⟨gm,0,none⟩) s.V.length s.V.length) (ex_ext8 rfl (q132_7.e (j:=54) rfl) rfl) fun _ q132_8 => ?_;clear q132_7
  refine q132_8.t (.int .i64 0) (ex_ext8 rfl (q132_8.e (j:=54) rfl) rfl) fun _ q132_9 => ?_;clear q132_8
  refine q132_9.t _ (ex_assign rfl (q132_9.e (j:=61) rfl)) fun _ q132_10 => ?_;clear q132_9
  refine q132_10.t _ (ex_assign rfl (q132_10.e (j:=62) rfl)) fun _ q132_11 => ?_;clear q132_10
  have hz:=q132_11.z;have s4:=q132_11.a 4 rfl;have s6:=q132_11.a 6 rfl;have s11:=q132_11.a 11 rfl;clear q132_11;refine wpList_nil ?_;have hvy : Below y6.heap.size y6 y6:=Below.refl _ _;have ej:=jn9_length s.V m.V;have oS : SlY yD y6 (some ⟨gm,0,none⟩) (jn9 s.V m.V).length s.V.length (jn9 s.V m.V):=ej.symm ▸ oJ.sl' kD;rw [show (Value.slice (some ⟨gm,0,none⟩) s.V.length s.V.length) = .slice (some ⟨gm,0,none⟩) (jn9 s.V m.V).length s.V.length from by rw [ej]] at s11
  go_upto_region 16 with fail
  refine wp_region_lit ?_;have q133_0:=(((Rp.nil hz).cons s4).cons s6).cons s11;clear hz s4 s6 s11
  refine q133_0.t (s.val) (ex_ld rfl (q133_0.e (j:=4) rfl) (SB7.ld (HS.bel hvy))) fun _ q133_1 => ?_;clear q133_0
  refine q133_1.t _ (ex_move rfl (q133_1.e (j:=11) rfl)) fun _ q133_2 => ?_;clear q133_1
  refine vcallP (want_none rfl) (ex_call rfl (by simp only [List.map_toArray,List.map_cons,List.map_nil,(q133_2.e (j:=63) rfl),(q133_2.e (j:=64) rfl),evc] <;> rfl) rfl) (knowing8 s (some ⟨gm,0,none⟩) s.V.length (jn9 s.V m.V) y6 (hI.later hB) hF oS (by omega)) rfl q133_2.z (by decide) ?_;rintro e x9 ⟨t,rfl,hk,hlo,bk⟩;refine ⟨_,rfl,q133_2.k fun Yl q133_3 => ?_⟩;clear q133_2;have zk2:=bk.size;have hB:=hB.trans (bk.mono (by omega));have HZ:=HZ.bel bk;refine vs (sets x9 (w.heap.size + 3) 0 (Sta.cs t)) (want_none rfl) (ex_st rfl (q133_3.e (j:=6) rfl) (q133_3.e (j:=65) rfl) (st12 HZ t)) rfl ?_;have HP:=SB7.put HZ t;have UP:=upd12 x9 (w.heap.size + 3) t
  obtain ⟨u9,hu9⟩ : ∃ v,v = sets x9 (w.heap.size + 3) 0 (Sta.cs t):=⟨_,rfl⟩
  rw [← hu9] at HP UP ⊢;clear hu9
  refine q133_3.t (.bool true) (ex_assign rfl rfl) fun _ q133_4 => ?_;clear q133_3
  refine q133_4.t (.int .i64 0) (ex_assign rfl rfl) fun _ q133_5 => ?_;clear q133_4
  have hz:=q133_5.z;have s6:=q133_5.a 6 rfl;have s7:=q133_5.a 7 rfl;have s8:=q133_5.a 8 rfl;clear q133_5;refine wpList_nil ?_;have hk:=hk.set8 UP (by omega) hlo;have hB9:=hide (hB.trans (UP.below (by omega) (fun k hk => by omega)))
  go_wp2
  refine bodyPost_ret (results_sta3 rfl (getD_of s6) (getD_of s7) (getD_of s8) HP) rfl ?_;rw [hE9]
  exact ⟨t,true,rfl,hk.inn,.inr ⟨hE9,by rw [show adV9 c s m = jn9 s.V m.V from by unfold adV9;rw [eb,en,eu,eh];rfl];exact hk.low8 (by omega),hlo.low (by omega),by unfold adB9;rw [eb,en,eu,eh];rfl⟩,hB9.out⟩
theorem ex_mk9 {o : Oper} {ρ : Operand → Value} {s : TypeId} {x y : Operand} {X Y V : Value} {w w' : World} (ho : o.op = .makeSlice s x y) (hx : ρ x = X) (hy : ρ y = Y) (hr : (Instr.makeSlice s X Y).run Tryz.prog w = .ok V w') : (execOp ρ o).run Tryz.prog w = .ok (.value V) w':=by
 unfold execOp
 simp only [ho,hx,hy,Sem.run_bind,hr,Result.andThen_ok]
 rfl
theorem mkD9 (n : Nat) (hn : n ≤ 7) (w : World) : ∃ w',(Instr.makeSlice 30 (.int .i64 (n : Int)) (.int .i64 (n : Int))).run Tryz.prog w = .ok (.slice (some ⟨w.heap.size,0,none⟩) n n) w'∧OwnY yD w.heap.size w' (.slice (some ⟨w.heap.size,0,none⟩) n n) (List.replicate n (0,0))∧Below w.heap.size w w':=by
 obtain ⟨zv,hinfo,hzc⟩:=kD.info;obtain ⟨i0,hi,hz0,hz1,hz2⟩:=info_parts hinfo;have hr:=run_make (P:=Tryz.prog) w yD.ST yD.T i0 zv kD.und hi hz0 .i64 .i64 n n (by omega) (Int.le_refl _) (room_int hz2 (by show n * 16 ≤ _;omega)) (by omega);rw [Int.toNat_natCast,hz1] at hr;refine ⟨_,hr,?_,(Below.refl _ _).alloc (Nat.le_refl _) _⟩
 unfold OwnY at *
 rw [List.length_replicate,show List.replicate n ((0 : Int),(0 : Int)) = List.replicate n yD.z from rfl,← madeY kD hzc]
 exact World.ownsRow_lit w _ n (Nat.le_refl _) (by unfold maxLen;omega) (size_madeCells _ _)
theorem results_sta2_9 {fn : Func} {i j : Tmp} {q : Nat} {t : Sta} {x : Value} {tmps : Array Value} {w : World} (h : fn.results = #[.cell i 36,.tmp j]) (hq : tmps.getD i undef = .pointer (some ⟨q,0,none⟩)) (hj : tmps.getD j undef = x) (hb : SB7 w q t) : (results fn tmps).run Tryz.prog w = .ok (.tuple #[t.val,x]) w:=by
 have:=run_loadVar_mid (P:=Tryz.prog) w q 0 36 t.cs _ (fun j v hv => by rw [Nat.zero_add];exact hb.cell j v hv) Tryz.underlying36 rfl (by kernel_rfl);simp only [results,h];simp only [Array.getD_eq_getD_getElem?] at hq hj
 simp [Sem.run_bind,Result.andThen,hq,hj,asAddr,this]
 rfl
def fvE9 (c : Cg) (x : Int) : Int:=if c.okB = true then (if inB x 0 (c.nd - 1) = true then 0 else 3) else 1
def Fv9 (B : Nat) (c : Cg) (x : Int) (v : Value) (w : World) : Prop:=(fvE9 c x ≠ 0∧v = .slice none 0 0) ∨ (fvE9 c x = 0∧∃ g n,c.nd = ((n : Nat) : Int)∧v = .slice (some ⟨g,0,none⟩) n n∧OwnY yD B w v (List.replicate n (0,0)))
def vst9 (x st : Int) (g n : Nat) (V : List (Int × Int)) : Sta:=⟨x,st,0,0,none,0,[],0,some ⟨g,0,none⟩,n,V,0,none,0,[],none,0,[],none,0,[],none,0,[]⟩
def fst9 (x st : Int) (g n : Nat) : Sta:=vst9 x st g n (List.replicate n (0,0))
theorem vst9_in {w : World} {x st : Int} {g n : Nat} {V : List (Int × Int)} (h : SlY yD w (some ⟨g,0,none⟩) V.length n V) : (vst9 x st g n V).In w:=⟨nil_sl8 _ _,h,nil_sl8 _ _,nil_sl8 _ _,nil_sl8 _ _,nil_sl8 _ _,(fun x h => by cases h),(fun x h => by cases h)⟩
theorem fst9_in {w : World} {x st : Int} {g n : Nat} (h : SlY yD w (some ⟨g,0,none⟩) n n (List.replicate n (0,0))) : (fst9 x st g n).In w:=vst9_in (by rw [List.length_replicate];exact h)
def Fs9 (B : Nat) (c : Cg) (x st : Int) (t : Sta) (w : World) : Prop:=(fvE9 c x ≠ 0∧t = zS8) ∨ (fvE9 c x = 0∧∃ g n,c.nd = ((n : Nat) : Int)∧t = fst9 x st g n∧OwnY yD B w (.slice (some ⟨g,0,none⟩) n n) (List.replicate n (0,0)))
theorem bdS9 (x k : Int) (g n : Nat) (V : List (Int × Int)) (w : World) : (Instr.build 36 #[(0,.int .i64 x),(1,.int .i64 k),(6,.slice (some ⟨g,0,none⟩) V.length n)]).run Tryz.prog w = .ok (vst9 x k g n V).val w:=by
 unfold vst9 Sta.val
 go_simp
 first | done | rfl
theorem bdF9 (x k : Int) (g n : Nat) (w : World) : (Instr.build 36 #[(0,.int .i64 x),(1,.int .i64 k),(6,.slice (some ⟨g,0,none⟩) n n)]).run Tryz.prog w = .ok (fst9 x k g n).val w:=by
 have:=bdS9 x k g n (List.replicate n (0,0)) w;rw [List.length_replicate] at this
 exact this
set_option maxHeartbeats 1000000 in
theorem new9 (n : Nat) (w : World) (hn : 1 ≤ n∧n ≤ 7) : Calls Tryz.prog 118 #[.int .i64 (n : Int)] w fun e w' => ∃ g,e = .returned (.tuple #[.slice (some ⟨g,0,none⟩) n n,.int .i64 0])∧OwnY yD w.heap.size w' (.slice (some ⟨g,0,none⟩) n n) (List.replicate n (0,0))∧Below w.heap.size w w':=by
 go_enter Tryz.func118,Tryz.ntmps118
 go_upto_region 0 with fail
 refine wp_region_lit ?_;refine vl_gen (fun T => T.size = 9∧T[0]? = some (gw true (.int .i64 (n : Int)))) ⟨rfl,rfl⟩ (fun Z0 ⟨hz,s0⟩ => ?_);have hB : Below w.heap.size w w:=Below.refl _ _;have hv0 : Below w.heap.size w w:=Below.refl _ _;have hin : inB (n : Int) 1 7 = true:=inB_iff.2 (by omega);have q134_0:=(Rp.nil hz).cons s0;clear hz s0
 refine q134_0.t (.slice none 0 0) (ex_assign rfl rfl) fun _ q134_1 => ?_;clear q134_0
 refine q134_1.t (.int .i64 0) (ex_assign rfl rfl) fun _ q134_2 => ?_;clear q134_1
 have hz:=q134_2.z;have s0:=q134_2.a 0 rfl;clear q134_2;refine wpList_nil ?_
 go_upto_region 1 with fail
 refine wp_region_lit ?_;have q135_0:=(Rp.nil hz).cons s0;clear hz s0
 refine q135_0.t _ (ex_move rfl (q135_0.e (j:=0) rfl)) fun _ q135_1 => ?_;clear q135_0
 refine vcall true (.bool (inB ((n : Int)) 1 7)) (want_none rfl) (fun hc => ex_call rfl (by simp only [List.map_toArray,List.map_cons,List.map_nil,(q135_1.e (j:=4) rfl),evc] <;> rfl) rfl) (fun hc => groupmay9 ((n : Int)) w) rfl q135_1.z (by decide) (q135_1.kc fun Ya x1 hb q135_2 => ?_);clear q135_1;have hx1:=hv0.trans (hb.mono hv0.size);clear hb
 refine q135_2.t (.bool (!(inB ((n : Int)) 1 7))) (ex_not rfl (q135_2.e (j:=5) rfl)) fun _ q135_3 => ?_;clear q135_2
 have hz:=q135_3.z;have s0:=q135_3.a 0 rfl;have s6:=q135_3.a 6 rfl;clear q135_3;refine wpList_nil ?_
 go_upto_region 3 with fail
 refine wp_cond_false ((ev s6 rfl).trans (congrArg Value.bool (show ((!(inB ((n : Int)) 1 7))) = false by rw [hin];rfl))) ?_;clear s6;have hB:=hB.trans (hx1.mono (by omega));obtain ⟨y,hmk,oY,bY⟩:=mkD9 n hn.2 x1;have zz0:=hx1.size
 go_upto_region 3 with fail
 refine wp_region_lit ?_;have q136_0:=(Rp.nil hz).cons s0;clear hz s0
 refine q136_0.t _ (ex_move rfl (q136_0.e (j:=0) rfl)) fun _ q136_1 => ?_;clear q136_0
 refine vw (.slice (some ⟨x1.heap.size,0,none⟩) n n) y (want_none rfl) (ex_mk9 rfl (q136_1.e (j:=7) rfl) (q136_1.e (j:=7) rfl) hmk) rfl q136_1.z (by decide) (q136_1.k fun Yb q136_2 => ?_);clear q136_1
 refine q136_2.t _ (ex_assign rfl (q136_2.e (j:=8) rfl)) fun _ q136_3 => ?_;clear q136_2
 refine q136_3.t (.int .i64 0) (ex_assign rfl rfl) fun _ q136_4 => ?_;clear q136_3
 have hz:=q136_4.z;have s2:=q136_4.a 2 rfl;have s3:=q136_4.a 3 rfl;clear q136_4;refine wpList_nil ?_;have hB9:=hide (hB.trans (bY.mono (by omega)))
 go_wp2
 refine bodyPost_ret (results_two9 rfl (getD_of s2) (getD_of s3)) rfl ?_
 exact ⟨_,rfl,oY.low (by omega),hB9.out⟩
set_option maxHeartbeats 1000000 in
theorem firstvector9 (c : Cg) (x : Int) (w : World)  : Calls Tryz.prog 55 #[c.val,.int .i64 x] w fun e w' => ∃ v,e = .returned (.tuple #[v,.int .i64 (fvE9 c x)])∧Fv9 w.heap.size c x v w'∧Below w.heap.size w w':=by
 go_enter Tryz.func55,Tryz.ntmps55
 go_upto_region 0 with fail
 refine wp_region_lit ?_;refine vl_gen (fun T => T.size = 22∧T[0]? = some (gw true (c.val))∧T[1]? = some (gw true (.int .i64 x))) ⟨rfl,rfl,rfl⟩ (fun Z0 ⟨hz,s0,s1⟩ => ?_)
 obtain ⟨w1,hw1⟩ : ∃ y,y = w.alloc (.cells c.cs.toArray 23):=⟨_,rfl⟩
 have hb : Below w.heap.size w w1:=by rw [hw1];exact (Below.refl _ _).alloc (Nat.le_refl _) _
 have hs1 : w1.heap.size = w.heap.size + 1:=by rw [hw1];simp
 have HC : CB7 w1 (w.heap.size) c:=by rw [hw1];exact BX7.new _ _ _
 refine vw (.pointer (some ⟨w.heap.size,0,none⟩)) w1 (want_none rfl) (ex_box8 rfl (ev s0 rfl) (by rw [hw1];exact bxC7 _ _)) rfl hz (by decide) (fun Z1 zz kk s2x => ?_);replace s1:=ku s1;clear kk hz s0 hw1;have hz:=zz;have s2:=s2x;clear zz s2x;have hB:=hb;clear hb;have hv0 : Below w1.heap.size w1 w1:=Below.refl _ _;have q137_0:=((Rp.nil hz).cons s1).cons s2;clear hz s1 s2
 refine q137_0.t (.slice none 0 0) (ex_assign rfl rfl) fun _ q137_1 => ?_;clear q137_0
 refine q137_1.t (.int .i64 0) (ex_assign rfl rfl) fun _ q137_2 => ?_;clear q137_1
 have hz:=q137_2.z;have s1:=q137_2.a 1 rfl;have s2:=q137_2.a 2 rfl;clear q137_2;refine wpList_nil ?_
 go_upto_region 1 with fail
 refine wp_region_lit ?_;have q138_0:=((Rp.nil hz).cons s1).cons s2;clear hz s1 s2
 refine q138_0.t (c.val) (ex_ld rfl (q138_0.e (j:=2) rfl) (CB7.ld (HC.bel hv0))) fun _ q138_1 => ?_;clear q138_0
 refine vcall true (.int .i64 c.er) (want_none rfl) (fun hc => ex_call rfl (by simp only [List.map_toArray,List.map_cons,List.map_nil,(q138_1.e (j:=7) rfl),evc] <;> rfl) rfl) (fun hc => checkconfig8 c w1) rfl q138_1.z (by decide) (q138_1.kc fun Ya x1 hb q138_2 => ?_);clear q138_1;have hx1:=hv0.trans (hb.mono hv0.size);clear hb
 refine q138_2.t (.bool (!decide (c.er = 0))) (ex_bin rfl (q138_2.e (j:=8) rfl) rfl (neqN8 _ _ _ _ _)) fun _ q138_3 => ?_;clear q138_2
 refine q138_3.t _ (ex_assign rfl (q138_3.e (j:=9) rfl)) fun _ q138_4 => ?_;clear q138_3
 have hz:=q138_4.z;have s1:=q138_4.a 1 rfl;have s2:=q138_4.a 2 rfl;have s6:=q138_4.a 6 rfl;clear q138_4;refine wpList_nil ?_
 go_upto_region 2 with fail
 cases eo : c.okB
 ·refine wp_cond_true ((ev s6 rfl).trans (by unfold Cg.er;rw [eo];rfl)) ?_
  clear s6
  go_upto_region 2 with fail
  refine wp_region_lit ?_;have q139_0:=((Rp.nil hz).cons s1).cons s2;clear hz s1 s2
  refine q139_0.t (.slice none 0 0) (ex_assign rfl rfl) fun _ q139_1 => ?_;clear q139_0
  refine q139_1.t (.int .i64 1) (ex_assign rfl rfl) fun _ q139_2 => ?_;clear q139_1
  have hz:=q139_2.z;have s4:=q139_2.a 4 rfl;have s5:=q139_2.a 5 rfl;clear q139_2;refine wpList_nil ?_;have hB9:=hide (hB.trans (hx1.mono (by omega)))
  go_wp2
  refine bodyPost_ret (results_two9 rfl (getD_of s4) (getD_of s5)) rfl ?_
  have hE : fvE9 c x = 1:=by unfold fvE9;rw [eo];rfl
  rw [hE]
  exact ⟨_,rfl,.inl ⟨by rw [hE];omega,rfl⟩,hB9.out⟩
 ·refine wp_cond_false ((ev s6 rfl).trans (by unfold Cg.er;rw [eo];rfl)) ?_
  clear s6;obtain ⟨n1,n2,n3⟩:=Cg.nd_ok eo
  go_upto_region 3 with fail
  refine wp_region_lit ?_;have q140_0:=((Rp.nil hz).cons s1).cons s2;clear hz s1 s2
  refine q140_0.t _ (ex_move rfl (q140_0.e (j:=1) rfl)) fun _ q140_1 => ?_;clear q140_0
  refine q140_1.t (c.val) (ex_ld rfl (q140_1.e (j:=2) rfl) (CB7.ld (HC.bel hx1))) fun _ q140_2 => ?_;clear q140_1
  refine vcall true (.int .i64 c.nd) (want_none rfl) (fun hc => ex_call rfl (by simp only [List.map_toArray,List.map_cons,List.map_nil,(q140_2.e (j:=12) rfl),evc] <;> rfl) rfl) (fun hc => nodes8 c x1) rfl q140_2.z (by decide) (q140_2.kc fun Yb x2 hb q140_3 => ?_);clear q140_2;have hx2:=hx1.trans (hb.mono hx1.size);clear hb
  refine q140_3.t (.int .i64 (c.nd - 1)) (ex_bin rfl (q140_3.e (j:=13) rfl) rfl (subD8 _ _ c.nd 1 (c.nd - 1) (by rw [IntKind.wrap_i64];omega) _)) fun _ q140_4 => ?_;clear q140_3
  refine vcall true (.bool (inB (x) (0) ((c.nd - 1)))) (want_none rfl) (fun hc => ex_call rfl (by simp only [List.map_toArray,List.map_cons,List.map_nil,(q140_4.e (j:=11) rfl),(q140_4.e (j:=14) rfl),evc] <;> rfl) rfl) (fun hc => within8 (x) (0) ((c.nd - 1)) x2) rfl q140_4.z (by decide) (q140_4.kc fun Yc x3 hb q140_5 => ?_);clear q140_4;have hx3:=hx2.trans (hb.mono hx2.size);clear hb
  refine q140_5.t (.bool (!(inB (x) (0) ((c.nd - 1))))) (ex_not rfl (q140_5.e (j:=15) rfl)) fun _ q140_6 => ?_;clear q140_5
  refine q140_6.t _ (ex_assign rfl (q140_6.e (j:=16) rfl)) fun _ q140_7 => ?_;clear q140_6
  have hz:=q140_7.z;have s1:=q140_7.a 1 rfl;have s2:=q140_7.a 2 rfl;have s10:=q140_7.a 10 rfl;clear q140_7;refine wpList_nil ?_
  go_upto_region 4 with fail
  cases ei : inB x 0 (c.nd - 1)
  ·refine wp_cond_true ((ev s10 rfl).trans (by rw [ei];rfl)) ?_
   clear s10
   go_upto_region 4 with fail
   refine wp_region_lit ?_;have q141_0:=((Rp.nil hz).cons s1).cons s2;clear hz s1 s2
   refine q141_0.t (.slice none 0 0) (ex_assign rfl rfl) fun _ q141_1 => ?_;clear q141_0
   refine q141_1.t (.int .i64 3) (ex_assign rfl rfl) fun _ q141_2 => ?_;clear q141_1
   have hz:=q141_2.z;have s4:=q141_2.a 4 rfl;have s5:=q141_2.a 5 rfl;clear q141_2;refine wpList_nil ?_;have hB9:=hide (hB.trans (hx3.mono (by omega)))
   go_wp2
   refine bodyPost_ret (results_two9 rfl (getD_of s4) (getD_of s5)) rfl ?_
   have hE : fvE9 c x = 3:=by unfold fvE9;rw [eo,ei];rfl
   rw [hE]
   exact ⟨_,rfl,.inl ⟨by rw [hE];omega,rfl⟩,hB9.out⟩
  refine wp_cond_false ((ev s10 rfl).trans (by rw [ei];rfl)) ?_;clear s10 s1;obtain ⟨n,hn⟩:=Int.eq_ofNat_of_zero_le (show 0 ≤ c.nd by omega)
  go_upto_region 5 with fail
  refine wp_region_lit ?_;have q142_0:=(Rp.nil hz).cons s2;clear hz s2
  refine q142_0.t (c.val) (ex_ld rfl (q142_0.e (j:=2) rfl) (CB7.ld (HC.bel hx3))) fun _ q142_1 => ?_;clear q142_0
  refine vcall true (.int .i64 c.nd) (want_none rfl) (fun hc => ex_call rfl (by simp only [List.map_toArray,List.map_cons,List.map_nil,(q142_1.e (j:=17) rfl),evc] <;> rfl) rfl) (fun hc => nodes8 c x3) rfl q142_1.z (by decide) (q142_1.kc fun Yd x4 hb q142_2 => ?_);clear q142_1;have hx4:=hx3.trans (hb.mono hx3.size);clear hb;refine vcallP (want_none rfl) (ex_call rfl (by simp only [List.map_toArray,List.map_cons,List.map_nil,(q142_2.e (j:=18) rfl),evc] <;> rfl) rfl) (hn.symm ▸ new9 n x4 (by omega)) rfl q142_2.z (by decide) ?_;rintro e y9 ⟨g,rfl,oV,bV⟩;refine ⟨_,rfl,q142_2.k fun Ye q142_3 => ?_⟩;clear q142_2;have zv:=hx4.size;have zv2:=bV.size;have hB9:=hide ((hB.trans (hx4.mono (by omega))).trans (bV.mono (by omega)))
  refine q142_3.t (.slice (some ⟨g,0,none⟩) n n) (ex_ext8 rfl (q142_3.e (j:=19) rfl) rfl) fun _ q142_4 => ?_;clear q142_3
  refine q142_4.t (.int .i64 0) (ex_ext8 rfl (q142_4.e (j:=19) rfl) rfl) fun _ q142_5 => ?_;clear q142_4
  refine q142_5.t _ (ex_assign rfl (q142_5.e (j:=20) rfl)) fun _ q142_6 => ?_;clear q142_5
  refine q142_6.t _ (ex_assign rfl (q142_6.e (j:=21) rfl)) fun _ q142_7 => ?_;clear q142_6
  have hz:=q142_7.z;have s4:=q142_7.a 4 rfl;have s5:=q142_7.a 5 rfl;clear q142_7;refine wpList_nil ?_
  go_wp2
  refine bodyPost_ret (results_two9 rfl (getD_of s4) (getD_of s5)) rfl ?_
  have hE : fvE9 c x = 0:=by unfold fvE9;rw [eo,ei];rfl
  rw [hE]
  exact ⟨_,rfl,.inr ⟨hE,g,n,hn,rfl,oV.low (by omega)⟩,hB9.out⟩
set_option maxHeartbeats 1000000 in
theorem first9 (c : Cg) (x : Int) (w : World)  : Calls Tryz.prog 13 #[c.val,.int .i64 x] w fun e w' => ∃ t : Sta,e = .returned (.tuple #[t.val,.int .i64 (fvE9 c x)])∧t.In w'∧Fs9 w.heap.size c x 1 t w'∧Below w.heap.size w w':=by
 go_enter Tryz.func13,Tryz.ntmps13
 go_upto_region 0 with fail
 refine wp_region_lit ?_;refine vl_gen (fun T => T.size = 21∧T[0]? = some (gw true (c.val))∧T[1]? = some (gw true (.int .i64 x))) ⟨rfl,rfl,rfl⟩ (fun Z0 ⟨hz,s0,s1⟩ => ?_)
 obtain ⟨w1,hw1⟩ : ∃ y,y = w.alloc (.cells c.cs.toArray 23):=⟨_,rfl⟩
 have hb : Below w.heap.size w w1:=by rw [hw1];exact (Below.refl _ _).alloc (Nat.le_refl _) _
 have hs1 : w1.heap.size = w.heap.size + 1:=by rw [hw1];simp
 have HC : CB7 w1 (w.heap.size) c:=by rw [hw1];exact BX7.new _ _ _
 refine vw (.pointer (some ⟨w.heap.size,0,none⟩)) w1 (want_none rfl) (ex_box8 rfl (ev s0 rfl) (by rw [hw1];exact bxC7 _ _)) rfl hz (by decide) (fun Z1 zz kk s2x => ?_);replace s1:=ku s1;clear kk hz s0 hw1;have hz:=zz;have s2:=s2x;clear zz s2x;have hB:=hb;clear hb;have hv0 : Below w1.heap.size w1 w1:=Below.refl _ _
 obtain ⟨w2,hw2⟩ : ∃ y,y = w1.alloc (.cells zS8.cs.toArray 36):=⟨_,rfl⟩
 have hb : Below w1.heap.size w1 w2:=by rw [hw2];exact (Below.refl _ _).alloc (Nat.le_refl _) _
 have HZ : SB7 w2 (w.heap.size + 1) zS8:=by rw [hw2,← hs1];exact BX7.new _ _ _
 have hz2 : w2.heap.size = w.heap.size + 2:=by rw [hw2];simp;omega
 have q143_0:=((Rp.nil hz).cons s1).cons s2;clear hz s1 s2;refine vw (.pointer (some ⟨w.heap.size + 1,0,none⟩)) w2 (want_none rfl) (ex_al rfl (by rw [hw2,← hs1];exact al12 _)) rfl q143_0.z (by decide) (q143_0.k fun Ya q143_1 => ?_);clear q143_0
 refine q143_1.t (.int .i64 0) (ex_assign rfl rfl) fun _ q143_2 => ?_;clear q143_1
 have hz:=q143_2.z;have s1:=q143_2.a 1 rfl;have s2:=q143_2.a 2 rfl;have s4:=q143_2.a 4 rfl;clear q143_2;refine wpList_nil ?_;have hB:=hB.trans (hb.mono (by omega));have HC:=HC.bel hb;clear hb hw2 hv0;have hv0 : Below w2.heap.size w2 w2:=Below.refl _ _
 go_upto_region 1 with fail
 refine wp_region_lit ?_;have q144_0:=(((Rp.nil hz).cons s1).cons s2).cons s4;clear hz s1 s2 s4
 refine q144_0.t (c.val) (ex_ld rfl (q144_0.e (j:=2) rfl) (CB7.ld (HC.bel hv0))) fun _ q144_1 => ?_;clear q144_0
 refine q144_1.t _ (ex_move rfl (q144_1.e (j:=1) rfl)) fun _ q144_2 => ?_;clear q144_1
 refine vcallP (want_none rfl) (ex_call rfl (by simp only [List.map_toArray,List.map_cons,List.map_nil,(q144_2.e (j:=9) rfl),(q144_2.e (j:=10) rfl),evc] <;> rfl) rfl) (firstvector9 c x w2) rfl q144_2.z (by decide) ?_;rintro e y2 ⟨v,rfl,hfv,b2⟩;refine ⟨_,rfl,q144_2.k fun Yb q144_3 => ?_⟩;clear q144_2;have z2:=b2.size;have HZ:=HZ.bel b2;have hB:=hB.trans (b2.mono (by omega))
 refine q144_3.t _ (ex_move rfl (q144_3.e (j:=11) rfl)) fun _ q144_4 => ?_;clear q144_3
 refine q144_4.t (v) (ex_ext8 rfl (q144_4.e (j:=8) rfl) rfl) fun _ q144_5 => ?_;clear q144_4
 refine q144_5.t (.int .i64 (fvE9 c x)) (ex_ext8 rfl (q144_5.e (j:=8) rfl) rfl) fun _ q144_6 => ?_;clear q144_5
 refine q144_6.t _ (ex_assign rfl (q144_6.e (j:=12) rfl)) fun _ q144_7 => ?_;clear q144_6
 refine q144_7.t _ (ex_assign rfl (q144_7.e (j:=13) rfl)) fun _ q144_8 => ?_;clear q144_7
 have hz:=q144_8.z;have s1:=q144_8.a 1 rfl;have s4:=q144_8.a 4 rfl;have s6:=q144_8.a 6 rfl;have s7:=q144_8.a 7 rfl;clear q144_8;refine wpList_nil ?_
 go_upto_region 2 with fail
 refine wp_region_lit ?_;have q145_0:=((((Rp.nil hz).cons s1).cons s4).cons s6).cons s7;clear hz s1 s4 s6 s7
 refine q145_0.t _ (ex_move rfl (q145_0.e (j:=7) rfl)) fun _ q145_1 => ?_;clear q145_0
 refine q145_1.t (.bool (!decide ((fvE9 c x) = 0))) (ex_bin rfl (q145_1.e (j:=14) rfl) rfl (neqN8 _ _ _ _ _)) fun _ q145_2 => ?_;clear q145_1
 have hz:=q145_2.z;have s1:=q145_2.a 1 rfl;have s4:=q145_2.a 4 rfl;have s6:=q145_2.a 6 rfl;have s7:=q145_2.a 7 rfl;have s15:=q145_2.a 15 rfl;clear q145_2;refine wpList_nil ?_
 go_upto_region 3 with fail
 cases e15 : decide (fvE9 c x = 0)
 ·refine wp_cond_true ((ev s15 rfl).trans (by rw [e15];rfl)) ?_
  clear s15;have hne:=of_decide_eq_false e15
  go_upto_region 3 with fail
  refine wp_region_lit ?_;have q146_0:=((((Rp.nil hz).cons s1).cons s4).cons s6).cons s7;clear hz s1 s4 s6 s7
  refine q146_0.t (zS8.val) (ex_build rfl (bd12 _)) fun _ q146_1 => ?_;clear q146_0
  refine q146_1.t _ (ex_move rfl (q146_1.e (j:=7) rfl)) fun _ q146_2 => ?_;clear q146_1
  refine vs (sets y2 (w.heap.size + 1) 0 (Sta.cs zS8)) (want_none rfl) (ex_st rfl (q146_2.e (j:=4) rfl) (q146_2.e (j:=16) rfl) (st12 HZ zS8)) rfl ?_;have HP:=SB7.put HZ zS8;have UP:=upd12 y2 (w.heap.size + 1) zS8
  obtain ⟨u9,hu9⟩ : ∃ v,v = sets y2 (w.heap.size + 1) 0 (Sta.cs zS8):=⟨_,rfl⟩
  rw [← hu9] at HP UP ⊢;clear hu9;have hB9:=hide (hB.trans (UP.below (by omega) (fun k hk => by omega)))
  refine q146_2.t _ (ex_assign rfl (q146_2.e (j:=17) rfl)) fun _ q146_3 => ?_;clear q146_2
  have hz:=q146_3.z;have s4:=q146_3.a 4 rfl;have s5:=q146_3.a 5 rfl;clear q146_3;refine wpList_nil ?_
  go_wp2
  refine bodyPost_ret (results_sta2_9 rfl (getD_of s4) (getD_of s5) HP) rfl ?_
  exact ⟨zS8,rfl,zS8_in _,.inl ⟨hne,rfl⟩,hB9.out⟩
 ·refine wp_cond_false ((ev s15 rfl).trans (by rw [e15];rfl)) ?_
  clear s15 s7;have hE:=of_decide_eq_true e15
  rcases hfv with ⟨h0,_⟩ | ⟨_,g,n,hn,rfl,oV⟩
  ·exact absurd hE h0
  go_upto_region 4 with fail
  refine wp_region_lit ?_;have q147_0:=(((Rp.nil hz).cons s1).cons s4).cons s6;clear hz s1 s4 s6
  refine q147_0.t _ (ex_move rfl (q147_0.e (j:=1) rfl)) fun _ q147_1 => ?_;clear q147_0
  refine q147_1.t _ (ex_move rfl (q147_1.e (j:=6) rfl)) fun _ q147_2 => ?_;clear q147_1
  refine q147_2.t (Sta.val (fst9 x 1 g n)) (ex_buildP rfl (by simp only [List.map_toArray,List.map_cons,List.map_nil,(q147_2.e (j:=18) rfl),(q147_2.e (j:=19) rfl),evc] <;> rfl) (bdF9 _ _ _ _ _)) fun _ q147_3 => ?_;clear q147_2
  refine vs (sets y2 (w.heap.size + 1) 0 (Sta.cs (fst9 x 1 g n))) (want_none rfl) (ex_st rfl (q147_3.e (j:=4) rfl) (q147_3.e (j:=20) rfl) (st12 HZ (fst9 x 1 g n))) rfl ?_;have HP:=SB7.put HZ (fst9 x 1 g n);have UP:=upd12 y2 (w.heap.size + 1) (fst9 x 1 g n)
  obtain ⟨u9,hu9⟩ : ∃ v,v = sets y2 (w.heap.size + 1) 0 (Sta.cs (fst9 x 1 g n)):=⟨_,rfl⟩
  rw [← hu9] at HP UP ⊢;clear hu9;have hB9:=hide (hB.trans (UP.below (by omega) (fun k hk => by omega)))
  refine q147_3.t (.int .i64 0) (ex_assign rfl rfl) fun _ q147_4 => ?_;clear q147_3
  have hz:=q147_4.z;have s4:=q147_4.a 4 rfl;have s5:=q147_4.a 5 rfl;clear q147_4;refine wpList_nil ?_
  go_wp2
  refine bodyPost_ret (results_sta2_9 rfl (getD_of s4) (getD_of s5) HP) rfl ?_;rw [hE];have oV2:=oV.upd1 UP (fun k hk e => by have:=(oV.blk k hk).1;omega)
  exact ⟨(fst9 x 1 g n),rfl,fst9_in (oV2.sl' kD),.inr ⟨hE,g,n,hn,rfl,oV2.low (by omega)⟩,hB9.out⟩
theorem Sta.Alike9.bmem {s u : Sta} (h : s.Alike9 u) {y : Bl} (hy : y ∈ u.B) : ∃ x ∈ s.B,Bl.Like x y:=by
 obtain ⟨k,hk⟩:=List.mem_iff_getElem?.1 hy
 have hkl : k < s.B.length:=by rw [← h.b.1];exact (List.getElem?_eq_some_iff.1 hk).1
 exact ⟨_,List.getElem_mem hkl,h.b.2 k _ y (List.getElem?_eq_getElem hkl) hk⟩
theorem Sta.Alike9.nmem {s u : Sta} (h : s.Alike9 u) {y : An} (hy : y ∈ u.N) : ∃ x ∈ s.N,An.Like x y:=by
 obtain ⟨k,hk⟩:=List.mem_iff_getElem?.1 hy
 have hkl : k < s.N.length:=by rw [← h.n.1];exact (List.getElem?_eq_some_iff.1 hk).1
 exact ⟨_,List.getElem_mem hkl,h.n.2 k _ y (List.getElem?_eq_getElem hkl) hk⟩
theorem Sta.Alike9.fit {s u : Sta} (h : s.Alike9 u) (hF : s.Fit) : u.Fit:=by
 refine ⟨by rw [h.l];exact hF.le,fun y hy => ?_,fun y hy => ?_,by rw [h.l];exact hF.ll,by rw [h.v];exact hF.vl,by rw [h.a];exact hF.al,by rw [h.m];exact hF.ml,by rw [h.b.1];exact hF.bl,by rw [h.n.1];exact hF.nl⟩
 ·obtain ⟨x,hx,k⟩:=h.bmem hy
  rw [k.2.2.2.2.2]
  exact hF.be x hx
 ·obtain ⟨x,hx,k⟩:=h.nmem hy
  rw [k.2.2.2.2.2]
  exact hF.ne x hx
def c39 : Cg:=⟨1,4,6,false⟩
def zG9 : Mg:=⟨0,0,0,⟨0,0,⟨0,0,⟨#[]⟩⟩⟩,(0,0,⟨#[]⟩),0,0,0,(0,0)⟩
def cm9 (a b : Int) (g : Nat) : Ms9:=⟨{ zG9 with k:=5 },none,0,[],some ⟨g,0,none⟩,3,[(0,a),(0,b),(0,0)]⟩
theorem cm9_fit (a b : Int) (g : Nat) : (cm9 a b g).Fit:=⟨fun e h => (by cases h),⟨(by show (Lit.int .i64 0).wf = true;decide),(by show (Lit.int .i64 0).wf = true;decide),⟨(by show (Lit.int .i64 0).wf = true;decide),(by show (Lit.int .i64 0).wf = true;decide),by show (ByteArray.mk #[]).size ≤ maxLen;decide⟩⟩,by show 0 * 48 ≤ 140737488351232;decide,by show 3 * 16 ≤ 140737488351232;decide⟩
theorem kn_al9 {t : Sta} {B : Nat} {s : Sta} {D : List (Int × Int)} {w : World} {x st : Int} {g n : Nat} {V : List (Int × Int)} (hs : (vst9 x st g n V).Alike9 s) (h : t.Kn B s D w) : (vst9 x st g n D).Alike9 t:=by
 have ea : s.A = []:=hs.a;have em : s.M = []:=hs.m;have eb : s.B = []:=List.eq_nil_of_length_eq_zero hs.b.1;have en : s.N = []:=List.eq_nil_of_length_eq_zero hs.n.1;have hb:=h.b;have hn:=h.n;rw [eb] at hb;rw [en] at hn;have tb : t.B = []:=List.eq_nil_of_length_eq_zero hb.1;have tn : t.N = []:=List.eq_nil_of_length_eq_zero hn.1;refine ⟨h.self.trans hs.self,h.st.trans hs.st,h.view.trans hs.view,h.last.trans hs.last,h.commit.trans hs.commit,h.idle.trans hs.idle,h.l.trans hs.l,h.v,?_,?_,⟨by rw [tb];rfl,fun i x y hx hy => ?_⟩,⟨by rw [tn];rfl,fun i x y hx hy => ?_⟩⟩
 ·rw [h.a,ea];rfl
 ·rw [h.m,em];rfl
 ·rw [tb] at hy;cases hy
 ·rw [tn] at hy;cases hy
theorem vst9_fit {x st : Int} {g n : Nat} {V : List (Int × Int)} (h : V.length * 16 ≤ 140737488351232) : (vst9 x st g n V).Fit:=⟨fun e h => (by cases h),fun e h => (by cases h),fun e h => (by cases h),by show 0 * 48 ≤ 140737488351232;decide,h,by show 0 * 32 ≤ 140737488351232;decide,by show 0 * 24 ≤ 140737488351232;decide,by show 0 * 64 ≤ 140737488351232;decide,by show 0 * 64 ≤ 140737488351232;decide⟩
theorem Ad9.in9 {B q : Nat} {c : Cg} {s t : Sta} {m : Ms9} {b : Bool} {w w' : World} (h : Ad9 B c s m t b w) (hi : t.In w) (U : Upd (fun k => k = q) w w') (hq : q < B) : t.In w':=by
 rcases h with ⟨_,rfl,_⟩ | ⟨_,k,lo,_⟩
 ·exact zS8_in _
 ·exact (k.set8 U hq lo).inn
def Z39 : List (Int × Int):=[(0,0),(0,0),(0,0)]
def F39 : List (Int × Int):=[(0,4),(0,0),(0,0)]
theorem ck_z9 (g n : Nat) : (vst9 1 1 g n Z39).ckE c39 = 0:=by rfl
theorem ck_f9 (g n : Nat) : (vst9 1 1 g n F39).ckE c39 = 0:=by rfl
theorem cm_ok9 (a b : Int) (g : Nat) : adM9 c39 (cm9 a b g) = 0:=by rfl
theorem admitC9 (s : Sta) (V D : List (Int × Int)) (a b : Int) (g : Nat) (r : Bool) (w : World) (hal : (vst9 1 1 0 0 V).Alike9 s) (hV : V.length * 16 ≤ 140737488351232) (hck : (vst9 1 1 0 0 V).ckE c39 = 0) (hr : adB9 c39 (vst9 1 1 0 0 V) (cm9 a b g) = r) (hD : adV9 c39 (vst9 1 1 0 0 V) (cm9 a b g) = D)
  (hI : s.In w) (hM : (cm9 a b g).In w) (hT : Tab w) : Calls Tryz.prog 31 #[c39.val,s.val,(cm9 a b g).val] w fun e w' => ∃ t : Sta,e = .returned (.tuple #[t.val,.bool r,.int .i64 0])∧t.In w'∧(vst9 1 1 0 0 D).Alike9 t∧(∀ q w'',q < w.heap.size → Upd (fun k => k = q) w' w'' → t.In w'')∧Below w.heap.size w w':=by
 refine (admit9 c39 s (cm9 a b g) w hI (hal.fit (vst9_fit hV)) hM (cm9_fit a b g) hT).mono ?_;rintro e w' ⟨t,b1,rfl,tin,ha,hb⟩
 have hs : s.ckE c39 = 0:=by rw [ckE_alike9 hal];exact hck
 have hE : adE9 c39 s (cm9 a b g) = 0:=by unfold adE9;rw [if_pos hs];exact cm_ok9 a b g
 have ha':=ha
 have e1 : hear9 s (cm9 a b g) = hear9 (vst9 1 1 0 0 V) (cm9 a b g):=by
  have hv:=hal.v;have hf:=hal.self
  unfold hear9 ovB9 vmB9 mine9
  simp only [hv,hf]
 have e2 : s.self = (vst9 1 1 0 0 V).self:=hal.self
 rcases ha with ⟨h0,_⟩ | ⟨_,k,lo,hb1⟩
 ·exact absurd hE h0
 ·have eb : b1 = r:=by rw [hb1,← hr];unfold adB9;rw [e1,e2]
  have eD : adV9 c39 s (cm9 a b g) = D:=by rw [← hD];unfold adV9;rw [e1,e2,hal.v]
  rw [eD] at k;rw [hE,eb]
  exact ⟨t,rfl,tin,kn_al9 hal k,fun q w'' hq U => ha'.in9 tin U hq,hb⟩
theorem ad1_9 (g : Nat) : adB9 c39 (vst9 1 1 0 0 Z39) (cm9 4 0 g) = true∧adV9 c39 (vst9 1 1 0 0 Z39) (cm9 4 0 g) = F39:=by
 constructor <;> rfl
theorem ad2_9 (g : Nat) : adB9 c39 (vst9 1 1 0 0 F39) (cm9 0 0 g) = false∧adV9 c39 (vst9 1 1 0 0 F39) (cm9 0 0 g) = F39:=by
 constructor <;> rfl
theorem ad3_9 (g : Nat) : adB9 c39 (vst9 1 1 0 0 F39) (cm9 4 3 g) = false∧adV9 c39 (vst9 1 1 0 0 F39) (cm9 4 3 g) = F39:=by
 constructor <;> rfl
end Go.Proofs.YtgncpcfncojgoaaGreatDoor
