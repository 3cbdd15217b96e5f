import Derived.Test.YtjcedofmljkhfaaGreatDoorF15
set_option maxRecDepth 100000
set_option linter.unusedVariables false
set_option linter.unusedSimpArgs false
namespace Go.Proofs.YtjcedofmljkhfaaGreatDoor
open Go.RowKit Go.Maps Go.Shelf
open Classical
structure Ms9 where
 m : Mg
 la : Option Addr
 lc : Nat
 L : List En
 va : Option Addr
 vc : Nat
 V : List (Int × Int)
def Ms9.val (x : Ms9) : Value:=x.m.val (.slice x.la x.L.length x.lc) (.slice x.va x.V.length x.vc)
def Ms9.cs (x : Ms9) : List Value:=x.m.cs (.slice x.la x.L.length x.lc) (.slice x.va x.V.length x.vc)
structure Ms9.In (w : World) (x : Ms9) : Prop where
 l : SlY yE w x.la x.L.length x.lc x.L
 v : SlY yD w x.va x.V.length x.vc x.V
structure Ms9.Fit (x : Ms9) : Prop where
 le : ∀ e ∈ x.L,e.fits
 ee : x.m.e.fits
 ll : x.L.length * 48 ≤ 140737488351232
 vl : x.V.length * 16 ≤ 140737488351232
theorem Ms9.In.later {w w' : World} {x : Ms9} (h : x.In w) (hb : Below w.heap.size w w') : x.In w':=⟨h.l.later hb,h.v.later hb⟩
abbrev MB9 (w : World) (q : Nat) (x : Ms9) : Prop:=BX7 w q x.cs
theorem bxM9 (x : Ms9) (w : World) : (Instr.box 45 x.val).run Tryz.prog w = .ok (.pointer (some ⟨w.heap.size,0,none⟩)) (w.alloc (.cells x.cs.toArray 45)):=rfl
theorem MB9.ld {w : World} {q : Nat} {x : Ms9} (h : MB9 w q x) : (Instr.loadAt 45 (.pointer (some ⟨q,0,none⟩))).run Tryz.prog w = .ok x.val w :=
 run_loadAt_mid (P:=Tryz.prog) w q 0 45 x.cs _ (fun j v hv => by rw [Nat.zero_add];exact h.cell j v hv) Tryz.underlying45 rfl (by kernel_rfl)
theorem ldKd9 {w : World} {q i : Nat} {z : Int} (h : w.cell? ⟨q,i,none⟩ = some (.int .i64 z)) : (Instr.loadAt 34 (.pointer (some ⟨q,i,none⟩))).run Tryz.prog w = .ok (.int .i64 z) w:=by go_simp
theorem faM9_0 (q : Nat) (w : World) : (Instr.fieldAt 45 (.pointer (some ⟨q,0,none⟩)) 0).run Tryz.prog w = .ok (.pointer (some ⟨q,0,none⟩)) w:=by go_simp
theorem faM9_1 (q : Nat) (w : World) : (Instr.fieldAt 45 (.pointer (some ⟨q,0,none⟩)) 1).run Tryz.prog w = .ok (.pointer (some ⟨q,1,none⟩)) w:=by go_simp
theorem faM9_10 (q : Nat) (w : World) : (Instr.fieldAt 45 (.pointer (some ⟨q,0,none⟩)) 10).run Tryz.prog w = .ok (.pointer (some ⟨q,17,none⟩)) w:=by go_simp
def zV9 : Vo9:=⟨0,none,0,[]⟩
theorem alV9 (w : World) : (Instr.alloc 92 true (.tuple #[])).run Tryz.prog w = .ok (.pointer (some ⟨w.heap.size,0,none⟩)) (w.alloc (.cells zV9.cs.toArray 92)):=by
 go_simp
 first | done | rfl
theorem bdV9 (n : Int) (a : Option Addr) (k c : Nat) (w : World) : (Instr.build 92 #[(0,.int .i64 n),(1,.slice a k c)]).run Tryz.prog w = .ok (.agg #[.int .i64 n,.slice a k c]) w:=by
 go_simp
 first | done | rfl
theorem stV9 {w : World} {q : Nat} {x : Vo9} (h : VB9 w q x) (y : Vo9) : (Instr.storeAt 92 (.pointer (some ⟨q,0,none⟩)) y.val).run Tryz.prog w = .ok () (sets w q 0 y.cs):=by
 have:=run_storeAt_mid (P:=Tryz.prog) w q 0 92 y.cs.toArray (fun j hj => ⟨by rw [Nat.zero_add,h.cell j _ (List.getElem?_eq_getElem (show j < x.cs.length from hj))];rfl,by rw [Nat.zero_add];exact h.free j⟩) (by kernel_rfl) (by first | rfl | (simp [Vo9.cs];first | done | rfl | exact ⟨rfl,rfl⟩));rw [setCells_sets] at this
 exact this
theorem VB9.put {w : World} {q : Nat} {x : Vo9} (h : VB9 w q x) (y : Vo9) : VB9 (sets w q 0 y.cs) q y:=by
 have h1:=BX7.set h (j:=0) (by simp [Vo9.cs]) (.int .i64 y.n);have h2:=BX7.set h1 (j:=1) (by simp [Vo9.cs]) (.slice y.a y.D.length y.c)
 exact h2
theorem updV9 (w : World) (q : Nat) (y : Vo9) : Upd (fun k => k = q) w (sets w q 0 y.cs):=((Upd.refl (fun k => k = q) w).setCell (p:=⟨q,0,none⟩) (.inl rfl) _).setCell (p:=⟨q,1,none⟩) (.inl rfl) _
theorem vh_twoV9 {ops : Array Oper} {o o2 : Oper} {T : Array Value} {df : List Deferred} {w : World} {Q : Exit → Act → World → Prop} {S : World → Prop} {fuel d d2 n : Nat} {listed : Array Bool} (i j : Nat) (hr : Region.ready .any ops listed = [i,j]) (hi : ops[i]? = some o) (hj : ops[j]? = some o2)
  (V1 : Value) (w1 : World) (hw : Region.wanted o (yielded ops T) = true) (he : (execOp (⟨T,df⟩ : Act).eval o).run Tryz.prog w = .ok (.value V1) w1) (hd : o.dst = some d) (hz : T.size = n) (hn : d < n) (hS1 : S w1)
  (hk : ∀ T' : Array Value,T'.size = n → (∀ j,j ≠ d → T'[j]? = T[j]?) → T'[d]? = some (gw true V1) → VH ops Q S fuel (listed.setIfInBounds i true) ⟨T',df⟩ w1)
  (V : Value) (w2 : World) (hw2 : Region.wanted o2 (yielded ops T) = true) (he2 : (execOp (⟨T,df⟩ : Act).eval o2).run Tryz.prog w = .ok (.value V) w2) (hd2 : o2.dst = some d2) (hn2 : d2 < n) (hS2 : S w2)
  (hk2 : ∀ T' : Array Value,T'.size = n → (∀ j,j ≠ d2 → T'[j]? = T[j]?) → T'[d2]? = some (gw true V) → VH ops Q S fuel (listed.setIfInBounds j true) ⟨T',df⟩ w2) : VH ops Q S (fuel + 1) listed ⟨T,df⟩ w:=by
 refine ⟨wpAnyH_all hr (by simp) (fun k hkm => ?_)⟩
 have hkm : k = i ∨ k = j:=by simpa using hkm
 rcases hkm with rfl | rfl
 ·unfold wpOp
  rw [hi];simp only [hw,if_true];refine .inl ?_
  unfold Oper.wp
  rw [he,Oper.upon_value];refine ⟨hS1,?_⟩;rw [hd]
  exact (hk (T.setIfInBounds d V1) (by simp [hz]) (fun i hi => at_set_ne _ hi) (at_set _ (by omega))).out
 ·unfold wpOp
  rw [hj];simp only [hw2,if_true];refine .inl ?_
  unfold Oper.wp
  rw [he2,Oper.upon_value];refine ⟨hS2,?_⟩;rw [hd2]
  exact (hk2 (T.setIfInBounds d2 V) (by simp [hz]) (fun i hi => at_set_ne _ hi) (at_set _ (by omega))).out
theorem ex_bs2_9 {o : Oper} {ρ : Operand → Value} {s : TypeId} {x y : Operand} {X Y V : Value} {w w' : World} (ho : o.op = .buildSlice s 2 #[(0,x),(1,y)]) (hx : ρ x = X) (hy : ρ y = Y) (hr : (Instr.buildSlice s 2 #[(0,X),(1,Y)]).run Tryz.prog w = .ok V w') : (execOp ρ o).run Tryz.prog w = .ok (.value V) w':=by
 unfold execOp
 simp only [ho,List.map_toArray,List.map_cons,List.map_nil,hx,hy,Sem.run_bind,hr,Result.andThen_ok]
 rfl
theorem bsVV9 (a b : Option Addr) {n m c k : Nat} (w : World) : (Instr.buildSlice 94 2 #[(0,.slice a n c),(1,.slice b m k)]).run Tryz.prog w = .ok (.slice (some ⟨w.heap.size,0,none⟩) 2 2) (w.alloc (.cells #[.slice a n c,.slice b m k] 27)):=by
 go_simp
 first | done | rfl
def mine9 (s : Sta) : Vo9:=⟨s.self,s.va,s.vc,s.V⟩
def thr9 (m : Ms9) : Vo9:=⟨m.m.nd,m.va,m.vc,m.V⟩
def hear9 (s : Sta) (m : Ms9) : Bool:=!ovB9 s.V (thr9 m) && !ovB9 m.V (mine9 s)
def Cg.cf (c : Cg) : Cf:=⟨c.F,c.R,c.P,c.u⟩
def adM9 (c : Cg) (m : Ms9) : Int:=ckM c.cf m.m m.L m.V
def adE9 (c : Cg) (s : Sta) (m : Ms9) : Int:=if s.ckE c = 0 then adM9 c m else s.ckE c
def adB9 (c : Cg) (s : Sta) (m : Ms9) : Bool:=!btB m.m.k || (!decide (m.m.nd = s.self) && (c.u || hear9 s m))
def adV9 (c : Cg) (s : Sta) (m : Ms9) : List (Int × Int):=if (btB m.m.k && (!decide (m.m.nd = s.self) && (!c.u && hear9 s m))) = true then jn9 s.V m.V else s.V
def Ad9 (B : Nat) (c : Cg) (s : Sta) (m : Ms9) (t : Sta) (b : Bool) (w : World) : Prop :=
 (adE9 c s m ≠ 0∧t = zS8∧b = false) ∨ (adE9 c s m = 0∧t.Kn B s (adV9 c s m) w∧t.Lo B∧b = adB9 c s m)
theorem mcheck9 (c : Cg) (m : Ms9) (w : World) (hT : Tab w) (hM : m.In w) (hF : m.Fit) : Calls Tryz.prog 15 #[c.val,m.val] w fun e w' => e = .returned (.int .i64 (adM9 c m))∧Below w.heap.size w w' :=
 checkM_any c.cf m.m m.la m.va m.lc m.vc m.L m.V w hT hM.l hF.le hM.v hF.ee
theorem between9 (x : Int) (w : World) (hT : Tab w) : Calls Tryz.prog 16 #[.int .i64 x] w fun e w' => e = .returned (.bool (btB x))∧Below w.heap.size w w' :=
 (between7 x w hT).mono fun e w' h => ⟨h.1,by rw [h.2];exact Below.refl _ _⟩
theorem tab_vec9 : ∀ k,k < 15 → 3 ≤ k → k ≤ 12 → tabA k 9 = 20:=by decide
theorem adlen9 {c : Cg} {s : Sta} {m : Ms9} (h1 : s.ckE c = 0) (h2 : adM9 c m = 0) (h3 : btB m.m.k = true) : (1 ≤ s.V.length∧s.V.length ≤ 7)∧m.V.length = s.V.length:=by
 have hok : c.okB = true:=by
  unfold Sta.ckE at h1
  cases e : c.okB with
  | true => rfl
  | false => rw [e] at h1;simp at h1
 obtain ⟨n1,n2,n3⟩:=Cg.nd_ok hok
 have hs : s.stB c = true:=by
  unfold Sta.ckE at h1
  rw [hok] at h1
  cases e : s.stB c with
  | true => rfl
  | false => rw [e] at h1;simp at h1
 simp only [Sta.stB,Bool.and_eq_true] at hs;have hn:=hs.1.1.1;simp only [Sta.numB,Bool.and_eq_true,decide_eq_true_eq] at hn
 have hv : (s.V.length : Int) = c.nd:=by
  have h:=hn.1.1.1.1.1.2
  by_cases e : (s.V.length : Int) = c.nd
  ·exact e
  ·rw [if_neg e] at h;omega
 have hk : 3 ≤ m.m.k∧m.m.k ≤ 12:=by simpa [btB] using h3
 unfold adM9 ckM at h2
 split at h2
 ·omega
 ·split at h2
  ·omega
  ·split at h2
   ·rename_i hall
    have h9:=List.all_eq_true.1 hall 9 (by simp);obtain ⟨k,hk'⟩:=Int.eq_ofNat_of_zero_le (show 0 ≤ m.m.k by omega)
    have ht : tabA m.m.k.toNat 9 = 20:=by rw [hk'];exact tab_vec9 k (by omega) (by omega) (by omega)
    rw [ht] at h9;have h8 : (m.V.length : Int) = 2 * c.F + 1:=of_decide_eq_true h9
    omega
   ·omega
set_option maxHeartbeats 1000000 in
theorem mayhear9 (s : Sta) (m : Ms9) (w : World) (hI : s.In w) (hM : m.In w) : Calls Tryz.prog 18 #[s.val,m.val] w fun e w' => e = .returned (.bool (hear9 s m))∧Below w.heap.size w w':=by
 go_enter Tryz.func18,Tryz.ntmps18
 go_upto_region 0 with fail
 refine wp_region_lit ?_;refine vl_gen (fun T => T.size = 29∧T[0]? = some (gw true (s.val))∧T[1]? = some (gw true (m.val))) ⟨rfl,rfl,rfl⟩ (fun Z0 ⟨hz,s0,s1⟩ => ?_)
 obtain ⟨w1,hw1⟩ : ∃ y,y = w.alloc (.cells s.cs.toArray 33):=⟨_,rfl⟩
 have hb : Below w.heap.size w w1:=by rw [hw1];exact (Below.refl _ _).alloc (Nat.le_refl _) _
 have hs1 : w1.heap.size = w.heap.size + 1:=by rw [hw1];simp
 have HS : SB7 w1 (w.heap.size) s:=by rw [hw1];exact BX7.new _ _ _
 refine vw (.pointer (some ⟨w.heap.size,0,none⟩)) w1 (want_none rfl) (ex_box8 rfl (ev s0 rfl) (by rw [hw1];exact bxS7 _ _)) rfl hz (by decide) (fun Z1 zz kk s2x => ?_);replace s1:=ku s1;clear kk hz s0 hw1;have hz:=zz;have s2:=s2x;clear zz s2x;have hB:=hb;clear hb
 obtain ⟨w2,hw2⟩ : ∃ y,y = w1.alloc (.cells m.cs.toArray 45):=⟨_,rfl⟩
 have hb : Below w1.heap.size w1 w2:=by rw [hw2];exact (Below.refl _ _).alloc (Nat.le_refl _) _
 have hs2 : w2.heap.size = w.heap.size + 2:=by rw [hw2];simp;omega
 have HM : MB9 w2 (w.heap.size + 1) m:=by rw [hw2,← hs1];exact BX7.new _ _ _
 refine vw (.pointer (some ⟨w.heap.size + 1,0,none⟩)) w2 (want_none rfl) (ex_box8 rfl (ev s1 rfl) (by rw [hw2,← hs1];exact bxM9 _ _)) rfl hz (by decide) (fun Z2 zz kk s3x => ?_);replace s2:=ku s2;clear kk hz s1 hw2;have hz:=zz;have s3:=s3x;clear zz s3x;have hB:=hB.trans (hb.mono (by omega));have HS:=HS.bel hb;clear hb;have hv0 : Below w2.heap.size w2 w2:=Below.refl _ _;have Ya:=((Rp.nil hz).cons s2).cons s3;clear hz s2 s3
 refine Ya.t (.bool false) (ex_assign rfl rfl) fun _ Yb => ?_;clear Ya
 have hz:=Yb.z;have s2:=Yb.a 2 rfl;have s3:=Yb.a 3 rfl;clear Yb;refine wpList_nil ?_;have hb0 : Below w2.heap.size w2 w2.drew:=(Below.refl _ _).drew;have hB:=hB.trans (hb0.mono (by omega))
 have hS : SB7 w2.drew (w.heap.size) s∧MB9 w2.drew (w.heap.size + 1) m:=⟨HS.bel hb0,HM.bel hb0⟩
 have hzd : w2.drew.heap.size = w.heap.size + 2:=hs2;clear hb0 HS HM hv0
 go_upto_region 1 with fail
 refine v_cut9 (fun T v => T.size = 29∧T[2]? = some (gw true (.pointer (some ⟨w.heap.size,0,none⟩)))∧T[3]? = some (gw true (.pointer (some ⟨w.heap.size + 1,0,none⟩)))∧∃ (q5 q6 : Nat),T[5]? = some (gw true (.pointer (some ⟨q5,0,none⟩)))∧T[6]? = some (gw true (.pointer (some ⟨q6,0,none⟩)))∧Hid (VB9 v q5 (mine9 s)∧VB9 v q6 (thr9 m)∧SB7 v (w.heap.size) s∧MB9 v (w.heap.size + 1) m∧Below w.heap.size w v)) ?_ ?_
 ·refine vh_start (fun v => SB7 v (w.heap.size) s∧MB9 v (w.heap.size + 1) m) (by kernel_rfl) ?_
  obtain ⟨wd,hwd⟩ : ∃ y,y = w2.drew:=⟨_,rfl⟩
  rw [← hwd] at hS hB hzd ⊢;clear hwd;refine vh_take 0 true (.pointer (some ⟨w.heap.size,0,none⟩)) rfl (by kernel_rfl) (by kernel_rfl) (by kernel_rfl) (want_none rfl) (fun hc v hv => ex_fa rfl (ev s2 rfl) (faS0 _ _)) rfl hz (by decide) hS (fun R1 zz kk s7 => ?_);replace s2:=ku s2;replace s3:=ku s3;replace hz:=zz;clear kk zz;refine vh_take 1 true (.int .i64 s.self) rfl (by kernel_rfl) (by kernel_rfl) (by kernel_rfl) (want_none rfl) (fun hc v hv => ex_ld rfl (ev s7 rfl) (ldI8 (hv.1.cell 0 _ rfl))) rfl hz (by decide) hS (fun R2 zz kk s8 => ?_);replace s2:=ku s2;replace s3:=ku s3;replace s7:=ku s7;replace hz:=zz;clear kk zz;refine vh_take 2 true (.pointer (some ⟨w.heap.size,6,none⟩)) rfl (by kernel_rfl) (by kernel_rfl) (by kernel_rfl) (want_none rfl) (fun hc v hv => ex_fa rfl (ev s2 rfl) (faS6 _ _)) rfl hz (by decide) hS (fun R3 zz kk s9 => ?_);replace s2:=ku s2;replace s3:=ku s3;replace s7:=ku s7;replace s8:=ku s8;replace hz:=zz;clear kk zz;refine vh_take 3 true (.slice s.va s.V.length s.vc) rfl (by kernel_rfl) (by kernel_rfl) (by kernel_rfl) (want_none rfl) (fun hc v hv => ex_ld rfl (ev s9 rfl) (ldV8 (hv.1.cell 6 _ rfl))) rfl hz (by decide) hS (fun R4 zz kk s10 => ?_);replace s2:=ku s2;replace s3:=ku s3;replace s7:=ku s7;replace s8:=ku s8;replace s9:=ku s9;replace hz:=zz;clear kk zz;refine vh_take 4 true (Vo9.val (mine9 s)) rfl (by kernel_rfl) (by kernel_rfl) (by kernel_rfl) (want_none rfl) (fun hc v hv => ex_buildP rfl (by simp only [List.map_toArray,List.map_cons,List.map_nil,(ev s8 rfl),(ev s10 rfl)] <;> rfl) (bdV9 _ _ _ _ _)) rfl hz (by decide) hS (fun R5 zz kk s11 => ?_);replace s2:=ku s2;replace s3:=ku s3;replace s7:=ku s7;replace s8:=ku s8;replace s9:=ku s9;replace s10:=ku s10;replace hz:=zz;clear kk zz;refine vh_take 5 true (.pointer (some ⟨w.heap.size + 1,1,none⟩)) rfl (by kernel_rfl) (by kernel_rfl) (by kernel_rfl) (want_none rfl) (fun hc v hv => ex_fa rfl (ev s3 rfl) (faM9_1 _ _)) rfl hz (by decide) hS (fun R6 zz kk s12 => ?_);replace s2:=ku s2;replace s3:=ku s3;replace s7:=ku s7;replace s8:=ku s8;replace s9:=ku s9;replace s10:=ku s10;replace s11:=ku s11;replace hz:=zz;clear kk zz;refine vh_take 6 true (.int .i64 m.m.nd) rfl (by kernel_rfl) (by kernel_rfl) (by kernel_rfl) (want_none rfl) (fun hc v hv => ex_ld rfl (ev s12 rfl) (ldI8 (hv.2.cell 1 _ rfl))) rfl hz (by decide) hS (fun R7 zz kk s13 => ?_);replace s2:=ku s2;replace s3:=ku s3;replace s7:=ku s7;replace s8:=ku s8;replace s9:=ku s9;replace s10:=ku s10;replace s11:=ku s11;replace s12:=ku s12;replace hz:=zz;clear kk zz;refine vh_take 7 true (.pointer (some ⟨w.heap.size + 1,17,none⟩)) rfl (by kernel_rfl) (by kernel_rfl) (by kernel_rfl) (want_none rfl) (fun hc v hv => ex_fa rfl (ev s3 rfl) (faM9_10 _ _)) rfl hz (by decide) hS (fun R8 zz kk s14 => ?_);replace s2:=ku s2;replace s3:=ku s3;replace s7:=ku s7;replace s8:=ku s8;replace s9:=ku s9;replace s10:=ku s10;replace s11:=ku s11;replace s12:=ku s12;replace s13:=ku s13;replace hz:=zz;clear kk zz;refine vh_take 8 true (.slice m.va m.V.length m.vc) rfl (by kernel_rfl) (by kernel_rfl) (by kernel_rfl) (want_none rfl) (fun hc v hv => ex_ld rfl (ev s14 rfl) (ldV8 (hv.2.cell 17 _ rfl))) rfl hz (by decide) hS (fun R9 zz kk s15 => ?_);replace s2:=ku s2;replace s3:=ku s3;replace s7:=ku s7;replace s8:=ku s8;replace s9:=ku s9;replace s10:=ku s10;replace s11:=ku s11;replace s12:=ku s12;replace s13:=ku s13;replace s14:=ku s14;replace hz:=zz;clear kk zz;refine vh_take 9 true (Vo9.val (thr9 m)) rfl (by kernel_rfl) (by kernel_rfl) (by kernel_rfl) (want_none rfl) (fun hc v hv => ex_buildP rfl (by simp only [List.map_toArray,List.map_cons,List.map_nil,(ev s13 rfl),(ev s15 rfl)] <;> rfl) (bdV9 _ _ _ _ _)) rfl hz (by decide) hS (fun R10 zz kk s16 => ?_);replace s2:=ku s2;replace s3:=ku s3;replace s7:=ku s7;replace s8:=ku s8;replace s9:=ku s9;replace s10:=ku s10;replace s11:=ku s11;replace s12:=ku s12;replace s13:=ku s13;replace s14:=ku s14;replace s15:=ku s15;replace hz:=zz;clear kk zz
  obtain ⟨q5,hq5⟩ : ∃ z,z = wd.heap.size:=⟨_,rfl⟩
  obtain ⟨wa,hwa⟩ : ∃ y,y = wd.alloc (.cells zV9.cs.toArray 92):=⟨_,rfl⟩
  have bwa : Below wd.heap.size wd wa:=by rw [hwa];exact (Below.refl _ _).alloc (Nat.le_refl _) _
  have HQq5 : VB9 wa q5 zV9:=by rw [hwa,hq5];exact BX7.new _ _ _
  have zwa:=bwa.size;have hS5:=And.intro (hS.1.bel bwa) (hS.2.bel bwa);have lwa:=HQq5.lt
  obtain ⟨q6,hq6⟩ : ∃ z,z = wd.heap.size:=⟨_,rfl⟩
  obtain ⟨wb,hwb⟩ : ∃ y,y = wd.alloc (.cells zV9.cs.toArray 92):=⟨_,rfl⟩
  have bwb : Below wd.heap.size wd wb:=by rw [hwb];exact (Below.refl _ _).alloc (Nat.le_refl _) _
  have HQq6 : VB9 wb q6 zV9:=by rw [hwb,hq6];exact BX7.new _ _ _
  have zwb:=bwb.size;have hS6:=And.intro (hS.1.bel bwb) (hS.2.bel bwb);have lwb:=HQq6.lt;refine vh_twoV9 10 11 (by kernel_rfl) rfl rfl (.pointer (some ⟨q5,0,none⟩)) wa (want_none rfl) (ex_al rfl (by rw [hwa,hq5];exact alV9 _)) rfl hz (by decide) hS5 ?_ (.pointer (some ⟨q6,0,none⟩)) wb (want_none rfl) (ex_al rfl (by rw [hwb,hq6];exact alV9 _)) rfl (by decide) hS6 ?_
  ·skip
   clear hwb bwb HQq6 zwb hS6 lwb hq6 wb q6;intro R11 zz kk s5x;replace s2:=ku s2;replace s3:=ku s3;replace s7:=ku s7;replace s8:=ku s8;replace s9:=ku s9;replace s10:=ku s10;replace s11:=ku s11;replace s12:=ku s12;replace s13:=ku s13;replace s14:=ku s14;replace s15:=ku s15;replace s16:=ku s16;clear kk hz;have hz:=zz;have s5:=s5x;clear zz s5x;clear hS;have hS:=hS5;have hB:=hB.trans (bwa.mono (by omega));clear hwa
   obtain ⟨q6,hq6⟩ : ∃ z,z = wa.heap.size:=⟨_,rfl⟩
   obtain ⟨wf,hwf⟩ : ∃ y,y = wa.alloc (.cells zV9.cs.toArray 92):=⟨_,rfl⟩
   have bwf : Below wa.heap.size wa wf:=by rw [hwf];exact (Below.refl _ _).alloc (Nat.le_refl _) _
   have HQq6 : VB9 wf q6 zV9:=by rw [hwf,hq6];exact BX7.new _ _ _
   have zwf:=bwf.size;have hS7:=And.intro (hS.1.bel bwf) (hS.2.bel bwf);have lwf:=HQq6.lt;have HQq5:=HQq5.bel bwf;refine vh_val8 11 (.pointer (some ⟨q6,0,none⟩)) wf rfl (by kernel_rfl) (want_none rfl) (ex_al rfl (by rw [hwf,hq6];exact alV9 _)) rfl hz (by decide) hS7 (fun R12 zz kk s6 => ?_);replace s2:=ku s2;replace s3:=ku s3;replace s7:=ku s7;replace s8:=ku s8;replace s9:=ku s9;replace s10:=ku s10;replace s11:=ku s11;replace s12:=ku s12;replace s13:=ku s13;replace s14:=ku s14;replace s15:=ku s15;replace s16:=ku s16;replace s5:=ku s5;replace hz:=zz;clear kk zz;clear hS;have hS:=hS7;have hB:=hB.trans (bwf.mono (by omega));clear hwf hS7;have HPq5:=VB9.put HQq5 (mine9 s);have UPq5:=updV9 wf q5 (mine9 s);have hS8:=And.intro (hS.1.upd UPq5 (by show ¬ w.heap.size = q5;omega)) (hS.2.upd UPq5 (by show ¬ w.heap.size + 1 = q5;omega));refine vh_store8 12 (sets wf q5 0 (Vo9.cs (mine9 s))) rfl (by kernel_rfl) (want_none rfl) (ex_st rfl (ev s5 rfl) (ev s11 rfl) (stV9 HQq5 (mine9 s))) rfl hS8 ?_
   obtain ⟨wc,hwc⟩ : ∃ v,v = sets wf q5 0 (Vo9.cs (mine9 s)):=⟨_,rfl⟩
   rw [← hwc] at HPq5 UPq5 hS8 ⊢;clear hwc;have hB:=hB.trans (UPq5.below (B:=w.heap.size) (by omega) (fun k hk => by omega));have zz9:=UPq5.size;clear hS;have hS:=hS8;clear hS8;have HQq6:=HQq6.upd UPq5 (by show ¬ q6 = q5;omega);have HPq6:=VB9.put HQq6 (thr9 m);have UPq6:=updV9 wc q6 (thr9 m);have hS8:=And.intro (hS.1.upd UPq6 (by show ¬ w.heap.size = q6;omega)) (hS.2.upd UPq6 (by show ¬ w.heap.size + 1 = q6;omega));refine vh_store8 13 (sets wc q6 0 (Vo9.cs (thr9 m))) rfl (by kernel_rfl) (want_none rfl) (ex_st rfl (ev s6 rfl) (ev s16 rfl) (stV9 HQq6 (thr9 m))) rfl hS8 ?_
   obtain ⟨we,hwe⟩ : ∃ v,v = sets wc q6 0 (Vo9.cs (thr9 m)):=⟨_,rfl⟩
   rw [← hwe] at HPq6 UPq6 hS8 ⊢;clear hwe;have hB:=hB.trans (UPq6.below (B:=w.heap.size) (by omega) (fun k hk => by omega));have zz9:=UPq6.size;clear hS;have hS:=hS8;clear hS8;have HPq5:=HPq5.upd UPq6 (by show ¬ q5 = q6;omega);refine vh_done (by kernel_rfl) ?_
   exact ⟨_,rfl,hz,s2,s3,q5,q6,s5,s6,HPq5,HPq6,hS.1,hS.2,hB⟩
  ·skip
   clear hwa bwa HQq5 zwa hS5 lwa hq5 wa q5;intro R13 zz kk s6x;replace s2:=ku s2;replace s3:=ku s3;replace s7:=ku s7;replace s8:=ku s8;replace s9:=ku s9;replace s10:=ku s10;replace s11:=ku s11;replace s12:=ku s12;replace s13:=ku s13;replace s14:=ku s14;replace s15:=ku s15;replace s16:=ku s16;clear kk hz;have hz:=zz;have s6:=s6x;clear zz s6x;clear hS;have hS:=hS6;have hB:=hB.trans (bwb.mono (by omega));clear hwb
   obtain ⟨q5,hq5⟩ : ∃ z,z = wb.heap.size:=⟨_,rfl⟩
   obtain ⟨wf,hwf⟩ : ∃ y,y = wb.alloc (.cells zV9.cs.toArray 92):=⟨_,rfl⟩
   have bwf : Below wb.heap.size wb wf:=by rw [hwf];exact (Below.refl _ _).alloc (Nat.le_refl _) _
   have HQq5 : VB9 wf q5 zV9:=by rw [hwf,hq5];exact BX7.new _ _ _
   have zwf:=bwf.size;have hS7:=And.intro (hS.1.bel bwf) (hS.2.bel bwf);have lwf:=HQq5.lt;have HQq6:=HQq6.bel bwf;refine vh_val8 10 (.pointer (some ⟨q5,0,none⟩)) wf rfl (by kernel_rfl) (want_none rfl) (ex_al rfl (by rw [hwf,hq5];exact alV9 _)) rfl hz (by decide) hS7 (fun R14 zz kk s5 => ?_);replace s2:=ku s2;replace s3:=ku s3;replace s7:=ku s7;replace s8:=ku s8;replace s9:=ku s9;replace s10:=ku s10;replace s11:=ku s11;replace s12:=ku s12;replace s13:=ku s13;replace s14:=ku s14;replace s15:=ku s15;replace s16:=ku s16;replace s6:=ku s6;replace hz:=zz;clear kk zz;clear hS;have hS:=hS7;have hB:=hB.trans (bwf.mono (by omega));clear hwf hS7;have HPq5:=VB9.put HQq5 (mine9 s);have UPq5:=updV9 wf q5 (mine9 s);have hS8:=And.intro (hS.1.upd UPq5 (by show ¬ w.heap.size = q5;omega)) (hS.2.upd UPq5 (by show ¬ w.heap.size + 1 = q5;omega));refine vh_store8 12 (sets wf q5 0 (Vo9.cs (mine9 s))) rfl (by kernel_rfl) (want_none rfl) (ex_st rfl (ev s5 rfl) (ev s11 rfl) (stV9 HQq5 (mine9 s))) rfl hS8 ?_
   obtain ⟨wc,hwc⟩ : ∃ v,v = sets wf q5 0 (Vo9.cs (mine9 s)):=⟨_,rfl⟩
   rw [← hwc] at HPq5 UPq5 hS8 ⊢;clear hwc;have hB:=hB.trans (UPq5.below (B:=w.heap.size) (by omega) (fun k hk => by omega));have zz9:=UPq5.size;clear hS;have hS:=hS8;clear hS8;have HQq6:=HQq6.upd UPq5 (by show ¬ q6 = q5;omega);have HPq6:=VB9.put HQq6 (thr9 m);have UPq6:=updV9 wc q6 (thr9 m);have hS8:=And.intro (hS.1.upd UPq6 (by show ¬ w.heap.size = q6;omega)) (hS.2.upd UPq6 (by show ¬ w.heap.size + 1 = q6;omega));refine vh_store8 13 (sets wc q6 0 (Vo9.cs (thr9 m))) rfl (by kernel_rfl) (want_none rfl) (ex_st rfl (ev s6 rfl) (ev s16 rfl) (stV9 HQq6 (thr9 m))) rfl hS8 ?_
   obtain ⟨we,hwe⟩ : ∃ v,v = sets wc q6 0 (Vo9.cs (thr9 m)):=⟨_,rfl⟩
   rw [← hwe] at HPq6 UPq6 hS8 ⊢;clear hwe;have hB:=hB.trans (UPq6.below (B:=w.heap.size) (by omega) (fun k hk => by omega));have zz9:=UPq6.size;clear hS;have hS:=hS8;clear hS8;have HPq5:=HPq5.upd UPq6 (by show ¬ q5 = q6;omega);refine vh_done (by kernel_rfl) ?_
   exact ⟨_,rfl,hz,s2,s3,q5,q6,s5,s6,HPq5,HPq6,hS.1,hS.2,hB⟩
 ·clear hz s2 s3 hS hB hzd
  intro T9 z1 hJ;obtain ⟨hz,s2,s3,q5,q6,s5,s6,HI9⟩:=hJ;obtain ⟨H5,H6,HS,HM,hB⟩:=HI9.out;clear HI9;have hv0 : Below z1.heap.size z1 z1:=Below.refl _ _;have hzz:=hB.size
  go_upto_region 2 with fail
  refine wp_region_lit ?_;have Yc:=((((Rp.nil hz).cons s2).cons s3).cons s5).cons s6;clear hz s2 s3 s5 s6
  refine Yc.t _ (ex_fa rfl (Yc.f 2) (faS6 _ _)) fun _ Yd => ?_;clear Yc
  refine Yd.t _ (ex_ld rfl (Yd.f 17) (ldV8 ((HS.bel hv0).cell 6 _ rfl))) fun _ Ye => ?_;clear Yd
  refine Ye.t _ (ex_ld rfl (Ye.f 6) (VB9.ld (H6.bel hv0))) fun _ Yf => ?_;clear Ye
  refine vcall true (.bool (ovB9 s.V (thr9 m))) (want_none rfl) (fun hc => ex_call rfl (by simp only [List.map_toArray,List.map_cons,List.map_nil,(Yf.f 18),(Yf.f 19),evc] <;> rfl) rfl) (fun hc => over9 s.V s.va s.vc (thr9 m) z1 ((hI.later (hB.trans (hv0.mono hzz))).v) ((hM.later (hB.trans (hv0.mono hzz))).v)) rfl Yf.z (by decide) (Yf.kc fun Yg x1 hb Yh => ?_);clear Yf;have hx1:=hv0.trans (hb.mono hv0.size);clear hb
  refine Yh.t (.bool (!(ovB9 s.V (thr9 m)))) (ex_not rfl (Yh.f 20)) fun _ Yi => ?_;clear Yh
  refine Yi.t _ (ex_move rfl (Yi.f 21)) fun _ Yj => ?_;clear Yi
  refine Yj.g 22 rfl rfl rfl _ (fun hc => ex_fa rfl (Yj.f 3) (faM9_10 _ _)) fun Yk Yl => ?_;clear Yj
  refine Yl.g 22 rfl rfl rfl _ (fun hc => ex_ld rfl (ev (Yl.a 23 rfl) hc) (ldV8 ((HM.bel hx1).cell 17 _ rfl))) fun Ym Yn => ?_;clear Yl
  refine Yn.g 22 rfl rfl rfl _ (fun hc => ex_ld rfl (Yn.f 5) (VB9.ld (H5.bel hx1))) fun Yo Yp => ?_;clear Yn
  refine vcall (true && ((!(ovB9 s.V (thr9 m))) == true)) (.bool (ovB9 m.V (mine9 s))) (want_g rfl rfl (Yp.a 22 rfl)) (fun hc => ex_call rfl (by simp only [List.map_toArray,List.map_cons,List.map_nil,(ev (Yp.a 24 rfl) hc),(ev (Yp.a 25 rfl) hc),evc] <;> rfl) rfl) (fun hc => over9 m.V m.va m.vc (mine9 s) x1 ((hM.later (hB.trans (hx1.mono hzz))).v) ((hI.later (hB.trans (hx1.mono hzz))).v)) rfl Yp.z (by decide) (Yp.kc fun Yq x2 hb Yr => ?_);clear Yp;have hx2:=hx1.trans (hb.mono hx1.size);clear hb
  refine Yr.g 22 rfl rfl rfl (.bool (!(ovB9 m.V (mine9 s)))) (fun hc => ex_not rfl (ev (Yr.a 26 rfl) hc)) fun Ys Yt => ?_;clear Yr
  refine Yt.t (.bool ((!(ovB9 s.V (thr9 m))) && (!(ovB9 m.V (mine9 s))))) (ex_and rfl (Yt.a 22 rfl) (Yt.a 27 rfl) rfl) fun _ Yu => ?_;clear Yt
  refine Yu.t _ (ex_assign rfl (Yu.f 28)) fun _ Yv => ?_;clear Yu
  have hz:=Yv.z;have s4:=Yv.a 4 rfl;clear Yv;refine wpList_nil ?_
  go_wp2
  refine bodyPost_ret (results_tmp rfl _ _ _) rfl ⟨?_,hB.trans (hx2.mono hzz)⟩;rw [getD_of s4]
  rfl
set_option maxHeartbeats 1000000 in
theorem admit9 (c : Cg) (s : Sta) (m : Ms9) (w : World) (hI : s.In w) (hF : s.Fit) (hM : m.In w) (hMF : m.Fit) (hT : Tab w) : Calls Tryz.prog 6 #[c.val,s.val,m.val] w fun e w' => ∃ (t : Sta) (b : Bool),e = .returned (.tuple #[t.val,.bool b,.int .i64 (adE9 c s m)])∧t.In w'∧Ad9 w.heap.size c s m t b w'∧Below w.heap.size w w':=by
 go_enter Tryz.func6,Tryz.ntmps6
 go_upto_region 0 with fail
 refine wp_region_lit ?_;refine vl_gen (fun T => T.size = 66∧T[0]? = some (gw true (c.val))∧T[1]? = some (gw true (s.val))∧T[2]? = some (gw true (m.val))) ⟨rfl,rfl,rfl,rfl⟩ (fun Z0 ⟨hz,s0,s1,s2⟩ => ?_)
 obtain ⟨w1,hw1⟩ : ∃ y,y = w.alloc (.cells c.cs.toArray 23):=⟨_,rfl⟩
 have hb : Below w.heap.size w w1:=by rw [hw1];exact (Below.refl _ _).alloc (Nat.le_refl _) _
 have hs1 : w1.heap.size = w.heap.size + 1:=by rw [hw1];simp
 have HC : CB7 w1 (w.heap.size) c:=by rw [hw1];exact BX7.new _ _ _
 refine vw (.pointer (some ⟨w.heap.size,0,none⟩)) w1 (want_none rfl) (ex_box8 rfl (ev s0 rfl) (by rw [hw1];exact bxC7 _ _)) rfl hz (by decide) (fun Z1 zz kk s3x => ?_);replace s1:=ku s1;replace s2:=ku s2;clear kk hz s0 hw1;have hz:=zz;have s3:=s3x;clear zz s3x;have hB:=hb;clear hb
 obtain ⟨w2,hw2⟩ : ∃ y,y = w1.alloc (.cells s.cs.toArray 33):=⟨_,rfl⟩
 have hb : Below w1.heap.size w1 w2:=by rw [hw2];exact (Below.refl _ _).alloc (Nat.le_refl _) _
 have hs2 : w2.heap.size = w.heap.size + 2:=by rw [hw2];simp;omega
 have HS : SB7 w2 (w.heap.size + 1) s:=by rw [hw2,← hs1];exact BX7.new _ _ _
 refine vw (.pointer (some ⟨w.heap.size + 1,0,none⟩)) w2 (want_none rfl) (ex_box8 rfl (ev s1 rfl) (by rw [hw2,← hs1];exact bxS7 _ _)) rfl hz (by decide) (fun Z2 zz kk s4x => ?_);replace s2:=ku s2;replace s3:=ku s3;clear kk hz s1 hw2;have hz:=zz;have s4:=s4x;clear zz s4x;have hB:=hB.trans (hb.mono (by omega));have HC:=HC.bel hb;clear hb
 obtain ⟨w3,hw3⟩ : ∃ y,y = w2.alloc (.cells m.cs.toArray 45):=⟨_,rfl⟩
 have hb : Below w2.heap.size w2 w3:=by rw [hw3];exact (Below.refl _ _).alloc (Nat.le_refl _) _
 have hs3 : w3.heap.size = w.heap.size + 3:=by rw [hw3];simp;omega
 have HM : MB9 w3 (w.heap.size + 2) m:=by rw [hw3,← hs2];exact BX7.new _ _ _
 refine vw (.pointer (some ⟨w.heap.size + 2,0,none⟩)) w3 (want_none rfl) (ex_box8 rfl (ev s2 rfl) (by rw [hw3,← hs2];exact bxM9 _ _)) rfl hz (by decide) (fun Z3 zz kk s5x => ?_);replace s3:=ku s3;replace s4:=ku s4;clear kk hz s2 hw3;have hz:=zz;have s5:=s5x;clear zz s5x;have hB:=hB.trans (hb.mono (by omega));have HC:=HC.bel hb;have HS:=HS.bel hb;clear hb;have hv0 : Below w3.heap.size w3 w3:=Below.refl _ _
 obtain ⟨w4,hw4⟩ : ∃ y,y = w3.alloc (.cells zS8.cs.toArray 33):=⟨_,rfl⟩
 have hb : Below w3.heap.size w3 w4:=by rw [hw4];exact (Below.refl _ _).alloc (Nat.le_refl _) _
 have HZ : SB7 w4 (w.heap.size + 3) zS8:=by rw [hw4,← hs3];exact BX7.new _ _ _
 have hz4 : w4.heap.size = w.heap.size + 4:=by rw [hw4];simp;omega
 have Ya:=(((Rp.nil hz).cons s3).cons s4).cons s5;clear hz s3 s4 s5;refine vw (.pointer (some ⟨w.heap.size + 3,0,none⟩)) w4 (want_none rfl) (ex_al rfl (by rw [hw4,← hs3];exact al12 _)) rfl Ya.z (by decide) (Ya.k fun Yb Yc => ?_);clear Ya
 refine Yc.t (.bool false) (ex_assign rfl rfl) fun _ Yd => ?_;clear Yc
 refine Yd.t (.int .i64 0) (ex_assign rfl rfl) fun _ Ye => ?_;clear Yd
 have hz:=Ye.z;have s3:=Ye.a 3 rfl;have s4:=Ye.a 4 rfl;have s5:=Ye.a 5 rfl;have s6:=Ye.a 6 rfl;clear Ye;refine wpList_nil ?_;have hB:=hB.trans (hb.mono (by omega));have HS:=HS.bel hb;have HC:=HC.bel hb;have HM:=HM.bel hb;clear hb hw4 hv0;have hv0 : Below w4.heap.size w4 w4:=Below.refl _ _;have hzc : w4.heap.size ≤ w4.heap.size:=Nat.le_refl _;have HI:=hI.later hB;have hT4:=hT.later hB hT.lt
 go_upto_region 1 with fail
 refine wp_region_lit ?_;have Yf:=((((Rp.nil hz).cons s3).cons s4).cons s5).cons s6;clear hz s3 s4 s5 s6
 refine Yf.t _ (ex_ld rfl (Yf.f 3) (CB7.ld (HC.bel hv0))) fun _ Yg => ?_;clear Yf
 refine Yg.t _ (ex_ld rfl (Yg.f 4) (SB7.ld (HS.bel hv0))) fun _ Yh => ?_;clear Yg
 refine vcall true (.int .i64 (s.ckE c)) (want_none rfl) (fun hc => ex_call rfl (by simp only [List.map_toArray,List.map_cons,List.map_nil,(Yh.f 13),(Yh.f 14),evc] <;> rfl) rfl) (fun hc => check8 c s w4 (HI.later hv0) hF) rfl Yh.z (by decide) (Yh.kc fun Yi x1 hb Yj => ?_);clear Yh;have hx1:=hv0.trans (hb.mono hv0.size);clear hb
 refine Yj.t _ (ex_assign rfl (Yj.f 15)) fun _ Yk => ?_;clear Yj
 have hz:=Yk.z;have s3:=Yk.a 3 rfl;have s4:=Yk.a 4 rfl;have s5:=Yk.a 5 rfl;have s6:=Yk.a 6 rfl;have s9:=Yk.a 9 rfl;clear Yk;refine wpList_nil ?_
 go_upto_region 2 with fail
 refine wp_region_lit ?_;have Yl:=(((((Rp.nil hz).cons s3).cons s4).cons s5).cons s6).cons s9;clear hz s3 s4 s5 s6 s9
 refine Yl.t _ (ex_move rfl (Yl.f 9)) fun _ Ym => ?_;clear Yl
 refine Ym.t (.bool (!decide ((s.ckE c) = 0))) (ex_bin rfl (Ym.f 16) rfl (neqN8 _ _ _ _ _)) fun _ Yn => ?_;clear Ym
 have hz:=Yn.z;have s3:=Yn.a 3 rfl;have s4:=Yn.a 4 rfl;have s5:=Yn.a 5 rfl;have s6:=Yn.a 6 rfl;have s9:=Yn.a 9 rfl;have s17:=Yn.a 17 rfl;clear Yn;refine wpList_nil ?_
 go_upto_region 3 with fail
 cases e17 : decide (s.ckE c = 0)
 ·refine wp_cond_true ((ev s17 rfl).trans (by rw [e17];rfl)) ?_
  have hne:=of_decide_eq_false e17;have hEE : adE9 c s m = s.ckE c:=if_neg hne
  go_upto_region 3 with fail
  refine wp_region_lit ?_;have Yo:=(((((Rp.nil hz).cons s3).cons s4).cons s5).cons s6).cons s9;clear hz s3 s4 s5 s6 s9
  refine Yo.t (zS8.val) (ex_build rfl (bd12 _)) fun _ Yp => ?_;clear Yo
  refine Yp.t _ (ex_move rfl (Yp.f 9)) fun _ Yq => ?_;clear Yp
  refine vs (sets x1 (w.heap.size + 3) 0 (Sta.cs zS8)) (want_none rfl) (ex_st rfl (Yq.f 6) (Yq.f 18) (st12 (HZ.bel hx1) zS8)) rfl ?_;have HP:=SB7.put (HZ.bel hx1) zS8;have UP:=upd12 x1 (w.heap.size + 3) zS8
  obtain ⟨u9,hu9⟩ : ∃ v,v = sets x1 (w.heap.size + 3) 0 (Sta.cs zS8):=⟨_,rfl⟩
  rw [← hu9] at HP UP ⊢;clear hu9
  refine Yq.t (.bool false) (ex_assign rfl rfl) fun _ Yr => ?_;clear Yq
  refine Yr.t _ (ex_assign rfl (Yr.f 19)) fun _ Ys => ?_;clear Yr
  have hz:=Ys.z;have s6:=Ys.a 6 rfl;have s7:=Ys.a 7 rfl;have s8:=Ys.a 8 rfl;clear Ys;refine wpList_nil ?_;have hB9:=hide ((hB.trans (hx1.mono (by omega))).trans (UP.below (by have:=hx1.size;omega) (fun k hk => by omega)))
  go_wp2
  refine bodyPost_ret (results_sta3 rfl (getD_of s6) (getD_of s7) (getD_of s8) HP) rfl ?_;rw [hEE]
  exact ⟨zS8,false,rfl,zS8_in _,.inl ⟨by rw [hEE];exact hne,rfl,rfl⟩,hB9.out⟩
 ·refine wp_cond_false ((ev s17 rfl).trans (by rw [e17];rfl)) ?_
  clear s17 s9;have hE0:=of_decide_eq_true e17;have hEE : adE9 c s m = adM9 c m:=if_pos hE0;have hB:=hB.trans (hx1.mono (by omega));have HS:=HS.bel hx1;have HC:=HC.bel hx1;have HM:=HM.bel hx1;have HZ:=HZ.bel hx1;have hzc:=hx1.size;have hv1 : Below x1.heap.size x1 x1:=Below.refl _ _
  go_upto_region 4 with fail
  refine wp_region_lit ?_;have Yt:=((((Rp.nil hz).cons s3).cons s4).cons s5).cons s6;clear hz s3 s4 s5 s6
  refine Yt.t _ (ex_ld rfl (Yt.f 3) (CB7.ld (HC.bel hv1))) fun _ Yu => ?_;clear Yt
  refine Yu.t _ (ex_ld rfl (Yu.f 5) (MB9.ld (HM.bel hv1))) fun _ Yv => ?_;clear Yu
  refine vcall true (.int .i64 (adM9 c m)) (want_none rfl) (fun hc => ex_call rfl (by simp only [List.map_toArray,List.map_cons,List.map_nil,(Yv.f 20),(Yv.f 21),evc] <;> rfl) rfl) (fun hc => mcheck9 c m x1 (hT.later (hB.trans (hv1.mono (by omega))) hT.lt) (hM.later (hB.trans (hv1.mono (by omega)))) hMF) rfl Yv.z (by decide) (Yv.kc fun Yw x2 hb Yx => ?_);clear Yv;have hx2:=hv1.trans (hb.mono hv1.size);clear hb
  refine Yx.t _ (ex_assign rfl (Yx.f 22)) fun _ Yy => ?_;clear Yx
  have hz:=Yy.z;have s3:=Yy.a 3 rfl;have s4:=Yy.a 4 rfl;have s5:=Yy.a 5 rfl;have s6:=Yy.a 6 rfl;have s10:=Yy.a 10 rfl;clear Yy;refine wpList_nil ?_
  go_upto_region 5 with fail
  refine wp_region_lit ?_;have Yz:=(((((Rp.nil hz).cons s3).cons s4).cons s5).cons s6).cons s10;clear hz s3 s4 s5 s6 s10
  refine Yz.t _ (ex_move rfl (Yz.f 10)) fun _ Y0 => ?_;clear Yz
  refine Y0.t (.bool (!decide ((adM9 c m) = 0))) (ex_bin rfl (Y0.f 23) rfl (neqN8 _ _ _ _ _)) fun _ Y1 => ?_;clear Y0
  have hz:=Y1.z;have s3:=Y1.a 3 rfl;have s4:=Y1.a 4 rfl;have s5:=Y1.a 5 rfl;have s6:=Y1.a 6 rfl;have s10:=Y1.a 10 rfl;have s24:=Y1.a 24 rfl;clear Y1;refine wpList_nil ?_
  go_upto_region 6 with fail
  cases e24 : decide (adM9 c m = 0)
  ·refine wp_cond_true ((ev s24 rfl).trans (by rw [e24];rfl)) ?_
   have hne:=of_decide_eq_false e24
   go_upto_region 6 with fail
   refine wp_region_lit ?_;have Y2:=(((((Rp.nil hz).cons s3).cons s4).cons s5).cons s6).cons s10;clear hz s3 s4 s5 s6 s10
   refine Y2.t (zS8.val) (ex_build rfl (bd12 _)) fun _ Y3 => ?_;clear Y2
   refine Y3.t _ (ex_move rfl (Y3.f 10)) fun _ Y4 => ?_;clear Y3
   refine vs (sets x2 (w.heap.size + 3) 0 (Sta.cs zS8)) (want_none rfl) (ex_st rfl (Y4.f 6) (Y4.f 25) (st12 (HZ.bel hx2) zS8)) rfl ?_;have HP:=SB7.put (HZ.bel hx2) zS8;have UP:=upd12 x2 (w.heap.size + 3) zS8
   obtain ⟨u9,hu9⟩ : ∃ v,v = sets x2 (w.heap.size + 3) 0 (Sta.cs zS8):=⟨_,rfl⟩
   rw [← hu9] at HP UP ⊢;clear hu9
   refine Y4.t (.bool false) (ex_assign rfl rfl) fun _ Y5 => ?_;clear Y4
   refine Y5.t _ (ex_assign rfl (Y5.f 26)) fun _ Y6 => ?_;clear Y5
   have hz:=Y6.z;have s6:=Y6.a 6 rfl;have s7:=Y6.a 7 rfl;have s8:=Y6.a 8 rfl;clear Y6;refine wpList_nil ?_;have hB9:=hide ((hB.trans (hx2.mono (by omega))).trans (UP.below (by have:=hx2.size;omega) (fun k hk => by omega)))
   go_wp2
   refine bodyPost_ret (results_sta3 rfl (getD_of s6) (getD_of s7) (getD_of s8) HP) rfl ?_;rw [hEE]
   exact ⟨zS8,false,rfl,zS8_in _,.inl ⟨by rw [hEE];exact hne,rfl,rfl⟩,hB9.out⟩
  refine wp_cond_false ((ev s24 rfl).trans (by rw [e24];rfl)) ?_;clear s24 s10;have hM0:=of_decide_eq_true e24;have hE9 : adE9 c s m = 0:=hEE.trans hM0;have hB:=hB.trans (hx2.mono (by omega));have HS:=HS.bel hx2;have HC:=HC.bel hx2;have HM:=HM.bel hx2;have HZ:=HZ.bel hx2;have hzc:=hx2.size;have hv2 : Below x2.heap.size x2 x2:=Below.refl _ _
  go_upto_region 7 with fail
  refine wp_region_lit ?_;have Y7:=((((Rp.nil hz).cons s3).cons s4).cons s5).cons s6;clear hz s3 s4 s5 s6
  refine Y7.t _ (ex_fa rfl (Y7.f 5) (faM9_0 _ _)) fun _ Y8 => ?_;clear Y7
  refine Y8.t _ (ex_ld rfl (Y8.f 28) (ldKd9 ((HM.bel hv2).cell 0 _ rfl))) fun _ Y9 => ?_;clear Y8
  refine vcall true (.bool (btB m.m.k)) (want_none rfl) (fun hc => ex_call rfl (by simp only [List.map_toArray,List.map_cons,List.map_nil,(Y9.f 29),evc] <;> rfl) rfl) (fun hc => between9 m.m.k x2 (hT.later (hB.trans (hv2.mono (by omega))) hT.lt)) rfl Y9.z (by decide) (Y9.kc fun Yba x3 hb Ybb => ?_);clear Y9;have hx3:=hv2.trans (hb.mono hv2.size);clear hb
  refine Ybb.t (.bool (!(btB m.m.k))) (ex_not rfl (Ybb.f 30)) fun _ Ybc => ?_;clear Ybb
  refine Ybc.t _ (ex_assign rfl (Ybc.f 31)) fun _ Ybd => ?_;clear Ybc
  have hz:=Ybd.z;have s3:=Ybd.a 3 rfl;have s4:=Ybd.a 4 rfl;have s5:=Ybd.a 5 rfl;have s6:=Ybd.a 6 rfl;have s27:=Ybd.a 27 rfl;clear Ybd;refine wpList_nil ?_
  go_upto_region 8 with fail
  cases eb : btB m.m.k
  ·refine wp_cond_true ((ev s27 rfl).trans (by rw [eb];rfl)) ?_
   clear s27
   go_upto_region 8 with fail
   refine wp_region_lit ?_;have Ybe:=((((Rp.nil hz).cons s3).cons s4).cons s5).cons s6;clear hz s3 s4 s5 s6
   refine Ybe.t _ (ex_ld rfl (Ybe.f 4) (SB7.ld (HS.bel hx3))) fun _ Ybf => ?_;clear Ybe
   refine vcallP (want_none rfl) (ex_call rfl (by simp only [List.map_toArray,List.map_cons,List.map_nil,(Ybf.f 32),evc] <;> rfl) rfl) (copied8 s x3 (hI.later (hB.trans (hx3.mono (by omega)))) hF) rfl Ybf.z (by decide) ?_;rintro e x9 ⟨t,rfl,hk,hlo,bk⟩;refine ⟨_,rfl,Ybf.k fun Ybg Ybh => ?_⟩;clear Ybf;have zk:=hx3.size;have zk2:=bk.size;have hB:=(hB.trans (hx3.mono (by omega))).trans (bk.mono (by omega));have HZ:=(HZ.bel hx3).bel bk;refine vs (sets x9 (w.heap.size + 3) 0 (Sta.cs t)) (want_none rfl) (ex_st rfl (Ybh.f 6) (Ybh.f 33) (st12 HZ t)) rfl ?_;have HP:=SB7.put HZ t;have UP:=upd12 x9 (w.heap.size + 3) t
   obtain ⟨u9,hu9⟩ : ∃ v,v = sets x9 (w.heap.size + 3) 0 (Sta.cs t):=⟨_,rfl⟩
   rw [← hu9] at HP UP ⊢;clear hu9
   refine Ybh.t (.bool true) (ex_assign rfl rfl) fun _ Ybi => ?_;clear Ybh
   refine Ybi.t (.int .i64 0) (ex_assign rfl rfl) fun _ Ybj => ?_;clear Ybi
   have hz:=Ybj.z;have s6:=Ybj.a 6 rfl;have s7:=Ybj.a 7 rfl;have s8:=Ybj.a 8 rfl;clear Ybj;refine wpList_nil ?_;have hk:=hk.set8 UP (by omega) hlo;have hB9:=hide (hB.trans (UP.below (by omega) (fun k hk => by omega)))
   go_wp2
   refine bodyPost_ret (results_sta3 rfl (getD_of s6) (getD_of s7) (getD_of s8) HP) rfl ?_;rw [hE9]
   exact ⟨t,true,rfl,hk.inn,.inr ⟨hE9,by rw [show adV9 c s m = s.V from by unfold adV9;rw [eb];rfl];exact hk.low8 (by omega),hlo.low (by omega),by unfold adB9;rw [eb];rfl⟩,hB9.out⟩
  refine wp_cond_false ((ev s27 rfl).trans (by rw [eb];rfl)) ?_;clear s27;have hB:=hB.trans (hx3.mono (by omega));have HS:=HS.bel hx3;have HC:=HC.bel hx3;have HM:=HM.bel hx3;have HZ:=HZ.bel hx3;have hzc:=hx3.size;have hv3 : Below x3.heap.size x3 x3:=Below.refl _ _
  go_upto_region 9 with fail
  refine wp_region_lit ?_;have Ybk:=((((Rp.nil hz).cons s3).cons s4).cons s5).cons s6;clear hz s3 s4 s5 s6
  refine Ybk.t _ (ex_fa rfl (Ybk.f 5) (faM9_1 _ _)) fun _ Ybl => ?_;clear Ybk
  refine Ybl.t _ (ex_ld rfl (Ybl.f 35) (ldI8 ((HM.bel hv3).cell 1 _ rfl))) fun _ Ybm => ?_;clear Ybl
  refine Ybm.t _ (ex_fa rfl (Ybm.f 4) (faS0 _ _)) fun _ Ybn => ?_;clear Ybm
  refine Ybn.t _ (ex_ld rfl (Ybn.f 37) (ldI8 ((HS.bel hv3).cell 0 _ rfl))) fun _ Ybo => ?_;clear Ybn
  refine Ybo.t (.bool (decide (m.m.nd = s.self))) (ex_bin rfl (Ybo.f 36) (Ybo.f 38) (eqlC _ _ _ _ _)) fun _ Ybp => ?_;clear Ybo
  refine Ybp.t _ (ex_assign rfl (Ybp.f 39)) fun _ Ybq => ?_;clear Ybp
  have hz:=Ybq.z;have s3:=Ybq.a 3 rfl;have s4:=Ybq.a 4 rfl;have s5:=Ybq.a 5 rfl;have s6:=Ybq.a 6 rfl;have s34:=Ybq.a 34 rfl;clear Ybq;refine wpList_nil ?_
  go_upto_region 10 with fail
  cases en : decide (m.m.nd = s.self)
  rotate_left
  ·refine wp_cond_true ((ev s34 rfl).trans (congrArg Value.bool en)) ?_
   clear s34
   go_upto_region 10 with fail
   refine wp_region_lit ?_;have Ybr:=((((Rp.nil hz).cons s3).cons s4).cons s5).cons s6;clear hz s3 s4 s5 s6
   refine Ybr.t _ (ex_ld rfl (Ybr.f 4) (SB7.ld (HS.bel hv3))) fun _ Ybs => ?_;clear Ybr
   refine vcallP (want_none rfl) (ex_call rfl (by simp only [List.map_toArray,List.map_cons,List.map_nil,(Ybs.f 40),evc] <;> rfl) rfl) (copied8 s x3 (hI.later (hB.trans (hv3.mono (by omega)))) hF) rfl Ybs.z (by decide) ?_;rintro e x9 ⟨t,rfl,hk,hlo,bk⟩;refine ⟨_,rfl,Ybs.k fun Ybt Ybu => ?_⟩;clear Ybs;have zk:=hv3.size;have zk2:=bk.size;have hB:=(hB.trans (hv3.mono (by omega))).trans (bk.mono (by omega));have HZ:=(HZ.bel hv3).bel bk;refine vs (sets x9 (w.heap.size + 3) 0 (Sta.cs t)) (want_none rfl) (ex_st rfl (Ybu.f 6) (Ybu.f 41) (st12 HZ t)) rfl ?_;have HP:=SB7.put HZ t;have UP:=upd12 x9 (w.heap.size + 3) t
   obtain ⟨u9,hu9⟩ : ∃ v,v = sets x9 (w.heap.size + 3) 0 (Sta.cs t):=⟨_,rfl⟩
   rw [← hu9] at HP UP ⊢;clear hu9
   refine Ybu.t (.bool false) (ex_assign rfl rfl) fun _ Ybv => ?_;clear Ybu
   refine Ybv.t (.int .i64 0) (ex_assign rfl rfl) fun _ Ybw => ?_;clear Ybv
   have hz:=Ybw.z;have s6:=Ybw.a 6 rfl;have s7:=Ybw.a 7 rfl;have s8:=Ybw.a 8 rfl;clear Ybw;refine wpList_nil ?_;have hk:=hk.set8 UP (by omega) hlo;have hB9:=hide (hB.trans (UP.below (by omega) (fun k hk => by omega)))
   go_wp2
   refine bodyPost_ret (results_sta3 rfl (getD_of s6) (getD_of s7) (getD_of s8) HP) rfl ?_;rw [hE9]
   exact ⟨t,false,rfl,hk.inn,.inr ⟨hE9,by rw [show adV9 c s m = s.V from by unfold adV9;rw [eb,en];rfl];exact hk.low8 (by omega),hlo.low (by omega),by unfold adB9;rw [eb,en];rfl⟩,hB9.out⟩
  refine wp_cond_false ((ev s34 rfl).trans (congrArg Value.bool en)) ?_;clear s34
  go_upto_region 11 with fail
  refine wp_region_lit ?_;have Ybx:=((((Rp.nil hz).cons s3).cons s4).cons s5).cons s6;clear hz s3 s4 s5 s6
  refine Ybx.t _ (ex_fa rfl (Ybx.f 3) (faC3 _ _)) fun _ Yby => ?_;clear Ybx
  refine Yby.t _ (ex_ld rfl (Yby.f 43) (ldU8 ((HC.bel hv3).cell 3 _ rfl))) fun _ Ybz => ?_;clear Yby
  refine Ybz.t _ (ex_assign rfl (Ybz.f 44)) fun _ Yb0 => ?_;clear Ybz
  have hz:=Yb0.z;have s3:=Yb0.a 3 rfl;have s4:=Yb0.a 4 rfl;have s5:=Yb0.a 5 rfl;have s6:=Yb0.a 6 rfl;have s42:=Yb0.a 42 rfl;clear Yb0;refine wpList_nil ?_
  go_upto_region 12 with fail
  cases eu : c.u
  rotate_left
  ·refine wp_cond_true ((ev s42 rfl).trans (congrArg Value.bool eu)) ?_
   clear s42
   go_upto_region 12 with fail
   refine wp_region_lit ?_;have Yb1:=((((Rp.nil hz).cons s3).cons s4).cons s5).cons s6;clear hz s3 s4 s5 s6
   refine Yb1.t _ (ex_ld rfl (Yb1.f 4) (SB7.ld (HS.bel hv3))) fun _ Yb2 => ?_;clear Yb1
   refine vcallP (want_none rfl) (ex_call rfl (by simp only [List.map_toArray,List.map_cons,List.map_nil,(Yb2.f 45),evc] <;> rfl) rfl) (copied8 s x3 (hI.later (hB.trans (hv3.mono (by omega)))) hF) rfl Yb2.z (by decide) ?_;rintro e x9 ⟨t,rfl,hk,hlo,bk⟩;refine ⟨_,rfl,Yb2.k fun Yb3 Yb4 => ?_⟩;clear Yb2;have zk:=hv3.size;have zk2:=bk.size;have hB:=(hB.trans (hv3.mono (by omega))).trans (bk.mono (by omega));have HZ:=(HZ.bel hv3).bel bk;refine vs (sets x9 (w.heap.size + 3) 0 (Sta.cs t)) (want_none rfl) (ex_st rfl (Yb4.f 6) (Yb4.f 46) (st12 HZ t)) rfl ?_;have HP:=SB7.put HZ t;have UP:=upd12 x9 (w.heap.size + 3) t
   obtain ⟨u9,hu9⟩ : ∃ v,v = sets x9 (w.heap.size + 3) 0 (Sta.cs t):=⟨_,rfl⟩
   rw [← hu9] at HP UP ⊢;clear hu9
   refine Yb4.t (.bool true) (ex_assign rfl rfl) fun _ Yb5 => ?_;clear Yb4
   refine Yb5.t (.int .i64 0) (ex_assign rfl rfl) fun _ Yb6 => ?_;clear Yb5
   have hz:=Yb6.z;have s6:=Yb6.a 6 rfl;have s7:=Yb6.a 7 rfl;have s8:=Yb6.a 8 rfl;clear Yb6;refine wpList_nil ?_;have hk:=hk.set8 UP (by omega) hlo;have hB9:=hide (hB.trans (UP.below (by omega) (fun k hk => by omega)))
   go_wp2
   refine bodyPost_ret (results_sta3 rfl (getD_of s6) (getD_of s7) (getD_of s8) HP) rfl ?_;rw [hE9]
   exact ⟨t,true,rfl,hk.inn,.inr ⟨hE9,by rw [show adV9 c s m = s.V from by unfold adV9;rw [eb,en,eu];rfl];exact hk.low8 (by omega),hlo.low (by omega),by unfold adB9;rw [eb,en,eu];rfl⟩,hB9.out⟩
  refine wp_cond_false ((ev s42 rfl).trans (congrArg Value.bool eu)) ?_;clear s42
  go_upto_region 13 with fail
  refine wp_region_lit ?_;have Yb7:=((((Rp.nil hz).cons s3).cons s4).cons s5).cons s6;clear hz s3 s4 s5 s6
  refine Yb7.t _ (ex_ld rfl (Yb7.f 4) (SB7.ld (HS.bel hv3))) fun _ Yb8 => ?_;clear Yb7
  refine Yb8.t _ (ex_ld rfl (Yb8.f 5) (MB9.ld (HM.bel hv3))) fun _ Yb9 => ?_;clear Yb8
  refine vcall true (.bool (hear9 s m)) (want_none rfl) (fun hc => ex_call rfl (by simp only [List.map_toArray,List.map_cons,List.map_nil,(Yb9.f 48),(Yb9.f 49),evc] <;> rfl) rfl) (fun hc => mayhear9 s m x3 (hI.later (hB.trans (hv3.mono (by omega)))) (hM.later (hB.trans (hv3.mono (by omega))))) rfl Yb9.z (by decide) (Yb9.kc fun Yca x4 hb Ycb => ?_);clear Yb9;have hx4:=hv3.trans (hb.mono hv3.size);clear hb
  refine Ycb.t (.bool (!(hear9 s m))) (ex_not rfl (Ycb.f 50)) fun _ Ycc => ?_;clear Ycb
  refine Ycc.t _ (ex_assign rfl (Ycc.f 51)) fun _ Ycd => ?_;clear Ycc
  have hz:=Ycd.z;have s3:=Ycd.a 3 rfl;have s4:=Ycd.a 4 rfl;have s5:=Ycd.a 5 rfl;have s6:=Ycd.a 6 rfl;have s47:=Ycd.a 47 rfl;clear Ycd;refine wpList_nil ?_
  go_upto_region 14 with fail
  cases eh : hear9 s m
  ·refine wp_cond_true ((ev s47 rfl).trans (by rw [eh];rfl)) ?_
   clear s47
   go_upto_region 14 with fail
   refine wp_region_lit ?_;have Yce:=((((Rp.nil hz).cons s3).cons s4).cons s5).cons s6;clear hz s3 s4 s5 s6
   refine Yce.t _ (ex_ld rfl (Yce.f 4) (SB7.ld (HS.bel hx4))) fun _ Ycf => ?_;clear Yce
   refine vcallP (want_none rfl) (ex_call rfl (by simp only [List.map_toArray,List.map_cons,List.map_nil,(Ycf.f 52),evc] <;> rfl) rfl) (copied8 s x4 (hI.later (hB.trans (hx4.mono (by omega)))) hF) rfl Ycf.z (by decide) ?_;rintro e x9 ⟨t,rfl,hk,hlo,bk⟩;refine ⟨_,rfl,Ycf.k fun Ycg Ych => ?_⟩;clear Ycf;have zk:=hx4.size;have zk2:=bk.size;have hB:=(hB.trans (hx4.mono (by omega))).trans (bk.mono (by omega));have HZ:=(HZ.bel hx4).bel bk;refine vs (sets x9 (w.heap.size + 3) 0 (Sta.cs t)) (want_none rfl) (ex_st rfl (Ych.f 6) (Ych.f 53) (st12 HZ t)) rfl ?_;have HP:=SB7.put HZ t;have UP:=upd12 x9 (w.heap.size + 3) t
   obtain ⟨u9,hu9⟩ : ∃ v,v = sets x9 (w.heap.size + 3) 0 (Sta.cs t):=⟨_,rfl⟩
   rw [← hu9] at HP UP ⊢;clear hu9
   refine Ych.t (.bool false) (ex_assign rfl rfl) fun _ Yci => ?_;clear Ych
   refine Yci.t (.int .i64 0) (ex_assign rfl rfl) fun _ Ycj => ?_;clear Yci
   have hz:=Ycj.z;have s6:=Ycj.a 6 rfl;have s7:=Ycj.a 7 rfl;have s8:=Ycj.a 8 rfl;clear Ycj;refine wpList_nil ?_;have hk:=hk.set8 UP (by omega) hlo;have hB9:=hide (hB.trans (UP.below (by omega) (fun k hk => by omega)))
   go_wp2
   refine bodyPost_ret (results_sta3 rfl (getD_of s6) (getD_of s7) (getD_of s8) HP) rfl ?_;rw [hE9]
   exact ⟨t,false,rfl,hk.inn,.inr ⟨hE9,by rw [show adV9 c s m = s.V from by unfold adV9;rw [eb,en,eu,eh];rfl];exact hk.low8 (by omega),hlo.low (by omega),by unfold adB9;rw [eb,en,eu,eh];rfl⟩,hB9.out⟩
  refine wp_cond_false ((ev s47 rfl).trans (by rw [eh];rfl)) ?_;clear s47;have hB:=hB.trans (hx4.mono (by omega));have HS:=HS.bel hx4;have HC:=HC.bel hx4;have HM:=HM.bel hx4;have HZ:=HZ.bel hx4;have hzc:=hx4.size;have hv4 : Below x4.heap.size x4 x4:=Below.refl _ _;obtain ⟨hv7,hlm⟩:=adlen9 hE0 hM0 eb
  obtain ⟨y5,hy5⟩ : ∃ y,y = x4.alloc (.cells #[.slice s.va s.V.length s.vc,.slice m.va m.V.length m.vc] 27):=⟨_,rfl⟩
  have b5 : Below x4.heap.size x4 y5:=by rw [hy5];exact (Below.refl _ _).alloc (Nat.le_refl _) _
  have k0 : y5.cell? ⟨x4.heap.size,0,none⟩ = some (.slice s.va s.V.length s.vc):=by rw [hy5];exact cell_box7 _ _ _ _ _ rfl
  have k1 : y5.cell? ⟨x4.heap.size,1,none⟩ = some (.slice m.va m.V.length m.vc):=by rw [hy5];exact cell_box7 _ _ _ _ _ rfl
  have z5:=b5.size;have hB5:=hB.trans (b5.mono (by omega))
  go_upto_region 15 with fail
  refine wp_region_lit ?_;have Yck:=((((Rp.nil hz).cons s3).cons s4).cons s5).cons s6;clear hz s3 s4 s5 s6
  refine Yck.t _ (ex_fa rfl (Yck.f 4) (faS6 _ _)) fun _ Ycl => ?_;clear Yck
  refine Ycl.t _ (ex_ld rfl (Ycl.f 55) (ldV8 ((HS.bel hv4).cell 6 _ rfl))) fun _ Ycm => ?_;clear Ycl
  refine Ycm.t _ (ex_fa rfl (Ycm.f 5) (faM9_10 _ _)) fun _ Ycn => ?_;clear Ycm
  refine Ycn.t _ (ex_ld rfl (Ycn.f 57) (ldV8 ((HM.bel hv4).cell 17 _ rfl))) fun _ Yco => ?_;clear Ycn
  refine vw (.slice (some ⟨x4.heap.size,0,none⟩) 2 2) y5 (want_none rfl) (ex_bs2_9 rfl (Yco.f 56) (Yco.f 58) (by rw [hy5];exact bsVV9 _ _ _)) rfl Yco.z (by decide) (Yco.k fun Ycp Ycq => ?_);clear Yco;refine vcallP (want_none rfl) (ex_call rfl (by simp only [List.map_toArray,List.map_cons,List.map_nil,(Ycq.f 59),evc] <;> rfl) rfl) (merge9 s.V m.V s.va m.va s.vc m.vc _ y5 (hI.later hB5).v (hM.later hB5).v hlm hv7 k0 k1) rfl Ycq.z (by decide) ?_;rintro e y6 ⟨gm,rfl,oJ,bJ⟩;refine ⟨_,rfl,Ycq.k fun Ycr Ycs => ?_⟩;clear Ycq;have z6:=bJ.size;have hB:=hB5.trans (bJ.mono (by omega));have HS:=(HS.bel b5).bel bJ;have HZ:=(HZ.bel b5).bel bJ;clear b5 k0 k1 hy5
  refine Ycs.t _ (ex_move rfl (Ycs.f 60)) fun _ Yct => ?_;clear Ycs
  refine Yct.t _ (ex_ext8 rfl (Yct.f 54) rfl) fun _ Ycu => ?_;clear Yct
  refine Ycu.t _ (ex_ext8 rfl (Ycu.f 54) rfl) fun _ Ycv => ?_;clear Ycu
  refine Ycv.t _ (ex_assign rfl (Ycv.f 61)) fun _ Ycw => ?_;clear Ycv
  refine Ycw.t _ (ex_assign rfl (Ycw.f 62)) fun _ Ycx => ?_;clear Ycw
  have hz:=Ycx.z;have s4:=Ycx.a 4 rfl;have s6:=Ycx.a 6 rfl;have s11:=Ycx.a 11 rfl;clear Ycx;refine wpList_nil ?_;have hvy : Below y6.heap.size y6 y6:=Below.refl _ _;have ej:=jn9_length s.V m.V;have oS : SlY yD y6 (some ⟨gm,0,none⟩) (jn9 s.V m.V).length s.V.length (jn9 s.V m.V):=ej.symm ▸ oJ.sl' kD;rw [show (Value.slice (some ⟨gm,0,none⟩) s.V.length s.V.length) = .slice (some ⟨gm,0,none⟩) (jn9 s.V m.V).length s.V.length from by rw [ej]] at s11
  go_upto_region 16 with fail
  refine wp_region_lit ?_;have Ycy:=(((Rp.nil hz).cons s4).cons s6).cons s11;clear hz s4 s6 s11
  refine Ycy.t _ (ex_ld rfl (Ycy.f 4) (SB7.ld (HS.bel hvy))) fun _ Ycz => ?_;clear Ycy
  refine Ycz.t _ (ex_move rfl (Ycz.f 11)) fun _ Yc0 => ?_;clear Ycz
  refine vcallP (want_none rfl) (ex_call rfl (by simp only [List.map_toArray,List.map_cons,List.map_nil,(Yc0.f 63),(Yc0.f 64),evc] <;> rfl) rfl) (knowing8 s (some ⟨gm,0,none⟩) s.V.length (jn9 s.V m.V) y6 (hI.later hB) hF oS (by omega)) rfl Yc0.z (by decide) ?_;rintro e x9 ⟨t,rfl,hk,hlo,bk⟩;refine ⟨_,rfl,Yc0.k fun Yc1 Yc2 => ?_⟩;clear Yc0;have zk2:=bk.size;have hB:=hB.trans (bk.mono (by omega));have HZ:=HZ.bel bk;refine vs (sets x9 (w.heap.size + 3) 0 (Sta.cs t)) (want_none rfl) (ex_st rfl (Yc2.f 6) (Yc2.f 65) (st12 HZ t)) rfl ?_;have HP:=SB7.put HZ t;have UP:=upd12 x9 (w.heap.size + 3) t
  obtain ⟨u9,hu9⟩ : ∃ v,v = sets x9 (w.heap.size + 3) 0 (Sta.cs t):=⟨_,rfl⟩
  rw [← hu9] at HP UP ⊢;clear hu9
  refine Yc2.t (.bool true) (ex_assign rfl rfl) fun _ Yc3 => ?_;clear Yc2
  refine Yc3.t (.int .i64 0) (ex_assign rfl rfl) fun _ Yc4 => ?_;clear Yc3
  have hz:=Yc4.z;have s6:=Yc4.a 6 rfl;have s7:=Yc4.a 7 rfl;have s8:=Yc4.a 8 rfl;clear Yc4;refine wpList_nil ?_;have hk:=hk.set8 UP (by omega) hlo;have hB9:=hide (hB.trans (UP.below (by omega) (fun k hk => by omega)))
  go_wp2
  refine bodyPost_ret (results_sta3 rfl (getD_of s6) (getD_of s7) (getD_of s8) HP) rfl ?_;rw [hE9]
  exact ⟨t,true,rfl,hk.inn,.inr ⟨hE9,by rw [show adV9 c s m = jn9 s.V m.V from by unfold adV9;rw [eb,en,eu,eh];rfl];exact hk.low8 (by omega),hlo.low (by omega),by unfold adB9;rw [eb,en,eu,eh];rfl⟩,hB9.out⟩
theorem ex_mk9 {o : Oper} {ρ : Operand → Value} {s : TypeId} {x y : Operand} {X Y V : Value} {w w' : World} (ho : o.op = .makeSlice s x y) (hx : ρ x = X) (hy : ρ y = Y) (hr : (Instr.makeSlice s X Y).run Tryz.prog w = .ok V w') : (execOp ρ o).run Tryz.prog w = .ok (.value V) w':=by
 unfold execOp
 simp only [ho,hx,hy,Sem.run_bind,hr,Result.andThen_ok]
 rfl
theorem mkD9 (n : Nat) (hn : n ≤ 7) (w : World) : ∃ w',(Instr.makeSlice 27 (.int .i64 (n : Int)) (.int .i64 (n : Int))).run Tryz.prog w = .ok (.slice (some ⟨w.heap.size,0,none⟩) n n) w'∧OwnY yD w.heap.size w' (.slice (some ⟨w.heap.size,0,none⟩) n n) (List.replicate n (0,0))∧Below w.heap.size w w':=by
 obtain ⟨zv,hinfo,hzc⟩:=kD.info;obtain ⟨i0,hi,hz0,hz1,hz2⟩:=info_parts hinfo;have hr:=run_make (P:=Tryz.prog) w yD.ST yD.T i0 zv kD.und hi hz0 .i64 .i64 n n (by omega) (Int.le_refl _) (room_int hz2 (by show n * 16 ≤ _;omega)) (by omega);rw [Int.toNat_natCast,hz1] at hr;refine ⟨_,hr,?_,(Below.refl _ _).alloc (Nat.le_refl _) _⟩
 unfold OwnY at *
 rw [List.length_replicate,show List.replicate n ((0 : Int),(0 : Int)) = List.replicate n yD.z from rfl,← madeY kD hzc]
 exact World.ownsRow_lit w _ n (Nat.le_refl _) (by unfold maxLen;omega) (size_madeCells _ _)
theorem results_sta2_9 {fn : Func} {i j : Tmp} {q : Nat} {t : Sta} {x : Value} {tmps : Array Value} {w : World} (h : fn.results = #[.cell i 33,.tmp j]) (hq : tmps.getD i undef = .pointer (some ⟨q,0,none⟩)) (hj : tmps.getD j undef = x) (hb : SB7 w q t) : (results fn tmps).run Tryz.prog w = .ok (.tuple #[t.val,x]) w:=by
 have:=run_loadVar_mid (P:=Tryz.prog) w q 0 33 t.cs _ (fun j v hv => by rw [Nat.zero_add];exact hb.cell j v hv) Tryz.underlying33 rfl (by kernel_rfl);simp only [results,h];simp only [Array.getD_eq_getD_getElem?] at hq hj
 simp [Sem.run_bind,Result.andThen,hq,hj,asAddr,this]
 rfl
def fvE9 (c : Cg) (x : Int) : Int:=if c.okB = true then (if inB x 0 (c.nd - 1) = true then 0 else 3) else 1
def Fv9 (B : Nat) (c : Cg) (x : Int) (v : Value) (w : World) : Prop:=(fvE9 c x ≠ 0∧v = .slice none 0 0) ∨ (fvE9 c x = 0∧∃ g n,c.nd = ((n : Nat) : Int)∧v = .slice (some ⟨g,0,none⟩) n n∧OwnY yD B w v (List.replicate n (0,0)))
def vst9 (x st : Int) (g n : Nat) (V : List (Int × Int)) : Sta:=⟨x,st,0,0,none,0,[],0,some ⟨g,0,none⟩,n,V,0,none,0,[],none,0,[],none,0,[],none,0,[]⟩
def fst9 (x st : Int) (g n : Nat) : Sta:=vst9 x st g n (List.replicate n (0,0))
theorem vst9_in {w : World} {x st : Int} {g n : Nat} {V : List (Int × Int)} (h : SlY yD w (some ⟨g,0,none⟩) V.length n V) : (vst9 x st g n V).In w:=⟨nil_sl8 _ _,h,nil_sl8 _ _,nil_sl8 _ _,nil_sl8 _ _,nil_sl8 _ _,(fun x h => by cases h),(fun x h => by cases h)⟩
theorem fst9_in {w : World} {x st : Int} {g n : Nat} (h : SlY yD w (some ⟨g,0,none⟩) n n (List.replicate n (0,0))) : (fst9 x st g n).In w:=vst9_in (by rw [List.length_replicate];exact h)
def Fs9 (B : Nat) (c : Cg) (x st : Int) (t : Sta) (w : World) : Prop:=(fvE9 c x ≠ 0∧t = zS8) ∨ (fvE9 c x = 0∧∃ g n,c.nd = ((n : Nat) : Int)∧t = fst9 x st g n∧OwnY yD B w (.slice (some ⟨g,0,none⟩) n n) (List.replicate n (0,0)))
theorem bdS9 (x k : Int) (g n : Nat) (V : List (Int × Int)) (w : World) : (Instr.build 33 #[(0,.int .i64 x),(1,.int .i64 k),(6,.slice (some ⟨g,0,none⟩) V.length n)]).run Tryz.prog w = .ok (vst9 x k g n V).val w:=by
 unfold vst9 Sta.val
 go_simp
 first | done | rfl
theorem bdF9 (x k : Int) (g n : Nat) (w : World) : (Instr.build 33 #[(0,.int .i64 x),(1,.int .i64 k),(6,.slice (some ⟨g,0,none⟩) n n)]).run Tryz.prog w = .ok (fst9 x k g n).val w:=by
 have:=bdS9 x k g n (List.replicate n (0,0)) w;rw [List.length_replicate] at this
 exact this
set_option maxHeartbeats 1000000 in
theorem new9 (n : Nat) (w : World) (hn : 1 ≤ n∧n ≤ 7) : Calls Tryz.prog 50 #[.int .i64 (n : Int)] w fun e w' => ∃ g,e = .returned (.tuple #[.slice (some ⟨g,0,none⟩) n n,.int .i64 0])∧OwnY yD w.heap.size w' (.slice (some ⟨g,0,none⟩) n n) (List.replicate n (0,0))∧Below w.heap.size w w':=by
 go_enter Tryz.func50,Tryz.ntmps50
 go_upto_region 0 with fail
 refine wp_region_lit ?_;refine vl_gen (fun T => T.size = 9∧T[0]? = some (gw true (.int .i64 (n : Int)))) ⟨rfl,rfl⟩ (fun Z0 ⟨hz,s0⟩ => ?_);have hB : Below w.heap.size w w:=Below.refl _ _;have hv0 : Below w.heap.size w w:=Below.refl _ _;have hin : inB (n : Int) 1 7 = true:=inB_iff.2 (by omega);have Ya:=(Rp.nil hz).cons s0;clear hz s0
 refine Ya.t (.slice none 0 0) (ex_assign rfl rfl) fun _ Yb => ?_;clear Ya
 refine Yb.t (.int .i64 0) (ex_assign rfl rfl) fun _ Yc => ?_;clear Yb
 have hz:=Yc.z;have s0:=Yc.a 0 rfl;clear Yc;refine wpList_nil ?_
 go_upto_region 1 with fail
 refine wp_region_lit ?_;have Yd:=(Rp.nil hz).cons s0;clear hz s0
 refine Yd.t _ (ex_move rfl (Yd.f 0)) fun _ Ye => ?_;clear Yd
 refine vcall true (.bool (inB ((n : Int)) 1 7)) (want_none rfl) (fun hc => ex_call rfl (by simp only [List.map_toArray,List.map_cons,List.map_nil,(Ye.f 4),evc] <;> rfl) rfl) (fun hc => groupmay9 ((n : Int)) w) rfl Ye.z (by decide) (Ye.kc fun Yf x1 hb Yg => ?_);clear Ye;have hx1:=hv0.trans (hb.mono hv0.size);clear hb
 refine Yg.t (.bool (!(inB ((n : Int)) 1 7))) (ex_not rfl (Yg.f 5)) fun _ Yh => ?_;clear Yg
 have hz:=Yh.z;have s0:=Yh.a 0 rfl;have s6:=Yh.a 6 rfl;clear Yh;refine wpList_nil ?_
 go_upto_region 3 with fail
 refine wp_cond_false ((ev s6 rfl).trans (congrArg Value.bool (show ((!(inB ((n : Int)) 1 7))) = false by rw [hin];rfl))) ?_;clear s6;have hB:=hB.trans (hx1.mono (by omega));obtain ⟨y,hmk,oY,bY⟩:=mkD9 n hn.2 x1;have zz0:=hx1.size
 go_upto_region 3 with fail
 refine wp_region_lit ?_;have Yi:=(Rp.nil hz).cons s0;clear hz s0
 refine Yi.t _ (ex_move rfl (Yi.f 0)) fun _ Yj => ?_;clear Yi
 refine vw (.slice (some ⟨x1.heap.size,0,none⟩) n n) y (want_none rfl) (ex_mk9 rfl (Yj.f 7) (Yj.f 7) hmk) rfl Yj.z (by decide) (Yj.k fun Yk Yl => ?_);clear Yj
 refine Yl.t _ (ex_assign rfl (Yl.f 8)) fun _ Ym => ?_;clear Yl
 refine Ym.t (.int .i64 0) (ex_assign rfl rfl) fun _ Yn => ?_;clear Ym
 have hz:=Yn.z;have s2:=Yn.a 2 rfl;have s3:=Yn.a 3 rfl;clear Yn;refine wpList_nil ?_;have hB9:=hide (hB.trans (bY.mono (by omega)))
 go_wp2
 refine bodyPost_ret (results_two9 rfl (getD_of s2) (getD_of s3)) rfl ?_
 exact ⟨_,rfl,oY.low (by omega),hB9.out⟩
set_option maxHeartbeats 1000000 in
theorem firstvector9 (c : Cg) (x : Int) (w : World)  : Calls Tryz.prog 25 #[c.val,.int .i64 x] w fun e w' => ∃ v,e = .returned (.tuple #[v,.int .i64 (fvE9 c x)])∧Fv9 w.heap.size c x v w'∧Below w.heap.size w w':=by
 go_enter Tryz.func25,Tryz.ntmps25
 go_upto_region 0 with fail
 refine wp_region_lit ?_;refine vl_gen (fun T => T.size = 22∧T[0]? = some (gw true (c.val))∧T[1]? = some (gw true (.int .i64 x))) ⟨rfl,rfl,rfl⟩ (fun Z0 ⟨hz,s0,s1⟩ => ?_)
 obtain ⟨w1,hw1⟩ : ∃ y,y = w.alloc (.cells c.cs.toArray 23):=⟨_,rfl⟩
 have hb : Below w.heap.size w w1:=by rw [hw1];exact (Below.refl _ _).alloc (Nat.le_refl _) _
 have hs1 : w1.heap.size = w.heap.size + 1:=by rw [hw1];simp
 have HC : CB7 w1 (w.heap.size) c:=by rw [hw1];exact BX7.new _ _ _
 refine vw (.pointer (some ⟨w.heap.size,0,none⟩)) w1 (want_none rfl) (ex_box8 rfl (ev s0 rfl) (by rw [hw1];exact bxC7 _ _)) rfl hz (by decide) (fun Z1 zz kk s2x => ?_);replace s1:=ku s1;clear kk hz s0 hw1;have hz:=zz;have s2:=s2x;clear zz s2x;have hB:=hb;clear hb;have hv0 : Below w1.heap.size w1 w1:=Below.refl _ _;have Ya:=((Rp.nil hz).cons s1).cons s2;clear hz s1 s2
 refine Ya.t (.slice none 0 0) (ex_assign rfl rfl) fun _ Yb => ?_;clear Ya
 refine Yb.t (.int .i64 0) (ex_assign rfl rfl) fun _ Yc => ?_;clear Yb
 have hz:=Yc.z;have s1:=Yc.a 1 rfl;have s2:=Yc.a 2 rfl;clear Yc;refine wpList_nil ?_
 go_upto_region 1 with fail
 refine wp_region_lit ?_;have Yd:=((Rp.nil hz).cons s1).cons s2;clear hz s1 s2
 refine Yd.t _ (ex_ld rfl (Yd.f 2) (CB7.ld (HC.bel hv0))) fun _ Ye => ?_;clear Yd
 refine vcall true (.int .i64 c.er) (want_none rfl) (fun hc => ex_call rfl (by simp only [List.map_toArray,List.map_cons,List.map_nil,(Ye.f 7),evc] <;> rfl) rfl) (fun hc => checkconfig8 c w1) rfl Ye.z (by decide) (Ye.kc fun Yf x1 hb Yg => ?_);clear Ye;have hx1:=hv0.trans (hb.mono hv0.size);clear hb
 refine Yg.t (.bool (!decide (c.er = 0))) (ex_bin rfl (Yg.f 8) rfl (neqN8 _ _ _ _ _)) fun _ Yh => ?_;clear Yg
 refine Yh.t _ (ex_assign rfl (Yh.f 9)) fun _ Yi => ?_;clear Yh
 have hz:=Yi.z;have s1:=Yi.a 1 rfl;have s2:=Yi.a 2 rfl;have s6:=Yi.a 6 rfl;clear Yi;refine wpList_nil ?_
 go_upto_region 2 with fail
 cases eo : c.okB
 ·refine wp_cond_true ((ev s6 rfl).trans (by unfold Cg.er;rw [eo];rfl)) ?_
  clear s6
  go_upto_region 2 with fail
  refine wp_region_lit ?_;have Yj:=((Rp.nil hz).cons s1).cons s2;clear hz s1 s2
  refine Yj.t (.slice none 0 0) (ex_assign rfl rfl) fun _ Yk => ?_;clear Yj
  refine Yk.t (.int .i64 1) (ex_assign rfl rfl) fun _ Yl => ?_;clear Yk
  have hz:=Yl.z;have s4:=Yl.a 4 rfl;have s5:=Yl.a 5 rfl;clear Yl;refine wpList_nil ?_;have hB9:=hide (hB.trans (hx1.mono (by omega)))
  go_wp2
  refine bodyPost_ret (results_two9 rfl (getD_of s4) (getD_of s5)) rfl ?_
  have hE : fvE9 c x = 1:=by unfold fvE9;rw [eo];rfl
  rw [hE]
  exact ⟨_,rfl,.inl ⟨by rw [hE];omega,rfl⟩,hB9.out⟩
 ·refine wp_cond_false ((ev s6 rfl).trans (by unfold Cg.er;rw [eo];rfl)) ?_
  clear s6;obtain ⟨n1,n2,n3⟩:=Cg.nd_ok eo
  go_upto_region 3 with fail
  refine wp_region_lit ?_;have Ym:=((Rp.nil hz).cons s1).cons s2;clear hz s1 s2
  refine Ym.t _ (ex_move rfl (Ym.f 1)) fun _ Yn => ?_;clear Ym
  refine Yn.t _ (ex_ld rfl (Yn.f 2) (CB7.ld (HC.bel hx1))) fun _ Yo => ?_;clear Yn
  refine vcall true (.int .i64 c.nd) (want_none rfl) (fun hc => ex_call rfl (by simp only [List.map_toArray,List.map_cons,List.map_nil,(Yo.f 12),evc] <;> rfl) rfl) (fun hc => nodes8 c x1) rfl Yo.z (by decide) (Yo.kc fun Yp x2 hb Yq => ?_);clear Yo;have hx2:=hx1.trans (hb.mono hx1.size);clear hb
  refine Yq.t (.int .i64 (c.nd - 1)) (ex_bin rfl (Yq.f 13) rfl (subD8 _ _ c.nd 1 (c.nd - 1) (by rw [IntKind.wrap_i64];omega) _)) fun _ Yr => ?_;clear Yq
  refine vcall true (.bool (inB (x) (0) ((c.nd - 1)))) (want_none rfl) (fun hc => ex_call rfl (by simp only [List.map_toArray,List.map_cons,List.map_nil,(Yr.f 11),(Yr.f 14),evc] <;> rfl) rfl) (fun hc => within8 (x) (0) ((c.nd - 1)) x2) rfl Yr.z (by decide) (Yr.kc fun Ys x3 hb Yt => ?_);clear Yr;have hx3:=hx2.trans (hb.mono hx2.size);clear hb
  refine Yt.t (.bool (!(inB (x) (0) ((c.nd - 1))))) (ex_not rfl (Yt.f 15)) fun _ Yu => ?_;clear Yt
  refine Yu.t _ (ex_assign rfl (Yu.f 16)) fun _ Yv => ?_;clear Yu
  have hz:=Yv.z;have s1:=Yv.a 1 rfl;have s2:=Yv.a 2 rfl;have s10:=Yv.a 10 rfl;clear Yv;refine wpList_nil ?_
  go_upto_region 4 with fail
  cases ei : inB x 0 (c.nd - 1)
  ·refine wp_cond_true ((ev s10 rfl).trans (by rw [ei];rfl)) ?_
   clear s10
   go_upto_region 4 with fail
   refine wp_region_lit ?_;have Yw:=((Rp.nil hz).cons s1).cons s2;clear hz s1 s2
   refine Yw.t (.slice none 0 0) (ex_assign rfl rfl) fun _ Yx => ?_;clear Yw
   refine Yx.t (.int .i64 3) (ex_assign rfl rfl) fun _ Yy => ?_;clear Yx
   have hz:=Yy.z;have s4:=Yy.a 4 rfl;have s5:=Yy.a 5 rfl;clear Yy;refine wpList_nil ?_;have hB9:=hide (hB.trans (hx3.mono (by omega)))
   go_wp2
   refine bodyPost_ret (results_two9 rfl (getD_of s4) (getD_of s5)) rfl ?_
   have hE : fvE9 c x = 3:=by unfold fvE9;rw [eo,ei];rfl
   rw [hE]
   exact ⟨_,rfl,.inl ⟨by rw [hE];omega,rfl⟩,hB9.out⟩
  refine wp_cond_false ((ev s10 rfl).trans (by rw [ei];rfl)) ?_;clear s10 s1;obtain ⟨n,hn⟩:=Int.eq_ofNat_of_zero_le (show 0 ≤ c.nd by omega)
  go_upto_region 5 with fail
  refine wp_region_lit ?_;have Yz:=(Rp.nil hz).cons s2;clear hz s2
  refine Yz.t _ (ex_ld rfl (Yz.f 2) (CB7.ld (HC.bel hx3))) fun _ Y0 => ?_;clear Yz
  refine vcall true (.int .i64 c.nd) (want_none rfl) (fun hc => ex_call rfl (by simp only [List.map_toArray,List.map_cons,List.map_nil,(Y0.f 17),evc] <;> rfl) rfl) (fun hc => nodes8 c x3) rfl Y0.z (by decide) (Y0.kc fun Y1 x4 hb Y2 => ?_);clear Y0;have hx4:=hx3.trans (hb.mono hx3.size);clear hb;refine vcallP (want_none rfl) (ex_call rfl (by simp only [List.map_toArray,List.map_cons,List.map_nil,(Y2.f 18),evc] <;> rfl) rfl) (hn.symm ▸ new9 n x4 (by omega)) rfl Y2.z (by decide) ?_;rintro e y9 ⟨g,rfl,oV,bV⟩;refine ⟨_,rfl,Y2.k fun Y3 Y4 => ?_⟩;clear Y2;have zv:=hx4.size;have zv2:=bV.size;have hB9:=hide ((hB.trans (hx4.mono (by omega))).trans (bV.mono (by omega)))
  refine Y4.t _ (ex_ext8 rfl (Y4.f 19) rfl) fun _ Y5 => ?_;clear Y4
  refine Y5.t _ (ex_ext8 rfl (Y5.f 19) rfl) fun _ Y6 => ?_;clear Y5
  refine Y6.t _ (ex_assign rfl (Y6.f 20)) fun _ Y7 => ?_;clear Y6
  refine Y7.t _ (ex_assign rfl (Y7.f 21)) fun _ Y8 => ?_;clear Y7
  have hz:=Y8.z;have s4:=Y8.a 4 rfl;have s5:=Y8.a 5 rfl;clear Y8;refine wpList_nil ?_
  go_wp2
  refine bodyPost_ret (results_two9 rfl (getD_of s4) (getD_of s5)) rfl ?_
  have hE : fvE9 c x = 0:=by unfold fvE9;rw [eo,ei];rfl
  rw [hE]
  exact ⟨_,rfl,.inr ⟨hE,g,n,hn,rfl,oV.low (by omega)⟩,hB9.out⟩
set_option maxHeartbeats 1000000 in
theorem first9 (c : Cg) (x : Int) (w : World)  : Calls Tryz.prog 9 #[c.val,.int .i64 x] w fun e w' => ∃ t : Sta,e = .returned (.tuple #[t.val,.int .i64 (fvE9 c x)])∧t.In w'∧Fs9 w.heap.size c x 1 t w'∧Below w.heap.size w w':=by
 go_enter Tryz.func9,Tryz.ntmps9
 go_upto_region 0 with fail
 refine wp_region_lit ?_;refine vl_gen (fun T => T.size = 21∧T[0]? = some (gw true (c.val))∧T[1]? = some (gw true (.int .i64 x))) ⟨rfl,rfl,rfl⟩ (fun Z0 ⟨hz,s0,s1⟩ => ?_)
 obtain ⟨w1,hw1⟩ : ∃ y,y = w.alloc (.cells c.cs.toArray 23):=⟨_,rfl⟩
 have hb : Below w.heap.size w w1:=by rw [hw1];exact (Below.refl _ _).alloc (Nat.le_refl _) _
 have hs1 : w1.heap.size = w.heap.size + 1:=by rw [hw1];simp
 have HC : CB7 w1 (w.heap.size) c:=by rw [hw1];exact BX7.new _ _ _
 refine vw (.pointer (some ⟨w.heap.size,0,none⟩)) w1 (want_none rfl) (ex_box8 rfl (ev s0 rfl) (by rw [hw1];exact bxC7 _ _)) rfl hz (by decide) (fun Z1 zz kk s2x => ?_);replace s1:=ku s1;clear kk hz s0 hw1;have hz:=zz;have s2:=s2x;clear zz s2x;have hB:=hb;clear hb;have hv0 : Below w1.heap.size w1 w1:=Below.refl _ _
 obtain ⟨w2,hw2⟩ : ∃ y,y = w1.alloc (.cells zS8.cs.toArray 33):=⟨_,rfl⟩
 have hb : Below w1.heap.size w1 w2:=by rw [hw2];exact (Below.refl _ _).alloc (Nat.le_refl _) _
 have HZ : SB7 w2 (w.heap.size + 1) zS8:=by rw [hw2,← hs1];exact BX7.new _ _ _
 have hz2 : w2.heap.size = w.heap.size + 2:=by rw [hw2];simp;omega
 have Ya:=((Rp.nil hz).cons s1).cons s2;clear hz s1 s2;refine vw (.pointer (some ⟨w.heap.size + 1,0,none⟩)) w2 (want_none rfl) (ex_al rfl (by rw [hw2,← hs1];exact al12 _)) rfl Ya.z (by decide) (Ya.k fun Yb Yc => ?_);clear Ya
 refine Yc.t (.int .i64 0) (ex_assign rfl rfl) fun _ Yd => ?_;clear Yc
 have hz:=Yd.z;have s1:=Yd.a 1 rfl;have s2:=Yd.a 2 rfl;have s4:=Yd.a 4 rfl;clear Yd;refine wpList_nil ?_;have hB:=hB.trans (hb.mono (by omega));have HC:=HC.bel hb;clear hb hw2 hv0;have hv0 : Below w2.heap.size w2 w2:=Below.refl _ _
 go_upto_region 1 with fail
 refine wp_region_lit ?_;have Ye:=(((Rp.nil hz).cons s1).cons s2).cons s4;clear hz s1 s2 s4
 refine Ye.t _ (ex_ld rfl (Ye.f 2) (CB7.ld (HC.bel hv0))) fun _ Yf => ?_;clear Ye
 refine Yf.t _ (ex_move rfl (Yf.f 1)) fun _ Yg => ?_;clear Yf
 refine vcallP (want_none rfl) (ex_call rfl (by simp only [List.map_toArray,List.map_cons,List.map_nil,(Yg.f 9),(Yg.f 10),evc] <;> rfl) rfl) (firstvector9 c x w2) rfl Yg.z (by decide) ?_;rintro e y2 ⟨v,rfl,hfv,b2⟩;refine ⟨_,rfl,Yg.k fun Yh Yi => ?_⟩;clear Yg;have z2:=b2.size;have HZ:=HZ.bel b2;have hB:=hB.trans (b2.mono (by omega))
 refine Yi.t _ (ex_move rfl (Yi.f 11)) fun _ Yj => ?_;clear Yi
 refine Yj.t _ (ex_ext8 rfl (Yj.f 8) rfl) fun _ Yk => ?_;clear Yj
 refine Yk.t _ (ex_ext8 rfl (Yk.f 8) rfl) fun _ Yl => ?_;clear Yk
 refine Yl.t _ (ex_assign rfl (Yl.f 12)) fun _ Ym => ?_;clear Yl
 refine Ym.t _ (ex_assign rfl (Ym.f 13)) fun _ Yn => ?_;clear Ym
 have hz:=Yn.z;have s1:=Yn.a 1 rfl;have s4:=Yn.a 4 rfl;have s6:=Yn.a 6 rfl;have s7:=Yn.a 7 rfl;clear Yn;refine wpList_nil ?_
 go_upto_region 2 with fail
 refine wp_region_lit ?_;have Yo:=((((Rp.nil hz).cons s1).cons s4).cons s6).cons s7;clear hz s1 s4 s6 s7
 refine Yo.t _ (ex_move rfl (Yo.f 7)) fun _ Yp => ?_;clear Yo
 refine Yp.t (.bool (!decide ((fvE9 c x) = 0))) (ex_bin rfl (Yp.f 14) rfl (neqN8 _ _ _ _ _)) fun _ Yq => ?_;clear Yp
 have hz:=Yq.z;have s1:=Yq.a 1 rfl;have s4:=Yq.a 4 rfl;have s6:=Yq.a 6 rfl;have s7:=Yq.a 7 rfl;have s15:=Yq.a 15 rfl;clear Yq;refine wpList_nil ?_
 go_upto_region 3 with fail
 cases e15 : decide (fvE9 c x = 0)
 ·refine wp_cond_true ((ev s15 rfl).trans (by rw [e15];rfl)) ?_
  clear s15;have hne:=of_decide_eq_false e15
  go_upto_region 3 with fail
  refine wp_region_lit ?_;have Yr:=((((Rp.nil hz).cons s1).cons s4).cons s6).cons s7;clear hz s1 s4 s6 s7
  refine Yr.t (zS8.val) (ex_build rfl (bd12 _)) fun _ Ys => ?_;clear Yr
  refine Ys.t _ (ex_move rfl (Ys.f 7)) fun _ Yt => ?_;clear Ys
  refine vs (sets y2 (w.heap.size + 1) 0 (Sta.cs zS8)) (want_none rfl) (ex_st rfl (Yt.f 4) (Yt.f 16) (st12 HZ zS8)) rfl ?_;have HP:=SB7.put HZ zS8;have UP:=upd12 y2 (w.heap.size + 1) zS8
  obtain ⟨u9,hu9⟩ : ∃ v,v = sets y2 (w.heap.size + 1) 0 (Sta.cs zS8):=⟨_,rfl⟩
  rw [← hu9] at HP UP ⊢;clear hu9;have hB9:=hide (hB.trans (UP.below (by omega) (fun k hk => by omega)))
  refine Yt.t _ (ex_assign rfl (Yt.f 17)) fun _ Yu => ?_;clear Yt
  have hz:=Yu.z;have s4:=Yu.a 4 rfl;have s5:=Yu.a 5 rfl;clear Yu;refine wpList_nil ?_
  go_wp2
  refine bodyPost_ret (results_sta2_9 rfl (getD_of s4) (getD_of s5) HP) rfl ?_
  exact ⟨zS8,rfl,zS8_in _,.inl ⟨hne,rfl⟩,hB9.out⟩
 ·refine wp_cond_false ((ev s15 rfl).trans (by rw [e15];rfl)) ?_
  clear s15 s7;have hE:=of_decide_eq_true e15
  rcases hfv with ⟨h0,_⟩ | ⟨_,g,n,hn,rfl,oV⟩
  ·exact absurd hE h0
  go_upto_region 4 with fail
  refine wp_region_lit ?_;have Yv:=(((Rp.nil hz).cons s1).cons s4).cons s6;clear hz s1 s4 s6
  refine Yv.t _ (ex_move rfl (Yv.f 1)) fun _ Yw => ?_;clear Yv
  refine Yw.t _ (ex_move rfl (Yw.f 6)) fun _ Yx => ?_;clear Yw
  refine Yx.t (Sta.val (fst9 x 1 g n)) (ex_buildP rfl (by simp only [List.map_toArray,List.map_cons,List.map_nil,(Yx.f 18),(Yx.f 19),evc] <;> rfl) (bdF9 _ _ _ _ _)) fun _ Yy => ?_;clear Yx
  refine vs (sets y2 (w.heap.size + 1) 0 (Sta.cs (fst9 x 1 g n))) (want_none rfl) (ex_st rfl (Yy.f 4) (Yy.f 20) (st12 HZ (fst9 x 1 g n))) rfl ?_;have HP:=SB7.put HZ (fst9 x 1 g n);have UP:=upd12 y2 (w.heap.size + 1) (fst9 x 1 g n)
  obtain ⟨u9,hu9⟩ : ∃ v,v = sets y2 (w.heap.size + 1) 0 (Sta.cs (fst9 x 1 g n)):=⟨_,rfl⟩
  rw [← hu9] at HP UP ⊢;clear hu9;have hB9:=hide (hB.trans (UP.below (by omega) (fun k hk => by omega)))
  refine Yy.t (.int .i64 0) (ex_assign rfl rfl) fun _ Yz => ?_;clear Yy
  have hz:=Yz.z;have s4:=Yz.a 4 rfl;have s5:=Yz.a 5 rfl;clear Yz;refine wpList_nil ?_
  go_wp2
  refine bodyPost_ret (results_sta2_9 rfl (getD_of s4) (getD_of s5) HP) rfl ?_;rw [hE];have oV2:=oV.upd1 UP (fun k hk e => by have:=(oV.blk k hk).1;omega)
  exact ⟨(fst9 x 1 g n),rfl,fst9_in (oV2.sl' kD),.inr ⟨hE,g,n,hn,rfl,oV2.low (by omega)⟩,hB9.out⟩
theorem Sta.Alike9.bmem {s u : Sta} (h : s.Alike9 u) {y : Bl} (hy : y ∈ u.B) : ∃ x ∈ s.B,Bl.Like x y:=by
 obtain ⟨k,hk⟩:=List.mem_iff_getElem?.1 hy
 have hkl : k < s.B.length:=by rw [← h.b.1];exact (List.getElem?_eq_some_iff.1 hk).1
 exact ⟨_,List.getElem_mem hkl,h.b.2 k _ y (List.getElem?_eq_getElem hkl) hk⟩
theorem Sta.Alike9.nmem {s u : Sta} (h : s.Alike9 u) {y : An} (hy : y ∈ u.N) : ∃ x ∈ s.N,An.Like x y:=by
 obtain ⟨k,hk⟩:=List.mem_iff_getElem?.1 hy
 have hkl : k < s.N.length:=by rw [← h.n.1];exact (List.getElem?_eq_some_iff.1 hk).1
 exact ⟨_,List.getElem_mem hkl,h.n.2 k _ y (List.getElem?_eq_getElem hkl) hk⟩
theorem Sta.Alike9.fit {s u : Sta} (h : s.Alike9 u) (hF : s.Fit) : u.Fit:=by
 refine ⟨by rw [h.l];exact hF.le,fun y hy => ?_,fun y hy => ?_,by rw [h.l];exact hF.ll,by rw [h.v];exact hF.vl,by rw [h.a];exact hF.al,by rw [h.m];exact hF.ml,by rw [h.b.1];exact hF.bl,by rw [h.n.1];exact hF.nl⟩
 ·obtain ⟨x,hx,k⟩:=h.bmem hy
  rw [k.2.2.2.2.2]
  exact hF.be x hx
 ·obtain ⟨x,hx,k⟩:=h.nmem hy
  rw [k.2.2.2.2.2]
  exact hF.ne x hx
def c39 : Cg:=⟨1,4,6,false⟩
def zG9 : Mg:=⟨0,0,0,⟨0,0,⟨0,0,⟨#[]⟩⟩⟩,(0,0,⟨#[]⟩),0,0,0,(0,0)⟩
def cm9 (a b : Int) (g : Nat) : Ms9:=⟨{ zG9 with k:=5 },none,0,[],some ⟨g,0,none⟩,3,[(0,a),(0,b),(0,0)]⟩
theorem cm9_fit (a b : Int) (g : Nat) : (cm9 a b g).Fit:=⟨fun e h => (by cases h),⟨(by show (Lit.int .i64 0).wf = true;decide),(by show (Lit.int .i64 0).wf = true;decide),⟨(by show (Lit.int .i64 0).wf = true;decide),(by show (Lit.int .i64 0).wf = true;decide),by show (ByteArray.mk #[]).size ≤ maxLen;decide⟩⟩,by show 0 * 48 ≤ 140737488351232;decide,by show 3 * 16 ≤ 140737488351232;decide⟩
theorem kn_al9 {t : Sta} {B : Nat} {s : Sta} {D : List (Int × Int)} {w : World} {x st : Int} {g n : Nat} {V : List (Int × Int)} (hs : (vst9 x st g n V).Alike9 s) (h : t.Kn B s D w) : (vst9 x st g n D).Alike9 t:=by
 have ea : s.A = []:=hs.a;have em : s.M = []:=hs.m;have eb : s.B = []:=List.eq_nil_of_length_eq_zero hs.b.1;have en : s.N = []:=List.eq_nil_of_length_eq_zero hs.n.1;have hb:=h.b;have hn:=h.n;rw [eb] at hb;rw [en] at hn;have tb : t.B = []:=List.eq_nil_of_length_eq_zero hb.1;have tn : t.N = []:=List.eq_nil_of_length_eq_zero hn.1;refine ⟨h.self.trans hs.self,h.st.trans hs.st,h.view.trans hs.view,h.last.trans hs.last,h.commit.trans hs.commit,h.idle.trans hs.idle,h.l.trans hs.l,h.v,?_,?_,⟨by rw [tb];rfl,fun i x y hx hy => ?_⟩,⟨by rw [tn];rfl,fun i x y hx hy => ?_⟩⟩
 ·rw [h.a,ea];rfl
 ·rw [h.m,em];rfl
 ·rw [tb] at hy;cases hy
 ·rw [tn] at hy;cases hy
theorem vst9_fit {x st : Int} {g n : Nat} {V : List (Int × Int)} (h : V.length * 16 ≤ 140737488351232) : (vst9 x st g n V).Fit:=⟨fun e h => (by cases h),fun e h => (by cases h),fun e h => (by cases h),by show 0 * 48 ≤ 140737488351232;decide,h,by show 0 * 32 ≤ 140737488351232;decide,by show 0 * 24 ≤ 140737488351232;decide,by show 0 * 64 ≤ 140737488351232;decide,by show 0 * 64 ≤ 140737488351232;decide⟩
theorem Ad9.in9 {B q : Nat} {c : Cg} {s t : Sta} {m : Ms9} {b : Bool} {w w' : World} (h : Ad9 B c s m t b w) (hi : t.In w) (U : Upd (fun k => k = q) w w') (hq : q < B) : t.In w':=by
 rcases h with ⟨_,rfl,_⟩ | ⟨_,k,lo,_⟩
 ·exact zS8_in _
 ·exact (k.set8 U hq lo).inn
def Z39 : List (Int × Int):=[(0,0),(0,0),(0,0)]
def F39 : List (Int × Int):=[(0,4),(0,0),(0,0)]
theorem ck_z9 (g n : Nat) : (vst9 1 1 g n Z39).ckE c39 = 0:=by rfl
theorem ck_f9 (g n : Nat) : (vst9 1 1 g n F39).ckE c39 = 0:=by rfl
theorem cm_ok9 (a b : Int) (g : Nat) : adM9 c39 (cm9 a b g) = 0:=by rfl
theorem admitC9 (s : Sta) (V D : List (Int × Int)) (a b : Int) (g : Nat) (r : Bool) (w : World) (hal : (vst9 1 1 0 0 V).Alike9 s) (hV : V.length * 16 ≤ 140737488351232) (hck : (vst9 1 1 0 0 V).ckE c39 = 0) (hr : adB9 c39 (vst9 1 1 0 0 V) (cm9 a b g) = r) (hD : adV9 c39 (vst9 1 1 0 0 V) (cm9 a b g) = D)
  (hI : s.In w) (hM : (cm9 a b g).In w) (hT : Tab w) : Calls Tryz.prog 6 #[c39.val,s.val,(cm9 a b g).val] w fun e w' => ∃ t : Sta,e = .returned (.tuple #[t.val,.bool r,.int .i64 0])∧t.In w'∧(vst9 1 1 0 0 D).Alike9 t∧(∀ q w'',q < w.heap.size → Upd (fun k => k = q) w' w'' → t.In w'')∧Below w.heap.size w w':=by
 refine (admit9 c39 s (cm9 a b g) w hI (hal.fit (vst9_fit hV)) hM (cm9_fit a b g) hT).mono ?_;rintro e w' ⟨t,b1,rfl,tin,ha,hb⟩
 have hs : s.ckE c39 = 0:=by rw [ckE_alike9 hal];exact hck
 have hE : adE9 c39 s (cm9 a b g) = 0:=by unfold adE9;rw [if_pos hs];exact cm_ok9 a b g
 have ha':=ha
 have e1 : hear9 s (cm9 a b g) = hear9 (vst9 1 1 0 0 V) (cm9 a b g):=by
  have hv:=hal.v;have hf:=hal.self
  unfold hear9 ovB9 vmB9 mine9
  simp only [hv,hf]
 have e2 : s.self = (vst9 1 1 0 0 V).self:=hal.self
 rcases ha with ⟨h0,_⟩ | ⟨_,k,lo,hb1⟩
 ·exact absurd hE h0
 ·have eb : b1 = r:=by rw [hb1,← hr];unfold adB9;rw [e1,e2]
  have eD : adV9 c39 s (cm9 a b g) = D:=by rw [← hD];unfold adV9;rw [e1,e2,hal.v]
  rw [eD] at k;rw [hE,eb]
  exact ⟨t,rfl,tin,kn_al9 hal k,fun q w'' hq U => ha'.in9 tin U hq,hb⟩
theorem ad1_9 (g : Nat) : adB9 c39 (vst9 1 1 0 0 Z39) (cm9 4 0 g) = true∧adV9 c39 (vst9 1 1 0 0 Z39) (cm9 4 0 g) = F39:=by
 constructor <;> rfl
theorem ad2_9 (g : Nat) : adB9 c39 (vst9 1 1 0 0 F39) (cm9 0 0 g) = false∧adV9 c39 (vst9 1 1 0 0 F39) (cm9 0 0 g) = F39:=by
 constructor <;> rfl
theorem ad3_9 (g : Nat) : adB9 c39 (vst9 1 1 0 0 F39) (cm9 4 3 g) = false∧adV9 c39 (vst9 1 1 0 0 F39) (cm9 4 3 g) = F39:=by
 constructor <;> rfl
end Go.Proofs.YtjcedofmljkhfaaGreatDoor
