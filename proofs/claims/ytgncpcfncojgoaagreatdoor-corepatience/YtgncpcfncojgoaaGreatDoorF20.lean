import Derived.ChangeOld
import Derived.ProofKit
import Derived.OpenShut
import Derived.Deep.SlicePairs
import Derived.SizedLaws
import Derived.Test.YtgncpcfncojgoaaGreatDoorRows
import Derived.Lib.LaidTab
import Derived.MakeChecks
import Derived.Test.YtgncpcfncojgoaaGreatDoorF19
set_option maxRecDepth 100000
set_option linter.unusedVariables false
set_option linter.unusedSimpArgs false
namespace Go.Proofs.YtgncpcfncojgoaaGreatDoor
open Go.RowKit Go.Maps Go.Shelf
open Classical
def patI9 (c : Cg) (s : Sta) (i : Int) : Int:=if still8 c s = true then s.idle else (s.idle + i) % c.P
def patE9 (c : Cg) (s : Sta) (i : Int) : Int:=if still8 c s = true then 0 else (s.idle + i) / c.P
theorem pat0_9 {c : Cg} {s : Sta} (h1 : 0 ≤ s.idle) (h2 : s.idle < c.P) : patI9 c s ((0 : Nat) : Int) = s.idle∧patE9 c s ((0 : Nat) : Int) = 0:=by
 unfold patI9 patE9
 have e : s.idle + ((0 : Nat) : Int) = s.idle:=by omega
 rw [e]
 constructor
 ·split
  ·rfl
  ·exact Int.emod_eq_of_lt h1 h2
 ·split
  ·rfl
  ·exact Int.ediv_eq_zero_of_lt h1 h2
theorem pat_small9 {c : Cg} {s : Sta} {i : Int} (h1 : 0 ≤ s.idle) (h2 : s.idle < c.P) (h3 : 0 ≤ i) (h4 : i ≤ 2 * c.P) : 0 ≤ patE9 c s i∧patE9 c s i ≤ s.idle + i:=by
 unfold patE9
 split
 ·omega
 ·exact ⟨Int.ediv_nonneg (by omega) (by omega),Int.ediv_le_self _ (by omega)⟩
theorem idle_ck9 {c : Cg} {s : Sta} {j : Int} (h : s.ckE c = 0) (h1 : 0 ≤ j) (h2 : j < c.P) (hs : still8 c s = true → j = s.idle) : ({ s with idle:=j } : Sta).ckE c = 0:=by
 cases est : still8 c s with
 | true => rw [hs est];exact h
 | false =>
  have hst : s.stB c = true:=by
   unfold Sta.ckE at h
   cases hok : c.okB with
   | false => rw [hok] at h;simp at h
   | true =>
    rw [hok] at h
    cases e : s.stB c with
    | true => rfl
    | false => rw [e] at h;simp at h
  have hok : c.okB = true:=by
   unfold Sta.ckE at h
   cases hok : c.okB with
   | false => rw [hok] at h;simp at h
   | true => rfl
  have hk : ({ s with idle:=j } : Sta).stB c = true:=by
   simp only [Sta.stB,Bool.and_eq_true] at hst ⊢;obtain ⟨⟨⟨a,b⟩,d⟩,e⟩:=hst;refine ⟨⟨⟨?_,b⟩,d⟩,?_⟩
   ·simp only [Sta.numB,Bool.and_eq_true] at a ⊢
    exact ⟨a.1,inB_iff.2 (by omega)⟩
   ·have e0 : (bif decide (s.st = 1) then s.norB c else bif decide (s.st = 2) then s.chgB c else bif decide (s.st = 3) then s.recB else false) = true:=e
    show (bif decide (s.st = 1) then ({ s with idle:=j } : Sta).norB c else bif decide (s.st = 2) then s.chgB c else bif decide (s.st = 3) then ({ s with idle:=j } : Sta).recB else false) = true
    unfold still8 at est
    cases e1 : decide (s.st = 1) with
    | true =>
     rw [e1] at e0 est;simp only [cond_true] at e0 ⊢
     have hp : decide (s.self = c.pr s.view) = false:=by
      cases q : decide (s.self = c.pr s.view) with
      | false => rfl
      | true => rw [q] at est;simp at est
     unfold Sta.norB at e0
     show (bif (!decide (s.last = s.view) || decide (0 < (((s.M.length : Int) + (s.B.length : Int)) + (s.N.length : Int)))) then false else bif (!decide (s.self = c.pr s.view)) then decide ((s.A.length : Int) = 0) else decide (j = 0) && (!decide (0 ≤ ix (fun a => !inB a.p 1 (s.L.length : Int)) s.A))) = true
     rw [hp] at e0 ⊢
     exact e0
    | false =>
     rw [e1] at e0;simp only [cond_false] at e0 ⊢
     cases e2 : decide (s.st = 2) with
     | true => rw [e2] at e0;exact e0
     | false =>
      rw [e2] at e0;simp only [cond_false] at e0 ⊢
      cases e3 : decide (s.st = 3) with
      | true => rw [e3] at est;simp at est
      | false => rw [e3] at e0;exact e0
  unfold Sta.ckE
  rw [hok,hk]
  rfl
theorem patI_in9 {c : Cg} {s : Sta} (i : Int) (h1 : 0 ≤ s.idle) (h2 : s.idle < c.P) : 0 ≤ patI9 c s i∧patI9 c s i < c.P:=by
 unfold patI9
 split
 ·exact ⟨h1,h2⟩
 ·exact ⟨Int.emod_nonneg _ (by omega),Int.emod_lt_of_pos _ (by omega)⟩
theorem pat_ck9 {c : Cg} {s t : Sta} {i : Int} (hE : s.ckE c = 0) (h1 : 0 ≤ s.idle) (h2 : s.idle < c.P) (hP : 6 ≤ c.P∧c.P ≤ 100) (h : ({ s with idle:=patI9 c s i } : Sta).Alike9 t) : t.ckE c = 0:=by
 rw [ckE_alike9 h]
 exact idle_ck9 hE (patI_in9 i h1 h2).1 (patI_in9 i h1 h2).2 (fun e => by unfold patI9;rw [if_pos e])
theorem liv_of9 {c : Cg} {s : Sta} (h : s.ckE c = 0) : s.livB = true:=by
 unfold Sta.ckE at h
 cases hok : c.okB with
 | false => rw [hok] at h;simp at h
 | true =>
  rw [hok] at h
  cases hs : s.stB c with
  | false => rw [hs] at h;simp at h
  | true =>
   simp only [Sta.stB,Bool.and_eq_true] at hs
   exact hs.1.2
theorem pat_step9 {c : Cg} {s t u : Sta} {i B : Nat} {b1 : Bool} {w : World} (hE : s.ckE c = 0) (h1 : 0 ≤ s.idle) (h2 : s.idle < c.P) (hP : 6 ≤ c.P∧c.P ≤ 100) (h : ({ s with idle:=patI9 c s (i : Int) } : Sta).Alike9 t) (hc : t.ckE c = 0) (hu : Wt8 B c t u b1 w) :
  ({ s with idle:=patI9 c s ((i + 1 : Nat) : Int) } : Sta).Alike9 u∧b1 = (!still8 c s && decide (patI9 c s ((i + 1 : Nat) : Int) = 0)):=by
 have e1 : wtI8 c t = patI9 c s ((i + 1 : Nat) : Int):=by
  rw [wtI_alike9 h];have es : still8 c ({ s with idle:=patI9 c s (i : Int) } : Sta) = still8 c s:=rfl
  unfold wtI8
  rw [es]
  show (if still8 c s = true then patI9 c s (i : Int) else (patI9 c s (i : Int) + 1) % c.P) = _
  unfold patI9
  split
  ·rfl
  ·rw [Int.emod_add_emod,show ((i + 1 : Nat) : Int) = (i : Int) + 1 by omega,Int.add_assoc]
 have e2 : still8 c t = still8 c s:=still_alike9 h c
 rcases hu with ⟨h0,_⟩ | ⟨_,t0,k,lo,rfl,rfl⟩
 ·exact absurd hc h0
 ·rw [e1,e2]
  exact ⟨(h.trans (k.alike (liv_of9 hc))).put _,rfl⟩
theorem div_up9 {x P : Int} (hx : 0 ≤ x) (hP : 0 < P) (h : (x + 1) % P = 0) : (x + 1) / P = x / P + 1:=by
 obtain ⟨q,hq⟩:=Int.dvd_of_emod_eq_zero h
 have e : x = (P - 1) + P * (q - 1):=by rw [Int.mul_sub,← hq];omega
 rw [hq,Int.mul_ediv_cancel_left _ (by omega),e,Int.add_mul_ediv_left _ _ (by omega),Int.ediv_eq_zero_of_lt (by omega) (by omega)]
 omega
theorem div_no9 {x P : Int} (hx : 0 ≤ x) (hP : 0 < P) (h : (x + 1) % P ≠ 0) : (x + 1) / P = x / P:=by
 have e:=Int.mul_ediv_add_emod x P;have r1:=Int.emod_nonneg x (show P ≠ 0 by omega);have r2:=Int.emod_lt_of_pos x hP
 have r3 : x % P + 1 ≠ P:=fun e3 => h (by
  have : x + 1 = P * (x / P + 1):=by rw [Int.mul_add];omega
  rw [this]
  exact Int.mul_emod_right _ _)
 have e2 : x + 1 = (x % P + 1) + P * (x / P):=by omega
 conv => lhs;rw [e2]
 rw [Int.add_mul_ediv_left _ _ (by omega),Int.ediv_eq_zero_of_lt (by omega) (by omega)]
 omega
theorem pat_ok9 {c : Cg} {s u : Sta} {i : Nat} (h1 : 0 ≤ s.idle) (h2 : s.idle < c.P) (hP : 6 ≤ c.P∧c.P ≤ 100) (h : ({ s with idle:=patI9 c s ((i + 1 : Nat) : Int) } : Sta).Alike9 u) (hb : (!still8 c s && decide (patI9 c s ((i + 1 : Nat) : Int) = 0)) = true) :
  u.idle = 0∧((i : Int) + s.idle + 1) % c.P = 0∧patE9 c s ((i + 1 : Nat) : Int) = patE9 c s (i : Int) + 1:=by
 simp only [Bool.and_eq_true,Bool.not_eq_true',decide_eq_true_eq] at hb;obtain ⟨hs,hi⟩:=hb
 have e : patI9 c s ((i + 1 : Nat) : Int) = (s.idle + (i : Int) + 1) % c.P:=by
  unfold patI9
  rw [if_neg (by rw [hs];decide),show s.idle + ((i + 1 : Nat) : Int) = s.idle + (i : Int) + 1 by omega]
 rw [e] at hi;refine ⟨?_,by rw [Int.add_comm (i : Int)];exact hi,?_⟩
 ·have:=h.idle
  rw [this]
  show patI9 c s _ = 0
  rw [e]
  exact hi
 ·unfold patE9
  rw [if_neg (by rw [hs];decide),if_neg (by rw [hs];decide),show s.idle + ((i + 1 : Nat) : Int) = s.idle + (i : Int) + 1 by omega]
  exact div_up9 (by omega) (by omega) hi
theorem pat_no9 {c : Cg} {s u : Sta} {i : Nat} (h1 : 0 ≤ s.idle) (h2 : s.idle < c.P) (hP : 6 ≤ c.P∧c.P ≤ 100) (h : ({ s with idle:=patI9 c s ((i + 1 : Nat) : Int) } : Sta).Alike9 u) (hb : (!still8 c s && decide (patI9 c s ((i + 1 : Nat) : Int) = 0)) = false) :
  patE9 c s ((i + 1 : Nat) : Int) = patE9 c s (i : Int):=by
 cases hs : still8 c s with
 | true => unfold patE9;rw [if_pos hs,if_pos hs]
 | false =>
  have e : patI9 c s ((i + 1 : Nat) : Int) = (s.idle + (i : Int) + 1) % c.P:=by
   unfold patI9
   rw [if_neg (by rw [hs];decide),show s.idle + ((i + 1 : Nat) : Int) = s.idle + (i : Int) + 1 by omega]
  rw [hs,e] at hb
  have hi : (s.idle + (i : Int) + 1) % c.P ≠ 0:=by simpa using hb
  unfold patE9
  rw [if_neg (by rw [hs];decide),if_neg (by rw [hs];decide),show s.idle + ((i + 1 : Nat) : Int) = s.idle + (i : Int) + 1 by omega]
  exact div_no9 (by omega) (by omega) hi
theorem pat_two9 {c : Cg} {s : Sta} (h1 : 0 ≤ s.idle) (h2 : s.idle < c.P) (hP : 6 ≤ c.P∧c.P ≤ 100) (hs : still8 c s = false) : patE9 c s (2 * c.P) = 2:=by
 unfold patE9
 rw [if_neg (by rw [hs];decide),Int.mul_comm 2,Int.add_mul_ediv_left _ _ (by omega),Int.ediv_eq_zero_of_lt h1 h2]
 rfl
set_option maxHeartbeats 1000000 in
theorem patience9 (c : Cg) (s : Sta) (w : World) (hI : s.In w) (hF : s.Fit) (hb1 : ∀ x ∈ s.B,x.s.D.length * 48 ≤ 140737488351232) (hb2 : ∀ x ∈ s.N,x.s.D.length * 48 ≤ 140737488351232) (hT : Tab w) : Calls Tryz.prog 11 #[c.val,s.val] w fun e w' => e = .returned (.bool true)∧Below w.heap.size w w':=by
 go_enter Tryz.func11,Tryz.ntmps11
 go_upto_region 0 with fail
 refine wp_region_lit ?_;refine vl_gen (fun T => T.size = 110∧T[0]? = some (gw true (c.val))∧T[1]? = some (gw true (s.val))) ⟨rfl,rfl,rfl⟩ (fun Z0 ⟨hz,s0,s1⟩ => ?_)
 obtain ⟨w1,hw1⟩ : ∃ y,y = w.alloc (.cells c.cs.toArray 23):=⟨_,rfl⟩
 have hb : Below w.heap.size w w1:=by rw [hw1];exact (Below.refl _ _).alloc (Nat.le_refl _) _
 have hs1 : w1.heap.size = w.heap.size + 1:=by rw [hw1];simp
 have HC : CB7 w1 (w.heap.size) c:=by rw [hw1];exact BX7.new _ _ _
 refine vw (.pointer (some ⟨w.heap.size,0,none⟩)) w1 (want_none rfl) (ex_box8 rfl (ev s0 rfl) (by rw [hw1];exact bxC7 _ _)) rfl hz (by decide) (fun Z1 zz kk s2x => ?_);replace s1:=ku s1;clear kk hz s0 hw1;have hz:=zz;have s2:=s2x;clear zz s2x;have hB:=hb;clear hb
 obtain ⟨w2,hw2⟩ : ∃ y,y = w1.alloc (.cells s.cs.toArray 36):=⟨_,rfl⟩
 have hb : Below w1.heap.size w1 w2:=by rw [hw2];exact (Below.refl _ _).alloc (Nat.le_refl _) _
 have hs2 : w2.heap.size = w.heap.size + 2:=by rw [hw2];simp;omega
 have HS : SB7 w2 (w.heap.size + 1) s:=by rw [hw2,← hs1];exact BX7.new _ _ _
 refine vw (.pointer (some ⟨w.heap.size + 1,0,none⟩)) w2 (want_none rfl) (ex_box8 rfl (ev s1 rfl) (by rw [hw2,← hs1];exact bxS7 _ _)) rfl hz (by decide) (fun Z2 zz kk s3x => ?_);replace s2:=ku s2;clear kk hz s1 hw2;have hz:=zz;have s3:=s3x;clear zz s3x;have hB:=hB.trans (hb.mono (by omega));have HC:=HC.bel hb;clear hb;have hv0 : Below w2.heap.size w2 w2:=Below.refl _ _;have q155_0:=((Rp.nil hz).cons s2).cons s3;clear hz s2 s3
 refine q155_0.t (.bool false) (ex_assign rfl rfl) fun _ q155_1 => ?_;clear q155_0
 have hz:=q155_1.z;have s2:=q155_1.a 2 rfl;have s3:=q155_1.a 3 rfl;clear q155_1;refine wpList_nil ?_;clear hv0;have hB0:=hB.size
 have hL : w.heap.size + 2 ≤ w2.heap.size:=by omega
 have hv_w2 : Below w2.heap.size w2 w2:=Below.refl _ _
 go_upto_region 1 with fail
 refine wp_region_lit ?_;have q156_0:=((Rp.nil hz).cons s2).cons s3;clear hz s2 s3;refine vcallP (want_none rfl) (ex_call (args:=#[]) rfl (by simp) rfl) (alive9 w2 (hT.later hB hT.lt)) rfl q156_0.z (by decide) ?_;rintro e a1 ⟨rfl,hb⟩;refine ⟨_,rfl,q156_0.k fun Ya q156_1 => ?_⟩;clear q156_0;have HC:=HC.bel hb;have HS:=HS.bel hb;have hB:=hB.trans (hb.mono hB0);have hB0:=hB.size;have hL:=Nat.le_trans hL hb.size;clear hb
 refine q156_1.t (.bool false) (ex_not rfl (q156_1.e (j:=15) rfl)) fun _ q156_2 => ?_;clear q156_1
 have hz:=q156_2.z;have s2:=q156_2.a 2 rfl;have s3:=q156_2.a 3 rfl;have s16:=q156_2.a 16 rfl;clear q156_2;refine wpList_nil ?_
 go_upto_region 3 with fail
 refine wp_cond_false ((ev s16 rfl).trans rfl) ?_;clear s16;have hv_a1 : Below a1.heap.size a1 a1:=Below.refl _ _
 go_upto_region 3 with fail
 refine wp_region_lit ?_;have q157_0:=((Rp.nil hz).cons s2).cons s3;clear hz s2 s3
 refine q157_0.t (c.val) (ex_ld rfl (q157_0.e (j:=2) rfl) (CB7.ld (HC.bel hv_a1))) fun _ q157_1 => ?_;clear q157_0
 refine q157_1.t (s.val) (ex_ld rfl (q157_1.e (j:=3) rfl) (SB7.ld (HS.bel hv_a1))) fun _ q157_2 => ?_;clear q157_1
 refine vcall true (.int .i64 (s.rk9 c)) (want_none rfl) (fun hc => ex_call rfl (by simp only [List.map_toArray,List.map_cons,List.map_nil,(q157_2.e (j:=17) rfl),(q157_2.e (j:=18) rfl),evc] <;> rfl) rfl) (fun hc => rcheck9 c s a1 (hI.later (hB.trans (hv_a1.mono hB0))) hF) rfl q157_2.z (by decide) (q157_2.kc fun Yb x1 hb q157_3 => ?_);clear q157_2;have hx1:=hv_a1.trans (hb.mono hv_a1.size);clear hb
 refine q157_3.t (.bool (!decide ((s.rk9 c) = 0))) (ex_bin rfl (q157_3.e (j:=19) rfl) rfl (neqC _ _ _ _ _)) fun _ q157_4 => ?_;clear q157_3
 have hz:=q157_4.z;have s2:=q157_4.a 2 rfl;have s3:=q157_4.a 3 rfl;have s20:=q157_4.a 20 rfl;clear q157_4;refine wpList_nil ?_;have HC:=HC.bel hx1;have HS:=HS.bel hx1;have hB:=hB.trans (hx1.mono hB0);have hB0:=hB.size;have hL:=Nat.le_trans hL hx1.size;have hv_x1 : Below x1.heap.size x1 x1:=Below.refl _ _
 go_upto_region 4 with fail
 cases e20 : decide (s.rk9 c = 0)
 ·refine wp_cond_true ((ev s20 rfl).trans (by rw [e20];rfl)) ?_
  clear s20
  have hne : ¬ s.ckE c = 0:=fun h => of_decide_eq_false e20 ((rk9_ckE s c).trans h)
  go_upto_region 4 with fail
  refine wp_region_lit ?_;have q158_0:=((Rp.nil hz).cons s2).cons s3;clear hz s2 s3
  refine q158_0.t (c.val) (ex_ld rfl (q158_0.e (j:=2) rfl) (CB7.ld (HC.bel hv_x1))) fun _ q158_1 => ?_;clear q158_0
  refine q158_1.t (s.val) (ex_ld rfl (q158_1.e (j:=3) rfl) (SB7.ld (HS.bel hv_x1))) fun _ q158_2 => ?_;clear q158_1
  refine vcallP (want_none rfl) (ex_call rfl (by simp only [List.map_toArray,List.map_cons,List.map_nil,(q158_2.e (j:=22) rfl),(q158_2.e (j:=23) rfl),evc] <;> rfl) rfl) (wait8 c s x1 (hI.later hB) hF) rfl q158_2.z (by decide) ?_;rintro e y1 ⟨t,b1,rfl,tin,ht,hb⟩;refine ⟨_,rfl,q158_2.k fun Yc q158_3 => ?_⟩;clear q158_2;have HC:=HC.bel hb;have HS:=HS.bel hb;have hB:=hB.trans (hb.mono hB0);have hB0:=hB.size;have hL:=Nat.le_trans hL hb.size;clear hb
  obtain ⟨q5,hq5⟩ : ∃ z,z = y1.heap.size:=⟨_,rfl⟩
  obtain ⟨y2,hy2⟩ : ∃ y,y = y1.alloc (.cells zS8.cs.toArray 36):=⟨_,rfl⟩
  have ba : Below y1.heap.size y1 y2:=by rw [hy2];exact (Below.refl _ _).alloc (Nat.le_refl _) _
  have HQ : SB7 y2 q5 zS8:=by rw [hy2,hq5];exact BX7.new _ _ _
  have za:=ba.size;have lq:=HQ.lt
  refine q158_3.t _ (ex_move rfl (q158_3.e (j:=24) rfl)) fun _ q158_4 => ?_;clear q158_3
  refine q158_4.t (t.val) (ex_ext8 rfl (q158_4.e (j:=21) rfl) rfl) fun _ q158_5 => ?_;clear q158_4
  refine q158_5.t (.bool b1) (ex_ext8 rfl (q158_5.e (j:=21) rfl) rfl) fun _ q158_6 => ?_;clear q158_5
  refine q158_6.t (.int .i64 (s.ckE c)) (ex_ext8 rfl (q158_6.e (j:=21) rfl) rfl) fun _ q158_7 => ?_;clear q158_6
  refine vw (.pointer (some ⟨q5,0,none⟩)) y2 (want_none rfl) (ex_al rfl (by rw [hy2,hq5];exact al12 _)) rfl q158_7.z (by decide) (q158_7.k fun Yd q158_8 => ?_);clear q158_7;refine vs (sets y2 q5 0 t.cs) (want_none rfl) (ex_st rfl (q158_8.e (j:=5) rfl) (q158_8.e (j:=25) rfl) (st12 HQ t)) rfl ?_;have HT:=SB7.put HQ t;have UT:=upd12 y2 q5 t
  obtain ⟨y3,hy3⟩ : ∃ v,v = sets y2 q5 0 t.cs:=⟨_,rfl⟩
  rw [← hy3] at HT UT ⊢;clear hy3 hy2;have hb : Below y1.heap.size y1 y3:=ba.trans (UT.below (by omega) (fun k hk => by omega));have hB:=hB.trans (hb.mono hB0);have hB0:=hB.size;clear hb UT HQ ba
  refine q158_8.t _ (ex_assign rfl (q158_8.e (j:=26) rfl)) fun _ q158_9 => ?_;clear q158_8
  refine q158_9.t _ (ex_assign rfl (q158_9.e (j:=27) rfl)) fun _ q158_10 => ?_;clear q158_9
  have hz:=q158_10.z;have s6:=q158_10.a 6 rfl;have s7:=q158_10.a 7 rfl;clear q158_10;refine wpList_nil ?_
  go_upto_region 5 with fail
  refine wp_region_lit ?_;have q159_0:=((Rp.nil hz).cons s6).cons s7;clear hz s6 s7
  refine q159_0.t _ (ex_move rfl (q159_0.e (j:=7) rfl)) fun _ q159_1 => ?_;clear q159_0
  refine vcallP (want_none rfl) (ex_call rfl (by simp only [List.map_toArray,List.map_cons,List.map_nil,(q159_1.e (j:=28) rfl),evc] <;> rfl) rfl) (num9 (s.ckE c) y3) rfl q159_1.z (by decide) ?_;rintro e y4 ⟨rfl,hb⟩;refine ⟨_,rfl,q159_1.k fun Ye q159_2 => ?_⟩;clear q159_1;have hB:=hB.trans (hb.mono hB0)
  refine q159_2.t (.bool (!decide ((s.ckE c) = 0))) (ex_bin rfl (q159_2.e (j:=29) rfl) rfl (neqC _ _ _ _ _)) fun _ q159_3 => ?_;clear q159_2
  refine q159_3.t _ (ex_move rfl (q159_3.e (j:=30) rfl)) fun _ q159_4 => ?_;clear q159_3
  refine vl _ (.bool b1) (want_g rfl rfl (q159_4.a 31 rfl)) (fun hc => ex_move rfl (q159_4.e (j:=6) rfl)) rfl q159_4.z (by decide) (q159_4.k fun Yf q159_5 => ?_);clear q159_4;refine vl _ (.bool (!b1)) (want_g rfl rfl (q159_5.a 31 rfl)) (fun hc => ex_not rfl (ev (q159_5.a 32 rfl) hc)) rfl q159_5.z (by decide) (q159_5.k fun Yg q159_6 => ?_);clear q159_5
  refine q159_6.t (.bool ((!decide ((s.ckE c) = 0)) && (!b1))) (ex_and rfl (q159_6.a 31 rfl) (q159_6.a 33 rfl) rfl) fun _ q159_7 => ?_;clear q159_6
  refine q159_7.t _ (ex_assign rfl (q159_7.e (j:=34) rfl)) fun _ q159_8 => ?_;clear q159_7
  have hz:=q159_8.z;have s4:=q159_8.a 4 rfl;clear q159_8;refine wpList_nil ?_
  have eb : b1 = false:=by rcases ht with ⟨_,_,h⟩ | ⟨h0,_⟩ <;> first | exact h | exact absurd h0 hne
  go_wp2
  refine bodyPost_ret (results_tmp rfl _ _ _) rfl ⟨?_,hB⟩;rw [getD_of s4,eb,decide_eq_false hne]
  rfl
 ·refine wp_cond_false ((ev s20 rfl).trans (by rw [e20];rfl)) ?_
  clear s20;have hE : s.ckE c = 0:=(rk9_ckE s c).symm.trans (of_decide_eq_true e20);obtain ⟨hok,hid⟩:=ck_idle8 hE;have hP:=Cg.P_ok hok
  go_upto_region 6 with fail
  refine vq_start (C:=fun v => Below x1.heap.size x1 v) (by kernel_rfl) (by kernel_rfl) hv_x1.drew ?_;have q160_0:=((Rp.nil hz).cons s2).cons s3;clear hz s2 s3
  refine q160_0.q (.pointer (some ⟨w.heap.size + 1,1,none⟩)) (fun v hv => ex_fa rfl (q160_0.e (j:=3) rfl) (faS1 _ _)) fun _ q160_1 => ?_;clear q160_0
  refine q160_1.q (.int .i64 s.st) (fun v hv => ex_ld rfl (q160_1.e (j:=35) rfl) (ldT8 ((HS.bel hv).cell 1 _ rfl))) fun _ q160_2 => ?_;clear q160_1
  refine q160_2.q (.bool (decide (s.st = 3))) (fun v hv => ex_bin rfl (q160_2.e (j:=36) rfl) rfl (eqlT8 _ _ _ _ _)) fun _ q160_3 => ?_;clear q160_2
  refine q160_3.q _ (fun v hv => ex_move rfl (q160_3.e (j:=37) rfl)) fun _ q160_4 => ?_;clear q160_3
  refine vq _ (.pointer (some ⟨w.heap.size + 1,1,none⟩)) (want_g rfl rfl (q160_4.a 38 rfl)) (fun hc v hv => ex_fa rfl (q160_4.e (j:=3) rfl) (faS1 _ _)) rfl q160_4.z (by decide) (q160_4.k fun Yh q160_5 => ?_);clear q160_4;refine vq _ (.int .i64 s.st) (want_g rfl rfl (q160_5.a 38 rfl)) (fun hc v hv => ex_ld rfl (ev (q160_5.a 39 rfl) hc) (ldT8 ((HS.bel hv).cell 1 _ rfl))) rfl q160_5.z (by decide) (q160_5.k fun Yi q160_6 => ?_);clear q160_5;refine vq _ (.bool (decide (s.st = 1))) (want_g rfl rfl (q160_6.a 38 rfl)) (fun hc v hv => ex_bin rfl (ev (q160_6.a 40 rfl) hc) rfl (eqlT8 _ _ _ _ _)) rfl q160_6.z (by decide) (q160_6.k fun Yj q160_7 => ?_);clear q160_6;refine vq _ (.bool (decide (s.st = 1))) (want_g rfl rfl (q160_7.a 38 rfl)) (fun hc v hv => ex_move rfl (ev (q160_7.a 41 rfl) hc)) rfl q160_7.z (by decide) (q160_7.k fun Yk q160_8 => ?_);clear q160_7;refine vq ((true && ((decide (s.st = 3)) == false)) && ((decide (s.st = 1)) == true)) (.pointer (some ⟨w.heap.size + 1,0,none⟩)) (want_g rfl rfl (q160_8.a 42 rfl)) (fun hc v hv => ex_fa rfl (q160_8.e (j:=3) rfl) (faS0 _ _)) rfl q160_8.z (by decide) (q160_8.k fun Yl q160_9 => ?_);clear q160_8;refine vq ((true && ((decide (s.st = 3)) == false)) && ((decide (s.st = 1)) == true)) (.int .i64 s.self) (want_g rfl rfl (q160_9.a 42 rfl)) (fun hc v hv => ex_ld rfl (ev (q160_9.a 43 rfl) hc) (ldI8 ((HS.bel hv).cell 0 _ rfl))) rfl q160_9.z (by decide) (q160_9.k fun Ym q160_10 => ?_);clear q160_9;refine vq ((true && ((decide (s.st = 3)) == false)) && ((decide (s.st = 1)) == true)) (c.val) (want_g rfl rfl (q160_10.a 42 rfl)) (fun hc v hv => ex_ld rfl (q160_10.e (j:=2) rfl) (CB7.ld (HC.bel hv))) rfl q160_10.z (by decide) (q160_10.k fun Yn q160_11 => ?_);clear q160_10;refine vq ((true && ((decide (s.st = 3)) == false)) && ((decide (s.st = 1)) == true)) (.pointer (some ⟨w.heap.size + 1,2,none⟩)) (want_g rfl rfl (q160_11.a 42 rfl)) (fun hc v hv => ex_fa rfl (q160_11.e (j:=3) rfl) (faS2 _ _)) rfl q160_11.z (by decide) (q160_11.k fun Yo q160_12 => ?_);clear q160_11;refine vq ((true && ((decide (s.st = 3)) == false)) && ((decide (s.st = 1)) == true)) (.int .i64 s.view) (want_g rfl rfl (q160_12.a 42 rfl)) (fun hc v hv => ex_ld rfl (ev (q160_12.a 46 rfl) hc) (ldI8 ((HS.bel hv).cell 2 _ rfl))) rfl q160_12.z (by decide) (q160_12.k fun Yp q160_13 => ?_);clear q160_12;refine vq_call ((true && ((decide (s.st = 3)) == false)) && ((decide (s.st = 1)) == true)) (.int .i64 (c.pr (s.view))) (want_g rfl rfl (q160_13.a 42 rfl)) (fun hc v hv => ex_call rfl (by simp only [List.map_toArray,List.map_cons,List.map_nil,(ev (q160_13.a 45 rfl) hc),(ev (q160_13.a 47 rfl) hc),evc] <;> rfl) rfl) (fun hc v hv => (bel8 hv (primary8 c (s.view) v))) rfl q160_13.z (by decide) (q160_13.k fun Yq q160_14 => ?_);clear q160_13;refine vq ((true && ((decide (s.st = 3)) == false)) && ((decide (s.st = 1)) == true)) (.bool (decide (s.self = (c.pr (s.view))))) (want_g rfl rfl (q160_14.a 42 rfl)) (fun hc v hv => ex_bin rfl (ev (q160_14.a 44 rfl) hc) (ev (q160_14.a 48 rfl) hc) (eqlC _ _ _ _ _)) rfl q160_14.z (by decide) (q160_14.k fun Yr q160_15 => ?_);clear q160_14;refine vq _ (.bool ((decide (s.st = 1)) && (decide (s.self = (c.pr (s.view)))))) (want_g rfl rfl (q160_15.a 38 rfl)) (fun hc v hv => ex_and rfl (q160_15.a 42 rfl) (q160_15.a 49 rfl) hc) rfl q160_15.z (by decide) (q160_15.k fun Ys q160_16 => ?_);clear q160_15
  refine q160_16.q (.bool ((decide (s.st = 3)) || ((decide (s.st = 1)) && (decide (s.self = (c.pr (s.view))))))) (fun v hv => ex_or rfl (q160_16.a 38 rfl) (q160_16.a 50 rfl) rfl) fun _ q160_17 => ?_;clear q160_16
  refine q160_17.q _ (fun v hv => ex_assign rfl (q160_17.e (j:=51) rfl)) fun _ q160_18 => ?_;clear q160_17
  have hz:=q160_18.z;have s2:=q160_18.a 2 rfl;have s3:=q160_18.a 3 rfl;have s8:=q160_18.a 8 rfl;clear q160_18;refine vq_nil (fun x2 hx2 => ?_);have s8 : _ = some (gw true (.bool (still8 c s))):=s8;have HC:=HC.bel hx2;have HS:=HS.bel hx2;have hB:=hB.trans (hx2.mono hB0);have hB0:=hB.size;have hL:=Nat.le_trans hL hx2.size;have hv_x2 : Below x2.heap.size x2 x2:=Below.refl _ _
  go_upto_region 7 with fail
  refine wp_region_lit ?_;have q161_0:=(((Rp.nil hz).cons s2).cons s3).cons s8;clear hz s2 s3 s8
  refine q161_0.t (s.val) (ex_ld rfl (q161_0.e (j:=3) rfl) (SB7.ld (HS.bel hv_x2))) fun _ q161_1 => ?_;clear q161_0
  refine vcallP (want_none rfl) (ex_call rfl (by simp only [List.map_toArray,List.map_cons,List.map_nil,(q161_1.e (j:=52) rfl),evc] <;> rfl) rfl) (copystate9 s x2 (hI.later hB) hF hb1 hb2) rfl q161_1.z (by decide) ?_;rintro e y1 ⟨t0,rfl,hcp,hlo0,hb⟩;refine ⟨_,rfl,q161_1.k fun Yt q161_2 => ?_⟩;clear q161_1;have HC:=HC.bel hb;have HS:=HS.bel hb;have hB:=hB.trans (hb.mono hB0);have hB0:=hB.size;have hL:=Nat.le_trans hL hb.size;clear hb;have t0in:=hcp.inn;have t0al:=hcp.alike;clear hcp hlo0
  obtain ⟨q9,hq9⟩ : ∃ z,z = y1.heap.size:=⟨_,rfl⟩
  obtain ⟨y2,hy2⟩ : ∃ y,y = y1.alloc (.cells zS8.cs.toArray 36):=⟨_,rfl⟩
  have ba : Below y1.heap.size y1 y2:=by rw [hy2];exact (Below.refl _ _).alloc (Nat.le_refl _) _
  have HQ : SB7 y2 q9 zS8:=by rw [hy2,hq9];exact BX7.new _ _ _
  have za:=ba.size;have lq:=HQ.lt;refine vw (.pointer (some ⟨q9,0,none⟩)) y2 (want_none rfl) (ex_al rfl (by rw [hy2,hq9];exact al12 _)) rfl q161_2.z (by decide) (q161_2.k fun Yu q161_3 => ?_);clear q161_2;refine vs (sets y2 q9 0 t0.cs) (want_none rfl) (ex_st rfl (q161_3.e (j:=9) rfl) (q161_3.e (j:=53) rfl) (st12 HQ t0)) rfl ?_;have HT:=SB7.put HQ t0;have UT:=upd12 y2 q9 t0
  obtain ⟨y3,hy3⟩ : ∃ v,v = sets y2 q9 0 t0.cs:=⟨_,rfl⟩
  rw [← hy3] at HT UT ⊢;clear hy3 hy2;have hb : Below y1.heap.size y1 y3:=ba.trans (UT.below (by omega) (fun k hk => by omega))
  have t0up : ∀ z,Upd (fun k => k = q9) y3 z → t0.In z:=fun z U => t0in.later (hb.trans (U.below hb.size (fun k hk => by omega)))
  clear t0in;have HC:=HC.bel hb;have HS:=HS.bel hb;have hB:=hB.trans (hb.mono hB0);have hB0:=hB.size;have hL:=Nat.le_trans hL hb.size
  have hq9b : w.heap.size + 2 ≤ q9:=by omega
  clear hb UT HQ ba;have hz:=q161_3.z;have s2:=q161_3.a 2 rfl;have s3:=q161_3.a 3 rfl;have s8:=q161_3.a 8 rfl;have s9:=q161_3.a 9 rfl;clear q161_3;refine wpList_nil ?_
  go_upto_region 8 with fail
  refine wp_region_lit ?_;have q162_0:=((((Rp.nil hz).cons s2).cons s3).cons s8).cons s9;clear hz s2 s3 s8 s9
  refine q162_0.t (.int .i64 0) (ex_assign rfl rfl) fun _ q162_1 => ?_;clear q162_0
  have hz:=q162_1.z;have s2:=q162_1.a 2 rfl;have s3:=q162_1.a 3 rfl;have s8:=q162_1.a 8 rfl;have s9:=q162_1.a 9 rfl;have s10:=q162_1.a 10 rfl;clear q162_1;refine wpList_nil ?_
  go_upto_region 9 with fail
  refine wp_region_lit ?_;have q163_0:=(((((Rp.nil hz).cons s2).cons s3).cons s8).cons s9).cons s10;clear hz s2 s3 s8 s9 s10
  refine q163_0.t (.int .i64 0) (ex_assign rfl rfl) fun _ q163_1 => ?_;clear q163_0
  have hz:=q163_1.z;have s2:=q163_1.a 2 rfl;have s3:=q163_1.a 3 rfl;have s8:=q163_1.a 8 rfl;have s9:=q163_1.a 9 rfl;have s10:=q163_1.a 10 rfl;have s11:=q163_1.a 11 rfl;clear q163_1;refine wpList_nil ?_;rw [← (pat0_9 (c:=c) (s:=s) hid.1 hid.2).2] at s10;have hs11 : _ = some (gw true (.int .i64 ((0 : Nat) : Int))):=s11
  have hal0 : ({ s with idle:=patI9 c s ((0 : Nat) : Int) } : Sta).Alike9 t0:=by rw [(pat0_9 (c:=c) (s:=s) hid.1 hid.2).1];exact t0al
  obtain ⟨N,hN⟩:=Int.eq_ofNat_of_zero_le (show 0 ≤ 2 * c.P by omega)
  go_upto_region 10 with fail
  refine v_loop 11 N (fun i T wr => T.size = 110∧T[2]? = some (gw true (.pointer (some ⟨w.heap.size,0,none⟩)))∧T[3]? = some (gw true (.pointer (some ⟨w.heap.size + 1,0,none⟩)))∧T[8]? = some (gw true (.bool (still8 c s)))∧T[9]? = some (gw true (.pointer (some ⟨q9,0,none⟩)))∧T[10]? = some (gw true (.int .i64 (patE9 c s i)))∧T[11]? = some (gw true (.int .i64 (i : Int)))∧∃ t : Sta,Hid (SB7 wr q9 t∧(∀ z,Upd (fun k => k = q9) wr z → t.In z)∧q9 < wr.heap.size∧({ s with idle:=patI9 c s i } : Sta).Alike9 t∧CB7 wr (w.heap.size) c∧SB7 wr (w.heap.size + 1) s∧Below w.heap.size w wr)) (fun i T w h => h.2.2.2.2.2.2.1) ⟨hz,s2,s3,s8,s9,s10,hs11,t0,HT,t0up,HT.lt,hal0,HC,HS,hB⟩ ?_;clear hz s2 s3 s8 s9 s10 s11 hs11 HT t0up hal0 t0al HC HS hB hB0;intro i R0 wr hi hh;obtain ⟨hz,s2,s3,s8,s9,s10,s11,t,HJ⟩:=hh;obtain ⟨HT,tup,lq9,tal,HC,HS,hB⟩:=HJ.out;clear HJ;have tin:=tup wr (Upd.refl _ _);have hB0:=hB.size;have hv_wr : Below wr.heap.size wr wr:=Below.refl _ _
  by_cases hit : i < N
  ·have d1 : decide ((i : Int) < 2 * c.P) = true:=decide_eq_true (by omega)
   go_upto_region 10 with fail
   refine wp_region_lit ?_;have q164_0:=((((((Rp.nil hz).cons s2).cons s3).cons s8).cons s9).cons s10).cons s11;clear hz s2 s3 s8 s9 s10 s11
   refine q164_0.t _ (ex_move rfl (q164_0.e (j:=11) rfl)) fun _ q164_1 => ?_;clear q164_0
   refine q164_1.t (.pointer (some ⟨w.heap.size,2,none⟩)) (ex_fa rfl (q164_1.e (j:=2) rfl) (faC2 _ _)) fun _ q164_2 => ?_;clear q164_1
   refine q164_2.t (.int .i64 c.P) (ex_ld rfl (q164_2.e (j:=55) rfl) (ldI8 ((HC.bel hv_wr).cell 2 _ rfl))) fun _ q164_3 => ?_;clear q164_2
   refine q164_3.t (.int .i64 (2 * c.P)) (ex_bin rfl rfl (q164_3.e (j:=56) rfl) (mulD8 _ _ 2 c.P (2 * c.P) (by rw [IntKind.wrap_i64];omega) _)) fun _ q164_4 => ?_;clear q164_3
   refine q164_4.t (.bool true) (ex_bin rfl (q164_4.e (j:=54) rfl) (q164_4.e (j:=57) rfl) (lssD8 _ _ _ _ true d1 _)) fun _ q164_5 => ?_;clear q164_4
   have hz:=q164_5.z;have s2:=q164_5.a 2 rfl;have s3:=q164_5.a 3 rfl;have s8:=q164_5.a 8 rfl;have s9:=q164_5.a 9 rfl;have s10:=q164_5.a 10 rfl;have s11:=q164_5.a 11 rfl;have s58:=q164_5.a 58 rfl;clear q164_5;refine wpList_nil ?_
   go_upto_region 12 with fail
   refine wp_cond_true ((ev s58 rfl).trans rfl) ?_;clear s58 d1;have tck : t.ckE c = 0:=pat_ck9 hE hid.1 hid.2 hP tal;have tF : t.Fit:=tal.fit ⟨hF.le,hF.be,hF.ne,hF.ll,hF.vl,hF.al,hF.ml,hF.bl,hF.nl⟩
   go_upto_region 12 with fail
   refine wp_region_lit ?_;have q165_0:=((((((Rp.nil hz).cons s2).cons s3).cons s8).cons s9).cons s10).cons s11;clear hz s2 s3 s8 s9 s10 s11
   refine q165_0.t (c.val) (ex_ld rfl (q165_0.e (j:=2) rfl) (CB7.ld (HC.bel hv_wr))) fun _ q165_1 => ?_;clear q165_0
   refine q165_1.t (t.val) (ex_ld rfl (q165_1.e (j:=9) rfl) (SB7.ld (HT.bel hv_wr))) fun _ q165_2 => ?_;clear q165_1
   refine vcallP (want_none rfl) (ex_call rfl (by simp only [List.map_toArray,List.map_cons,List.map_nil,(q165_2.e (j:=62) rfl),(q165_2.e (j:=63) rfl),evc] <;> rfl) rfl) (wait8 c t wr tin tF) rfl q165_2.z (by decide) ?_;rintro e y1 ⟨u,b1,rfl,uin,hu,hb⟩;refine ⟨_,rfl,q165_2.k fun Yv q165_3 => ?_⟩;clear q165_2;have HC:=HC.bel hb;have HS:=HS.bel hb;have hB:=hB.trans (hb.mono hB0);have hB0:=hB.size;have HT:=HT.bel hb;clear hb
   have uup : ∀ z,Upd (fun k => k = q9) y1 z → u.In z:=fun z U => hu.in9 uin U lq9
   have bY : Below y1.heap.size y1 y1:=Below.refl _ _;obtain ⟨ual,hb1⟩:=pat_step9 hE hid.1 hid.2 hP tal tck hu;clear hu
   obtain ⟨q12,hq12⟩ : ∃ z,z = y1.heap.size:=⟨_,rfl⟩
   obtain ⟨y2,hy2⟩ : ∃ y,y = y1.alloc (.cells zS8.cs.toArray 36):=⟨_,rfl⟩
   have ba : Below y1.heap.size y1 y2:=by rw [hy2];exact (Below.refl _ _).alloc (Nat.le_refl _) _
   have HQ : SB7 y2 q12 zS8:=by rw [hy2,hq12];exact BX7.new _ _ _
   have za:=ba.size;have lq:=HQ.lt
   refine q165_3.t _ (ex_move rfl (q165_3.e (j:=64) rfl)) fun _ q165_4 => ?_;clear q165_3
   refine q165_4.t (u.val) (ex_ext8 rfl (q165_4.e (j:=61) rfl) rfl) fun _ q165_5 => ?_;clear q165_4
   refine q165_5.t (.bool b1) (ex_ext8 rfl (q165_5.e (j:=61) rfl) rfl) fun _ q165_6 => ?_;clear q165_5
   refine q165_6.t (.int .i64 (t.ckE c)) (ex_ext8 rfl (q165_6.e (j:=61) rfl) rfl) fun _ q165_7 => ?_;clear q165_6
   refine vw (.pointer (some ⟨q12,0,none⟩)) y2 (want_none rfl) (ex_al rfl (by rw [hy2,hq12];exact al12 _)) rfl q165_7.z (by decide) (q165_7.k fun Yw q165_8 => ?_);clear q165_7;refine vs (sets y2 q12 0 u.cs) (want_none rfl) (ex_st rfl (q165_8.e (j:=12) rfl) (q165_8.e (j:=65) rfl) (st12 HQ u)) rfl ?_;have HU:=SB7.put HQ u;have UT:=upd12 y2 q12 u
   obtain ⟨y3,hy3⟩ : ∃ v,v = sets y2 q12 0 u.cs:=⟨_,rfl⟩
   rw [← hy3] at HU UT ⊢;clear hy3 hy2;have hb : Below y1.heap.size y1 y3:=ba.trans (UT.below (by omega) (fun k hk => by omega));have bY:=bY.trans (hb.mono bY.size);have HC:=HC.bel hb;have HS:=HS.bel hb;have hB:=hB.trans (hb.mono hB0);have hB0:=hB.size;have HT:=HT.bel hb;clear hb UT HQ ba
   refine q165_8.t _ (ex_assign rfl (q165_8.e (j:=66) rfl)) fun _ q165_9 => ?_;clear q165_8
   refine q165_9.t _ (ex_assign rfl (q165_9.e (j:=67) rfl)) fun _ q165_10 => ?_;clear q165_9
   have hz:=q165_10.z;have s2:=q165_10.a 2 rfl;have s3:=q165_10.a 3 rfl;have s8:=q165_10.a 8 rfl;have s9:=q165_10.a 9 rfl;have s10:=q165_10.a 10 rfl;have s11:=q165_10.a 11 rfl;have s12:=q165_10.a 12 rfl;have s13:=q165_10.a 13 rfl;have s14:=q165_10.a 14 rfl;clear q165_10;refine wpList_nil ?_
   go_upto_region 13 with fail
   refine wp_region_lit ?_;have q166_0:=(((((((((Rp.nil hz).cons s2).cons s3).cons s8).cons s9).cons s10).cons s11).cons s12).cons s13).cons s14;clear hz s2 s3 s8 s9 s10 s11 s12 s13 s14
   refine q166_0.t _ (ex_move rfl (q166_0.e (j:=14) rfl)) fun _ q166_1 => ?_;clear q166_0
   refine vcallP (want_none rfl) (ex_call rfl (by simp only [List.map_toArray,List.map_cons,List.map_nil,(q166_1.e (j:=68) rfl),evc] <;> rfl) rfl) (num9 (t.ckE c) y3) rfl q166_1.z (by decide) ?_;rintro e y4 ⟨rfl,hb⟩;refine ⟨_,rfl,q166_1.k fun Yx q166_2 => ?_⟩;clear q166_1;have HC:=HC.bel hb;have HS:=HS.bel hb;have hB:=hB.trans (hb.mono hB0);have hB0:=hB.size;have HT:=HT.bel hb;have HU:=HU.bel hb;have bY:=bY.trans (hb.mono bY.size);clear hb
   refine q166_2.t (.bool false) (ex_bin rfl (q166_2.e (j:=69) rfl) rfl (neqE9 _ _ _ _ tck _)) fun _ q166_3 => ?_;clear q166_2
   have hz:=q166_3.z;have s2:=q166_3.a 2 rfl;have s3:=q166_3.a 3 rfl;have s8:=q166_3.a 8 rfl;have s9:=q166_3.a 9 rfl;have s10:=q166_3.a 10 rfl;have s11:=q166_3.a 11 rfl;have s12:=q166_3.a 12 rfl;have s13:=q166_3.a 13 rfl;have s70:=q166_3.a 70 rfl;clear q166_3;refine wpList_nil ?_
   go_upto_region 15 with fail
   refine wp_cond_false ((ev s70 rfl).trans rfl) ?_;clear s70;have hv_y4 : Below y4.heap.size y4 y4:=Below.refl _ _
   go_upto_region 15 with fail
   refine wp_region_lit ?_;have q167_0:=((((((((Rp.nil hz).cons s2).cons s3).cons s8).cons s9).cons s10).cons s11).cons s12).cons s13;clear hz s2 s3 s8 s9 s10 s11 s12 s13
   refine q167_0.t _ (ex_move rfl (q167_0.e (j:=13) rfl)) fun _ q167_1 => ?_;clear q167_0
   have hz:=q167_1.z;have s2:=q167_1.a 2 rfl;have s3:=q167_1.a 3 rfl;have s8:=q167_1.a 8 rfl;have s9:=q167_1.a 9 rfl;have s10:=q167_1.a 10 rfl;have s11:=q167_1.a 11 rfl;have s12:=q167_1.a 12 rfl;have s71:=q167_1.a 71 rfl;clear q167_1;refine wpList_nil ?_
   go_upto_region 16 with fail
   cases eb : b1
   rotate_left
   ·refine wp_cond_true ((ev s71 rfl).trans (congrArg Value.bool eb)) ?_
    clear s71;rw [eb] at hb1;obtain ⟨hu0,hrem,hen⟩:=pat_ok9 hid.1 hid.2 hP ual hb1.symm
    go_upto_region 16 with fail
    refine wp_region_lit ?_;have q168_0:=(((((((Rp.nil hz).cons s2).cons s3).cons s8).cons s9).cons s10).cons s11).cons s12;clear hz s2 s3 s8 s9 s10 s11 s12
    refine q168_0.t _ (ex_move rfl (q168_0.e (j:=10) rfl)) fun _ q168_1 => ?_;clear q168_0
    refine q168_1.t (.int .i64 (patE9 c s i + 1)) (ex_bin rfl (q168_1.e (j:=72) rfl) rfl (addD8 _ _ _ 1 (patE9 c s i + 1) (by rw [IntKind.wrap_i64];have:=pat_small9 (c:=c) (s:=s) (i:=(i : Int)) hid.1 hid.2 (by omega) (by omega);omega) _)) fun _ q168_2 => ?_;clear q168_1
    refine q168_2.t _ (ex_assign rfl (q168_2.e (j:=73) rfl)) fun _ q168_3 => ?_;clear q168_2
    have hz:=q168_3.z;have s2:=q168_3.a 2 rfl;have s3:=q168_3.a 3 rfl;have s8:=q168_3.a 8 rfl;have s9:=q168_3.a 9 rfl;have s10:=q168_3.a 10 rfl;have s11:=q168_3.a 11 rfl;have s12:=q168_3.a 12 rfl;clear q168_3;refine wpList_nil ?_
    go_upto_region 17 with fail
    refine wp_region_lit ?_;have q169_0:=(((((((Rp.nil hz).cons s2).cons s3).cons s8).cons s9).cons s10).cons s11).cons s12;clear hz s2 s3 s8 s9 s10 s11 s12
    refine q169_0.t (.pointer (some ⟨q12,7,none⟩)) (ex_fa rfl (q169_0.e (j:=12) rfl) (faS7 _ _)) fun _ q169_1 => ?_;clear q169_0
    refine q169_1.t (.int .i64 u.idle) (ex_ld rfl (q169_1.e (j:=74) rfl) (ldI8 ((HU.bel hv_y4).cell 7 _ rfl))) fun _ q169_2 => ?_;clear q169_1
    refine q169_2.t (.bool false) (ex_bin rfl (q169_2.e (j:=75) rfl) rfl (neqE9 _ _ _ _ hu0 _)) fun _ q169_3 => ?_;clear q169_2
    refine q169_3.t _ (ex_move rfl (q169_3.e (j:=76) rfl)) fun _ q169_4 => ?_;clear q169_3
    refine vl true (.int .i64 (i : Int)) (want_k rfl rfl (q169_4.a 77 rfl)) (fun hc => ex_move rfl (q169_4.e (j:=11) rfl)) rfl q169_4.z (by decide) (q169_4.k fun Yy q169_5 => ?_);clear q169_4;refine vl true (.pointer (some ⟨w.heap.size + 1,7,none⟩)) (want_k rfl rfl (q169_5.a 77 rfl)) (fun hc => ex_fa rfl (q169_5.e (j:=3) rfl) (faS7 _ _)) rfl q169_5.z (by decide) (q169_5.k fun Yz q169_6 => ?_);clear q169_5;refine vl true (.int .i64 s.idle) (want_k rfl rfl (q169_6.a 77 rfl)) (fun hc => ex_ld rfl (q169_6.e (j:=79) rfl) (ldI8 ((HS.bel hv_y4).cell 7 _ rfl))) rfl q169_6.z (by decide) (q169_6.k fun Y0 q169_7 => ?_);clear q169_6;refine vl true (.int .i64 ((i : Int) + s.idle)) (want_k rfl rfl (q169_7.a 77 rfl)) (fun hc => ex_bin rfl (q169_7.e (j:=78) rfl) (q169_7.e (j:=80) rfl) (addD8 _ _ (i : Int) s.idle ((i : Int) + s.idle) (by rw [IntKind.wrap_i64];omega) _)) rfl q169_7.z (by decide) (q169_7.k fun Y1 q169_8 => ?_);clear q169_7;refine vl true (.int .i64 ((i : Int) + s.idle + 1)) (want_k rfl rfl (q169_8.a 77 rfl)) (fun hc => ex_bin rfl (q169_8.e (j:=81) rfl) rfl (addD8 _ _ ((i : Int) + s.idle) 1 ((i : Int) + s.idle + 1) (by rw [IntKind.wrap_i64];omega) _)) rfl q169_8.z (by decide) (q169_8.k fun Y2 q169_9 => ?_);clear q169_8;refine vl true (.pointer (some ⟨w.heap.size,2,none⟩)) (want_k rfl rfl (q169_9.a 77 rfl)) (fun hc => ex_fa rfl (q169_9.e (j:=2) rfl) (faC2 _ _)) rfl q169_9.z (by decide) (q169_9.k fun Y3 q169_10 => ?_);clear q169_9;refine vl true (.int .i64 c.P) (want_k rfl rfl (q169_10.a 77 rfl)) (fun hc => ex_ld rfl (q169_10.e (j:=83) rfl) (ldI8 ((HC.bel hv_y4).cell 2 _ rfl))) rfl q169_10.z (by decide) (q169_10.k fun Y4 q169_11 => ?_);clear q169_10;refine vl true (.int .i64 (((i : Int) + s.idle + 1) % c.P)) (want_k rfl rfl (q169_11.a 77 rfl)) (fun hc => ex_bin rfl (q169_11.e (j:=82) rfl) (q169_11.e (j:=84) rfl) (remD8 _ _ ((i : Int) + s.idle + 1) c.P (by omega) (by omega) (by omega) _)) rfl q169_11.z (by decide) (q169_11.k fun Y5 q169_12 => ?_);clear q169_11;refine vl true (.bool false) (want_k rfl rfl (q169_12.a 77 rfl)) (fun hc => ex_bin rfl (q169_12.e (j:=85) rfl) rfl (neqE9 _ _ _ _ hrem _)) rfl q169_12.z (by decide) (q169_12.k fun Y6 q169_13 => ?_);clear q169_12
    refine q169_13.t (.bool false) (ex_or rfl (q169_13.a 77 rfl) (q169_13.a 86 rfl) rfl) fun _ q169_14 => ?_;clear q169_13
    have hz:=q169_14.z;have s2:=q169_14.a 2 rfl;have s3:=q169_14.a 3 rfl;have s8:=q169_14.a 8 rfl;have s9:=q169_14.a 9 rfl;have s10:=q169_14.a 10 rfl;have s11:=q169_14.a 11 rfl;have s12:=q169_14.a 12 rfl;have s87:=q169_14.a 87 rfl;clear q169_14;refine wpList_nil ?_
    go_upto_region 19 with fail
    refine wp_cond_false ((ev s87 rfl).trans (congrArg Value.bool (show (false) = false from rfl))) ?_;clear s87
    go_upto_region 19 with fail
    refine wp_region_lit ?_;have q170_0:=(((((((Rp.nil hz).cons s2).cons s3).cons s8).cons s9).cons s10).cons s11).cons s12;clear hz s2 s3 s8 s9 s10 s11 s12
    refine q170_0.t (u.val) (ex_ld rfl (q170_0.e (j:=12) rfl) (SB7.ld (HU.bel hv_y4))) fun _ q170_1 => ?_;clear q170_0
    refine vs (sets y4 q9 0 u.cs) (want_none rfl) (ex_st rfl (q170_1.e (j:=9) rfl) (q170_1.e (j:=88) rfl) (st12 HT u)) rfl ?_;have HN:=SB7.put HT u;have UN:=upd12 y4 q9 u
    obtain ⟨y5,hy5⟩ : ∃ v,v = sets y4 q9 0 u.cs:=⟨_,rfl⟩
    rw [← hy5] at HN UN ⊢;clear hy5;have HC:=HC.upd UN (by show ¬ w.heap.size = q9;omega);have HS:=HS.upd UN (by show ¬ w.heap.size + 1 = q9;omega);have hB:=hB.trans (UN.below (by omega) (fun k hk => by omega))
    have uup2 : ∀ z,Upd (fun k => k = q9) y5 z → u.In z:=fun z U => uup z (((Upd.of_below bY).trans UN).trans U)
    have hz:=q170_1.z;have s2:=q170_1.a 2 rfl;have s3:=q170_1.a 3 rfl;have s8:=q170_1.a 8 rfl;have s9:=q170_1.a 9 rfl;have s10:=q170_1.a 10 rfl;have s11:=q170_1.a 11 rfl;clear q170_1;refine wpList_nil ?_
    go_upto_region 11 with fail
    refine wp_region_lit ?_;have q171_0:=((((((Rp.nil hz).cons s2).cons s3).cons s8).cons s9).cons s10).cons s11;clear hz s2 s3 s8 s9 s10 s11
    refine q171_0.t _ (ex_move rfl (q171_0.e (j:=11) rfl)) fun _ q171_1 => ?_;clear q171_0
    refine q171_1.t (.int .i64 ((i + 1 : Nat) : Int)) (ex_bin rfl (q171_1.e (j:=59) rfl) rfl (addD8 _ _ _ 1 ((i + 1 : Nat) : Int) (by rw [IntKind.wrap_i64];omega) _)) fun _ q171_2 => ?_;clear q171_1
    refine q171_2.t _ (ex_assign rfl (q171_2.e (j:=60) rfl)) fun _ q171_3 => ?_;clear q171_2
    have hz:=q171_3.z;have s2:=q171_3.a 2 rfl;have s3:=q171_3.a 3 rfl;have s8:=q171_3.a 8 rfl;have s9:=q171_3.a 9 rfl;have s10:=q171_3.a 10 rfl;have s11:=q171_3.a 11 rfl;clear q171_3;refine wpList_nil ?_;rw [← hen] at s10
    exact ⟨_,rfl,by omega,hz,s2,s3,s8,s9,s10,s11,u,HN,uup2,HN.lt,ual,HC,HS,hB⟩
   ·refine wp_cond_false ((ev s71 rfl).trans (congrArg Value.bool eb)) ?_
    clear s71;rw [eb] at hb1;have hen:=pat_no9 hid.1 hid.2 hP ual hb1.symm
    go_upto_region 19 with fail
    refine wp_region_lit ?_;have q172_0:=(((((((Rp.nil hz).cons s2).cons s3).cons s8).cons s9).cons s10).cons s11).cons s12;clear hz s2 s3 s8 s9 s10 s11 s12
    refine q172_0.t (u.val) (ex_ld rfl (q172_0.e (j:=12) rfl) (SB7.ld (HU.bel hv_y4))) fun _ q172_1 => ?_;clear q172_0
    refine vs (sets y4 q9 0 u.cs) (want_none rfl) (ex_st rfl (q172_1.e (j:=9) rfl) (q172_1.e (j:=88) rfl) (st12 HT u)) rfl ?_;have HN:=SB7.put HT u;have UN:=upd12 y4 q9 u
    obtain ⟨y5,hy5⟩ : ∃ v,v = sets y4 q9 0 u.cs:=⟨_,rfl⟩
    rw [← hy5] at HN UN ⊢;clear hy5;have HC:=HC.upd UN (by show ¬ w.heap.size = q9;omega);have HS:=HS.upd UN (by show ¬ w.heap.size + 1 = q9;omega);have hB:=hB.trans (UN.below (by omega) (fun k hk => by omega))
    have uup2 : ∀ z,Upd (fun k => k = q9) y5 z → u.In z:=fun z U => uup z (((Upd.of_below bY).trans UN).trans U)
    have hz:=q172_1.z;have s2:=q172_1.a 2 rfl;have s3:=q172_1.a 3 rfl;have s8:=q172_1.a 8 rfl;have s9:=q172_1.a 9 rfl;have s10:=q172_1.a 10 rfl;have s11:=q172_1.a 11 rfl;clear q172_1;refine wpList_nil ?_
    go_upto_region 11 with fail
    refine wp_region_lit ?_;have q173_0:=((((((Rp.nil hz).cons s2).cons s3).cons s8).cons s9).cons s10).cons s11;clear hz s2 s3 s8 s9 s10 s11
    refine q173_0.t _ (ex_move rfl (q173_0.e (j:=11) rfl)) fun _ q173_1 => ?_;clear q173_0
    refine q173_1.t (.int .i64 ((i + 1 : Nat) : Int)) (ex_bin rfl (q173_1.e (j:=59) rfl) rfl (addD8 _ _ _ 1 ((i + 1 : Nat) : Int) (by rw [IntKind.wrap_i64];omega) _)) fun _ q173_2 => ?_;clear q173_1
    refine q173_2.t _ (ex_assign rfl (q173_2.e (j:=60) rfl)) fun _ q173_3 => ?_;clear q173_2
    have hz:=q173_3.z;have s2:=q173_3.a 2 rfl;have s3:=q173_3.a 3 rfl;have s8:=q173_3.a 8 rfl;have s9:=q173_3.a 9 rfl;have s10:=q173_3.a 10 rfl;have s11:=q173_3.a 11 rfl;clear q173_3;refine wpList_nil ?_;rw [← hen] at s10
    exact ⟨_,rfl,by omega,hz,s2,s3,s8,s9,s10,s11,u,HN,uup2,HN.lt,ual,HC,HS,hB⟩
  ·have d1 : decide ((i : Int) < 2 * c.P) = false:=decide_eq_false (by omega)
   go_upto_region 10 with fail
   refine wp_region_lit ?_;have q174_0:=((((((Rp.nil hz).cons s2).cons s3).cons s8).cons s9).cons s10).cons s11;clear hz s2 s3 s8 s9 s10 s11
   refine q174_0.t _ (ex_move rfl (q174_0.e (j:=11) rfl)) fun _ q174_1 => ?_;clear q174_0
   refine q174_1.t (.pointer (some ⟨w.heap.size,2,none⟩)) (ex_fa rfl (q174_1.e (j:=2) rfl) (faC2 _ _)) fun _ q174_2 => ?_;clear q174_1
   refine q174_2.t (.int .i64 c.P) (ex_ld rfl (q174_2.e (j:=55) rfl) (ldI8 ((HC.bel hv_wr).cell 2 _ rfl))) fun _ q174_3 => ?_;clear q174_2
   refine q174_3.t (.int .i64 (2 * c.P)) (ex_bin rfl rfl (q174_3.e (j:=56) rfl) (mulD8 _ _ 2 c.P (2 * c.P) (by rw [IntKind.wrap_i64];omega) _)) fun _ q174_4 => ?_;clear q174_3
   refine q174_4.t (.bool false) (ex_bin rfl (q174_4.e (j:=54) rfl) (q174_4.e (j:=57) rfl) (lssD8 _ _ _ _ false d1 _)) fun _ q174_5 => ?_;clear q174_4
   have hz:=q174_5.z;have s3:=q174_5.a 3 rfl;have s8:=q174_5.a 8 rfl;have s9:=q174_5.a 9 rfl;have s10:=q174_5.a 10 rfl;have s58:=q174_5.a 58 rfl;clear q174_5;refine wpList_nil ?_
   go_upto_region 20 with fail
   refine wp_cond_false ((ev s58 rfl).trans rfl) ?_;clear s58 d1
   have hiN : ((i : Nat) : Int) = 2 * c.P:=by omega
   rw [hiN] at s10 tal
   go_upto_region 20 with fail
   refine wp_region_lit ?_;have q175_0:=((((Rp.nil hz).cons s3).cons s8).cons s9).cons s10;clear hz s3 s8 s9 s10
   refine q175_0.t (.pointer (some ⟨w.heap.size + 1,7,none⟩)) (ex_fa rfl (q175_0.e (j:=3) rfl) (faS7 _ _)) fun _ q175_1 => ?_;clear q175_0
   refine q175_1.t (.int .i64 s.idle) (ex_ld rfl (q175_1.e (j:=89) rfl) (ldI8 ((HS.bel hv_wr).cell 7 _ rfl))) fun _ q175_2 => ?_;clear q175_1
   refine q175_2.t (.pointer (some ⟨q9,7,none⟩)) (ex_fa rfl (q175_2.e (j:=9) rfl) (faS7 _ _)) fun _ q175_3 => ?_;clear q175_2
   refine vs (wr.setCell ⟨q9,7,none⟩ (.int .i64 s.idle)) (want_none rfl) (ex_st rfl (q175_3.e (j:=91) rfl) (q175_3.e (j:=90) rfl) (stI8 (HT.cell 7 _ rfl) (HT.free 7) _)) rfl ?_;have HTn:=HT.set (j:=7) (by simp [Sta.cs]) (.int .i64 s.idle);have UT : Upd (fun k => k = q9) wr (wr.setCell ⟨q9,7,none⟩ (.int .i64 s.idle)):=(Upd.refl (fun k => k = q9) _).setCell (p:=⟨q9,7,none⟩) (.inl rfl) _
   obtain ⟨x8,hx8⟩ : ∃ v,v = wr.setCell ⟨q9,7,none⟩ (.int .i64 s.idle):=⟨_,rfl⟩
   rw [← hx8] at HTn UT ⊢;clear hx8;have HT : SB7 x8 q9 { t with idle:=s.idle }:=HTn;clear HTn;have HS:=HS.upd UT (by show ¬ w.heap.size + 1 = q9;omega);have hB:=hB.trans (UT.below (by omega) (fun k hk => by omega));have tin:=(tup x8 UT).idle8 (i:=s.idle);have hB0:=hB.size;have hal:=(tal.put s.idle).symm;have hz:=q175_3.z;have s3:=q175_3.a 3 rfl;have s8:=q175_3.a 8 rfl;have s9:=q175_3.a 9 rfl;have s10:=q175_3.a 10 rfl;clear q175_3;refine wpList_nil ?_;have hv_x8 : Below x8.heap.size x8 x8:=Below.refl _ _
   cases est : still8 c s
   ·rw [est] at s8
    have hE2 : patE9 c s (2 * c.P) = 2:=pat_two9 hid.1 hid.2 hP est;rw [hE2] at s10
    go_upto_region 21 with fail
    refine wp_region_lit ?_;have q176_0:=((((Rp.nil hz).cons s3).cons s8).cons s9).cons s10;clear hz s3 s8 s9 s10
    refine q176_0.t (Sta.val { t with idle:=s.idle }) (ex_ld rfl (q176_0.e (j:=9) rfl) (SB7.ld (HT.bel hv_x8))) fun _ q176_1 => ?_;clear q176_0
    refine q176_1.t (s.val) (ex_ld rfl (q176_1.e (j:=3) rfl) (SB7.ld (HS.bel hv_x8))) fun _ q176_2 => ?_;clear q176_1
    refine vcallP (want_none rfl) (ex_call rfl (by simp only [List.map_toArray,List.map_cons,List.map_nil,(q176_2.e (j:=92) rfl),(q176_2.e (j:=93) rfl),evc] <;> rfl) rfl) (samestate9 { t with idle:=s.idle } s x8 tin (hI.later hB) hal) rfl q176_2.z (by decide) ?_;rintro e x9 ⟨rfl,hb⟩;refine ⟨_,rfl,q176_2.k fun Y7 q176_3 => ?_⟩;clear q176_2;have hB:=hB.trans (hb.mono hB0)
    refine q176_3.t _ (ex_move rfl (q176_3.e (j:=94) rfl)) fun _ q176_4 => ?_;clear q176_3
    refine vl true (.bool false) (want_k rfl rfl (q176_4.a 95 rfl)) (fun hc => ex_move rfl (q176_4.e (j:=8) rfl)) rfl q176_4.z (by decide) (q176_4.k fun Y8 q176_5 => ?_);clear q176_4;refine vl true (.bool false) (want_k rfl rfl (q176_5.a 95 rfl)) (fun hc => ex_move rfl (q176_5.e (j:=96) rfl)) rfl q176_5.z (by decide) (q176_5.k fun Y9 q176_6 => ?_);clear q176_5;refine vl _ (.int .i64 2) (want_g rfl rfl (q176_6.a 97 rfl)) (fun hc => ex_move rfl (q176_6.e (j:=10) rfl)) rfl q176_6.z (by decide) (q176_6.k fun Yba q176_7 => ?_);clear q176_6;refine vl _ (.bool (decide (2 = 0))) (want_g rfl rfl (q176_7.a 97 rfl)) (fun hc => ex_bin rfl (ev (q176_7.a 98 rfl) hc) rfl (eqlC _ _ _ _ _)) rfl q176_7.z (by decide) (q176_7.k fun Ybb q176_8 => ?_);clear q176_7;refine vl true (.bool (false && (decide (2 = 0)))) (want_k rfl rfl (q176_8.a 95 rfl)) (fun hc => ex_and rfl (q176_8.a 97 rfl) (q176_8.a 99 rfl) rfl) rfl q176_8.z (by decide) (q176_8.k fun Ybc q176_9 => ?_);clear q176_8;refine vl true (.bool (false && (decide (2 = 0)))) (want_k rfl rfl (q176_9.a 95 rfl)) (fun hc => ex_move rfl (q176_9.e (j:=100) rfl)) rfl q176_9.z (by decide) (q176_9.k fun Ybd q176_10 => ?_);clear q176_9;refine vl _ (.bool false) (want_g rfl rfl (q176_10.a 101 rfl)) (fun hc => ex_move rfl (q176_10.e (j:=8) rfl)) rfl q176_10.z (by decide) (q176_10.k fun Ybe q176_11 => ?_);clear q176_10;refine vl _ (.bool true) (want_g rfl rfl (q176_11.a 101 rfl)) (fun hc => ex_not rfl (ev (q176_11.a 102 rfl) hc)) rfl q176_11.z (by decide) (q176_11.k fun Ybf q176_12 => ?_);clear q176_11;refine vl _ (.bool true) (want_g rfl rfl (q176_12.a 101 rfl)) (fun hc => ex_move rfl (ev (q176_12.a 103 rfl) hc)) rfl q176_12.z (by decide) (q176_12.k fun Ybg q176_13 => ?_);clear q176_12;refine vl ((true && ((false && (decide (2 = 0))) == false)) && (true == true)) (.int .i64 2) (want_g rfl rfl (q176_13.a 104 rfl)) (fun hc => ex_move rfl (q176_13.e (j:=10) rfl)) rfl q176_13.z (by decide) (q176_13.k fun Ybh q176_14 => ?_);clear q176_13;refine vl ((true && ((false && (decide (2 = 0))) == false)) && (true == true)) (.bool (decide (2 = 2))) (want_g rfl rfl (q176_14.a 104 rfl)) (fun hc => ex_bin rfl (ev (q176_14.a 105 rfl) hc) rfl (eqlC _ _ _ _ _)) rfl q176_14.z (by decide) (q176_14.k fun Ybi q176_15 => ?_);clear q176_14;refine vl _ (.bool (true && (decide (2 = 2)))) (want_g rfl rfl (q176_15.a 101 rfl)) (fun hc => ex_and rfl (q176_15.a 104 rfl) (q176_15.a 106 rfl) hc) rfl q176_15.z (by decide) (q176_15.k fun Ybj q176_16 => ?_);clear q176_15;refine vl true (.bool ((false && (decide (2 = 0))) || (true && (decide (2 = 2))))) (want_k rfl rfl (q176_16.a 95 rfl)) (fun hc => ex_or rfl (q176_16.a 101 rfl) (q176_16.a 107 rfl) rfl) rfl q176_16.z (by decide) (q176_16.k fun Ybk q176_17 => ?_);clear q176_16
    refine q176_17.t (.bool (true && ((false && (decide (2 = 0))) || (true && (decide (2 = 2)))))) (ex_and rfl (q176_17.a 95 rfl) (q176_17.a 108 rfl) rfl) fun _ q176_18 => ?_;clear q176_17
    refine q176_18.t _ (ex_assign rfl (q176_18.e (j:=109) rfl)) fun _ q176_19 => ?_;clear q176_18
    have hz:=q176_19.z;have s4:=q176_19.a 4 rfl;clear q176_19;refine wpList_nil ?_
    go_wp2
    refine bodyPost_ret (results_tmp rfl _ _ _) rfl ⟨?_,hB⟩;rw [getD_of s4]
    first | done | rfl | decide
   ·rw [est] at s8
    have hE2 : patE9 c s (2 * c.P) = 0:=by unfold patE9;rw [if_pos est]
    rw [hE2] at s10
    go_upto_region 21 with fail
    refine wp_region_lit ?_;have q177_0:=((((Rp.nil hz).cons s3).cons s8).cons s9).cons s10;clear hz s3 s8 s9 s10
    refine q177_0.t (Sta.val { t with idle:=s.idle }) (ex_ld rfl (q177_0.e (j:=9) rfl) (SB7.ld (HT.bel hv_x8))) fun _ q177_1 => ?_;clear q177_0
    refine q177_1.t (s.val) (ex_ld rfl (q177_1.e (j:=3) rfl) (SB7.ld (HS.bel hv_x8))) fun _ q177_2 => ?_;clear q177_1
    refine vcallP (want_none rfl) (ex_call rfl (by simp only [List.map_toArray,List.map_cons,List.map_nil,(q177_2.e (j:=92) rfl),(q177_2.e (j:=93) rfl),evc] <;> rfl) rfl) (samestate9 { t with idle:=s.idle } s x8 tin (hI.later hB) hal) rfl q177_2.z (by decide) ?_;rintro e x9 ⟨rfl,hb⟩;refine ⟨_,rfl,q177_2.k fun Ybl q177_3 => ?_⟩;clear q177_2;have hB:=hB.trans (hb.mono hB0)
    refine q177_3.t _ (ex_move rfl (q177_3.e (j:=94) rfl)) fun _ q177_4 => ?_;clear q177_3
    refine vl true (.bool true) (want_k rfl rfl (q177_4.a 95 rfl)) (fun hc => ex_move rfl (q177_4.e (j:=8) rfl)) rfl q177_4.z (by decide) (q177_4.k fun Ybm q177_5 => ?_);clear q177_4;refine vl true (.bool true) (want_k rfl rfl (q177_5.a 95 rfl)) (fun hc => ex_move rfl (q177_5.e (j:=96) rfl)) rfl q177_5.z (by decide) (q177_5.k fun Ybn q177_6 => ?_);clear q177_5;refine vl true (.int .i64 0) (want_k rfl rfl (q177_6.a 97 rfl)) (fun hc => ex_move rfl (q177_6.e (j:=10) rfl)) rfl q177_6.z (by decide) (q177_6.k fun Ybo q177_7 => ?_);clear q177_6;refine vl true (.bool (decide (0 = 0))) (want_k rfl rfl (q177_7.a 97 rfl)) (fun hc => ex_bin rfl (q177_7.e (j:=98) rfl) rfl (eqlC _ _ _ _ _)) rfl q177_7.z (by decide) (q177_7.k fun Ybp q177_8 => ?_);clear q177_7;refine vl true (.bool (true && (decide (0 = 0)))) (want_k rfl rfl (q177_8.a 95 rfl)) (fun hc => ex_and rfl (q177_8.a 97 rfl) (q177_8.a 99 rfl) rfl) rfl q177_8.z (by decide) (q177_8.k fun Ybq q177_9 => ?_);clear q177_8;refine vl true (.bool (true && (decide (0 = 0)))) (want_k rfl rfl (q177_9.a 95 rfl)) (fun hc => ex_move rfl (q177_9.e (j:=100) rfl)) rfl q177_9.z (by decide) (q177_9.k fun Ybr q177_10 => ?_);clear q177_9;refine vl _ (.bool true) (want_g rfl rfl (q177_10.a 101 rfl)) (fun hc => ex_move rfl (q177_10.e (j:=8) rfl)) rfl q177_10.z (by decide) (q177_10.k fun Ybs q177_11 => ?_);clear q177_10;refine vl _ (.bool false) (want_g rfl rfl (q177_11.a 101 rfl)) (fun hc => ex_not rfl (ev (q177_11.a 102 rfl) hc)) rfl q177_11.z (by decide) (q177_11.k fun Ybt q177_12 => ?_);clear q177_11;refine vl _ (.bool false) (want_g rfl rfl (q177_12.a 101 rfl)) (fun hc => ex_move rfl (ev (q177_12.a 103 rfl) hc)) rfl q177_12.z (by decide) (q177_12.k fun Ybu q177_13 => ?_);clear q177_12;refine vl ((true && ((true && (decide (0 = 0))) == false)) && (false == true)) (.int .i64 0) (want_g rfl rfl (q177_13.a 104 rfl)) (fun hc => ex_move rfl (q177_13.e (j:=10) rfl)) rfl q177_13.z (by decide) (q177_13.k fun Ybv q177_14 => ?_);clear q177_13;refine vl ((true && ((true && (decide (0 = 0))) == false)) && (false == true)) (.bool (decide (0 = 2))) (want_g rfl rfl (q177_14.a 104 rfl)) (fun hc => ex_bin rfl (ev (q177_14.a 105 rfl) hc) rfl (eqlC _ _ _ _ _)) rfl q177_14.z (by decide) (q177_14.k fun Ybw q177_15 => ?_);clear q177_14;refine vl _ (.bool (false && (decide (0 = 2)))) (want_g rfl rfl (q177_15.a 101 rfl)) (fun hc => ex_and rfl (q177_15.a 104 rfl) (q177_15.a 106 rfl) hc) rfl q177_15.z (by decide) (q177_15.k fun Ybx q177_16 => ?_);clear q177_15;refine vl true (.bool ((true && (decide (0 = 0))) || (false && (decide (0 = 2))))) (want_k rfl rfl (q177_16.a 95 rfl)) (fun hc => ex_or rfl (q177_16.a 101 rfl) (q177_16.a 107 rfl) rfl) rfl q177_16.z (by decide) (q177_16.k fun Yby q177_17 => ?_);clear q177_16
    refine q177_17.t (.bool (true && ((true && (decide (0 = 0))) || (false && (decide (0 = 2)))))) (ex_and rfl (q177_17.a 95 rfl) (q177_17.a 108 rfl) rfl) fun _ q177_18 => ?_;clear q177_17
    refine q177_18.t _ (ex_assign rfl (q177_18.e (j:=109) rfl)) fun _ q177_19 => ?_;clear q177_18
    have hz:=q177_19.z;have s4:=q177_19.a 4 rfl;clear q177_19;refine wpList_nil ?_
    go_wp2
    refine bodyPost_ret (results_tmp rfl _ _ _) rfl ⟨?_,hB⟩;rw [getD_of s4]
    first | done | rfl | decide
end Go.Proofs.YtgncpcfncojgoaaGreatDoor
namespace Go.Proofs.YtgncpcfncojgoaaGreatDoor
open Go.ChangeShapes Go.WideShapes Go.ChangeAt Go.RowKit
open Classical
theorem intCells : Tryz.prog.cellsOf 3 = 1:=by kernel_rfl
theorem opCells : Tryz.prog.cellsOf 64 = 3:=by kernel_rfl
theorem strCells : Tryz.prog.cellsOf 9 = 1:=by kernel_rfl
theorem open_opc {H : Type} {enc : TypeId × Value → H} {W : World} {base : Nat} {sp : Nat → Bool} {held : Bool} {n : Nat} {cs : List Value} {x : DataW H × List MemPlace} (h : DataW.trod enc Tryz.prog W base sp held n 64 cs = some x) :
  ∃ p : Opn,p.fits∧cs = [.int .i64 p.k,.int .i64 p.s,.string p.v]:=by
 obtain ⟨xs,k,hk,hxy,hlen,hxl,hf⟩:=DataW.trod_struct Tryz.underlying64 h;rw [opCells] at hlen;have hxl : xs.length = 3:=hxl
 match xs,hxl,cs,hlen with
 | [y0,y1,y2],_,[v0,v1,v2],_ =>
  have g0:=hf 0 _ rfl;have g1:=hf 1 _ rfl;have g2:=hf 2 _ rfl
  simp [intCells,strCells] at g0 g1 g2
  obtain ⟨K,hK,hx0,hw0⟩:=DataW.trod_int Tryz.underlying3 g0;obtain ⟨N,hN,hx2,hw2⟩:=DataW.trod_int Tryz.underlying3 g1;obtain ⟨t,hS,hx4,hw4⟩:=DataW.trod_string Tryz.underlying9 g2;refine ⟨⟨K,N,t⟩,⟨hw0,hw2,hw4⟩,?_⟩;rw [(List.cons_eq_cons.1 hK).1,(List.cons_eq_cons.1 hN).1,(List.cons_eq_cons.1 hS).1]
theorem enCells : Tryz.prog.cellsOf 66 = 5:=by kernel_rfl
theorem enBytes : Tryz.prog.bytesOf 66 = 48:=by kernel_rfl
theorem open_enc {H : Type} {enc : TypeId × Value → H} {W : World} {base : Nat} {sp : Nat → Bool} {held : Bool} {n : Nat} {cs : List Value} {x : DataW H × List MemPlace} (h : DataW.trod enc Tryz.prog W base sp held n 66 cs = some x) :
  ∃ p : En,p.fits∧cs = p.cs:=by
 obtain ⟨xs,k,hk,hxy,hlen,hxl,hf⟩:=DataW.trod_struct Tryz.underlying66 h;rw [enCells] at hlen;have hxl : xs.length = 3:=hxl
 match xs,hxl,cs,hlen with
 | [y0,y1,y2],_,[v0,v1,v2,v3,v4],_ =>
  have g0:=hf 0 _ rfl;have g1:=hf 1 _ rfl;have g2:=hf 2 _ rfl
  simp [intCells,opCells] at g0 g1 g2
  obtain ⟨K,hK,hx0,hw0⟩:=DataW.trod_int Tryz.underlying3 g0;obtain ⟨N,hN,hx2,hw2⟩:=DataW.trod_int Tryz.underlying3 g1;obtain ⟨o,ho,e⟩:=open_opc g2;refine ⟨⟨K,N,o⟩,⟨hw0,hw2,ho⟩,?_⟩;have e0:=(List.cons_eq_cons.1 hK).1;have e1:=(List.cons_eq_cons.1 hN).1
  simp at e
  obtain ⟨e2,e3,e4⟩:=e;subst e0 e1 e2 e3 e4
  rfl
theorem weights_in {H : Type} {t : TypeId} {ds : List (DataW H)} {d : DataW H} (hd : d ∈ ds) : ∀ m,m ∈ d.weights Tryz.prog t → m ∈ DataW.weightsAll Tryz.prog t ds:=by
 induction ds with
 | nil => cases hd
 | cons x r ih =>
  intro m hm;simp only [DataW.weightsAll]
  rcases List.mem_cons.1 hd with rfl | h
  ·exact List.mem_append_left _ hm
  ·exact List.mem_append_right _ (ih h m hm)
theorem u64Cells8 : Tryz.prog.cellsOf 24 = 1:=by kernel_rfl
theorem drCells8 : Tryz.prog.cellsOf 26 = 2:=by kernel_rfl
theorem slCells8 : Tryz.prog.cellsOf 28 = 1:=by kernel_rfl
theorem open_drc8 {H : Type} {enc : TypeId × Value → H} {W : World} {base : Nat} {sp : Nat → Bool} {held : Bool} {n : Nat} {cs : List Value} {x : DataW H × List MemPlace} (h : DataW.trod enc Tryz.prog W base sp held n 26 cs = some x) :
  ∃ a b : Int,((Lit.int .u64 a).wf = true∧(Lit.int .u64 b).wf = true)∧cs = [.int .u64 a,.int .u64 b]:=by
 obtain ⟨xs,k,hk,hxy,hlen,hxl,hf⟩:=DataW.trod_struct Tryz.underlying26 h;rw [drCells8] at hlen;have hxl : xs.length = 2:=hxl
 match xs,hxl,cs,hlen with
 | [y0,y1],_,[v0,v1],_ =>
  have g0:=hf 0 _ rfl;have g1:=hf 1 _ rfl
  simp [u64Cells8] at g0 g1
  obtain ⟨K,hK,hx0,hw0⟩:=DataW.trod_int Tryz.underlying24 g0;obtain ⟨N,hN,hx2,hw2⟩:=DataW.trod_int Tryz.underlying24 g1;refine ⟨K,N,⟨hw0,hw2⟩,?_⟩;rw [(List.cons_eq_cons.1 hK).1,(List.cons_eq_cons.1 hN).1]
theorem log_of_trod {H : Type} {enc : TypeId × Value → H} {W : World} {n : Nat} {v : Value} {d : DataW H} {p : List MemPlace} (hf : DataW.trod enc Tryz.prog W 0 (fun _ => true) true n 28 [v] = some (d,p)) (hw : ∀ m,m ∈ d.weights Tryz.prog 28 → m ≤ reachBytes) :
  ∃ s : SV En,v = .slice s.a s.D.length s.c∧SlY yE W s.a s.D.length s.c s.D∧(∀ e ∈ s.D,e.fits)∧s.D.length * 48 ≤ 140737488351232:=by
 rcases Go.Deep.open_slice Tryz.underlying28 hf with ⟨hcs,hx⟩ | ⟨y,ln,cp,m,k,D,Pl,hcs,hb,hl,hm,hmm,hx,hall⟩
 ·have e:=(List.cons_eq_cons.1 hcs).1
  exact ⟨⟨none,0,[]⟩,e,⟨rfl,Nat.le_refl _,Nat.zero_le _,fun _ => ⟨rfl,rfl⟩,fun x hx => .inl rfl⟩,by simp,by simp⟩
 ·have e:=(List.cons_eq_cons.1 hcs).1
  have hlm : ln ≤ m:=by rw [hmm];split <;> omega
  have hd:=congrArg Prod.fst hx
  dsimp only at hd
  have hsz : ln * 48 ≤ 140737488351232:=by
   have:=hw _ (by
    rw [hd];simp only [DataW.weights,Tryz.underlying28,enBytes]
    exact List.mem_cons_self)
   simp only [List.length_map,List.length_range,reachBytes] at this;rw [Nat.add_mul] at this
   omega
  have each : ∀ i,i < ln → ∃ q : En,q.fits∧(∀ j,j < 5 → W.cell? ((y.add (i * 5)).add j) = q.cs[j]?):=by
   intro i hi;obtain ⟨cs',h1,h2⟩:=hall i (by omega);rw [enCells] at h1;obtain ⟨q,hf,rfl⟩:=open_enc h2;obtain ⟨_,_,hcell⟩:=World.cells?_some h1
   exact ⟨q,hf,hcell⟩
  haveI : Inhabited En:=⟨⟨0,0,⟨0,0,⟨#[]⟩⟩⟩⟩
  obtain ⟨q,hq⟩:=Go.Deep.choose_lt each;refine ⟨⟨some y,cp,(List.range ln).map q⟩,by rw [e];simp,⟨rfl,by simpa using hl,hm,(fun e => by cases e),fun x hx => ?_⟩,?_,by simpa using hsz⟩
  ·cases hx
   by_cases hn0 : ln = 0
   ·subst hn0
    exact .inl rfl
   ·obtain ⟨b,o,s⟩:=y
    have z0:=(hq 0 (by omega)).2 0 (by omega);have z1:=z0.trans (List.getElem?_eq_getElem (by show 0 < 5;omega));have hs:=World.cell?_spot z1
    obtain rfl : s = none:=by
     rw [Nat.zero_mul] at hs
     simpa [Addr.add] using hs
    refine .inr ⟨b,o,rfl,?_,fun i x hx j u hu => ?_⟩
    ·rw [Addr.add_lit,Addr.add_lit] at z1
     exact World.block_lt_of_cell? _ _ z1
    ·have hi : i < ln:=by
      have:=(List.getElem?_eq_some_iff.1 hx).1
      simpa using this
     have e : q i = x:=by
      simp [hi] at hx
      exact hx
     subst e;have hj : j < 5:=(List.getElem?_eq_some_iff.1 hu).1;have:=(hq i hi).2 j hj;rw [Addr.add_lit,Addr.add_lit] at this
     exact this.trans hu
  ·intro z hz
   obtain ⟨i,hi,rfl⟩:=List.mem_map.1 hz
   exact (hq i (List.mem_range.1 hi)).1
theorem cellsBl : Tryz.prog.cellsOf 114 = 6:=by kernel_rfl
theorem bytesBl : Tryz.prog.bytesOf 114 = 64:=by kernel_rfl
structure Bl.fits (W : World) (x : Bl) : Prop where
 nw : (Lit.int .i64 x.n).wf = true
 hw : (Lit.int .u64 x.h).wf = true
 lw : (Lit.int .u64 x.l).wf = true
 vw : (Lit.int .i64 x.v).wf = true
 cw : (Lit.int .i64 x.c).wf = true
 sw : SlY yE W x.s.a x.s.D.length x.s.c x.s.D
 ew : ∀ e ∈ x.s.D,e.fits
 bw : x.s.D.length * 48 ≤ 140737488351232
theorem Bl.fits.In {W : World} {x : Bl} (h : x.fits W) : x.In W:=⟨h.sw,by have:=h.bw;omega⟩
theorem open_elBl {H : Type} {enc : TypeId × Value → H} {W : World} {m : Nat} {cs : List Value} {D : DataW H} {q : List MemPlace} (h : DataW.trod enc Tryz.prog W 0 (fun _ => true) true m 114 cs = some (D,q)) (hw : ∀ k,k ∈ D.weights Tryz.prog 114 → k ≤ reachBytes) : ∃ e : Bl,e.fits W∧cs = e.cs:=by
 obtain ⟨xs,k,hk,hxy,hlen,hxl,hf⟩:=DataW.trod_struct Tryz.underlying114 h;rw [cellsBl] at hlen;have hxl : xs.length = 5:=hxl
 match xs,hxl,cs,hlen with
 | [y0,y1,y2,y3,y4],_,[v0,v1,v2,v3,v4,v5],_ =>
  have g0:=hf 0 _ rfl;have g1:=hf 1 _ rfl;have g2:=hf 2 _ rfl;have g3:=hf 3 _ rfl;have g4:=hf 4 _ rfl
  simp [intCells,drCells8,slCells8] at g0 g1 g2 g3 g4
  obtain ⟨N,hN,_,wN⟩:=DataW.trod_int Tryz.underlying3 g0;obtain ⟨a,b,⟨wa,wb⟩,hdr⟩:=open_drc8 g1;obtain ⟨V,hV,_,wV⟩:=DataW.trod_int Tryz.underlying3 g2;obtain ⟨C,hC,_,wC⟩:=DataW.trod_int Tryz.underlying3 g3;have hd : D = .agg ([y0,y1,y2,y3,y4].map Prod.fst):=congrArg Prod.fst hxy
  obtain ⟨s,es,hs,he,hb⟩:=log_of_trod g4 (fun k hk => hw k (by
   rw [hd];simp only [DataW.weights,Tryz.underlying114]
   exact DataW.weights_mem_each (j:=4) (t:=28) rfl rfl k hk))
  refine ⟨⟨N,a,b,V,C,s⟩,⟨wN,wa,wb,wV,wC,hs,he,hb⟩,?_⟩
  simp at hN hdr hV hC
  obtain ⟨h1,h2⟩:=hdr;subst hN h1 h2 hV hC es
  rfl
theorem cellsAn : Tryz.prog.cellsOf 116 = 6:=by kernel_rfl
theorem bytesAn : Tryz.prog.bytesOf 116 = 64:=by kernel_rfl
structure An.fits (W : World) (x : An) : Prop where
 nw : (Lit.int .i64 x.n).wf = true
 hw : (Lit.int .u64 x.h).wf = true
 lw : (Lit.int .u64 x.l).wf = true
 vw : (Lit.int .i64 x.v).wf = true
 cw : (Lit.int .i64 x.c).wf = true
 sw : SlY yE W x.s.a x.s.D.length x.s.c x.s.D
 ew : ∀ e ∈ x.s.D,e.fits
 bw : x.s.D.length * 48 ≤ 140737488351232
theorem An.fits.In {W : World} {x : An} (h : x.fits W) : x.In W:=⟨h.sw,by have:=h.bw;omega⟩
theorem open_elAn {H : Type} {enc : TypeId × Value → H} {W : World} {m : Nat} {cs : List Value} {D : DataW H} {q : List MemPlace} (h : DataW.trod enc Tryz.prog W 0 (fun _ => true) true m 116 cs = some (D,q)) (hw : ∀ k,k ∈ D.weights Tryz.prog 116 → k ≤ reachBytes) : ∃ e : An,e.fits W∧cs = e.cs:=by
 obtain ⟨xs,k,hk,hxy,hlen,hxl,hf⟩:=DataW.trod_struct Tryz.underlying116 h;rw [cellsAn] at hlen;have hxl : xs.length = 5:=hxl
 match xs,hxl,cs,hlen with
 | [y0,y1,y2,y3,y4],_,[v0,v1,v2,v3,v4,v5],_ =>
  have g0:=hf 0 _ rfl;have g1:=hf 1 _ rfl;have g2:=hf 2 _ rfl;have g3:=hf 3 _ rfl;have g4:=hf 4 _ rfl
  simp [intCells,drCells8,slCells8] at g0 g1 g2 g3 g4
  obtain ⟨N,hN,_,wN⟩:=DataW.trod_int Tryz.underlying3 g0;obtain ⟨a,b,⟨wa,wb⟩,hdr⟩:=open_drc8 g1;obtain ⟨V,hV,_,wV⟩:=DataW.trod_int Tryz.underlying3 g2;obtain ⟨C,hC,_,wC⟩:=DataW.trod_int Tryz.underlying3 g3;have hd : D = .agg ([y0,y1,y2,y3,y4].map Prod.fst):=congrArg Prod.fst hxy
  obtain ⟨s,es,hs,he,hb⟩:=log_of_trod g4 (fun k hk => hw k (by
   rw [hd];simp only [DataW.weights,Tryz.underlying116]
   exact DataW.weights_mem_each (j:=4) (t:=28) rfl rfl k hk))
  refine ⟨⟨N,a,b,V,C,s⟩,⟨wN,wa,wb,wV,wC,hs,he,hb⟩,?_⟩
  simp at hN hdr hV hC
  obtain ⟨h1,h2⟩:=hdr;subst hN h1 h2 hV hC es
  rfl
end Go.Proofs.YtgncpcfncojgoaaGreatDoor
namespace Go.Proofs.YtgncpcfncojgoaaGreatDoor
open Go.ChangeShapes Go.WideShapes Go.ChangeAt Go.RowKit Go.Maps
open Classical
theorem cfCells : Tryz.prog.cellsOf 23 = 4:=by kernel_rfl
theorem boolCells9 : Tryz.prog.cellsOf 4 = 1:=by kernel_rfl
theorem open_cfg {H : Type} {enc : TypeId × Value → H} {W : World} {base : Nat} {v : Value} {d : DataW H} {p : List MemPlace} (hv : Value.okWide Tryz.prog W .any base 23 v) (h : DataW.Trod enc Tryz.prog W 0 (fun _ => true) true 23 v d p) :
  ∃ x : Cg,v = .agg #[.int .i64 x.F,.int .i64 x.R,.int .i64 x.P,.bool x.u]∧True:=by
 obtain ⟨cs,rfl,hsz⟩:=okWide_struct Tryz.underlying23 hv;obtain ⟨fuel,hf⟩:=h;obtain ⟨xs,k,hk,hxy,hlen,hxl,hf⟩:=DataW.trod_struct Tryz.underlying23 hf;rw [cfCells] at hlen;have hxl : xs.length = 4:=hxl;simp only [Value.cells] at hlen hf;obtain ⟨l⟩:=cs
 match xs,hxl,l,hlen with
 | [y0,y1,y2,y3],_,[v0,v1,v2,v3],_ =>
  have g0:=hf 0 _ rfl;have g1:=hf 1 _ rfl;have g2:=hf 2 _ rfl;have g3:=hf 3 _ rfl
  simp [intCells,boolCells9] at g0 g1 g2 g3
  obtain ⟨A,hA,_,_⟩:=DataW.trod_int Tryz.underlying3 g0;obtain ⟨B,hB,_,_⟩:=DataW.trod_int Tryz.underlying3 g1;obtain ⟨C,hC,_,_⟩:=DataW.trod_int Tryz.underlying3 g2;obtain ⟨b,hb,_⟩:=DataW.trod_bool Tryz.underlying4 g3;refine ⟨⟨A,B,C,b⟩,?_,trivial⟩
  simp at hA hB hC hb
  subst hA hB hC hb
  rfl
theorem drBytes8 : Tryz.prog.bytesOf 26 = 16:=by kernel_rfl
theorem rows_of_trod9 {α : Type} [Inhabited α] {Y : Lay α} (K : Y.Ok) (F : α → Prop) (hT : Tryz.prog.cellsOf Y.T = Y.k) (hby : Tryz.prog.bytesOf Y.T = Y.by_) {H : Type} {enc : TypeId × Value → H} {W : World} {v : Value} {d : DataW H} {p : List MemPlace} {fuel : Nat}
  (hop : ∀ {m : Nat} {cs : List Value} {D : DataW H} {q : List MemPlace},DataW.trod enc Tryz.prog W 0 (fun _ => true) true m Y.T cs = some (D,q) → (∀ k,k ∈ D.weights Tryz.prog Y.T → k ≤ reachBytes) → ∃ e : α,F e∧cs = Y.cs e)
  (h : DataW.trod enc Tryz.prog W 0 (fun _ => true) true fuel Y.ST [v] = some (d,p)) (hw : ∀ m,m ∈ d.weights Tryz.prog Y.ST → m ≤ reachBytes) :
  ∃ a len cap,v = .slice a len cap∧∃ P : List α,SlY Y W a len cap P∧(∀ e ∈ P,F e)∧len * Y.by_ ≤ 140737488351232:=by
 rcases Go.Deep.open_slice K.und h with ⟨hcs,hx⟩ | ⟨y,n,c,m,k,D,Pl,hcs,hb,hl,hm,hmm,hx,hall⟩
 ·have e:=(List.cons_eq_cons.1 hcs).1
  exact ⟨none,0,0,e,[],⟨rfl,Nat.le_refl _,by unfold maxLen;omega,fun _ => ⟨rfl,rfl⟩,fun x hx => .inl rfl⟩,by simp,by omega⟩
 ·have e:=(List.cons_eq_cons.1 hcs).1
  refine ⟨some y,n,c,e,?_⟩
  have hlm : n ≤ m:=by rw [hmm];split <;> omega
  have hd:=congrArg Prod.fst hx
  dsimp only at hd
  have hsz : n * Y.by_ ≤ 140737488351232:=by
   have:=hw _ (by
    rw [hd];simp only [DataW.weights,K.und,hby]
    exact List.mem_cons_self)
   simp only [List.length_map,List.length_range,reachBytes] at this;rw [Nat.add_mul] at this
   omega
  have each : ∀ i,i < n → ∃ q : α,F q∧(∀ j,j < Y.k → W.cell? ((y.add (i * Y.k)).add j) = (Y.cs q)[j]?):=by
   intro i hi;obtain ⟨cs',h1,h2⟩:=hall i (by omega);rw [hT] at h1
   obtain ⟨q,hf,rfl⟩:=hop h2 (fun k hk => hw k (by
    rw [hd];simp only [DataW.weights,K.und]
    exact List.mem_cons_of_mem _ (List.mem_append_left _ (weights_in (List.mem_map_of_mem (List.mem_range.2 hi)) k hk))))
   obtain ⟨_,_,hcell⟩:=World.cells?_some h1
   exact ⟨q,hf,hcell⟩
  obtain ⟨q,hq⟩:=Go.Deep.choose_lt each;refine ⟨(List.range n).map q,⟨by simp,hl,hm,(fun e => by cases e),fun x hx => ?_⟩,?_,hsz⟩
  ·cases hx
   by_cases hn0 : n = 0
   ·subst hn0
    exact .inl rfl
   ·obtain ⟨b,o,s⟩:=y
    have z0:=(hq 0 (by omega)).2 0 K.kp;have z1:=z0.trans (List.getElem?_eq_getElem (by rw [K.len];exact K.kp));have hs:=World.cell?_spot z1
    obtain rfl : s = none:=by
     rw [Nat.zero_mul] at hs
     simpa [Addr.add] using hs
    refine .inr ⟨b,o,rfl,?_,fun i x hx j u hu => ?_⟩
    ·rw [Addr.add_lit,Addr.add_lit] at z1
     exact World.block_lt_of_cell? _ _ z1
    ·have hi : i < n:=by
      have:=(List.getElem?_eq_some_iff.1 hx).1
      simpa using this
     have e : q i = x:=by
      simp [hi] at hx
      exact hx
     subst e
     have hj : j < Y.k:=by have:=(List.getElem?_eq_some_iff.1 hu).1;rwa [K.len] at this
     have:=(hq i hi).2 j hj;rw [Addr.add_lit,Addr.add_lit] at this
     exact this.trans hu
  ·intro z hz
   obtain ⟨i,hi,rfl⟩:=List.mem_map.1 hz
   exact (hq i (List.mem_range.1 hi)).1
theorem staCells9 : Tryz.prog.cellsOf 36 = 12:=by kernel_rfl
theorem stuCells9 : Tryz.prog.cellsOf 27 = 1:=by kernel_rfl
theorem veCells9 : Tryz.prog.cellsOf 30 = 1:=by kernel_rfl
theorem aksCells9 : Tryz.prog.cellsOf 31 = 1:=by kernel_rfl
theorem mksCells9 : Tryz.prog.cellsOf 32 = 1:=by kernel_rfl
theorem blsCells9 : Tryz.prog.cellsOf 33 = 1:=by kernel_rfl
theorem ansCells9 : Tryz.prog.cellsOf 34 = 1:=by kernel_rfl
theorem akCells9 : Tryz.prog.cellsOf 110 = 4:=by kernel_rfl
theorem akBytes9 : Tryz.prog.bytesOf 110 = 32:=by kernel_rfl
theorem mkCells9 : Tryz.prog.cellsOf 112 = 3:=by kernel_rfl
theorem mkBytes9 : Tryz.prog.bytesOf 112 = 24:=by kernel_rfl
theorem open_mkc9 {H : Type} {enc : TypeId × Value → H} {W : World} {base : Nat} {sp : Nat → Bool} {held : Bool} {n : Nat} {cs : List Value} {x : DataW H × List MemPlace} (h : DataW.trod enc Tryz.prog W base sp held n 112 cs = some x) : ∃ e : Mk,((Lit.int .i64 e.n).wf = true∧(Lit.int .u64 e.h).wf = true∧(Lit.int .u64 e.l).wf = true)∧cs = yMkA.cs e:=by
 obtain ⟨xs,k,hk,hxy,hlen,hxl,hf⟩:=DataW.trod_struct Tryz.underlying112 h;rw [mkCells9] at hlen;have hxl : xs.length = 2:=hxl
 match xs,hxl,cs,hlen with
 | [y0,y1],_,[v0,v1,v2],_ =>
  have g0:=hf 0 _ rfl;have g1:=hf 1 _ rfl
  simp [intCells,drCells8] at g0 g1
  obtain ⟨N,hN,_,wN⟩:=DataW.trod_int Tryz.underlying3 g0;obtain ⟨a,b,⟨wa,wb⟩,hdr⟩:=open_drc8 g1;refine ⟨⟨N,a,b⟩,⟨wN,wa,wb⟩,?_⟩
  simp at hN hdr
  obtain ⟨h1,h2⟩:=hdr;subst hN h1 h2
  rfl
theorem open_akc9 {H : Type} {enc : TypeId × Value → H} {W : World} {base : Nat} {sp : Nat → Bool} {held : Bool} {n : Nat} {cs : List Value} {x : DataW H × List MemPlace} (h : DataW.trod enc Tryz.prog W base sp held n 110 cs = some x) : ∃ e : Ak,((Lit.int .i64 e.n).wf = true∧(Lit.int .u64 e.h).wf = true∧(Lit.int .u64 e.l).wf = true∧(Lit.int .i64 e.p).wf = true)∧cs = yAkA.cs e:=by
 obtain ⟨xs,k,hk,hxy,hlen,hxl,hf⟩:=DataW.trod_struct Tryz.underlying110 h;rw [akCells9] at hlen;have hxl : xs.length = 3:=hxl
 match xs,hxl,cs,hlen with
 | [y0,y1,y2],_,[v0,v1,v2,v3],_ =>
  have g0:=hf 0 _ rfl;have g1:=hf 1 _ rfl;have g2:=hf 2 _ rfl
  simp [intCells,drCells8] at g0 g1 g2
  obtain ⟨N,hN,_,wN⟩:=DataW.trod_int Tryz.underlying3 g0;obtain ⟨a,b,⟨wa,wb⟩,hdr⟩:=open_drc8 g1;obtain ⟨Q,hQ,_,wQ⟩:=DataW.trod_int Tryz.underlying3 g2;refine ⟨⟨N,a,b,Q⟩,⟨wN,wa,wb,wQ⟩,?_⟩
  simp at hN hdr hQ
  obtain ⟨h1,h2⟩:=hdr;subst hN h1 h2 hQ
  rfl
structure Sta.Came (W : World) (s : Sta) : Prop where
 inn : s.In W
 fit : s.Fit
 hb1 : ∀ x ∈ s.B,x.s.D.length * 48 ≤ 140737488351232
 hb2 : ∀ x ∈ s.N,x.s.D.length * 48 ≤ 140737488351232
 w0 : (Lit.int .i64 s.self).wf = true
 w1 : (Lit.int .i64 s.st).wf = true
 w2 : (Lit.int .i64 s.view).wf = true
 w3 : (Lit.int .i64 s.last).wf = true
 w5 : (Lit.int .i64 s.commit).wf = true
 w7 : (Lit.int .i64 s.idle).wf = true
 wv : ∀ d ∈ s.V,(Lit.int .u64 d.1).wf = true∧(Lit.int .u64 d.2).wf = true
 wa : ∀ e ∈ s.A,(Lit.int .i64 e.n).wf = true∧(Lit.int .u64 e.h).wf = true∧(Lit.int .u64 e.l).wf = true∧(Lit.int .i64 e.p).wf = true
 wm : ∀ e ∈ s.M,(Lit.int .i64 e.n).wf = true∧(Lit.int .u64 e.h).wf = true∧(Lit.int .u64 e.l).wf = true
 wb : ∀ x ∈ s.B,x.fits W
 wn : ∀ x ∈ s.N,x.fits W
theorem open_state9 {H : Type} {enc : TypeId × Value → H} {W : World} {base : Nat} {v : Value} {d : DataW H} {p : List MemPlace} (hv : Value.okWide Tryz.prog W .any base 36 v) (h : DataW.Trod enc Tryz.prog W 0 (fun _ => true) true 36 v d p)
  (hw : ∀ m,m ∈ d.weights Tryz.prog 36 → m ≤ reachBytes) : ∃ s : Sta,v = s.val∧s.Came W:=by
 haveI : Inhabited Bl:=⟨⟨0,0,0,0,0,⟨none,0,[]⟩⟩⟩
 haveI : Inhabited An:=⟨⟨0,0,0,0,0,⟨none,0,[]⟩⟩⟩
 haveI : Inhabited Ak:=⟨⟨0,0,0,0⟩⟩
 haveI : Inhabited Mk:=⟨⟨0,0,0⟩⟩
 haveI : Inhabited En:=⟨⟨0,0,⟨0,0,⟨#[]⟩⟩⟩⟩
 obtain ⟨cs,rfl,hsz⟩:=okWide_struct Tryz.underlying36 hv;obtain ⟨fuel,hf⟩:=h;obtain ⟨xs,k,hk,hxy,hlen,hxl,hf⟩:=DataW.trod_struct Tryz.underlying36 hf;rw [staCells9] at hlen;have hxl : xs.length = 12:=hxl;simp only [Value.cells] at hlen hf;obtain ⟨l⟩:=cs
 match xs,hxl,l,hlen with
 | [y0,y1,y2,y3,y4,y5,y6,y7,y8,y9,y10,y11],_,[v0,v1,v2,v3,v4,v5,v6,v7,v8,v9,v10,v11],_ =>
  have hd : d = .agg ([y0,y1,y2,y3,y4,y5,y6,y7,y8,y9,y10,y11].map Prod.fst):=congrArg Prod.fst hxy
  have wg : ∀ (j : Nat) (t : TypeId) (x : DataW H),[3,27,3,3,28,3,30,3,31,32,33,34][j]? = some t → ([y0,y1,y2,y3,y4,y5,y6,y7,y8,y9,y10,y11].map Prod.fst)[j]? = some x → ∀ k,k ∈ x.weights Tryz.prog t → k ≤ reachBytes:=fun j t x ht hx k hk => hw k (by
   rw [hd];simp only [DataW.weights,Tryz.underlying36]
   exact DataW.weights_mem_each (j:=j) (t:=t) ht hx k hk)
  have g0:=hf 0 _ rfl;have g1:=hf 1 _ rfl;have g2:=hf 2 _ rfl;have g3:=hf 3 _ rfl;have g4:=hf 4 _ rfl;have g5:=hf 5 _ rfl;have g6:=hf 6 _ rfl;have g7:=hf 7 _ rfl;have g8:=hf 8 _ rfl;have g9:=hf 9 _ rfl;have g10:=hf 10 _ rfl;have g11:=hf 11 _ rfl
  simp [intCells,stuCells9,slCells8,veCells9,aksCells9,mksCells9,blsCells9,ansCells9] at g0 g1 g2 g3 g4 g5 g6 g7 g8 g9 g10 g11
  obtain ⟨z0,e0,_,c0⟩:=DataW.trod_int Tryz.underlying3 g0;obtain ⟨z1,e1,_,c1⟩:=DataW.trod_int Tryz.underlying27 g1;obtain ⟨z2,e2,_,c2⟩:=DataW.trod_int Tryz.underlying3 g2;obtain ⟨z3,e3,_,c3⟩:=DataW.trod_int Tryz.underlying3 g3;obtain ⟨z5,e5,_,c5⟩:=DataW.trod_int Tryz.underlying3 g5;obtain ⟨z7,e7,_,c7⟩:=DataW.trod_int Tryz.underlying3 g7;obtain ⟨s4,e4,hl4,hf4,hb4⟩:=log_of_trod g4 (wg 4 _ _ rfl rfl)
  obtain ⟨a6,n6,c6,e6,P6,hl6,hf6,hb6⟩:=rows_of_trod9 (Y:=yD) kD (fun d => (Lit.int .u64 d.1).wf = true∧(Lit.int .u64 d.2).wf = true) drCells8 drBytes8 (fun h _ => by
   obtain ⟨x,y,hxy,e⟩:=open_drc8 h
   exact ⟨(x,y),hxy,e⟩) g6 (wg 6 _ _ rfl rfl)
  obtain ⟨a8,n8,c8,e8,P8,hl8,hf8,hb8⟩:=rows_of_trod9 (Y:=yAkA) kAkA _ akCells9 akBytes9 (fun h _ => open_akc9 h) g8 (wg 8 _ _ rfl rfl);obtain ⟨a9,n9,c9,e9,P9,hl9,hf9,hb9⟩:=rows_of_trod9 (Y:=yMkA) kMkA _ mkCells9 mkBytes9 (fun h _ => open_mkc9 h) g9 (wg 9 _ _ rfl rfl);obtain ⟨a10,n10,c10,e10,P10,hl10,hf10,hb10⟩:=rows_of_trod9 (Y:=yBlA) kBlA (fun e => e.fits W) cellsBl bytesBl (fun h hw => open_elBl h hw) g10 (wg 10 _ _ rfl rfl);obtain ⟨a11,n11,c11,e11,P11,hl11,hf11,hb11⟩:=rows_of_trod9 (Y:=yAnA) kAnA (fun e => e.fits W) cellsAn bytesAn (fun h hw => open_elAn h hw) g11 (wg 11 _ _ rfl rfl)
  simp at e0 e1 e2 e3 e5 e7
  subst e0 e1 e2 e3 e4 e5 e6 e7 e8 e9 e10 e11;obtain rfl : n6 = P6.length:=hl6.len.symm;obtain rfl : n8 = P8.length:=hl8.len.symm;obtain rfl : n9 = P9.length:=hl9.len.symm;obtain rfl : n10 = P10.length:=hl10.len.symm;obtain rfl : n11 = P11.length:=hl11.len.symm;refine ⟨⟨z0,z1,z2,z3,s4.a,s4.c,s4.D,z5,a6,c6,P6,z7,a8,c8,P8,a9,c9,P9,a10,c10,P10,a11,c11,P11⟩,rfl,?_⟩
  exact ⟨⟨hl4,hl6,hl8,hl9,hl10,hl11,fun x hx => (hf10 x hx).In,fun x hx => (hf11 x hx).In⟩,⟨hf4,fun x hx => (hf10 x hx).ew,fun x hx => (hf11 x hx).ew,by show s4.D.length * 48 ≤ _;omega,by show P6.length * 16 ≤ _;simp only [yD] at hb6;omega,by show P8.length * 32 ≤ _;simp only [yAkA] at hb8;omega,by show P9.length * 24 ≤ _;simp only [yMkA] at hb9;omega,by show P10.length * 64 ≤ _;simp only [yBlA] at hb10;omega,by show P11.length * 64 ≤ _;simp only [yAnA] at hb11;omega⟩,fun x hx => (hf10 x hx).bw,fun x hx => (hf11 x hx).bw,c0,c1,c2,c3,c5,c7,hf6,hf8,hf9,hf10,hf11⟩
end Go.Proofs.YtgncpcfncojgoaaGreatDoor
namespace Go.Proofs.YtgncpcfncojgoaaGreatDoor
open Go.RowKit Go.Maps Go.WideShapes Go.ChangeShapes
open Classical
theorem gTab : Tryz.prog.globalNamed "amnesia/message.table" = some 0 := by kernel_rfl
theorem gTabT : (Tryz.prog.globals[0]?).map (·.type) = some 168:=by kernel_rfl
theorem cellsRow : Tryz.prog.cellsOf 167 = 10:=by kernel_rfl
theorem cellsRule : Tryz.prog.cellsOf 166 = 1:=by kernel_rfl
theorem undTab : Tryz.prog.underlying 168 = some (.array 15 167):=by kernel_rfl
theorem undRow : Tryz.prog.underlying 167 = some (.array 10 166):=by kernel_rfl
theorem undRule : Tryz.prog.underlying 166 = some (.int .u8):=by kernel_rfl
theorem tab_of_laid7 {W : World} (h : laidMetH Tryz.prog [("amnesia/message.table", Rows.laid_amnesia_message_table)] W) : Tab W := by
 rw [MakeChecks.laidMetH_plain _ _ _ (by kernel_rfl)] at h;obtain ⟨ps,⟨g',t',cs,fuel,p,q,hg',ht',hvar,hd,_,_⟩,_⟩:=h;obtain rfl:=Option.some.inj (gTab.symm.trans hg');obtain rfl:=Option.some.inj (gTabT.symm.trans ht');obtain ⟨xs,m,_,hx,hl,hxl,hall⟩:=DataW.trod_array undTab hd
 have e : (Rows.laid_amnesia_message_table : DataW Unit) = .agg ((List.range 15).map fun k => Lib.tabData .u8 ((List.range 10).map fun j => (tabA k j : Int))):=by kernel_rfl
 have hxs : xs.map (·.1) = (List.range 15).map fun k => (Lib.tabData .u8 ((List.range 10).map fun j => (tabA k j : Int)) : DataW Unit):=by
  have h1:=congrArg Prod.fst hx;rw [e] at h1
  exact (DataW.agg.inj h1).symm
 have row : ∀ k,k < 15 → (cs.toList.drop (k * 10)).take 10 = ((List.range 10).map fun j => (tabA k j : Int)).map fun z => Value.int .u8 z:=by
  intro k hk;have h1:=hall k hk;rw [cellsRow] at h1
  obtain ⟨x,hx⟩ : ∃ x,xs[k]? = some x:=⟨_,List.getElem?_eq_getElem (by omega)⟩
  rw [hx] at h1
  have h2 : x.1 = (Lib.tabData .u8 ((List.range 10).map fun j => (tabA k j : Int)) : DataW Unit):=by
   have h3:=congrArg (fun l => l[k]?) hxs;simp only [List.getElem?_map,hx,Option.map_some,List.getElem?_range hk] at h3
   exact Option.some.inj h3
  obtain ⟨d,pp⟩:=x;subst h2
  exact Lib.cells_of_tab undRow undRule cellsRule cellsRow h1
 have cell : ∀ k j,k < 15 → j < 10 → W.cell? ⟨0,k * 10 + j,none⟩ = some (.int .u8 (tabA k j : Int)):=by
  intro k j hk hj;have h1:=World.var?_cell gTab hvar (k * 10 + j);rw [h1];have h2:=congrArg (fun l => l[j]?) (row k hk);simp only [List.getElem?_take_of_lt hj,List.getElem?_drop,List.getElem?_map,List.getElem?_range hj,Option.map_some,Array.getElem?_toList] at h2
  exact h2
 refine ⟨?_,cell⟩;have h0:=cell 0 0 (by decide) (by decide)
 apply Nat.pos_of_ne_zero
 intro hz;have : W.heap[0]? = none:=Array.getElem?_eq_none (by omega)
 simp [World.cell?,this] at h0
end Go.Proofs.YtgncpcfncojgoaaGreatDoor
namespace Go.Proofs.YtgncpcfncojgoaaGreatDoor
open Go.RowKit Go.Maps
open Classical
theorem patience_came9 (c : Cg) (s : Sta) (W : World) (h : s.Came W) (hT : Tab W) :
  Calls Tryz.prog 11 #[.agg #[.int .i64 c.F,.int .i64 c.R,.int .i64 c.P,.bool c.u],s.val] W fun e w' => e = .returned (.bool true)∧Below W.heap.size W w' :=
 patience9 c s W h.inn h.fit h.hb1 h.hb2 hT
end Go.Proofs.YtgncpcfncojgoaaGreatDoor
