import Derived.Test.YtpcgnjpodnebpaaGreatDoorG14
set_option maxRecDepth 100000
set_option linter.unusedVariables false
set_option linter.unusedSimpArgs false
set_option maxHeartbeats 8000000
namespace Go.Proofs.YtpcgnjpodnebpaaGreatDoor
open Go.RowKit Go.Maps Go.Shelf
open Classical
def rs9 (n self : Int) : Int → List Mk → Bool
 | _,[] => true
 | least,x :: r => !((decide (x.n < least) || decide (n ≤ x.n)) || decide (x.n = self)) && rs9 n self (x.n + 1) r
theorem Ak.ckl9 (c : Cg) (self : Int) : ∀ (L : List Ak) (least : Int),Ak.ckl c self least L = (rs9 (2 * c.F + 1) self least (L.map Ak.sm) && L.all fun x => Ak.mb x (2 * c.F + 1) c.R)
 | [],least => rfl
 | x :: r,least => by
  unfold Ak.ckl
  rw [Ak.ckl9 c self r (x.n + 1)];simp only [List.map_cons,rs9,List.all_cons,show (Ak.sm x).n = x.n from rfl]
  cases Ak.mb x (2 * c.F + 1) c.R <;> by_cases h1 : x.n < least <;> by_cases h2 : 2 * c.F + 1 ≤ x.n <;> by_cases h3 : x.n = self <;> simp [h1,h2,h3]
theorem Mk.ckl9 (c : Cg) (self : Int) : ∀ (L : List Mk) (least : Int),Mk.ckl c self least L = (rs9 (2 * c.F + 1) self least (L.map Mk.sm) && L.all fun x => Mk.mb x (2 * c.F + 1) c.R)
 | [],least => rfl
 | x :: r,least => by
  unfold Mk.ckl
  rw [Mk.ckl9 c self r (x.n + 1)];simp only [List.map_cons,rs9,List.all_cons,show (Mk.sm x).n = x.n from rfl]
  cases Mk.mb x (2 * c.F + 1) c.R <;> by_cases h1 : x.n < least <;> by_cases h2 : 2 * c.F + 1 ≤ x.n <;> by_cases h3 : x.n = self <;> simp [h1,h2,h3]
theorem Bl.ckl9 (c : Cg) (self : Int) : ∀ (L : List Bl) (least : Int),Bl.ckl c self least L = (rs9 (2 * c.F + 1) self least (L.map Bl.sm) && L.all fun x => Bl.mb x (2 * c.F + 1) c.R)
 | [],least => rfl
 | x :: r,least => by
  unfold Bl.ckl
  rw [Bl.ckl9 c self r (x.n + 1)];simp only [List.map_cons,rs9,List.all_cons,show (Bl.sm x).n = x.n from rfl]
  cases Bl.mb x (2 * c.F + 1) c.R <;> by_cases h1 : x.n < least <;> by_cases h2 : 2 * c.F + 1 ≤ x.n <;> by_cases h3 : x.n = self <;> simp [h1,h2,h3]
theorem An.ckl9 (c : Cg) (self : Int) : ∀ (L : List An) (least : Int),An.ckl c self least L = (rs9 (2 * c.F + 1) self least (L.map An.sm) && L.all fun x => An.mb x (2 * c.F + 1) c.R)
 | [],least => rfl
 | x :: r,least => by
  unfold An.ckl
  rw [An.ckl9 c self r (x.n + 1)];simp only [List.map_cons,rs9,List.all_cons,show (An.sm x).n = x.n from rfl]
  cases An.mb x (2 * c.F + 1) c.R <;> by_cases h1 : x.n < least <;> by_cases h2 : 2 * c.F + 1 ≤ x.n <;> by_cases h3 : x.n = self <;> simp [h1,h2,h3]
theorem rs9_iff (n self : Int) : ∀ (X : List Mk) (least : Int),rs9 n self least X = true ↔ ∀ i,i < X.length → (X.getD i z3m).n < n∧(X.getD i z3m).n ≠ self∧least ≤ (X.getD i z3m).n∧(0 < i → (X.getD (i - 1) z3m).n < (X.getD i z3m).n)
 | [],least => by simp [rs9]
 | x :: r,least => by
  have ih:=rs9_iff n self r (x.n + 1);simp only [rs9,Bool.and_eq_true,Bool.not_eq_true',Bool.or_eq_false_iff,decide_eq_false_iff_not,ih]
  constructor
  ·rintro ⟨⟨⟨h1,h2⟩,h3⟩,h4⟩ i hi
   cases i with
   | zero => exact ⟨by simp;omega,by simpa using h3,by simp;omega,fun h => by omega⟩
   | succ k =>
    have hk:=h4 k (by simp at hi;omega);refine ⟨by simpa using hk.1,by simpa using hk.2.1,by simp only [List.getD_cons_succ];omega,fun _ => ?_⟩
    cases k with
    | zero => simp only [List.getD_cons_succ,Nat.zero_add,Nat.sub_self,List.getD_cons_zero];omega
    | succ j => simpa using hk.2.2.2 (by omega)
  ·intro h
   have h0:=h 0 (by simp)
   simp at h0
   have up : ∀ i,i < r.length → x.n < (r.getD i z3m).n:=by
    intro i
    induction i with
    | zero =>
     intro hi;have:=(h 1 (by simp;omega)).2.2.2 (by omega)
     simpa using this
    | succ k ihk =>
     intro hi;have:=(h (k + 2) (by simp;omega)).2.2.2 (by omega)
     have e1 : ((x :: r).getD (k + 2 - 1) z3m).n = (r.getD k z3m).n:=by simp
     have e2 : ((x :: r).getD (k + 2) z3m).n = (r.getD (k + 1) z3m).n:=by simp
     rw [e1,e2] at this;have:=ihk (by omega)
     omega
   refine ⟨⟨⟨by omega,by omega⟩,h0.2.1⟩,fun i hi => ?_⟩;have hs:=h (i + 1) (by simp;omega);simp only [List.getD_cons_succ] at hs;refine ⟨hs.1,hs.2.1,by have:=up i hi;omega,fun h0i => ?_⟩;have:=hs.2.2.2 (by omega)
   cases i with
   | zero => omega
   | succ j => simpa using this
theorem rv9_eq (s : Sta) (n : Int) (X : List Mk) : rv9 s n X = (rs9 n s.self 0 X && X.all (lv8 s.V)):=by
 rw [Bool.eq_iff_iff,Bool.and_eq_true,rs9_iff,List.all_eq_true]
 unfold rv9
 rw [List.all_eq_true];simp only [List.mem_range,vbad9,Bool.not_eq_true',Bool.or_eq_false_iff,Bool.and_eq_false_iff,decide_eq_false_iff_not,Bool.not_eq_false',decide_eq_true_eq,lv8]
 constructor
 ·intro h
  refine ⟨fun i hi => ?_,fun x hx => ?_⟩
  ·have:=h i hi
   exact ⟨by omega,by omega,by omega,fun h0 => by omega⟩
  ·obtain ⟨i,hi,rfl⟩:=List.mem_iff_getElem.1 hx
   have:=(h i hi).2;rw [show X.getD i z3m = X[i] from by simp [hi]] at this
   exact this
 ·rintro ⟨h,hl⟩ i hi
  have h1:=h i hi;have h2:=hl _ (List.getElem_mem hi);rw [show X[i] = X.getD i z3m from by simp [hi]] at h2;refine ⟨⟨⟨⟨by omega,by omega⟩,by omega⟩,?_⟩,h2⟩
  by_cases h0 : 0 < i
  ·right;have:=h1.2.2.2 h0;omega
  ·left;omega
theorem ix_any9 {α : Type} (p : α → Bool) (l : List α) : decide (0 ≤ ix p l) = l.any p:=by
 unfold ix
 cases h : l.findIdx? p with
 | none =>
  rw [List.findIdx?_eq_none_iff] at h;rw [List.any_eq_false.2 (fun x hx => by rw [h x hx];decide)]
  rfl
 | some i =>
  rw [List.findIdx?_eq_some_iff_getElem] at h;obtain ⟨hi,hp,_⟩:=h;rw [List.any_eq_true.2 ⟨l[i],List.getElem_mem hi,hp⟩]
  exact decide_eq_true (Int.natCast_nonneg i)
theorem okB_facts9 {c : Cg} (h : c.okB = true) : c.ok = true∧c.nd = 2 * c.F + 1∧1 ≤ c.F∧c.F ≤ 3∧1 ≤ c.R∧c.R ≤ 256∧6 ≤ c.P∧c.P ≤ 100:=by
 have h2:=h;simp only [Cg.okB,Bool.and_eq_true,inB_iff] at h2
 exact ⟨decide_eq_true ⟨by omega,by omega,by omega,by omega⟩,by simp [Cg.nd,h],by omega,by omega,by omega,by omega,by omega,by omega⟩
def Sta.rsB (s : Sta) (n : Int) : Bool:=((rs9 n s.self 0 (s.A.map Ak.sm) && rs9 n s.self 0 (s.M.map Mk.sm)) && rs9 n s.self 0 (s.B.map Bl.sm)) && rs9 n s.self 0 (s.N.map An.sm)
def Sta.mbB (s : Sta) (c : Cg) : Bool:=(s.A.all (fun x => Ak.mb x c.nd c.R) && s.B.all fun x => Bl.mb x c.nd c.R) && s.N.all fun x => An.mb x c.nd c.R
theorem votB9 {c : Cg} (s : Sta) (h : c.okB = true) : s.votB c = (s.rsB c.nd && s.mbB c):=by
 obtain ⟨h1,h2,_⟩:=okB_facts9 h
 unfold Sta.votB Sta.rsB Sta.mbB Ak.ck Mk.ck Bl.ck An.ck
 rw [h1,Ak.ckl9,Mk.ckl9,Bl.ckl9,An.ckl9,← h2];have hm : (s.M.all fun x => Mk.mb x c.nd c.R) = true:=List.all_eq_true.2 (fun x hx => rfl);rw [hm]
 generalize rs9 c.nd s.self 0 (s.A.map Ak.sm) = a
 generalize rs9 c.nd s.self 0 (s.M.map Mk.sm) = b
 generalize rs9 c.nd s.self 0 (s.B.map Bl.sm) = d
 generalize rs9 c.nd s.self 0 (s.N.map An.sm) = e
 generalize (s.A.all fun x => Ak.mb x c.nd c.R) = p
 generalize (s.B.all fun x => Bl.mb x c.nd c.R) = q
 generalize (s.N.all fun x => An.mb x c.nd c.R) = r
 revert a b d e p q r
 decide
theorem vtB9_eq (s : Sta) (n : Int) : s.vtB9 n = (s.rsB n && s.livB):=by
 unfold Sta.vtB9 Sta.rsB Sta.livB Sta.vs
 rw [rv9_eq,rv9_eq,rv9_eq,rv9_eq];simp only []
 generalize rs9 n s.self 0 (s.A.map Ak.sm) = a
 generalize rs9 n s.self 0 (s.M.map Mk.sm) = b
 generalize rs9 n s.self 0 (s.B.map Bl.sm) = d
 generalize rs9 n s.self 0 (s.N.map An.sm) = e
 generalize (s.A.map Ak.sm).all (lv8 s.V) = p
 generalize (s.M.map Mk.sm).all (lv8 s.V) = q
 generalize (s.B.map Bl.sm).all (lv8 s.V) = r
 generalize (s.N.map An.sm).all (lv8 s.V) = t
 revert a b d e p q r t
 decide
theorem lgB9_lmb {c : Cg} (h : c.okB = true) (L : List En) (x : Int) : lgB9 c L x = lmb L x c.R:=by
 obtain ⟨_,_,_,_,h3,h4,_⟩:=okB_facts9 h
 unfold lgB9 lmb
 rw [chk_lg h3 h4];rw [Bool.eq_iff_iff];simp only [Bool.and_eq_true,decide_eq_true_eq,and_assoc]
theorem mh9_eq {c : Cg} (s : Sta) (h : c.okB = true) : s.mh9 c = !((s.numB c && s.rsB c.nd) && s.livB):=by
 obtain ⟨_,_,_,_,h3,h4,_⟩:=okB_facts9 h
 unfold Sta.mh9
 rw [lgB9_lmb h,vtB9_eq];rw [Bool.eq_iff_iff];simp only [Sta.numB,lmb,inB,Bool.or_eq_true,Bool.not_eq_true',Bool.and_eq_false_iff,decide_eq_true_eq,decide_eq_false_iff_not]
 have hv : ((if (s.V.length : Int) = c.nd then (0 : Int) else 30) = 0) ↔ (s.V.length : Int) = c.nd:=by
  by_cases hh : (s.V.length : Int) = c.nd
  ·rw [if_pos hh];simp [hh]
  ·rw [if_neg hh];simp [hh]
 rw [hv]
 by_cases a : s.rsB c.nd = false <;> by_cases b : s.livB = false <;> by_cases d : (chk s.L c.R).1 = 0 <;> simp [a,b,d] <;> omega
theorem pr_view9 {c : Cg} {s : Sta} (h : c.okB = true) (hn : s.numB c = true) : c.pr s.view = s.view % c.nd:=by
 simp only [Sta.numB,Bool.and_eq_true] at hn
 unfold Cg.pr
 rw [h,hn.1.1.1.2]
 rfl
theorem numB_facts9 {c : Cg} {s : Sta} (h : c.okB = true) (hn : s.numB c = true) : 0 ≤ s.view∧s.view ≤ 4294967296∧0 ≤ s.last∧s.last ≤ s.view∧0 ≤ s.commit∧s.commit ≤ (s.L.length : Int)∧0 ≤ s.idle∧(s.L.length : Int) ≤ c.R:=by
 obtain ⟨_,_,_,_,h3,h4,_⟩:=okB_facts9 h;simp only [Sta.numB,Bool.and_eq_true,inB_iff,decide_eq_true_eq] at hn;have hl:=hn.1.1.1.1.1.1;rw [chk_lg h3 h4] at hl
 unfold lg at hl
 have : ¬ c.R < (s.L.length : Int):=fun hc => by rw [if_pos hc] at hl;cases hl
 have hv:=hn.1.1.1.2;have h5:=hn.1.1.2;have h6:=hn.1.2;have h7:=hn.2
 exact ⟨by omega,by omega,by omega,by omega,by omega,by omega,by omega,by omega⟩
theorem nil_of9 {α : Type} {l : List α} (h : ((l.length : Nat) : Int) ≤ 0) : l = []:=List.eq_nil_of_length_eq_zero (by omega)
theorem nor9 {c : Cg} {s : Sta} (h : c.okB = true) (hn : s.numB c = true) : (s.mbB c && s.norB c) = (bif s.mn9 c then false else !(s.A.any (rkb9 s))):=by
 obtain ⟨v0,v1,l0,l1,c0,c1,i0,lr⟩:=numB_facts9 h hn
 unfold Sta.norB Sta.mn9
 rw [pr_view9 h hn]
 have hp : ∀ x : Ak,(!inB x.p 1 (s.L.length : Int)) = rkb9 s x:=fun x => by
  unfold rkb9 inB
  rw [Bool.eq_iff_iff];simp only [Bool.not_eq_true',Bool.and_eq_false_iff,Bool.or_eq_true,decide_eq_true_eq,decide_eq_false_iff_not]
  omega
 rw [show (fun a : Ak => !inB a.p 1 (s.L.length : Int)) = rkb9 s from funext hp,ix_any9]
 by_cases e1 : s.last = s.view
 ·by_cases e2 : 0 < (((s.M.length : Int) + (s.B.length : Int)) + (s.N.length : Int))
  ·simp [e1,e2]
  ·have hB : s.B = []:=nil_of9 (by omega)
   have hN : s.N = []:=nil_of9 (by omega)
   unfold Sta.mbB
   by_cases e3 : s.self = s.view % c.nd
   ·by_cases e4 : s.idle = 0
    ·cases e5 : s.A.any (rkb9 s) with
     | true => simp [e1,e2,e3,e4]
     | false =>
      have hm : (s.A.all fun x => Ak.mb x c.nd c.R) = true:=by
       rw [List.all_eq_true];intro x hx;have:=List.any_eq_false.1 e5 x hx;simp only [rkb9,Bool.or_eq_true,decide_eq_true_eq,not_or] at this
       exact decide_eq_true ⟨by omega,by omega⟩
      rw [hm,hB,hN];rw [hB,hN] at e2
      simp [e1,e3,e4]
    ·simp [e1,e2,e3,e4]
   ·by_cases e4 : s.A = []
    ·rw [hB,hN,e4]
     rw [hB,hN] at e2
     simp [e1,e3]
    ·have e5 : 0 < (s.A.length : Int):=by have:=List.length_pos_iff.2 e4;omega
     have e6 : ¬ (s.A.length : Int) = 0:=by omega
     simp [e1,e2,e3,e5,e6,e4]
 ·simp [e1]
theorem chg9 {c : Cg} {s : Sta} (h : c.okB = true) (hn : s.numB c = true) : (s.mbB c && s.chgB c) = (bif s.mc9 c then false else !(s.B.any (rbb9 c s))):=by
 obtain ⟨v0,v1,l0,l1,c0,c1,i0,lr⟩:=numB_facts9 h hn;obtain ⟨_,_,f1,f3,_⟩:=okB_facts9 h
 unfold Sta.chgB Sta.mc9
 rw [pr_view9 h hn,ix_any9]
 by_cases e1 : s.last = s.view
 ·simp [e1]
 ·by_cases e2 : 0 < ((s.A.length : Int) + (s.N.length : Int))
  ·simp [e1,e2]
  ·have hA : s.A = []:=nil_of9 (by omega)
   have hN : s.N = []:=nil_of9 (by omega)
   unfold Sta.mbB
   have hAN : ¬ 0 < (([] : List Ak).length : Int) + (([] : List An).length : Int):=by simp
   by_cases e3 : s.self = s.view % c.nd
   ·by_cases e4 : (s.B.length : Int) < c.F
    ·have e5 : ¬ c.F ≤ (s.B.length : Int):=by omega
     have hm : ((s.B.all fun x => Bl.mb x c.nd c.R) && !(s.B.any fun b => decide (s.view ≤ b.v))) = !(s.B.any (rbb9 c s)):=by
      rw [Bool.eq_iff_iff];simp only [Bool.and_eq_true,Bool.not_eq_true',List.all_eq_true,List.any_eq_false]
      constructor
      ·rintro ⟨p1,p2⟩ x hx
       have q1:=p1 x hx;have q2:=p2 x hx;simp only [Bl.mb,vmb,Bool.and_eq_true,decide_eq_true_eq] at q1;simp only [decide_eq_true_eq] at q2;simp only [rbb9,lgB9_lmb h,q1.2,Bool.or_eq_true,decide_eq_true_eq,Bool.not_true,Bool.false_eq_true,or_false]
       omega
      ·intro p
       refine ⟨fun x hx => ?_,fun x hx => ?_⟩
       ·have q:=p x hx
        simp only [rbb9,lgB9_lmb h,Bool.or_eq_true,decide_eq_true_eq,Bool.not_eq_true',not_or,Bool.not_eq_false] at q;simp only [Bl.mb,vmb,Bool.and_eq_true,decide_eq_true_eq]
        exact ⟨⟨by omega,by omega⟩,q.2⟩
       ·have q:=p x hx
        simp only [rbb9,Bool.or_eq_true,decide_eq_true_eq,not_or] at q;simp only [decide_eq_true_eq]
        exact q.1.2
     rw [← hm,hA,hN]
     simp [e1,e3,e4,e5]
    ·have e5 : c.F ≤ (s.B.length : Int):=by omega
     simp [e1,e2,e3,e4,e5]
   ·by_cases e4 : s.B = []
    ·rw [hA,hN,e4]
     have e5 : ¬ c.F ≤ 0:=by omega
     simp [e1,e3,e5]
    ·have e5 : 0 < (s.B.length : Int):=by have:=List.length_pos_iff.2 e4;omega
     have e6 : ¬ (s.B.length : Int) = 0:=by omega
     simp [e1,e2,e3,e5,e6,e4]
theorem rec9 {c : Cg} {s : Sta} (h : c.okB = true) (hn : s.numB c = true) : (s.mbB c && s.recB) = s.rc9 c c.nd:=by
 obtain ⟨v0,v1,l0,l1,c0,c1,i0,lr⟩:=numB_facts9 h hn;obtain ⟨_,hd,f1,f3,_⟩:=okB_facts9 h
 unfold Sta.recB Sta.rc9
 by_cases e0 : s.V.getD s.self.toNat (0,0) = (0,0)
 ·simp only [e0];simp
 ·by_cases e1 : s.view = 0∧s.idle = 0∧(((s.L.length : Int) + (s.A.length : Int)) + (s.M.length : Int)) + (s.B.length : Int) = 0
  ·obtain ⟨e1,e2,e3⟩:=e1
   have e4 : ¬ 0 < (((((((s.view + s.last) + s.commit) + s.idle) + (s.L.length : Int)) + (s.A.length : Int)) + (s.M.length : Int)) + (s.B.length : Int)):=by omega
   have hA : s.A = []:=nil_of9 (by omega);have hB : s.B = []:=nil_of9 (by omega);rw [decide_eq_true e1,decide_eq_true e2,decide_eq_true e3,decide_eq_false e4,decide_eq_false e0]
   unfold Sta.mbB
   rw [hA,hB];simp only [List.all_nil,Bool.true_and,Bool.and_true,Bool.not_false,Bool.or_false,cond_false];rw [Bool.eq_iff_iff];simp only [List.all_eq_true,Bool.not_eq_true',List.any_eq_false]
   have hh : ∀ x : An,An.mb x c.nd c.R = true ↔ ¬ rab9 c c.nd x = true:=by
    intro x;simp only [An.mb,rab9,vmb,lgB9_lmb h,Bool.and_eq_true,Bool.or_eq_true,decide_eq_true_eq,Bool.not_eq_true',decide_eq_false_iff_not]
    have hD : x.s.D = [] ↔ ¬ 0 < (x.s.D.length : Int):=by
     constructor
     ·intro e;rw [e];simp
     ·intro e;exact nil_of9 (by omega)
    rw [hD]
    generalize lmb x.s.D x.c c.R = q
    by_cases ha : x.n = x.v % c.nd <;> by_cases hb : 0 < (x.s.D.length : Int) <;> cases q <;> simp only [ha,hb,not_true,not_false_iff,Bool.false_eq_true,Bool.true_eq_false,and_true,true_and,and_false,false_and,or_true,true_or,or_false,false_or,true_iff,false_iff,iff_true,iff_false,not_or] <;> omega
   exact ⟨fun p x hx => (hh x).1 (p x hx),fun p x hx => (hh x).2 (p x hx)⟩
  ·have e4 : 0 < (((((((s.view + s.last) + s.commit) + s.idle) + (s.L.length : Int)) + (s.A.length : Int)) + (s.M.length : Int)) + (s.B.length : Int)):=by omega
   rw [decide_eq_true e4];simp only [Bool.true_or,cond_true];rw [Bool.eq_false_iff];intro hc;simp only [Bool.and_eq_true,decide_eq_true_eq] at hc
   exact e1 ⟨hc.2.1.1.1,hc.2.1.1.2,hc.2.1.2⟩
theorem rk9_ckE (s : Sta) (c : Cg) : s.rk9 c = s.ckE c:=by
 unfold Sta.rk9 Sta.ckE
 cases h : c.okB with
 | false => rfl
 | true =>
  have : s.mayB9 c = s.stB c:=by
   unfold Sta.mayB9 Sta.stB Sta.kpB
   rw [votB9 s h,mh9_eq s h]
   cases hn : s.numB c with
   | false => simp
   | true =>
    cases hr : s.rsB c.nd with
    | false => simp
    | true =>
     cases hl : s.livB with
     | false => simp
     | true =>
      simp only [Bool.true_and,Bool.and_true,Bool.not_true,cond_false]
      by_cases t1 : s.st = 1
      ·rw [decide_eq_true t1]
       exact (nor9 h hn).symm
      ·rw [decide_eq_false t1]
       by_cases t2 : s.st = 2
       ·rw [decide_eq_true t2]
        exact (chg9 h hn).symm
       ·rw [decide_eq_false t2]
        by_cases t3 : s.st = 3
        ·rw [decide_eq_true t3]
         exact (rec9 h hn).symm
        ·rw [decide_eq_false t3]
         simp
  rw [this]
theorem maps9 {α β : Type} (R : α → α → Prop) (p : α → β) (hp : ∀ x y,R x y → p y = p x) : ∀ (L M : List α),M.length = L.length → (∀ (i : Nat) (x y : α),L[i]? = some x → M[i]? = some y → R x y) → M.map p = L.map p
 | [],M,hl,h => by rw [List.eq_nil_of_length_eq_zero hl]
 | x :: L,[],hl,h => by simp at hl
 | x :: L,y :: M,hl,h => by
  rw [List.map_cons,List.map_cons,hp x y (h 0 x y rfl rfl),maps9 R p hp L M (by simpa using hl) (fun i a b ha hb => h (i + 1) a b ha hb)]
theorem all_map9 {α : Type} (p : α → Bool) (L : List α) : L.all p = (L.map p).all id:=by rw [List.all_map];rfl
theorem any_map9 {α : Type} (p : α → Bool) (L : List α) : L.any p = (L.map p).any id:=by rw [List.any_map];rfl
theorem Bl.Like.symm {x y : Bl} (h : Bl.Like x y) : Bl.Like y x:=⟨h.1.symm,h.2.1.symm,h.2.2.1.symm,h.2.2.2.1.symm,h.2.2.2.2.1.symm,h.2.2.2.2.2.symm⟩
theorem An.Like.symm {x y : An} (h : An.Like x y) : An.Like y x:=⟨h.1.symm,h.2.1.symm,h.2.2.1.symm,h.2.2.2.1.symm,h.2.2.2.2.1.symm,h.2.2.2.2.2.symm⟩
theorem Sta.Alike9.symm {s t : Sta} (h : s.Alike9 t) : t.Alike9 s:=⟨h.self.symm,h.st.symm,h.view.symm,h.last.symm,h.commit.symm,h.idle.symm,h.l.symm,h.v.symm,h.a.symm,h.m.symm,⟨h.b.1.symm,fun i x y hx hy => (h.b.2 i y x hy hx).symm⟩,⟨h.n.1.symm,fun i x y hx hy => (h.n.2 i y x hy hx).symm⟩⟩
theorem ckE_alike9 {s t : Sta} (h : s.Alike9 t) (c : Cg) : t.ckE c = s.ckE c:=by
 unfold Sta.ckE
 cases hok : c.okB with
 | false => rfl
 | true =>
  have hs : t.stB c = s.stB c:=by
   have b1 : t.B.map Bl.sm = s.B.map Bl.sm:=maps9 Bl.Like Bl.sm (fun x y k => by show (⟨y.n,y.h,y.l⟩ : Mk) = ⟨x.n,x.h,x.l⟩;rw [k.1,k.2.1,k.2.2.1]) _ _ h.b.1 h.b.2;have n1 : t.N.map An.sm = s.N.map An.sm:=maps9 An.Like An.sm (fun x y k => by show (⟨y.n,y.h,y.l⟩ : Mk) = ⟨x.n,x.h,x.l⟩;rw [k.1,k.2.1,k.2.2.1]) _ _ h.n.1 h.n.2
   have b2 : (t.B.all fun x => Bl.mb x c.nd c.R) = (s.B.all fun x => Bl.mb x c.nd c.R):=by
    refine (all_map9 _ _).trans (Eq.trans ?_ (all_map9 _ _).symm)
    exact congrArg (fun l => l.all id) (maps9 Bl.Like (fun x => Bl.mb x c.nd c.R) (fun x y k => by unfold Bl.mb;rw [k.2.2.2.1,k.2.2.2.2.1,k.2.2.2.2.2]) _ _ h.b.1 h.b.2)
   have n2 : (t.N.all fun x => An.mb x c.nd c.R) = (s.N.all fun x => An.mb x c.nd c.R):=by
    refine (all_map9 _ _).trans (Eq.trans ?_ (all_map9 _ _).symm)
    exact congrArg (fun l => l.all id) (maps9 An.Like (fun x => An.mb x c.nd c.R) (fun x y k => by unfold An.mb;rw [k.1,k.2.2.2.1,k.2.2.2.2.1,k.2.2.2.2.2]) _ _ h.n.1 h.n.2)
   have b3 : (t.B.any fun b => decide (s.view ≤ b.v)) = (s.B.any fun b => decide (s.view ≤ b.v)):=by
    refine (any_map9 _ _).trans (Eq.trans ?_ (any_map9 _ _).symm)
    exact congrArg (fun l => l.any id) (maps9 Bl.Like (fun b => decide (s.view ≤ b.v)) (fun x y k => by rw [k.2.2.2.1]) _ _ h.b.1 h.b.2)
   have e1 : t.numB c = s.numB c:=by unfold Sta.numB;rw [h.self,h.view,h.last,h.commit,h.idle,h.l,h.v]
   have e2 : t.rsB c.nd = s.rsB c.nd:=by unfold Sta.rsB;rw [h.self,h.a,h.m,b1,n1]
   have e3 : t.mbB c = s.mbB c:=by unfold Sta.mbB;rw [h.a,b2,n2]
   have e4 : t.livB = s.livB:=by
    unfold Sta.livB Sta.vs
    simp only [];rw [h.v,h.a,h.m,b1,n1]
   have e5 : t.kpB c = s.kpB c:=by
    unfold Sta.kpB Sta.norB Sta.chgB Sta.recB
    rw [h.st,h.last,h.view,h.self,h.idle,h.l,h.v,h.a,h.m,h.b.1,h.n.1,ix_any9,ix_any9,ix_any9,b3]
   unfold Sta.stB
   rw [votB9 t hok,votB9 s hok,e1,e2,e3,e4,e5]
  rw [hs]
theorem ovr_not9 {D : List (Int × Int)} {x : Mk} (h : lv8 D x = true) : ovr D x.n x.h x.l = false:=by
 unfold lv8 at h
 have e:=of_decide_eq_true h
 unfold ovr
 rw [← e]
 have : ¬ cmpD x.h x.l x.h x.l < 0:=by simp [cmpD,cmpI]
 rw [decide_eq_false this,Bool.and_false]
theorem Sta.Cp.alike {t : Sta} {B : Nat} {s : Sta} {w : World} (h : t.Cp B s w) : s.Alike9 t:=⟨h.self,h.st,h.view,h.last,h.commit,h.idle,h.l,h.v,h.a,h.m,⟨h.b.1,fun i x y hx hy => (h.b.2 i x y hx hy).1⟩,⟨h.n.1,fun i x y hx hy => (h.n.2 i x y hx hy).1⟩⟩
theorem v_cut9 {c : Code} {Q : Exit → Act → World → Prop} {T : Array Value} {w : World} (J : Array Value → World → Prop) (h : c.wp Tryz.prog (Exit.then (fun a w' => ∃ T',a = ⟨T',[]⟩∧J T' w') Q) ⟨T,[]⟩ w) (hk : ∀ T' w',J T' w' → Q .normal ⟨T',[]⟩ w') : c.wp Tryz.prog Q ⟨T,[]⟩ w:=by
 refine Code.wp_mono (fun e a' w' h => ?_) h
 cases e with
 | normal =>
  obtain ⟨T',rfl,hJ⟩:=h
  exact hk T' w' hJ
 | _ => exact h
theorem vh_two9 {ops : Array Oper} {o o2 : Oper} {T : Array Value} {df : List Deferred} {w : World} {Q : Exit → Act → World → Prop} {S : World → Prop} {fuel d d2 n : Nat} {listed : Array Bool} (i j : Nat) {fid : FuncId} {args : Array Value} {R : Ending → World → Prop} (hr : Region.ready .any ops listed = [i,j]) (hi : ops[i]? = some o) (hj : ops[j]? = some o2)
  (hw : Region.wanted o (yielded ops T) = true) (he : (execOp (⟨T,df⟩ : Act).eval o).run Tryz.prog w = .ok (.enter fid args) w) (hc : Calls Tryz.prog fid args w R) (hd : o.dst = some d) (hz : T.size = n) (hn : d < n)
  (hk : ∀ (e : Ending) (w' : World),R e w' → ∃ V,e = .returned V∧S w'∧∀ T' : Array Value,T'.size = n → (∀ j,j ≠ d → T'[j]? = T[j]?) → T'[d]? = some (gw true V) → VH ops Q S fuel (listed.setIfInBounds i true) ⟨T',df⟩ w')
  (V : Value) (w2 : World) (hw2 : Region.wanted o2 (yielded ops T) = true) (he2 : (execOp (⟨T,df⟩ : Act).eval o2).run Tryz.prog w = .ok (.value V) w2) (hd2 : o2.dst = some d2) (hn2 : d2 < n) (hS2 : S w2)
  (hk2 : ∀ T' : Array Value,T'.size = n → (∀ j,j ≠ d2 → T'[j]? = T[j]?) → T'[d2]? = some (gw true V) → VH ops Q S fuel (listed.setIfInBounds j true) ⟨T',df⟩ w2) : VH ops Q S (fuel + 1) listed ⟨T,df⟩ w:=by
 refine ⟨wpAnyH_all hr (by simp) (fun k hkm => ?_)⟩
 have hkm : k = i ∨ k = j:=by simpa using hkm
 rcases hkm with rfl | rfl
 ·unfold wpOp
  rw [hi];simp only [hw,if_true];refine .inl ?_
  unfold Oper.wp
  rw [he,Oper.upon_enter];refine hc.mono ?_;intro e w' hR;obtain ⟨V,rfl,hS,hk'⟩:=hk e w' hR;refine ⟨hS,?_⟩;rw [hd]
  exact (hk' (T.setIfInBounds d V) (by simp [hz]) (fun i hi => at_set_ne _ hi) (at_set _ (by omega))).out
 ·unfold wpOp
  rw [hj];simp only [hw2,if_true];refine .inl ?_
  unfold Oper.wp
  rw [he2,Oper.upon_value];refine ⟨hS2,?_⟩;rw [hd2]
  exact (hk2 (T.setIfInBounds d2 V) (by simp [hz]) (fun i hi => at_set_ne _ hi) (at_set _ (by omega))).out
theorem num9 (x : Int) (w : World)  : Calls Tryz.prog 5 #[.int .i64 x] w fun e w' => e = .returned (.int .i64 x)∧Below w.heap.size w w':=by
 go_enter Tryz.func5,Tryz.ntmps5
 go_upto_region 0 with fail
 refine WL ?_;refine vl_gen (fun T => T.size = 4∧T[0]? = some (gw true (.int .i64 x))) ⟨rfl,rfl⟩ (fun Z0 ⟨hz,s0⟩ => ?_);have hB : Below w.heap.size w w:=BR;have hv0 : Below w.heap.size w w:=BR;refine vt (.int .i64 0) (ex_assign rfl rfl) hz (fun Ya zz kk s2 => ?_);replace s0:=ku s0;replace hz:=zz;clear kk zz;refine WE ?_
 go_upto_region 1 with fail
 refine WL ?_;refine vt _ (ex_move rfl (ev s0 rfl)) hz (fun Yb zz kk s3 => ?_);replace s2:=ku s2;replace hz:=zz;clear kk zz s0;refine vt _ (ex_assign rfl (ev s3 rfl)) hz (fun Yc zz kk s2x => ?_);clear kk hz s3 s2;have hz:=zz;have s2:=s2x;clear zz s2x Yb;refine WE ?_
 go_wp2
 refine bodyPost_ret (results_tmp rfl _ _ _) rfl ⟨?_,hB.trans (hv0.mono (by omega))⟩;rw [getD_of s2]
 rfl
structure Ms9 where
 m : Mg
 la : Option Addr
 lc : Nat
 L : List En
 va : Option Addr
 vc : Nat
 V : List (Int × Int)
def Ms9.val (x : Ms9) : Value:=x.m.val (.slice x.la x.L.length x.lc) (.slice x.va x.V.length x.vc)
def Ms9.cs (x : Ms9) : List Value:=x.m.cs (.slice x.la x.L.length x.lc) (.slice x.va x.V.length x.vc)
structure Ms9.In (w : World) (x : Ms9) : Prop where
 l : SlY yE w x.la x.L.length x.lc x.L
 v : SlY yD w x.va x.V.length x.vc x.V
structure Ms9.Fit (x : Ms9) : Prop where
 le : ∀ e ∈ x.L,e.fits
 ee : x.m.e.fits
 ll : x.L.length * 48 ≤ 140737488351232
 vl : x.V.length * 16 ≤ 140737488351232
theorem Ms9.In.later {w w' : World} {x : Ms9} (h : x.In w) (hb : Below w.heap.size w w') : x.In w':=⟨h.l.later hb,h.v.later hb⟩
abbrev MB9 (w : World) (q : Nat) (x : Ms9) : Prop:=BX7 w q x.cs
theorem bxM9 (x : Ms9) (w : World) : (Instr.box 54 x.val).run Tryz.prog w = .ok (.pointer (some ⟨w.heap.size,0,none⟩)) (w.alloc (.cells x.cs.toArray 54)):=rfl
theorem MB9.ld {w : World} {q : Nat} {x : Ms9} (h : MB9 w q x) : (Instr.loadAt 54 (.pointer (some ⟨q,0,none⟩))).run Tryz.prog w = .ok x.val w :=
 run_loadAt_mid (P:=Tryz.prog) w q 0 54 x.cs _ (fun j v hv => by rw [Nat.zero_add];exact h.cell j v hv) Tryz.underlying54 rfl (by kernel_rfl)
theorem ldKd9 {w : World} {q i : Nat} {z : Int} (h : w.cell? ⟨q,i,none⟩ = some (.int .i64 z)) : (Instr.loadAt 43 (.pointer (some ⟨q,i,none⟩))).run Tryz.prog w = .ok (.int .i64 z) w:=by go_simp
theorem faM9_0 (q : Nat) (w : World) : (Instr.fieldAt 54 (.pointer (some ⟨q,0,none⟩)) 0).run Tryz.prog w = .ok (.pointer (some ⟨q,0,none⟩)) w:=by go_simp
theorem faM9_1 (q : Nat) (w : World) : (Instr.fieldAt 54 (.pointer (some ⟨q,0,none⟩)) 1).run Tryz.prog w = .ok (.pointer (some ⟨q,1,none⟩)) w:=by go_simp
theorem faM9_10 (q : Nat) (w : World) : (Instr.fieldAt 54 (.pointer (some ⟨q,0,none⟩)) 10).run Tryz.prog w = .ok (.pointer (some ⟨q,17,none⟩)) w:=by go_simp
def zV9 : Vo9:=⟨0,none,0,[]⟩
theorem alV9 (w : World) : (Instr.alloc 62 true (.tuple #[])).run Tryz.prog w = .ok (.pointer (some ⟨w.heap.size,0,none⟩)) (w.alloc (.cells zV9.cs.toArray 62)):=by
 go_simp
 first | done | rfl
theorem bdV9 (n : Int) (a : Option Addr) (k c : Nat) (w : World) : (Instr.build 62 #[(0,.int .i64 n),(1,.slice a k c)]).run Tryz.prog w = .ok (.agg #[.int .i64 n,.slice a k c]) w:=by
 go_simp
 first | done | rfl
theorem stV9 {w : World} {q : Nat} {x : Vo9} (h : VB9 w q x) (y : Vo9) : (Instr.storeAt 62 (.pointer (some ⟨q,0,none⟩)) y.val).run Tryz.prog w = .ok () (sets w q 0 y.cs):=by
 have:=run_storeAt_mid (P:=Tryz.prog) w q 0 62 y.cs.toArray (fun j hj => ⟨by rw [Nat.zero_add,h.cell j _ (List.getElem?_eq_getElem (show j < x.cs.length from hj))];rfl,by rw [Nat.zero_add];exact h.free j⟩) (by kernel_rfl) (by first | rfl | (simp [Vo9.cs];first | done | rfl | exact ⟨rfl,rfl⟩));rw [setCells_sets] at this
 exact this
theorem VB9.put {w : World} {q : Nat} {x : Vo9} (h : VB9 w q x) (y : Vo9) : VB9 (sets w q 0 y.cs) q y:=by
 have h1:=BX7.set h (j:=0) (by simp [Vo9.cs]) (.int .i64 y.n);have h2:=BX7.set h1 (j:=1) (by simp [Vo9.cs]) (.slice y.a y.D.length y.c)
 exact h2
theorem updV9 (w : World) (q : Nat) (y : Vo9) : Upd (fun k => k = q) w (sets w q 0 y.cs):=((Upd.refl (fun k => k = q) w).setCell (p:=⟨q,0,none⟩) (.inl rfl) _).setCell (p:=⟨q,1,none⟩) (.inl rfl) _
theorem vh_twoV9 {ops : Array Oper} {o o2 : Oper} {T : Array Value} {df : List Deferred} {w : World} {Q : Exit → Act → World → Prop} {S : World → Prop} {fuel d d2 n : Nat} {listed : Array Bool} (i j : Nat) (hr : Region.ready .any ops listed = [i,j]) (hi : ops[i]? = some o) (hj : ops[j]? = some o2)
  (V1 : Value) (w1 : World) (hw : Region.wanted o (yielded ops T) = true) (he : (execOp (⟨T,df⟩ : Act).eval o).run Tryz.prog w = .ok (.value V1) w1) (hd : o.dst = some d) (hz : T.size = n) (hn : d < n) (hS1 : S w1)
  (hk : ∀ T' : Array Value,T'.size = n → (∀ j,j ≠ d → T'[j]? = T[j]?) → T'[d]? = some (gw true V1) → VH ops Q S fuel (listed.setIfInBounds i true) ⟨T',df⟩ w1)
  (V : Value) (w2 : World) (hw2 : Region.wanted o2 (yielded ops T) = true) (he2 : (execOp (⟨T,df⟩ : Act).eval o2).run Tryz.prog w = .ok (.value V) w2) (hd2 : o2.dst = some d2) (hn2 : d2 < n) (hS2 : S w2)
  (hk2 : ∀ T' : Array Value,T'.size = n → (∀ j,j ≠ d2 → T'[j]? = T[j]?) → T'[d2]? = some (gw true V) → VH ops Q S fuel (listed.setIfInBounds j true) ⟨T',df⟩ w2) : VH ops Q S (fuel + 1) listed ⟨T,df⟩ w:=by
 refine ⟨wpAnyH_all hr (by simp) (fun k hkm => ?_)⟩
 have hkm : k = i ∨ k = j:=by simpa using hkm
 rcases hkm with rfl | rfl
 ·unfold wpOp
  rw [hi];simp only [hw,if_true];refine .inl ?_
  unfold Oper.wp
  rw [he,Oper.upon_value];refine ⟨hS1,?_⟩;rw [hd]
  exact (hk (T.setIfInBounds d V1) (by simp [hz]) (fun i hi => at_set_ne _ hi) (at_set _ (by omega))).out
 ·unfold wpOp
  rw [hj];simp only [hw2,if_true];refine .inl ?_
  unfold Oper.wp
  rw [he2,Oper.upon_value];refine ⟨hS2,?_⟩;rw [hd2]
  exact (hk2 (T.setIfInBounds d2 V) (by simp [hz]) (fun i hi => at_set_ne _ hi) (at_set _ (by omega))).out
theorem ex_bs2_9 {o : Oper} {ρ : Operand → Value} {s : TypeId} {x y : Operand} {X Y V : Value} {w w' : World} (ho : o.op = .buildSlice s 2 #[(0,x),(1,y)]) (hx : ρ x = X) (hy : ρ y = Y) (hr : (Instr.buildSlice s 2 #[(0,X),(1,Y)]).run Tryz.prog w = .ok V w') : (execOp ρ o).run Tryz.prog w = .ok (.value V) w':=by
 unfold execOp
 simp only [ho,LA,LB,LC,hx,hy,Sem.run_bind,hr,Result.andThen_ok]
 rfl
theorem bsVV9 (a b : Option Addr) {n m c k : Nat} (w : World) : (Instr.buildSlice 108 2 #[(0,.slice a n c),(1,.slice b m k)]).run Tryz.prog w = .ok (.slice (some ⟨w.heap.size,0,none⟩) 2 2) (w.alloc (.cells #[.slice a n c,.slice b m k] 27)):=by
 go_simp
 first | done | rfl
def mine9 (s : Sta) : Vo9:=⟨s.self,s.va,s.vc,s.V⟩
def thr9 (m : Ms9) : Vo9:=⟨m.m.nd,m.va,m.vc,m.V⟩
def hear9 (s : Sta) (m : Ms9) : Bool:=!ovB9 s.V (thr9 m) && !ovB9 m.V (mine9 s)
def Cg.cf (c : Cg) : Cf:=⟨c.F,c.R,c.P,c.u⟩
def adM9 (c : Cg) (m : Ms9) : Int:=ckM c.cf m.m m.L m.V
def adE9 (c : Cg) (s : Sta) (m : Ms9) : Int:=if s.ckE c = 0 then adM9 c m else s.ckE c
def adB9 (c : Cg) (s : Sta) (m : Ms9) : Bool:=!btB m.m.k || (!decide (m.m.nd = s.self) && (c.u || hear9 s m))
def adV9 (c : Cg) (s : Sta) (m : Ms9) : List (Int × Int):=if (btB m.m.k && (!decide (m.m.nd = s.self) && (!c.u && hear9 s m))) = true then jn9 s.V m.V else s.V
def Ad9 (B : Nat) (c : Cg) (s : Sta) (m : Ms9) (t : Sta) (b : Bool) (w : World) : Prop :=
 (adE9 c s m ≠ 0∧t = zS8∧b = false) ∨ (adE9 c s m = 0∧t.Kn B s (adV9 c s m) w∧t.Lo B∧b = adB9 c s m)
theorem mcheck9 (c : Cg) (m : Ms9) (w : World) (hT : Tab w) (hM : m.In w) (hF : m.Fit) : Calls Tryz.prog 25 #[c.val,m.val] w fun e w' => e = .returned (.int .i64 (adM9 c m))∧Below w.heap.size w w' :=
 checkM_any c.cf m.m m.la m.va m.lc m.vc m.L m.V w hT hM.l hF.le hM.v hF.ee
theorem between9 (x : Int) (w : World) (hT : Tab w) : Calls Tryz.prog 15 #[.int .i64 x] w fun e w' => e = .returned (.bool (btB x))∧Below w.heap.size w w' :=
 (between7 x w hT).mono fun e w' h => ⟨h.1,by rw [h.2];exact BR⟩
theorem tab_vec9 : ∀ k,k < 15 → 3 ≤ k → k ≤ 12 → tabA k 9 = 20:=by decide
theorem adlen9 {c : Cg} {s : Sta} {m : Ms9} (h1 : s.ckE c = 0) (h2 : adM9 c m = 0) (h3 : btB m.m.k = true) : (1 ≤ s.V.length∧s.V.length ≤ 7)∧m.V.length = s.V.length:=by
 have hok : c.okB = true:=by
  unfold Sta.ckE at h1
  cases e : c.okB with
  | true => rfl
  | false => rw [e] at h1;simp at h1
 obtain ⟨n1,n2,n3⟩:=Cg.nd_ok hok
 have hs : s.stB c = true:=by
  unfold Sta.ckE at h1
  rw [hok] at h1
  cases e : s.stB c with
  | true => rfl
  | false => rw [e] at h1;simp at h1
 simp only [Sta.stB,Bool.and_eq_true] at hs;have hn:=hs.1.1.1;simp only [Sta.numB,Bool.and_eq_true,decide_eq_true_eq] at hn
 have hv : (s.V.length : Int) = c.nd:=by
  have h:=hn.1.1.1.1.1.2
  by_cases e : (s.V.length : Int) = c.nd
  ·exact e
  ·rw [if_neg e] at h;omega
 have hk : 3 ≤ m.m.k∧m.m.k ≤ 12:=by simpa [btB] using h3
 unfold adM9 ckM at h2
 split at h2
 ·omega
 ·split at h2
  ·omega
  ·split at h2
   ·rename_i hall
    have h9:=List.all_eq_true.1 hall 9 (by simp);obtain ⟨k,hk'⟩:=Int.eq_ofNat_of_zero_le (show 0 ≤ m.m.k by omega)
    have ht : tabA m.m.k.toNat 9 = 20:=by rw [hk'];exact tab_vec9 k (by omega) (by omega) (by omega)
    rw [ht] at h9;have h8 : (m.V.length : Int) = 2 * c.F + 1:=of_decide_eq_true h9
    omega
   ·omega
theorem mayhear9 (s : Sta) (m : Ms9) (w : World) (hI : s.In w) (hM : m.In w) : Calls Tryz.prog 27 #[s.val,m.val] w fun e w' => e = .returned (.bool (hear9 s m))∧Below w.heap.size w w':=by
 go_enter Tryz.func27,Tryz.ntmps27
 go_upto_region 0 with fail
 refine WL ?_;refine vl_gen (fun T => T.size = 29∧T[0]? = some (gw true (s.val))∧T[1]? = some (gw true (m.val))) ⟨rfl,rfl,rfl⟩ (fun Z0 ⟨hz,s0,s1⟩ => ?_)
 obtain ⟨w1,hw1⟩ : ∃ y,y = w.alloc (.cells s.cs.toArray 33):=⟨_,rfl⟩
 have hb : Below w.heap.size w w1:=by rw [hw1];exact BR.alloc LR _
 have hs1 : w1.heap.size = w.heap.size + 1:=by rw [hw1];simp
 have HS : SB7 w1 (w.heap.size) s:=by rw [hw1];exact BX7.new _ _ _
 refine vw (.pointer (some ⟨w.heap.size,0,none⟩)) w1 WN (ex_box8 rfl (ev s0 rfl) (by rw [hw1];exact bxS7 _ _)) rfl hz (by decide) (fun Z1 zz kk s2x => ?_);replace s1:=ku s1;clear kk hz s0 hw1;have hz:=zz;have s2:=s2x;clear zz s2x;have hB:=hb;clear hb
 obtain ⟨w2,hw2⟩ : ∃ y,y = w1.alloc (.cells m.cs.toArray 54):=⟨_,rfl⟩
 have hb : Below w1.heap.size w1 w2:=by rw [hw2];exact BR.alloc LR _
 have hs2 : w2.heap.size = w.heap.size + 2:=by rw [hw2];simp;omega
 have HM : MB9 w2 (w.heap.size + 1) m:=by rw [hw2,← hs1];exact BX7.new _ _ _
 refine vw (.pointer (some ⟨w.heap.size + 1,0,none⟩)) w2 WN (ex_box8 rfl (ev s1 rfl) (by rw [hw2,← hs1];exact bxM9 _ _)) rfl hz (by decide) (fun Z2 zz kk s3x => ?_);replace s2:=ku s2;clear kk hz s1 hw2;have hz:=zz;have s3:=s3x;clear zz s3x;have hB:=hB.trans (hb.mono (by omega));have HS:=HS.bel hb;clear hb;have hv0 : Below w2.heap.size w2 w2:=BR;have Ya:=((Rp.nil hz).cons s2).cons s3;clear hz s2 s3
 refine Ya.t (.bool false) (ex_assign rfl rfl) fun _ Yb => ?_;clear Ya
 have hz:=Yb.z;have s2:=Yb.a 2 rfl;have s3:=Yb.a 3 rfl;clear Yb;refine WE ?_;have hb0 : Below w2.heap.size w2 w2.drew:=BR.drew;have hB:=hB.trans (hb0.mono (by omega))
 have hS : SB7 w2.drew (w.heap.size) s∧MB9 w2.drew (w.heap.size + 1) m:=⟨HS.bel hb0,HM.bel hb0⟩
 have hzd : w2.drew.heap.size = w.heap.size + 2:=hs2;clear hb0 HS HM hv0
 go_upto_region 1 with fail
 refine v_cut9 (fun T v => T.size = 29∧T[2]? = some (gw true (.pointer (some ⟨w.heap.size,0,none⟩)))∧T[3]? = some (gw true (.pointer (some ⟨w.heap.size + 1,0,none⟩)))∧∃ (q5 q6 : Nat),T[5]? = some (gw true (.pointer (some ⟨q5,0,none⟩)))∧T[6]? = some (gw true (.pointer (some ⟨q6,0,none⟩)))∧Hid (VB9 v q5 (mine9 s)∧VB9 v q6 (thr9 m)∧SB7 v (w.heap.size) s∧MB9 v (w.heap.size + 1) m∧Below w.heap.size w v)) ?_ ?_
 ·refine vh_start (fun v => SB7 v (w.heap.size) s∧MB9 v (w.heap.size + 1) m) (by kernel_rfl) ?_
  obtain ⟨wd,hwd⟩ : ∃ y,y = w2.drew:=⟨_,rfl⟩
  rw [← hwd] at hS hB hzd ⊢;clear hwd;refine vh_take 0 true (.pointer (some ⟨w.heap.size,0,none⟩)) rfl (by kernel_rfl) (by kernel_rfl) (by kernel_rfl) WN (fun hc v hv => ex_fa rfl (ev s2 rfl) (faS0 _ _)) rfl hz (by decide) hS (fun R1 zz kk s7 => ?_);replace s2:=ku s2;replace s3:=ku s3;replace hz:=zz;clear kk zz;refine vh_take 1 true (.int .i64 s.self) rfl (by kernel_rfl) (by kernel_rfl) (by kernel_rfl) WN (fun hc v hv => ex_ld rfl (ev s7 rfl) (ldI8 (hv.1.cell 0 _ rfl))) rfl hz (by decide) hS (fun R2 zz kk s8 => ?_);replace s2:=ku s2;replace s3:=ku s3;replace s7:=ku s7;replace hz:=zz;clear kk zz;refine vh_take 2 true (.pointer (some ⟨w.heap.size,6,none⟩)) rfl (by kernel_rfl) (by kernel_rfl) (by kernel_rfl) WN (fun hc v hv => ex_fa rfl (ev s2 rfl) (faS6 _ _)) rfl hz (by decide) hS (fun R3 zz kk s9 => ?_);replace s2:=ku s2;replace s3:=ku s3;replace s7:=ku s7;replace s8:=ku s8;replace hz:=zz;clear kk zz;refine vh_take 3 true (.slice s.va s.V.length s.vc) rfl (by kernel_rfl) (by kernel_rfl) (by kernel_rfl) WN (fun hc v hv => ex_ld rfl (ev s9 rfl) (ldV8 (hv.1.cell 6 _ rfl))) rfl hz (by decide) hS (fun R4 zz kk s10 => ?_);replace s2:=ku s2;replace s3:=ku s3;replace s7:=ku s7;replace s8:=ku s8;replace s9:=ku s9;replace hz:=zz;clear kk zz;refine vh_take 4 true (Vo9.val (mine9 s)) rfl (by kernel_rfl) (by kernel_rfl) (by kernel_rfl) WN (fun hc v hv => ex_buildP rfl (by simp only [LA,LB,LC,(ev s8 rfl),(ev s10 rfl)] <;> rfl) (bdV9 _ _ _ _ _)) rfl hz (by decide) hS (fun R5 zz kk s11 => ?_);replace s2:=ku s2;replace s3:=ku s3;replace s7:=ku s7;replace s8:=ku s8;replace s9:=ku s9;replace s10:=ku s10;replace hz:=zz;clear kk zz;refine vh_take 5 true (.pointer (some ⟨w.heap.size + 1,1,none⟩)) rfl (by kernel_rfl) (by kernel_rfl) (by kernel_rfl) WN (fun hc v hv => ex_fa rfl (ev s3 rfl) (faM9_1 _ _)) rfl hz (by decide) hS (fun R6 zz kk s12 => ?_);replace s2:=ku s2;replace s3:=ku s3;replace s7:=ku s7;replace s8:=ku s8;replace s9:=ku s9;replace s10:=ku s10;replace s11:=ku s11;replace hz:=zz;clear kk zz;refine vh_take 6 true (.int .i64 m.m.nd) rfl (by kernel_rfl) (by kernel_rfl) (by kernel_rfl) WN (fun hc v hv => ex_ld rfl (ev s12 rfl) (ldI8 (hv.2.cell 1 _ rfl))) rfl hz (by decide) hS (fun R7 zz kk s13 => ?_);replace s2:=ku s2;replace s3:=ku s3;replace s7:=ku s7;replace s8:=ku s8;replace s9:=ku s9;replace s10:=ku s10;replace s11:=ku s11;replace s12:=ku s12;replace hz:=zz;clear kk zz;refine vh_take 7 true (.pointer (some ⟨w.heap.size + 1,17,none⟩)) rfl (by kernel_rfl) (by kernel_rfl) (by kernel_rfl) WN (fun hc v hv => ex_fa rfl (ev s3 rfl) (faM9_10 _ _)) rfl hz (by decide) hS (fun R8 zz kk s14 => ?_);replace s2:=ku s2;replace s3:=ku s3;replace s7:=ku s7;replace s8:=ku s8;replace s9:=ku s9;replace s10:=ku s10;replace s11:=ku s11;replace s12:=ku s12;replace s13:=ku s13;replace hz:=zz;clear kk zz;refine vh_take 8 true (.slice m.va m.V.length m.vc) rfl (by kernel_rfl) (by kernel_rfl) (by kernel_rfl) WN (fun hc v hv => ex_ld rfl (ev s14 rfl) (ldV8 (hv.2.cell 17 _ rfl))) rfl hz (by decide) hS (fun R9 zz kk s15 => ?_);replace s2:=ku s2;replace s3:=ku s3;replace s7:=ku s7;replace s8:=ku s8;replace s9:=ku s9;replace s10:=ku s10;replace s11:=ku s11;replace s12:=ku s12;replace s13:=ku s13;replace s14:=ku s14;replace hz:=zz;clear kk zz;refine vh_take 9 true (Vo9.val (thr9 m)) rfl (by kernel_rfl) (by kernel_rfl) (by kernel_rfl) WN (fun hc v hv => ex_buildP rfl (by simp only [LA,LB,LC,(ev s13 rfl),(ev s15 rfl)] <;> rfl) (bdV9 _ _ _ _ _)) rfl hz (by decide) hS (fun R10 zz kk s16 => ?_);replace s2:=ku s2;replace s3:=ku s3;replace s7:=ku s7;replace s8:=ku s8;replace s9:=ku s9;replace s10:=ku s10;replace s11:=ku s11;replace s12:=ku s12;replace s13:=ku s13;replace s14:=ku s14;replace s15:=ku s15;replace hz:=zz;clear kk zz
  obtain ⟨q5,hq5⟩ : ∃ z,z = wd.heap.size:=⟨_,rfl⟩
  obtain ⟨wa,hwa⟩ : ∃ y,y = wd.alloc (.cells zV9.cs.toArray 62):=⟨_,rfl⟩
  have bwa : Below wd.heap.size wd wa:=by rw [hwa];exact BR.alloc LR _
  have HQq5 : VB9 wa q5 zV9:=by rw [hwa,hq5];exact BX7.new _ _ _
  have zwa:=bwa.size;have hS5:=And.intro (hS.1.bel bwa) (hS.2.bel bwa);have lwa:=HQq5.lt
  obtain ⟨q6,hq6⟩ : ∃ z,z = wd.heap.size:=⟨_,rfl⟩
  obtain ⟨wb,hwb⟩ : ∃ y,y = wd.alloc (.cells zV9.cs.toArray 62):=⟨_,rfl⟩
  have bwb : Below wd.heap.size wd wb:=by rw [hwb];exact BR.alloc LR _
  have HQq6 : VB9 wb q6 zV9:=by rw [hwb,hq6];exact BX7.new _ _ _
  have zwb:=bwb.size;have hS6:=And.intro (hS.1.bel bwb) (hS.2.bel bwb);have lwb:=HQq6.lt;refine vh_twoV9 10 11 (by kernel_rfl) rfl rfl (.pointer (some ⟨q5,0,none⟩)) wa WN (ex_al rfl (by rw [hwa,hq5];exact alV9 _)) rfl hz (by decide) hS5 ?_ (.pointer (some ⟨q6,0,none⟩)) wb WN (ex_al rfl (by rw [hwb,hq6];exact alV9 _)) rfl (by decide) hS6 ?_
  ·skip
   clear hwb bwb HQq6 zwb hS6 lwb hq6 wb q6;intro R11 zz kk s5x;replace s2:=ku s2;replace s3:=ku s3;replace s7:=ku s7;replace s8:=ku s8;replace s9:=ku s9;replace s10:=ku s10;replace s11:=ku s11;replace s12:=ku s12;replace s13:=ku s13;replace s14:=ku s14;replace s15:=ku s15;replace s16:=ku s16;clear kk hz;have hz:=zz;have s5:=s5x;clear zz s5x;clear hS;have hS:=hS5;have hB:=hB.trans (bwa.mono (by omega));clear hwa
   obtain ⟨q6,hq6⟩ : ∃ z,z = wa.heap.size:=⟨_,rfl⟩
   obtain ⟨wf,hwf⟩ : ∃ y,y = wa.alloc (.cells zV9.cs.toArray 62):=⟨_,rfl⟩
   have bwf : Below wa.heap.size wa wf:=by rw [hwf];exact BR.alloc LR _
   have HQq6 : VB9 wf q6 zV9:=by rw [hwf,hq6];exact BX7.new _ _ _
   have zwf:=bwf.size;have hS7:=And.intro (hS.1.bel bwf) (hS.2.bel bwf);have lwf:=HQq6.lt;have HQq5:=HQq5.bel bwf;refine vh_val8 11 (.pointer (some ⟨q6,0,none⟩)) wf rfl (by kernel_rfl) WN (ex_al rfl (by rw [hwf,hq6];exact alV9 _)) rfl hz (by decide) hS7 (fun R12 zz kk s6 => ?_);replace s2:=ku s2;replace s3:=ku s3;replace s7:=ku s7;replace s8:=ku s8;replace s9:=ku s9;replace s10:=ku s10;replace s11:=ku s11;replace s12:=ku s12;replace s13:=ku s13;replace s14:=ku s14;replace s15:=ku s15;replace s16:=ku s16;replace s5:=ku s5;replace hz:=zz;clear kk zz;clear hS;have hS:=hS7;have hB:=hB.trans (bwf.mono (by omega));clear hwf hS7;have HPq5:=VB9.put HQq5 (mine9 s);have UPq5:=updV9 wf q5 (mine9 s);have hS8:=And.intro (hS.1.upd UPq5 (by show ¬ w.heap.size = q5;omega)) (hS.2.upd UPq5 (by show ¬ w.heap.size + 1 = q5;omega));refine vh_store8 12 (sets wf q5 0 (Vo9.cs (mine9 s))) rfl (by kernel_rfl) WN (ex_st rfl (ev s5 rfl) (ev s11 rfl) (stV9 HQq5 (mine9 s))) rfl hS8 ?_
   obtain ⟨wc,hwc⟩ : ∃ v,v = sets wf q5 0 (Vo9.cs (mine9 s)):=⟨_,rfl⟩
   rw [← hwc] at HPq5 UPq5 hS8 ⊢;clear hwc;have hB:=hB.trans (UPq5.below (B:=w.heap.size) (by omega) (fun k hk => by omega));have zz9:=UPq5.size;clear hS;have hS:=hS8;clear hS8;have HQq6:=HQq6.upd UPq5 (by show ¬ q6 = q5;omega);have HPq6:=VB9.put HQq6 (thr9 m);have UPq6:=updV9 wc q6 (thr9 m);have hS8:=And.intro (hS.1.upd UPq6 (by show ¬ w.heap.size = q6;omega)) (hS.2.upd UPq6 (by show ¬ w.heap.size + 1 = q6;omega));refine vh_store8 13 (sets wc q6 0 (Vo9.cs (thr9 m))) rfl (by kernel_rfl) WN (ex_st rfl (ev s6 rfl) (ev s16 rfl) (stV9 HQq6 (thr9 m))) rfl hS8 ?_
   obtain ⟨we,hwe⟩ : ∃ v,v = sets wc q6 0 (Vo9.cs (thr9 m)):=⟨_,rfl⟩
   rw [← hwe] at HPq6 UPq6 hS8 ⊢;clear hwe;have hB:=hB.trans (UPq6.below (B:=w.heap.size) (by omega) (fun k hk => by omega));have zz9:=UPq6.size;clear hS;have hS:=hS8;clear hS8;have HPq5:=HPq5.upd UPq6 (by show ¬ q5 = q6;omega);refine vh_done (by kernel_rfl) ?_
   exact ⟨_,rfl,hz,s2,s3,q5,q6,s5,s6,HPq5,HPq6,hS.1,hS.2,hB⟩
  ·skip
   clear hwa bwa HQq5 zwa hS5 lwa hq5 wa q5;intro R13 zz kk s6x;replace s2:=ku s2;replace s3:=ku s3;replace s7:=ku s7;replace s8:=ku s8;replace s9:=ku s9;replace s10:=ku s10;replace s11:=ku s11;replace s12:=ku s12;replace s13:=ku s13;replace s14:=ku s14;replace s15:=ku s15;replace s16:=ku s16;clear kk hz;have hz:=zz;have s6:=s6x;clear zz s6x;clear hS;have hS:=hS6;have hB:=hB.trans (bwb.mono (by omega));clear hwb
   obtain ⟨q5,hq5⟩ : ∃ z,z = wb.heap.size:=⟨_,rfl⟩
   obtain ⟨wf,hwf⟩ : ∃ y,y = wb.alloc (.cells zV9.cs.toArray 62):=⟨_,rfl⟩
   have bwf : Below wb.heap.size wb wf:=by rw [hwf];exact BR.alloc LR _
   have HQq5 : VB9 wf q5 zV9:=by rw [hwf,hq5];exact BX7.new _ _ _
   have zwf:=bwf.size;have hS7:=And.intro (hS.1.bel bwf) (hS.2.bel bwf);have lwf:=HQq5.lt;have HQq6:=HQq6.bel bwf;refine vh_val8 10 (.pointer (some ⟨q5,0,none⟩)) wf rfl (by kernel_rfl) WN (ex_al rfl (by rw [hwf,hq5];exact alV9 _)) rfl hz (by decide) hS7 (fun R14 zz kk s5 => ?_);replace s2:=ku s2;replace s3:=ku s3;replace s7:=ku s7;replace s8:=ku s8;replace s9:=ku s9;replace s10:=ku s10;replace s11:=ku s11;replace s12:=ku s12;replace s13:=ku s13;replace s14:=ku s14;replace s15:=ku s15;replace s16:=ku s16;replace s6:=ku s6;replace hz:=zz;clear kk zz;clear hS;have hS:=hS7;have hB:=hB.trans (bwf.mono (by omega));clear hwf hS7;have HPq5:=VB9.put HQq5 (mine9 s);have UPq5:=updV9 wf q5 (mine9 s);have hS8:=And.intro (hS.1.upd UPq5 (by show ¬ w.heap.size = q5;omega)) (hS.2.upd UPq5 (by show ¬ w.heap.size + 1 = q5;omega));refine vh_store8 12 (sets wf q5 0 (Vo9.cs (mine9 s))) rfl (by kernel_rfl) WN (ex_st rfl (ev s5 rfl) (ev s11 rfl) (stV9 HQq5 (mine9 s))) rfl hS8 ?_
   obtain ⟨wc,hwc⟩ : ∃ v,v = sets wf q5 0 (Vo9.cs (mine9 s)):=⟨_,rfl⟩
   rw [← hwc] at HPq5 UPq5 hS8 ⊢;clear hwc;have hB:=hB.trans (UPq5.below (B:=w.heap.size) (by omega) (fun k hk => by omega));have zz9:=UPq5.size;clear hS;have hS:=hS8;clear hS8;have HQq6:=HQq6.upd UPq5 (by show ¬ q6 = q5;omega);have HPq6:=VB9.put HQq6 (thr9 m);have UPq6:=updV9 wc q6 (thr9 m);have hS8:=And.intro (hS.1.upd UPq6 (by show ¬ w.heap.size = q6;omega)) (hS.2.upd UPq6 (by show ¬ w.heap.size + 1 = q6;omega));refine vh_store8 13 (sets wc q6 0 (Vo9.cs (thr9 m))) rfl (by kernel_rfl) WN (ex_st rfl (ev s6 rfl) (ev s16 rfl) (stV9 HQq6 (thr9 m))) rfl hS8 ?_
   obtain ⟨we,hwe⟩ : ∃ v,v = sets wc q6 0 (Vo9.cs (thr9 m)):=⟨_,rfl⟩
   rw [← hwe] at HPq6 UPq6 hS8 ⊢;clear hwe;have hB:=hB.trans (UPq6.below (B:=w.heap.size) (by omega) (fun k hk => by omega));have zz9:=UPq6.size;clear hS;have hS:=hS8;clear hS8;have HPq5:=HPq5.upd UPq6 (by show ¬ q5 = q6;omega);refine vh_done (by kernel_rfl) ?_
   exact ⟨_,rfl,hz,s2,s3,q5,q6,s5,s6,HPq5,HPq6,hS.1,hS.2,hB⟩
 ·clear hz s2 s3 hS hB hzd
  intro T9 z1 hJ;obtain ⟨hz,s2,s3,q5,q6,s5,s6,HI9⟩:=hJ;obtain ⟨H5,H6,HS,HM,hB⟩:=HI9.out;clear HI9;have hv0 : Below z1.heap.size z1 z1:=BR;have hzz:=hB.size
  go_upto_region 2 with fail
  refine WL ?_;have Yc:=((((Rp.nil hz).cons s2).cons s3).cons s5).cons s6;clear hz s2 s3 s5 s6
  refine Yc.t _ (ex_fa rfl (Yc.f 2) (faS6 _ _)) fun _ Yd => ?_;clear Yc
  refine Yd.t _ (ex_ld rfl (Yd.f 17) (ldV8 ((HS.bel hv0).cell 6 _ rfl))) fun _ Ye => ?_;clear Yd
  refine Ye.t _ (ex_ld rfl (Ye.f 6) (VB9.ld (H6.bel hv0))) fun _ Yf => ?_;clear Ye
  refine vcall true (.bool (ovB9 s.V (thr9 m))) WN (fun hc => ex_call rfl (by simp only [LA,LB,LC,(Yf.f 18),(Yf.f 19),evc] <;> rfl) rfl) (fun hc => over9 s.V s.va s.vc (thr9 m) z1 ((hI.later (hB.trans (hv0.mono hzz))).v) ((hM.later (hB.trans (hv0.mono hzz))).v)) rfl Yf.z (by decide) (Yf.kc fun Yg x1 hb Yh => ?_);clear Yf;have hx1:=hv0.trans (hb.mono hv0.size);clear hb
  refine Yh.t (.bool (!(ovB9 s.V (thr9 m)))) (ex_not rfl (Yh.f 20)) fun _ Yi => ?_;clear Yh
  refine Yi.t _ (ex_move rfl (Yi.f 21)) fun _ Yj => ?_;clear Yi
  refine Yj.g 22 rfl rfl _ (fun hc => ex_fa rfl (Yj.f 3) (faM9_10 _ _)) fun Yk Yl => ?_;clear Yj
  refine Yl.g 22 rfl rfl _ (fun hc => ex_ld rfl (Yl.v 23 hc) (ldV8 ((HM.bel hx1).cell 17 _ rfl))) fun Ym Yn => ?_;clear Yl
  refine Yn.g 22 rfl rfl _ (fun hc => ex_ld rfl (Yn.f 5) (VB9.ld (H5.bel hx1))) fun Yo Yp => ?_;clear Yn
  refine vcall (true && ((!(ovB9 s.V (thr9 m))) == true)) (.bool (ovB9 m.V (mine9 s))) (want_g rfl rfl (Yp.a 22 rfl)) (fun hc => ex_call rfl (by simp only [LA,LB,LC,(Yp.v 24 hc),(Yp.v 25 hc),evc] <;> rfl) rfl) (fun hc => over9 m.V m.va m.vc (mine9 s) x1 ((hM.later (hB.trans (hx1.mono hzz))).v) ((hI.later (hB.trans (hx1.mono hzz))).v)) rfl Yp.z (by decide) (Yp.kc fun Yq x2 hb Yr => ?_);clear Yp;have hx2:=hx1.trans (hb.mono hx1.size);clear hb
  refine Yr.g 22 rfl rfl (.bool (!(ovB9 m.V (mine9 s)))) (fun hc => ex_not rfl (Yr.v 26 hc)) fun Ys Yt => ?_;clear Yr
  refine Yt.t (.bool ((!(ovB9 s.V (thr9 m))) && (!(ovB9 m.V (mine9 s))))) (ex_and rfl (Yt.a 22 rfl) (Yt.a 27 rfl) rfl) fun _ Yu => ?_;clear Yt
  refine Yu.t _ (ex_assign rfl (Yu.f 28)) fun _ Yv => ?_;clear Yu
  have hz:=Yv.z;have s4:=Yv.a 4 rfl;clear Yv;refine WE ?_
  go_wp2
  refine bodyPost_ret (results_tmp rfl _ _ _) rfl ⟨?_,hB.trans (hx2.mono hzz)⟩;rw [getD_of s4]
  rfl
theorem admit9 (c : Cg) (s : Sta) (m : Ms9) (w : World) (hI : s.In w) (hF : s.Fit) (hM : m.In w) (hMF : m.Fit) (hT : Tab w) : Calls Tryz.prog 9 #[c.val,s.val,m.val] w fun e w' => ∃ (t : Sta) (b : Bool),e = .returned (.tuple #[t.val,.bool b,.int .i64 (adE9 c s m)])∧t.In w'∧Ad9 w.heap.size c s m t b w'∧Below w.heap.size w w':=by
 go_enter Tryz.func9,Tryz.ntmps9
 go_upto_region 0 with fail
 refine WL ?_;refine vl_gen (fun T => T.size = 66∧T[0]? = some (gw true (c.val))∧T[1]? = some (gw true (s.val))∧T[2]? = some (gw true (m.val))) ⟨rfl,rfl,rfl,rfl⟩ (fun Z0 ⟨hz,s0,s1,s2⟩ => ?_)
 obtain ⟨w1,hw1⟩ : ∃ y,y = w.alloc (.cells c.cs.toArray 23):=⟨_,rfl⟩
 have hb : Below w.heap.size w w1:=by rw [hw1];exact BR.alloc LR _
 have hs1 : w1.heap.size = w.heap.size + 1:=by rw [hw1];simp
 have HC : CB7 w1 (w.heap.size) c:=by rw [hw1];exact BX7.new _ _ _
 refine vw (.pointer (some ⟨w.heap.size,0,none⟩)) w1 WN (ex_box8 rfl (ev s0 rfl) (by rw [hw1];exact bxC7 _ _)) rfl hz (by decide) (fun Z1 zz kk s3x => ?_);replace s1:=ku s1;replace s2:=ku s2;clear kk hz s0 hw1;have hz:=zz;have s3:=s3x;clear zz s3x;have hB:=hb;clear hb
 obtain ⟨w2,hw2⟩ : ∃ y,y = w1.alloc (.cells s.cs.toArray 33):=⟨_,rfl⟩
 have hb : Below w1.heap.size w1 w2:=by rw [hw2];exact BR.alloc LR _
 have hs2 : w2.heap.size = w.heap.size + 2:=by rw [hw2];simp;omega
 have HS : SB7 w2 (w.heap.size + 1) s:=by rw [hw2,← hs1];exact BX7.new _ _ _
 refine vw (.pointer (some ⟨w.heap.size + 1,0,none⟩)) w2 WN (ex_box8 rfl (ev s1 rfl) (by rw [hw2,← hs1];exact bxS7 _ _)) rfl hz (by decide) (fun Z2 zz kk s4x => ?_);replace s2:=ku s2;replace s3:=ku s3;clear kk hz s1 hw2;have hz:=zz;have s4:=s4x;clear zz s4x;have hB:=hB.trans (hb.mono (by omega));have HC:=HC.bel hb;clear hb
 obtain ⟨w3,hw3⟩ : ∃ y,y = w2.alloc (.cells m.cs.toArray 54):=⟨_,rfl⟩
 have hb : Below w2.heap.size w2 w3:=by rw [hw3];exact BR.alloc LR _
 have hs3 : w3.heap.size = w.heap.size + 3:=by rw [hw3];simp;omega
 have HM : MB9 w3 (w.heap.size + 2) m:=by rw [hw3,← hs2];exact BX7.new _ _ _
 refine vw (.pointer (some ⟨w.heap.size + 2,0,none⟩)) w3 WN (ex_box8 rfl (ev s2 rfl) (by rw [hw3,← hs2];exact bxM9 _ _)) rfl hz (by decide) (fun Z3 zz kk s5x => ?_);replace s3:=ku s3;replace s4:=ku s4;clear kk hz s2 hw3;have hz:=zz;have s5:=s5x;clear zz s5x;have hB:=hB.trans (hb.mono (by omega));have HC:=HC.bel hb;have HS:=HS.bel hb;clear hb;have hv0 : Below w3.heap.size w3 w3:=BR
 obtain ⟨w4,hw4⟩ : ∃ y,y = w3.alloc (.cells zS8.cs.toArray 33):=⟨_,rfl⟩
 have hb : Below w3.heap.size w3 w4:=by rw [hw4];exact BR.alloc LR _
 have HZ : SB7 w4 (w.heap.size + 3) zS8:=by rw [hw4,← hs3];exact BX7.new _ _ _
 have hz4 : w4.heap.size = w.heap.size + 4:=by rw [hw4];simp;omega
 have Ya:=(((Rp.nil hz).cons s3).cons s4).cons s5;clear hz s3 s4 s5;refine vw (.pointer (some ⟨w.heap.size + 3,0,none⟩)) w4 WN (ex_al rfl (by rw [hw4,← hs3];exact al12 _)) rfl Ya.z (by decide) (Ya.k fun Yb Yc => ?_);clear Ya
 refine Yc.t (.bool false) (ex_assign rfl rfl) fun _ Yd => ?_;clear Yc
 refine Yd.t (.int .i64 0) (ex_assign rfl rfl) fun _ Ye => ?_;clear Yd
 have hz:=Ye.z;have s3:=Ye.a 3 rfl;have s4:=Ye.a 4 rfl;have s5:=Ye.a 5 rfl;have s6:=Ye.a 6 rfl;clear Ye;refine WE ?_;have hB:=hB.trans (hb.mono (by omega));have HS:=HS.bel hb;have HC:=HC.bel hb;have HM:=HM.bel hb;clear hb hw4 hv0;have hv0 : Below w4.heap.size w4 w4:=BR;have hzc : w4.heap.size ≤ w4.heap.size:=LR;have HI:=hI.later hB;have hT4:=hT.later hB hT.lt
 go_upto_region 1 with fail
 refine WL ?_;have Yf:=((((Rp.nil hz).cons s3).cons s4).cons s5).cons s6;clear hz s3 s4 s5 s6
 refine Yf.t _ (ex_ld rfl (Yf.f 3) (CB7.ld (HC.bel hv0))) fun _ Yg => ?_;clear Yf
 refine Yg.t _ (ex_ld rfl (Yg.f 4) (SB7.ld (HS.bel hv0))) fun _ Yh => ?_;clear Yg
 refine vcall true (.int .i64 (s.ckE c)) WN (fun hc => ex_call rfl (by simp only [LA,LB,LC,(Yh.f 13),(Yh.f 14),evc] <;> rfl) rfl) (fun hc => check8 c s w4 (HI.later hv0) hF) rfl Yh.z (by decide) (Yh.kc fun Yi x1 hb Yj => ?_);clear Yh;have hx1:=hv0.trans (hb.mono hv0.size);clear hb
 refine Yj.t _ (ex_assign rfl (Yj.f 15)) fun _ Yk => ?_;clear Yj
 have hz:=Yk.z;have s3:=Yk.a 3 rfl;have s4:=Yk.a 4 rfl;have s5:=Yk.a 5 rfl;have s6:=Yk.a 6 rfl;have s9:=Yk.a 9 rfl;clear Yk;refine WE ?_
 go_upto_region 2 with fail
 refine WL ?_;have Yl:=(((((Rp.nil hz).cons s3).cons s4).cons s5).cons s6).cons s9;clear hz s3 s4 s5 s6 s9
 refine Yl.t _ (ex_move rfl (Yl.f 9)) fun _ Ym => ?_;clear Yl
 refine Ym.t (.bool (!decide ((s.ckE c) = 0))) (ex_bin rfl (Ym.f 16) rfl (neqN8 _ _ _ _ _)) fun _ Yn => ?_;clear Ym
 have hz:=Yn.z;have s3:=Yn.a 3 rfl;have s4:=Yn.a 4 rfl;have s5:=Yn.a 5 rfl;have s6:=Yn.a 6 rfl;have s9:=Yn.a 9 rfl;have s17:=Yn.a 17 rfl;clear Yn;refine WE ?_
 go_upto_region 3 with fail
 cases e17 : decide (s.ckE c = 0)
 ·refine wp_cond_true ((ev s17 rfl).trans (by rw [e17];rfl)) ?_
  have hne:=of_decide_eq_false e17;have hEE : adE9 c s m = s.ckE c:=if_neg hne
  go_upto_region 3 with fail
  refine WL ?_;have Yo:=(((((Rp.nil hz).cons s3).cons s4).cons s5).cons s6).cons s9;clear hz s3 s4 s5 s6 s9
  refine Yo.t (zS8.val) (ex_build rfl (bd12 _)) fun _ Yp => ?_;clear Yo
  refine Yp.t _ (ex_move rfl (Yp.f 9)) fun _ Yq => ?_;clear Yp
  refine vs (sets x1 (w.heap.size + 3) 0 (Sta.cs zS8)) WN (ex_st rfl (Yq.f 6) (Yq.f 18) (st12 (HZ.bel hx1) zS8)) rfl ?_;have HP:=SB7.put (HZ.bel hx1) zS8;have UP:=upd12 x1 (w.heap.size + 3) zS8
  obtain ⟨u9,hu9⟩ : ∃ v,v = sets x1 (w.heap.size + 3) 0 (Sta.cs zS8):=⟨_,rfl⟩
  rw [← hu9] at HP UP ⊢;clear hu9
  refine Yq.t (.bool false) (ex_assign rfl rfl) fun _ Yr => ?_;clear Yq
  refine Yr.t _ (ex_assign rfl (Yr.f 19)) fun _ Ys => ?_;clear Yr
  have hz:=Ys.z;have s6:=Ys.a 6 rfl;have s7:=Ys.a 7 rfl;have s8:=Ys.a 8 rfl;clear Ys;refine WE ?_;have hB9:=hide ((hB.trans (hx1.mono (by omega))).trans (UP.below (by have:=hx1.size;omega) (fun k hk => by omega)))
  go_wp2
  refine bodyPost_ret (results_sta3 rfl (getD_of s6) (getD_of s7) (getD_of s8) HP) rfl ?_;rw [hEE]
  exact ⟨zS8,false,rfl,zS8_in _,.inl ⟨by rw [hEE];exact hne,rfl,rfl⟩,hB9.out⟩
 ·refine wp_cond_false ((ev s17 rfl).trans (by rw [e17];rfl)) ?_
  clear s17 s9;have hE0:=of_decide_eq_true e17;have hEE : adE9 c s m = adM9 c m:=if_pos hE0;have hB:=hB.trans (hx1.mono (by omega));have HS:=HS.bel hx1;have HC:=HC.bel hx1;have HM:=HM.bel hx1;have HZ:=HZ.bel hx1;have hzc:=hx1.size;have hv1 : Below x1.heap.size x1 x1:=BR
  go_upto_region 4 with fail
  refine WL ?_;have Yt:=((((Rp.nil hz).cons s3).cons s4).cons s5).cons s6;clear hz s3 s4 s5 s6
  refine Yt.t _ (ex_ld rfl (Yt.f 3) (CB7.ld (HC.bel hv1))) fun _ Yu => ?_;clear Yt
  refine Yu.t _ (ex_ld rfl (Yu.f 5) (MB9.ld (HM.bel hv1))) fun _ Yv => ?_;clear Yu
  refine vcall true (.int .i64 (adM9 c m)) WN (fun hc => ex_call rfl (by simp only [LA,LB,LC,(Yv.f 20),(Yv.f 21),evc] <;> rfl) rfl) (fun hc => mcheck9 c m x1 (hT.later (hB.trans (hv1.mono (by omega))) hT.lt) (hM.later (hB.trans (hv1.mono (by omega)))) hMF) rfl Yv.z (by decide) (Yv.kc fun Yw x2 hb Yx => ?_);clear Yv;have hx2:=hv1.trans (hb.mono hv1.size);clear hb
  refine Yx.t _ (ex_assign rfl (Yx.f 22)) fun _ Yy => ?_;clear Yx
  have hz:=Yy.z;have s3:=Yy.a 3 rfl;have s4:=Yy.a 4 rfl;have s5:=Yy.a 5 rfl;have s6:=Yy.a 6 rfl;have s10:=Yy.a 10 rfl;clear Yy;refine WE ?_
  go_upto_region 5 with fail
  refine WL ?_;have Yz:=(((((Rp.nil hz).cons s3).cons s4).cons s5).cons s6).cons s10;clear hz s3 s4 s5 s6 s10
  refine Yz.t _ (ex_move rfl (Yz.f 10)) fun _ Y0 => ?_;clear Yz
  refine Y0.t (.bool (!decide ((adM9 c m) = 0))) (ex_bin rfl (Y0.f 23) rfl (neqN8 _ _ _ _ _)) fun _ Y1 => ?_;clear Y0
  have hz:=Y1.z;have s3:=Y1.a 3 rfl;have s4:=Y1.a 4 rfl;have s5:=Y1.a 5 rfl;have s6:=Y1.a 6 rfl;have s10:=Y1.a 10 rfl;have s24:=Y1.a 24 rfl;clear Y1;refine WE ?_
  go_upto_region 6 with fail
  cases e24 : decide (adM9 c m = 0)
  ·refine wp_cond_true ((ev s24 rfl).trans (by rw [e24];rfl)) ?_
   have hne:=of_decide_eq_false e24
   go_upto_region 6 with fail
   refine WL ?_;have Y2:=(((((Rp.nil hz).cons s3).cons s4).cons s5).cons s6).cons s10;clear hz s3 s4 s5 s6 s10
   refine Y2.t (zS8.val) (ex_build rfl (bd12 _)) fun _ Y3 => ?_;clear Y2
   refine Y3.t _ (ex_move rfl (Y3.f 10)) fun _ Y4 => ?_;clear Y3
   refine vs (sets x2 (w.heap.size + 3) 0 (Sta.cs zS8)) WN (ex_st rfl (Y4.f 6) (Y4.f 25) (st12 (HZ.bel hx2) zS8)) rfl ?_;have HP:=SB7.put (HZ.bel hx2) zS8;have UP:=upd12 x2 (w.heap.size + 3) zS8
   obtain ⟨u9,hu9⟩ : ∃ v,v = sets x2 (w.heap.size + 3) 0 (Sta.cs zS8):=⟨_,rfl⟩
   rw [← hu9] at HP UP ⊢;clear hu9
   refine Y4.t (.bool false) (ex_assign rfl rfl) fun _ Y5 => ?_;clear Y4
   refine Y5.t _ (ex_assign rfl (Y5.f 26)) fun _ Y6 => ?_;clear Y5
   have hz:=Y6.z;have s6:=Y6.a 6 rfl;have s7:=Y6.a 7 rfl;have s8:=Y6.a 8 rfl;clear Y6;refine WE ?_;have hB9:=hide ((hB.trans (hx2.mono (by omega))).trans (UP.below (by have:=hx2.size;omega) (fun k hk => by omega)))
   go_wp2
   refine bodyPost_ret (results_sta3 rfl (getD_of s6) (getD_of s7) (getD_of s8) HP) rfl ?_;rw [hEE]
   exact ⟨zS8,false,rfl,zS8_in _,.inl ⟨by rw [hEE];exact hne,rfl,rfl⟩,hB9.out⟩
  refine wp_cond_false ((ev s24 rfl).trans (by rw [e24];rfl)) ?_;clear s24 s10;have hM0:=of_decide_eq_true e24;have hE9 : adE9 c s m = 0:=hEE.trans hM0;have hB:=hB.trans (hx2.mono (by omega));have HS:=HS.bel hx2;have HC:=HC.bel hx2;have HM:=HM.bel hx2;have HZ:=HZ.bel hx2;have hzc:=hx2.size;have hv2 : Below x2.heap.size x2 x2:=BR
  go_upto_region 7 with fail
  refine WL ?_;have Y7:=((((Rp.nil hz).cons s3).cons s4).cons s5).cons s6;clear hz s3 s4 s5 s6
  refine Y7.t _ (ex_fa rfl (Y7.f 5) (faM9_0 _ _)) fun _ Y8 => ?_;clear Y7
  refine Y8.t _ (ex_ld rfl (Y8.f 28) (ldKd9 ((HM.bel hv2).cell 0 _ rfl))) fun _ Y9 => ?_;clear Y8
  refine vcall true (.bool (btB m.m.k)) WN (fun hc => ex_call rfl (by simp only [LA,LB,LC,(Y9.f 29),evc] <;> rfl) rfl) (fun hc => between9 m.m.k x2 (hT.later (hB.trans (hv2.mono (by omega))) hT.lt)) rfl Y9.z (by decide) (Y9.kc fun Yba x3 hb Ybb => ?_);clear Y9;have hx3:=hv2.trans (hb.mono hv2.size);clear hb
  refine Ybb.t (.bool (!(btB m.m.k))) (ex_not rfl (Ybb.f 30)) fun _ Ybc => ?_;clear Ybb
  refine Ybc.t _ (ex_assign rfl (Ybc.f 31)) fun _ Ybd => ?_;clear Ybc
  have hz:=Ybd.z;have s3:=Ybd.a 3 rfl;have s4:=Ybd.a 4 rfl;have s5:=Ybd.a 5 rfl;have s6:=Ybd.a 6 rfl;have s27:=Ybd.a 27 rfl;clear Ybd;refine WE ?_
  go_upto_region 8 with fail
  cases eb : btB m.m.k
  ·refine wp_cond_true ((ev s27 rfl).trans (by rw [eb];rfl)) ?_
   clear s27
   go_upto_region 8 with fail
   refine WL ?_;have Ybe:=((((Rp.nil hz).cons s3).cons s4).cons s5).cons s6;clear hz s3 s4 s5 s6
   refine Ybe.t _ (ex_ld rfl (Ybe.f 4) (SB7.ld (HS.bel hx3))) fun _ Ybf => ?_;clear Ybe
   refine Ybf.c (ex_call rfl (by simp only [LA,LB,LC,(Ybf.f 32),evc] <;> rfl) rfl) (copied8 s x3 (hI.later (hB.trans (hx3.mono (by omega)))) hF) ?_;rintro e x9 ⟨t,rfl,hk,hlo,bk⟩;refine ⟨_,rfl,Ybf.k fun Ybg Ybh => ?_⟩;clear Ybf;have zk:=hx3.size;have zk2:=bk.size;have hB:=(hB.trans (hx3.mono (by omega))).trans (bk.mono (by omega));have HZ:=(HZ.bel hx3).bel bk;refine vs (sets x9 (w.heap.size + 3) 0 (Sta.cs t)) WN (ex_st rfl (Ybh.f 6) (Ybh.f 33) (st12 HZ t)) rfl ?_;have HP:=SB7.put HZ t;have UP:=upd12 x9 (w.heap.size + 3) t
   obtain ⟨u9,hu9⟩ : ∃ v,v = sets x9 (w.heap.size + 3) 0 (Sta.cs t):=⟨_,rfl⟩
   rw [← hu9] at HP UP ⊢;clear hu9
   refine Ybh.t (.bool true) (ex_assign rfl rfl) fun _ Ybi => ?_;clear Ybh
   refine Ybi.t (.int .i64 0) (ex_assign rfl rfl) fun _ Ybj => ?_;clear Ybi
   have hz:=Ybj.z;have s6:=Ybj.a 6 rfl;have s7:=Ybj.a 7 rfl;have s8:=Ybj.a 8 rfl;clear Ybj;refine WE ?_;have hk:=hk.set8 UP (by omega) hlo;have hB9:=hide (hB.trans (UP.below (by omega) (fun k hk => by omega)))
   go_wp2
   refine bodyPost_ret (results_sta3 rfl (getD_of s6) (getD_of s7) (getD_of s8) HP) rfl ?_;rw [hE9]
   exact ⟨t,true,rfl,hk.inn,.inr ⟨hE9,by rw [show adV9 c s m = s.V from by unfold adV9;rw [eb];rfl];exact hk.low8 (by omega),hlo.low (by omega),by unfold adB9;rw [eb];rfl⟩,hB9.out⟩
  refine wp_cond_false ((ev s27 rfl).trans (by rw [eb];rfl)) ?_;clear s27;have hB:=hB.trans (hx3.mono (by omega));have HS:=HS.bel hx3;have HC:=HC.bel hx3;have HM:=HM.bel hx3;have HZ:=HZ.bel hx3;have hzc:=hx3.size;have hv3 : Below x3.heap.size x3 x3:=BR
  go_upto_region 9 with fail
  refine WL ?_;have Ybk:=((((Rp.nil hz).cons s3).cons s4).cons s5).cons s6;clear hz s3 s4 s5 s6
  refine Ybk.t _ (ex_fa rfl (Ybk.f 5) (faM9_1 _ _)) fun _ Ybl => ?_;clear Ybk
  refine Ybl.t _ (ex_ld rfl (Ybl.f 35) (ldI8 ((HM.bel hv3).cell 1 _ rfl))) fun _ Ybm => ?_;clear Ybl
  refine Ybm.t _ (ex_fa rfl (Ybm.f 4) (faS0 _ _)) fun _ Ybn => ?_;clear Ybm
  refine Ybn.t _ (ex_ld rfl (Ybn.f 37) (ldI8 ((HS.bel hv3).cell 0 _ rfl))) fun _ Ybo => ?_;clear Ybn
  refine Ybo.t (.bool (decide (m.m.nd = s.self))) (ex_bin rfl (Ybo.f 36) (Ybo.f 38) (eqlC _ _ _ _ _)) fun _ Ybp => ?_;clear Ybo
  refine Ybp.t _ (ex_assign rfl (Ybp.f 39)) fun _ Ybq => ?_;clear Ybp
  have hz:=Ybq.z;have s3:=Ybq.a 3 rfl;have s4:=Ybq.a 4 rfl;have s5:=Ybq.a 5 rfl;have s6:=Ybq.a 6 rfl;have s34:=Ybq.a 34 rfl;clear Ybq;refine WE ?_
  go_upto_region 10 with fail
  cases en : decide (m.m.nd = s.self)
  rotate_left
  ·refine wp_cond_true ((ev s34 rfl).trans (congrArg Value.bool en)) ?_
   clear s34
   go_upto_region 10 with fail
   refine WL ?_;have Ybr:=((((Rp.nil hz).cons s3).cons s4).cons s5).cons s6;clear hz s3 s4 s5 s6
   refine Ybr.t _ (ex_ld rfl (Ybr.f 4) (SB7.ld (HS.bel hv3))) fun _ Ybs => ?_;clear Ybr
   refine Ybs.c (ex_call rfl (by simp only [LA,LB,LC,(Ybs.f 40),evc] <;> rfl) rfl) (copied8 s x3 (hI.later (hB.trans (hv3.mono (by omega)))) hF) ?_;rintro e x9 ⟨t,rfl,hk,hlo,bk⟩;refine ⟨_,rfl,Ybs.k fun Ybt Ybu => ?_⟩;clear Ybs;have zk:=hv3.size;have zk2:=bk.size;have hB:=(hB.trans (hv3.mono (by omega))).trans (bk.mono (by omega));have HZ:=(HZ.bel hv3).bel bk;refine vs (sets x9 (w.heap.size + 3) 0 (Sta.cs t)) WN (ex_st rfl (Ybu.f 6) (Ybu.f 41) (st12 HZ t)) rfl ?_;have HP:=SB7.put HZ t;have UP:=upd12 x9 (w.heap.size + 3) t
   obtain ⟨u9,hu9⟩ : ∃ v,v = sets x9 (w.heap.size + 3) 0 (Sta.cs t):=⟨_,rfl⟩
   rw [← hu9] at HP UP ⊢;clear hu9
   refine Ybu.t (.bool false) (ex_assign rfl rfl) fun _ Ybv => ?_;clear Ybu
   refine Ybv.t (.int .i64 0) (ex_assign rfl rfl) fun _ Ybw => ?_;clear Ybv
   have hz:=Ybw.z;have s6:=Ybw.a 6 rfl;have s7:=Ybw.a 7 rfl;have s8:=Ybw.a 8 rfl;clear Ybw;refine WE ?_;have hk:=hk.set8 UP (by omega) hlo;have hB9:=hide (hB.trans (UP.below (by omega) (fun k hk => by omega)))
   go_wp2
   refine bodyPost_ret (results_sta3 rfl (getD_of s6) (getD_of s7) (getD_of s8) HP) rfl ?_;rw [hE9]
   exact ⟨t,false,rfl,hk.inn,.inr ⟨hE9,by rw [show adV9 c s m = s.V from by unfold adV9;rw [eb,en];rfl];exact hk.low8 (by omega),hlo.low (by omega),by unfold adB9;rw [eb,en];rfl⟩,hB9.out⟩
  refine wp_cond_false ((ev s34 rfl).trans (congrArg Value.bool en)) ?_;clear s34
  go_upto_region 11 with fail
  refine WL ?_;have Ybx:=((((Rp.nil hz).cons s3).cons s4).cons s5).cons s6;clear hz s3 s4 s5 s6
  refine Ybx.t _ (ex_fa rfl (Ybx.f 3) (faC3 _ _)) fun _ Yby => ?_;clear Ybx
  refine Yby.t _ (ex_ld rfl (Yby.f 43) (ldU8 ((HC.bel hv3).cell 3 _ rfl))) fun _ Ybz => ?_;clear Yby
  refine Ybz.t _ (ex_assign rfl (Ybz.f 44)) fun _ Yb0 => ?_;clear Ybz
  have hz:=Yb0.z;have s3:=Yb0.a 3 rfl;have s4:=Yb0.a 4 rfl;have s5:=Yb0.a 5 rfl;have s6:=Yb0.a 6 rfl;have s42:=Yb0.a 42 rfl;clear Yb0;refine WE ?_
  go_upto_region 12 with fail
  cases eu : c.u
  rotate_left
  ·refine wp_cond_true ((ev s42 rfl).trans (congrArg Value.bool eu)) ?_
   clear s42
   go_upto_region 12 with fail
   refine WL ?_;have Yb1:=((((Rp.nil hz).cons s3).cons s4).cons s5).cons s6;clear hz s3 s4 s5 s6
   refine Yb1.t _ (ex_ld rfl (Yb1.f 4) (SB7.ld (HS.bel hv3))) fun _ Yb2 => ?_;clear Yb1
   refine Yb2.c (ex_call rfl (by simp only [LA,LB,LC,(Yb2.f 45),evc] <;> rfl) rfl) (copied8 s x3 (hI.later (hB.trans (hv3.mono (by omega)))) hF) ?_;rintro e x9 ⟨t,rfl,hk,hlo,bk⟩;refine ⟨_,rfl,Yb2.k fun Yb3 Yb4 => ?_⟩;clear Yb2;have zk:=hv3.size;have zk2:=bk.size;have hB:=(hB.trans (hv3.mono (by omega))).trans (bk.mono (by omega));have HZ:=(HZ.bel hv3).bel bk;refine vs (sets x9 (w.heap.size + 3) 0 (Sta.cs t)) WN (ex_st rfl (Yb4.f 6) (Yb4.f 46) (st12 HZ t)) rfl ?_;have HP:=SB7.put HZ t;have UP:=upd12 x9 (w.heap.size + 3) t
   obtain ⟨u9,hu9⟩ : ∃ v,v = sets x9 (w.heap.size + 3) 0 (Sta.cs t):=⟨_,rfl⟩
   rw [← hu9] at HP UP ⊢;clear hu9
   refine Yb4.t (.bool true) (ex_assign rfl rfl) fun _ Yb5 => ?_;clear Yb4
   refine Yb5.t (.int .i64 0) (ex_assign rfl rfl) fun _ Yb6 => ?_;clear Yb5
   have hz:=Yb6.z;have s6:=Yb6.a 6 rfl;have s7:=Yb6.a 7 rfl;have s8:=Yb6.a 8 rfl;clear Yb6;refine WE ?_;have hk:=hk.set8 UP (by omega) hlo;have hB9:=hide (hB.trans (UP.below (by omega) (fun k hk => by omega)))
   go_wp2
   refine bodyPost_ret (results_sta3 rfl (getD_of s6) (getD_of s7) (getD_of s8) HP) rfl ?_;rw [hE9]
   exact ⟨t,true,rfl,hk.inn,.inr ⟨hE9,by rw [show adV9 c s m = s.V from by unfold adV9;rw [eb,en,eu];rfl];exact hk.low8 (by omega),hlo.low (by omega),by unfold adB9;rw [eb,en,eu];rfl⟩,hB9.out⟩
  refine wp_cond_false ((ev s42 rfl).trans (congrArg Value.bool eu)) ?_;clear s42
  go_upto_region 13 with fail
  refine WL ?_;have Yb7:=((((Rp.nil hz).cons s3).cons s4).cons s5).cons s6;clear hz s3 s4 s5 s6
  refine Yb7.t _ (ex_ld rfl (Yb7.f 4) (SB7.ld (HS.bel hv3))) fun _ Yb8 => ?_;clear Yb7
  refine Yb8.t _ (ex_ld rfl (Yb8.f 5) (MB9.ld (HM.bel hv3))) fun _ Yb9 => ?_;clear Yb8
  refine vcall true (.bool (hear9 s m)) WN (fun hc => ex_call rfl (by simp only [LA,LB,LC,(Yb9.f 48),(Yb9.f 49),evc] <;> rfl) rfl) (fun hc => mayhear9 s m x3 (hI.later (hB.trans (hv3.mono (by omega)))) (hM.later (hB.trans (hv3.mono (by omega))))) rfl Yb9.z (by decide) (Yb9.kc fun Yca x4 hb Ycb => ?_);clear Yb9;have hx4:=hv3.trans (hb.mono hv3.size);clear hb
  refine Ycb.t (.bool (!(hear9 s m))) (ex_not rfl (Ycb.f 50)) fun _ Ycc => ?_;clear Ycb
  refine Ycc.t _ (ex_assign rfl (Ycc.f 51)) fun _ Ycd => ?_;clear Ycc
  have hz:=Ycd.z;have s3:=Ycd.a 3 rfl;have s4:=Ycd.a 4 rfl;have s5:=Ycd.a 5 rfl;have s6:=Ycd.a 6 rfl;have s47:=Ycd.a 47 rfl;clear Ycd;refine WE ?_
  go_upto_region 14 with fail
  cases eh : hear9 s m
  ·refine wp_cond_true ((ev s47 rfl).trans (by rw [eh];rfl)) ?_
   clear s47
   go_upto_region 14 with fail
   refine WL ?_;have Yce:=((((Rp.nil hz).cons s3).cons s4).cons s5).cons s6;clear hz s3 s4 s5 s6
   refine Yce.t _ (ex_ld rfl (Yce.f 4) (SB7.ld (HS.bel hx4))) fun _ Ycf => ?_;clear Yce
   refine Ycf.c (ex_call rfl (by simp only [LA,LB,LC,(Ycf.f 52),evc] <;> rfl) rfl) (copied8 s x4 (hI.later (hB.trans (hx4.mono (by omega)))) hF) ?_;rintro e x9 ⟨t,rfl,hk,hlo,bk⟩;refine ⟨_,rfl,Ycf.k fun Ycg Ych => ?_⟩;clear Ycf;have zk:=hx4.size;have zk2:=bk.size;have hB:=(hB.trans (hx4.mono (by omega))).trans (bk.mono (by omega));have HZ:=(HZ.bel hx4).bel bk;refine vs (sets x9 (w.heap.size + 3) 0 (Sta.cs t)) WN (ex_st rfl (Ych.f 6) (Ych.f 53) (st12 HZ t)) rfl ?_;have HP:=SB7.put HZ t;have UP:=upd12 x9 (w.heap.size + 3) t
   obtain ⟨u9,hu9⟩ : ∃ v,v = sets x9 (w.heap.size + 3) 0 (Sta.cs t):=⟨_,rfl⟩
   rw [← hu9] at HP UP ⊢;clear hu9
   refine Ych.t (.bool false) (ex_assign rfl rfl) fun _ Yci => ?_;clear Ych
   refine Yci.t (.int .i64 0) (ex_assign rfl rfl) fun _ Ycj => ?_;clear Yci
   have hz:=Ycj.z;have s6:=Ycj.a 6 rfl;have s7:=Ycj.a 7 rfl;have s8:=Ycj.a 8 rfl;clear Ycj;refine WE ?_;have hk:=hk.set8 UP (by omega) hlo;have hB9:=hide (hB.trans (UP.below (by omega) (fun k hk => by omega)))
   go_wp2
   refine bodyPost_ret (results_sta3 rfl (getD_of s6) (getD_of s7) (getD_of s8) HP) rfl ?_;rw [hE9]
   exact ⟨t,false,rfl,hk.inn,.inr ⟨hE9,by rw [show adV9 c s m = s.V from by unfold adV9;rw [eb,en,eu,eh];rfl];exact hk.low8 (by omega),hlo.low (by omega),by unfold adB9;rw [eb,en,eu,eh];rfl⟩,hB9.out⟩
  refine wp_cond_false ((ev s47 rfl).trans (by rw [eh];rfl)) ?_;clear s47;have hB:=hB.trans (hx4.mono (by omega));have HS:=HS.bel hx4;have HC:=HC.bel hx4;have HM:=HM.bel hx4;have HZ:=HZ.bel hx4;have hzc:=hx4.size;have hv4 : Below x4.heap.size x4 x4:=BR;obtain ⟨hv7,hlm⟩:=adlen9 hE0 hM0 eb
  obtain ⟨y5,hy5⟩ : ∃ y,y = x4.alloc (.cells #[.slice s.va s.V.length s.vc,.slice m.va m.V.length m.vc] 27):=⟨_,rfl⟩
  have b5 : Below x4.heap.size x4 y5:=by rw [hy5];exact BR.alloc LR _
  have k0 : y5.cell? ⟨x4.heap.size,0,none⟩ = some (.slice s.va s.V.length s.vc):=by rw [hy5];exact cell_box7 _ _ _ _ _ rfl
  have k1 : y5.cell? ⟨x4.heap.size,1,none⟩ = some (.slice m.va m.V.length m.vc):=by rw [hy5];exact cell_box7 _ _ _ _ _ rfl
  have z5:=b5.size;have hB5:=hB.trans (b5.mono (by omega))
  go_upto_region 15 with fail
  refine WL ?_;have Yck:=((((Rp.nil hz).cons s3).cons s4).cons s5).cons s6;clear hz s3 s4 s5 s6
  refine Yck.t _ (ex_fa rfl (Yck.f 4) (faS6 _ _)) fun _ Ycl => ?_;clear Yck
  refine Ycl.t _ (ex_ld rfl (Ycl.f 55) (ldV8 ((HS.bel hv4).cell 6 _ rfl))) fun _ Ycm => ?_;clear Ycl
  refine Ycm.t _ (ex_fa rfl (Ycm.f 5) (faM9_10 _ _)) fun _ Ycn => ?_;clear Ycm
  refine Ycn.t _ (ex_ld rfl (Ycn.f 57) (ldV8 ((HM.bel hv4).cell 17 _ rfl))) fun _ Yco => ?_;clear Ycn
  refine vw (.slice (some ⟨x4.heap.size,0,none⟩) 2 2) y5 WN (ex_bs2_9 rfl (Yco.f 56) (Yco.f 58) (by rw [hy5];exact bsVV9 _ _ _)) rfl Yco.z (by decide) (Yco.k fun Ycp Ycq => ?_);clear Yco;refine Ycq.c (ex_call rfl (by simp only [LA,LB,LC,(Ycq.f 59),evc] <;> rfl) rfl) (merge9 s.V m.V s.va m.va s.vc m.vc _ y5 (hI.later hB5).v (hM.later hB5).v hlm hv7 k0 k1) ?_;rintro e y6 ⟨gm,rfl,oJ,bJ⟩;refine ⟨_,rfl,Ycq.k fun Ycr Ycs => ?_⟩;clear Ycq;have z6:=bJ.size;have hB:=hB5.trans (bJ.mono (by omega));have HS:=(HS.bel b5).bel bJ;have HZ:=(HZ.bel b5).bel bJ;clear b5 k0 k1 hy5
  refine Ycs.t _ (ex_move rfl (Ycs.f 60)) fun _ Yct => ?_;clear Ycs
  refine Yct.t _ (ex_ext8 rfl (Yct.f 54) rfl) fun _ Ycu => ?_;clear Yct
  refine Ycu.t _ (ex_ext8 rfl (Ycu.f 54) rfl) fun _ Ycv => ?_;clear Ycu
  refine Ycv.t _ (ex_assign rfl (Ycv.f 61)) fun _ Ycw => ?_;clear Ycv
  refine Ycw.t _ (ex_assign rfl (Ycw.f 62)) fun _ Ycx => ?_;clear Ycw
  have hz:=Ycx.z;have s4:=Ycx.a 4 rfl;have s6:=Ycx.a 6 rfl;have s11:=Ycx.a 11 rfl;clear Ycx;refine WE ?_;have hvy : Below y6.heap.size y6 y6:=BR;have ej:=jn9_length s.V m.V;have oS : SlY yD y6 (some ⟨gm,0,none⟩) (jn9 s.V m.V).length s.V.length (jn9 s.V m.V):=ej.symm ▸ oJ.sl' kD;rw [show (Value.slice (some ⟨gm,0,none⟩) s.V.length s.V.length) = .slice (some ⟨gm,0,none⟩) (jn9 s.V m.V).length s.V.length from by rw [ej]] at s11
  go_upto_region 16 with fail
  refine WL ?_;have Ycy:=(((Rp.nil hz).cons s4).cons s6).cons s11;clear hz s4 s6 s11
  refine Ycy.t _ (ex_ld rfl (Ycy.f 4) (SB7.ld (HS.bel hvy))) fun _ Ycz => ?_;clear Ycy
  refine Ycz.t _ (ex_move rfl (Ycz.f 11)) fun _ Yc0 => ?_;clear Ycz
  refine Yc0.c (ex_call rfl (by simp only [LA,LB,LC,(Yc0.f 63),(Yc0.f 64),evc] <;> rfl) rfl) (knowing8 s (some ⟨gm,0,none⟩) s.V.length (jn9 s.V m.V) y6 (hI.later hB) hF oS (by omega)) ?_;rintro e x9 ⟨t,rfl,hk,hlo,bk⟩;refine ⟨_,rfl,Yc0.k fun Yc1 Yc2 => ?_⟩;clear Yc0;have zk2:=bk.size;have hB:=hB.trans (bk.mono (by omega));have HZ:=HZ.bel bk;refine vs (sets x9 (w.heap.size + 3) 0 (Sta.cs t)) WN (ex_st rfl (Yc2.f 6) (Yc2.f 65) (st12 HZ t)) rfl ?_;have HP:=SB7.put HZ t;have UP:=upd12 x9 (w.heap.size + 3) t
  obtain ⟨u9,hu9⟩ : ∃ v,v = sets x9 (w.heap.size + 3) 0 (Sta.cs t):=⟨_,rfl⟩
  rw [← hu9] at HP UP ⊢;clear hu9
  refine Yc2.t (.bool true) (ex_assign rfl rfl) fun _ Yc3 => ?_;clear Yc2
  refine Yc3.t (.int .i64 0) (ex_assign rfl rfl) fun _ Yc4 => ?_;clear Yc3
  have hz:=Yc4.z;have s6:=Yc4.a 6 rfl;have s7:=Yc4.a 7 rfl;have s8:=Yc4.a 8 rfl;clear Yc4;refine WE ?_;have hk:=hk.set8 UP (by omega) hlo;have hB9:=hide (hB.trans (UP.below (by omega) (fun k hk => by omega)))
  go_wp2
  refine bodyPost_ret (results_sta3 rfl (getD_of s6) (getD_of s7) (getD_of s8) HP) rfl ?_;rw [hE9]
  exact ⟨t,true,rfl,hk.inn,.inr ⟨hE9,by rw [show adV9 c s m = jn9 s.V m.V from by unfold adV9;rw [eb,en,eu,eh];rfl];exact hk.low8 (by omega),hlo.low (by omega),by unfold adB9;rw [eb,en,eu,eh];rfl⟩,hB9.out⟩
end Go.Proofs.YtpcgnjpodnebpaaGreatDoor
