import Derived.Test.YtjcedofmljkhfaaGreatDoorF19
set_option maxRecDepth 100000
set_option linter.unusedVariables false
set_option linter.unusedSimpArgs false
namespace Go.Proofs.YtjcedofmljkhfaaGreatDoor
open Go.RowKit Go.Maps
open Classical
theorem chk_one (e : En) : (chk [e] 1).1 = ckE e:=by
 rw [chk_lg (by decide) (by decide)]
 show (if (1 : Int) < ((1 : Nat) : Int) then 60 else lgA [] [e]) = ckE e
 rw [if_neg (by decide)]
 show (if er [] e ≠ 0 then er [] e else 0) = ckE e
 have he : er [] e = ckE e:=by
  unfold er
  by_cases h : ckE e ≠ 0
  ·rw [if_pos h]
  ·rw [if_neg h]
   have h0 : ckE e = 0:=by omega
   rw [h0]
   rfl
 rw [he]
 by_cases h : ckE e ≠ 0
 ·rw [if_pos h]
 ·rw [if_neg h];omega
theorem nmB_en (e : En) (k : Int) (hk : k = 2 ∨ k = 14) : nmB e = enK k e:=by
 unfold nmB enK
 rw [if_pos hk,chk_one]
 have h : ckE (nmE e) = if e.c < 0 ∨ 16 ≤ e.c then 62 else if e.n < 1 then 63 else 0:=rfl
 rw [Bool.eq_iff_iff,h];simp only [Bool.and_eq_true,decide_eq_true_eq]
 constructor
 ·rintro ⟨⟨a,b,c⟩,d⟩
  split at d
  ·omega
  ·split at d
   ·omega
   ·exact ⟨by omega,by omega,by omega,a,b,c⟩
 ·rintro ⟨a1,a2,a3,a,b,c⟩
  exact ⟨⟨a,b,c⟩,by rw [if_neg (by omega),if_neg (by omega)]⟩
theorem en_1 (e : En) : enK 1 e = decide (ckE e = 0):=by unfold enK;simp
theorem en_3 (e : En) : enK 3 e = decide (ckE e = 0):=by unfold enK;simp
theorem en_13 (e : En) : enK 13 e = (decide (ckE e = 0) && (decide (e.o.k = 3) || decide (e.o.k = 4))):=by unfold enK;simp
theorem tmod_in {x n : Int} (hx : 0 ≤ x) (hn : 0 < n) : 0 ≤ x.tmod n∧x.tmod n < n:=⟨Int.tmod_nonneg _ hx,Int.tmod_lt_of_pos _ hn⟩
theorem en_z (e : En) : enb e zEn = decide (e = zEn):=by
 rw [Bool.eq_iff_iff,enb_iff,decide_eq_true_eq]
theorem ite_eq_t {c : Prop} [Decidable c] {x : Bool} : ((if c then false else x) = true) = (¬ c∧x = true):=by by_cases h : c <;> simp [h]
theorem lg_nil {r : Int} (h : 1 ≤ r) : lg [] r = 0:=by unfold lg;rw [if_neg (by simp;omega)];rfl
theorem apB_iff (p c r : Int) : (apB p c r = true) = ((c = 7∧p = 0) ∨ (¬ c = 7∧1 ≤ p∧p ≤ r)):=by
 unfold apB inR
 by_cases h : c = 7 <;> simp [h]
theorem own_at (nd : Int) (D : List (Int × Int)) (d : Int × Int) (h0 : 0 ≤ nd) (h1 : nd < (D.length : Int)) : D[nd.toNat]? = some d ↔ d = D.getD nd.toNat (0,0):=by
 have hl : nd.toNat < D.length:=by omega
 rw [List.getD_eq_getElem?_getD,List.getElem?_eq_getElem hl]
 constructor
 ·intro h;exact (Option.some.inj h).symm
 ·intro h;exact congrArg some h.symm
theorem lg_len {L : List En} {r : Int} (h : lg L r = 0) : (L.length : Int) ≤ r:=by
 unfold lg at h
 by_cases hr : r < L.length
 ·rw [if_pos hr] at h;omega
 ·omega
set_option maxHeartbeats 4000000 in
theorem docm_1 (f r : Int) (m : Mg) (L : List En) (D : List (Int × Int)) (hf1 : 1 ≤ f) (hf2 : f ≤ 3) (hr1 : 1 ≤ r) (hr2 : r ≤ 256) : (unG m L.length D.length false false false false false false true false false false && fiG f r m L D 1 false false false false false false true false false false) = (keepB f r m L D 0 0 && (keepB f r m L D 1 0 && (keepB f r m L D 2 0 && (keepB f r m L D 3 0 && (keepB f r m L D 4 0 && (keepB f r m L D 5 0 && (keepB f r m L D 6 13 && (keepB f r m L D 7 0 && (keepB f r m L D 8 0 && (keepB f r m L D 9 0 && true)))))))))):=by
 have T : m.vw < 0 ∨ (0 ≤ m.vw.tmod (2 * f + 1)∧m.vw.tmod (2 * f + 1) < 2 * f + 1):=by
  by_cases h : m.vw < 0
  ·exact .inl h
  ·exact .inr (tmod_in (by omega) (by omega))
 have G : ¬ lg L r = 0 ∨ (L.length : Int) ≤ r:=by
  by_cases h : lg L r = 0
  ·exact .inr (lg_len h)
  ·exact .inl h
 rw [Bool.eq_iff_iff];simp only [unG,fiG,keepB,blB,inR,prB,plB,owB,rdB,chk_one,chk_lg hr1 hr2,nmB_en m.e 14 (Or.inr rfl),en_1,en_3,en_13,en_z,Bool.true_or,Bool.false_or,Bool.true_and,Bool.false_and,Bool.or_false,Bool.and_true,Bool.not_true,Bool.not_false,Bool.or_true,Bool.and_false,Bool.and_eq_true,Bool.or_eq_true,decide_eq_true_eq,ite_eq_t,apB_iff,Bool.false_eq_true,if_false,if_true,Int.reduceEq,decide_false,decide_true,bne_iff_ne,ne_eq,decide_eq_decide,Bool.not_eq_true',decide_eq_false_iff_not,Nat.reduceEqDiff,reduceIte,Nat.one_ne_zero,and_true,and_assoc,not_or,not_and,not_not,Bool.not_eq_true]
 generalize m.vw.tmod (2 * f + 1) = q at *
 constructor <;> intro h <;> (repeat' apply And.intro) <;> first | omega | (simp [h];done)
set_option maxHeartbeats 4000000 in
theorem docm_2 (f r : Int) (m : Mg) (L : List En) (D : List (Int × Int)) (hf1 : 1 ≤ f) (hf2 : f ≤ 3) (hr1 : 1 ≤ r) (hr2 : r ≤ 256) : (unG m L.length D.length true true false true false false true true false false && fiG f r m L D 2 true true false true false false true true false false) = (keepB f r m L D 0 1 && (keepB f r m L D 1 3 && (keepB f r m L D 2 0 && (keepB f r m L D 3 8 && (keepB f r m L D 4 0 && (keepB f r m L D 5 0 && (keepB f r m L D 6 15 && (keepB f r m L D 7 16 && (keepB f r m L D 8 0 && (keepB f r m L D 9 0 && true)))))))))):=by
 have T : m.vw < 0 ∨ (0 ≤ m.vw.tmod (2 * f + 1)∧m.vw.tmod (2 * f + 1) < 2 * f + 1):=by
  by_cases h : m.vw < 0
  ·exact .inl h
  ·exact .inr (tmod_in (by omega) (by omega))
 have G : ¬ lg L r = 0 ∨ (L.length : Int) ≤ r:=by
  by_cases h : lg L r = 0
  ·exact .inr (lg_len h)
  ·exact .inl h
 rw [Bool.eq_iff_iff];simp only [unG,fiG,keepB,blB,inR,prB,plB,owB,rdB,chk_one,chk_lg hr1 hr2,nmB_en m.e 2 (Or.inl rfl),en_1,en_3,en_13,en_z,Bool.true_or,Bool.false_or,Bool.true_and,Bool.false_and,Bool.or_false,Bool.and_true,Bool.not_true,Bool.not_false,Bool.or_true,Bool.and_false,Bool.and_eq_true,Bool.or_eq_true,decide_eq_true_eq,ite_eq_t,apB_iff,Bool.false_eq_true,if_false,if_true,Int.reduceEq,decide_false,decide_true,bne_iff_ne,ne_eq,decide_eq_decide,Bool.not_eq_true',decide_eq_false_iff_not,Nat.reduceEqDiff,reduceIte,Nat.one_ne_zero,and_true,and_assoc,not_or,not_and,not_not,Bool.not_eq_true]
 generalize m.vw.tmod (2 * f + 1) = q at *
 constructor <;> intro h <;> (repeat' apply And.intro) <;> first | omega | (simp [h];done)
set_option maxHeartbeats 4000000 in
theorem docm_3 (f r : Int) (m : Mg) (L : List En) (D : List (Int × Int)) (hf1 : 1 ≤ f) (hf2 : f ≤ 3) (hr1 : 1 ≤ r) (hr2 : r ≤ 256) : (unG m L.length D.length true true false true true false true false false true && fiG f r m L D 3 true true false true true false true false false true) = (keepB f r m L D 0 2 && (keepB f r m L D 1 3 && (keepB f r m L D 2 0 && (keepB f r m L D 3 7 && (keepB f r m L D 4 9 && (keepB f r m L D 5 0 && (keepB f r m L D 6 13 && (keepB f r m L D 7 0 && (keepB f r m L D 8 0 && (keepB f r m L D 9 20 && true)))))))))):=by
 have T : m.vw < 0 ∨ (0 ≤ m.vw.tmod (2 * f + 1)∧m.vw.tmod (2 * f + 1) < 2 * f + 1):=by
  by_cases h : m.vw < 0
  ·exact .inl h
  ·exact .inr (tmod_in (by omega) (by omega))
 have G : ¬ lg L r = 0 ∨ (L.length : Int) ≤ r:=by
  by_cases h : lg L r = 0
  ·exact .inr (lg_len h)
  ·exact .inl h
 rw [Bool.eq_iff_iff];simp only [unG,fiG,keepB,blB,inR,prB,plB,owB,rdB,chk_one,chk_lg hr1 hr2,nmB_en m.e 14 (Or.inr rfl),en_1,en_3,en_13,en_z,Bool.true_or,Bool.false_or,Bool.true_and,Bool.false_and,Bool.or_false,Bool.and_true,Bool.not_true,Bool.not_false,Bool.or_true,Bool.and_false,Bool.and_eq_true,Bool.or_eq_true,decide_eq_true_eq,ite_eq_t,apB_iff,Bool.false_eq_true,if_false,if_true,Int.reduceEq,decide_false,decide_true,bne_iff_ne,ne_eq,decide_eq_decide,Bool.not_eq_true',decide_eq_false_iff_not,Nat.reduceEqDiff,reduceIte,Nat.one_ne_zero,and_true,and_assoc,not_or,not_and,not_not,Bool.not_eq_true]
 generalize m.vw.tmod (2 * f + 1) = q at *
 constructor <;> intro h <;> (repeat' apply And.intro) <;> first | omega | (simp [h];done)
set_option maxHeartbeats 4000000 in
theorem docm_4 (f r : Int) (m : Mg) (L : List En) (D : List (Int × Int)) (hf1 : 1 ≤ f) (hf2 : f ≤ 3) (hr1 : 1 ≤ r) (hr2 : r ≤ 256) : (unG m L.length D.length true true false true false false false false false true && fiG f r m L D 4 true true false true false false false false false true) = (keepB f r m L D 0 1 && (keepB f r m L D 1 3 && (keepB f r m L D 2 0 && (keepB f r m L D 3 6 && (keepB f r m L D 4 0 && (keepB f r m L D 5 0 && (keepB f r m L D 6 0 && (keepB f r m L D 7 0 && (keepB f r m L D 8 0 && (keepB f r m L D 9 20 && true)))))))))):=by
 have T : m.vw < 0 ∨ (0 ≤ m.vw.tmod (2 * f + 1)∧m.vw.tmod (2 * f + 1) < 2 * f + 1):=by
  by_cases h : m.vw < 0
  ·exact .inl h
  ·exact .inr (tmod_in (by omega) (by omega))
 have G : ¬ lg L r = 0 ∨ (L.length : Int) ≤ r:=by
  by_cases h : lg L r = 0
  ·exact .inr (lg_len h)
  ·exact .inl h
 rw [Bool.eq_iff_iff];simp only [unG,fiG,keepB,blB,inR,prB,plB,owB,rdB,chk_one,chk_lg hr1 hr2,nmB_en m.e 14 (Or.inr rfl),en_1,en_3,en_13,en_z,Bool.true_or,Bool.false_or,Bool.true_and,Bool.false_and,Bool.or_false,Bool.and_true,Bool.not_true,Bool.not_false,Bool.or_true,Bool.and_false,Bool.and_eq_true,Bool.or_eq_true,decide_eq_true_eq,ite_eq_t,apB_iff,Bool.false_eq_true,if_false,if_true,Int.reduceEq,decide_false,decide_true,bne_iff_ne,ne_eq,decide_eq_decide,Bool.not_eq_true',decide_eq_false_iff_not,Nat.reduceEqDiff,reduceIte,Nat.one_ne_zero,and_true,and_assoc,not_or,not_and,not_not,Bool.not_eq_true]
 generalize m.vw.tmod (2 * f + 1) = q at *
 constructor <;> intro h <;> (repeat' apply And.intro) <;> first | omega | (simp [h];done)
set_option maxHeartbeats 4000000 in
theorem docm_5 (f r : Int) (m : Mg) (L : List En) (D : List (Int × Int)) (hf1 : 1 ≤ f) (hf2 : f ≤ 3) (hr1 : 1 ≤ r) (hr2 : r ≤ 256) : (unG m L.length D.length true true false false true false false false false true && fiG f r m L D 5 true true false false true false false false false true) = (keepB f r m L D 0 2 && (keepB f r m L D 1 3 && (keepB f r m L D 2 0 && (keepB f r m L D 3 0 && (keepB f r m L D 4 9 && (keepB f r m L D 5 0 && (keepB f r m L D 6 0 && (keepB f r m L D 7 0 && (keepB f r m L D 8 0 && (keepB f r m L D 9 20 && true)))))))))):=by
 have T : m.vw < 0 ∨ (0 ≤ m.vw.tmod (2 * f + 1)∧m.vw.tmod (2 * f + 1) < 2 * f + 1):=by
  by_cases h : m.vw < 0
  ·exact .inl h
  ·exact .inr (tmod_in (by omega) (by omega))
 have G : ¬ lg L r = 0 ∨ (L.length : Int) ≤ r:=by
  by_cases h : lg L r = 0
  ·exact .inr (lg_len h)
  ·exact .inl h
 rw [Bool.eq_iff_iff];simp only [unG,fiG,keepB,blB,inR,prB,plB,owB,rdB,chk_one,chk_lg hr1 hr2,nmB_en m.e 14 (Or.inr rfl),en_1,en_3,en_13,en_z,Bool.true_or,Bool.false_or,Bool.true_and,Bool.false_and,Bool.or_false,Bool.and_true,Bool.not_true,Bool.not_false,Bool.or_true,Bool.and_false,Bool.and_eq_true,Bool.or_eq_true,decide_eq_true_eq,ite_eq_t,apB_iff,Bool.false_eq_true,if_false,if_true,Int.reduceEq,decide_false,decide_true,bne_iff_ne,ne_eq,decide_eq_decide,Bool.not_eq_true',decide_eq_false_iff_not,Nat.reduceEqDiff,reduceIte,Nat.one_ne_zero,and_true,and_assoc,not_or,not_and,not_not,Bool.not_eq_true]
 generalize m.vw.tmod (2 * f + 1) = q at *
 constructor <;> intro h <;> (repeat' apply And.intro) <;> first | omega | (simp [h];done)
set_option maxHeartbeats 4000000 in
theorem docm_6 (f r : Int) (m : Mg) (L : List En) (D : List (Int × Int)) (hf1 : 1 ≤ f) (hf2 : f ≤ 3) (hr1 : 1 ≤ r) (hr2 : r ≤ 256) : (unG m L.length D.length true true false false false false false false false true && fiG f r m L D 6 true true false false false false false false false true) = (keepB f r m L D 0 1 && (keepB f r m L D 1 4 && (keepB f r m L D 2 0 && (keepB f r m L D 3 0 && (keepB f r m L D 4 0 && (keepB f r m L D 5 0 && (keepB f r m L D 6 0 && (keepB f r m L D 7 0 && (keepB f r m L D 8 0 && (keepB f r m L D 9 20 && true)))))))))):=by
 have T : m.vw < 0 ∨ (0 ≤ m.vw.tmod (2 * f + 1)∧m.vw.tmod (2 * f + 1) < 2 * f + 1):=by
  by_cases h : m.vw < 0
  ·exact .inl h
  ·exact .inr (tmod_in (by omega) (by omega))
 have G : ¬ lg L r = 0 ∨ (L.length : Int) ≤ r:=by
  by_cases h : lg L r = 0
  ·exact .inr (lg_len h)
  ·exact .inl h
 rw [Bool.eq_iff_iff];simp only [unG,fiG,keepB,blB,inR,prB,plB,owB,rdB,chk_one,chk_lg hr1 hr2,nmB_en m.e 14 (Or.inr rfl),en_1,en_3,en_13,en_z,Bool.true_or,Bool.false_or,Bool.true_and,Bool.false_and,Bool.or_false,Bool.and_true,Bool.not_true,Bool.not_false,Bool.or_true,Bool.and_false,Bool.and_eq_true,Bool.or_eq_true,decide_eq_true_eq,ite_eq_t,apB_iff,Bool.false_eq_true,if_false,if_true,Int.reduceEq,decide_false,decide_true,bne_iff_ne,ne_eq,decide_eq_decide,Bool.not_eq_true',decide_eq_false_iff_not,Nat.reduceEqDiff,reduceIte,Nat.one_ne_zero,and_true,and_assoc,not_or,not_and,not_not,Bool.not_eq_true]
 generalize m.vw.tmod (2 * f + 1) = q at *
 constructor <;> intro h <;> (repeat' apply And.intro) <;> first | omega | (simp [h];done)
set_option maxHeartbeats 4000000 in
theorem docm_7 (f r : Int) (m : Mg) (L : List En) (D : List (Int × Int)) (hf1 : 1 ≤ f) (hf2 : f ≤ 3) (hr1 : 1 ≤ r) (hr2 : r ≤ 256) : (unG m L.length D.length true true true false true false false false true true && fiG f r m L D 7 true true true false true false false false true true) = (keepB f r m L D 0 1 && (keepB f r m L D 1 4 && (keepB f r m L D 2 5 && (keepB f r m L D 3 0 && (keepB f r m L D 4 10 && (keepB f r m L D 5 0 && (keepB f r m L D 6 0 && (keepB f r m L D 7 0 && (keepB f r m L D 8 18 && (keepB f r m L D 9 20 && true)))))))))):=by
 have T : m.vw < 0 ∨ (0 ≤ m.vw.tmod (2 * f + 1)∧m.vw.tmod (2 * f + 1) < 2 * f + 1):=by
  by_cases h : m.vw < 0
  ·exact .inl h
  ·exact .inr (tmod_in (by omega) (by omega))
 have G : ¬ lg L r = 0 ∨ (L.length : Int) ≤ r:=by
  by_cases h : lg L r = 0
  ·exact .inr (lg_len h)
  ·exact .inl h
 rw [Bool.eq_iff_iff];simp only [unG,fiG,keepB,blB,inR,prB,plB,owB,rdB,chk_one,chk_lg hr1 hr2,nmB_en m.e 14 (Or.inr rfl),en_1,en_3,en_13,en_z,Bool.true_or,Bool.false_or,Bool.true_and,Bool.false_and,Bool.or_false,Bool.and_true,Bool.not_true,Bool.not_false,Bool.or_true,Bool.and_false,Bool.and_eq_true,Bool.or_eq_true,decide_eq_true_eq,ite_eq_t,apB_iff,Bool.false_eq_true,if_false,if_true,Int.reduceEq,decide_false,decide_true,bne_iff_ne,ne_eq,decide_eq_decide,Bool.not_eq_true',decide_eq_false_iff_not,Nat.reduceEqDiff,reduceIte,Nat.one_ne_zero,and_true,and_assoc,not_or,not_and,not_not,Bool.not_eq_true]
 generalize m.vw.tmod (2 * f + 1) = q at *
 constructor <;> intro h <;> (repeat' apply And.intro) <;> first | omega | (simp [h];done)
set_option maxHeartbeats 4000000 in
theorem docm_8 (f r : Int) (m : Mg) (L : List En) (D : List (Int × Int)) (hf1 : 1 ≤ f) (hf2 : f ≤ 3) (hr1 : 1 ≤ r) (hr2 : r ≤ 256) : (unG m L.length D.length true true false false true false false false true true && fiG f r m L D 8 true true false false true false false false true true) = (keepB f r m L D 0 2 && (keepB f r m L D 1 4 && (keepB f r m L D 2 0 && (keepB f r m L D 3 0 && (keepB f r m L D 4 10 && (keepB f r m L D 5 0 && (keepB f r m L D 6 0 && (keepB f r m L D 7 0 && (keepB f r m L D 8 18 && (keepB f r m L D 9 20 && true)))))))))):=by
 have T : m.vw < 0 ∨ (0 ≤ m.vw.tmod (2 * f + 1)∧m.vw.tmod (2 * f + 1) < 2 * f + 1):=by
  by_cases h : m.vw < 0
  ·exact .inl h
  ·exact .inr (tmod_in (by omega) (by omega))
 have G : ¬ lg L r = 0 ∨ (L.length : Int) ≤ r:=by
  by_cases h : lg L r = 0
  ·exact .inr (lg_len h)
  ·exact .inl h
 rw [Bool.eq_iff_iff];simp only [unG,fiG,keepB,blB,inR,prB,plB,owB,rdB,chk_one,chk_lg hr1 hr2,nmB_en m.e 14 (Or.inr rfl),en_1,en_3,en_13,en_z,Bool.true_or,Bool.false_or,Bool.true_and,Bool.false_and,Bool.or_false,Bool.and_true,Bool.not_true,Bool.not_false,Bool.or_true,Bool.and_false,Bool.and_eq_true,Bool.or_eq_true,decide_eq_true_eq,ite_eq_t,apB_iff,Bool.false_eq_true,if_false,if_true,Int.reduceEq,decide_false,decide_true,bne_iff_ne,ne_eq,decide_eq_decide,Bool.not_eq_true',decide_eq_false_iff_not,Nat.reduceEqDiff,reduceIte,Nat.one_ne_zero,and_true,and_assoc,not_or,not_and,not_not,Bool.not_eq_true]
 generalize m.vw.tmod (2 * f + 1) = q at *
 constructor <;> intro h <;> (repeat' apply And.intro) <;> first | omega | (simp [h];done)
set_option maxHeartbeats 4000000 in
theorem docm_9 (f r : Int) (m : Mg) (L : List En) (D : List (Int × Int)) (hf1 : 1 ≤ f) (hf2 : f ≤ 3) (hr1 : 1 ≤ r) (hr2 : r ≤ 256) : (unG m L.length D.length true false false false false true false false false true && fiG f r m L D 9 true false false false false true false false false true) = (keepB f r m L D 0 1 && (keepB f r m L D 1 0 && (keepB f r m L D 2 0 && (keepB f r m L D 3 0 && (keepB f r m L D 4 0 && (keepB f r m L D 5 12 && (keepB f r m L D 6 0 && (keepB f r m L D 7 0 && (keepB f r m L D 8 0 && (keepB f r m L D 9 20 && true)))))))))):=by
 have T : m.vw < 0 ∨ (0 ≤ m.vw.tmod (2 * f + 1)∧m.vw.tmod (2 * f + 1) < 2 * f + 1):=by
  by_cases h : m.vw < 0
  ·exact .inl h
  ·exact .inr (tmod_in (by omega) (by omega))
 have G : ¬ lg L r = 0 ∨ (L.length : Int) ≤ r:=by
  by_cases h : lg L r = 0
  ·exact .inr (lg_len h)
  ·exact .inl h
 rw [Bool.eq_iff_iff];simp only [unG,fiG,keepB,blB,inR,prB,plB,owB,rdB,chk_one,chk_lg hr1 hr2,nmB_en m.e 14 (Or.inr rfl),en_1,en_3,en_13,en_z,Bool.true_or,Bool.false_or,Bool.true_and,Bool.false_and,Bool.or_false,Bool.and_true,Bool.not_true,Bool.not_false,Bool.or_true,Bool.and_false,Bool.and_eq_true,Bool.or_eq_true,decide_eq_true_eq,ite_eq_t,apB_iff,Bool.false_eq_true,if_false,if_true,Int.reduceEq,decide_false,decide_true,bne_iff_ne,ne_eq,decide_eq_decide,Bool.not_eq_true',decide_eq_false_iff_not,Nat.reduceEqDiff,reduceIte,Nat.one_ne_zero,and_true,and_assoc,not_or,not_and,not_not,Bool.not_eq_true]
 generalize m.vw.tmod (2 * f + 1) = q at *
 have W : 0 ≤ m.nd → m.nd < (D.length : Int) → (D[m.nd.toNat]? = some m.d ↔ m.d = D.getD m.nd.toNat (0,0)):=own_at m.nd D m.d
 generalize (D[m.nd.toNat]? = some m.d) = X at *
 generalize (m.d = D.getD m.nd.toNat (0,0)) = Y at *
 constructor
 ·intro h
  obtain ⟨b1,b2,b3,b4,b5,b6,b7,b8,b9,b10,b11,b12⟩:=h
  exact ⟨by omega,by omega,b1,b2,b3,b4,b11,by omega,by omega,(W (by omega) (by omega)).2 b12,b5,b6,by omega,b10⟩
 ·intro h
  obtain ⟨b1,b2,b3,b4,b5,b6,b7,b8,b9,b10,b11,b12,b13,b14⟩:=h
  exact ⟨b3,b4,b5,b6,b11,b12,by omega,by omega,by omega,b14,b7,(W (by omega) (by omega)).1 b10⟩
set_option maxHeartbeats 4000000 in
theorem docm_10 (f r : Int) (m : Mg) (L : List En) (D : List (Int × Int)) (hf1 : 1 ≤ f) (hf2 : f ≤ 3) (hr1 : 1 ≤ r) (hr2 : r ≤ 256) : (unG m L.length D.length true true false false true true false false true true && fiG f r m L D 10 true true false false true true false false true true) = (keepB f r m L D 0 1 && (keepB f r m L D 1 3 && (keepB f r m L D 2 0 && (keepB f r m L D 3 0 && (keepB f r m L D 4 10 && (keepB f r m L D 5 11 && (keepB f r m L D 6 0 && (keepB f r m L D 7 0 && (keepB f r m L D 8 19 && (keepB f r m L D 9 20 && true)))))))))):=by
 have T : m.vw < 0 ∨ (0 ≤ m.vw.tmod (2 * f + 1)∧m.vw.tmod (2 * f + 1) < 2 * f + 1):=by
  by_cases h : m.vw < 0
  ·exact .inl h
  ·exact .inr (tmod_in (by omega) (by omega))
 have G : ¬ lg L r = 0 ∨ (L.length : Int) ≤ r:=by
  by_cases h : lg L r = 0
  ·exact .inr (lg_len h)
  ·exact .inl h
 rw [Bool.eq_iff_iff];simp only [unG,fiG,keepB,blB,inR,prB,plB,owB,rdB,chk_one,chk_lg hr1 hr2,nmB_en m.e 14 (Or.inr rfl),en_1,en_3,en_13,en_z,Bool.true_or,Bool.false_or,Bool.true_and,Bool.false_and,Bool.or_false,Bool.and_true,Bool.not_true,Bool.not_false,Bool.or_true,Bool.and_false,Bool.and_eq_true,Bool.or_eq_true,decide_eq_true_eq,ite_eq_t,apB_iff,Bool.false_eq_true,if_false,if_true,Int.reduceEq,decide_false,decide_true,bne_iff_ne,ne_eq,decide_eq_decide,Bool.not_eq_true',decide_eq_false_iff_not,Nat.reduceEqDiff,reduceIte,Nat.one_ne_zero,and_true,and_assoc,not_or,not_and,not_not,Bool.not_eq_true]
 generalize m.vw.tmod (2 * f + 1) = q at *
 have W : L.length = 0 → lg L r = 0:=fun h => by rw [List.length_eq_zero_iff.1 h];exact lg_nil hr1
 generalize lg L r = y at *
 constructor
 ·intro h
  obtain ⟨b1,b2,b3,b4,b5,b6,b7,b8,b9,b10,b11,b12,b13,b14,b15⟩:=h
  exact ⟨by omega,by omega,by omega,by omega,b1,b2,by omega,by omega,b15,b3,b4,by omega,b14⟩
 ·intro h
  obtain ⟨b1,b2,b3,b4,b5,b6,b7,b8,b9,b10,b11,b12,b13⟩:=h
  have y0 : y = 0:=by
   rcases b12 with e | e
   ·exact W e
   ·exact e.2
  have yl : (L.length : Int) ≤ r:=by omega
  exact ⟨b5,b6,b10,b11,by omega,by omega,by omega,by omega,y0,by omega,by omega,by omega,by omega,b13,b9⟩
set_option maxHeartbeats 4000000 in
theorem docm_11 (f r : Int) (m : Mg) (L : List En) (D : List (Int × Int)) (hf1 : 1 ≤ f) (hf2 : f ≤ 3) (hr1 : 1 ≤ r) (hr2 : r ≤ 256) : (unG m L.length D.length true true false false false false false false false true && fiG f r m L D 11 true true false false false false false false false true) = (keepB f r m L D 0 1 && (keepB f r m L D 1 3 && (keepB f r m L D 2 0 && (keepB f r m L D 3 0 && (keepB f r m L D 4 0 && (keepB f r m L D 5 0 && (keepB f r m L D 6 0 && (keepB f r m L D 7 0 && (keepB f r m L D 8 0 && (keepB f r m L D 9 20 && true)))))))))):=by
 have T : m.vw < 0 ∨ (0 ≤ m.vw.tmod (2 * f + 1)∧m.vw.tmod (2 * f + 1) < 2 * f + 1):=by
  by_cases h : m.vw < 0
  ·exact .inl h
  ·exact .inr (tmod_in (by omega) (by omega))
 have G : ¬ lg L r = 0 ∨ (L.length : Int) ≤ r:=by
  by_cases h : lg L r = 0
  ·exact .inr (lg_len h)
  ·exact .inl h
 rw [Bool.eq_iff_iff];simp only [unG,fiG,keepB,blB,inR,prB,plB,owB,rdB,chk_one,chk_lg hr1 hr2,nmB_en m.e 14 (Or.inr rfl),en_1,en_3,en_13,en_z,Bool.true_or,Bool.false_or,Bool.true_and,Bool.false_and,Bool.or_false,Bool.and_true,Bool.not_true,Bool.not_false,Bool.or_true,Bool.and_false,Bool.and_eq_true,Bool.or_eq_true,decide_eq_true_eq,ite_eq_t,apB_iff,Bool.false_eq_true,if_false,if_true,Int.reduceEq,decide_false,decide_true,bne_iff_ne,ne_eq,decide_eq_decide,Bool.not_eq_true',decide_eq_false_iff_not,Nat.reduceEqDiff,reduceIte,Nat.one_ne_zero,and_true,and_assoc,not_or,not_and,not_not,Bool.not_eq_true]
 generalize m.vw.tmod (2 * f + 1) = q at *
 constructor <;> intro h <;> (repeat' apply And.intro) <;> first | omega | (simp [h];done)
set_option maxHeartbeats 4000000 in
theorem docm_12 (f r : Int) (m : Mg) (L : List En) (D : List (Int × Int)) (hf1 : 1 ≤ f) (hf2 : f ≤ 3) (hr1 : 1 ≤ r) (hr2 : r ≤ 256) : (unG m L.length D.length true true false false true false false false true true && fiG f r m L D 12 true true false false true false false false true true) = (keepB f r m L D 0 1 && (keepB f r m L D 1 3 && (keepB f r m L D 2 0 && (keepB f r m L D 3 0 && (keepB f r m L D 4 10 && (keepB f r m L D 5 0 && (keepB f r m L D 6 0 && (keepB f r m L D 7 0 && (keepB f r m L D 8 18 && (keepB f r m L D 9 20 && true)))))))))):=by
 have T : m.vw < 0 ∨ (0 ≤ m.vw.tmod (2 * f + 1)∧m.vw.tmod (2 * f + 1) < 2 * f + 1):=by
  by_cases h : m.vw < 0
  ·exact .inl h
  ·exact .inr (tmod_in (by omega) (by omega))
 have G : ¬ lg L r = 0 ∨ (L.length : Int) ≤ r:=by
  by_cases h : lg L r = 0
  ·exact .inr (lg_len h)
  ·exact .inl h
 rw [Bool.eq_iff_iff];simp only [unG,fiG,keepB,blB,inR,prB,plB,owB,rdB,chk_one,chk_lg hr1 hr2,nmB_en m.e 14 (Or.inr rfl),en_1,en_3,en_13,en_z,Bool.true_or,Bool.false_or,Bool.true_and,Bool.false_and,Bool.or_false,Bool.and_true,Bool.not_true,Bool.not_false,Bool.or_true,Bool.and_false,Bool.and_eq_true,Bool.or_eq_true,decide_eq_true_eq,ite_eq_t,apB_iff,Bool.false_eq_true,if_false,if_true,Int.reduceEq,decide_false,decide_true,bne_iff_ne,ne_eq,decide_eq_decide,Bool.not_eq_true',decide_eq_false_iff_not,Nat.reduceEqDiff,reduceIte,Nat.one_ne_zero,and_true,and_assoc,not_or,not_and,not_not,Bool.not_eq_true]
 generalize m.vw.tmod (2 * f + 1) = q at *
 constructor <;> intro h <;> (repeat' apply And.intro) <;> first | omega | (simp [h];done)
set_option maxHeartbeats 4000000 in
theorem docm_13 (f r : Int) (m : Mg) (L : List En) (D : List (Int × Int)) (hf1 : 1 ≤ f) (hf2 : f ≤ 3) (hr1 : 1 ≤ r) (hr2 : r ≤ 256) : (unG m L.length D.length false false false true false false true false false false && fiG f r m L D 13 false false false true false false true false false false) = (keepB f r m L D 0 0 && (keepB f r m L D 1 0 && (keepB f r m L D 2 0 && (keepB f r m L D 3 6 && (keepB f r m L D 4 0 && (keepB f r m L D 5 0 && (keepB f r m L D 6 14 && (keepB f r m L D 7 0 && (keepB f r m L D 8 0 && (keepB f r m L D 9 0 && true)))))))))):=by
 have T : m.vw < 0 ∨ (0 ≤ m.vw.tmod (2 * f + 1)∧m.vw.tmod (2 * f + 1) < 2 * f + 1):=by
  by_cases h : m.vw < 0
  ·exact .inl h
  ·exact .inr (tmod_in (by omega) (by omega))
 have G : ¬ lg L r = 0 ∨ (L.length : Int) ≤ r:=by
  by_cases h : lg L r = 0
  ·exact .inr (lg_len h)
  ·exact .inl h
 rw [Bool.eq_iff_iff];simp only [unG,fiG,keepB,blB,inR,prB,plB,owB,rdB,chk_one,chk_lg hr1 hr2,nmB_en m.e 14 (Or.inr rfl),en_1,en_3,en_13,en_z,Bool.true_or,Bool.false_or,Bool.true_and,Bool.false_and,Bool.or_false,Bool.and_true,Bool.not_true,Bool.not_false,Bool.or_true,Bool.and_false,Bool.and_eq_true,Bool.or_eq_true,decide_eq_true_eq,ite_eq_t,apB_iff,Bool.false_eq_true,if_false,if_true,Int.reduceEq,decide_false,decide_true,bne_iff_ne,ne_eq,decide_eq_decide,Bool.not_eq_true',decide_eq_false_iff_not,Nat.reduceEqDiff,reduceIte,Nat.one_ne_zero,and_true,and_assoc,not_or,not_and,not_not,Bool.not_eq_true]
 generalize m.vw.tmod (2 * f + 1) = q at *
 constructor <;> intro h <;> (repeat' apply And.intro) <;> first | omega | (simp [h];done)
set_option maxHeartbeats 4000000 in
theorem docm_14 (f r : Int) (m : Mg) (L : List En) (D : List (Int × Int)) (hf1 : 1 ≤ f) (hf2 : f ≤ 3) (hr1 : 1 ≤ r) (hr2 : r ≤ 256) : (unG m L.length D.length true true false false true false true true false false && fiG f r m L D 14 true true false false true false true true false false) = (keepB f r m L D 0 1 && (keepB f r m L D 1 3 && (keepB f r m L D 2 0 && (keepB f r m L D 3 0 && (keepB f r m L D 4 9 && (keepB f r m L D 5 0 && (keepB f r m L D 6 15 && (keepB f r m L D 7 17 && (keepB f r m L D 8 0 && (keepB f r m L D 9 0 && true)))))))))):=by
 have T : m.vw < 0 ∨ (0 ≤ m.vw.tmod (2 * f + 1)∧m.vw.tmod (2 * f + 1) < 2 * f + 1):=by
  by_cases h : m.vw < 0
  ·exact .inl h
  ·exact .inr (tmod_in (by omega) (by omega))
 have G : ¬ lg L r = 0 ∨ (L.length : Int) ≤ r:=by
  by_cases h : lg L r = 0
  ·exact .inr (lg_len h)
  ·exact .inl h
 rw [Bool.eq_iff_iff];simp only [unG,fiG,keepB,blB,inR,prB,plB,owB,rdB,chk_one,chk_lg hr1 hr2,nmB_en m.e 14 (Or.inr rfl),en_1,en_3,en_13,en_z,Bool.true_or,Bool.false_or,Bool.true_and,Bool.false_and,Bool.or_false,Bool.and_true,Bool.not_true,Bool.not_false,Bool.or_true,Bool.and_false,Bool.and_eq_true,Bool.or_eq_true,decide_eq_true_eq,ite_eq_t,apB_iff,Bool.false_eq_true,if_false,if_true,Int.reduceEq,decide_false,decide_true,bne_iff_ne,ne_eq,decide_eq_decide,Bool.not_eq_true',decide_eq_false_iff_not,Nat.reduceEqDiff,reduceIte,Nat.one_ne_zero,and_true,and_assoc,not_or,not_and,not_not,Bool.not_eq_true]
 generalize m.vw.tmod (2 * f + 1) = q at *
 constructor <;> intro h <;> (repeat' apply And.intro) <;> first | omega | (simp [h];done)
structure CfB (w : World) (q : Nat) (c : Cf) : Prop where
 lt : q < w.heap.size
 cell : ∀ i x,([.int .i64 c.f,.int .i64 c.r,.int .i64 c.p,.bool c.u] : List Value)[i]? = some x → w.cell? ⟨q,i,none⟩ = some x
theorem CfB.bel {w w' : World} {q : Nat} {c : Cf} (h : CfB w q c) (hb : Below w.heap.size w w') : CfB w' q c:=⟨Nat.lt_of_lt_of_le h.lt hb.size,fun i x hx => (hb.cell (p:=⟨q,i,none⟩) h.lt).trans (h.cell i x hx)⟩
theorem CfB.ldAll {w : World} {q : Nat} {c : Cf} (h : CfB w q c) : (Instr.loadAt 23 (.pointer (some ⟨q,0,none⟩))).run Tryz.prog w = .ok (.agg #[.int .i64 c.f,.int .i64 c.r,.int .i64 c.p,.bool c.u]) w:=by
 have c0:=h.cell 0 _ rfl;have c1:=h.cell 1 _ rfl;have c2:=h.cell 2 _ rfl;have c3:=h.cell 3 _ rfl
 go_simp
theorem MBox.ldAll {w : World} {q : Nat} {m : Mg} {s t : Value} (h : MBox w q m s t) : (Instr.loadAt 45 (.pointer (some ⟨q,0,none⟩))).run Tryz.prog w = .ok (m.val s t) w:=by
 obtain ⟨x0,x1,x2,x3,x4,x5,x6,x7,x8,x9,x10,x11,x12,x13,x14,x15,x16,x17⟩:=h.all
 go_simp
 rfl
theorem cfB_r {c : Cf} (h : cfB c = true) : 1 ≤ c.r∧c.r ≤ 256:=by
 unfold cfB inR at h
 simp at h
 omega
theorem usL_none {k : Int} (h : ((usL k).length : Int) = 0) : kdB k = false:=by
 cases hk : kdB k with
 | false => rfl
 | true =>
  unfold kdB inR at hk
  simp at hk
  have : k = 1 ∨ k = 2 ∨ k = 3 ∨ k = 4 ∨ k = 5 ∨ k = 6 ∨ k = 7 ∨ k = 8 ∨ k = 9 ∨ k = 10 ∨ k = 11 ∨ k = 12 ∨ k = 13 ∨ k = 14:=by omega
  rcases this with rfl | rfl | rfl | rfl | rfl | rfl | rfl | rfl | rfl | rfl | rfl | rfl | rfl | rfl <;> revert h <;> decide
theorem usL_some {k : Int} (h : ¬ ((usL k).length : Int) = 0) : kdB k = true:=by
 cases hk : kdB k with
 | true => rfl
 | false =>
  unfold kdB inR at hk
  simp at hk
  refine absurd ?_ h
  unfold usL usN
  rw [if_neg (show ¬ k = 1 by omega),if_neg (show ¬ k = 2 by omega),if_neg (show ¬ k = 3 by omega),if_neg (show ¬ k = 4 by omega),if_neg (show ¬ k = 5 by omega),if_neg (show ¬ k = 6 by omega),if_neg (show ¬ k = 7 by omega),if_neg (show ¬ k = 8 by omega),if_neg (show ¬ k = 9 by omega),if_neg (show ¬ k = 10 by omega),if_neg (show ¬ k = 11 by omega),if_neg (show ¬ k = 12 by omega),if_neg (show ¬ k = 13 by omega),if_neg (show ¬ k = 14 by omega)]
  rfl
theorem doc_all (k : Int) (hk : kdB k = true) : ∃ u0 u1 u2 u3 u4 u5 u6 u7 u8 u9 : Bool,usL k = [u0,u1,u2,u3,u4,u5,u6,u7,u8,u9]∧(k = 9 → u0 = true∧u9 = true)∧∀ (f r : Int) (m : Mg) (L : List En) (D : List (Int × Int)),m.k = k → 1 ≤ f → f ≤ 3 → 1 ≤ r → r ≤ 256 → (unG m L.length D.length u0 u1 u2 u3 u4 u5 u6 u7 u8 u9 && fiG f r m L D k u0 u1 u2 u3 u4 u5 u6 u7 u8 u9) = (List.range 10).all (fun j => keepB f r m L D j (tabA k.toNat j)):=by
 unfold kdB inR at hk
 simp at hk
 have : k = 1 ∨ k = 2 ∨ k = 3 ∨ k = 4 ∨ k = 5 ∨ k = 6 ∨ k = 7 ∨ k = 8 ∨ k = 9 ∨ k = 10 ∨ k = 11 ∨ k = 12 ∨ k = 13 ∨ k = 14:=by omega
 rcases this with rfl | rfl | rfl | rfl | rfl | rfl | rfl | rfl | rfl | rfl | rfl | rfl | rfl | rfl
 ·exact ⟨false,false,false,false,false,false,true,false,false,false,rfl,fun h => absurd h (by decide),fun f r m L D _ h1 h2 h3 h4 => (docm_1 f r m L D h1 h2 h3 h4).trans rfl⟩
 ·exact ⟨true,true,false,true,false,false,true,true,false,false,rfl,fun h => absurd h (by decide),fun f r m L D _ h1 h2 h3 h4 => (docm_2 f r m L D h1 h2 h3 h4).trans rfl⟩
 ·exact ⟨true,true,false,true,true,false,true,false,false,true,rfl,fun h => absurd h (by decide),fun f r m L D _ h1 h2 h3 h4 => (docm_3 f r m L D h1 h2 h3 h4).trans rfl⟩
 ·exact ⟨true,true,false,true,false,false,false,false,false,true,rfl,fun h => absurd h (by decide),fun f r m L D _ h1 h2 h3 h4 => (docm_4 f r m L D h1 h2 h3 h4).trans rfl⟩
 ·exact ⟨true,true,false,false,true,false,false,false,false,true,rfl,fun h => absurd h (by decide),fun f r m L D _ h1 h2 h3 h4 => (docm_5 f r m L D h1 h2 h3 h4).trans rfl⟩
 ·exact ⟨true,true,false,false,false,false,false,false,false,true,rfl,fun h => absurd h (by decide),fun f r m L D _ h1 h2 h3 h4 => (docm_6 f r m L D h1 h2 h3 h4).trans rfl⟩
 ·exact ⟨true,true,true,false,true,false,false,false,true,true,rfl,fun h => absurd h (by decide),fun f r m L D _ h1 h2 h3 h4 => (docm_7 f r m L D h1 h2 h3 h4).trans rfl⟩
 ·exact ⟨true,true,false,false,true,false,false,false,true,true,rfl,fun h => absurd h (by decide),fun f r m L D _ h1 h2 h3 h4 => (docm_8 f r m L D h1 h2 h3 h4).trans rfl⟩
 ·exact ⟨true,false,false,false,false,true,false,false,false,true,rfl,fun _ => ⟨rfl,rfl⟩,fun f r m L D _ h1 h2 h3 h4 => (docm_9 f r m L D h1 h2 h3 h4).trans rfl⟩
 ·exact ⟨true,true,false,false,true,true,false,false,true,true,rfl,fun h => absurd h (by decide),fun f r m L D _ h1 h2 h3 h4 => (docm_10 f r m L D h1 h2 h3 h4).trans rfl⟩
 ·exact ⟨true,true,false,false,false,false,false,false,false,true,rfl,fun h => absurd h (by decide),fun f r m L D _ h1 h2 h3 h4 => (docm_11 f r m L D h1 h2 h3 h4).trans rfl⟩
 ·exact ⟨true,true,false,false,true,false,false,false,true,true,rfl,fun h => absurd h (by decide),fun f r m L D _ h1 h2 h3 h4 => (docm_12 f r m L D h1 h2 h3 h4).trans rfl⟩
 ·exact ⟨false,false,false,true,false,false,true,false,false,false,rfl,fun h => absurd h (by decide),fun f r m L D _ h1 h2 h3 h4 => (docm_13 f r m L D h1 h2 h3 h4).trans rfl⟩
 ·exact ⟨true,true,false,false,true,false,true,true,false,false,rfl,fun h => absurd h (by decide),fun f r m L D _ h1 h2 h3 h4 => (docm_14 f r m L D h1 h2 h3 h4).trans rfl⟩
set_option maxHeartbeats 8000000 in
theorem refcheck7 (c : Cf) (m : Mg) (a1 a2 : Option Addr) (cl cv : Nat) (L : List En) (D : List (Int × Int)) (w : World) (hL : SlY yE w a1 L.length cl L) (hfit : ∀ e ∈ L,e.fits) (hD : SlY yD w a2 D.length cv D) (hfe : m.e.fits) :
  Calls Tryz.prog 8 #[c.val,m.val (.slice a1 L.length cl) (.slice a2 D.length cv)] w fun e w' => e = .returned (.int .i64 (ckM c m L D))∧Below w.heap.size w w':=by
 go_enter Tryz.func8,Tryz.ntmps8
 go_upto_region 1 with (refine boxMk rfl (.tmp 1) rfl m _ _ rfl ?_;intro q1 w1 hq1 M1 b1 z1)
 have hq2 : q1 = w.heap.size + 1:=by first | exact hq1 | simpa using hq1
 subst hq2;have hB : Below w.heap.size w w1:=((Below.refl _ _).alloc (Nat.le_refl _) _).trans (b1.mono (by simp))
 have hc1 : CfB w1 w.heap.size c:=⟨Nat.lt_of_succ_lt M1.lt,fun i x hx => (b1.cell (p:=⟨w.heap.size,i,none⟩) (by simp)).trans (by
  match i,hx with
  | 0,hx | 1,hx | 2,hx | 3,hx => cases hx;unfold Cf.val;simp
  | (j + 4),hx => simp at hx)⟩
 have HC : Hid (∀ v,Below w1.heap.size w1 v → CfB v w.heap.size c):=fun v hv => hc1.bel hv
 have HM : Hid (∀ v,Below w1.heap.size w1 v → MBox v (w.heap.size + 1) m (.slice a1 L.length cl) (.slice a2 D.length cv)):=fun v hv => M1.bel hv
 have HB : Hid (∀ v,Below w1.heap.size w1 v → Below w.heap.size w v):=fun v hv => hB.trans (hv.mono hB.size)
 have HL : Hid (∀ v,Below w1.heap.size w1 v → SlY yE v a1 L.length cl L):=fun v hv => hL.later (HB.out v hv)
 have HD : Hid (∀ v,Below w1.heap.size w1 v → SlY yD v a2 D.length cv D):=fun v hv => hD.later (HB.out v hv)
 have HFI:=hide hfit;have HFE:=hide hfe.ow;have h1 : Below w1.heap.size w1 w1:=Below.refl _ _;clear M1 b1 z1 hB hq1 hc1 hL hD hfit hfe;refine wp_region_lit ?_;refine vl_gen (fun T => T.size = 29∧T[2]? = some (gw true (.pointer (some ⟨w.heap.size,0,none⟩)))∧T[3]? = some (gw true (.pointer (some ⟨w.heap.size + 1,0,none⟩)))) ⟨rfl,rfl,rfl⟩ (fun T0 ⟨hz,s2,s3⟩ => ?_);refine vt (.agg #[.int .i64 c.f,.int .i64 c.r,.int .i64 c.p,.bool c.u]) (ex_ld rfl (ev s2 rfl) ((HC.out w1 h1).ldAll)) hz (fun Ya zz kk s7 => ?_);replace s2:=ku s2;replace s3:=ku s3;replace hz:=zz;clear kk zz;refine vcall true (.bool (cfB c)) (want_none rfl) (fun hc => by unfold execOp;simp only [resolve,invoke,Sem.run_bind,List.map_toArray,List.map_cons,List.map_nil,(ev s7 rfl)];rfl) (fun hc => refConfig7 c w1) rfl hz (by decide) (fun Yb w2 hb zz kk s8 => ?_);have h2:=h1.trans (hb.mono h1.size);clear hb;replace s2:=ku s2;replace s3:=ku s3;replace hz:=zz;clear kk zz s7 Ya;refine vt (.bool (!(cfB c))) (ex_not rfl (ev s8 rfl)) hz (fun Yc zz kk s9 => ?_);replace s2:=ku s2;replace s3:=ku s3;replace hz:=zz;clear kk zz s8 Yb;refine wpList_nil ?_
 go_upto_region 3 with fail
 cases e1 : (!(cfB c))
 rotate_left
 ·refine wp_cond_true ((ev s9 rfl).trans (congrArg Value.bool e1)) ?_
  have HV:=hide (HB.out _ h2);have V2:=hide (show ckM c m L D = 1 from by unfold ckM;rw [if_pos (by simpa using e1)])
  go_wp2
  refine bodyPost_ret (results_tmp rfl _ _ _) rfl ⟨?_,HV.out⟩;rw [V2.out]
  show Ending.returned ((Array.setIfInBounds _ 4 (Value.int IntKind.i64 1)).getD 4 undef) = _
  rw [getD_of (at_set _ (by rw [hz];decide))]
 refine wp_cond_false ((ev s9 rfl).trans (congrArg Value.bool e1)) ?_
 go_upto_region 3 with fail
 clear s9;refine wp_region_lit ?_;refine vt (.pointer (some ⟨w.heap.size + 1,0,none⟩)) (ex_fa rfl (ev s3 rfl) (MBox.faKind _ _)) hz (fun Yd zz kk s10 => ?_);replace s2:=ku s2;replace s3:=ku s3;replace hz:=zz;clear kk zz;refine vt (.int .i64 m.k) (ex_ld rfl (ev s10 rfl) ((HM.out w2 h2).ldKind)) hz (fun Ye zz kk s11 => ?_);replace s2:=ku s2;replace s3:=ku s3;replace hz:=zz;clear kk zz s10 Yd;refine vt _ (ex_assign rfl (ev s11 rfl)) hz (fun Yf zz kk s5 => ?_);replace s2:=ku s2;replace s3:=ku s3;replace hz:=zz;clear kk zz s11 Ye;refine wpList_nil ?_
 go_upto_region 4 with fail
 refine wp_region_lit ?_;refine vt _ (ex_move rfl (ev s5 rfl)) hz (fun Yg zz kk s12 => ?_);replace s2:=ku s2;replace s3:=ku s3;replace s5:=ku s5;replace hz:=zz;clear kk zz;refine vcallP (want_none rfl) (by unfold execOp;simp only [resolve,invoke,Sem.run_bind,List.map_toArray,List.map_cons,List.map_nil,(ev s12 rfl)];rfl) (uses_all m.k w2) rfl hz (by decide) ?_;rintro e w3 ⟨v6,rfl,O,hb⟩;obtain ⟨au,cu,rfl,_,_,hau1,hau2⟩:=O.form;refine ⟨_,rfl,fun Yh zz kk s13 => ?_⟩;have h3:=h2.trans (hb.mono h2.size);clear hb;replace s2:=ku s2;replace s3:=ku s3;replace s5:=ku s5;replace hz:=zz;clear kk zz s12 Yg;refine vt _ (ex_assign rfl (ev s13 rfl)) hz (fun Yi zz kk s6 => ?_);replace s2:=ku s2;replace s3:=ku s3;replace s5:=ku s5;replace hz:=zz;clear kk zz s13 Yh;refine wpList_nil ?_
 go_upto_region 5 with fail
 refine wp_region_lit ?_;refine vt _ (ex_move rfl (ev s6 rfl)) hz (fun Yj zz kk s14 => ?_);replace s2:=ku s2;replace s3:=ku s3;replace s5:=ku s5;replace s6:=ku s6;replace hz:=zz;clear kk zz;refine vt (.int .i64 ((usL m.k).length : Int)) (ex_lenB rfl rfl (ev s14 rfl)) hz (fun Yk zz kk s15 => ?_);replace s2:=ku s2;replace s3:=ku s3;replace s5:=ku s5;replace s6:=ku s6;replace hz:=zz;clear kk zz s14 Yj;refine vt (.bool (decide (((usL m.k).length : Int) = 0))) (ex_bin rfl (ev s15 rfl) rfl (eqlC _ _ _ _ _)) hz (fun Yl zz kk s16 => ?_);replace s2:=ku s2;replace s3:=ku s3;replace s5:=ku s5;replace s6:=ku s6;replace hz:=zz;clear kk zz s15 Yk;refine wpList_nil ?_
 go_upto_region 7 with fail
 cases e5 : (decide (((usL m.k).length : Int) = 0))
 rotate_left
 ·refine wp_cond_true ((ev s16 rfl).trans (congrArg Value.bool e5)) ?_
  have HV:=hide (HB.out _ h3);have V2:=hide (show ckM c m L D = 70 from by unfold ckM;rw [if_neg (by simpa using e1),if_pos (usL_none (of_decide_eq_true e5))])
  go_wp2
  refine bodyPost_ret (results_tmp rfl _ _ _) rfl ⟨?_,HV.out⟩;rw [V2.out]
  show Ending.returned ((Array.setIfInBounds _ 4 (Value.int IntKind.i64 70)).getD 4 undef) = _
  rw [getD_of (at_set _ (by rw [hz];decide))]
 refine wp_cond_false ((ev s16 rfl).trans (congrArg Value.bool e5)) ?_
 have hc : cfB c = true:=by simpa using e1
 have hk : kdB m.k = true:=usL_some (of_decide_eq_false e5);obtain ⟨u0,u1,u2,u3,u4,u5,u6,u7,u8,u9,hul,h9,hdoc⟩:=doc_all m.k hk
 have hne : usL m.k ≠ []:=by rw [hul];simp
 obtain ⟨g,rfl⟩ : ∃ g,au = some ⟨g,0,none⟩:=by
  cases au with
  | none => exact absurd (hau1 rfl).1 hne
  | some x => obtain ⟨g,e,_⟩:=hau2 x rfl;exact ⟨g,by rw [e]⟩
 obtain ⟨g2,eg,hgl,hgs⟩:=hau2 _ rfl
 obtain rfl : g = g2:=by simpa using eg
 have HG : Hid (∀ v,Below w3.heap.size w3 v → g < v.heap.size∧∀ (j : Nat) (b : Bool),([u0,u1,u2,u3,u4,u5,u6,u7,u8,u9] : List Bool)[j]? = some b → v.cell? ⟨g,j,none⟩ = some (.bool b)):=fun v hv => ⟨Nat.lt_of_lt_of_le hgs hv.size,fun j b hj => (hv.cell (p:=⟨g,j,none⟩) hgs).trans (by have:=O.cell kB j b (by rw [hul];exact hj) 0 (.bool b) rfl;simpa [yB] using this)⟩
 replace s6 : Yl[6]? = some (gw true (.slice (some ⟨g,0,none⟩) 10 cu)):=by rw [s6,hul];rfl
 have H9:=hide h9;have HF:=hide (cfB_f hc);have HDOC:=hide hdoc;have hcr:=cfB_r hc
 have HM2 : Hid (∀ v,Below w3.heap.size w3 v → Below w1.heap.size w1 v):=fun v hv => h3.trans (hv.mono h3.size)
 replace HM : Hid (∀ v,Below w3.heap.size w3 v → MBox v (w.heap.size + 1) m (.slice a1 L.length cl) (.slice a2 D.length cv)):=fun v hv => HM.out v (HM2.out v hv)
 replace HC : Hid (∀ v,Below w3.heap.size w3 v → CfB v w.heap.size c):=fun v hv => HC.out v (HM2.out v hv)
 replace HL : Hid (∀ v,Below w3.heap.size w3 v → SlY yE v a1 L.length cl L):=fun v hv => HL.out v (HM2.out v hv)
 replace HD : Hid (∀ v,Below w3.heap.size w3 v → SlY yD v a2 D.length cv D):=fun v hv => HD.out v (HM2.out v hv)
 replace HB : Hid (∀ v,Below w3.heap.size w3 v → Below w.heap.size w v):=fun v hv => HB.out v (HM2.out v hv)
 have h3y : Below w3.heap.size w3 w3:=Below.refl _ _;clear O hau1 hau2 eg hgl hgs hne hul h9 hdoc h1 h2 h3 HM2 s16 e5;have h3:=h3y;clear h3y
 go_upto_region 7 with fail
 refine wp_region_lit ?_;refine vt (m.val (.slice a1 L.length cl) (.slice a2 D.length cv)) (ex_ld rfl (ev s3 rfl) ((HM.out w3 h3).ldAll)) hz (fun Ym zz kk s17 => ?_);replace s2:=ku s2;replace s3:=ku s3;replace s5:=ku s5;replace s6:=ku s6;replace hz:=zz;clear kk zz;refine vt _ (ex_move rfl (ev s6 rfl)) hz (fun Yn zz kk s18 => ?_);replace s2:=ku s2;replace s3:=ku s3;replace s5:=ku s5;replace s6:=ku s6;replace s17:=ku s17;replace hz:=zz;clear kk zz Ym;refine vcall true (.bool (unG m L.length D.length u0 u1 u2 u3 u4 u5 u6 u7 u8 u9)) (want_none rfl) (fun hc => by unfold execOp;simp only [resolve,invoke,Sem.run_bind,List.map_toArray,List.map_cons,List.map_nil,(ev s17 rfl),(ev s18 rfl)];rfl) (fun hc => unused_any m a1 a2 L.length cl D.length cv g cu u0 u1 u2 u3 u4 u5 u6 u7 u8 u9 w3 (HG.out w3 h3).1 (HG.out w3 h3).2) rfl hz (by decide) (fun Yo w4 hb zz kk s19 => ?_);have h4:=h3.trans (hb.mono h3.size);clear hb;replace s2:=ku s2;replace s3:=ku s3;replace s5:=ku s5;replace s6:=ku s6;replace hz:=zz;clear kk zz s17 s18 Yn;refine vt (.bool (!(unG m L.length D.length u0 u1 u2 u3 u4 u5 u6 u7 u8 u9))) (ex_not rfl (ev s19 rfl)) hz (fun Yp zz kk s20 => ?_);replace s2:=ku s2;replace s3:=ku s3;replace s5:=ku s5;replace s6:=ku s6;replace hz:=zz;clear kk zz s19 Yo;refine vt _ (ex_move rfl (ev s20 rfl)) hz (fun Yq zz kk s21 => ?_);replace s2:=ku s2;replace s3:=ku s3;replace s5:=ku s5;replace s6:=ku s6;replace hz:=zz;clear kk zz s20 Yp;refine vl _ (.agg #[.int .i64 c.f,.int .i64 c.r,.int .i64 c.p,.bool c.u]) (want_g rfl rfl s21) (fun hc => ex_ld rfl (ev s2 rfl) ((HC.out w4 h4).ldAll)) rfl hz (by decide) (fun Yr zz kk s22 => ?_);replace s2:=ku s2;replace s3:=ku s3;replace s5:=ku s5;replace s6:=ku s6;replace s21:=ku s21;replace hz:=zz;clear kk zz Yq;refine vl _ (m.val (.slice a1 L.length cl) (.slice a2 D.length cv)) (want_g rfl rfl s21) (fun hc => ex_ld rfl (ev s3 rfl) ((HM.out w4 h4).ldAll)) rfl hz (by decide) (fun Ys zz kk s23 => ?_);replace s2:=ku s2;replace s3:=ku s3;replace s5:=ku s5;replace s6:=ku s6;replace s21:=ku s21;replace s22:=ku s22;replace hz:=zz;clear kk zz Yr;refine vl _ _ (want_g rfl rfl s21) (fun hc => ex_move rfl (ev s5 rfl)) rfl hz (by decide) (fun Yt zz kk s24 => ?_);replace s2:=ku s2;replace s3:=ku s3;replace s5:=ku s5;replace s6:=ku s6;replace s21:=ku s21;replace s22:=ku s22;replace s23:=ku s23;replace hz:=zz;clear kk zz Ys;refine vl _ _ (want_g rfl rfl s21) (fun hc => ex_move rfl (ev s6 rfl)) rfl hz (by decide) (fun Yu zz kk s25 => ?_);replace s2:=ku s2;replace s3:=ku s3;replace s5:=ku s5;replace s6:=ku s6;replace s21:=ku s21;replace s22:=ku s22;replace s23:=ku s23;replace s24:=ku s24;replace hz:=zz;clear kk zz Yt;refine vcall (true && ((!(unG m L.length D.length u0 u1 u2 u3 u4 u5 u6 u7 u8 u9)) == false)) (.bool (fiG c.f c.r m L D m.k u0 u1 u2 u3 u4 u5 u6 u7 u8 u9)) (want_g rfl rfl s21) (fun hc => by unfold execOp;simp only [resolve,invoke,Sem.run_bind,List.map_toArray,List.map_cons,List.map_nil,(ev s22 hc),(ev s23 hc),(ev s24 hc),(ev s25 hc)];rfl) (fun hc => fields_any c.f c.r c.p c.u m a1 a2 cl cv g cu m.k u0 u1 u2 u3 u4 u5 u6 u7 u8 u9 L D w4 HF.out (HL.out w4 h4) HFI.out (HD.out w4 h4) HFE.out (HG.out w4 h4).1 (HG.out w4 h4).2 H9.out) rfl hz (by decide) (fun Yv w5 hb zz kk s26 => ?_);have h5:=h4.trans (hb.mono h4.size);clear hb;replace s2:=ku s2;replace s3:=ku s3;replace s5:=ku s5;replace s6:=ku s6;replace s21:=ku s21;replace hz:=zz;clear kk zz s22 s23 s24 s25 Yu;refine vl _ (.bool (!(fiG c.f c.r m L D m.k u0 u1 u2 u3 u4 u5 u6 u7 u8 u9))) (want_g rfl rfl s21) (fun hc => ex_not rfl (ev s26 hc)) rfl hz (by decide) (fun Yw zz kk s27 => ?_);replace s2:=ku s2;replace s3:=ku s3;replace s5:=ku s5;replace s6:=ku s6;replace s21:=ku s21;replace hz:=zz;clear kk zz s26 Yv;refine vt (.bool ((!(unG m L.length D.length u0 u1 u2 u3 u4 u5 u6 u7 u8 u9)) || (!(fiG c.f c.r m L D m.k u0 u1 u2 u3 u4 u5 u6 u7 u8 u9)))) (ex_or rfl s21 s27 rfl) hz (fun Yx zz kk s28 => ?_);replace s2:=ku s2;replace s3:=ku s3;replace s5:=ku s5;replace s6:=ku s6;replace hz:=zz;clear kk zz s21 s27 Yw;refine wpList_nil ?_
 go_upto_region 9 with fail
 cases e7 : ((!(unG m L.length D.length u0 u1 u2 u3 u4 u5 u6 u7 u8 u9)) || (!(fiG c.f c.r m L D m.k u0 u1 u2 u3 u4 u5 u6 u7 u8 u9)))
 rotate_left
 ·refine wp_cond_true ((ev s28 rfl).trans (congrArg Value.bool e7)) ?_
  have HV:=hide (HB.out _ h5);have V2:=hide (show ckM c m L D = 71 from by unfold ckM;rw [if_neg (by simp [hc]),if_neg (by simp [hk]),← HDOC.out c.f c.r m L D rfl HF.out.1 HF.out.2 hcr.1 hcr.2,if_neg (by rw [Bool.and_eq_true];rintro ⟨x,y⟩;rw [x,y] at e7;simp at e7)])
  go_wp2
  refine bodyPost_ret (results_tmp rfl _ _ _) rfl ⟨?_,HV.out⟩;rw [V2.out]
  show Ending.returned ((Array.setIfInBounds _ 4 (Value.int IntKind.i64 71)).getD 4 undef) = _
  rw [getD_of (at_set _ (by rw [hz];decide))]
 refine wp_cond_false ((ev s28 rfl).trans (congrArg Value.bool e7)) ?_;have HV:=hide (HB.out _ h5);have V2:=hide (show ckM c m L D = 0 from by unfold ckM;rw [if_neg (by simp [hc]),if_neg (by simp [hk]),← HDOC.out c.f c.r m L D rfl HF.out.1 HF.out.2 hcr.1 hcr.2,if_pos (by rw [Bool.and_eq_true];simpa using e7)])
 go_wp2
 refine bodyPost_ret (results_tmp rfl _ _ _) rfl ⟨?_,HV.out⟩;rw [V2.out]
 show Ending.returned ((Array.setIfInBounds _ 4 (Value.int IntKind.i64 0)).getD 4 undef) = _
 rw [getD_of (at_set _ (by rw [hz];decide))]
end Go.Proofs.YtjcedofmljkhfaaGreatDoor
