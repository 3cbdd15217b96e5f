import Derived.ChangeOld
import Derived.ProofKit
import Derived.OpenShut
import Derived.Deep.SlicePairs
import Derived.SizedLaws
import Derived.Test.YtpcgnjpodnebpaaGreatDoorRows
import Derived.Lib.LaidTab
import Derived.MakeChecks
import Derived.Test.YtpcgnjpodnebpaaGreatDoorG18
set_option maxRecDepth 100000
set_option linter.unusedVariables false
set_option linter.unusedSimpArgs false
set_option maxHeartbeats 8000000
namespace Go.Proofs.YtpcgnjpodnebpaaGreatDoor
open Go.RowKit Go.Maps Go.Shelf
open Classical
/-! What a message that is admitted makes of a state: it may be;admitted once more it changes nothing. -/
def prnS9 (s : Sta) (D : List (Int × Int)) : Sta:={ s with V:=D,A:=Ak.prn s.A D,M:=Mk.prn s.M D,B:=Bl.prn s.B D,N:=An.prn s.N D }
theorem Sta.Kn.prn9 {t : Sta} {B : Nat} {s : Sta} {D : List (Int × Int)} {w : World} (h : t.Kn B s D w) : (prnS9 s D).Alike9 t :=
 ⟨h.self,h.st,h.view,h.last,h.commit,h.idle,h.l,h.v,h.a,h.m,⟨h.b.1,fun i x y hx hy => (h.b.2 i x y hx hy).like⟩,⟨h.n.1,fun i x y hx hy => (h.n.2 i x y hx hy).like⟩⟩
theorem prn_fit9 {s : Sta} {D : List (Int × Int)} (h : s.Fit) (hD : D.length = s.V.length) : (prnS9 s D).Fit :=
 ⟨h.le,fun x hx => h.be x (List.mem_filter.1 hx).1,fun x hx => h.ne x (List.mem_filter.1 hx).1,h.ll,by show D.length * 16 ≤ _;rw [hD];exact h.vl,Nat.le_trans (Nat.mul_le_mul_right _ (List.length_filter_le _ _)) h.al,Nat.le_trans (Nat.mul_le_mul_right _ (List.length_filter_le _ _)) h.ml,Nat.le_trans (Nat.mul_le_mul_right _ (List.length_filter_le _ _)) h.bl,Nat.le_trans (Nat.mul_le_mul_right _ (List.length_filter_le _ _)) h.nl⟩
theorem prn_self9 {s : Sta} (hl : s.livB = true) : prnS9 s s.V = s:=by
 simp only [Sta.livB,Bool.and_eq_true,List.all_eq_true,Sta.vs] at hl;obtain ⟨⟨⟨h1,h2⟩,h3⟩,h4⟩:=hl;have pa : Ak.prn s.A s.V = s.A:=List.filter_eq_self.2 (fun x hx => by have q:=ovr_not9 (x:=Ak.sm x) (h1 _ (List.mem_map_of_mem hx));show (!ovr s.V (Ak.sm x).n (Ak.sm x).h (Ak.sm x).l) = true;rw [q];rfl);have pm : Mk.prn s.M s.V = s.M:=List.filter_eq_self.2 (fun x hx => by have q:=ovr_not9 (x:=Mk.sm x) (h2 _ (List.mem_map_of_mem hx));show (!ovr s.V (Mk.sm x).n (Mk.sm x).h (Mk.sm x).l) = true;rw [q];rfl);have pb : Bl.prn s.B s.V = s.B:=List.filter_eq_self.2 (fun x hx => by have q:=ovr_not9 (x:=Bl.sm x) (h3 _ (List.mem_map_of_mem hx));show (!ovr s.V (Bl.sm x).n (Bl.sm x).h (Bl.sm x).l) = true;rw [q];rfl);have pn : An.prn s.N s.V = s.N:=List.filter_eq_self.2 (fun x hx => by have q:=ovr_not9 (x:=An.sm x) (h4 _ (List.mem_map_of_mem hx));show (!ovr s.V (An.sm x).n (An.sm x).h (An.sm x).l) = true;rw [q];rfl)
 unfold prnS9
 rw [pa,pm,pb,pn]
theorem ck_st9 {c : Cg} {s : Sta} (h : s.ckE c = 0) : c.okB = true∧s.stB c = true:=by
 unfold Sta.ckE at h
 cases hok : c.okB with
 | false => rw [hok] at h;simp at h
 | true =>
  rw [hok] at h
  cases hs : s.stB c with
  | false => rw [hs] at h;simp at h
  | true => exact ⟨rfl,rfl⟩
theorem ck_of9 {c : Cg} {s : Sta} (h1 : c.okB = true) (h2 : s.stB c = true) : s.ckE c = 0:=by
 unfold Sta.ckE
 rw [h1,h2]
 rfl
theorem ck_liv9 {c : Cg} {s : Sta} (h : s.ckE c = 0) : s.livB = true:=by
 have h2:=(ck_st9 h).2;simp only [Sta.stB,Bool.and_eq_true] at h2
 exact h2.1.2
theorem ck_num9 {c : Cg} {s : Sta} (h : s.ckE c = 0) : (s.V.length : Int) = c.nd∧0 ≤ s.self∧s.self < (s.V.length : Int)∧1 ≤ s.V.length∧s.V.length ≤ 7:=by
 obtain ⟨hok,h2⟩:=ck_st9 h;obtain ⟨_,hnd,hf1,hf2,_⟩:=okB_facts9 hok;simp only [Sta.stB,Bool.and_eq_true] at h2;have hn:=h2.1.1.1;simp only [Sta.numB,Bool.and_eq_true,decide_eq_true_eq,inB_iff] at hn
 have hV : (s.V.length : Int) = c.nd:=by
  have h:=hn.1.1.1.1.1.2
  by_cases e : (s.V.length : Int) = c.nd
  ·exact e
  ·rw [if_neg e] at h;omega
 have hs:=hn.1.1.1.1.2
 refine ⟨hV,hs.1,?_,?_,?_⟩ <;> omega
/-! Draws in their order. -/
theorem gt_iff9 (h l h' l' : Int) : 0 < cmpD h l h' l' ↔ h' < h ∨ (h = h'∧l' < l):=by
 unfold cmpD cmpI
 by_cases e : h = h'
 ·rw [if_pos e]
  by_cases e1 : l < l'
  ·rw [if_pos e1];omega
  ·rw [if_neg e1]
   by_cases e2 : l' < l
   ·rw [if_pos e2];omega
   ·rw [if_neg e2];omega
 ·rw [if_neg e]
  by_cases e1 : h < h'
  ·rw [if_pos e1];omega
  ·rw [if_neg e1]
   by_cases e2 : h' < h
   ·rw [if_pos e2];omega
   ·omega
theorem rz_up9 (m v : Int × Int) : ¬ 0 < cmpD m.1 m.2 (rz9 m v).1 (rz9 m v).2:=by
 unfold rz9
 by_cases h : 0 < cmpD v.1 v.2 m.1 m.2
 ·rw [if_pos h]
  rw [gt_iff9] at h ⊢
  omega
 ·rw [if_neg h,gt_iff9]
  omega
theorem rz_twice9 (m v : Int × Int) : rz9 (rz9 m v) v = rz9 m v:=by
 unfold rz9
 by_cases h : 0 < cmpD v.1 v.2 m.1 m.2
 ·rw [if_pos h]
  exact if_neg (by rw [gt_iff9];omega)
 ·rw [if_neg h,if_neg h]
theorem ov_iff9 {V : List (Int × Int)} {x : Vo9} (hl : V.length = x.D.length) (h1 : 1 ≤ x.D.length) (h7 : x.D.length ≤ 7) (h2 : 0 ≤ x.n) (h3 : x.n < (x.D.length : Int)) : ovB9 V x = decide (0 < cmpD (V.getD x.n.toNat (0,0)).1 (V.getD x.n.toNat (0,0)).2 (x.D.getD x.n.toNat (0,0)).1 (x.D.getD x.n.toNat (0,0)).2):=by
 unfold ovB9 vmB9
 rw [inB_iff.2 (show (1 : Int) ≤ (x.D.length : Int)∧(x.D.length : Int) ≤ 7 by omega),decide_eq_true h2,decide_eq_true h3,decide_eq_true (show (V.length : Int) = (x.D.length : Int) by rw [hl])]
 rfl
theorem ov_parts9 {V : List (Int × Int)} {x : Vo9} (h : ovB9 V x = true) : V.length = x.D.length∧(0 ≤ x.n∧x.n < (x.D.length : Int))∧0 < cmpD (V.getD x.n.toNat (0,0)).1 (V.getD x.n.toNat (0,0)).2 (x.D.getD x.n.toNat (0,0)).1 (x.D.getD x.n.toNat (0,0)).2∧vmB9 x = true:=by
 unfold ovB9 at h
 simp only [Bool.and_eq_true,decide_eq_true_eq] at h;obtain ⟨⟨h1,h2⟩,h3⟩:=h;have h4:=h1
 unfold vmB9 at h1
 simp only [Bool.and_eq_true,decide_eq_true_eq] at h1
 exact ⟨by omega,h1.2,h3,h4⟩
/-! The vector behind a message. -/
def mgd9 (c : Cg) (s : Sta) (m : Ms9) : Bool:=btB m.m.k && (!decide (m.m.nd = s.self) && (!c.u && hear9 s m))
theorem adV_yes9 {c : Cg} {s : Sta} {m : Ms9} (h : mgd9 c s m = true) : adV9 c s m = jn9 s.V m.V:=if_pos h
theorem adV_no9 {c : Cg} {s : Sta} {m : Ms9} (h : ¬ mgd9 c s m = true) : adV9 c s m = s.V:=if_neg h
theorem mgd_parts9 {c : Cg} {s : Sta} {m : Ms9} (h : mgd9 c s m = true) : btB m.m.k = true∧decide (m.m.nd = s.self) = false∧c.u = false∧ovB9 s.V (thr9 m) = false∧ovB9 m.V (mine9 s) = false:=by
 unfold mgd9 hear9 at h
 simp only [Bool.and_eq_true,Bool.not_eq_true'] at h
 exact ⟨h.1,h.2.1,h.2.2.1,h.2.2.2.1,h.2.2.2.2⟩
theorem up9 (c : Cg) (s : Sta) (m : Ms9) (k : Nat) (hk : k < s.V.length) : ¬ 0 < cmpD (s.V.getD k (0,0)).1 (s.V.getD k (0,0)).2 ((adV9 c s m).getD k (0,0)).1 ((adV9 c s m).getD k (0,0)).2:=by
 by_cases h : mgd9 c s m = true
 ·rw [adV_yes9 h,jn9_at9 hk]
  exact rz_up9 _ _
 ·rw [adV_no9 h,gt_iff9]
  omega
theorem own9 {c : Cg} {s : Sta} {m : Ms9} (hc : s.ckE c = 0) (hm : adM9 c m = 0) : (adV9 c s m).getD s.self.toNat (0,0) = s.V.getD s.self.toNat (0,0):=by
 by_cases h : mgd9 c s m = true
 ·obtain ⟨h1,_,_,_,h5⟩:=mgd_parts9 h
  obtain ⟨_,hs0,hs1,hv1,hv7⟩:=ck_num9 hc;obtain ⟨_,hl⟩:=adlen9 hc hm h1;rw [adV_yes9 h,jn9_at9 (by omega)];have h6:=ov_iff9 (V:=m.V) (x:=mine9 s) hl hv1 hv7 hs0 hs1;rw [h5] at h6;have h7:=of_decide_eq_false h6.symm
  exact if_neg h7
 ·rw [adV_no9 h]
theorem no9 {c : Cg} {s : Sta} {m : Ms9} (h : adB9 c s m = false) : adV9 c s m = s.V:=by
 refine adV_no9 (fun hm => ?_);obtain ⟨h1,h2,h3,h4,h5⟩:=mgd_parts9 hm
 unfold adB9 hear9 at h
 rw [h1,h2,h3,h4,h5] at h
 exact absurd h (by decide)
theorem again9 {c : Cg} {s t : Sta} {m : Ms9} (hc : s.ckE c = 0) (hm : adM9 c m = 0) (ht : t.self = s.self) (hV : t.V = adV9 c s m) : adB9 c t m = adB9 c s m∧adV9 c t m = t.V:=by
 by_cases h : mgd9 c s m = true
 ·obtain ⟨h1,h2,h3,h4,h5⟩:=mgd_parts9 h
  obtain ⟨_,hs0,hs1,hv1,hv7⟩:=ck_num9 hc;obtain ⟨_,hl⟩:=adlen9 hc hm h1;have hown:=own9 hc hm;rw [← hV] at hown
  have hlen : t.V.length = s.V.length:=by rw [hV];exact adV_len9 c s m
  have e1 : ovB9 t.V (thr9 m) = false:=by
   cases e : ovB9 t.V (thr9 m) with
   | false => rfl
   | true =>
    exfalso
    obtain ⟨p1,p2,p3,p4⟩:=ov_parts9 e;have q:=ov_iff9 (V:=s.V) (x:=thr9 m) hl.symm (show 1 ≤ m.V.length by omega) (show m.V.length ≤ 7 by omega) p2.1 p2.2;rw [h4] at q;have q:=of_decide_eq_false q.symm
    have hk : (thr9 m).n.toNat < s.V.length:=by have : (thr9 m).n < (m.V.length : Int):=p2.2;have:=p2.1;omega
    rw [hV,adV_yes9 h,jn9_at9 hk] at p3;have e9 : (thr9 m).D = m.V:=rfl;rw [e9] at p3 q
    unfold rz9 at p3
    by_cases g : 0 < cmpD (m.V.getD (thr9 m).n.toNat (0,0)).1 (m.V.getD (thr9 m).n.toNat (0,0)).2 (s.V.getD (thr9 m).n.toNat (0,0)).1 (s.V.getD (thr9 m).n.toNat (0,0)).2
    ·rw [if_pos g,gt_iff9] at p3
     omega
    ·rw [if_neg g] at p3
     exact q p3
  have e2 : ovB9 m.V (mine9 t) = false:=by
   have q:=ov_iff9 (V:=m.V) (x:=mine9 t) (show m.V.length = t.V.length by omega) (show 1 ≤ t.V.length by omega) (show t.V.length ≤ 7 by omega) (show 0 ≤ t.self by omega) (show t.self < (t.V.length : Int) by omega);rw [q];have q2:=ov_iff9 (V:=m.V) (x:=mine9 s) hl hv1 hv7 hs0 hs1;rw [h5] at q2;have q2:=of_decide_eq_false q2.symm;refine decide_eq_false ?_
   show ¬ 0 < cmpD (m.V.getD t.self.toNat (0,0)).1 (m.V.getD t.self.toNat (0,0)).2 (t.V.getD t.self.toNat (0,0)).1 (t.V.getD t.self.toNat (0,0)).2
   rw [ht,hown]
   exact q2
  have e3 : hear9 t m = true:=by unfold hear9;rw [e1,e2];rfl
  have e4 : hear9 s m = true:=by unfold hear9;rw [h4,h5];rfl
  have e5 : mgd9 c t m = true:=by unfold mgd9;rw [h1,ht,h2,h3,e3];rfl
  refine ⟨by unfold adB9;rw [e3,e4,ht],?_⟩;rw [adV_yes9 e5]
  apply List.ext_getElem (jn9_length _ _)
  intro k hk hk2
  have hk3 : k < s.V.length:=by omega
  have g1:=jn9_at9 (M:=t.V) (V:=m.V) hk2
  have g2 : t.V.getD k (0,0) = rz9 (s.V.getD k (0,0)) (m.V.getD k (0,0)):=by rw [hV,adV_yes9 h];exact jn9_at9 hk3
  rw [g2,rz_twice9,← g2] at g1
  simpa [List.getD_eq_getElem?_getD,List.getElem?_eq_getElem hk,List.getElem?_eq_getElem hk2] using g1
 ·have hV2 : t.V = s.V:=hV.trans (adV_no9 h)
  have e3 : hear9 t m = hear9 s m:=by unfold hear9 ovB9 vmB9 mine9;rw [ht,hV2]
  have e5 : ¬ mgd9 c t m = true:=by unfold mgd9;rw [ht,e3];exact h
  exact ⟨by unfold adB9;rw [e3,ht],adV_no9 e5⟩
theorem stays9 {c : Cg} {s t : Sta} {m x : Ms9} (hc : s.ckE c = 0) (hu : c.u = false) (hV : t.V = adV9 c s m) (ho : ovB9 s.V (thr9 x) = true) : (adB9 c t x && btB x.m.k) = false:=by
 cases hb : btB x.m.k with
 | false => rw [Bool.and_false]
 | true =>
  rw [Bool.and_true];obtain ⟨p1,p2,p3,p4⟩:=ov_parts9 ho;obtain ⟨_,hs0,hs1,hv1,hv7⟩:=ck_num9 hc
  have hlen : t.V.length = s.V.length:=by rw [hV];exact adV_len9 c s m
  have e9 : (thr9 x).D = x.V:=rfl;rw [e9] at p1 p2 p3
  have hk : (thr9 x).n.toNat < s.V.length:=by have:=p2.1;have:=p2.2;omega
  have hup:=up9 c s m _ hk;rw [← hV] at hup;have q:=ov_iff9 (V:=t.V) (x:=thr9 x) (show t.V.length = x.V.length by omega) (show 1 ≤ x.V.length by omega) (show x.V.length ≤ 7 by omega) p2.1 p2.2
  have e1 : ovB9 t.V (thr9 x) = true:=by
   rw [q,e9];refine decide_eq_true ?_;rw [gt_iff9] at p3 hup ⊢
   omega
  have e3 : hear9 t x = false:=by unfold hear9;rw [e1];rfl
  unfold adB9
  rw [hb,hu,e3]
  simp
/-! A state that was admitted to may be. -/
theorem rs9_filter {α : Type} {n self : Int} (f : α → Mk) (p : α → Bool) : ∀ (L : List α) (least least' : Int),least' ≤ least → rs9 n self least (L.map f) = true → rs9 n self least' ((L.filter p).map f) = true
 | [],_,_,_,_ => rfl
 | x :: r,least,least',hl,h => by
  simp only [List.map_cons,rs9,Bool.and_eq_true,Bool.not_eq_true',Bool.or_eq_false_iff,decide_eq_false_iff_not] at h;obtain ⟨⟨⟨h1,h2⟩,h3⟩,h4⟩:=h
  by_cases hp : p x = true
  ·rw [List.filter_cons_of_pos hp]
   simp only [List.map_cons,rs9,Bool.and_eq_true,Bool.not_eq_true',Bool.or_eq_false_iff,decide_eq_false_iff_not]
   exact ⟨⟨⟨by omega,h2⟩,h3⟩,rs9_filter f p r _ _ (Int.le_refl _) h4⟩
  ·rw [List.filter_cons_of_neg hp]
   exact rs9_filter f p r _ _ (by omega) h4
theorem all_sub9 {α : Type} {p q : α → Bool} {L : List α} (h : L.all p = true) : (L.filter q).all p = true :=
 List.all_eq_true.2 (fun x hx => List.all_eq_true.1 h x (List.mem_filter.1 hx).1)
theorem any_sub9 {α : Type} {p q : α → Bool} {L : List α} (h : (!L.any p) = true) : (!(L.filter q).any p) = true:=by
 rw [Bool.not_eq_true'] at h ⊢;rw [List.any_eq_false] at h ⊢
 exact fun x hx => h x (List.mem_filter.1 hx).1
theorem prn_norB9 {c : Cg} {s : Sta} {D : List (Int × Int)} (h : s.norB c = true) : (prnS9 s D).norB c = true:=by
 have la : (Ak.prn s.A D).length ≤ s.A.length:=List.length_filter_le _ _;have lm : (Mk.prn s.M D).length ≤ s.M.length:=List.length_filter_le _ _;have lb : (Bl.prn s.B D).length ≤ s.B.length:=List.length_filter_le _ _;have ln : (An.prn s.N D).length ≤ s.N.length:=List.length_filter_le _ _
 unfold Sta.norB at h
 show (bif (!decide (s.last = s.view) || decide (0 < ((((Mk.prn s.M D).length : Int) + ((Bl.prn s.B D).length : Int)) + ((An.prn s.N D).length : Int)))) then false else bif (!decide (s.self = c.pr s.view)) then decide (((Ak.prn s.A D).length : Int) = 0) else decide (s.idle = 0) && (!decide (0 ≤ ix (fun a => !inB a.p 1 (s.L.length : Int)) (Ak.prn s.A D)))) = true
 cases e1 : (!decide (s.last = s.view) || decide (0 < (((s.M.length : Int) + (s.B.length : Int)) + (s.N.length : Int)))) with
 | true => rw [e1,cond_true] at h;cases h
 | false =>
  rw [e1] at h;rw [Bool.or_eq_false_iff] at e1;have z:=of_decide_eq_false e1.2;rw [e1.1,decide_eq_false (show ¬ 0 < ((((Mk.prn s.M D).length : Int) + ((Bl.prn s.B D).length : Int)) + ((An.prn s.N D).length : Int)) by omega)];rw [cond_false] at h
  show (bif (!decide (s.self = c.pr s.view)) then decide (((Ak.prn s.A D).length : Int) = 0) else decide (s.idle = 0) && (!decide (0 ≤ ix (fun a => !inB a.p 1 (s.L.length : Int)) (Ak.prn s.A D)))) = true
  cases e3 : (!decide (s.self = c.pr s.view)) with
  | true =>
   rw [e3,cond_true] at h;rw [cond_true];have:=of_decide_eq_true h
   exact decide_eq_true (by omega)
  | false =>
   rw [e3,cond_false,Bool.and_eq_true,ix_any9] at h;rw [cond_false,Bool.and_eq_true,ix_any9]
   exact ⟨h.1,any_sub9 h.2⟩
theorem prn_chgB9 {c : Cg} {s : Sta} {D : List (Int × Int)} (h : s.chgB c = true) : (prnS9 s D).chgB c = true:=by
 have la : (Ak.prn s.A D).length ≤ s.A.length:=List.length_filter_le _ _;have lb : (Bl.prn s.B D).length ≤ s.B.length:=List.length_filter_le _ _;have ln : (An.prn s.N D).length ≤ s.N.length:=List.length_filter_le _ _
 unfold Sta.chgB at h
 show (bif (decide (s.last = s.view) || decide (0 < (((Ak.prn s.A D).length : Int) + ((An.prn s.N D).length : Int)))) then false else bif (!decide (s.self = c.pr s.view)) then decide (((Bl.prn s.B D).length : Int) = 0) else decide (((Bl.prn s.B D).length : Int) < c.F) && (!decide (0 ≤ ix (fun b => decide (s.view ≤ b.v)) (Bl.prn s.B D)))) = true
 cases e1 : (decide (s.last = s.view) || decide (0 < ((s.A.length : Int) + (s.N.length : Int)))) with
 | true => rw [e1,cond_true] at h;cases h
 | false =>
  rw [e1] at h;rw [Bool.or_eq_false_iff] at e1;have z:=of_decide_eq_false e1.2;rw [e1.1,decide_eq_false (show ¬ 0 < (((Ak.prn s.A D).length : Int) + ((An.prn s.N D).length : Int)) by omega)];rw [cond_false] at h
  show (bif (!decide (s.self = c.pr s.view)) then decide (((Bl.prn s.B D).length : Int) = 0) else decide (((Bl.prn s.B D).length : Int) < c.F) && (!decide (0 ≤ ix (fun b => decide (s.view ≤ b.v)) (Bl.prn s.B D)))) = true
  cases e3 : (!decide (s.self = c.pr s.view)) with
  | true =>
   rw [e3,cond_true] at h;rw [cond_true];have:=of_decide_eq_true h
   exact decide_eq_true (by omega)
  | false =>
   rw [e3,cond_false,Bool.and_eq_true,ix_any9] at h;rw [cond_false,Bool.and_eq_true,ix_any9];have:=of_decide_eq_true h.1
   exact ⟨decide_eq_true (by omega),any_sub9 h.2⟩
theorem prn_recB9 {s : Sta} {D : List (Int × Int)} (h : s.recB = true) (hD : D.getD s.self.toNat (0,0) = s.V.getD s.self.toNat (0,0)) : (prnS9 s D).recB = true:=by
 have la : (Ak.prn s.A D).length ≤ s.A.length:=List.length_filter_le _ _;have lm : (Mk.prn s.M D).length ≤ s.M.length:=List.length_filter_le _ _;have lb : (Bl.prn s.B D).length ≤ s.B.length:=List.length_filter_le _ _
 unfold Sta.recB at h
 show (((decide (s.view = 0) && decide (s.idle = 0)) && decide ((((s.L.length : Int) + ((Ak.prn s.A D).length : Int)) + ((Mk.prn s.M D).length : Int)) + ((Bl.prn s.B D).length : Int) = 0)) && (!decide (D.getD s.self.toNat (0,0) = (0,0)))) = true
 rw [hD];rw [Bool.and_eq_true,Bool.and_eq_true] at h ⊢;have:=of_decide_eq_true h.1.2
 exact ⟨⟨h.1.1,decide_eq_true (by omega)⟩,h.2⟩
theorem prn_ck9 {c : Cg} {s : Sta} {m : Ms9} (hc : s.ckE c = 0) (hm : adM9 c m = 0) : (prnS9 s (adV9 c s m)).ckE c = 0:=by
 obtain ⟨hok,hst⟩:=ck_st9 hc;have g:=votes_good9 hc;have hD:=adV_len9 c s m;have hown:=own9 hc hm;simp only [Sta.stB,Bool.and_eq_true] at hst;obtain ⟨⟨⟨hn,hv⟩,hl⟩,hk⟩:=hst;refine ck_of9 hok ?_
 have e1 : (prnS9 s (adV9 c s m)).numB c = true:=by
  have e : (prnS9 s (adV9 c s m)).numB c = s.numB c:=by
   show ((((((decide ((chk s.L c.R).1 = 0) && decide ((if ((adV9 c s m).length : Int) = c.nd then (0 : Int) else 30) = 0)) && inB s.self 0 (c.nd - 1)) && inB s.view 0 4294967296) && inB s.last 0 s.view) && inB s.commit 0 (s.L.length : Int)) && inB s.idle 0 (c.P - 1)) = s.numB c
   rw [hD]
   rfl
  rw [e];exact hn
 have e2 : (prnS9 s (adV9 c s m)).votB c = true:=by
  rw [votB9 s hok] at hv;rw [votB9 _ hok];simp only [Bool.and_eq_true,Sta.rsB,Sta.mbB] at hv ⊢;obtain ⟨⟨⟨⟨r0,r1⟩,r2⟩,r3⟩,⟨m0,m1⟩,m2⟩:=hv
  exact ⟨⟨⟨⟨rs9_filter _ _ _ _ _ (Int.le_refl _) r0,rs9_filter _ _ _ _ _ (Int.le_refl _) r1⟩,rs9_filter _ _ _ _ _ (Int.le_refl _) r2⟩,rs9_filter _ _ _ _ _ (Int.le_refl _) r3⟩,⟨all_sub9 m0,all_sub9 m1⟩,all_sub9 m2⟩
 have e3 : (prnS9 s (adV9 c s m)).livB = true:=by
  have mk : ∀ {α : Type} (f : α → Mk) (L : List α),(∀ x ∈ L.map f,gd9 s.V x) → ∀ x ∈ (L.filter (fun y => !ovr (adV9 c s m) (f y).n (f y).h (f y).l)).map f,lv8 (adV9 c s m) x = true:=fun f L h x hx => by
   obtain ⟨y,hy,rfl⟩:=List.mem_map.1 hx;obtain ⟨h1,h2⟩:=List.mem_filter.1 hy
   exact decide_eq_true (keep9 (h _ (List.mem_map_of_mem h1)) (show ovr (adV9 c s m) (f y).n (f y).h (f y).l = false from by simpa using h2)).2
  simp only [Sta.livB,Bool.and_eq_true,List.all_eq_true]
  exact ⟨⟨⟨mk Ak.sm s.A (g 0),mk Mk.sm s.M (g 1)⟩,mk Bl.sm s.B (g 2)⟩,mk An.sm s.N (g 3)⟩
 have e4 : (prnS9 s (adV9 c s m)).kpB c = true:=by
  unfold Sta.kpB at hk
  show (bif decide (s.st = 1) then (prnS9 s (adV9 c s m)).norB c else bif decide (s.st = 2) then (prnS9 s (adV9 c s m)).chgB c else bif decide (s.st = 3) then (prnS9 s (adV9 c s m)).recB else false) = true
  cases h1 : decide (s.st = 1) with
  | true => rw [h1,cond_true] at hk;rw [cond_true];exact prn_norB9 hk
  | false =>
   rw [h1,cond_false] at hk;rw [cond_false]
   cases h2 : decide (s.st = 2) with
   | true => rw [h2,cond_true] at hk;rw [cond_true];exact prn_chgB9 hk
   | false =>
    rw [h2,cond_false] at hk;rw [cond_false]
    cases h3 : decide (s.st = 3) with
    | true => rw [h3,cond_true] at hk;rw [cond_true];exact prn_recB9 hk hown
    | false => rw [h3,cond_false] at hk;cases hk
 simp only [Sta.stB,Bool.and_eq_true]
 exact ⟨⟨⟨e1,e2⟩,e3⟩,e4⟩
end Go.Proofs.YtpcgnjpodnebpaaGreatDoor
namespace Go.Proofs.YtpcgnjpodnebpaaGreatDoor
open Go.ChangeShapes Go.WideShapes Go.ChangeAt Go.RowKit
open Classical
theorem intCells : Tryz.prog.cellsOf 3 = 1:=by kernel_rfl
theorem opCells : Tryz.prog.cellsOf 45 = 3:=by kernel_rfl
theorem strCells : Tryz.prog.cellsOf 9 = 1:=by kernel_rfl
theorem open_opc {H : Type} {enc : TypeId × Value → H} {W : World} {base : Nat} {sp : Nat → Bool} {held : Bool} {n : Nat} {cs : List Value} {x : DataW H × List MemPlace} (h : DataW.trod enc Tryz.prog W base sp held n 45 cs = some x) :
  ∃ p : Opn,p.fits∧cs = [.int .i64 p.k,.int .i64 p.s,.string p.v]:=by
 obtain ⟨xs,k,hk,hxy,hlen,hxl,hf⟩:=DataW.trod_struct Tryz.underlying45 h;rw [opCells] at hlen;have hxl : xs.length = 3:=hxl
 match xs,hxl,cs,hlen with
 | [y0,y1,y2],_,[v0,v1,v2],_ =>
  have g0:=hf 0 _ rfl;have g1:=hf 1 _ rfl;have g2:=hf 2 _ rfl
  simp [intCells,strCells] at g0 g1 g2
  obtain ⟨K,hK,hx0,hw0⟩:=DataW.trod_int Tryz.underlying3 g0;obtain ⟨N,hN,hx2,hw2⟩:=DataW.trod_int Tryz.underlying3 g1;obtain ⟨t,hS,hx4,hw4⟩:=DataW.trod_string Tryz.underlying9 g2;refine ⟨⟨K,N,t⟩,⟨hw0,hw2,hw4⟩,?_⟩;rw [(List.cons_eq_cons.1 hK).1,(List.cons_eq_cons.1 hN).1,(List.cons_eq_cons.1 hS).1]
theorem enCells : Tryz.prog.cellsOf 47 = 5:=by kernel_rfl
theorem enBytes : Tryz.prog.bytesOf 47 = 48:=by kernel_rfl
theorem open_enc {H : Type} {enc : TypeId × Value → H} {W : World} {base : Nat} {sp : Nat → Bool} {held : Bool} {n : Nat} {cs : List Value} {x : DataW H × List MemPlace} (h : DataW.trod enc Tryz.prog W base sp held n 47 cs = some x) :
  ∃ p : En,p.fits∧cs = p.cs:=by
 obtain ⟨xs,k,hk,hxy,hlen,hxl,hf⟩:=DataW.trod_struct Tryz.underlying47 h;rw [enCells] at hlen;have hxl : xs.length = 3:=hxl
 match xs,hxl,cs,hlen with
 | [y0,y1,y2],_,[v0,v1,v2,v3,v4],_ =>
  have g0:=hf 0 _ rfl;have g1:=hf 1 _ rfl;have g2:=hf 2 _ rfl
  simp [intCells,opCells] at g0 g1 g2
  obtain ⟨K,hK,hx0,hw0⟩:=DataW.trod_int Tryz.underlying3 g0;obtain ⟨N,hN,hx2,hw2⟩:=DataW.trod_int Tryz.underlying3 g1;obtain ⟨o,ho,e⟩:=open_opc g2;refine ⟨⟨K,N,o⟩,⟨hw0,hw2,ho⟩,?_⟩;have e0:=(List.cons_eq_cons.1 hK).1;have e1:=(List.cons_eq_cons.1 hN).1
  simp at e
  obtain ⟨e2,e3,e4⟩:=e;subst e0 e1 e2 e3 e4
  rfl
theorem weights_in {H : Type} {t : TypeId} {ds : List (DataW H)} {d : DataW H} (hd : d ∈ ds) : ∀ m,m ∈ d.weights Tryz.prog t → m ∈ DataW.weightsAll Tryz.prog t ds:=by
 induction ds with
 | nil => cases hd
 | cons x r ih =>
  intro m hm;simp only [DataW.weightsAll]
  rcases List.mem_cons.1 hd with rfl | h
  ·exact List.mem_append_left _ hm
  ·exact List.mem_append_right _ (ih h m hm)
theorem u64Cells8 : Tryz.prog.cellsOf 50 = 1:=by kernel_rfl
theorem drCells8 : Tryz.prog.cellsOf 52 = 2:=by kernel_rfl
theorem slCells8 : Tryz.prog.cellsOf 25 = 1:=by kernel_rfl
theorem open_drc8 {H : Type} {enc : TypeId × Value → H} {W : World} {base : Nat} {sp : Nat → Bool} {held : Bool} {n : Nat} {cs : List Value} {x : DataW H × List MemPlace} (h : DataW.trod enc Tryz.prog W base sp held n 52 cs = some x) :
  ∃ a b : Int,((Lit.int .u64 a).wf = true∧(Lit.int .u64 b).wf = true)∧cs = [.int .u64 a,.int .u64 b]:=by
 obtain ⟨xs,k,hk,hxy,hlen,hxl,hf⟩:=DataW.trod_struct Tryz.underlying52 h;rw [drCells8] at hlen;have hxl : xs.length = 2:=hxl
 match xs,hxl,cs,hlen with
 | [y0,y1],_,[v0,v1],_ =>
  have g0:=hf 0 _ rfl;have g1:=hf 1 _ rfl
  simp [u64Cells8] at g0 g1
  obtain ⟨K,hK,hx0,hw0⟩:=DataW.trod_int Tryz.underlying50 g0;obtain ⟨N,hN,hx2,hw2⟩:=DataW.trod_int Tryz.underlying50 g1;refine ⟨K,N,⟨hw0,hw2⟩,?_⟩;rw [(List.cons_eq_cons.1 hK).1,(List.cons_eq_cons.1 hN).1]
theorem log_of_trod {H : Type} {enc : TypeId × Value → H} {W : World} {n : Nat} {v : Value} {d : DataW H} {p : List MemPlace} (hf : DataW.trod enc Tryz.prog W 0 (fun _ => true) true n 25 [v] = some (d,p)) (hw : ∀ m,m ∈ d.weights Tryz.prog 25 → m ≤ reachBytes) :
  ∃ s : SV En,v = .slice s.a s.D.length s.c∧SlY yE W s.a s.D.length s.c s.D∧(∀ e ∈ s.D,e.fits)∧s.D.length * 48 ≤ 140737488351232:=by
 rcases Go.Deep.open_slice Tryz.underlying25 hf with ⟨hcs,hx⟩ | ⟨y,ln,cp,m,k,D,Pl,hcs,hb,hl,hm,hmm,hx,hall⟩
 ·have e:=(List.cons_eq_cons.1 hcs).1
  exact ⟨⟨none,0,[]⟩,e,⟨rfl,LR,Nat.zero_le _,fun _ => ⟨rfl,rfl⟩,fun x hx => .inl rfl⟩,by simp,by simp⟩
 ·have e:=(List.cons_eq_cons.1 hcs).1
  have hlm : ln ≤ m:=by rw [hmm];split <;> omega
  have hd:=congrArg Prod.fst hx
  dsimp only at hd
  have hsz : ln * 48 ≤ 140737488351232:=by
   have:=hw _ (by
    rw [hd];simp only [DataW.weights,Tryz.underlying25,enBytes]
    exact List.mem_cons_self)
   simp only [List.length_map,List.length_range,reachBytes] at this;rw [Nat.add_mul] at this
   omega
  have each : ∀ i,i < ln → ∃ q : En,q.fits∧(∀ j,j < 5 → W.cell? ((y.add (i * 5)).add j) = q.cs[j]?):=by
   intro i hi;obtain ⟨cs',h1,h2⟩:=hall i (by omega);rw [enCells] at h1;obtain ⟨q,hf,rfl⟩:=open_enc h2;obtain ⟨_,_,hcell⟩:=World.cells?_some h1
   exact ⟨q,hf,hcell⟩
  haveI : Inhabited En:=⟨⟨0,0,⟨0,0,⟨#[]⟩⟩⟩⟩
  obtain ⟨q,hq⟩:=Go.Deep.choose_lt each;refine ⟨⟨some y,cp,(List.range ln).map q⟩,by rw [e];simp,⟨rfl,by simpa using hl,hm,(fun e => by cases e),fun x hx => ?_⟩,?_,by simpa using hsz⟩
  ·cases hx
   by_cases hn0 : ln = 0
   ·subst hn0
    exact .inl rfl
   ·obtain ⟨b,o,s⟩:=y
    have z0:=(hq 0 (by omega)).2 0 (by omega);have z1:=z0.trans (List.getElem?_eq_getElem (by show 0 < 5;omega));have hs:=World.cell?_spot z1
    obtain rfl : s = none:=by
     rw [Nat.zero_mul] at hs
     simpa [Addr.add] using hs
    refine .inr ⟨b,o,rfl,?_,fun i x hx j u hu => ?_⟩
    ·rw [Addr.add_lit,Addr.add_lit] at z1
     exact World.block_lt_of_cell? _ _ z1
    ·have hi : i < ln:=by
      have:=(List.getElem?_eq_some_iff.1 hx).1
      simpa using this
     have e : q i = x:=by
      simp [hi] at hx
      exact hx
     subst e;have hj : j < 5:=(List.getElem?_eq_some_iff.1 hu).1;have:=(hq i hi).2 j hj;rw [Addr.add_lit,Addr.add_lit] at this
     exact this.trans hu
  ·intro z hz
   obtain ⟨i,hi,rfl⟩:=List.mem_map.1 hz
   exact (hq i (List.mem_range.1 hi)).1
theorem cellsBl : Tryz.prog.cellsOf 75 = 6:=by kernel_rfl
theorem bytesBl : Tryz.prog.bytesOf 75 = 64:=by kernel_rfl
structure Bl.fits (W : World) (x : Bl) : Prop where
 nw : (Lit.int .i64 x.n).wf = true
 hw : (Lit.int .u64 x.h).wf = true
 lw : (Lit.int .u64 x.l).wf = true
 vw : (Lit.int .i64 x.v).wf = true
 cw : (Lit.int .i64 x.c).wf = true
 sw : SlY yE W x.s.a x.s.D.length x.s.c x.s.D
 ew : ∀ e ∈ x.s.D,e.fits
 bw : x.s.D.length * 48 ≤ 140737488351232
theorem Bl.fits.In {W : World} {x : Bl} (h : x.fits W) : x.In W:=⟨h.sw,by have:=h.bw;omega⟩
theorem open_elBl {H : Type} {enc : TypeId × Value → H} {W : World} {m : Nat} {cs : List Value} {D : DataW H} {q : List MemPlace} (h : DataW.trod enc Tryz.prog W 0 (fun _ => true) true m 75 cs = some (D,q)) (hw : ∀ k,k ∈ D.weights Tryz.prog 75 → k ≤ reachBytes) : ∃ e : Bl,e.fits W∧cs = e.cs:=by
 obtain ⟨xs,k,hk,hxy,hlen,hxl,hf⟩:=DataW.trod_struct Tryz.underlying75 h;rw [cellsBl] at hlen;have hxl : xs.length = 5:=hxl
 match xs,hxl,cs,hlen with
 | [y0,y1,y2,y3,y4],_,[v0,v1,v2,v3,v4,v5],_ =>
  have g0:=hf 0 _ rfl;have g1:=hf 1 _ rfl;have g2:=hf 2 _ rfl;have g3:=hf 3 _ rfl;have g4:=hf 4 _ rfl
  simp [intCells,drCells8,slCells8] at g0 g1 g2 g3 g4
  obtain ⟨N,hN,_,wN⟩:=DataW.trod_int Tryz.underlying3 g0;obtain ⟨a,b,⟨wa,wb⟩,hdr⟩:=open_drc8 g1;obtain ⟨V,hV,_,wV⟩:=DataW.trod_int Tryz.underlying3 g2;obtain ⟨C,hC,_,wC⟩:=DataW.trod_int Tryz.underlying3 g3;have hd : D = .agg ([y0,y1,y2,y3,y4].map Prod.fst):=congrArg Prod.fst hxy
  obtain ⟨s,es,hs,he,hb⟩:=log_of_trod g4 (fun k hk => hw k (by
   rw [hd];simp only [DataW.weights,Tryz.underlying75]
   exact DataW.weights_mem_each (j:=4) (t:=25) rfl rfl k hk))
  refine ⟨⟨N,a,b,V,C,s⟩,⟨wN,wa,wb,wV,wC,hs,he,hb⟩,?_⟩
  simp at hN hdr hV hC
  obtain ⟨h1,h2⟩:=hdr;subst hN h1 h2 hV hC es
  rfl
theorem cellsAn : Tryz.prog.cellsOf 77 = 6:=by kernel_rfl
theorem bytesAn : Tryz.prog.bytesOf 77 = 64:=by kernel_rfl
structure An.fits (W : World) (x : An) : Prop where
 nw : (Lit.int .i64 x.n).wf = true
 hw : (Lit.int .u64 x.h).wf = true
 lw : (Lit.int .u64 x.l).wf = true
 vw : (Lit.int .i64 x.v).wf = true
 cw : (Lit.int .i64 x.c).wf = true
 sw : SlY yE W x.s.a x.s.D.length x.s.c x.s.D
 ew : ∀ e ∈ x.s.D,e.fits
 bw : x.s.D.length * 48 ≤ 140737488351232
theorem An.fits.In {W : World} {x : An} (h : x.fits W) : x.In W:=⟨h.sw,by have:=h.bw;omega⟩
theorem open_elAn {H : Type} {enc : TypeId × Value → H} {W : World} {m : Nat} {cs : List Value} {D : DataW H} {q : List MemPlace} (h : DataW.trod enc Tryz.prog W 0 (fun _ => true) true m 77 cs = some (D,q)) (hw : ∀ k,k ∈ D.weights Tryz.prog 77 → k ≤ reachBytes) : ∃ e : An,e.fits W∧cs = e.cs:=by
 obtain ⟨xs,k,hk,hxy,hlen,hxl,hf⟩:=DataW.trod_struct Tryz.underlying77 h;rw [cellsAn] at hlen;have hxl : xs.length = 5:=hxl
 match xs,hxl,cs,hlen with
 | [y0,y1,y2,y3,y4],_,[v0,v1,v2,v3,v4,v5],_ =>
  have g0:=hf 0 _ rfl;have g1:=hf 1 _ rfl;have g2:=hf 2 _ rfl;have g3:=hf 3 _ rfl;have g4:=hf 4 _ rfl
  simp [intCells,drCells8,slCells8] at g0 g1 g2 g3 g4
  obtain ⟨N,hN,_,wN⟩:=DataW.trod_int Tryz.underlying3 g0;obtain ⟨a,b,⟨wa,wb⟩,hdr⟩:=open_drc8 g1;obtain ⟨V,hV,_,wV⟩:=DataW.trod_int Tryz.underlying3 g2;obtain ⟨C,hC,_,wC⟩:=DataW.trod_int Tryz.underlying3 g3;have hd : D = .agg ([y0,y1,y2,y3,y4].map Prod.fst):=congrArg Prod.fst hxy
  obtain ⟨s,es,hs,he,hb⟩:=log_of_trod g4 (fun k hk => hw k (by
   rw [hd];simp only [DataW.weights,Tryz.underlying77]
   exact DataW.weights_mem_each (j:=4) (t:=25) rfl rfl k hk))
  refine ⟨⟨N,a,b,V,C,s⟩,⟨wN,wa,wb,wV,wC,hs,he,hb⟩,?_⟩
  simp at hN hdr hV hC
  obtain ⟨h1,h2⟩:=hdr;subst hN h1 h2 hV hC es
  rfl
end Go.Proofs.YtpcgnjpodnebpaaGreatDoor
namespace Go.Proofs.YtpcgnjpodnebpaaGreatDoor
open Go.ChangeShapes Go.WideShapes Go.ChangeAt Go.RowKit Go.Maps
open Classical
theorem cfCells : Tryz.prog.cellsOf 23 = 4:=by kernel_rfl
theorem boolCells9 : Tryz.prog.cellsOf 4 = 1:=by kernel_rfl
theorem open_cfg {H : Type} {enc : TypeId × Value → H} {W : World} {base : Nat} {v : Value} {d : DataW H} {p : List MemPlace} (hv : Value.okWide Tryz.prog W .any base 23 v) (h : DataW.Trod enc Tryz.prog W 0 (fun _ => true) true 23 v d p) :
  ∃ x : Cg,v = .agg #[.int .i64 x.F,.int .i64 x.R,.int .i64 x.P,.bool x.u]∧True:=by
 obtain ⟨cs,rfl,hsz⟩:=okWide_struct Tryz.underlying23 hv;obtain ⟨fuel,hf⟩:=h;obtain ⟨xs,k,hk,hxy,hlen,hxl,hf⟩:=DataW.trod_struct Tryz.underlying23 hf;rw [cfCells] at hlen;have hxl : xs.length = 4:=hxl;simp only [Value.cells] at hlen hf;obtain ⟨l⟩:=cs
 match xs,hxl,l,hlen with
 | [y0,y1,y2,y3],_,[v0,v1,v2,v3],_ =>
  have g0:=hf 0 _ rfl;have g1:=hf 1 _ rfl;have g2:=hf 2 _ rfl;have g3:=hf 3 _ rfl
  simp [intCells,boolCells9] at g0 g1 g2 g3
  obtain ⟨A,hA,_,_⟩:=DataW.trod_int Tryz.underlying3 g0;obtain ⟨B,hB,_,_⟩:=DataW.trod_int Tryz.underlying3 g1;obtain ⟨C,hC,_,_⟩:=DataW.trod_int Tryz.underlying3 g2;obtain ⟨b,hb,_⟩:=DataW.trod_bool Tryz.underlying4 g3;refine ⟨⟨A,B,C,b⟩,?_,trivial⟩
  simp at hA hB hC hb
  subst hA hB hC hb
  rfl
theorem drBytes8 : Tryz.prog.bytesOf 52 = 16:=by kernel_rfl
theorem rows_of_trod9 {α : Type} [Inhabited α] {Y : Lay α} (K : Y.Ok) (F : α → Prop) (hT : Tryz.prog.cellsOf Y.T = Y.k) (hby : Tryz.prog.bytesOf Y.T = Y.by_) {H : Type} {enc : TypeId × Value → H} {W : World} {v : Value} {d : DataW H} {p : List MemPlace} {fuel : Nat}
  (hop : ∀ {m : Nat} {cs : List Value} {D : DataW H} {q : List MemPlace},DataW.trod enc Tryz.prog W 0 (fun _ => true) true m Y.T cs = some (D,q) → (∀ k,k ∈ D.weights Tryz.prog Y.T → k ≤ reachBytes) → ∃ e : α,F e∧cs = Y.cs e)
  (h : DataW.trod enc Tryz.prog W 0 (fun _ => true) true fuel Y.ST [v] = some (d,p)) (hw : ∀ m,m ∈ d.weights Tryz.prog Y.ST → m ≤ reachBytes) :
  ∃ a len cap,v = .slice a len cap∧∃ P : List α,SlY Y W a len cap P∧(∀ e ∈ P,F e)∧len * Y.by_ ≤ 140737488351232:=by
 rcases Go.Deep.open_slice K.und h with ⟨hcs,hx⟩ | ⟨y,n,c,m,k,D,Pl,hcs,hb,hl,hm,hmm,hx,hall⟩
 ·have e:=(List.cons_eq_cons.1 hcs).1
  exact ⟨none,0,0,e,[],⟨rfl,LR,by unfold maxLen;omega,fun _ => ⟨rfl,rfl⟩,fun x hx => .inl rfl⟩,by simp,by omega⟩
 ·have e:=(List.cons_eq_cons.1 hcs).1
  refine ⟨some y,n,c,e,?_⟩
  have hlm : n ≤ m:=by rw [hmm];split <;> omega
  have hd:=congrArg Prod.fst hx
  dsimp only at hd
  have hsz : n * Y.by_ ≤ 140737488351232:=by
   have:=hw _ (by
    rw [hd];simp only [DataW.weights,K.und,hby]
    exact List.mem_cons_self)
   simp only [List.length_map,List.length_range,reachBytes] at this;rw [Nat.add_mul] at this
   omega
  have each : ∀ i,i < n → ∃ q : α,F q∧(∀ j,j < Y.k → W.cell? ((y.add (i * Y.k)).add j) = (Y.cs q)[j]?):=by
   intro i hi;obtain ⟨cs',h1,h2⟩:=hall i (by omega);rw [hT] at h1
   obtain ⟨q,hf,rfl⟩:=hop h2 (fun k hk => hw k (by
    rw [hd];simp only [DataW.weights,K.und]
    exact List.mem_cons_of_mem _ (List.mem_append_left _ (weights_in (List.mem_map_of_mem (List.mem_range.2 hi)) k hk))))
   obtain ⟨_,_,hcell⟩:=World.cells?_some h1
   exact ⟨q,hf,hcell⟩
  obtain ⟨q,hq⟩:=Go.Deep.choose_lt each;refine ⟨(List.range n).map q,⟨by simp,hl,hm,(fun e => by cases e),fun x hx => ?_⟩,?_,hsz⟩
  ·cases hx
   by_cases hn0 : n = 0
   ·subst hn0
    exact .inl rfl
   ·obtain ⟨b,o,s⟩:=y
    have z0:=(hq 0 (by omega)).2 0 K.kp;have z1:=z0.trans (List.getElem?_eq_getElem (by rw [K.len];exact K.kp));have hs:=World.cell?_spot z1
    obtain rfl : s = none:=by
     rw [Nat.zero_mul] at hs
     simpa [Addr.add] using hs
    refine .inr ⟨b,o,rfl,?_,fun i x hx j u hu => ?_⟩
    ·rw [Addr.add_lit,Addr.add_lit] at z1
     exact World.block_lt_of_cell? _ _ z1
    ·have hi : i < n:=by
      have:=(List.getElem?_eq_some_iff.1 hx).1
      simpa using this
     have e : q i = x:=by
      simp [hi] at hx
      exact hx
     subst e
     have hj : j < Y.k:=by have:=(List.getElem?_eq_some_iff.1 hu).1;rwa [K.len] at this
     have:=(hq i hi).2 j hj;rw [Addr.add_lit,Addr.add_lit] at this
     exact this.trans hu
  ·intro z hz
   obtain ⟨i,hi,rfl⟩:=List.mem_map.1 hz
   exact (hq i (List.mem_range.1 hi)).1
theorem staCells9 : Tryz.prog.cellsOf 33 = 12:=by kernel_rfl
theorem stuCells9 : Tryz.prog.cellsOf 24 = 1:=by kernel_rfl
theorem veCells9 : Tryz.prog.cellsOf 27 = 1:=by kernel_rfl
theorem aksCells9 : Tryz.prog.cellsOf 28 = 1:=by kernel_rfl
theorem mksCells9 : Tryz.prog.cellsOf 29 = 1:=by kernel_rfl
theorem blsCells9 : Tryz.prog.cellsOf 30 = 1:=by kernel_rfl
theorem ansCells9 : Tryz.prog.cellsOf 31 = 1:=by kernel_rfl
theorem akCells9 : Tryz.prog.cellsOf 105 = 4:=by kernel_rfl
theorem akBytes9 : Tryz.prog.bytesOf 105 = 32:=by kernel_rfl
theorem mkCells9 : Tryz.prog.cellsOf 119 = 3:=by kernel_rfl
theorem mkBytes9 : Tryz.prog.bytesOf 119 = 24:=by kernel_rfl
theorem open_mkc9 {H : Type} {enc : TypeId × Value → H} {W : World} {base : Nat} {sp : Nat → Bool} {held : Bool} {n : Nat} {cs : List Value} {x : DataW H × List MemPlace} (h : DataW.trod enc Tryz.prog W base sp held n 119 cs = some x) : ∃ e : Mk,((Lit.int .i64 e.n).wf = true∧(Lit.int .u64 e.h).wf = true∧(Lit.int .u64 e.l).wf = true)∧cs = yMkA.cs e:=by
 obtain ⟨xs,k,hk,hxy,hlen,hxl,hf⟩:=DataW.trod_struct Tryz.underlying119 h;rw [mkCells9] at hlen;have hxl : xs.length = 2:=hxl
 match xs,hxl,cs,hlen with
 | [y0,y1],_,[v0,v1,v2],_ =>
  have g0:=hf 0 _ rfl;have g1:=hf 1 _ rfl
  simp [intCells,drCells8] at g0 g1
  obtain ⟨N,hN,_,wN⟩:=DataW.trod_int Tryz.underlying3 g0;obtain ⟨a,b,⟨wa,wb⟩,hdr⟩:=open_drc8 g1;refine ⟨⟨N,a,b⟩,⟨wN,wa,wb⟩,?_⟩
  simp at hN hdr
  obtain ⟨h1,h2⟩:=hdr;subst hN h1 h2
  rfl
theorem open_akc9 {H : Type} {enc : TypeId × Value → H} {W : World} {base : Nat} {sp : Nat → Bool} {held : Bool} {n : Nat} {cs : List Value} {x : DataW H × List MemPlace} (h : DataW.trod enc Tryz.prog W base sp held n 105 cs = some x) : ∃ e : Ak,((Lit.int .i64 e.n).wf = true∧(Lit.int .u64 e.h).wf = true∧(Lit.int .u64 e.l).wf = true∧(Lit.int .i64 e.p).wf = true)∧cs = yAkA.cs e:=by
 obtain ⟨xs,k,hk,hxy,hlen,hxl,hf⟩:=DataW.trod_struct Tryz.underlying105 h;rw [akCells9] at hlen;have hxl : xs.length = 3:=hxl
 match xs,hxl,cs,hlen with
 | [y0,y1,y2],_,[v0,v1,v2,v3],_ =>
  have g0:=hf 0 _ rfl;have g1:=hf 1 _ rfl;have g2:=hf 2 _ rfl
  simp [intCells,drCells8] at g0 g1 g2
  obtain ⟨N,hN,_,wN⟩:=DataW.trod_int Tryz.underlying3 g0;obtain ⟨a,b,⟨wa,wb⟩,hdr⟩:=open_drc8 g1;obtain ⟨Q,hQ,_,wQ⟩:=DataW.trod_int Tryz.underlying3 g2;refine ⟨⟨N,a,b,Q⟩,⟨wN,wa,wb,wQ⟩,?_⟩
  simp at hN hdr hQ
  obtain ⟨h1,h2⟩:=hdr;subst hN h1 h2 hQ
  rfl
structure Sta.Came (W : World) (s : Sta) : Prop where
 inn : s.In W
 fit : s.Fit
 hb1 : ∀ x ∈ s.B,x.s.D.length * 48 ≤ 140737488351232
 hb2 : ∀ x ∈ s.N,x.s.D.length * 48 ≤ 140737488351232
 w0 : (Lit.int .i64 s.self).wf = true
 w1 : (Lit.int .i64 s.st).wf = true
 w2 : (Lit.int .i64 s.view).wf = true
 w3 : (Lit.int .i64 s.last).wf = true
 w5 : (Lit.int .i64 s.commit).wf = true
 w7 : (Lit.int .i64 s.idle).wf = true
 wv : ∀ d ∈ s.V,(Lit.int .u64 d.1).wf = true∧(Lit.int .u64 d.2).wf = true
 wa : ∀ e ∈ s.A,(Lit.int .i64 e.n).wf = true∧(Lit.int .u64 e.h).wf = true∧(Lit.int .u64 e.l).wf = true∧(Lit.int .i64 e.p).wf = true
 wm : ∀ e ∈ s.M,(Lit.int .i64 e.n).wf = true∧(Lit.int .u64 e.h).wf = true∧(Lit.int .u64 e.l).wf = true
 wb : ∀ x ∈ s.B,x.fits W
 wn : ∀ x ∈ s.N,x.fits W
theorem open_state9 {H : Type} {enc : TypeId × Value → H} {W : World} {base : Nat} {v : Value} {d : DataW H} {p : List MemPlace} (hv : Value.okWide Tryz.prog W .any base 33 v) (h : DataW.Trod enc Tryz.prog W 0 (fun _ => true) true 33 v d p)
  (hw : ∀ m,m ∈ d.weights Tryz.prog 33 → m ≤ reachBytes) : ∃ s : Sta,v = s.val∧s.Came W:=by
 haveI : Inhabited Bl:=⟨⟨0,0,0,0,0,⟨none,0,[]⟩⟩⟩
 haveI : Inhabited An:=⟨⟨0,0,0,0,0,⟨none,0,[]⟩⟩⟩
 haveI : Inhabited Ak:=⟨⟨0,0,0,0⟩⟩
 haveI : Inhabited Mk:=⟨⟨0,0,0⟩⟩
 haveI : Inhabited En:=⟨⟨0,0,⟨0,0,⟨#[]⟩⟩⟩⟩
 obtain ⟨cs,rfl,hsz⟩:=okWide_struct Tryz.underlying33 hv;obtain ⟨fuel,hf⟩:=h;obtain ⟨xs,k,hk,hxy,hlen,hxl,hf⟩:=DataW.trod_struct Tryz.underlying33 hf;rw [staCells9] at hlen;have hxl : xs.length = 12:=hxl;simp only [Value.cells] at hlen hf;obtain ⟨l⟩:=cs
 match xs,hxl,l,hlen with
 | [y0,y1,y2,y3,y4,y5,y6,y7,y8,y9,y10,y11],_,[v0,v1,v2,v3,v4,v5,v6,v7,v8,v9,v10,v11],_ =>
  have hd : d = .agg ([y0,y1,y2,y3,y4,y5,y6,y7,y8,y9,y10,y11].map Prod.fst):=congrArg Prod.fst hxy
  have wg : ∀ (j : Nat) (t : TypeId) (x : DataW H),[3,24,3,3,25,3,27,3,28,29,30,31][j]? = some t → ([y0,y1,y2,y3,y4,y5,y6,y7,y8,y9,y10,y11].map Prod.fst)[j]? = some x → ∀ k,k ∈ x.weights Tryz.prog t → k ≤ reachBytes:=fun j t x ht hx k hk => hw k (by
   rw [hd];simp only [DataW.weights,Tryz.underlying33]
   exact DataW.weights_mem_each (j:=j) (t:=t) ht hx k hk)
  have g0:=hf 0 _ rfl;have g1:=hf 1 _ rfl;have g2:=hf 2 _ rfl;have g3:=hf 3 _ rfl;have g4:=hf 4 _ rfl;have g5:=hf 5 _ rfl;have g6:=hf 6 _ rfl;have g7:=hf 7 _ rfl;have g8:=hf 8 _ rfl;have g9:=hf 9 _ rfl;have g10:=hf 10 _ rfl;have g11:=hf 11 _ rfl
  simp [intCells,stuCells9,slCells8,veCells9,aksCells9,mksCells9,blsCells9,ansCells9] at g0 g1 g2 g3 g4 g5 g6 g7 g8 g9 g10 g11
  obtain ⟨z0,e0,_,c0⟩:=DataW.trod_int Tryz.underlying3 g0;obtain ⟨z1,e1,_,c1⟩:=DataW.trod_int Tryz.underlying24 g1;obtain ⟨z2,e2,_,c2⟩:=DataW.trod_int Tryz.underlying3 g2;obtain ⟨z3,e3,_,c3⟩:=DataW.trod_int Tryz.underlying3 g3;obtain ⟨z5,e5,_,c5⟩:=DataW.trod_int Tryz.underlying3 g5;obtain ⟨z7,e7,_,c7⟩:=DataW.trod_int Tryz.underlying3 g7;obtain ⟨s4,e4,hl4,hf4,hb4⟩:=log_of_trod g4 (wg 4 _ _ rfl rfl)
  obtain ⟨a6,n6,c6,e6,P6,hl6,hf6,hb6⟩:=rows_of_trod9 (Y:=yD) kD (fun d => (Lit.int .u64 d.1).wf = true∧(Lit.int .u64 d.2).wf = true) drCells8 drBytes8 (fun h _ => by
   obtain ⟨x,y,hxy,e⟩:=open_drc8 h
   exact ⟨(x,y),hxy,e⟩) g6 (wg 6 _ _ rfl rfl)
  obtain ⟨a8,n8,c8,e8,P8,hl8,hf8,hb8⟩:=rows_of_trod9 (Y:=yAkA) kAkA _ akCells9 akBytes9 (fun h _ => open_akc9 h) g8 (wg 8 _ _ rfl rfl);obtain ⟨a9,n9,c9,e9,P9,hl9,hf9,hb9⟩:=rows_of_trod9 (Y:=yMkA) kMkA _ mkCells9 mkBytes9 (fun h _ => open_mkc9 h) g9 (wg 9 _ _ rfl rfl);obtain ⟨a10,n10,c10,e10,P10,hl10,hf10,hb10⟩:=rows_of_trod9 (Y:=yBlA) kBlA (fun e => e.fits W) cellsBl bytesBl (fun h hw => open_elBl h hw) g10 (wg 10 _ _ rfl rfl);obtain ⟨a11,n11,c11,e11,P11,hl11,hf11,hb11⟩:=rows_of_trod9 (Y:=yAnA) kAnA (fun e => e.fits W) cellsAn bytesAn (fun h hw => open_elAn h hw) g11 (wg 11 _ _ rfl rfl)
  simp at e0 e1 e2 e3 e5 e7
  subst e0 e1 e2 e3 e4 e5 e6 e7 e8 e9 e10 e11;obtain rfl : n6 = P6.length:=hl6.len.symm;obtain rfl : n8 = P8.length:=hl8.len.symm;obtain rfl : n9 = P9.length:=hl9.len.symm;obtain rfl : n10 = P10.length:=hl10.len.symm;obtain rfl : n11 = P11.length:=hl11.len.symm;refine ⟨⟨z0,z1,z2,z3,s4.a,s4.c,s4.D,z5,a6,c6,P6,z7,a8,c8,P8,a9,c9,P9,a10,c10,P10,a11,c11,P11⟩,rfl,?_⟩
  exact ⟨⟨hl4,hl6,hl8,hl9,hl10,hl11,fun x hx => (hf10 x hx).In,fun x hx => (hf11 x hx).In⟩,⟨hf4,fun x hx => (hf10 x hx).ew,fun x hx => (hf11 x hx).ew,by show s4.D.length * 48 ≤ _;omega,by show P6.length * 16 ≤ _;simp only [yD] at hb6;omega,by show P8.length * 32 ≤ _;simp only [yAkA] at hb8;omega,by show P9.length * 24 ≤ _;simp only [yMkA] at hb9;omega,by show P10.length * 64 ≤ _;simp only [yBlA] at hb10;omega,by show P11.length * 64 ≤ _;simp only [yAnA] at hb11;omega⟩,fun x hx => (hf10 x hx).bw,fun x hx => (hf11 x hx).bw,c0,c1,c2,c3,c5,c7,hf6,hf8,hf9,hf10,hf11⟩
end Go.Proofs.YtpcgnjpodnebpaaGreatDoor
namespace Go.Proofs.YtpcgnjpodnebpaaGreatDoor
open Go.RowKit Go.Maps Go.WideShapes Go.ChangeShapes
open Classical
theorem gTab : Tryz.prog.globalNamed "amnesia/message.table" = some 0 := by kernel_rfl
theorem gTabT : (Tryz.prog.globals[0]?).map (·.type) = some 97:=by kernel_rfl
theorem cellsRow : Tryz.prog.cellsOf 96 = 10:=by kernel_rfl
theorem cellsRule : Tryz.prog.cellsOf 95 = 1:=by kernel_rfl
theorem undTab : Tryz.prog.underlying 97 = some (.array 15 96):=by kernel_rfl
theorem undRow : Tryz.prog.underlying 96 = some (.array 10 95):=by kernel_rfl
theorem undRule : Tryz.prog.underlying 95 = some (.int .u8):=by kernel_rfl
theorem tab_of_laid7 {W : World} (h : laidMetH Tryz.prog [("amnesia/message.table", Rows.laid_amnesia_message_table)] W) : Tab W := by
 rw [MakeChecks.laidMetH_plain _ _ _ (by kernel_rfl)] at h;obtain ⟨ps,⟨g',t',cs,fuel,p,q,hg',ht',hvar,hd,_,_⟩,_⟩:=h;obtain rfl:=Option.some.inj (gTab.symm.trans hg');obtain rfl:=Option.some.inj (gTabT.symm.trans ht');obtain ⟨xs,m,_,hx,hl,hxl,hall⟩:=DataW.trod_array undTab hd
 have e : (Rows.laid_amnesia_message_table : DataW Unit) = .agg ((List.range 15).map fun k => Lib.tabData .u8 ((List.range 10).map fun j => (tabA k j : Int))):=by kernel_rfl
 have hxs : xs.map (·.1) = (List.range 15).map fun k => (Lib.tabData .u8 ((List.range 10).map fun j => (tabA k j : Int)) : DataW Unit):=by
  have h1:=congrArg Prod.fst hx;rw [e] at h1
  exact (DataW.agg.inj h1).symm
 have row : ∀ k,k < 15 → (cs.toList.drop (k * 10)).take 10 = ((List.range 10).map fun j => (tabA k j : Int)).map fun z => Value.int .u8 z:=by
  intro k hk;have h1:=hall k hk;rw [cellsRow] at h1
  obtain ⟨x,hx⟩ : ∃ x,xs[k]? = some x:=⟨_,List.getElem?_eq_getElem (by omega)⟩
  rw [hx] at h1
  have h2 : x.1 = (Lib.tabData .u8 ((List.range 10).map fun j => (tabA k j : Int)) : DataW Unit):=by
   have h3:=congrArg (fun l => l[k]?) hxs;simp only [List.getElem?_map,hx,Option.map_some,List.getElem?_range hk] at h3
   exact Option.some.inj h3
  obtain ⟨d,pp⟩:=x;subst h2
  exact Lib.cells_of_tab undRow undRule cellsRule cellsRow h1
 have cell : ∀ k j,k < 15 → j < 10 → W.cell? ⟨0,k * 10 + j,none⟩ = some (.int .u8 (tabA k j : Int)):=by
  intro k j hk hj;have h1:=World.var?_cell gTab hvar (k * 10 + j);rw [h1];have h2:=congrArg (fun l => l[j]?) (row k hk);simp only [List.getElem?_take_of_lt hj,List.getElem?_drop,List.getElem?_map,List.getElem?_range hj,Option.map_some,Array.getElem?_toList] at h2
  exact h2
 refine ⟨?_,cell⟩;have h0:=cell 0 0 (by decide) (by decide)
 apply Nat.pos_of_ne_zero
 intro hz;have : W.heap[0]? = none:=Array.getElem?_eq_none (by omega)
 simp [World.cell?,this] at h0
end Go.Proofs.YtpcgnjpodnebpaaGreatDoor
