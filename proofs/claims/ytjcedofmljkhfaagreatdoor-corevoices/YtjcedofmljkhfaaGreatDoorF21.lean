import Derived.ChangeOld
import Derived.ProofKit
import Derived.OpenShut
import Derived.Deep.SlicePairs
import Derived.SizedLaws
import Derived.Test.YtjcedofmljkhfaaGreatDoorF20
set_option maxRecDepth 100000
set_option linter.unusedVariables false
set_option linter.unusedSimpArgs false
namespace Go.Proofs.YtjcedofmljkhfaaGreatDoor
open Go.RowKit Go.Maps Go.Shelf
open Classical
/-! What the votes of a state are. -/
def gd9 (V : List (Int × Int)) (x : Mk) : Prop:=(0 ≤ x.n∧x.n < (V.length : Int))∧(x.h,x.l) = V.getD x.n.toNat (0,0)
theorem cmpI_neg9 (a b : Int) : (cmpI a b < 0) = (0 < cmpI b a):=by
 unfold cmpI
 by_cases h : a < b
 ·rw [if_pos h,if_neg (show ¬ b < a by omega),if_pos h]
  simp
 ·by_cases h2 : b < a
  ·rw [if_neg h,if_pos h2,if_pos h2]
   simp
  ·rw [if_neg h,if_neg h2,if_neg h2,if_neg h]
theorem cmpD_neg9 (h l h' l' : Int) : (cmpD h l h' l' < 0) = (0 < cmpD h' l' h l):=by
 unfold cmpD
 by_cases e : h = h'
 ·subst e
  rw [if_pos rfl,if_pos rfl,cmpI_neg9]
 ·rw [if_neg e,if_neg (fun e2 => e e2.symm),cmpI_neg9]
theorem rs9_in9 {n self : Int} : ∀ {X : List Mk} {least : Int},0 ≤ least → rs9 n self least X = true → ∀ x ∈ X,0 ≤ x.n∧x.n < n
 | y :: r,least,h0,h,x,hx => by
  simp only [rs9,Bool.and_eq_true,Bool.not_eq_true',Bool.or_eq_false_iff,decide_eq_false_iff_not] at h;obtain ⟨⟨⟨h1,h2⟩,h3⟩,h4⟩:=h
  rcases List.mem_cons.1 hx with rfl | hx
  ·exact ⟨by omega,by omega⟩
  ·exact rs9_in9 (by omega) h4 x hx
 | [],_,_,_,_,hx => by cases hx
theorem jn9_at9 {M V : List (Int × Int)} {k : Nat} (h : k < M.length) : (jn9 M V).getD k (0,0) = rz9 (M.getD k (0,0)) (V.getD k (0,0)):=by
 simp only [jn9,List.getD_eq_getElem?_getD,List.getElem?_map,List.getElem?_range h,Option.map_some,Option.getD_some]
theorem adV_len9 (c : Cg) (s : Sta) (m : Ms9) : (adV9 c s m).length = s.V.length:=by
 unfold adV9
 split
 ·exact jn9_length _ _
 ·rfl
theorem keep9 {c : Cg} {s : Sta} {m : Ms9} {x : Mk} (h : gd9 s.V x) (ho : ovr (adV9 c s m) x.n x.h x.l = false) : gd9 (adV9 c s m) x:=by
 obtain ⟨⟨h1,h2⟩,h3⟩:=h;refine ⟨⟨h1,by rw [adV_len9];exact h2⟩,?_⟩
 unfold adV9 at ho ⊢
 by_cases hc : (btB m.m.k && (!decide (m.m.nd = s.self) && (!c.u && hear9 s m))) = true
 ·rw [if_pos hc] at ho ⊢
  have hk : x.n.toNat < s.V.length:=by omega
  unfold ovr at ho
  rw [jn9_length,decide_eq_true (show 0 ≤ x.n∧x.n < (s.V.length : Int) from ⟨h1,h2⟩),Bool.true_and,jn9_at9 hk] at ho;have ho:=of_decide_eq_false ho;rw [jn9_at9 hk];rw [cmpD_neg9] at ho
  unfold rz9 at ho ⊢
  by_cases hg : 0 < cmpD (m.V.getD x.n.toNat (0,0)).1 (m.V.getD x.n.toNat (0,0)).2 (s.V.getD x.n.toNat (0,0)).1 (s.V.getD x.n.toNat (0,0)).2
  ·exfalso
   rw [if_pos hg] at ho;rw [← h3] at hg
   exact ho hg
  ·rw [if_neg hg]
   exact h3
 ·rw [if_neg hc]
  exact h3
theorem votes_good9 {c : Cg} {s : Sta} (h : s.ckE c = 0) : ∀ k,∀ x ∈ s.vs k,gd9 s.V x:=by
 unfold Sta.ckE at h
 cases hok : c.okB with
 | false => rw [hok] at h;simp at h
 | true =>
  rw [hok] at h
  cases hs : s.stB c with
  | false => rw [hs] at h;simp at h
  | true =>
   simp only [Sta.stB,Bool.and_eq_true] at hs;obtain ⟨⟨⟨hn,hv⟩,hl⟩,_⟩:=hs;rw [votB9 s hok,Bool.and_eq_true] at hv;obtain ⟨hr,_⟩:=hv;simp only [Sta.numB,Bool.and_eq_true,decide_eq_true_eq] at hn
   have hV : (s.V.length : Int) = c.nd:=by
    have h:=hn.1.1.1.1.1.2
    by_cases e : (s.V.length : Int) = c.nd
    ·exact e
    ·rw [if_neg e] at h;omega
   simp only [Sta.rsB,Bool.and_eq_true] at hr;obtain ⟨⟨⟨r0,r1⟩,r2⟩,r3⟩:=hr;simp only [Sta.livB,Bool.and_eq_true,List.all_eq_true] at hl;obtain ⟨⟨⟨l0,l1⟩,l2⟩,l3⟩:=hl
   have mk : ∀ {X : List Mk},rs9 c.nd s.self 0 X = true → (∀ x ∈ X,lv8 s.V x = true) → ∀ x ∈ X,gd9 s.V x:=fun hr hl x hx => by
    have h1:=rs9_in9 (Int.le_refl 0) hr x hx
    exact ⟨⟨h1.1,by rw [hV];exact h1.2⟩,of_decide_eq_true (hl x hx)⟩
   intro k
   match k with
   | 0 => exact mk r0 l0
   | 1 => exact mk r1 l1
   | 2 => exact mk r2 l2
   | _ + 3 => exact mk r3 l3
theorem voices9 {c : Cg} {s t : Sta} {m : Ms9} {B : Nat} {w : World} (hc : s.ckE c = 0) (h : t.Kn B s (adV9 c s m) w) : t.V.length = s.V.length∧t.A.length ≤ s.A.length∧t.M.length ≤ s.M.length∧t.B.length ≤ s.B.length∧t.N.length ≤ s.N.length∧(∀ x ∈ t.A,gd9 t.V (Ak.sm x))∧(∀ x ∈ t.M,gd9 t.V (Mk.sm x))∧(∀ x ∈ t.B,gd9 t.V (Bl.sm x))∧∀ x ∈ t.N,gd9 t.V (An.sm x):=by
 have g:=votes_good9 hc;have hb : t.B.map Bl.sm = (Bl.prn s.B (adV9 c s m)).map Bl.sm:=maps9 Bl.Like Bl.sm (fun x y k => by unfold Bl.sm;rw [k.1,k.2.1,k.2.2.1]) _ _ h.b.1 (fun i x y hx hy => (h.b.2 i x y hx hy).like);have hn : t.N.map An.sm = (An.prn s.N (adV9 c s m)).map An.sm:=maps9 An.Like An.sm (fun x y k => by unfold An.sm;rw [k.1,k.2.1,k.2.2.1]) _ _ h.n.1 (fun i x y hx hy => (h.n.2 i x y hx hy).like);rw [h.v];refine ⟨adV_len9 c s m,by rw [h.a];exact List.length_filter_le _ _,by rw [h.m];exact List.length_filter_le _ _,by rw [h.b.1];exact List.length_filter_le _ _,by rw [h.n.1];exact List.length_filter_le _ _,fun x hx => ?_,fun x hx => ?_,fun x hx => ?_,fun x hx => ?_⟩
 ·rw [h.a] at hx
  obtain ⟨h1,h2⟩:=List.mem_filter.1 hx
  exact keep9 (g 0 _ (List.mem_map_of_mem h1)) (show ovr (adV9 c s m) x.n x.h x.l = false from by simpa using h2)
 ·rw [h.m] at hx
  obtain ⟨h1,h2⟩:=List.mem_filter.1 hx
  exact keep9 (g 1 _ (List.mem_map_of_mem h1)) (show ovr (adV9 c s m) x.n x.h x.l = false from by simpa using h2)
 ·have hx2:=List.mem_map_of_mem (f:=Bl.sm) hx
  rw [hb] at hx2;obtain ⟨y,hy,e⟩:=List.mem_map.1 hx2;obtain ⟨h1,h2⟩:=List.mem_filter.1 hy;rw [← e]
  exact keep9 (g 2 _ (List.mem_map_of_mem h1)) (show ovr (adV9 c s m) y.n y.h y.l = false from by simpa using h2)
 ·have hx2:=List.mem_map_of_mem (f:=An.sm) hx
  rw [hn] at hx2;obtain ⟨y,hy,e⟩:=List.mem_map.1 hx2;obtain ⟨h1,h2⟩:=List.mem_filter.1 hy;rw [← e]
  exact keep9 (g 3 _ (List.mem_map_of_mem h1)) (show ovr (adV9 c s m) y.n y.h y.l = false from by simpa using h2)
theorem neqDs9 (x y : Operand) (r : Int × Int) (w : World) : (do eqGuard .neq 43 x y (.agg #[.int .u64 r.1,.int .u64 r.2]) (.agg #[.int .u64 r.1,.int .u64 r.2]);binOp .neq 43 (.agg #[.int .u64 r.1,.int .u64 r.2]) (.agg #[.int .u64 r.1,.int .u64 r.2]) : Sem Value).run Tryz.prog w = .ok (.bool false) w:=by
 rw [neqDr7,decide_eq_true rfl]
 rfl
theorem ldgd9 {w : World} {q o : Nat} {V : List (Int × Int)} {x : Mk} (g : gd9 V x) (h0 : w.cell? ⟨q,o,none⟩ = some (.int .u64 x.h)) (h1 : w.cell? ⟨q,o + 1,none⟩ = some (.int .u64 x.l)) : (Instr.loadAt 43 (.pointer (some ⟨q,o,none⟩))).run Tryz.prog w = .ok (.agg #[.int .u64 (V.getD x.n.toNat (0,0)).1,.int .u64 (V.getD x.n.toNat (0,0)).2]) w:=by
 have e:=g.2;have e1 : x.h = (V.getD x.n.toNat (0,0)).1:=congrArg Prod.fst e;have e2 : x.l = (V.getD x.n.toNat (0,0)).2:=congrArg Prod.snd e;rw [e1] at h0;rw [e2] at h1
 exact ldDr8 h0 h1
theorem rmcheck9 (c : Cg) (m : Ms9) (w : World) (hM : m.In w) (hF : m.Fit) : Calls Tryz.prog 8 #[c.val,m.val] w fun e w' => e = .returned (.int .i64 (adM9 c m))∧Below w.heap.size w w' :=
 refcheck7 c.cf m.m m.la m.va m.lc m.vc m.L m.V w hM.l hF.le hM.v hF.ee
set_option maxHeartbeats 2000000 in
theorem voicesL9 (c : Cg) (s : Sta) (m : Ms9) (w : World) (hI : s.In w) (hF : s.Fit) (hM : m.In w) (hMF : m.Fit) (hT : Tab w) :
  Calls Tryz.prog 3 #[c.val,s.val,m.val] w fun e w' => e = .returned (.bool true)∧Below w.heap.size w w':=by
 go_enter Tryz.func3,Tryz.ntmps3
 go_upto_region 0 with fail
 refine wp_region_lit ?_;refine vl_gen (fun T => Rp T 274 [(2,gw true (m.val)),(1,gw true (s.val)),(0,gw true (c.val))]) ((((Rp.nil rfl).cons rfl).cons rfl).cons rfl) (fun Z0 q0 => ?_)
 obtain ⟨w1,hw1⟩ : ∃ y,y = w.alloc (.cells c.cs.toArray 23):=⟨_,rfl⟩
 refine vw (.pointer (some ⟨w.heap.size,0,none⟩)) w1 (want_none rfl) (ex_box8 rfl (q0.f 0) (by rw [hw1];exact bxC7 _ _)) rfl q0.z (by decide) (q0.k fun _ q1 => ?_);clear q0
 have HC : CB7 w1 w.heap.size c:=by rw [hw1];exact BX7.new _ _ _
 have bw1 : Below w.heap.size w w1:=by rw [hw1];exact (Below.refl _ _).alloc (Nat.le_refl _) _
 have yw1 : w1.heap.size = w.heap.size + 1:=by rw [hw1];exact World.size_alloc _ _
 clear hw1
 obtain ⟨w2,hw2⟩ : ∃ y,y = w1.alloc (.cells s.cs.toArray 33):=⟨_,rfl⟩
 refine vw (.pointer (some ⟨w1.heap.size,0,none⟩)) w2 (want_none rfl) (ex_box8 rfl (q1.f 1) (by rw [hw2];exact bxS7 _ _)) rfl q1.z (by decide) (q1.k fun _ q2 => ?_);clear q1
 have HS : SB7 w2 w1.heap.size s:=by rw [hw2];exact BX7.new _ _ _
 have bw2 : Below w1.heap.size w1 w2:=by rw [hw2];exact (Below.refl _ _).alloc (Nat.le_refl _) _
 have yw2 : w2.heap.size = w1.heap.size + 1:=by rw [hw2];exact World.size_alloc _ _
 clear hw2
 obtain ⟨w3,hw3⟩ : ∃ y,y = w2.alloc (.cells m.cs.toArray 45):=⟨_,rfl⟩
 refine vw (.pointer (some ⟨w2.heap.size,0,none⟩)) w3 (want_none rfl) (ex_box8 rfl (q2.f 2) (by rw [hw3];exact bxM9 _ _)) rfl q2.z (by decide) (q2.k fun _ q3 => ?_);clear q2
 have HM : MB9 w3 w2.heap.size m:=by rw [hw3];exact BX7.new _ _ _
 have bw3 : Below w2.heap.size w2 w3:=by rw [hw3];exact (Below.refl _ _).alloc (Nat.le_refl _) _
 have yw3 : w3.heap.size = w2.heap.size + 1:=by rw [hw3];exact World.size_alloc _ _
 clear hw3;replace HC:=(HC.bel bw2).bel bw3;replace HS:=HS.bel bw3;have d : Below w.heap.size w w3:=(bw1.trans (bw2.mono (by omega))).trans (bw3.mono (by omega));clear bw1 bw2 bw3;have hT3:=hT.later d hT.lt
 refine q3.t (.bool false) (ex_assign rfl rfl) fun _ q4 => ?_;clear q3
 have q5:=(((((Rp.nil q4.z).cons (q4.a 3 rfl)).cons (q4.a 4 rfl)).cons (q4.a 5 rfl)).cons (q4.a 6 rfl))
 clear q4;refine wpList_nil ?_
 go_upto_region 1 with fail
 refine wp_region_lit ?_;refine vcallP (want_none rfl) (ex_call (args:=#[]) rfl (by simp) rfl) (alive9 w3 hT3) rfl q5.z (by decide) ?_;rintro e w4 ⟨rfl,b4⟩;refine ⟨_,rfl,q5.k fun _ q6 => ?_⟩;clear q5;replace HC:=HC.bel b4;replace HS:=HS.bel b4;replace HM:=HM.bel b4;replace d:=d.trans (b4.mono (by have:=d.size;omega));have zw4:=b4.size;clear b4
 refine q6.t (.bool false) (ex_not rfl (q6.f 18)) fun _ q7 => ?_;clear q6
 refine wpList_nil ?_
 go_upto_region 3 with fail
 refine wp_cond_false (q7.f 19) ?_
 go_upto_region 3 with fail
 refine wp_region_lit ?_
 refine q7.t _ (ex_ld rfl (q7.f 3) (CB7.ld HC)) fun _ q8 => ?_;clear q7
 refine q8.t _ (ex_ld rfl (q8.f 4) (SB7.ld HS)) fun _ q9 => ?_;clear q8
 refine vcallP (want_none rfl) (ex_call rfl (by simp only [List.map_toArray,List.map_cons,List.map_nil,(q9.f 20),(q9.f 21),evc] <;> rfl) rfl) (rcheck9 c s w4 (hI.later d) hF) rfl q9.z (by decide) ?_;rintro e w5 ⟨rfl,b5⟩;refine ⟨_,rfl,q9.k fun _ q10 => ?_⟩;clear q9;replace HC:=HC.bel b5;replace HS:=HS.bel b5;replace HM:=HM.bel b5;replace d:=d.trans (b5.mono (by have:=d.size;omega));have zw5:=b5.size;clear b5
 refine q10.t (.bool (!decide (s.rk9 c = 0))) (ex_bin (Y:=.int .i64 (0)) rfl (q10.f 22) rfl (neqC _ _ _ _ _)) fun _ q11 => ?_;clear q10
 have q12:=((((((Rp.nil q11.z).cons (q11.a 3 rfl)).cons (q11.a 4 rfl)).cons (q11.a 5 rfl)).cons (q11.a 6 rfl)).cons (q11.a 23 rfl))
 clear q11;refine wpList_nil ?_;have hrk:=rk9_ckE s c
 by_cases hck : s.ckE c = 0
 ·rw [hck] at hrk
  rw [hrk,decide_eq_true rfl] at q12;have hE : adE9 c s m = adM9 c m:=if_pos hck
  go_upto_region 6 with fail
  refine wp_cond_false (q12.f 23) ?_
  go_upto_region 6 with fail
  refine wp_region_lit ?_
  refine q12.t _ (ex_ld rfl (q12.f 3) (CB7.ld HC)) fun _ q13 => ?_;clear q12
  refine q13.t _ (ex_ld rfl (q13.f 4) (SB7.ld HS)) fun _ q14 => ?_;clear q13
  refine q14.t _ (ex_ld rfl (q14.f 5) (MB9.ld HM)) fun _ q15 => ?_;clear q14
  refine vcallP (want_none rfl) (ex_call rfl (by simp only [List.map_toArray,List.map_cons,List.map_nil,(q15.f 40),(q15.f 41),(q15.f 42),evc] <;> rfl) rfl) (admit9 c s m w5 (hI.later d) hF (hM.later d) hMF (hT.later d hT.lt)) rfl q15.z (by decide) ?_;rintro e w6 ⟨t,b,rfl,tin,ht,b6⟩;refine ⟨_,rfl,q15.k fun _ q16 => ?_⟩;clear q15;replace HC:=HC.bel b6;replace HS:=HS.bel b6;replace HM:=HM.bel b6;replace d:=d.trans (b6.mono (by have:=d.size;omega));have zw6:=b6.size;clear b6
  refine q16.t _ (ex_move rfl (q16.f 43)) fun _ q17 => ?_;clear q16
  refine q17.t _ (ex_ext8 rfl (q17.f 39) rfl) fun _ q18 => ?_;clear q17
  refine q18.t _ (ex_ext8 rfl (q18.f 39) rfl) fun _ q19 => ?_;clear q18
  refine q19.t _ (ex_ext8 rfl (q19.f 39) rfl) fun _ q20 => ?_;clear q19
  obtain ⟨w7,hw7⟩ : ∃ y,y = w6.alloc (.cells zS8.cs.toArray 33):=⟨_,rfl⟩
  refine vw (.pointer (some ⟨w6.heap.size,0,none⟩)) w7 (want_none rfl) (ex_al rfl (by rw [hw7];exact al12 _)) rfl q20.z (by decide) (q20.k fun _ q21 => ?_);clear q20
  have HQ0 : SB7 w7 w6.heap.size zS8:=by rw [hw7];exact BX7.new _ _ _
  have b7 : Below w6.heap.size w6 w7:=by rw [hw7];exact (Below.refl _ _).alloc (Nat.le_refl _) _
  have y7 : w7.heap.size = w6.heap.size + 1:=by rw [hw7];exact World.size_alloc _ _
  clear hw7
  obtain ⟨w8,hw8⟩ : ∃ y,y = sets w7 w6.heap.size 0 t.cs:=⟨_,rfl⟩
  refine vs w8 (want_none rfl) (ex_st rfl (q21.f 10) (q21.f 44) (by rw [hw8];exact st12 HQ0 t)) rfl ?_
  have HQ : SB7 w8 w6.heap.size t:=by rw [hw8];exact SB7.put HQ0 t
  have u8 : Upd (fun k => k = w6.heap.size) w7 w8:=by rw [hw8];exact upd12 _ _ _
  clear hw8 HQ0;have y8:=u8.size;have b8 : Below w6.heap.size w6 w8:=b7.trans (u8.below (by omega) (fun k hk => by omega));replace tin:=tin.later b8;clear b7 u8;replace HC:=HC.bel b8;replace HS:=HS.bel b8;replace HM:=HM.bel b8;replace d:=d.trans (b8.mono (by have:=d.size;omega));have zw8:=b8.size;clear b8
  refine q21.t _ (ex_assign rfl (q21.f 45)) fun _ q22 => ?_;clear q21
  refine q22.t _ (ex_assign rfl (q22.f 46)) fun _ q23 => ?_;clear q22
  have q24:=((((((((Rp.nil q23.z).cons (q23.a 3 rfl)).cons (q23.a 4 rfl)).cons (q23.a 5 rfl)).cons (q23.a 6 rfl)).cons (q23.a 10 rfl)).cons (q23.a 11 rfl)).cons (q23.a 12 rfl))
  clear q23;refine wpList_nil ?_
  go_upto_region 7 with fail
  refine wp_region_lit ?_
  refine q24.t _ (ex_move rfl (q24.f 12)) fun _ q25 => ?_;clear q24
  refine vcallP (want_none rfl) (ex_call rfl (by simp only [List.map_toArray,List.map_cons,List.map_nil,(q25.f 47),evc] <;> rfl) rfl) (num9 (adE9 c s m) w8) rfl q25.z (by decide) ?_;rintro e w9 ⟨rfl,b9⟩;refine ⟨_,rfl,q25.k fun _ q26 => ?_⟩;clear q25;replace HQ:=HQ.bel b9;replace tin:=tin.later b9;replace HC:=HC.bel b9;replace HS:=HS.bel b9;replace HM:=HM.bel b9;replace d:=d.trans (b9.mono (by have:=d.size;omega));have zw9:=b9.size;clear b9
  refine q26.t (.bool (!decide (adE9 c s m = 0))) (ex_bin (Y:=.int .i64 (0)) rfl (q26.f 48) rfl (neqC _ _ _ _ _)) fun _ q27 => ?_;clear q26
  have q28:=(((((((((Rp.nil q27.z).cons (q27.a 3 rfl)).cons (q27.a 4 rfl)).cons (q27.a 5 rfl)).cons (q27.a 6 rfl)).cons (q27.a 10 rfl)).cons (q27.a 11 rfl)).cons (q27.a 12 rfl)).cons (q27.a 49 rfl))
  clear q27;refine wpList_nil ?_
  by_cases hae : adE9 c s m = 0
  ·rw [hae,decide_eq_true rfl] at q28
   have hkn : t.Kn w5.heap.size s (adV9 c s m) w6:=by
    rcases ht with ⟨h9,_⟩ | ⟨_,h9,_⟩
    ·exact absurd hae h9
    ·exact h9
   obtain ⟨hV,hA,hM2,hB2,hN2,gA,gM,gB,gN⟩:=voices9 hck hkn;clear hkn ht;have fa:=hF.al;have fm:=hF.ml;have fb:=hF.bl;have fn:=hF.nl
   go_upto_region 9 with fail
   refine wp_cond_false (q28.f 49) ?_
   go_upto_region 9 with fail
   refine wp_region_lit ?_
   refine q28.t _ (ex_fa rfl (q28.f 10) (faS6 _ _)) fun _ q29 => ?_;clear q28
   refine q29.t _ (ex_ld rfl (q29.f 56) (ldV8 (HQ.cell 6 _ rfl))) fun _ q30 => ?_;clear q29
   refine q30.t _ (ex_lenV8 rfl rfl (q30.f 57)) fun _ q31 => ?_;clear q30
   refine q31.t _ (ex_fa rfl (q31.f 4) (faS6 _ _)) fun _ q32 => ?_;clear q31
   refine q32.t _ (ex_ld rfl (q32.f 59) (ldV8 (HS.cell 6 _ rfl))) fun _ q33 => ?_;clear q32
   refine q33.t _ (ex_lenV8 rfl rfl (q33.f 60)) fun _ q34 => ?_;clear q33
   refine q34.t (.bool false) (ex_bin rfl (q34.f 58) (q34.f 61) (by rw [neqC,hV,decide_eq_true rfl];rfl)) fun _ q35 => ?_;clear q34
   refine q35.t _ (ex_move rfl (q35.f 62)) fun _ q36 => ?_;clear q35
   refine q36.g 63 rfl rfl rfl _ (fun hc => ex_fa rfl (q36.f 10) (faS8 _ _)) fun _ q37 => ?_;clear q36
   refine q37.g 63 rfl rfl rfl _ (fun hc => ex_ld rfl (ev (q37.a 64 rfl) hc) (ldK8 (HQ.cell 8 _ rfl))) fun _ q38 => ?_;clear q37
   refine q38.g 63 rfl rfl rfl _ (fun hc => ex_lenK8 rfl rfl (ev (q38.a 65 rfl) hc)) fun _ q39 => ?_;clear q38
   refine q39.g 63 rfl rfl rfl _ (fun hc => ex_fa rfl (q39.f 4) (faS8 _ _)) fun _ q40 => ?_;clear q39
   refine q40.g 63 rfl rfl rfl _ (fun hc => ex_ld rfl (ev (q40.a 67 rfl) hc) (ldK8 (HS.cell 8 _ rfl))) fun _ q41 => ?_;clear q40
   refine q41.g 63 rfl rfl rfl _ (fun hc => ex_lenK8 rfl rfl (ev (q41.a 68 rfl) hc)) fun _ q42 => ?_;clear q41
   refine q42.g 63 rfl rfl rfl (.bool false) (fun hc => ex_bin rfl (ev (q42.a 66 rfl) hc) (ev (q42.a 69 rfl) hc) (by rw [gtrC,decide_eq_false (by omega)])) fun _ q43 => ?_;clear q42
   refine q43.t (.bool false) (ex_or (c:=true) (b:=false) (z:=false) rfl (q43.a 63 rfl) (q43.a 70 rfl) rfl) fun _ q44 => ?_;clear q43
   refine q44.t _ (ex_move rfl (q44.f 71)) fun _ q45 => ?_;clear q44
   refine q45.g 72 rfl rfl rfl _ (fun hc => ex_fa rfl (q45.f 10) (faS9 _ _)) fun _ q46 => ?_;clear q45
   refine q46.g 72 rfl rfl rfl _ (fun hc => ex_ld rfl (ev (q46.a 73 rfl) hc) (ldM8 (HQ.cell 9 _ rfl))) fun _ q47 => ?_;clear q46
   refine q47.g 72 rfl rfl rfl _ (fun hc => ex_lenM8 rfl rfl (ev (q47.a 74 rfl) hc)) fun _ q48 => ?_;clear q47
   refine q48.g 72 rfl rfl rfl _ (fun hc => ex_fa rfl (q48.f 4) (faS9 _ _)) fun _ q49 => ?_;clear q48
   refine q49.g 72 rfl rfl rfl _ (fun hc => ex_ld rfl (ev (q49.a 76 rfl) hc) (ldM8 (HS.cell 9 _ rfl))) fun _ q50 => ?_;clear q49
   refine q50.g 72 rfl rfl rfl _ (fun hc => ex_lenM8 rfl rfl (ev (q50.a 77 rfl) hc)) fun _ q51 => ?_;clear q50
   refine q51.g 72 rfl rfl rfl (.bool false) (fun hc => ex_bin rfl (ev (q51.a 75 rfl) hc) (ev (q51.a 78 rfl) hc) (by rw [gtrC,decide_eq_false (by omega)])) fun _ q52 => ?_;clear q51
   refine q52.t (.bool false) (ex_or (c:=true) (b:=false) (z:=false) rfl (q52.a 72 rfl) (q52.a 79 rfl) rfl) fun _ q53 => ?_;clear q52
   refine q53.t _ (ex_move rfl (q53.f 80)) fun _ q54 => ?_;clear q53
   refine q54.g 81 rfl rfl rfl _ (fun hc => ex_fa rfl (q54.f 10) (faS10 _ _)) fun _ q55 => ?_;clear q54
   refine q55.g 81 rfl rfl rfl _ (fun hc => ex_ld rfl (ev (q55.a 82 rfl) hc) (ldB8 (HQ.cell 10 _ rfl))) fun _ q56 => ?_;clear q55
   refine q56.g 81 rfl rfl rfl _ (fun hc => ex_lenB8 rfl rfl (ev (q56.a 83 rfl) hc)) fun _ q57 => ?_;clear q56
   refine q57.g 81 rfl rfl rfl _ (fun hc => ex_fa rfl (q57.f 4) (faS10 _ _)) fun _ q58 => ?_;clear q57
   refine q58.g 81 rfl rfl rfl _ (fun hc => ex_ld rfl (ev (q58.a 85 rfl) hc) (ldB8 (HS.cell 10 _ rfl))) fun _ q59 => ?_;clear q58
   refine q59.g 81 rfl rfl rfl _ (fun hc => ex_lenB8 rfl rfl (ev (q59.a 86 rfl) hc)) fun _ q60 => ?_;clear q59
   refine q60.g 81 rfl rfl rfl (.bool false) (fun hc => ex_bin rfl (ev (q60.a 84 rfl) hc) (ev (q60.a 87 rfl) hc) (by rw [gtrC,decide_eq_false (by omega)])) fun _ q61 => ?_;clear q60
   refine q61.t (.bool false) (ex_or (c:=true) (b:=false) (z:=false) rfl (q61.a 81 rfl) (q61.a 88 rfl) rfl) fun _ q62 => ?_;clear q61
   refine q62.t _ (ex_move rfl (q62.f 89)) fun _ q63 => ?_;clear q62
   refine q63.g 90 rfl rfl rfl _ (fun hc => ex_fa rfl (q63.f 10) (faS11 _ _)) fun _ q64 => ?_;clear q63
   refine q64.g 90 rfl rfl rfl _ (fun hc => ex_ld rfl (ev (q64.a 91 rfl) hc) (ldN8 (HQ.cell 11 _ rfl))) fun _ q65 => ?_;clear q64
   refine q65.g 90 rfl rfl rfl _ (fun hc => ex_lenN8 rfl rfl (ev (q65.a 92 rfl) hc)) fun _ q66 => ?_;clear q65
   refine q66.g 90 rfl rfl rfl _ (fun hc => ex_fa rfl (q66.f 4) (faS11 _ _)) fun _ q67 => ?_;clear q66
   refine q67.g 90 rfl rfl rfl _ (fun hc => ex_ld rfl (ev (q67.a 94 rfl) hc) (ldN8 (HS.cell 11 _ rfl))) fun _ q68 => ?_;clear q67
   refine q68.g 90 rfl rfl rfl _ (fun hc => ex_lenN8 rfl rfl (ev (q68.a 95 rfl) hc)) fun _ q69 => ?_;clear q68
   refine q69.g 90 rfl rfl rfl (.bool false) (fun hc => ex_bin rfl (ev (q69.a 93 rfl) hc) (ev (q69.a 96 rfl) hc) (by rw [gtrC,decide_eq_false (by omega)])) fun _ q70 => ?_;clear q69
   refine q70.t (.bool false) (ex_or (c:=true) (b:=false) (z:=false) rfl (q70.a 90 rfl) (q70.a 97 rfl) rfl) fun _ q71 => ?_;clear q70
   refine wpList_nil ?_
   go_upto_region 11 with fail
   refine wp_cond_false (q71.f 98) ?_
   go_upto_region 11 with fail
   refine wp_region_lit ?_
   refine q71.t _ (ex_fa rfl (q71.f 10) (faS6 _ _)) fun _ q72 => ?_;clear q71
   refine q72.t _ (ex_ld rfl (q72.f 99) (ldV8 (HQ.cell 6 _ rfl))) fun _ q73 => ?_;clear q72
   refine q73.t _ (ex_lenV8 rfl rfl (q73.f 100)) fun _ q74 => ?_;clear q73
   refine q74.t _ (ex_assign rfl (q74.f 101)) fun _ q75 => ?_;clear q74
   have q76:=(((Rp.nil q75.z).cons (q75.a 10 rfl)).cons (q75.a 13 rfl))
   clear q75;refine wpList_nil ?_;clear HC HS HM
   go_upto_region 12 with fail
   refine wp_region_lit ?_
   refine q76.t (.int .i64 ((0 : Nat) : Int)) (ex_assign rfl rfl) fun _ q77 => ?_;clear q76
   have q78:=((((Rp.nil q77.z).cons (q77.a 10 rfl)).cons (q77.a 13 rfl)).cons (q77.a 14 rfl))
   clear q77;refine wpList_nil ?_
   go_upto_region 13 with fail
   refine v_loop 14 t.A.length (fun j T wr => Rp T 274 [(14,gw true (.int .i64 ((j : Nat) : Int))),(13,gw true (.int .i64 ((t.V.length : Nat) : Int))),(10,gw true (.pointer (some ⟨w6.heap.size,0,none⟩)))]∧Hid (SB7 wr w6.heap.size t∧t.In wr∧Below w.heap.size w wr)) (fun j T w h => h.1.a 14 rfl) ⟨q78,HQ,tin,d⟩ ?_;clear q78 HQ tin d;intro j T wr hj hh;obtain ⟨q100,HJ⟩:=hh;obtain ⟨HQ,tin,d⟩:=HJ.out;clear HJ
   by_cases hit : j < t.A.length
   ·go_upto_region 13 with fail
    refine wp_region_lit ?_
    refine q100.t _ (ex_move rfl (q100.f 14)) fun _ q101 => ?_;clear q100
    refine q101.t _ (ex_fa rfl (q101.f 10) (faS8 _ _)) fun _ q102 => ?_;clear q101
    refine q102.t _ (ex_ld rfl (q102.f 103) (ldK8 (HQ.cell 8 _ rfl))) fun _ q103 => ?_;clear q102
    refine q103.t _ (ex_lenK8 rfl rfl (q103.f 104)) fun _ q104 => ?_;clear q103
    refine q104.t (.bool true) (ex_bin rfl (q104.f 102) (q104.f 105) (lssD8 _ _ _ _ true (decide_eq_true (by omega)) _)) fun _ q105 => ?_;clear q104
    refine wpList_nil ?_
    go_upto_region 15 with fail
    refine wp_cond_true (q105.f 106) ?_
    go_upto_region 15 with fail
    have q106:=((((Rp.nil q105.z).cons (q105.a 10 rfl)).cons (q105.a 13 rfl)).cons (q105.a 14 rfl))
    clear q105;refine vq_start (C:=fun v => v = wr.drew) (by kernel_rfl) (by kernel_rfl) rfl ?_;have hd1 : Below wr.heap.size wr wr.drew:=(Below.refl _ _).drew;have hzd1 : wr.drew.heap.size = wr.heap.size:=rfl
    generalize wr.drew = d1 at *
    replace HQ:=HQ.bel hd1;replace tin:=tin.later hd1;replace d:=d.trans (hd1.mono d.size);obtain ⟨qa,oa,x,hqa,hx,hce⟩:=lie1_9 tin.a hit;have g:=gA x (List.mem_of_getElem? hx);have g1 : 0 ≤ x.n:=g.1.1;have g2 : x.n < (t.V.length : Int):=g.1.2;obtain ⟨qv,ov,hqv,hvec⟩:=vec_at9 tin.v (by omega);obtain ⟨hv1,hv2⟩:=hvec x.n g1 g2;have c0 : d1.cell? ⟨qa,oa + j * 4,none⟩ = some (.int .i64 x.n):=hce j hit x hx 0 _ rfl;have c1 : d1.cell? ⟨qa,oa + j * 4 + 1,none⟩ = some (.int .u64 x.h):=hce j hit x hx 1 _ rfl;have c2 : d1.cell? ⟨qa,oa + j * 4 + 1 + 1,none⟩ = some (.int .u64 x.l):=hce j hit x hx 2 _ rfl;have ldr:=ldgd9 g c1 c2;have ldi:=ldI8 c0;have ldl:=ldK8 (HQ.cell 8 _ rfl);have ldv:=ldV8 (HQ.cell 6 _ rfl);have ldw:=hv2 d1 (Below.refl _ _)
    have hix : ∀ v,(Instr.indexAt 28 (.slice t.ka t.A.length t.kc) (.int .i64 ((j : Nat) : Int))).run Tryz.prog v = .ok (.pointer (some ⟨qa,oa + j * 4,none⟩)) v:=fun v => by rw [hqa];exact ix9Ak qa oa _ _ j hit v
    refine q106.q _ (fun v hv => ex_fa rfl (q106.f 10) (faS8 _ _)) fun _ q107 => ?_;clear q106
    refine q107.q (.slice t.ka t.A.length t.kc) (fun v hv => by subst hv;exact ex_ld rfl (q107.f 109) ldl) fun _ q108 => ?_;clear q107
    refine q108.q _ (fun v hv => ex_move rfl (q108.f 14)) fun _ q109 => ?_;clear q108
    refine q109.q _ (fun v hv => ex_ix rfl (q109.f 110) (q109.f 111) (hix _)) fun _ q110 => ?_;clear q109
    refine q110.q _ (fun v hv => ex_fa rfl (q110.f 112) (fa0Ak _ _ _)) fun _ q111 => ?_;clear q110
    refine q111.q (.int .i64 x.n) (fun v hv => by subst hv;exact ex_ld rfl (q111.f 113) ldi) fun _ q112 => ?_;clear q111
    refine q112.q (.bool false) (fun v hv => ex_bin (Y:=.int .i64 (0)) rfl (q112.f 114) rfl (lssD8 _ _ _ _ false (decide_eq_false (by omega)) _)) fun _ q113 => ?_;clear q112
    refine q113.q _ (fun v hv => ex_move rfl (q113.f 115)) fun _ q114 => ?_;clear q113
    refine q114.gq 116 rfl rfl rfl _ (fun hc v hv => ex_fa rfl (q114.f 10) (faS8 _ _)) fun _ q115 => ?_;clear q114
    refine q115.gq 116 rfl rfl rfl (.slice t.ka t.A.length t.kc) (fun hc v hv => by subst hv;exact ex_ld rfl (ev (q115.a 117 rfl) hc) ldl) fun _ q116 => ?_;clear q115
    refine q116.gq 116 rfl rfl rfl _ (fun hc v hv => ex_move rfl (q116.f 14)) fun _ q117 => ?_;clear q116
    refine q117.gq 116 rfl rfl rfl _ (fun hc v hv => ex_ix rfl (ev (q117.a 118 rfl) hc) (ev (q117.a 119 rfl) hc) (hix _)) fun _ q118 => ?_;clear q117
    refine q118.gq 116 rfl rfl rfl _ (fun hc v hv => ex_fa rfl (ev (q118.a 120 rfl) hc) (fa0Ak _ _ _)) fun _ q119 => ?_;clear q118
    refine q119.gq 116 rfl rfl rfl (.int .i64 x.n) (fun hc v hv => by subst hv;exact ex_ld rfl (ev (q119.a 121 rfl) hc) ldi) fun _ q120 => ?_;clear q119
    refine q120.gq 116 rfl rfl rfl _ (fun hc v hv => ex_move rfl (q120.f 13)) fun _ q121 => ?_;clear q120
    refine q121.gq 116 rfl rfl rfl (.bool false) (fun hc v hv => ex_bin rfl (ev (q121.a 122 rfl) hc) (ev (q121.a 123 rfl) hc) (by rw [geqC,decide_eq_false (by omega)])) fun _ q122 => ?_;clear q121
    refine q122.q (.bool false) (fun v hv => ex_or (c:=true) (b:=false) (z:=false) rfl (q122.a 116 rfl) (q122.a 124 rfl) rfl) fun _ q123 => ?_;clear q122
    refine q123.q _ (fun v hv => ex_move rfl (q123.f 125)) fun _ q124 => ?_;clear q123
    refine q124.gq 126 rfl rfl rfl _ (fun hc v hv => ex_fa rfl (q124.f 10) (faS8 _ _)) fun _ q125 => ?_;clear q124
    refine q125.gq 126 rfl rfl rfl (.slice t.ka t.A.length t.kc) (fun hc v hv => by subst hv;exact ex_ld rfl (ev (q125.a 127 rfl) hc) ldl) fun _ q126 => ?_;clear q125
    refine q126.gq 126 rfl rfl rfl _ (fun hc v hv => ex_move rfl (q126.f 14)) fun _ q127 => ?_;clear q126
    refine q127.gq 126 rfl rfl rfl _ (fun hc v hv => ex_ix rfl (ev (q127.a 128 rfl) hc) (ev (q127.a 129 rfl) hc) (hix _)) fun _ q128 => ?_;clear q127
    refine q128.gq 126 rfl rfl rfl _ (fun hc v hv => ex_fa rfl (ev (q128.a 130 rfl) hc) (fa1Ak _ _ _)) fun _ q129 => ?_;clear q128
    refine q129.gq 126 rfl rfl rfl (.agg #[.int .u64 (t.V.getD x.n.toNat (0,0)).1,.int .u64 (t.V.getD x.n.toNat (0,0)).2]) (fun hc v hv => by subst hv;exact ex_ld rfl (ev (q129.a 131 rfl) hc) ldr) fun _ q130 => ?_;clear q129
    refine q130.gq 126 rfl rfl rfl _ (fun hc v hv => ex_fa rfl (q130.f 10) (faS6 _ _)) fun _ q131 => ?_;clear q130
    refine q131.gq 126 rfl rfl rfl (.slice t.va t.V.length t.vc) (fun hc v hv => by subst hv;exact ex_ld rfl (ev (q131.a 133 rfl) hc) ldv) fun _ q132 => ?_;clear q131
    refine q132.gq 126 rfl rfl rfl _ (fun hc v hv => ex_fa rfl (q132.f 10) (faS8 _ _)) fun _ q133 => ?_;clear q132
    refine q133.gq 126 rfl rfl rfl (.slice t.ka t.A.length t.kc) (fun hc v hv => by subst hv;exact ex_ld rfl (ev (q133.a 135 rfl) hc) ldl) fun _ q134 => ?_;clear q133
    refine q134.gq 126 rfl rfl rfl _ (fun hc v hv => ex_move rfl (q134.f 14)) fun _ q135 => ?_;clear q134
    refine q135.gq 126 rfl rfl rfl _ (fun hc v hv => ex_ix rfl (ev (q135.a 136 rfl) hc) (ev (q135.a 137 rfl) hc) (hix _)) fun _ q136 => ?_;clear q135
    refine q136.gq 126 rfl rfl rfl _ (fun hc v hv => ex_fa rfl (ev (q136.a 138 rfl) hc) (fa0Ak _ _ _)) fun _ q137 => ?_;clear q136
    refine q137.gq 126 rfl rfl rfl (.int .i64 x.n) (fun hc v hv => by subst hv;exact ex_ld rfl (ev (q137.a 139 rfl) hc) ldi) fun _ q138 => ?_;clear q137
    refine q138.gq 126 rfl rfl rfl _ (fun hc v hv => ex_ix rfl (ev (q138.a 134 rfl) hc) (ev (q138.a 140 rfl) hc) (hv1 _)) fun _ q139 => ?_;clear q138
    refine q139.gq 126 rfl rfl rfl (.agg #[.int .u64 (t.V.getD x.n.toNat (0,0)).1,.int .u64 (t.V.getD x.n.toNat (0,0)).2]) (fun hc v hv => by subst hv;exact ex_ld rfl (ev (q139.a 141 rfl) hc) ldw) fun _ q140 => ?_;clear q139
    refine q140.gq 126 rfl rfl rfl (.bool false) (fun hc v hv => ex_bin rfl (ev (q140.a 132 rfl) hc) (ev (q140.a 142 rfl) hc) (neqDs9 _ _ _ _)) fun _ q141 => ?_;clear q140
    refine q141.q (.bool false) (fun v hv => ex_or (c:=true) (b:=false) (z:=false) rfl (q141.a 126 rfl) (q141.a 143 rfl) rfl) fun _ q142 => ?_;clear q141
    refine vq_nil (fun r1 hr1 => ?_);subst hr1
    go_upto_region 14 with fail
    refine wp_cond_false (q142.f 144) ?_
    go_upto_region 14 with fail
    refine wp_region_lit ?_
    refine q142.t _ (ex_move rfl (q142.f 14)) fun _ q143 => ?_;clear q142
    refine q143.t (.int .i64 ((j + 1 : Nat) : Int)) (ex_bin (Y:=.int .i64 (1)) rfl (q143.f 107) rfl (addD8 _ _ _ _ _ (by rw [IntKind.wrap_i64];omega) _)) fun _ q144 => ?_;clear q143
    refine q144.t _ (ex_assign rfl (q144.f 108)) fun _ q145 => ?_;clear q144
    have q146:=((((Rp.nil q145.z).cons (q145.a 10 rfl)).cons (q145.a 13 rfl)).cons (q145.a 14 rfl))
    clear q145;refine wpList_nil ?_
    exact ⟨_,rfl,hit,q146,HQ,tin,d⟩
   ·obtain rfl : j = t.A.length:=by omega
    go_upto_region 13 with fail
    refine wp_region_lit ?_
    refine q100.t _ (ex_move rfl (q100.f 14)) fun _ q101 => ?_;clear q100
    refine q101.t _ (ex_fa rfl (q101.f 10) (faS8 _ _)) fun _ q102 => ?_;clear q101
    refine q102.t _ (ex_ld rfl (q102.f 103) (ldK8 (HQ.cell 8 _ rfl))) fun _ q103 => ?_;clear q102
    refine q103.t _ (ex_lenK8 rfl rfl (q103.f 104)) fun _ q104 => ?_;clear q103
    refine q104.t (.bool false) (ex_bin rfl (q104.f 102) (q104.f 105) (lssD8 _ _ _ _ false (decide_eq_false (by omega)) _)) fun _ q105 => ?_;clear q104
    refine wpList_nil ?_
    go_upto_region 17 with fail
    refine wp_cond_false (q105.f 106) ?_
    have q106:=(((Rp.nil q105.z).cons (q105.a 10 rfl)).cons (q105.a 13 rfl))
    clear q105
    go_upto_region 17 with fail
    refine wp_region_lit ?_
    refine q106.t (.int .i64 ((0 : Nat) : Int)) (ex_assign rfl rfl) fun _ q107 => ?_;clear q106
    have q108:=((((Rp.nil q107.z).cons (q107.a 10 rfl)).cons (q107.a 13 rfl)).cons (q107.a 15 rfl))
    clear q107;refine wpList_nil ?_
    go_upto_region 18 with fail
    refine v_loop 15 t.M.length (fun j T wr => Rp T 274 [(15,gw true (.int .i64 ((j : Nat) : Int))),(13,gw true (.int .i64 ((t.V.length : Nat) : Int))),(10,gw true (.pointer (some ⟨w6.heap.size,0,none⟩)))]∧Hid (SB7 wr w6.heap.size t∧t.In wr∧Below w.heap.size w wr)) (fun j T w h => h.1.a 15 rfl) ⟨q108,HQ,tin,d⟩ ?_;clear q108 HQ tin d;intro j T wr hj hh;obtain ⟨q200,HJ⟩:=hh;obtain ⟨HQ,tin,d⟩:=HJ.out;clear HJ
    by_cases hit : j < t.M.length
    ·go_upto_region 18 with fail
     refine wp_region_lit ?_
     refine q200.t _ (ex_move rfl (q200.f 15)) fun _ q201 => ?_;clear q200
     refine q201.t _ (ex_fa rfl (q201.f 10) (faS9 _ _)) fun _ q202 => ?_;clear q201
     refine q202.t _ (ex_ld rfl (q202.f 146) (ldM8 (HQ.cell 9 _ rfl))) fun _ q203 => ?_;clear q202
     refine q203.t _ (ex_lenM8 rfl rfl (q203.f 147)) fun _ q204 => ?_;clear q203
     refine q204.t (.bool true) (ex_bin rfl (q204.f 145) (q204.f 148) (lssD8 _ _ _ _ true (decide_eq_true (by omega)) _)) fun _ q205 => ?_;clear q204
     refine wpList_nil ?_
     go_upto_region 20 with fail
     refine wp_cond_true (q205.f 149) ?_
     go_upto_region 20 with fail
     have q206:=((((Rp.nil q205.z).cons (q205.a 10 rfl)).cons (q205.a 13 rfl)).cons (q205.a 15 rfl))
     clear q205;refine vq_start (C:=fun v => v = wr.drew) (by kernel_rfl) (by kernel_rfl) rfl ?_;have hd1 : Below wr.heap.size wr wr.drew:=(Below.refl _ _).drew;have hzd1 : wr.drew.heap.size = wr.heap.size:=rfl
     generalize wr.drew = d1 at *
     replace HQ:=HQ.bel hd1;replace tin:=tin.later hd1;replace d:=d.trans (hd1.mono d.size);obtain ⟨qa,oa,x,hqa,hx,hce⟩:=lie1_9 tin.m hit;have g:=gM x (List.mem_of_getElem? hx);have g1 : 0 ≤ x.n:=g.1.1;have g2 : x.n < (t.V.length : Int):=g.1.2;obtain ⟨qv,ov,hqv,hvec⟩:=vec_at9 tin.v (by omega);obtain ⟨hv1,hv2⟩:=hvec x.n g1 g2;have c0 : d1.cell? ⟨qa,oa + j * 3,none⟩ = some (.int .i64 x.n):=hce j hit x hx 0 _ rfl;have c1 : d1.cell? ⟨qa,oa + j * 3 + 1,none⟩ = some (.int .u64 x.h):=hce j hit x hx 1 _ rfl;have c2 : d1.cell? ⟨qa,oa + j * 3 + 1 + 1,none⟩ = some (.int .u64 x.l):=hce j hit x hx 2 _ rfl;have ldr:=ldgd9 g c1 c2;have ldi:=ldI8 c0;have ldl:=ldM8 (HQ.cell 9 _ rfl);have ldv:=ldV8 (HQ.cell 6 _ rfl);have ldw:=hv2 d1 (Below.refl _ _)
     have hix : ∀ v,(Instr.indexAt 29 (.slice t.ma t.M.length t.mc) (.int .i64 ((j : Nat) : Int))).run Tryz.prog v = .ok (.pointer (some ⟨qa,oa + j * 3,none⟩)) v:=fun v => by rw [hqa];exact ix9Mk qa oa _ _ j hit v
     refine q206.q _ (fun v hv => ex_fa rfl (q206.f 10) (faS9 _ _)) fun _ q207 => ?_;clear q206
     refine q207.q (.slice t.ma t.M.length t.mc) (fun v hv => by subst hv;exact ex_ld rfl (q207.f 152) ldl) fun _ q208 => ?_;clear q207
     refine q208.q _ (fun v hv => ex_move rfl (q208.f 15)) fun _ q209 => ?_;clear q208
     refine q209.q _ (fun v hv => ex_ix rfl (q209.f 153) (q209.f 154) (hix _)) fun _ q210 => ?_;clear q209
     refine q210.q _ (fun v hv => ex_fa rfl (q210.f 155) (fa0Mk _ _ _)) fun _ q211 => ?_;clear q210
     refine q211.q (.int .i64 x.n) (fun v hv => by subst hv;exact ex_ld rfl (q211.f 156) ldi) fun _ q212 => ?_;clear q211
     refine q212.q (.bool false) (fun v hv => ex_bin (Y:=.int .i64 (0)) rfl (q212.f 157) rfl (lssD8 _ _ _ _ false (decide_eq_false (by omega)) _)) fun _ q213 => ?_;clear q212
     refine q213.q _ (fun v hv => ex_move rfl (q213.f 158)) fun _ q214 => ?_;clear q213
     refine q214.gq 159 rfl rfl rfl _ (fun hc v hv => ex_fa rfl (q214.f 10) (faS9 _ _)) fun _ q215 => ?_;clear q214
     refine q215.gq 159 rfl rfl rfl (.slice t.ma t.M.length t.mc) (fun hc v hv => by subst hv;exact ex_ld rfl (ev (q215.a 160 rfl) hc) ldl) fun _ q216 => ?_;clear q215
     refine q216.gq 159 rfl rfl rfl _ (fun hc v hv => ex_move rfl (q216.f 15)) fun _ q217 => ?_;clear q216
     refine q217.gq 159 rfl rfl rfl _ (fun hc v hv => ex_ix rfl (ev (q217.a 161 rfl) hc) (ev (q217.a 162 rfl) hc) (hix _)) fun _ q218 => ?_;clear q217
     refine q218.gq 159 rfl rfl rfl _ (fun hc v hv => ex_fa rfl (ev (q218.a 163 rfl) hc) (fa0Mk _ _ _)) fun _ q219 => ?_;clear q218
     refine q219.gq 159 rfl rfl rfl (.int .i64 x.n) (fun hc v hv => by subst hv;exact ex_ld rfl (ev (q219.a 164 rfl) hc) ldi) fun _ q220 => ?_;clear q219
     refine q220.gq 159 rfl rfl rfl _ (fun hc v hv => ex_move rfl (q220.f 13)) fun _ q221 => ?_;clear q220
     refine q221.gq 159 rfl rfl rfl (.bool false) (fun hc v hv => ex_bin rfl (ev (q221.a 165 rfl) hc) (ev (q221.a 166 rfl) hc) (by rw [geqC,decide_eq_false (by omega)])) fun _ q222 => ?_;clear q221
     refine q222.q (.bool false) (fun v hv => ex_or (c:=true) (b:=false) (z:=false) rfl (q222.a 159 rfl) (q222.a 167 rfl) rfl) fun _ q223 => ?_;clear q222
     refine q223.q _ (fun v hv => ex_move rfl (q223.f 168)) fun _ q224 => ?_;clear q223
     refine q224.gq 169 rfl rfl rfl _ (fun hc v hv => ex_fa rfl (q224.f 10) (faS9 _ _)) fun _ q225 => ?_;clear q224
     refine q225.gq 169 rfl rfl rfl (.slice t.ma t.M.length t.mc) (fun hc v hv => by subst hv;exact ex_ld rfl (ev (q225.a 170 rfl) hc) ldl) fun _ q226 => ?_;clear q225
     refine q226.gq 169 rfl rfl rfl _ (fun hc v hv => ex_move rfl (q226.f 15)) fun _ q227 => ?_;clear q226
     refine q227.gq 169 rfl rfl rfl _ (fun hc v hv => ex_ix rfl (ev (q227.a 171 rfl) hc) (ev (q227.a 172 rfl) hc) (hix _)) fun _ q228 => ?_;clear q227
     refine q228.gq 169 rfl rfl rfl _ (fun hc v hv => ex_fa rfl (ev (q228.a 173 rfl) hc) (fa1Mk _ _ _)) fun _ q229 => ?_;clear q228
     refine q229.gq 169 rfl rfl rfl (.agg #[.int .u64 (t.V.getD x.n.toNat (0,0)).1,.int .u64 (t.V.getD x.n.toNat (0,0)).2]) (fun hc v hv => by subst hv;exact ex_ld rfl (ev (q229.a 174 rfl) hc) ldr) fun _ q230 => ?_;clear q229
     refine q230.gq 169 rfl rfl rfl _ (fun hc v hv => ex_fa rfl (q230.f 10) (faS6 _ _)) fun _ q231 => ?_;clear q230
     refine q231.gq 169 rfl rfl rfl (.slice t.va t.V.length t.vc) (fun hc v hv => by subst hv;exact ex_ld rfl (ev (q231.a 176 rfl) hc) ldv) fun _ q232 => ?_;clear q231
     refine q232.gq 169 rfl rfl rfl _ (fun hc v hv => ex_fa rfl (q232.f 10) (faS9 _ _)) fun _ q233 => ?_;clear q232
     refine q233.gq 169 rfl rfl rfl (.slice t.ma t.M.length t.mc) (fun hc v hv => by subst hv;exact ex_ld rfl (ev (q233.a 178 rfl) hc) ldl) fun _ q234 => ?_;clear q233
     refine q234.gq 169 rfl rfl rfl _ (fun hc v hv => ex_move rfl (q234.f 15)) fun _ q235 => ?_;clear q234
     refine q235.gq 169 rfl rfl rfl _ (fun hc v hv => ex_ix rfl (ev (q235.a 179 rfl) hc) (ev (q235.a 180 rfl) hc) (hix _)) fun _ q236 => ?_;clear q235
     refine q236.gq 169 rfl rfl rfl _ (fun hc v hv => ex_fa rfl (ev (q236.a 181 rfl) hc) (fa0Mk _ _ _)) fun _ q237 => ?_;clear q236
     refine q237.gq 169 rfl rfl rfl (.int .i64 x.n) (fun hc v hv => by subst hv;exact ex_ld rfl (ev (q237.a 182 rfl) hc) ldi) fun _ q238 => ?_;clear q237
     refine q238.gq 169 rfl rfl rfl _ (fun hc v hv => ex_ix rfl (ev (q238.a 177 rfl) hc) (ev (q238.a 183 rfl) hc) (hv1 _)) fun _ q239 => ?_;clear q238
     refine q239.gq 169 rfl rfl rfl (.agg #[.int .u64 (t.V.getD x.n.toNat (0,0)).1,.int .u64 (t.V.getD x.n.toNat (0,0)).2]) (fun hc v hv => by subst hv;exact ex_ld rfl (ev (q239.a 184 rfl) hc) ldw) fun _ q240 => ?_;clear q239
     refine q240.gq 169 rfl rfl rfl (.bool false) (fun hc v hv => ex_bin rfl (ev (q240.a 175 rfl) hc) (ev (q240.a 185 rfl) hc) (neqDs9 _ _ _ _)) fun _ q241 => ?_;clear q240
     refine q241.q (.bool false) (fun v hv => ex_or (c:=true) (b:=false) (z:=false) rfl (q241.a 169 rfl) (q241.a 186 rfl) rfl) fun _ q242 => ?_;clear q241
     refine vq_nil (fun r1 hr1 => ?_);subst hr1
     go_upto_region 19 with fail
     refine wp_cond_false (q242.f 187) ?_
     go_upto_region 19 with fail
     refine wp_region_lit ?_
     refine q242.t _ (ex_move rfl (q242.f 15)) fun _ q243 => ?_;clear q242
     refine q243.t (.int .i64 ((j + 1 : Nat) : Int)) (ex_bin (Y:=.int .i64 (1)) rfl (q243.f 150) rfl (addD8 _ _ _ _ _ (by rw [IntKind.wrap_i64];omega) _)) fun _ q244 => ?_;clear q243
     refine q244.t _ (ex_assign rfl (q244.f 151)) fun _ q245 => ?_;clear q244
     have q246:=((((Rp.nil q245.z).cons (q245.a 10 rfl)).cons (q245.a 13 rfl)).cons (q245.a 15 rfl))
     clear q245;refine wpList_nil ?_
     exact ⟨_,rfl,hit,q246,HQ,tin,d⟩
    ·obtain rfl : j = t.M.length:=by omega
     go_upto_region 18 with fail
     refine wp_region_lit ?_
     refine q200.t _ (ex_move rfl (q200.f 15)) fun _ q201 => ?_;clear q200
     refine q201.t _ (ex_fa rfl (q201.f 10) (faS9 _ _)) fun _ q202 => ?_;clear q201
     refine q202.t _ (ex_ld rfl (q202.f 146) (ldM8 (HQ.cell 9 _ rfl))) fun _ q203 => ?_;clear q202
     refine q203.t _ (ex_lenM8 rfl rfl (q203.f 147)) fun _ q204 => ?_;clear q203
     refine q204.t (.bool false) (ex_bin rfl (q204.f 145) (q204.f 148) (lssD8 _ _ _ _ false (decide_eq_false (by omega)) _)) fun _ q205 => ?_;clear q204
     refine wpList_nil ?_
     go_upto_region 22 with fail
     refine wp_cond_false (q205.f 149) ?_
     have q206:=(((Rp.nil q205.z).cons (q205.a 10 rfl)).cons (q205.a 13 rfl))
     clear q205
     go_upto_region 22 with fail
     refine wp_region_lit ?_
     refine q206.t (.int .i64 ((0 : Nat) : Int)) (ex_assign rfl rfl) fun _ q207 => ?_;clear q206
     have q208:=((((Rp.nil q207.z).cons (q207.a 10 rfl)).cons (q207.a 13 rfl)).cons (q207.a 16 rfl))
     clear q207;refine wpList_nil ?_
     go_upto_region 23 with fail
     refine v_loop 16 t.B.length (fun j T wr => Rp T 274 [(16,gw true (.int .i64 ((j : Nat) : Int))),(13,gw true (.int .i64 ((t.V.length : Nat) : Int))),(10,gw true (.pointer (some ⟨w6.heap.size,0,none⟩)))]∧Hid (SB7 wr w6.heap.size t∧t.In wr∧Below w.heap.size w wr)) (fun j T w h => h.1.a 16 rfl) ⟨q208,HQ,tin,d⟩ ?_;clear q208 HQ tin d;intro j T wr hj hh;obtain ⟨q300,HJ⟩:=hh;obtain ⟨HQ,tin,d⟩:=HJ.out;clear HJ
     by_cases hit : j < t.B.length
     ·go_upto_region 23 with fail
      refine wp_region_lit ?_
      refine q300.t _ (ex_move rfl (q300.f 16)) fun _ q301 => ?_;clear q300
      refine q301.t _ (ex_fa rfl (q301.f 10) (faS10 _ _)) fun _ q302 => ?_;clear q301
      refine q302.t _ (ex_ld rfl (q302.f 189) (ldB8 (HQ.cell 10 _ rfl))) fun _ q303 => ?_;clear q302
      refine q303.t _ (ex_lenB8 rfl rfl (q303.f 190)) fun _ q304 => ?_;clear q303
      refine q304.t (.bool true) (ex_bin rfl (q304.f 188) (q304.f 191) (lssD8 _ _ _ _ true (decide_eq_true (by omega)) _)) fun _ q305 => ?_;clear q304
      refine wpList_nil ?_
      go_upto_region 25 with fail
      refine wp_cond_true (q305.f 192) ?_
      go_upto_region 25 with fail
      have q306:=((((Rp.nil q305.z).cons (q305.a 10 rfl)).cons (q305.a 13 rfl)).cons (q305.a 16 rfl))
      clear q305;refine vq_start (C:=fun v => v = wr.drew) (by kernel_rfl) (by kernel_rfl) rfl ?_;have hd1 : Below wr.heap.size wr wr.drew:=(Below.refl _ _).drew;have hzd1 : wr.drew.heap.size = wr.heap.size:=rfl
      generalize wr.drew = d1 at *
      replace HQ:=HQ.bel hd1;replace tin:=tin.later hd1;replace d:=d.trans (hd1.mono d.size);obtain ⟨qa,oa,x,hqa,hx,hce⟩:=lie1_9 tin.b hit;have g:=gB x (List.mem_of_getElem? hx);have g1 : 0 ≤ x.n:=g.1.1;have g2 : x.n < (t.V.length : Int):=g.1.2;obtain ⟨qv,ov,hqv,hvec⟩:=vec_at9 tin.v (by omega);obtain ⟨hv1,hv2⟩:=hvec x.n g1 g2;have c0 : d1.cell? ⟨qa,oa + j * 6,none⟩ = some (.int .i64 x.n):=hce j hit x hx 0 _ rfl;have c1 : d1.cell? ⟨qa,oa + j * 6 + 1,none⟩ = some (.int .u64 x.h):=hce j hit x hx 1 _ rfl;have c2 : d1.cell? ⟨qa,oa + j * 6 + 1 + 1,none⟩ = some (.int .u64 x.l):=hce j hit x hx 2 _ rfl;have ldr:=ldgd9 g c1 c2;have ldi:=ldI8 c0;have ldl:=ldB8 (HQ.cell 10 _ rfl);have ldv:=ldV8 (HQ.cell 6 _ rfl);have ldw:=hv2 d1 (Below.refl _ _)
      have hix : ∀ v,(Instr.indexAt 30 (.slice t.ba t.B.length t.bc) (.int .i64 ((j : Nat) : Int))).run Tryz.prog v = .ok (.pointer (some ⟨qa,oa + j * 6,none⟩)) v:=fun v => by rw [hqa];exact ix9Bl qa oa _ _ j hit v
      refine q306.q _ (fun v hv => ex_fa rfl (q306.f 10) (faS10 _ _)) fun _ q307 => ?_;clear q306
      refine q307.q (.slice t.ba t.B.length t.bc) (fun v hv => by subst hv;exact ex_ld rfl (q307.f 195) ldl) fun _ q308 => ?_;clear q307
      refine q308.q _ (fun v hv => ex_move rfl (q308.f 16)) fun _ q309 => ?_;clear q308
      refine q309.q _ (fun v hv => ex_ix rfl (q309.f 196) (q309.f 197) (hix _)) fun _ q310 => ?_;clear q309
      refine q310.q _ (fun v hv => ex_fa rfl (q310.f 198) (fa0Bl _ _ _)) fun _ q311 => ?_;clear q310
      refine q311.q (.int .i64 x.n) (fun v hv => by subst hv;exact ex_ld rfl (q311.f 199) ldi) fun _ q312 => ?_;clear q311
      refine q312.q (.bool false) (fun v hv => ex_bin (Y:=.int .i64 (0)) rfl (q312.f 200) rfl (lssD8 _ _ _ _ false (decide_eq_false (by omega)) _)) fun _ q313 => ?_;clear q312
      refine q313.q _ (fun v hv => ex_move rfl (q313.f 201)) fun _ q314 => ?_;clear q313
      refine q314.gq 202 rfl rfl rfl _ (fun hc v hv => ex_fa rfl (q314.f 10) (faS10 _ _)) fun _ q315 => ?_;clear q314
      refine q315.gq 202 rfl rfl rfl (.slice t.ba t.B.length t.bc) (fun hc v hv => by subst hv;exact ex_ld rfl (ev (q315.a 203 rfl) hc) ldl) fun _ q316 => ?_;clear q315
      refine q316.gq 202 rfl rfl rfl _ (fun hc v hv => ex_move rfl (q316.f 16)) fun _ q317 => ?_;clear q316
      refine q317.gq 202 rfl rfl rfl _ (fun hc v hv => ex_ix rfl (ev (q317.a 204 rfl) hc) (ev (q317.a 205 rfl) hc) (hix _)) fun _ q318 => ?_;clear q317
      refine q318.gq 202 rfl rfl rfl _ (fun hc v hv => ex_fa rfl (ev (q318.a 206 rfl) hc) (fa0Bl _ _ _)) fun _ q319 => ?_;clear q318
      refine q319.gq 202 rfl rfl rfl (.int .i64 x.n) (fun hc v hv => by subst hv;exact ex_ld rfl (ev (q319.a 207 rfl) hc) ldi) fun _ q320 => ?_;clear q319
      refine q320.gq 202 rfl rfl rfl _ (fun hc v hv => ex_move rfl (q320.f 13)) fun _ q321 => ?_;clear q320
      refine q321.gq 202 rfl rfl rfl (.bool false) (fun hc v hv => ex_bin rfl (ev (q321.a 208 rfl) hc) (ev (q321.a 209 rfl) hc) (by rw [geqC,decide_eq_false (by omega)])) fun _ q322 => ?_;clear q321
      refine q322.q (.bool false) (fun v hv => ex_or (c:=true) (b:=false) (z:=false) rfl (q322.a 202 rfl) (q322.a 210 rfl) rfl) fun _ q323 => ?_;clear q322
      refine q323.q _ (fun v hv => ex_move rfl (q323.f 211)) fun _ q324 => ?_;clear q323
      refine q324.gq 212 rfl rfl rfl _ (fun hc v hv => ex_fa rfl (q324.f 10) (faS10 _ _)) fun _ q325 => ?_;clear q324
      refine q325.gq 212 rfl rfl rfl (.slice t.ba t.B.length t.bc) (fun hc v hv => by subst hv;exact ex_ld rfl (ev (q325.a 213 rfl) hc) ldl) fun _ q326 => ?_;clear q325
      refine q326.gq 212 rfl rfl rfl _ (fun hc v hv => ex_move rfl (q326.f 16)) fun _ q327 => ?_;clear q326
      refine q327.gq 212 rfl rfl rfl _ (fun hc v hv => ex_ix rfl (ev (q327.a 214 rfl) hc) (ev (q327.a 215 rfl) hc) (hix _)) fun _ q328 => ?_;clear q327
      refine q328.gq 212 rfl rfl rfl _ (fun hc v hv => ex_fa rfl (ev (q328.a 216 rfl) hc) (fa1Bl _ _ _)) fun _ q329 => ?_;clear q328
      refine q329.gq 212 rfl rfl rfl (.agg #[.int .u64 (t.V.getD x.n.toNat (0,0)).1,.int .u64 (t.V.getD x.n.toNat (0,0)).2]) (fun hc v hv => by subst hv;exact ex_ld rfl (ev (q329.a 217 rfl) hc) ldr) fun _ q330 => ?_;clear q329
      refine q330.gq 212 rfl rfl rfl _ (fun hc v hv => ex_fa rfl (q330.f 10) (faS6 _ _)) fun _ q331 => ?_;clear q330
      refine q331.gq 212 rfl rfl rfl (.slice t.va t.V.length t.vc) (fun hc v hv => by subst hv;exact ex_ld rfl (ev (q331.a 219 rfl) hc) ldv) fun _ q332 => ?_;clear q331
      refine q332.gq 212 rfl rfl rfl _ (fun hc v hv => ex_fa rfl (q332.f 10) (faS10 _ _)) fun _ q333 => ?_;clear q332
      refine q333.gq 212 rfl rfl rfl (.slice t.ba t.B.length t.bc) (fun hc v hv => by subst hv;exact ex_ld rfl (ev (q333.a 221 rfl) hc) ldl) fun _ q334 => ?_;clear q333
      refine q334.gq 212 rfl rfl rfl _ (fun hc v hv => ex_move rfl (q334.f 16)) fun _ q335 => ?_;clear q334
      refine q335.gq 212 rfl rfl rfl _ (fun hc v hv => ex_ix rfl (ev (q335.a 222 rfl) hc) (ev (q335.a 223 rfl) hc) (hix _)) fun _ q336 => ?_;clear q335
      refine q336.gq 212 rfl rfl rfl _ (fun hc v hv => ex_fa rfl (ev (q336.a 224 rfl) hc) (fa0Bl _ _ _)) fun _ q337 => ?_;clear q336
      refine q337.gq 212 rfl rfl rfl (.int .i64 x.n) (fun hc v hv => by subst hv;exact ex_ld rfl (ev (q337.a 225 rfl) hc) ldi) fun _ q338 => ?_;clear q337
      refine q338.gq 212 rfl rfl rfl _ (fun hc v hv => ex_ix rfl (ev (q338.a 220 rfl) hc) (ev (q338.a 226 rfl) hc) (hv1 _)) fun _ q339 => ?_;clear q338
      refine q339.gq 212 rfl rfl rfl (.agg #[.int .u64 (t.V.getD x.n.toNat (0,0)).1,.int .u64 (t.V.getD x.n.toNat (0,0)).2]) (fun hc v hv => by subst hv;exact ex_ld rfl (ev (q339.a 227 rfl) hc) ldw) fun _ q340 => ?_;clear q339
      refine q340.gq 212 rfl rfl rfl (.bool false) (fun hc v hv => ex_bin rfl (ev (q340.a 218 rfl) hc) (ev (q340.a 228 rfl) hc) (neqDs9 _ _ _ _)) fun _ q341 => ?_;clear q340
      refine q341.q (.bool false) (fun v hv => ex_or (c:=true) (b:=false) (z:=false) rfl (q341.a 212 rfl) (q341.a 229 rfl) rfl) fun _ q342 => ?_;clear q341
      refine vq_nil (fun r1 hr1 => ?_);subst hr1
      go_upto_region 24 with fail
      refine wp_cond_false (q342.f 230) ?_
      go_upto_region 24 with fail
      refine wp_region_lit ?_
      refine q342.t _ (ex_move rfl (q342.f 16)) fun _ q343 => ?_;clear q342
      refine q343.t (.int .i64 ((j + 1 : Nat) : Int)) (ex_bin (Y:=.int .i64 (1)) rfl (q343.f 193) rfl (addD8 _ _ _ _ _ (by rw [IntKind.wrap_i64];omega) _)) fun _ q344 => ?_;clear q343
      refine q344.t _ (ex_assign rfl (q344.f 194)) fun _ q345 => ?_;clear q344
      have q346:=((((Rp.nil q345.z).cons (q345.a 10 rfl)).cons (q345.a 13 rfl)).cons (q345.a 16 rfl))
      clear q345;refine wpList_nil ?_
      exact ⟨_,rfl,hit,q346,HQ,tin,d⟩
     ·obtain rfl : j = t.B.length:=by omega
      go_upto_region 23 with fail
      refine wp_region_lit ?_
      refine q300.t _ (ex_move rfl (q300.f 16)) fun _ q301 => ?_;clear q300
      refine q301.t _ (ex_fa rfl (q301.f 10) (faS10 _ _)) fun _ q302 => ?_;clear q301
      refine q302.t _ (ex_ld rfl (q302.f 189) (ldB8 (HQ.cell 10 _ rfl))) fun _ q303 => ?_;clear q302
      refine q303.t _ (ex_lenB8 rfl rfl (q303.f 190)) fun _ q304 => ?_;clear q303
      refine q304.t (.bool false) (ex_bin rfl (q304.f 188) (q304.f 191) (lssD8 _ _ _ _ false (decide_eq_false (by omega)) _)) fun _ q305 => ?_;clear q304
      refine wpList_nil ?_
      go_upto_region 27 with fail
      refine wp_cond_false (q305.f 192) ?_
      have q306:=(((Rp.nil q305.z).cons (q305.a 10 rfl)).cons (q305.a 13 rfl))
      clear q305
      go_upto_region 27 with fail
      refine wp_region_lit ?_
      refine q306.t (.int .i64 ((0 : Nat) : Int)) (ex_assign rfl rfl) fun _ q307 => ?_;clear q306
      have q308:=((((Rp.nil q307.z).cons (q307.a 10 rfl)).cons (q307.a 13 rfl)).cons (q307.a 17 rfl))
      clear q307;refine wpList_nil ?_
      go_upto_region 28 with fail
      refine v_loop 17 t.N.length (fun j T wr => Rp T 274 [(17,gw true (.int .i64 ((j : Nat) : Int))),(13,gw true (.int .i64 ((t.V.length : Nat) : Int))),(10,gw true (.pointer (some ⟨w6.heap.size,0,none⟩)))]∧Hid (SB7 wr w6.heap.size t∧t.In wr∧Below w.heap.size w wr)) (fun j T w h => h.1.a 17 rfl) ⟨q308,HQ,tin,d⟩ ?_;clear q308 HQ tin d;intro j T wr hj hh;obtain ⟨q400,HJ⟩:=hh;obtain ⟨HQ,tin,d⟩:=HJ.out;clear HJ
      by_cases hit : j < t.N.length
      ·go_upto_region 28 with fail
       refine wp_region_lit ?_
       refine q400.t _ (ex_move rfl (q400.f 17)) fun _ q401 => ?_;clear q400
       refine q401.t _ (ex_fa rfl (q401.f 10) (faS11 _ _)) fun _ q402 => ?_;clear q401
       refine q402.t _ (ex_ld rfl (q402.f 232) (ldN8 (HQ.cell 11 _ rfl))) fun _ q403 => ?_;clear q402
       refine q403.t _ (ex_lenN8 rfl rfl (q403.f 233)) fun _ q404 => ?_;clear q403
       refine q404.t (.bool true) (ex_bin rfl (q404.f 231) (q404.f 234) (lssD8 _ _ _ _ true (decide_eq_true (by omega)) _)) fun _ q405 => ?_;clear q404
       refine wpList_nil ?_
       go_upto_region 30 with fail
       refine wp_cond_true (q405.f 235) ?_
       go_upto_region 30 with fail
       have q406:=((((Rp.nil q405.z).cons (q405.a 10 rfl)).cons (q405.a 13 rfl)).cons (q405.a 17 rfl))
       clear q405;refine vq_start (C:=fun v => v = wr.drew) (by kernel_rfl) (by kernel_rfl) rfl ?_;have hd1 : Below wr.heap.size wr wr.drew:=(Below.refl _ _).drew;have hzd1 : wr.drew.heap.size = wr.heap.size:=rfl
       generalize wr.drew = d1 at *
       replace HQ:=HQ.bel hd1;replace tin:=tin.later hd1;replace d:=d.trans (hd1.mono d.size);obtain ⟨qa,oa,x,hqa,hx,hce⟩:=lie1_9 tin.n hit;have g:=gN x (List.mem_of_getElem? hx);have g1 : 0 ≤ x.n:=g.1.1;have g2 : x.n < (t.V.length : Int):=g.1.2;obtain ⟨qv,ov,hqv,hvec⟩:=vec_at9 tin.v (by omega);obtain ⟨hv1,hv2⟩:=hvec x.n g1 g2;have c0 : d1.cell? ⟨qa,oa + j * 6,none⟩ = some (.int .i64 x.n):=hce j hit x hx 0 _ rfl;have c1 : d1.cell? ⟨qa,oa + j * 6 + 1,none⟩ = some (.int .u64 x.h):=hce j hit x hx 1 _ rfl;have c2 : d1.cell? ⟨qa,oa + j * 6 + 1 + 1,none⟩ = some (.int .u64 x.l):=hce j hit x hx 2 _ rfl;have ldr:=ldgd9 g c1 c2;have ldi:=ldI8 c0;have ldl:=ldN8 (HQ.cell 11 _ rfl);have ldv:=ldV8 (HQ.cell 6 _ rfl);have ldw:=hv2 d1 (Below.refl _ _)
       have hix : ∀ v,(Instr.indexAt 31 (.slice t.na t.N.length t.nc) (.int .i64 ((j : Nat) : Int))).run Tryz.prog v = .ok (.pointer (some ⟨qa,oa + j * 6,none⟩)) v:=fun v => by rw [hqa];exact ix9An qa oa _ _ j hit v
       refine q406.q _ (fun v hv => ex_fa rfl (q406.f 10) (faS11 _ _)) fun _ q407 => ?_;clear q406
       refine q407.q (.slice t.na t.N.length t.nc) (fun v hv => by subst hv;exact ex_ld rfl (q407.f 238) ldl) fun _ q408 => ?_;clear q407
       refine q408.q _ (fun v hv => ex_move rfl (q408.f 17)) fun _ q409 => ?_;clear q408
       refine q409.q _ (fun v hv => ex_ix rfl (q409.f 239) (q409.f 240) (hix _)) fun _ q410 => ?_;clear q409
       refine q410.q _ (fun v hv => ex_fa rfl (q410.f 241) (fa0An _ _ _)) fun _ q411 => ?_;clear q410
       refine q411.q (.int .i64 x.n) (fun v hv => by subst hv;exact ex_ld rfl (q411.f 242) ldi) fun _ q412 => ?_;clear q411
       refine q412.q (.bool false) (fun v hv => ex_bin (Y:=.int .i64 (0)) rfl (q412.f 243) rfl (lssD8 _ _ _ _ false (decide_eq_false (by omega)) _)) fun _ q413 => ?_;clear q412
       refine q413.q _ (fun v hv => ex_move rfl (q413.f 244)) fun _ q414 => ?_;clear q413
       refine q414.gq 245 rfl rfl rfl _ (fun hc v hv => ex_fa rfl (q414.f 10) (faS11 _ _)) fun _ q415 => ?_;clear q414
       refine q415.gq 245 rfl rfl rfl (.slice t.na t.N.length t.nc) (fun hc v hv => by subst hv;exact ex_ld rfl (ev (q415.a 246 rfl) hc) ldl) fun _ q416 => ?_;clear q415
       refine q416.gq 245 rfl rfl rfl _ (fun hc v hv => ex_move rfl (q416.f 17)) fun _ q417 => ?_;clear q416
       refine q417.gq 245 rfl rfl rfl _ (fun hc v hv => ex_ix rfl (ev (q417.a 247 rfl) hc) (ev (q417.a 248 rfl) hc) (hix _)) fun _ q418 => ?_;clear q417
       refine q418.gq 245 rfl rfl rfl _ (fun hc v hv => ex_fa rfl (ev (q418.a 249 rfl) hc) (fa0An _ _ _)) fun _ q419 => ?_;clear q418
       refine q419.gq 245 rfl rfl rfl (.int .i64 x.n) (fun hc v hv => by subst hv;exact ex_ld rfl (ev (q419.a 250 rfl) hc) ldi) fun _ q420 => ?_;clear q419
       refine q420.gq 245 rfl rfl rfl _ (fun hc v hv => ex_move rfl (q420.f 13)) fun _ q421 => ?_;clear q420
       refine q421.gq 245 rfl rfl rfl (.bool false) (fun hc v hv => ex_bin rfl (ev (q421.a 251 rfl) hc) (ev (q421.a 252 rfl) hc) (by rw [geqC,decide_eq_false (by omega)])) fun _ q422 => ?_;clear q421
       refine q422.q (.bool false) (fun v hv => ex_or (c:=true) (b:=false) (z:=false) rfl (q422.a 245 rfl) (q422.a 253 rfl) rfl) fun _ q423 => ?_;clear q422
       refine q423.q _ (fun v hv => ex_move rfl (q423.f 254)) fun _ q424 => ?_;clear q423
       refine q424.gq 255 rfl rfl rfl _ (fun hc v hv => ex_fa rfl (q424.f 10) (faS11 _ _)) fun _ q425 => ?_;clear q424
       refine q425.gq 255 rfl rfl rfl (.slice t.na t.N.length t.nc) (fun hc v hv => by subst hv;exact ex_ld rfl (ev (q425.a 256 rfl) hc) ldl) fun _ q426 => ?_;clear q425
       refine q426.gq 255 rfl rfl rfl _ (fun hc v hv => ex_move rfl (q426.f 17)) fun _ q427 => ?_;clear q426
       refine q427.gq 255 rfl rfl rfl _ (fun hc v hv => ex_ix rfl (ev (q427.a 257 rfl) hc) (ev (q427.a 258 rfl) hc) (hix _)) fun _ q428 => ?_;clear q427
       refine q428.gq 255 rfl rfl rfl _ (fun hc v hv => ex_fa rfl (ev (q428.a 259 rfl) hc) (fa1An _ _ _)) fun _ q429 => ?_;clear q428
       refine q429.gq 255 rfl rfl rfl (.agg #[.int .u64 (t.V.getD x.n.toNat (0,0)).1,.int .u64 (t.V.getD x.n.toNat (0,0)).2]) (fun hc v hv => by subst hv;exact ex_ld rfl (ev (q429.a 260 rfl) hc) ldr) fun _ q430 => ?_;clear q429
       refine q430.gq 255 rfl rfl rfl _ (fun hc v hv => ex_fa rfl (q430.f 10) (faS6 _ _)) fun _ q431 => ?_;clear q430
       refine q431.gq 255 rfl rfl rfl (.slice t.va t.V.length t.vc) (fun hc v hv => by subst hv;exact ex_ld rfl (ev (q431.a 262 rfl) hc) ldv) fun _ q432 => ?_;clear q431
       refine q432.gq 255 rfl rfl rfl _ (fun hc v hv => ex_fa rfl (q432.f 10) (faS11 _ _)) fun _ q433 => ?_;clear q432
       refine q433.gq 255 rfl rfl rfl (.slice t.na t.N.length t.nc) (fun hc v hv => by subst hv;exact ex_ld rfl (ev (q433.a 264 rfl) hc) ldl) fun _ q434 => ?_;clear q433
       refine q434.gq 255 rfl rfl rfl _ (fun hc v hv => ex_move rfl (q434.f 17)) fun _ q435 => ?_;clear q434
       refine q435.gq 255 rfl rfl rfl _ (fun hc v hv => ex_ix rfl (ev (q435.a 265 rfl) hc) (ev (q435.a 266 rfl) hc) (hix _)) fun _ q436 => ?_;clear q435
       refine q436.gq 255 rfl rfl rfl _ (fun hc v hv => ex_fa rfl (ev (q436.a 267 rfl) hc) (fa0An _ _ _)) fun _ q437 => ?_;clear q436
       refine q437.gq 255 rfl rfl rfl (.int .i64 x.n) (fun hc v hv => by subst hv;exact ex_ld rfl (ev (q437.a 268 rfl) hc) ldi) fun _ q438 => ?_;clear q437
       refine q438.gq 255 rfl rfl rfl _ (fun hc v hv => ex_ix rfl (ev (q438.a 263 rfl) hc) (ev (q438.a 269 rfl) hc) (hv1 _)) fun _ q439 => ?_;clear q438
       refine q439.gq 255 rfl rfl rfl (.agg #[.int .u64 (t.V.getD x.n.toNat (0,0)).1,.int .u64 (t.V.getD x.n.toNat (0,0)).2]) (fun hc v hv => by subst hv;exact ex_ld rfl (ev (q439.a 270 rfl) hc) ldw) fun _ q440 => ?_;clear q439
       refine q440.gq 255 rfl rfl rfl (.bool false) (fun hc v hv => ex_bin rfl (ev (q440.a 261 rfl) hc) (ev (q440.a 271 rfl) hc) (neqDs9 _ _ _ _)) fun _ q441 => ?_;clear q440
       refine q441.q (.bool false) (fun v hv => ex_or (c:=true) (b:=false) (z:=false) rfl (q441.a 255 rfl) (q441.a 272 rfl) rfl) fun _ q442 => ?_;clear q441
       refine vq_nil (fun r1 hr1 => ?_);subst hr1
       go_upto_region 29 with fail
       refine wp_cond_false (q442.f 273) ?_
       go_upto_region 29 with fail
       refine wp_region_lit ?_
       refine q442.t _ (ex_move rfl (q442.f 17)) fun _ q443 => ?_;clear q442
       refine q443.t (.int .i64 ((j + 1 : Nat) : Int)) (ex_bin (Y:=.int .i64 (1)) rfl (q443.f 236) rfl (addD8 _ _ _ _ _ (by rw [IntKind.wrap_i64];omega) _)) fun _ q444 => ?_;clear q443
       refine q444.t _ (ex_assign rfl (q444.f 237)) fun _ q445 => ?_;clear q444
       have q446:=((((Rp.nil q445.z).cons (q445.a 10 rfl)).cons (q445.a 13 rfl)).cons (q445.a 17 rfl))
       clear q445;refine wpList_nil ?_
       exact ⟨_,rfl,hit,q446,HQ,tin,d⟩
      ·obtain rfl : j = t.N.length:=by omega
       go_upto_region 28 with fail
       refine wp_region_lit ?_
       refine q400.t _ (ex_move rfl (q400.f 17)) fun _ q401 => ?_;clear q400
       refine q401.t _ (ex_fa rfl (q401.f 10) (faS11 _ _)) fun _ q402 => ?_;clear q401
       refine q402.t _ (ex_ld rfl (q402.f 232) (ldN8 (HQ.cell 11 _ rfl))) fun _ q403 => ?_;clear q402
       refine q403.t _ (ex_lenN8 rfl rfl (q403.f 233)) fun _ q404 => ?_;clear q403
       refine q404.t (.bool false) (ex_bin rfl (q404.f 231) (q404.f 234) (lssD8 _ _ _ _ false (decide_eq_false (by omega)) _)) fun _ q405 => ?_;clear q404
       refine wpList_nil ?_
       go_upto_region 32 with fail
       refine wp_cond_false (q405.f 235) ?_
       have q406:=(((Rp.nil q405.z).cons (q405.a 10 rfl)).cons (q405.a 13 rfl))
       clear q405
       go_upto_region 32 with fail
       refine wp_region_lit ?_
       refine q406.t (.bool true) (ex_assign rfl rfl) fun _ q407 => ?_;clear q406
       refine wpList_nil ?_
       go_wp2
       refine bodyPost_ret (results_tmp rfl _ _ _) rfl ?_;rw [getD_of (q407.a 6 rfl)]
       exact ⟨rfl,d⟩
  ·rw [decide_eq_false hae] at q28
   go_upto_region 8 with fail
   refine wp_cond_true (q28.f 49) ?_
   go_upto_region 8 with fail
   have q29:=(((((Rp.nil q28.z).cons (q28.a 3 rfl)).cons (q28.a 5 rfl)).cons (q28.a 6 rfl)).cons (q28.a 12 rfl))
   clear q28;refine vh_start (fun v => Below w9.heap.size w9 v) (by kernel_rfl) ?_;have hd2 : Below w9.heap.size w9 w9.drew:=(Below.refl _ _).drew;have hz2 : w9.drew.heap.size = w9.heap.size:=rfl
   generalize w9.drew = d2 at *
   refine vh_take 0 true (.int .i64 (adE9 c s m)) rfl (by kernel_rfl) (by kernel_rfl) (by kernel_rfl) (want_none rfl) (fun hc v hv => ex_move rfl (q29.f 12)) rfl q29.z (by decide) hd2 (q29.k fun _ q30 => ?_);clear q29;refine vh_take 2 true (c.val) rfl (by kernel_rfl) (by kernel_rfl) (by kernel_rfl) (want_none rfl) (fun hc v hv => ex_ld rfl (q30.f 3) (CB7.ld (HC.bel hv))) rfl q30.z (by decide) hd2 (q30.k fun _ q31 => ?_);clear q30;refine vh_take 3 true (m.val) rfl (by kernel_rfl) (by kernel_rfl) (by kernel_rfl) (want_none rfl) (fun hc v hv => ex_ld rfl (q31.f 5) (MB9.ld (HM.bel hv))) rfl q31.z (by decide) hd2 (q31.k fun _ q32 => ?_);clear q31;refine vh_call 1 rfl (by kernel_rfl) (want_none rfl) (ex_call rfl (by simp only [List.map_toArray,List.map_cons,List.map_nil,(q32.f 50),evc] <;> rfl) rfl) (num9 (adE9 c s m) d2) rfl q32.z (by decide) ?_;rintro e w10 ⟨rfl,b10⟩;have hd10 : Below w9.heap.size w9 w10:=hd2.trans (b10.mono (by omega));have z10:=hd10.size;have d10 : Below w.heap.size w w10:=d.trans (hd10.mono d.size);refine ⟨_,rfl,hd10,q32.k fun _ q33 => ?_⟩;clear q32;refine vh_call 4 rfl (by kernel_rfl) (want_none rfl) (ex_call rfl (by simp only [List.map_toArray,List.map_cons,List.map_nil,(q33.f 52),(q33.f 53),evc] <;> rfl) rfl) (rmcheck9 c m w10 (hM.later d10) hMF) rfl q33.z (by decide) ?_;rintro e w11 ⟨rfl,b11⟩;have hd11 : Below w9.heap.size w9 w11:=hd10.trans (b11.mono (by omega));refine ⟨_,rfl,hd11,q33.k fun _ q34 => ?_⟩;clear q33;refine vh_take 5 true (.bool true) rfl (by kernel_rfl) (by kernel_rfl) (by kernel_rfl) (want_none rfl) (fun hc v hv => ex_bin rfl (q34.f 51) (q34.f 54) (by rw [hE,eqlC,decide_eq_true rfl])) rfl q34.z (by decide) hd11 (q34.k fun _ q35 => ?_);clear q34;refine vh_take 6 true (.bool true) rfl (by kernel_rfl) (by kernel_rfl) (by kernel_rfl) (want_none rfl) (fun hc v hv => ex_assign rfl (q35.f 55)) rfl q35.z (by decide) hd11 (q35.k fun _ q36 => ?_);clear q35;refine vh_done (by kernel_rfl) ?_
   go_wp2
   refine bodyPost_ret (results_tmp rfl _ _ _) rfl ?_;rw [getD_of (q36.a 6 rfl)]
   exact ⟨rfl,d10.trans (b11.mono (by have:=d10.size;omega))⟩
 ·rw [hrk,decide_eq_false hck] at q12
  have hE : adE9 c s m = s.ckE c:=if_neg hck
  have hae : ¬ adE9 c s m = 0:=by rw [hE];exact hck
  go_upto_region 4 with fail
  refine wp_cond_true (q12.f 23) ?_
  go_upto_region 4 with fail
  refine wp_region_lit ?_
  refine q12.t _ (ex_ld rfl (q12.f 3) (CB7.ld HC)) fun _ q13 => ?_;clear q12
  refine q13.t _ (ex_ld rfl (q13.f 4) (SB7.ld HS)) fun _ q14 => ?_;clear q13
  refine q14.t _ (ex_ld rfl (q14.f 5) (MB9.ld HM)) fun _ q15 => ?_;clear q14
  refine vcallP (want_none rfl) (ex_call rfl (by simp only [List.map_toArray,List.map_cons,List.map_nil,(q15.f 25),(q15.f 26),(q15.f 27),evc] <;> rfl) rfl) (admit9 c s m w5 (hI.later d) hF (hM.later d) hMF (hT.later d hT.lt)) rfl q15.z (by decide) ?_;rintro e w6 ⟨t,b,rfl,tin,ht,b6⟩;refine ⟨_,rfl,q15.k fun _ q16 => ?_⟩;clear q15;replace HC:=HC.bel b6;replace HS:=HS.bel b6;replace HM:=HM.bel b6;replace d:=d.trans (b6.mono (by have:=d.size;omega));have zw6:=b6.size;clear b6
  refine q16.t _ (ex_move rfl (q16.f 28)) fun _ q17 => ?_;clear q16
  refine q17.t _ (ex_ext8 rfl (q17.f 24) rfl) fun _ q18 => ?_;clear q17
  refine q18.t _ (ex_ext8 rfl (q18.f 24) rfl) fun _ q19 => ?_;clear q18
  refine q19.t _ (ex_ext8 rfl (q19.f 24) rfl) fun _ q20 => ?_;clear q19
  obtain ⟨w7,hw7⟩ : ∃ y,y = w6.alloc (.cells zS8.cs.toArray 33):=⟨_,rfl⟩
  refine vw (.pointer (some ⟨w6.heap.size,0,none⟩)) w7 (want_none rfl) (ex_al rfl (by rw [hw7];exact al12 _)) rfl q20.z (by decide) (q20.k fun _ q21 => ?_);clear q20
  have HQ0 : SB7 w7 w6.heap.size zS8:=by rw [hw7];exact BX7.new _ _ _
  have b7 : Below w6.heap.size w6 w7:=by rw [hw7];exact (Below.refl _ _).alloc (Nat.le_refl _) _
  have y7 : w7.heap.size = w6.heap.size + 1:=by rw [hw7];exact World.size_alloc _ _
  clear hw7
  obtain ⟨w8,hw8⟩ : ∃ y,y = sets w7 w6.heap.size 0 t.cs:=⟨_,rfl⟩
  refine vs w8 (want_none rfl) (ex_st rfl (q21.f 7) (q21.f 29) (by rw [hw8];exact st12 HQ0 t)) rfl ?_
  have HQ : SB7 w8 w6.heap.size t:=by rw [hw8];exact SB7.put HQ0 t
  have u8 : Upd (fun k => k = w6.heap.size) w7 w8:=by rw [hw8];exact upd12 _ _ _
  clear hw8 HQ0;have y8:=u8.size;have b8 : Below w6.heap.size w6 w8:=b7.trans (u8.below (by omega) (fun k hk => by omega));replace tin:=tin.later b8;clear b7 u8;replace HC:=HC.bel b8;replace HS:=HS.bel b8;replace HM:=HM.bel b8;replace d:=d.trans (b8.mono (by have:=d.size;omega));have zw8:=b8.size;clear b8
  refine q21.t _ (ex_assign rfl (q21.f 30)) fun _ q22 => ?_;clear q21
  refine q22.t _ (ex_assign rfl (q22.f 31)) fun _ q23 => ?_;clear q22
  refine wpList_nil ?_
  go_upto_region 5 with fail
  refine wp_region_lit ?_
  have hb : b = false:=by
   rcases ht with ⟨_,_,h9⟩ | ⟨h9,_⟩
   ·exact h9
   ·exact absurd h9 hae
  subst hb
  refine q23.t _ (ex_move rfl (q23.f 9)) fun _ q24 => ?_;clear q23
  refine vcallP (want_none rfl) (ex_call rfl (by simp only [List.map_toArray,List.map_cons,List.map_nil,(q24.f 32),evc] <;> rfl) rfl) (num9 (adE9 c s m) w8) rfl q24.z (by decide) ?_;rintro e w9 ⟨rfl,b9⟩;refine ⟨_,rfl,q24.k fun _ q25 => ?_⟩;clear q24;have d9:=d.trans (b9.mono d.size)
  refine q25.t (.bool true) (ex_bin (Y:=.int .i64 (0)) rfl (q25.f 33) rfl (by rw [neqC,decide_eq_false hae];rfl)) fun _ q26 => ?_;clear q25
  refine q26.t _ (ex_move rfl (q26.f 34)) fun _ q27 => ?_;clear q26
  refine q27.g 35 rfl rfl rfl _ (fun hc => ex_move rfl (q27.f 8)) fun _ q28 => ?_;clear q27
  refine q28.g 35 rfl rfl rfl (.bool true) (fun hc => ex_not rfl (ev (q28.a 36 rfl) hc)) fun _ q29 => ?_;clear q28
  refine q29.t (.bool true) (ex_and (c:=true) (b:=true) (z:=true) rfl (q29.a 35 rfl) (q29.a 37 rfl) rfl) fun _ q30 => ?_;clear q29
  refine q30.t _ (ex_assign rfl (q30.f 38)) fun _ q31 => ?_;clear q30
  refine wpList_nil ?_
  go_wp2
  refine bodyPost_ret (results_tmp rfl _ _ _) rfl ?_;rw [getD_of (q31.a 6 rfl)]
  exact ⟨rfl,d9⟩
end Go.Proofs.YtjcedofmljkhfaaGreatDoor
namespace Go.Proofs.YtjcedofmljkhfaaGreatDoor
open Go.ChangeShapes Go.WideShapes Go.ChangeAt Go.RowKit
open Classical
theorem intCells : Tryz.prog.cellsOf 3 = 1:=by kernel_rfl
theorem opCells : Tryz.prog.cellsOf 36 = 3:=by kernel_rfl
theorem strCells : Tryz.prog.cellsOf 9 = 1:=by kernel_rfl
theorem open_opc {H : Type} {enc : TypeId × Value → H} {W : World} {base : Nat} {sp : Nat → Bool} {held : Bool} {n : Nat} {cs : List Value} {x : DataW H × List MemPlace} (h : DataW.trod enc Tryz.prog W base sp held n 36 cs = some x) :
  ∃ p : Opn,p.fits∧cs = [.int .i64 p.k,.int .i64 p.s,.string p.v]:=by
 obtain ⟨xs,k,hk,hxy,hlen,hxl,hf⟩:=DataW.trod_struct Tryz.underlying36 h;rw [opCells] at hlen;have hxl : xs.length = 3:=hxl
 match xs,hxl,cs,hlen with
 | [y0,y1,y2],_,[v0,v1,v2],_ =>
  have g0:=hf 0 _ rfl;have g1:=hf 1 _ rfl;have g2:=hf 2 _ rfl
  simp [intCells,strCells] at g0 g1 g2
  obtain ⟨K,hK,hx0,hw0⟩:=DataW.trod_int Tryz.underlying3 g0;obtain ⟨N,hN,hx2,hw2⟩:=DataW.trod_int Tryz.underlying3 g1;obtain ⟨t,hS,hx4,hw4⟩:=DataW.trod_string Tryz.underlying9 g2;refine ⟨⟨K,N,t⟩,⟨hw0,hw2,hw4⟩,?_⟩;rw [(List.cons_eq_cons.1 hK).1,(List.cons_eq_cons.1 hN).1,(List.cons_eq_cons.1 hS).1]
theorem enCells : Tryz.prog.cellsOf 38 = 5:=by kernel_rfl
theorem enBytes : Tryz.prog.bytesOf 38 = 48:=by kernel_rfl
theorem open_enc {H : Type} {enc : TypeId × Value → H} {W : World} {base : Nat} {sp : Nat → Bool} {held : Bool} {n : Nat} {cs : List Value} {x : DataW H × List MemPlace} (h : DataW.trod enc Tryz.prog W base sp held n 38 cs = some x) :
  ∃ p : En,p.fits∧cs = p.cs:=by
 obtain ⟨xs,k,hk,hxy,hlen,hxl,hf⟩:=DataW.trod_struct Tryz.underlying38 h;rw [enCells] at hlen;have hxl : xs.length = 3:=hxl
 match xs,hxl,cs,hlen with
 | [y0,y1,y2],_,[v0,v1,v2,v3,v4],_ =>
  have g0:=hf 0 _ rfl;have g1:=hf 1 _ rfl;have g2:=hf 2 _ rfl
  simp [intCells,opCells] at g0 g1 g2
  obtain ⟨K,hK,hx0,hw0⟩:=DataW.trod_int Tryz.underlying3 g0;obtain ⟨N,hN,hx2,hw2⟩:=DataW.trod_int Tryz.underlying3 g1;obtain ⟨o,ho,e⟩:=open_opc g2;refine ⟨⟨K,N,o⟩,⟨hw0,hw2,ho⟩,?_⟩;have e0:=(List.cons_eq_cons.1 hK).1;have e1:=(List.cons_eq_cons.1 hN).1
  simp at e
  obtain ⟨e2,e3,e4⟩:=e;subst e0 e1 e2 e3 e4
  rfl
theorem weights_in {H : Type} {t : TypeId} {ds : List (DataW H)} {d : DataW H} (hd : d ∈ ds) : ∀ m,m ∈ d.weights Tryz.prog t → m ∈ DataW.weightsAll Tryz.prog t ds:=by
 induction ds with
 | nil => cases hd
 | cons x r ih =>
  intro m hm;simp only [DataW.weightsAll]
  rcases List.mem_cons.1 hd with rfl | h
  ·exact List.mem_append_left _ hm
  ·exact List.mem_append_right _ (ih h m hm)
theorem u64Cells8 : Tryz.prog.cellsOf 41 = 1:=by kernel_rfl
theorem drCells8 : Tryz.prog.cellsOf 43 = 2:=by kernel_rfl
theorem slCells8 : Tryz.prog.cellsOf 25 = 1:=by kernel_rfl
theorem open_drc8 {H : Type} {enc : TypeId × Value → H} {W : World} {base : Nat} {sp : Nat → Bool} {held : Bool} {n : Nat} {cs : List Value} {x : DataW H × List MemPlace} (h : DataW.trod enc Tryz.prog W base sp held n 43 cs = some x) :
  ∃ a b : Int,((Lit.int .u64 a).wf = true∧(Lit.int .u64 b).wf = true)∧cs = [.int .u64 a,.int .u64 b]:=by
 obtain ⟨xs,k,hk,hxy,hlen,hxl,hf⟩:=DataW.trod_struct Tryz.underlying43 h;rw [drCells8] at hlen;have hxl : xs.length = 2:=hxl
 match xs,hxl,cs,hlen with
 | [y0,y1],_,[v0,v1],_ =>
  have g0:=hf 0 _ rfl;have g1:=hf 1 _ rfl
  simp [u64Cells8] at g0 g1
  obtain ⟨K,hK,hx0,hw0⟩:=DataW.trod_int Tryz.underlying41 g0;obtain ⟨N,hN,hx2,hw2⟩:=DataW.trod_int Tryz.underlying41 g1;refine ⟨K,N,⟨hw0,hw2⟩,?_⟩;rw [(List.cons_eq_cons.1 hK).1,(List.cons_eq_cons.1 hN).1]
theorem log_of_trod {H : Type} {enc : TypeId × Value → H} {W : World} {n : Nat} {v : Value} {d : DataW H} {p : List MemPlace} (hf : DataW.trod enc Tryz.prog W 0 (fun _ => true) true n 25 [v] = some (d,p)) (hw : ∀ m,m ∈ d.weights Tryz.prog 25 → m ≤ reachBytes) :
  ∃ s : SV En,v = .slice s.a s.D.length s.c∧SlY yE W s.a s.D.length s.c s.D∧(∀ e ∈ s.D,e.fits)∧s.D.length * 48 ≤ 140737488351232:=by
 rcases Go.Deep.open_slice Tryz.underlying25 hf with ⟨hcs,hx⟩ | ⟨y,ln,cp,m,k,D,Pl,hcs,hb,hl,hm,hmm,hx,hall⟩
 ·have e:=(List.cons_eq_cons.1 hcs).1
  exact ⟨⟨none,0,[]⟩,e,⟨rfl,Nat.le_refl _,Nat.zero_le _,fun _ => ⟨rfl,rfl⟩,fun x hx => .inl rfl⟩,by simp,by simp⟩
 ·have e:=(List.cons_eq_cons.1 hcs).1
  have hlm : ln ≤ m:=by rw [hmm];split <;> omega
  have hd:=congrArg Prod.fst hx
  dsimp only at hd
  have hsz : ln * 48 ≤ 140737488351232:=by
   have:=hw _ (by
    rw [hd];simp only [DataW.weights,Tryz.underlying25,enBytes]
    exact List.mem_cons_self)
   simp only [List.length_map,List.length_range,reachBytes] at this;rw [Nat.add_mul] at this
   omega
  have each : ∀ i,i < ln → ∃ q : En,q.fits∧(∀ j,j < 5 → W.cell? ((y.add (i * 5)).add j) = q.cs[j]?):=by
   intro i hi;obtain ⟨cs',h1,h2⟩:=hall i (by omega);rw [enCells] at h1;obtain ⟨q,hf,rfl⟩:=open_enc h2;obtain ⟨_,_,hcell⟩:=World.cells?_some h1
   exact ⟨q,hf,hcell⟩
  haveI : Inhabited En:=⟨⟨0,0,⟨0,0,⟨#[]⟩⟩⟩⟩
  obtain ⟨q,hq⟩:=Go.Deep.choose_lt each;refine ⟨⟨some y,cp,(List.range ln).map q⟩,by rw [e];simp,⟨rfl,by simpa using hl,hm,(fun e => by cases e),fun x hx => ?_⟩,?_,by simpa using hsz⟩
  ·cases hx
   by_cases hn0 : ln = 0
   ·subst hn0
    exact .inl rfl
   ·obtain ⟨b,o,s⟩:=y
    have z0:=(hq 0 (by omega)).2 0 (by omega);have z1:=z0.trans (List.getElem?_eq_getElem (by show 0 < 5;omega));have hs:=World.cell?_spot z1
    obtain rfl : s = none:=by
     rw [Nat.zero_mul] at hs
     simpa [Addr.add] using hs
    refine .inr ⟨b,o,rfl,?_,fun i x hx j u hu => ?_⟩
    ·rw [Addr.add_lit,Addr.add_lit] at z1
     exact World.block_lt_of_cell? _ _ z1
    ·have hi : i < ln:=by
      have:=(List.getElem?_eq_some_iff.1 hx).1
      simpa using this
     have e : q i = x:=by
      simp [hi] at hx
      exact hx
     subst e;have hj : j < 5:=(List.getElem?_eq_some_iff.1 hu).1;have:=(hq i hi).2 j hj;rw [Addr.add_lit,Addr.add_lit] at this
     exact this.trans hu
  ·intro z hz
   obtain ⟨i,hi,rfl⟩:=List.mem_map.1 hz
   exact (hq i (List.mem_range.1 hi)).1
theorem cellsBl : Tryz.prog.cellsOf 58 = 6:=by kernel_rfl
theorem bytesBl : Tryz.prog.bytesOf 58 = 64:=by kernel_rfl
structure Bl.fits (W : World) (x : Bl) : Prop where
 nw : (Lit.int .i64 x.n).wf = true
 hw : (Lit.int .u64 x.h).wf = true
 lw : (Lit.int .u64 x.l).wf = true
 vw : (Lit.int .i64 x.v).wf = true
 cw : (Lit.int .i64 x.c).wf = true
 sw : SlY yE W x.s.a x.s.D.length x.s.c x.s.D
 ew : ∀ e ∈ x.s.D,e.fits
 bw : x.s.D.length * 48 ≤ 140737488351232
theorem Bl.fits.In {W : World} {x : Bl} (h : x.fits W) : x.In W:=⟨h.sw,by have:=h.bw;omega⟩
theorem open_elBl {H : Type} {enc : TypeId × Value → H} {W : World} {m : Nat} {cs : List Value} {D : DataW H} {q : List MemPlace} (h : DataW.trod enc Tryz.prog W 0 (fun _ => true) true m 58 cs = some (D,q)) (hw : ∀ k,k ∈ D.weights Tryz.prog 58 → k ≤ reachBytes) : ∃ e : Bl,e.fits W∧cs = e.cs:=by
 obtain ⟨xs,k,hk,hxy,hlen,hxl,hf⟩:=DataW.trod_struct Tryz.underlying58 h;rw [cellsBl] at hlen;have hxl : xs.length = 5:=hxl
 match xs,hxl,cs,hlen with
 | [y0,y1,y2,y3,y4],_,[v0,v1,v2,v3,v4,v5],_ =>
  have g0:=hf 0 _ rfl;have g1:=hf 1 _ rfl;have g2:=hf 2 _ rfl;have g3:=hf 3 _ rfl;have g4:=hf 4 _ rfl
  simp [intCells,drCells8,slCells8] at g0 g1 g2 g3 g4
  obtain ⟨N,hN,_,wN⟩:=DataW.trod_int Tryz.underlying3 g0;obtain ⟨a,b,⟨wa,wb⟩,hdr⟩:=open_drc8 g1;obtain ⟨V,hV,_,wV⟩:=DataW.trod_int Tryz.underlying3 g2;obtain ⟨C,hC,_,wC⟩:=DataW.trod_int Tryz.underlying3 g3;have hd : D = .agg ([y0,y1,y2,y3,y4].map Prod.fst):=congrArg Prod.fst hxy
  obtain ⟨s,es,hs,he,hb⟩:=log_of_trod g4 (fun k hk => hw k (by
   rw [hd];simp only [DataW.weights,Tryz.underlying58]
   exact DataW.weights_mem_each (j:=4) (t:=25) rfl rfl k hk))
  refine ⟨⟨N,a,b,V,C,s⟩,⟨wN,wa,wb,wV,wC,hs,he,hb⟩,?_⟩
  simp at hN hdr hV hC
  obtain ⟨h1,h2⟩:=hdr;subst hN h1 h2 hV hC es
  rfl
theorem cellsAn : Tryz.prog.cellsOf 60 = 6:=by kernel_rfl
theorem bytesAn : Tryz.prog.bytesOf 60 = 64:=by kernel_rfl
structure An.fits (W : World) (x : An) : Prop where
 nw : (Lit.int .i64 x.n).wf = true
 hw : (Lit.int .u64 x.h).wf = true
 lw : (Lit.int .u64 x.l).wf = true
 vw : (Lit.int .i64 x.v).wf = true
 cw : (Lit.int .i64 x.c).wf = true
 sw : SlY yE W x.s.a x.s.D.length x.s.c x.s.D
 ew : ∀ e ∈ x.s.D,e.fits
 bw : x.s.D.length * 48 ≤ 140737488351232
theorem An.fits.In {W : World} {x : An} (h : x.fits W) : x.In W:=⟨h.sw,by have:=h.bw;omega⟩
theorem open_elAn {H : Type} {enc : TypeId × Value → H} {W : World} {m : Nat} {cs : List Value} {D : DataW H} {q : List MemPlace} (h : DataW.trod enc Tryz.prog W 0 (fun _ => true) true m 60 cs = some (D,q)) (hw : ∀ k,k ∈ D.weights Tryz.prog 60 → k ≤ reachBytes) : ∃ e : An,e.fits W∧cs = e.cs:=by
 obtain ⟨xs,k,hk,hxy,hlen,hxl,hf⟩:=DataW.trod_struct Tryz.underlying60 h;rw [cellsAn] at hlen;have hxl : xs.length = 5:=hxl
 match xs,hxl,cs,hlen with
 | [y0,y1,y2,y3,y4],_,[v0,v1,v2,v3,v4,v5],_ =>
  have g0:=hf 0 _ rfl;have g1:=hf 1 _ rfl;have g2:=hf 2 _ rfl;have g3:=hf 3 _ rfl;have g4:=hf 4 _ rfl
  simp [intCells,drCells8,slCells8] at g0 g1 g2 g3 g4
  obtain ⟨N,hN,_,wN⟩:=DataW.trod_int Tryz.underlying3 g0;obtain ⟨a,b,⟨wa,wb⟩,hdr⟩:=open_drc8 g1;obtain ⟨V,hV,_,wV⟩:=DataW.trod_int Tryz.underlying3 g2;obtain ⟨C,hC,_,wC⟩:=DataW.trod_int Tryz.underlying3 g3;have hd : D = .agg ([y0,y1,y2,y3,y4].map Prod.fst):=congrArg Prod.fst hxy
  obtain ⟨s,es,hs,he,hb⟩:=log_of_trod g4 (fun k hk => hw k (by
   rw [hd];simp only [DataW.weights,Tryz.underlying60]
   exact DataW.weights_mem_each (j:=4) (t:=25) rfl rfl k hk))
  refine ⟨⟨N,a,b,V,C,s⟩,⟨wN,wa,wb,wV,wC,hs,he,hb⟩,?_⟩
  simp at hN hdr hV hC
  obtain ⟨h1,h2⟩:=hdr;subst hN h1 h2 hV hC es
  rfl
end Go.Proofs.YtjcedofmljkhfaaGreatDoor
namespace Go.Proofs.YtjcedofmljkhfaaGreatDoor
open Go.ChangeShapes Go.WideShapes Go.ChangeAt Go.RowKit Go.Maps
open Classical
theorem cfCells : Tryz.prog.cellsOf 23 = 4:=by kernel_rfl
theorem boolCells9 : Tryz.prog.cellsOf 4 = 1:=by kernel_rfl
theorem open_cfg {H : Type} {enc : TypeId × Value → H} {W : World} {base : Nat} {v : Value} {d : DataW H} {p : List MemPlace} (hv : Value.okWide Tryz.prog W .any base 23 v) (h : DataW.Trod enc Tryz.prog W 0 (fun _ => true) true 23 v d p) :
  ∃ x : Cg,v = .agg #[.int .i64 x.F,.int .i64 x.R,.int .i64 x.P,.bool x.u]∧True:=by
 obtain ⟨cs,rfl,hsz⟩:=okWide_struct Tryz.underlying23 hv;obtain ⟨fuel,hf⟩:=h;obtain ⟨xs,k,hk,hxy,hlen,hxl,hf⟩:=DataW.trod_struct Tryz.underlying23 hf;rw [cfCells] at hlen;have hxl : xs.length = 4:=hxl;simp only [Value.cells] at hlen hf;obtain ⟨l⟩:=cs
 match xs,hxl,l,hlen with
 | [y0,y1,y2,y3],_,[v0,v1,v2,v3],_ =>
  have g0:=hf 0 _ rfl;have g1:=hf 1 _ rfl;have g2:=hf 2 _ rfl;have g3:=hf 3 _ rfl
  simp [intCells,boolCells9] at g0 g1 g2 g3
  obtain ⟨A,hA,_,_⟩:=DataW.trod_int Tryz.underlying3 g0;obtain ⟨B,hB,_,_⟩:=DataW.trod_int Tryz.underlying3 g1;obtain ⟨C,hC,_,_⟩:=DataW.trod_int Tryz.underlying3 g2;obtain ⟨b,hb,_⟩:=DataW.trod_bool Tryz.underlying4 g3;refine ⟨⟨A,B,C,b⟩,?_,trivial⟩
  simp at hA hB hC hb
  subst hA hB hC hb
  rfl
theorem drBytes8 : Tryz.prog.bytesOf 43 = 16:=by kernel_rfl
end Go.Proofs.YtjcedofmljkhfaaGreatDoor
