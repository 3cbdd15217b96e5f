import Derived.Test.YtjcedofmljkhfaaGreatDoorF12
set_option maxRecDepth 100000
set_option linter.unusedVariables false
set_option linter.unusedSimpArgs false
namespace Go.Proofs.YtjcedofmljkhfaaGreatDoor
open Go.RowKit Go.Maps Go.Shelf
open Classical
theorem lie0_9 {α : Type} {Y : Lay α} {w : World} {a : Option Addr} {n c : Nat} {L : List α} (h : SlY Y w a n c L) (hi : 0 < n) : ∃ q o,a = some ⟨q,o,none⟩∧∀ i x,L[i]? = some x → ∀ k u,(Y.cs x)[k]? = some u → w.cell? ⟨q,o + i * Y.k + k,none⟩ = some u:=by
 have hl:=h.len;obtain ⟨q,o,rfl,hq,hlie⟩:=h.place (by rintro rfl;simp at hl;omega)
 exact ⟨q,o,rfl,fun i x hx k u hu => hlie i x hx k u hu⟩
theorem vlt9 {α : Type} {Y : Lay α} {w : World} {q o : Nat} {n c : Nat} {L : List α} (h : SlY Y w (some ⟨q,o,none⟩) n c L) (hi : 0 < n) : q < w.heap.size:=by
 have hl:=h.len;obtain ⟨q',o',e,hq,hlie⟩:=h.place (by rintro rfl;simp at hl;omega)
 cases e
 exact hq
theorem ixV9 (q o n c i : Nat) (hi : i < n) (w : World) : (Instr.indexAt 27 (.slice (some ⟨q,o,none⟩) n c) (.int .i64 (i : Int))).run Tryz.prog w = .ok (.pointer (some ⟨q,o + i * 2,none⟩)) w:=by
 have h1 : (i : Int) < (n : Int):=by omega
 go_simp
theorem ixVz9 (q n c i : Nat) (hi : i < n) (w : World) : (Instr.indexAt 27 (.slice (some ⟨q,0,none⟩) n c) (.int .i64 (i : Int))).run Tryz.prog w = .ok (.pointer (some ⟨q,i * 2,none⟩)) w:=(ixV9 q 0 n c i hi w).trans (by rw [Nat.zero_add])
def dcs9 (d : Int × Int) : List Value:=[.int .u64 d.1,.int .u64 d.2]
abbrev DB9 (w : World) (q : Nat) (d : Int × Int) : Prop:=BX7 w q (dcs9 d)
theorem alD9 (w : World) : (Instr.alloc 43 true (.tuple #[])).run Tryz.prog w = .ok (.pointer (some ⟨w.heap.size,0,none⟩)) (w.alloc (.cells #[.int .u64 0,.int .u64 0] 43)):=by
 go_simp
 first | done | rfl
theorem DB9.ld {w : World} {q : Nat} {d : Int × Int} (h : DB9 w q d) : (Instr.loadAt 43 (.pointer (some ⟨q,0,none⟩))).run Tryz.prog w = .ok (.agg #[.int .u64 d.1,.int .u64 d.2]) w:=ldDr8 (h.cell 0 _ rfl) (h.cell 1 _ rfl)
theorem run_stD9 {w : World} {q o : Nat} {d0 d1 : Value} (h0 : w.cell? ⟨q,o,none⟩ = some d0) (h1 : w.cell? ⟨q,o + 1,none⟩ = some d1) (f0 : w.frozen? ⟨q,o,none⟩ = false) (f1 : w.frozen? ⟨q,o + 1,none⟩ = false) (d : Int × Int) : (Instr.storeAt 43 (.pointer (some ⟨q,o,none⟩)) (.agg #[.int .u64 d.1,.int .u64 d.2])).run Tryz.prog w = .ok () (sets w q o (dcs9 d)):=by
 have:=run_storeAt_mid (P:=Tryz.prog) w q o 43 (dcs9 d).toArray (fun j hj => by
  have hj2 : j = 0 ∨ j = 1:=by simp [dcs9] at hj;omega
  rcases hj2 with rfl | rfl
  ·exact ⟨by rw [Nat.add_zero,h0];rfl,by rw [Nat.add_zero];exact f0⟩
  ·exact ⟨by rw [h1];rfl,f1⟩) (by kernel_rfl) (by first | rfl | (simp [dcs9];first | done | rfl | exact ⟨rfl,rfl⟩))
 rw [setCells_sets] at this
 exact this
theorem stD9 {w : World} {q : Nat} {x : Int × Int} (h : DB9 w q x) (d : Int × Int) : (Instr.storeAt 43 (.pointer (some ⟨q,0,none⟩)) (.agg #[.int .u64 d.1,.int .u64 d.2])).run Tryz.prog w = .ok () (sets w q 0 (dcs9 d)):=run_stD9 (h.cell 0 _ rfl) (h.cell 1 _ rfl) (h.free 0) (h.free 1) d
theorem DB9.put {w : World} {q : Nat} {x : Int × Int} (h : DB9 w q x) (d : Int × Int) : DB9 (sets w q 0 (dcs9 d)) q d:=by
 have h1:=BX7.set h (j:=0) (by simp [dcs9]) (.int .u64 d.1);have h2:=BX7.set h1 (j:=1) (by simp [dcs9]) (.int .u64 d.2)
 exact h2
theorem updS9 (w : World) (q o : Nat) (d : Int × Int) : Upd (fun k => k = q) w (sets w q o (dcs9 d)):=((Upd.refl (fun k => k = q) w).setCell (p:=⟨q,o,none⟩) (.inl rfl) _).setCell (p:=⟨q,o + 1,none⟩) (.inl rfl) _
theorem updD9 (w : World) (q : Nat) (d : Int × Int) : Upd (fun k => k = q) w (sets w q 0 (dcs9 d)):=updS9 w q 0 d
theorem own_stD9 {B g n c i : Nat} {w : World} {l : List (Int × Int)} {y : Int × Int} (h : OwnY yD B w (.slice (some ⟨g,0,none⟩) n c) l) (hy : l[i]? = some y) (d : Int × Int) :
  (Instr.storeAt 43 (.pointer (some ⟨g,i * 2,none⟩)) (.agg #[.int .u64 d.1,.int .u64 d.2])).run Tryz.prog w = .ok () (sets w g (i * 2) (dcs9 d))∧OwnY yD B (sets w g (i * 2) (dcs9 d)) (.slice (some ⟨g,0,none⟩) n c) (l.set i d)∧Upd (fun k => k = g) w (sets w g (i * 2) (dcs9 d)):=by
 refine ⟨run_stD9 (h.cell kD i y hy 0 _ rfl) (h.cell kD i y hy 1 _ rfl) (h.free _) (h.free _) d,?_,updS9 _ _ _ _⟩;have hi:=(List.getElem?_eq_some_iff.1 hy).1;have h1:=h.set1 kD hy (d.1,y.2) 0 (.int .u64 d.1) (by decide) rfl;have h2:=h1.set1 kD (x:=(d.1,y.2)) (i:=i) (by rw [List.getElem?_set_self hi]) d 1 (.int .u64 d.2) (by decide) rfl;rw [List.set_set] at h2
 exact h2
def rz9 (m v : Int × Int) : Int × Int:=if 0 < cmpD v.1 v.2 m.1 m.2 then v else m
def jn9 (M V : List (Int × Int)) : List (Int × Int):=(List.range M.length).map fun i => rz9 (M.getD i (0,0)) (V.getD i (0,0))
def rzA9 (M V : List (Int × Int)) (i : Nat) : List (Int × Int):=(List.range M.length).map fun k => if k < i then rz9 (M.getD k (0,0)) (V.getD k (0,0)) else M.getD k (0,0)
theorem jn9_length (M V : List (Int × Int)) : (jn9 M V).length = M.length:=by simp [jn9]
theorem rzA9_0 (M V : List (Int × Int)) : rzA9 M V 0 = M:=by
 apply List.ext_getElem?
 intro k
 by_cases h : k < M.length
 ·simp [rzA9,h,List.getD]
 ·simp [rzA9,h]
  try omega
theorem rzA9_at {M V : List (Int × Int)} {i : Nat} (h : i < M.length) : (rzA9 M V i)[i]? = some (M.getD i (0,0)):=by simp [rzA9,h]
theorem rzA9_set {M V : List (Int × Int)} {i : Nat} (h : i < M.length) (hc : 0 < cmpD (V.getD i (0,0)).1 (V.getD i (0,0)).2 (M.getD i (0,0)).1 (M.getD i (0,0)).2) : rzA9 M V (i + 1) = (rzA9 M V i).set i (V.getD i (0,0)):=by
 apply List.ext_getElem?
 intro k;rw [List.getElem?_set]
 by_cases hk : k < M.length
 ·by_cases e : i = k
  ·subst e
   simp only [rzA9,List.length_map,List.length_range,h,if_true,List.getElem?_map,List.getElem?_range h,Option.map_some,Nat.lt_succ_self,rz9,if_pos hc]
  ·have e1 : (k < i + 1) = (k < i):=by simp;omega
   simp only [rzA9,List.getElem?_map,List.getElem?_range hk,Option.map_some,if_neg e,e1]
 ·have : ¬ i = k:=by omega
  simp [rzA9,hk,this]
theorem rzA9_keep {M V : List (Int × Int)} {i : Nat} (h : i < M.length) (hc : ¬ 0 < cmpD (V.getD i (0,0)).1 (V.getD i (0,0)).2 (M.getD i (0,0)).1 (M.getD i (0,0)).2) : rzA9 M V (i + 1) = rzA9 M V i:=by
 apply List.ext_getElem?
 intro k
 by_cases hk : k < M.length
 ·simp only [rzA9,List.getElem?_map,List.getElem?_range hk,Option.map_some]
  by_cases e : k = i
  ·subst e
   rw [if_pos (Nat.lt_succ_self _),if_neg (Nat.lt_irrefl _),rz9,if_neg hc]
  ·have e1 : (k < i + 1) = (k < i):=by simp;omega
   simp only [e1]
 ·simp [rzA9,hk]
theorem rzA9_all {M V : List (Int × Int)} (h : V.length = M.length) : rzA9 M V V.length = jn9 M V:=by
 unfold rzA9 jn9
 apply List.map_congr_left
 intro k hk;rw [if_pos (by have:=List.mem_range.1 hk;omega)]
set_option maxHeartbeats 1000000 in
theorem raise9 (M V : List (Int × Int)) (B g c2 : Nat) (a : Option Addr) (c : Nat) (w : World) (hM : OwnY yD B w (.slice (some ⟨g,0,none⟩) M.length c2) M) (hV : SlY yD w a V.length c V) (hl : V.length = M.length) (hl0 : 0 < V.length) (hne : ∀ x,a = some x → x.block ≠ g) : Calls Tryz.prog 38 #[.slice (some ⟨g,0,none⟩) M.length c2,.slice a V.length c] w fun e w' => e = .returned (.tuple #[])∧OwnY yD B w' (.slice (some ⟨g,0,none⟩) M.length c2) (jn9 M V)∧Upd (fun k => k = g) w w':=by
 go_enter Tryz.func38,Tryz.ntmps38
 go_upto_region 0 with fail
 refine wp_region_lit ?_;refine vl_gen (fun T => T.size = 25∧T[0]? = some (gw true (.slice (some ⟨g,0,none⟩) M.length c2))∧T[1]? = some (gw true (.slice a V.length c))) ⟨rfl,rfl,rfl⟩ (fun Z0 ⟨hz,s0,s1⟩ => ?_);have hB : Below w.heap.size w w:=Below.refl _ _;have hv0 : Below w.heap.size w w:=Below.refl _ _;obtain ⟨qv,ov,hva,hlie⟩:=lie0_9 hV hl0;subst hva;have hqg : ¬ qv = g:=hne _ rfl;have hgl : g < w.heap.size:=(hM.blk g rfl).2;have hqvl:=vlt9 hV hl0;have Ya:=((Rp.nil hz).cons s0).cons s1;clear hz s0 s1
 refine Ya.t _ (ex_move rfl (Ya.f 1)) fun _ Yb => ?_;clear Ya
 refine Yb.t _ (ex_lenV8 rfl rfl (Yb.f 6)) fun _ Yc => ?_;clear Yb
 refine Yc.t (.int .i64 0) (ex_move rfl rfl) fun _ Yd => ?_;clear Yc
 have hz:=Yd.z;have s0:=Yd.a 0 rfl;have s6:=Yd.a 6 rfl;have s7:=Yd.a 7 rfl;have s8:=Yd.a 8 rfl;clear Yd;refine wpList_nil ?_
 have hvl : V.length ≤ 9223372036854775807:=by have h1:=hV.max;have h2:=hV.cap;unfold maxLen at h1;omega
 have hs8 : _ = some (gw true (.int .i64 ((0 : Nat) : Int))):=s8
 go_upto_region 1 with fail
 refine v_loop 8 V.length (fun i T wr => T.size = 25∧T[0]? = some (gw true (.slice (some ⟨g,0,none⟩) M.length c2))∧T[6]? = some (gw true (.slice (some ⟨qv,ov,none⟩) V.length c))∧T[7]? = some (gw true (.int .i64 (V.length : Int)))∧T[8]? = some (gw true (.int .i64 (i : Int)))∧Hid (OwnY yD B wr (.slice (some ⟨g,0,none⟩) M.length c2) (rzA9 M V i)∧Upd (fun k => k = g) w wr)) (fun i T w h => h.2.2.2.2.1) ⟨hz,s0,s6,s7,hs8,by rw [rzA9_0];exact hM,Upd.refl _ _⟩ ?_;clear hz s0 s6 s7 s8 hs8;intro i R0 wr hi hh;obtain ⟨hz,s0,s6,s7,s8,HJ⟩:=hh;obtain ⟨OW,UW⟩:=HJ.out;clear HJ hv0
 by_cases hit : i < V.length
 ·have d1 : decide ((i : Int) < (V.length : Int)) = true:=decide_eq_true (by omega)
  go_upto_region 1 with fail
  refine wp_region_lit ?_;have Ye:=((((Rp.nil hz).cons s0).cons s6).cons s7).cons s8;clear hz s0 s6 s7 s8
  refine Ye.t (.bool true) (ex_bin rfl (Ye.f 8) (Ye.f 7) (lssD8 _ _ _ _ true d1 _)) fun _ Yf => ?_;clear Ye
  have hz:=Yf.z;have s0:=Yf.a 0 rfl;have s6:=Yf.a 6 rfl;have s7:=Yf.a 7 rfl;have s8:=Yf.a 8 rfl;have s9:=Yf.a 9 rfl;clear Yf;refine wpList_nil ?_
  go_upto_region 2 with fail
  refine wp_cond_true ((ev s9 rfl).trans rfl) ?_;clear s9 d1
  obtain ⟨x,hx⟩ : ∃ x,x = (V.getD i (0,0)):=⟨_,rfl⟩
  obtain ⟨y,hy⟩ : ∃ y,y = (M.getD i (0,0)):=⟨_,rfl⟩
  have hxi : V[i]? = some x:=by rw [hx];simp [List.getD,List.getElem?_eq_getElem hit]
  have hyi : (rzA9 M V i)[i]? = some y:=by rw [hy];exact rzA9_at (by omega)
  have e3 : wr.cell? ⟨qv,ov + i * 2,none⟩ = some (.int .u64 x.1):=(UW.cell (p:=⟨qv,_,none⟩) hqvl hqg).trans (hlie i x hxi 0 _ rfl);have e4 : wr.cell? ⟨qv,ov + i * 2 + 1,none⟩ = some (.int .u64 x.2):=(UW.cell (p:=⟨qv,_,none⟩) hqvl hqg).trans (hlie i x hxi 1 _ rfl)
  obtain ⟨q5,hq5⟩ : ∃ z,z = wr.heap.size:=⟨_,rfl⟩
  obtain ⟨w5,hw5⟩ : ∃ y,y = wr.alloc (.cells #[.int .u64 0,.int .u64 0] 43):=⟨_,rfl⟩
  have b5 : Below wr.heap.size wr w5:=by rw [hw5];exact (Below.refl _ _).alloc (Nat.le_refl _) _
  have HQ : DB9 w5 q5 (0,0):=by rw [hw5,hq5];exact BX7.new _ _ _
  have z5:=b5.size;have l5:=HQ.lt;have zw:=UW.size
  go_upto_region 2 with fail
  refine wp_region_lit ?_;have Yg:=((((Rp.nil hz).cons s0).cons s6).cons s7).cons s8;clear hz s0 s6 s7 s8
  refine Yg.t _ (ex_move rfl (Yg.f 8)) fun _ Yh => ?_;clear Yg
  refine Yh.t _ (ex_ix rfl (Yh.f 6) (Yh.f 8) (ixV9 qv ov V.length c i hit _)) fun _ Yi => ?_;clear Yh
  refine Yi.t _ (ex_ld rfl (Yi.f 11) (ldDr8 (d:=x) e3 e4)) fun _ Yj => ?_;clear Yi
  refine vw (.pointer (some ⟨q5,0,none⟩)) w5 (want_none rfl) (ex_al rfl (by rw [hw5,hq5];exact alD9 _)) rfl Yj.z (by decide) (Yj.k fun Yk Yl => ?_);clear Yj
  refine Yl.t _ (ex_assign rfl (Yl.f 10)) fun _ Ym => ?_;clear Yl
  refine vs (sets w5 q5 0 (dcs9 x)) (want_none rfl) (ex_st rfl (Ym.f 5) (Ym.f 12) (stD9 HQ x)) rfl ?_;have HD:=DB9.put HQ x;have UD:=updD9 w5 q5 x
  obtain ⟨w6,hw6⟩ : ∃ v,v = sets w5 q5 0 (dcs9 x):=⟨_,rfl⟩
  rw [← hw6] at HD UD ⊢;clear hw6;have b6 : Below wr.heap.size wr w6:=b5.trans (UD.below (by omega) (fun k hk => by omega));have OW:=OW.grow b6;have UW:=UW.trans (Upd.of_below b6);have z6:=UW.size;clear UD HQ b5 b6;have h60 : Below w6.heap.size w6 w6:=Below.refl _ _;have cc1 : w6.cell? ⟨g,i * 2,none⟩ = some (.int .u64 y.1):=OW.cell kD i y hyi 0 _ rfl;have cc2 : w6.cell? ⟨g,i * 2 + 1,none⟩ = some (.int .u64 y.2):=OW.cell kD i y hyi 1 _ rfl;have hz:=Ym.z;have s0:=Ym.a 0 rfl;have s4:=Ym.a 4 rfl;have s5:=Ym.a 5 rfl;have s6:=Ym.a 6 rfl;have s7:=Ym.a 7 rfl;have s8:=Ym.a 8 rfl;clear Ym;refine wpList_nil ?_
  go_upto_region 3 with fail
  refine vq_start (C:=fun v => Below w6.heap.size w6 v) (by kernel_rfl) (by kernel_rfl) h60.drew ?_;have Yn:=((((((Rp.nil hz).cons s0).cons s4).cons s5).cons s6).cons s7).cons s8;clear hz s0 s4 s5 s6 s7 s8
  refine Yn.q _ (fun v hv => ex_ld rfl (Yn.f 5) (DB9.ld (HD.bel hv))) fun _ Yo => ?_;clear Yn
  refine Yo.q _ (fun v hv => ex_move rfl (Yo.f 0)) fun _ Yp => ?_;clear Yo
  refine Yp.q _ (fun v hv => ex_move rfl (Yp.f 4)) fun _ Yq => ?_;clear Yp
  refine Yq.q (.pointer (some ⟨g,i * 2,none⟩)) (fun v hv => ex_ix rfl (Yq.f 14) (Yq.f 15) (ixVz9 g M.length c2 i (by omega) _)) fun _ Yr => ?_;clear Yq
  refine Yr.q _ (fun v hv => ex_ld rfl (Yr.f 16) (ldDr8 (d:=y) (cell8 cc1 hv) (cell8 cc2 hv))) fun _ Ys => ?_;clear Yr
  refine vq_call true (.int .i64 (cmpD x.1 x.2 y.1 y.2)) (want_none rfl) (fun hc v hv => ex_call rfl (by simp only [List.map_toArray,List.map_cons,List.map_nil,(Ys.f 13),(Ys.f 17),evc] <;> rfl) rfl) (fun hc v hv => (bel8 hv (compare_any x.1 x.2 y.1 y.2 v))) rfl Ys.z (by decide) (Ys.k fun Yt Yu => ?_);clear Ys
  refine Yu.q (.bool (decide (0 < (cmpD x.1 x.2 y.1 y.2)))) (fun v hv => ex_bin rfl (Yu.f 18) rfl (gtrC _ _ _ _ _)) fun _ Yv => ?_;clear Yu
  have hz:=Yv.z;have s0:=Yv.a 0 rfl;have s4:=Yv.a 4 rfl;have s5:=Yv.a 5 rfl;have s6:=Yv.a 6 rfl;have s7:=Yv.a 7 rfl;have s8:=Yv.a 8 rfl;have s19:=Yv.a 19 rfl;clear Yv;refine vq_nil (fun x1 hx1 => ?_);have HD:=HD.bel hx1;have OW:=OW.grow hx1;have UW:=UW.trans (Upd.of_below hx1);clear h60 cc1 cc2 e3 e4
  go_upto_region 4 with fail
  cases eb : (decide (0 < (cmpD x.1 x.2 y.1 y.2)))
  ·refine wp_cond_false ((ev s19 rfl).trans (congrArg Value.bool eb)) ?_
   clear s19;clear s4 s5
   go_upto_region 5 with fail
   refine wp_region_lit ?_;have Yw:=((((Rp.nil hz).cons s0).cons s6).cons s7).cons s8;clear hz s0 s6 s7 s8
   refine Yw.t (.int .i64 ((i + 1 : Nat) : Int)) (ex_bin rfl (Yw.f 8) rfl (addD8 _ _ _ 1 ((i + 1 : Nat) : Int) (by rw [IntKind.wrap_i64];omega) _)) fun _ Yx => ?_;clear Yw
   refine Yx.t _ (ex_move rfl (Yx.f 24)) fun _ Yy => ?_;clear Yx
   have hz:=Yy.z;have s0:=Yy.a 0 rfl;have s6:=Yy.a 6 rfl;have s7:=Yy.a 7 rfl;have s8:=Yy.a 8 rfl;clear Yy;refine wpList_nil ?_
   exact ⟨_,rfl,by omega,hz,s0,s6,s7,s8,by rw [rzA9_keep (by omega) (by rw [← hx,← hy];exact of_decide_eq_false eb)];exact OW,UW⟩
  ·refine wp_cond_true ((ev s19 rfl).trans (congrArg Value.bool eb)) ?_
   clear s19
   go_upto_region 4 with fail
   refine wp_region_lit ?_;have Yz:=((((((Rp.nil hz).cons s0).cons s4).cons s5).cons s6).cons s7).cons s8;clear hz s0 s4 s5 s6 s7 s8
   refine Yz.t _ (ex_move rfl (Yz.f 0)) fun _ Y0 => ?_;clear Yz
   refine Y0.t _ (ex_move rfl (Y0.f 4)) fun _ Y1 => ?_;clear Y0
   refine Y1.t _ (ex_ld rfl (Y1.f 5) (DB9.ld HD)) fun _ Y2 => ?_;clear Y1
   refine Y2.t (.pointer (some ⟨g,i * 2,none⟩)) (ex_ix rfl (Y2.f 20) (Y2.f 21) (ixVz9 g M.length c2 i (by omega) _)) fun _ Y3 => ?_;clear Y2
   refine vs (sets x1 g (i * 2) (dcs9 x)) (want_none rfl) (ex_st rfl (Y3.f 23) (Y3.f 22) (own_stD9 OW hyi x).1) rfl ?_;have OS:=(own_stD9 OW hyi x).2
   obtain ⟨w8,hw8⟩ : ∃ v,v = sets x1 g (i * 2) (dcs9 x):=⟨_,rfl⟩
   rw [← hw8] at OS ⊢;clear hw8;have hz:=Y3.z;have s0:=Y3.a 0 rfl;have s6:=Y3.a 6 rfl;have s7:=Y3.a 7 rfl;have s8:=Y3.a 8 rfl;clear Y3;refine wpList_nil ?_
   go_upto_region 5 with fail
   refine wp_region_lit ?_;have Y4:=((((Rp.nil hz).cons s0).cons s6).cons s7).cons s8;clear hz s0 s6 s7 s8
   refine Y4.t (.int .i64 ((i + 1 : Nat) : Int)) (ex_bin rfl (Y4.f 8) rfl (addD8 _ _ _ 1 ((i + 1 : Nat) : Int) (by rw [IntKind.wrap_i64];omega) _)) fun _ Y5 => ?_;clear Y4
   refine Y5.t _ (ex_move rfl (Y5.f 24)) fun _ Y6 => ?_;clear Y5
   have hz:=Y6.z;have s0:=Y6.a 0 rfl;have s6:=Y6.a 6 rfl;have s7:=Y6.a 7 rfl;have s8:=Y6.a 8 rfl;clear Y6;refine wpList_nil ?_
   exact ⟨_,rfl,by omega,hz,s0,s6,s7,s8,by rw [rzA9_set (by omega) (by rw [← hx,← hy];exact of_decide_eq_true eb),← hx];exact OS.1,UW.trans OS.2⟩
 ·have d1 : decide ((i : Int) < (V.length : Int)) = false:=decide_eq_false (by omega)
  go_upto_region 1 with fail
  refine wp_region_lit ?_;have Y7:=((((Rp.nil hz).cons s0).cons s6).cons s7).cons s8;clear hz s0 s6 s7 s8
  refine Y7.t (.bool false) (ex_bin rfl (Y7.f 8) (Y7.f 7) (lssD8 _ _ _ _ false d1 _)) fun _ Y8 => ?_;clear Y7
  have hz:=Y8.z;have s9:=Y8.a 9 rfl;clear Y8;refine wpList_nil ?_
  go_upto_region 2 with fail
  have ei : i = V.length:=by omega
  subst ei;rw [rzA9_all hl] at OW;refine wp_cond_false ((ev s9 rfl).trans rfl) ?_
  go_wp2
  refine bodyPost_end (v:=.tuple #[]) (by first | rfl | kernel_rfl) rfl ?_
  exact ⟨rfl,OW,UW⟩
end Go.Proofs.YtjcedofmljkhfaaGreatDoor
namespace Go.Proofs.YtjcedofmljkhfaaGreatDoor
open Go.RowKit
open Classical
def enb (a b : En) : Bool:=decide (a.c = b.c) && (decide (a.n = b.n) && (decide (a.o.k = b.o.k) && (decide (a.o.s = b.o.s) && decide (a.o.v.data = b.o.v.data))))
theorem enb_iff (a b : En) : enb a b = true ↔ a = b:=by
 rcases a with ⟨c,n,⟨k,s,⟨v⟩⟩⟩
 rcases b with ⟨c',n',⟨k',s',⟨v'⟩⟩⟩
 simp only [enb,Bool.and_eq_true,decide_eq_true_eq,En.mk.injEq,Opn.mk.injEq,ByteArray.mk.injEq]
end Go.Proofs.YtjcedofmljkhfaaGreatDoor
namespace Go.Proofs.YtjcedofmljkhfaaGreatDoor
open Go.RowKit Go.Maps
open Classical
structure Cf where
 f : Int
 r : Int
 p : Int
 u : Bool
def Cf.val (c : Cf) : Value:=.agg #[.int .i64 c.f,.int .i64 c.r,.int .i64 c.p,.bool c.u]
def inR (x a b : Int) : Bool:=decide (a ≤ x) && decide (x ≤ b)
def cfB (c : Cf) : Bool:=inR c.f 1 3 && inR c.r 1 256 && inR c.p 6 100
def rdB (c : Int) : Bool:=decide (c = 4) || decide (c = 5) || decide (c = 6)
def apB (p c r : Int) : Bool:=if c = 7 then decide (p = 0) else inR p 1 r
def kdB (k : Int) : Bool:=inR k 1 14
def noV : ByteArray:=⟨#[]⟩
def resB (c s : Int) (v : ByteArray) : Bool:=if c = 1 ∨ c = 2 ∨ c = 4 then inR s 0 1023 && decide (v.size ≤ 64) else if c = 5 then inR s 0 1023 && decide (v = noV) else if c = 6 then inR s 0 1024 && decide (v = noV) else if c = 3 ∨ c = 7 then decide (s = 0) && decide (v = noV) else false
theorem withinM_any (x a b : Int) (w : World) : Calls Tryz.prog 56 #[.int .i64 x,.int .i64 a,.int .i64 b] w fun e w' => e = .returned (.bool (inR x a b))∧w' = w:=by
 by_cases h1 : a ≤ x
 ·by_cases h2 : x ≤ b
  ·go_enter Tryz.func56,Tryz.ntmps56
   go_wp2
   go_ret
   exact ⟨by simp [inR,h1,h2],rfl⟩
  ·go_enter Tryz.func56,Tryz.ntmps56
   go_wp2
   go_ret
   exact ⟨by simp [inR,h1,h2],rfl⟩
 ·go_enter Tryz.func56,Tryz.ntmps56
  go_wp2
  go_ret
  exact ⟨by simp [inR,h1];omega,rfl⟩
theorem isKind_any (k : Int) (w : World) : Calls Tryz.prog 33 #[.int .i64 k] w fun e w' => e = .returned (.bool (kdB k))∧w' = w:=by
 by_cases h1 : 1 ≤ k
 ·by_cases h2 : k ≤ 14
  ·go_enter Tryz.func33,Tryz.ntmps33
   go_wp2
   go_ret
   exact ⟨by simp [kdB,inR,h1,h2],rfl⟩
  ·go_enter Tryz.func33,Tryz.ntmps33
   go_wp2
   go_ret
   exact ⟨by simp [kdB,inR,h1,h2],rfl⟩
 ·go_enter Tryz.func33,Tryz.ntmps33
  go_wp2
  go_ret
  exact ⟨by simp [kdB,inR,h1];omega,rfl⟩
theorem isReading_any (c : Int) (w : World) : Calls Tryz.prog 62 #[.int .i64 c] w fun e w' => e = .returned (.bool (rdB c))∧w' = w:=by
 by_cases h1 : c = 4
 ·subst h1
  go_enter Tryz.func62,Tryz.ntmps62
  go_wp2
  go_ret
  exact ⟨rfl,rfl⟩
 ·by_cases h2 : c = 5
  ·subst h2
   go_enter Tryz.func62,Tryz.ntmps62
   go_wp2
   go_ret
   exact ⟨rfl,rfl⟩
  ·by_cases h3 : c = 6
   ·subst h3
    go_enter Tryz.func62,Tryz.ntmps62
    go_wp2
    go_ret
    exact ⟨rfl,rfl⟩
   ·go_enter Tryz.func62,Tryz.ntmps62
    go_wp2
    go_ret
    exact ⟨by simp [rdB,h1,h2,h3],rfl⟩
theorem answerPlace_any (p c r : Int) (w : World) : Calls Tryz.prog 58 #[.int .i64 p,.int .i64 c,.int .i64 r] w fun e w' => e = .returned (.bool (apB p c r))∧w' = w:=by
 by_cases h1 : c = 7
 ·subst h1
  by_cases h2 : p = 0
  ·subst h2
   go_enter Tryz.func58,Tryz.ntmps58
   go_wp2
   go_ret
   exact ⟨rfl,rfl⟩
  ·go_enter Tryz.func58,Tryz.ntmps58
   go_wp2
   go_ret
   exact ⟨by simp [apB,h2],rfl⟩
 ·have H:=hide (withinM_any p 1 r w)
  go_enter Tryz.func58,Tryz.ntmps58
  go_wp2_with fail
  refine H.out.mono ?_;rintro e w1 ⟨rfl,rfl⟩
  go_wp2
  go_ret
  exact ⟨by simp [apB,h1],rfl⟩
set_option maxHeartbeats 1000000 in
theorem configMayBe_any (c : Cf) (w : World) : Calls Tryz.prog 32 #[c.val] w fun e w' => e = .returned (.bool (cfB c))∧Below w.heap.size w w':=by
 obtain ⟨f,r,p,u⟩:=c;have H1:=hide (fun W => withinM_any f 1 3 W);have H2:=hide (fun W => withinM_any r 1 256 W);have H3:=hide (fun W => withinM_any p 6 100 W);have V : Hid (cfB ⟨f,r,p,u⟩ = (inR f 1 3 && inR r 1 256 && inR p 6 100)):=rfl
 unfold Cf.val
 dsimp only
 have hB : Below w.heap.size w (w.alloc (.cells #[.int .i64 f,.int .i64 r,.int .i64 p,.bool u] 23)):=(Below.refl _ _).alloc (Nat.le_refl _) _;have HB:=hide hB;clear hB
 generalize inR f 1 3 = x1 at *
 generalize inR r 1 256 = x2 at *
 generalize inR p 6 100 = x3 at *
 cases x1 with
 | false =>
  go_enter Tryz.func32,Tryz.ntmps32
  go_wp2_with fail
  refine (H1.out _).mono ?_;rintro e w1 ⟨rfl,rfl⟩
  go_wp2
  go_ret
  exact ⟨by rw [V.out];rfl,HB.out⟩
 | true =>
  cases x2 with
  | false =>
   go_enter Tryz.func32,Tryz.ntmps32
   go_wp2_with fail
   refine (H1.out _).mono ?_;rintro e w1 ⟨rfl,rfl⟩
   go_wp2_with fail
   refine (H2.out _).mono ?_;rintro e w1 ⟨rfl,rfl⟩
   go_wp2
   go_ret
   exact ⟨by rw [V.out];rfl,HB.out⟩
  | true =>
   go_enter Tryz.func32,Tryz.ntmps32
   go_wp2_with fail
   refine (H1.out _).mono ?_;rintro e w1 ⟨rfl,rfl⟩
   go_wp2_with fail
   refine (H2.out _).mono ?_;rintro e w1 ⟨rfl,rfl⟩
   go_wp2_with fail
   refine (H3.out _).mono ?_;rintro e w1 ⟨rfl,rfl⟩
   go_wp2
   go_ret
   exact ⟨by rw [V.out];simp,HB.out⟩
theorem logMayBe_any (L : List En) (a : Option Addr) (n c : Nat) (room : Int) (w : World) (h : SlY yE w a n c L) (hf : ∀ e ∈ L,e.fits) :
  Calls Tryz.prog 59 #[.slice a n c,.int .i64 room] w fun e w' => e = .returned (.bool (decide ((chk L room).1 = 0)))∧Below w.heap.size w w':=by
 have H:=hide (checkO_any L a n c room w h hf);clear h
 go_enter Tryz.func59,Tryz.ntmps59
 go_wp2_with fail
 refine H.out.mono ?_;rintro e w1 ⟨rfl,b1⟩
 by_cases hx : (chk L room).1 = 0
 ·have V:=hide (decide_eq_true hx)
  go_wp2
  go_ret
  exact ⟨by rw [V.out];rfl,b1⟩
 ·have V:=hide (decide_eq_false hx)
  have hq : ((chk L room).1 == 0) = false:=by simp [hx]
  go_wp2
  go_ret
  exact ⟨by rw [V.out];rfl,b1⟩
set_option maxHeartbeats 1000000 in
theorem resultMayBe_any (c s : Int) (v : ByteArray) (w : World) : Calls Tryz.prog 61 #[.agg #[.int .i64 c,.int .i64 s,.string v]] w fun e w' => e = .returned (.bool (resB c s v))∧Below w.heap.size w w':=by
 have hB : Below w.heap.size w (w.alloc (.cells #[.int .i64 c,.int .i64 s,.string v] 40)):=(Below.refl _ _).alloc (Nat.le_refl _) _;have HB:=hide hB;clear hB
 by_cases h1 : c = 1
 ·subst h1
  have V : Hid (resB 1 s v = (inR s 0 1023 && decide (v.size ≤ 64))):=by simp [Hid,resB]
  have H:=hide (fun W => withinM_any s 0 1023 W)
  generalize inR s 0 1023 = x at *
  cases x with
  | false =>
   go_enter Tryz.func61,Tryz.ntmps61
   go_wp2_with fail
   refine (H.out _).mono ?_;rintro e w1 ⟨rfl,rfl⟩
   go_wp2
   go_ret
   exact ⟨by rw [V.out];rfl,HB.out⟩
  | true =>
   by_cases hv : (v.size : Int) ≤ 64
   ·have hv' : decide (v.size ≤ 64) = true:=decide_eq_true (by omega)
    go_enter Tryz.func61,Tryz.ntmps61
    go_wp2_with fail
    refine (H.out _).mono ?_;rintro e w1 ⟨rfl,rfl⟩
    go_wp2
    go_ret
    exact ⟨by rw [V.out,hv'];first | rfl | (simp;omega),HB.out⟩
   ·have hv' : decide (v.size ≤ 64) = false:=decide_eq_false (by omega)
    go_enter Tryz.func61,Tryz.ntmps61
    go_wp2_with fail
    refine (H.out _).mono ?_;rintro e w1 ⟨rfl,rfl⟩
    go_wp2
    go_ret
    exact ⟨by rw [V.out,hv'];first | rfl | (simp;omega),HB.out⟩
 ·skip
  by_cases h2 : c = 2
  ·subst h2
   have V : Hid (resB 2 s v = (inR s 0 1023 && decide (v.size ≤ 64))):=by simp [Hid,resB]
   have H:=hide (fun W => withinM_any s 0 1023 W)
   generalize inR s 0 1023 = x at *
   cases x with
   | false =>
    go_enter Tryz.func61,Tryz.ntmps61
    go_wp2_with fail
    refine (H.out _).mono ?_;rintro e w1 ⟨rfl,rfl⟩
    go_wp2
    go_ret
    exact ⟨by rw [V.out];rfl,HB.out⟩
   | true =>
    by_cases hv : (v.size : Int) ≤ 64
    ·have hv' : decide (v.size ≤ 64) = true:=decide_eq_true (by omega)
     go_enter Tryz.func61,Tryz.ntmps61
     go_wp2_with fail
     refine (H.out _).mono ?_;rintro e w1 ⟨rfl,rfl⟩
     go_wp2
     go_ret
     exact ⟨by rw [V.out,hv'];first | rfl | (simp;omega),HB.out⟩
    ·have hv' : decide (v.size ≤ 64) = false:=decide_eq_false (by omega)
     go_enter Tryz.func61,Tryz.ntmps61
     go_wp2_with fail
     refine (H.out _).mono ?_;rintro e w1 ⟨rfl,rfl⟩
     go_wp2
     go_ret
     exact ⟨by rw [V.out,hv'];first | rfl | (simp;omega),HB.out⟩
  ·skip
   by_cases h4 : c = 4
   ·subst h4
    have V : Hid (resB 4 s v = (inR s 0 1023 && decide (v.size ≤ 64))):=by simp [Hid,resB]
    have H:=hide (fun W => withinM_any s 0 1023 W)
    generalize inR s 0 1023 = x at *
    cases x with
    | false =>
     go_enter Tryz.func61,Tryz.ntmps61
     go_wp2_with fail
     refine (H.out _).mono ?_;rintro e w1 ⟨rfl,rfl⟩
     go_wp2
     go_ret
     exact ⟨by rw [V.out];rfl,HB.out⟩
    | true =>
     by_cases hv : (v.size : Int) ≤ 64
     ·have hv' : decide (v.size ≤ 64) = true:=decide_eq_true (by omega)
      go_enter Tryz.func61,Tryz.ntmps61
      go_wp2_with fail
      refine (H.out _).mono ?_;rintro e w1 ⟨rfl,rfl⟩
      go_wp2
      go_ret
      exact ⟨by rw [V.out,hv'];first | rfl | (simp;omega),HB.out⟩
     ·have hv' : decide (v.size ≤ 64) = false:=decide_eq_false (by omega)
      go_enter Tryz.func61,Tryz.ntmps61
      go_wp2_with fail
      refine (H.out _).mono ?_;rintro e w1 ⟨rfl,rfl⟩
      go_wp2
      go_ret
      exact ⟨by rw [V.out,hv'];first | rfl | (simp;omega),HB.out⟩
   ·skip
    by_cases h5 : c = 5
    ·subst h5
     have V : Hid (resB 5 s v = (inR s 0 1023 && decide (v = noV))):=by simp [Hid,resB]
     have H:=hide (fun W => withinM_any s 0 1023 W)
     generalize inR s 0 1023 = x at *
     cases x with
     | false =>
      go_enter Tryz.func61,Tryz.ntmps61
      go_wp2_with fail
      refine (H.out _).mono ?_;rintro e w1 ⟨rfl,rfl⟩
      go_wp2
      go_ret
      exact ⟨by rw [V.out];rfl,HB.out⟩
     | true =>
      by_cases hv : v = noV
      ·have hv' : decide (v = noV) = true:=decide_eq_true hv
       have V2 : Hid (resB 5 s v = true):=V.out.trans (by rw [hv'];rfl);clear V hv'
       unfold noV at hv
       subst hv
       go_enter Tryz.func61,Tryz.ntmps61
       go_wp2_with fail
       refine (H.out _).mono ?_;rintro e w1 ⟨rfl,rfl⟩
       go_wp2
       go_ret
       exact ⟨by rw [V2.out];rfl,HB.out⟩
      ·have hv' : decide (v = noV) = false:=decide_eq_false hv
       have g2 : ¬ v.toList = (⟨#[]⟩ : ByteArray).toList:=fun e => hv ((bytes_inj _ _).1 e)
       have g3 : v.toList.isEmpty = false:=by
        rw [Bool.eq_false_iff];intro h
        exact g2 (by rw [List.isEmpty_iff.1 h,ByteArray.toList_eq])
       go_enter Tryz.func61,Tryz.ntmps61
       go_wp2_with fail
       refine (H.out _).mono ?_;rintro e w1 ⟨rfl,rfl⟩
       go_wp2
       go_ret
       exact ⟨by rw [V.out,hv'];first | rfl | (simp;omega),HB.out⟩
    ·skip
     by_cases h6 : c = 6
     ·subst h6
      have V : Hid (resB 6 s v = (inR s 0 1024 && decide (v = noV))):=by simp [Hid,resB]
      have H:=hide (fun W => withinM_any s 0 1024 W)
      generalize inR s 0 1024 = x at *
      cases x with
      | false =>
       go_enter Tryz.func61,Tryz.ntmps61
       go_wp2_with fail
       refine (H.out _).mono ?_;rintro e w1 ⟨rfl,rfl⟩
       go_wp2
       go_ret
       exact ⟨by rw [V.out];rfl,HB.out⟩
      | true =>
       by_cases hv : v = noV
       ·have hv' : decide (v = noV) = true:=decide_eq_true hv
        have V2 : Hid (resB 6 s v = true):=V.out.trans (by rw [hv'];rfl);clear V hv'
        unfold noV at hv
        subst hv
        go_enter Tryz.func61,Tryz.ntmps61
        go_wp2_with fail
        refine (H.out _).mono ?_;rintro e w1 ⟨rfl,rfl⟩
        go_wp2
        go_ret
        exact ⟨by rw [V2.out];rfl,HB.out⟩
       ·have hv' : decide (v = noV) = false:=decide_eq_false hv
        have g2 : ¬ v.toList = (⟨#[]⟩ : ByteArray).toList:=fun e => hv ((bytes_inj _ _).1 e)
        have g3 : v.toList.isEmpty = false:=by
         rw [Bool.eq_false_iff];intro h
         exact g2 (by rw [List.isEmpty_iff.1 h,ByteArray.toList_eq])
        go_enter Tryz.func61,Tryz.ntmps61
        go_wp2_with fail
        refine (H.out _).mono ?_;rintro e w1 ⟨rfl,rfl⟩
        go_wp2
        go_ret
        exact ⟨by rw [V.out,hv'];first | rfl | (simp;omega),HB.out⟩
     ·skip
      by_cases h3 : c = 3
      ·subst h3
       have V : Hid (resB 3 s v = (decide (s = 0) && decide (v = noV))):=by simp [Hid,resB]
       by_cases hs : s = 0
       ·by_cases hv : v = noV
        ·have V2 : Hid (resB 3 s v = true):=V.out.trans (by simp [hs,hv])
         clear V
         unfold noV at hv
         subst hv hs
         go_enter Tryz.func61,Tryz.ntmps61
         go_wp2
         go_ret
         exact ⟨by rw [V2.out];rfl,HB.out⟩
        ·have g2 : ¬ v.toList = (⟨#[]⟩ : ByteArray).toList:=fun e => hv ((bytes_inj _ _).1 e)
         have g3 : v.toList.isEmpty = false:=by
          rw [Bool.eq_false_iff];intro h
          exact g2 (by rw [List.isEmpty_iff.1 h,ByteArray.toList_eq])
         have V2 : Hid (resB 3 s v = false):=V.out.trans (by simp [hv]);clear V;subst hs
         go_enter Tryz.func61,Tryz.ntmps61
         go_wp2
         go_ret
         exact ⟨by rw [V2.out];rfl,HB.out⟩
       ·have V2 : Hid (resB 3 s v = false):=V.out.trans (by simp [hs])
        clear V
        go_enter Tryz.func61,Tryz.ntmps61
        go_wp2
        go_ret
        exact ⟨by rw [V2.out];rfl,HB.out⟩
      ·skip
       by_cases h7 : c = 7
       ·subst h7
        have V : Hid (resB 7 s v = (decide (s = 0) && decide (v = noV))):=by simp [Hid,resB]
        by_cases hs : s = 0
        ·by_cases hv : v = noV
         ·have V2 : Hid (resB 7 s v = true):=V.out.trans (by simp [hs,hv])
          clear V
          unfold noV at hv
          subst hv hs
          go_enter Tryz.func61,Tryz.ntmps61
          go_wp2
          go_ret
          exact ⟨by rw [V2.out];rfl,HB.out⟩
         ·have g2 : ¬ v.toList = (⟨#[]⟩ : ByteArray).toList:=fun e => hv ((bytes_inj _ _).1 e)
          have g3 : v.toList.isEmpty = false:=by
           rw [Bool.eq_false_iff];intro h
           exact g2 (by rw [List.isEmpty_iff.1 h,ByteArray.toList_eq])
          have V2 : Hid (resB 7 s v = false):=V.out.trans (by simp [hv]);clear V;subst hs
          go_enter Tryz.func61,Tryz.ntmps61
          go_wp2
          go_ret
          exact ⟨by rw [V2.out];rfl,HB.out⟩
        ·have V2 : Hid (resB 7 s v = false):=V.out.trans (by simp [hs])
         clear V
         go_enter Tryz.func61,Tryz.ntmps61
         go_wp2
         go_ret
         exact ⟨by rw [V2.out];rfl,HB.out⟩
       ·skip
        have V : Hid (resB c s v = false):=by simp [Hid,resB,h1,h2,h3,h4,h5,h6,h7]
        have n1 : (c == 1) = false:=by simp [h1]
        have n2 : (c == 2) = false:=by simp [h2]
        have n3 : (c == 3) = false:=by simp [h3]
        have n4 : (c == 4) = false:=by simp [h4]
        have n5 : (c == 5) = false:=by simp [h5]
        have n6 : (c == 6) = false:=by simp [h6]
        have n7 : (c == 7) = false:=by simp [h7]
        go_enter Tryz.func61,Tryz.ntmps61
        go_wp2
        go_ret
        exact ⟨by rw [V.out];rfl,HB.out⟩
def zEn : En:=⟨0,0,⟨0,0,⟨#[]⟩⟩⟩
def blB (m : Mg) (nl nv : Nat) (at_ : Nat) : Bool :=
 if at_ = 0 then decide (m.nd = 0) else if at_ = 1 then decide (m.vw = 0) else if at_ = 2 then decide (m.ls = 0) else if at_ = 3 then decide (m.p = 0) else if at_ = 4 then decide (m.cm = 0) else if at_ = 5 then decide (m.d = (0,0)) else if at_ = 6 then enb m.e zEn else if at_ = 7 then decide (m.r = (0,0,⟨#[]⟩)) else if at_ = 8 then decide (nl = 0) else decide (nv = 0)
set_option maxHeartbeats 1000000 in
theorem isBlank_0 (m : Mg) (a1 a2 : Option Addr) (nl cl nv cv : Nat) (w : World) : Calls Tryz.prog 57 #[m.val (.slice a1 nl cl) (.slice a2 nv cv),.int .i64 0] w fun e w' => e = .returned (.bool (blB m nl nv 0))∧Below w.heap.size w w':=by
 by_cases h : m.nd = 0
 ·have V : Hid (blB m nl nv 0 = true):=by simp [Hid,blB,h]
  go_enter Tryz.func57,Tryz.ntmps57
  go_upto_region 1 with (refine boxMk rfl (.tmp 0) rfl m _ _ rfl ?_;intro q1 w1 hq1 M1 b1 z1;subst hq1)
  have HB:=hide b1;have x1:=M1.cell 1 _ rfl;rw [h] at x1;clear M1 b1 z1
  go_wp2
  go_ret
  exact ⟨by rw [V.out];rfl,HB.out⟩
 ·have V : Hid (blB m nl nv 0 = false):=by simp [Hid,blB,h]
  have hq : (m.nd == 0) = false:=by simp [h]
  go_enter Tryz.func57,Tryz.ntmps57
  go_upto_region 1 with (refine boxMk rfl (.tmp 0) rfl m _ _ rfl ?_;intro q1 w1 hq1 M1 b1 z1;subst hq1)
  have HB:=hide b1;have x1:=M1.cell 1 _ rfl;clear M1 b1 z1
  go_wp2
  go_ret
  exact ⟨by rw [V.out];rfl,HB.out⟩
set_option maxHeartbeats 1000000 in
theorem isBlank_1 (m : Mg) (a1 a2 : Option Addr) (nl cl nv cv : Nat) (w : World) : Calls Tryz.prog 57 #[m.val (.slice a1 nl cl) (.slice a2 nv cv),.int .i64 1] w fun e w' => e = .returned (.bool (blB m nl nv 1))∧Below w.heap.size w w':=by
 by_cases h : m.vw = 0
 ·have V : Hid (blB m nl nv 1 = true):=by simp [Hid,blB,h]
  go_enter Tryz.func57,Tryz.ntmps57
  go_upto_region 1 with (refine boxMk rfl (.tmp 0) rfl m _ _ rfl ?_;intro q1 w1 hq1 M1 b1 z1;subst hq1)
  have HB:=hide b1;have x2:=M1.cell 2 _ rfl;rw [h] at x2;clear M1 b1 z1
  go_wp2
  go_ret
  exact ⟨by rw [V.out];rfl,HB.out⟩
 ·have V : Hid (blB m nl nv 1 = false):=by simp [Hid,blB,h]
  have hq : (m.vw == 0) = false:=by simp [h]
  go_enter Tryz.func57,Tryz.ntmps57
  go_upto_region 1 with (refine boxMk rfl (.tmp 0) rfl m _ _ rfl ?_;intro q1 w1 hq1 M1 b1 z1;subst hq1)
  have HB:=hide b1;have x2:=M1.cell 2 _ rfl;clear M1 b1 z1
  go_wp2
  go_ret
  exact ⟨by rw [V.out];rfl,HB.out⟩
set_option maxHeartbeats 1000000 in
theorem isBlank_2 (m : Mg) (a1 a2 : Option Addr) (nl cl nv cv : Nat) (w : World) : Calls Tryz.prog 57 #[m.val (.slice a1 nl cl) (.slice a2 nv cv),.int .i64 2] w fun e w' => e = .returned (.bool (blB m nl nv 2))∧Below w.heap.size w w':=by
 by_cases h : m.ls = 0
 ·have V : Hid (blB m nl nv 2 = true):=by simp [Hid,blB,h]
  go_enter Tryz.func57,Tryz.ntmps57
  go_upto_region 1 with (refine boxMk rfl (.tmp 0) rfl m _ _ rfl ?_;intro q1 w1 hq1 M1 b1 z1;subst hq1)
  have HB:=hide b1;have x13:=M1.cell 13 _ rfl;rw [h] at x13;clear M1 b1 z1
  go_wp2
  go_ret
  exact ⟨by rw [V.out];rfl,HB.out⟩
 ·have V : Hid (blB m nl nv 2 = false):=by simp [Hid,blB,h]
  have hq : (m.ls == 0) = false:=by simp [h]
  go_enter Tryz.func57,Tryz.ntmps57
  go_upto_region 1 with (refine boxMk rfl (.tmp 0) rfl m _ _ rfl ?_;intro q1 w1 hq1 M1 b1 z1;subst hq1)
  have HB:=hide b1;have x13:=M1.cell 13 _ rfl;clear M1 b1 z1
  go_wp2
  go_ret
  exact ⟨by rw [V.out];rfl,HB.out⟩
set_option maxHeartbeats 1000000 in
theorem isBlank_3 (m : Mg) (a1 a2 : Option Addr) (nl cl nv cv : Nat) (w : World) : Calls Tryz.prog 57 #[m.val (.slice a1 nl cl) (.slice a2 nv cv),.int .i64 3] w fun e w' => e = .returned (.bool (blB m nl nv 3))∧Below w.heap.size w w':=by
 by_cases h : m.p = 0
 ·have V : Hid (blB m nl nv 3 = true):=by simp [Hid,blB,h]
  go_enter Tryz.func57,Tryz.ntmps57
  go_upto_region 1 with (refine boxMk rfl (.tmp 0) rfl m _ _ rfl ?_;intro q1 w1 hq1 M1 b1 z1;subst hq1)
  have HB:=hide b1;have x11:=M1.cell 11 _ rfl;rw [h] at x11;clear M1 b1 z1
  go_wp2
  go_ret
  exact ⟨by rw [V.out];rfl,HB.out⟩
 ·have V : Hid (blB m nl nv 3 = false):=by simp [Hid,blB,h]
  have hq : (m.p == 0) = false:=by simp [h]
  go_enter Tryz.func57,Tryz.ntmps57
  go_upto_region 1 with (refine boxMk rfl (.tmp 0) rfl m _ _ rfl ?_;intro q1 w1 hq1 M1 b1 z1;subst hq1)
  have HB:=hide b1;have x11:=M1.cell 11 _ rfl;clear M1 b1 z1
  go_wp2
  go_ret
  exact ⟨by rw [V.out];rfl,HB.out⟩
set_option maxHeartbeats 1000000 in
theorem isBlank_4 (m : Mg) (a1 a2 : Option Addr) (nl cl nv cv : Nat) (w : World) : Calls Tryz.prog 57 #[m.val (.slice a1 nl cl) (.slice a2 nv cv),.int .i64 4] w fun e w' => e = .returned (.bool (blB m nl nv 4))∧Below w.heap.size w w':=by
 by_cases h : m.cm = 0
 ·have V : Hid (blB m nl nv 4 = true):=by simp [Hid,blB,h]
  go_enter Tryz.func57,Tryz.ntmps57
  go_upto_region 1 with (refine boxMk rfl (.tmp 0) rfl m _ _ rfl ?_;intro q1 w1 hq1 M1 b1 z1;subst hq1)
  have HB:=hide b1;have x12:=M1.cell 12 _ rfl;rw [h] at x12;clear M1 b1 z1
  go_wp2
  go_ret
  exact ⟨by rw [V.out];rfl,HB.out⟩
 ·have V : Hid (blB m nl nv 4 = false):=by simp [Hid,blB,h]
  have hq : (m.cm == 0) = false:=by simp [h]
  go_enter Tryz.func57,Tryz.ntmps57
  go_upto_region 1 with (refine boxMk rfl (.tmp 0) rfl m _ _ rfl ?_;intro q1 w1 hq1 M1 b1 z1;subst hq1)
  have HB:=hide b1;have x12:=M1.cell 12 _ rfl;clear M1 b1 z1
  go_wp2
  go_ret
  exact ⟨by rw [V.out];rfl,HB.out⟩
set_option maxHeartbeats 1000000 in
theorem isBlank_8 (m : Mg) (a1 a2 : Option Addr) (nl cl nv cv : Nat) (w : World) : Calls Tryz.prog 57 #[m.val (.slice a1 nl cl) (.slice a2 nv cv),.int .i64 8] w fun e w' => e = .returned (.bool (blB m nl nv 8))∧Below w.heap.size w w':=by
 by_cases h : nl = 0
 ·have V : Hid (blB m nl nv 8 = true):=by simp [Hid,blB,h]
  subst h
  go_enter Tryz.func57,Tryz.ntmps57
  go_upto_region 1 with (refine boxMk rfl (.tmp 0) rfl m _ _ rfl ?_;intro q1 w1 hq1 M1 b1 z1;subst hq1)
  have HB:=hide b1;have x16:=M1.cell 16 _ rfl;clear M1 b1 z1
  go_wp2
  go_ret
  exact ⟨by rw [V.out];rfl,HB.out⟩
 ·have V : Hid (blB m nl nv 8 = false):=by simp [Hid,blB,h]
  have h' : ¬ (nl : Int) = 0:=by omega
  have hq : ((nl : Int) == 0) = false:=by simp [h]
  go_enter Tryz.func57,Tryz.ntmps57
  go_upto_region 1 with (refine boxMk rfl (.tmp 0) rfl m _ _ rfl ?_;intro q1 w1 hq1 M1 b1 z1;subst hq1)
  have HB:=hide b1;have x16:=M1.cell 16 _ rfl;clear M1 b1 z1
  go_wp2
  go_ret
  exact ⟨by rw [V.out];rfl,HB.out⟩
set_option maxHeartbeats 1000000 in
theorem isBlank_9 (m : Mg) (a1 a2 : Option Addr) (nl cl nv cv : Nat) (w : World) : Calls Tryz.prog 57 #[m.val (.slice a1 nl cl) (.slice a2 nv cv),.int .i64 9] w fun e w' => e = .returned (.bool (blB m nl nv 9))∧Below w.heap.size w w':=by
 by_cases h : nv = 0
 ·have V : Hid (blB m nl nv 9 = true):=by simp [Hid,blB,h]
  subst h
  go_enter Tryz.func57,Tryz.ntmps57
  go_upto_region 1 with (refine boxMk rfl (.tmp 0) rfl m _ _ rfl ?_;intro q1 w1 hq1 M1 b1 z1;subst hq1)
  have HB:=hide b1;have x17:=M1.cell 17 _ rfl;clear M1 b1 z1
  go_wp2
  go_ret
  exact ⟨by rw [V.out];rfl,HB.out⟩
 ·have V : Hid (blB m nl nv 9 = false):=by simp [Hid,blB,h]
  have h' : ¬ (nv : Int) = 0:=by omega
  have hq : ((nv : Int) == 0) = false:=by simp [h]
  go_enter Tryz.func57,Tryz.ntmps57
  go_upto_region 1 with (refine boxMk rfl (.tmp 0) rfl m _ _ rfl ?_;intro q1 w1 hq1 M1 b1 z1;subst hq1)
  have HB:=hide b1;have x17:=M1.cell 17 _ rfl;clear M1 b1 z1
  go_wp2
  go_ret
  exact ⟨by rw [V.out];rfl,HB.out⟩
theorem TRUE5 (m : Mg) (nl nv : Nat) (h1 : m.d.1 = 0) (h2 : m.d.2 = 0) : Hid (blB m nl nv 5 = true):=by
 obtain ⟨k,nd,vw,e,r,p,cm,ls,d1,d2⟩:=m
 dsimp only at h1 h2
 subst h1 h2
 rfl
theorem FALSE5 (m : Mg) (nl nv : Nat) (h : m.d ≠ (0,0)) : Hid (blB m nl nv 5 = false):=by
 show _ = _
 simp [blB,h]
theorem TRUE6 (m : Mg) (nl nv : Nat) (h1 : m.e.c = 0) (h2 : m.e.n = 0) (h3 : m.e.o.k = 0) (h4 : m.e.o.s = 0) (h5 : m.e.o.v = ⟨#[]⟩) : Hid (blB m nl nv 6 = true):=by
 obtain ⟨k,nd,vw,⟨c,n,⟨ok,os,ov⟩⟩,r,p,cm,ls,d1,d2⟩:=m
 dsimp only at h1 h2 h3 h4 h5
 subst h1 h2 h3 h4 h5
 show _ = _
 simp [blB,(enb_iff _ _).2,zEn]
theorem FALSE6 (m : Mg) (nl nv : Nat) (h : m.e ≠ zEn) : Hid (blB m nl nv 6 = false):=by
 have e : enb m.e zEn = false:=Bool.eq_false_iff.2 (fun e => h ((enb_iff _ _).1 e))
 show _ = _
 simp [blB,e]
theorem TRUE7 (m : Mg) (nl nv : Nat) (h1 : m.r.1 = 0) (h2 : m.r.2.1 = 0) (h3 : m.r.2.2 = ⟨#[]⟩) : Hid (blB m nl nv 7 = true):=by
 obtain ⟨k,nd,vw,e,⟨r1,r2,r3⟩,p,cm,ls,d1,d2⟩:=m
 dsimp only at h1 h2 h3
 subst h1 h2 h3
 show _ = _
 simp [blB,zEn]
theorem FALSE7 (m : Mg) (nl nv : Nat) (h : m.r ≠ (0,0,⟨#[]⟩)) : Hid (blB m nl nv 7 = false):=by
 show _ = _
 simp [blB,h]
set_option maxHeartbeats 1000000 in
theorem isBlank_5 (m : Mg) (a1 a2 : Option Addr) (nl cl nv cv : Nat) (w : World) : Calls Tryz.prog 57 #[m.val (.slice a1 nl cl) (.slice a2 nv cv),.int .i64 5] w fun e w' => e = .returned (.bool (blB m nl nv 5))∧Below w.heap.size w w':=by
 by_cases g14 : m.d.1 = 0
 ·by_cases g15 : m.d.2 = 0
  ·have V : Hid (blB m nl nv 5 = true):=TRUE5 m nl nv g14 g15
   go_enter Tryz.func57,Tryz.ntmps57
   go_upto_region 1 with (refine boxMk rfl (.tmp 0) rfl m _ _ rfl ?_;intro q1 w1 hq1 M1 b1 z1;subst hq1)
   have HB:=hide b1;have x14:=M1.cell 14 _ rfl;rw [g14] at x14;have x15:=M1.cell 15 _ rfl;rw [g15] at x15;clear M1 b1 z1
   go_wp2
   go_ret
   exact ⟨by rw [V.out];rfl,HB.out⟩
  ·have V : Hid (blB m nl nv 5 = false):=FALSE5 m nl nv (by intro h;exact g15 (by rw [h] <;> rfl))
   have hq : (m.d.2 == 0) = false:=by simp [g15]
   go_enter Tryz.func57,Tryz.ntmps57
   go_upto_region 1 with (refine boxMk rfl (.tmp 0) rfl m _ _ rfl ?_;intro q1 w1 hq1 M1 b1 z1;subst hq1)
   have HB:=hide b1;have x14:=M1.cell 14 _ rfl;rw [g14] at x14;have x15:=M1.cell 15 _ rfl;clear M1 b1 z1
   go_wp2
   go_ret
   exact ⟨by rw [V.out];rfl,HB.out⟩
 ·have V : Hid (blB m nl nv 5 = false):=FALSE5 m nl nv (by intro h;exact g14 (by rw [h] <;> rfl))
  have hq : (m.d.1 == 0) = false:=by simp [g14]
  go_enter Tryz.func57,Tryz.ntmps57
  go_upto_region 1 with (refine boxMk rfl (.tmp 0) rfl m _ _ rfl ?_;intro q1 w1 hq1 M1 b1 z1;subst hq1)
  have HB:=hide b1;have x14:=M1.cell 14 _ rfl;have x15:=M1.cell 15 _ rfl;clear M1 b1 z1
  go_wp2
  go_ret
  exact ⟨by rw [V.out];rfl,HB.out⟩
set_option maxHeartbeats 1000000 in
theorem isBlank_6 (m : Mg) (a1 a2 : Option Addr) (nl cl nv cv : Nat) (w : World) : Calls Tryz.prog 57 #[m.val (.slice a1 nl cl) (.slice a2 nv cv),.int .i64 6] w fun e w' => e = .returned (.bool (blB m nl nv 6))∧Below w.heap.size w w':=by
 by_cases g3 : m.e.c = 0
 ·by_cases g4 : m.e.n = 0
  ·by_cases g5 : m.e.o.k = 0
   ·by_cases g6 : m.e.o.s = 0
    ·by_cases g7 : m.e.o.v = ⟨#[]⟩
     ·have V : Hid (blB m nl nv 6 = true):=TRUE6 m nl nv g3 g4 g5 g6 g7
      go_enter Tryz.func57,Tryz.ntmps57
      go_upto_region 1 with (refine boxMk rfl (.tmp 0) rfl m _ _ rfl ?_;intro q1 w1 hq1 M1 b1 z1;subst hq1)
      have HB:=hide b1;have x3:=M1.cell 3 _ rfl;rw [g3] at x3;have x4:=M1.cell 4 _ rfl;rw [g4] at x4;have x5:=M1.cell 5 _ rfl;rw [g5] at x5;have x6:=M1.cell 6 _ rfl;rw [g6] at x6;have x7:=M1.cell 7 _ rfl;rw [g7] at x7;clear M1 b1 z1
      go_wp2
      go_ret
      exact ⟨by rw [V.out];rfl,HB.out⟩
     ·have V : Hid (blB m nl nv 6 = false):=FALSE6 m nl nv (by intro h;exact g7 (by rw [h] <;> rfl))
      have s7 : ¬ (m.e.o.v).toList = (⟨#[]⟩ : ByteArray).toList:=fun e => g7 ((bytes_inj _ _).1 e)
      have t7 : (m.e.o.v).toList.isEmpty = false:=by
       rw [Bool.eq_false_iff];intro h
       exact s7 (by rw [List.isEmpty_iff.1 h,ByteArray.toList_eq])
      go_enter Tryz.func57,Tryz.ntmps57
      go_upto_region 1 with (refine boxMk rfl (.tmp 0) rfl m _ _ rfl ?_;intro q1 w1 hq1 M1 b1 z1;subst hq1)
      have HB:=hide b1;have x3:=M1.cell 3 _ rfl;rw [g3] at x3;have x4:=M1.cell 4 _ rfl;rw [g4] at x4;have x5:=M1.cell 5 _ rfl;rw [g5] at x5;have x6:=M1.cell 6 _ rfl;rw [g6] at x6;have x7:=M1.cell 7 _ rfl;clear M1 b1 z1
      go_wp2
      go_ret
      exact ⟨by rw [V.out];rfl,HB.out⟩
    ·have V : Hid (blB m nl nv 6 = false):=FALSE6 m nl nv (by intro h;exact g6 (by rw [h] <;> rfl))
     have hq : (m.e.o.s == 0) = false:=by simp [g6]
     go_enter Tryz.func57,Tryz.ntmps57
     go_upto_region 1 with (refine boxMk rfl (.tmp 0) rfl m _ _ rfl ?_;intro q1 w1 hq1 M1 b1 z1;subst hq1)
     have HB:=hide b1;have x3:=M1.cell 3 _ rfl;rw [g3] at x3;have x4:=M1.cell 4 _ rfl;rw [g4] at x4;have x5:=M1.cell 5 _ rfl;rw [g5] at x5;have x6:=M1.cell 6 _ rfl;have x7:=M1.cell 7 _ rfl;clear M1 b1 z1
     go_wp2
     go_ret
     exact ⟨by rw [V.out];rfl,HB.out⟩
   ·have V : Hid (blB m nl nv 6 = false):=FALSE6 m nl nv (by intro h;exact g5 (by rw [h] <;> rfl))
    have hq : (m.e.o.k == 0) = false:=by simp [g5]
    go_enter Tryz.func57,Tryz.ntmps57
    go_upto_region 1 with (refine boxMk rfl (.tmp 0) rfl m _ _ rfl ?_;intro q1 w1 hq1 M1 b1 z1;subst hq1)
    have HB:=hide b1;have x3:=M1.cell 3 _ rfl;rw [g3] at x3;have x4:=M1.cell 4 _ rfl;rw [g4] at x4;have x5:=M1.cell 5 _ rfl;have x6:=M1.cell 6 _ rfl;have x7:=M1.cell 7 _ rfl;clear M1 b1 z1
    go_wp2
    go_ret
    exact ⟨by rw [V.out];rfl,HB.out⟩
  ·have V : Hid (blB m nl nv 6 = false):=FALSE6 m nl nv (by intro h;exact g4 (by rw [h] <;> rfl))
   have hq : (m.e.n == 0) = false:=by simp [g4]
   go_enter Tryz.func57,Tryz.ntmps57
   go_upto_region 1 with (refine boxMk rfl (.tmp 0) rfl m _ _ rfl ?_;intro q1 w1 hq1 M1 b1 z1;subst hq1)
   have HB:=hide b1;have x3:=M1.cell 3 _ rfl;rw [g3] at x3;have x4:=M1.cell 4 _ rfl;have x5:=M1.cell 5 _ rfl;have x6:=M1.cell 6 _ rfl;have x7:=M1.cell 7 _ rfl;clear M1 b1 z1
   go_wp2
   go_ret
   exact ⟨by rw [V.out];rfl,HB.out⟩
 ·have V : Hid (blB m nl nv 6 = false):=FALSE6 m nl nv (by intro h;exact g3 (by rw [h] <;> rfl))
  have hq : (m.e.c == 0) = false:=by simp [g3]
  go_enter Tryz.func57,Tryz.ntmps57
  go_upto_region 1 with (refine boxMk rfl (.tmp 0) rfl m _ _ rfl ?_;intro q1 w1 hq1 M1 b1 z1;subst hq1)
  have HB:=hide b1;have x3:=M1.cell 3 _ rfl;have x4:=M1.cell 4 _ rfl;have x5:=M1.cell 5 _ rfl;have x6:=M1.cell 6 _ rfl;have x7:=M1.cell 7 _ rfl;clear M1 b1 z1
  go_wp2
  go_ret
  exact ⟨by rw [V.out];rfl,HB.out⟩
set_option maxHeartbeats 1000000 in
theorem isBlank_7 (m : Mg) (a1 a2 : Option Addr) (nl cl nv cv : Nat) (w : World) : Calls Tryz.prog 57 #[m.val (.slice a1 nl cl) (.slice a2 nv cv),.int .i64 7] w fun e w' => e = .returned (.bool (blB m nl nv 7))∧Below w.heap.size w w':=by
 by_cases g8 : m.r.1 = 0
 ·by_cases g9 : m.r.2.1 = 0
  ·by_cases g10 : m.r.2.2 = ⟨#[]⟩
   ·have V : Hid (blB m nl nv 7 = true):=TRUE7 m nl nv g8 g9 g10
    go_enter Tryz.func57,Tryz.ntmps57
    go_upto_region 1 with (refine boxMk rfl (.tmp 0) rfl m _ _ rfl ?_;intro q1 w1 hq1 M1 b1 z1;subst hq1)
    have HB:=hide b1;have x8:=M1.cell 8 _ rfl;rw [g8] at x8;have x9:=M1.cell 9 _ rfl;rw [g9] at x9;have x10:=M1.cell 10 _ rfl;rw [g10] at x10;clear M1 b1 z1
    go_wp2
    go_ret
    exact ⟨by rw [V.out];rfl,HB.out⟩
   ·have V : Hid (blB m nl nv 7 = false):=FALSE7 m nl nv (by intro h;exact g10 (by rw [h] <;> rfl))
    have s10 : ¬ (m.r.2.2).toList = (⟨#[]⟩ : ByteArray).toList:=fun e => g10 ((bytes_inj _ _).1 e)
    have t10 : (m.r.2.2).toList.isEmpty = false:=by
     rw [Bool.eq_false_iff];intro h
     exact s10 (by rw [List.isEmpty_iff.1 h,ByteArray.toList_eq])
    go_enter Tryz.func57,Tryz.ntmps57
    go_upto_region 1 with (refine boxMk rfl (.tmp 0) rfl m _ _ rfl ?_;intro q1 w1 hq1 M1 b1 z1;subst hq1)
    have HB:=hide b1;have x8:=M1.cell 8 _ rfl;rw [g8] at x8;have x9:=M1.cell 9 _ rfl;rw [g9] at x9;have x10:=M1.cell 10 _ rfl;clear M1 b1 z1
    go_wp2
    go_ret
    exact ⟨by rw [V.out];rfl,HB.out⟩
  ·have V : Hid (blB m nl nv 7 = false):=FALSE7 m nl nv (by intro h;exact g9 (by rw [h] <;> rfl))
   have hq : (m.r.2.1 == 0) = false:=by simp [g9]
   go_enter Tryz.func57,Tryz.ntmps57
   go_upto_region 1 with (refine boxMk rfl (.tmp 0) rfl m _ _ rfl ?_;intro q1 w1 hq1 M1 b1 z1;subst hq1)
   have HB:=hide b1;have x8:=M1.cell 8 _ rfl;rw [g8] at x8;have x9:=M1.cell 9 _ rfl;have x10:=M1.cell 10 _ rfl;clear M1 b1 z1
   go_wp2
   go_ret
   exact ⟨by rw [V.out];rfl,HB.out⟩
 ·have V : Hid (blB m nl nv 7 = false):=FALSE7 m nl nv (by intro h;exact g8 (by rw [h] <;> rfl))
  have hq : (m.r.1 == 0) = false:=by simp [g8]
  go_enter Tryz.func57,Tryz.ntmps57
  go_upto_region 1 with (refine boxMk rfl (.tmp 0) rfl m _ _ rfl ?_;intro q1 w1 hq1 M1 b1 z1;subst hq1)
  have HB:=hide b1;have x8:=M1.cell 8 _ rfl;have x9:=M1.cell 9 _ rfl;have x10:=M1.cell 10 _ rfl;clear M1 b1 z1
  go_wp2
  go_ret
  exact ⟨by rw [V.out];rfl,HB.out⟩
theorem isBlank_all (m : Mg) (a1 a2 : Option Addr) (nl cl nv cv : Nat) (j : Nat) (hj : j < 10) (w : World) : Calls Tryz.prog 57 #[m.val (.slice a1 nl cl) (.slice a2 nv cv),.int .i64 (j : Int)] w fun e w' => e = .returned (.bool (blB m nl nv j))∧Below w.heap.size w w':=by
 match j,hj with
 | 0,_ => exact isBlank_0 m a1 a2 nl cl nv cv w
 | 1,_ => exact isBlank_1 m a1 a2 nl cl nv cv w
 | 2,_ => exact isBlank_2 m a1 a2 nl cl nv cv w
 | 3,_ => exact isBlank_3 m a1 a2 nl cl nv cv w
 | 4,_ => exact isBlank_4 m a1 a2 nl cl nv cv w
 | 5,_ => exact isBlank_5 m a1 a2 nl cl nv cv w
 | 6,_ => exact isBlank_6 m a1 a2 nl cl nv cv w
 | 7,_ => exact isBlank_7 m a1 a2 nl cl nv cv w
 | 8,_ => exact isBlank_8 m a1 a2 nl cl nv cv w
 | 9,_ => exact isBlank_9 m a1 a2 nl cl nv cv w
set_option maxHeartbeats 1000000 in
theorem keeps_0 (f r p : Int) (u : Bool) (m : Mg) (a1 a2 : Option Addr) (nl cl nv cv : Nat) (j : Nat) (w : World) (hf1 : 1 ≤ f) (hf2 : f ≤ 3) (hj : j < 10) : Calls Tryz.prog 34 #[.agg #[.int .i64 f,.int .i64 r,.int .i64 p,.bool u],m.val (.slice a1 nl cl) (.slice a2 nv cv),.int .i64 (j : Int),.int .u8 0] w fun e w' => e = .returned (.bool (blB m nl nv j))∧Below w.heap.size w w':=by
 go_enter Tryz.func34,Tryz.ntmps34
 go_upto_region 1 with (refine boxMk rfl (.tmp 1) rfl m _ _ rfl ?_;intro q1 w1 hq1 M1 b1 z1)
 have hB : Below w.heap.size w w1:=((Below.refl _ _).alloc (Nat.le_refl _) _).trans (b1.mono (by simp));have HB:=hide hB;have c0 : w1.cell? ⟨w.heap.size,0,none⟩ = some (.int .i64 f):=(b1.cell (p:=⟨w.heap.size,0,none⟩) (by simp)).trans (by simp);have c1 : w1.cell? ⟨w.heap.size,1,none⟩ = some (.int .i64 r):=(b1.cell (p:=⟨w.heap.size,1,none⟩) (by simp)).trans (by simp)
 have hq2 : q1 = w.heap.size + 1:=by first | exact hq1 | simpa using hq1
 subst hq2;have MH:=hide M1;clear M1 b1 z1 hB hq1
 go_wp2_with (refine loadM rfl (.tmp 5) rfl (w.heap.size + 1) m _ _ rfl MH.out ?_)
 refine (isBlank_all m a1 a2 nl cl nv cv j hj _).mono ?_;rintro e w2 ⟨rfl,b2⟩;have B2:=hide (HB.out.trans (b2.mono HB.out.size));clear b2
 go_wp2
 go_ret
 exact ⟨rfl,B2.out⟩
set_option maxHeartbeats 1000000 in
theorem keeps_1 (f r p : Int) (u : Bool) (m : Mg) (a1 a2 : Option Addr) (nl cl nv cv : Nat) (at_ : Int) (w : World) (hf1 : 1 ≤ f) (hf2 : f ≤ 3) : Calls Tryz.prog 34 #[.agg #[.int .i64 f,.int .i64 r,.int .i64 p,.bool u],m.val (.slice a1 nl cl) (.slice a2 nv cv),.int .i64 at_,.int .u8 1] w fun e w' => e = .returned (.bool (inR m.nd 0 (2 * f)))∧Below w.heap.size w w':=by
 go_enter Tryz.func34,Tryz.ntmps34
 go_upto_region 1 with (refine boxMk rfl (.tmp 1) rfl m _ _ rfl ?_;intro q1 w1 hq1 M1 b1 z1)
 have hB : Below w.heap.size w w1:=((Below.refl _ _).alloc (Nat.le_refl _) _).trans (b1.mono (by simp));have HB:=hide hB;have c0 : w1.cell? ⟨w.heap.size,0,none⟩ = some (.int .i64 f):=(b1.cell (p:=⟨w.heap.size,0,none⟩) (by simp)).trans (by simp);have c1 : w1.cell? ⟨w.heap.size,1,none⟩ = some (.int .i64 r):=(b1.cell (p:=⟨w.heap.size,1,none⟩) (by simp)).trans (by simp)
 have hq2 : q1 = w.heap.size + 1:=by first | exact hq1 | simpa using hq1
 subst hq2;have x1:=M1.cell 1 _ rfl;clear M1 b1 z1 hB hq1
 go_wp2_with fail
 refine (withinM_any _ _ _ _).mono ?_;rintro e w2 ⟨rfl,rfl⟩
 go_wp2
 go_ret
 exact ⟨rfl,HB.out⟩
set_option maxHeartbeats 1000000 in
theorem keeps_3 (f r p : Int) (u : Bool) (m : Mg) (a1 a2 : Option Addr) (nl cl nv cv : Nat) (at_ : Int) (w : World) (hf1 : 1 ≤ f) (hf2 : f ≤ 3) : Calls Tryz.prog 34 #[.agg #[.int .i64 f,.int .i64 r,.int .i64 p,.bool u],m.val (.slice a1 nl cl) (.slice a2 nv cv),.int .i64 at_,.int .u8 3] w fun e w' => e = .returned (.bool (inR m.vw 0 4294967296))∧Below w.heap.size w w':=by
 go_enter Tryz.func34,Tryz.ntmps34
 go_upto_region 1 with (refine boxMk rfl (.tmp 1) rfl m _ _ rfl ?_;intro q1 w1 hq1 M1 b1 z1)
 have hB : Below w.heap.size w w1:=((Below.refl _ _).alloc (Nat.le_refl _) _).trans (b1.mono (by simp));have HB:=hide hB;have c0 : w1.cell? ⟨w.heap.size,0,none⟩ = some (.int .i64 f):=(b1.cell (p:=⟨w.heap.size,0,none⟩) (by simp)).trans (by simp);have c1 : w1.cell? ⟨w.heap.size,1,none⟩ = some (.int .i64 r):=(b1.cell (p:=⟨w.heap.size,1,none⟩) (by simp)).trans (by simp)
 have hq2 : q1 = w.heap.size + 1:=by first | exact hq1 | simpa using hq1
 subst hq2;have x2:=M1.cell 2 _ rfl;clear M1 b1 z1 hB hq1
 go_wp2_with fail
 refine (withinM_any _ _ _ _).mono ?_;rintro e w2 ⟨rfl,rfl⟩
 go_wp2
 go_ret
 exact ⟨rfl,HB.out⟩
set_option maxHeartbeats 1000000 in
theorem keeps_4 (f r p : Int) (u : Bool) (m : Mg) (a1 a2 : Option Addr) (nl cl nv cv : Nat) (at_ : Int) (w : World) (hf1 : 1 ≤ f) (hf2 : f ≤ 3) : Calls Tryz.prog 34 #[.agg #[.int .i64 f,.int .i64 r,.int .i64 p,.bool u],m.val (.slice a1 nl cl) (.slice a2 nv cv),.int .i64 at_,.int .u8 4] w fun e w' => e = .returned (.bool (inR m.vw 1 4294967296))∧Below w.heap.size w w':=by
 go_enter Tryz.func34,Tryz.ntmps34
 go_upto_region 1 with (refine boxMk rfl (.tmp 1) rfl m _ _ rfl ?_;intro q1 w1 hq1 M1 b1 z1)
 have hB : Below w.heap.size w w1:=((Below.refl _ _).alloc (Nat.le_refl _) _).trans (b1.mono (by simp));have HB:=hide hB;have c0 : w1.cell? ⟨w.heap.size,0,none⟩ = some (.int .i64 f):=(b1.cell (p:=⟨w.heap.size,0,none⟩) (by simp)).trans (by simp);have c1 : w1.cell? ⟨w.heap.size,1,none⟩ = some (.int .i64 r):=(b1.cell (p:=⟨w.heap.size,1,none⟩) (by simp)).trans (by simp)
 have hq2 : q1 = w.heap.size + 1:=by first | exact hq1 | simpa using hq1
 subst hq2;have x2:=M1.cell 2 _ rfl;clear M1 b1 z1 hB hq1
 go_wp2_with fail
 refine (withinM_any _ _ _ _).mono ?_;rintro e w2 ⟨rfl,rfl⟩
 go_wp2
 go_ret
 exact ⟨rfl,HB.out⟩
set_option maxHeartbeats 1000000 in
theorem keeps_6 (f r p : Int) (u : Bool) (m : Mg) (a1 a2 : Option Addr) (nl cl nv cv : Nat) (at_ : Int) (w : World) (hf1 : 1 ≤ f) (hf2 : f ≤ 3) : Calls Tryz.prog 34 #[.agg #[.int .i64 f,.int .i64 r,.int .i64 p,.bool u],m.val (.slice a1 nl cl) (.slice a2 nv cv),.int .i64 at_,.int .u8 6] w fun e w' => e = .returned (.bool (inR m.p 0 r))∧Below w.heap.size w w':=by
 go_enter Tryz.func34,Tryz.ntmps34
 go_upto_region 1 with (refine boxMk rfl (.tmp 1) rfl m _ _ rfl ?_;intro q1 w1 hq1 M1 b1 z1)
 have hB : Below w.heap.size w w1:=((Below.refl _ _).alloc (Nat.le_refl _) _).trans (b1.mono (by simp));have HB:=hide hB;have c0 : w1.cell? ⟨w.heap.size,0,none⟩ = some (.int .i64 f):=(b1.cell (p:=⟨w.heap.size,0,none⟩) (by simp)).trans (by simp);have c1 : w1.cell? ⟨w.heap.size,1,none⟩ = some (.int .i64 r):=(b1.cell (p:=⟨w.heap.size,1,none⟩) (by simp)).trans (by simp)
 have hq2 : q1 = w.heap.size + 1:=by first | exact hq1 | simpa using hq1
 subst hq2;have x11:=M1.cell 11 _ rfl;clear M1 b1 z1 hB hq1
 go_wp2_with fail
 refine (withinM_any _ _ _ _).mono ?_;rintro e w2 ⟨rfl,rfl⟩
 go_wp2
 go_ret
 exact ⟨rfl,HB.out⟩
set_option maxHeartbeats 1000000 in
theorem keeps_7 (f r p : Int) (u : Bool) (m : Mg) (a1 a2 : Option Addr) (nl cl nv cv : Nat) (at_ : Int) (w : World) (hf1 : 1 ≤ f) (hf2 : f ≤ 3) : Calls Tryz.prog 34 #[.agg #[.int .i64 f,.int .i64 r,.int .i64 p,.bool u],m.val (.slice a1 nl cl) (.slice a2 nv cv),.int .i64 at_,.int .u8 7] w fun e w' => e = .returned (.bool (inR m.p 1 r))∧Below w.heap.size w w':=by
 go_enter Tryz.func34,Tryz.ntmps34
 go_upto_region 1 with (refine boxMk rfl (.tmp 1) rfl m _ _ rfl ?_;intro q1 w1 hq1 M1 b1 z1)
 have hB : Below w.heap.size w w1:=((Below.refl _ _).alloc (Nat.le_refl _) _).trans (b1.mono (by simp));have HB:=hide hB;have c0 : w1.cell? ⟨w.heap.size,0,none⟩ = some (.int .i64 f):=(b1.cell (p:=⟨w.heap.size,0,none⟩) (by simp)).trans (by simp);have c1 : w1.cell? ⟨w.heap.size,1,none⟩ = some (.int .i64 r):=(b1.cell (p:=⟨w.heap.size,1,none⟩) (by simp)).trans (by simp)
 have hq2 : q1 = w.heap.size + 1:=by first | exact hq1 | simpa using hq1
 subst hq2;have x11:=M1.cell 11 _ rfl;clear M1 b1 z1 hB hq1
 go_wp2_with fail
 refine (withinM_any _ _ _ _).mono ?_;rintro e w2 ⟨rfl,rfl⟩
 go_wp2
 go_ret
 exact ⟨rfl,HB.out⟩
set_option maxHeartbeats 1000000 in
theorem keeps_8 (f r p : Int) (u : Bool) (m : Mg) (a1 a2 : Option Addr) (nl cl nv cv : Nat) (at_ : Int) (w : World) (hf1 : 1 ≤ f) (hf2 : f ≤ 3) : Calls Tryz.prog 34 #[.agg #[.int .i64 f,.int .i64 r,.int .i64 p,.bool u],m.val (.slice a1 nl cl) (.slice a2 nv cv),.int .i64 at_,.int .u8 8] w fun e w' => e = .returned (.bool (apB m.p m.r.1 r))∧Below w.heap.size w w':=by
 go_enter Tryz.func34,Tryz.ntmps34
 go_upto_region 1 with (refine boxMk rfl (.tmp 1) rfl m _ _ rfl ?_;intro q1 w1 hq1 M1 b1 z1)
 have hB : Below w.heap.size w w1:=((Below.refl _ _).alloc (Nat.le_refl _) _).trans (b1.mono (by simp));have HB:=hide hB;have c0 : w1.cell? ⟨w.heap.size,0,none⟩ = some (.int .i64 f):=(b1.cell (p:=⟨w.heap.size,0,none⟩) (by simp)).trans (by simp);have c1 : w1.cell? ⟨w.heap.size,1,none⟩ = some (.int .i64 r):=(b1.cell (p:=⟨w.heap.size,1,none⟩) (by simp)).trans (by simp)
 have hq2 : q1 = w.heap.size + 1:=by first | exact hq1 | simpa using hq1
 subst hq2;have x11:=M1.cell 11 _ rfl;have x8:=M1.cell 8 _ rfl;clear M1 b1 z1 hB hq1
 go_wp2_with fail
 refine (answerPlace_any _ _ _ _).mono ?_;rintro e w2 ⟨rfl,rfl⟩
 go_wp2
 go_ret
 exact ⟨rfl,HB.out⟩
set_option maxHeartbeats 1000000 in
theorem keeps_9 (f r p : Int) (u : Bool) (m : Mg) (a1 a2 : Option Addr) (nl cl nv cv : Nat) (at_ : Int) (w : World) (hf1 : 1 ≤ f) (hf2 : f ≤ 3) : Calls Tryz.prog 34 #[.agg #[.int .i64 f,.int .i64 r,.int .i64 p,.bool u],m.val (.slice a1 nl cl) (.slice a2 nv cv),.int .i64 at_,.int .u8 9] w fun e w' => e = .returned (.bool (inR m.cm 0 r))∧Below w.heap.size w w':=by
 go_enter Tryz.func34,Tryz.ntmps34
 go_upto_region 1 with (refine boxMk rfl (.tmp 1) rfl m _ _ rfl ?_;intro q1 w1 hq1 M1 b1 z1)
 have hB : Below w.heap.size w w1:=((Below.refl _ _).alloc (Nat.le_refl _) _).trans (b1.mono (by simp));have HB:=hide hB;have c0 : w1.cell? ⟨w.heap.size,0,none⟩ = some (.int .i64 f):=(b1.cell (p:=⟨w.heap.size,0,none⟩) (by simp)).trans (by simp);have c1 : w1.cell? ⟨w.heap.size,1,none⟩ = some (.int .i64 r):=(b1.cell (p:=⟨w.heap.size,1,none⟩) (by simp)).trans (by simp)
 have hq2 : q1 = w.heap.size + 1:=by first | exact hq1 | simpa using hq1
 subst hq2;have x12:=M1.cell 12 _ rfl;clear M1 b1 z1 hB hq1
 go_wp2_with fail
 refine (withinM_any _ _ _ _).mono ?_;rintro e w2 ⟨rfl,rfl⟩
 go_wp2
 go_ret
 exact ⟨rfl,HB.out⟩
set_option maxHeartbeats 1000000 in
theorem keeps_10 (f r p : Int) (u : Bool) (m : Mg) (a1 a2 : Option Addr) (nl cl nv cv : Nat) (at_ : Int) (w : World) (hf1 : 1 ≤ f) (hf2 : f ≤ 3) : Calls Tryz.prog 34 #[.agg #[.int .i64 f,.int .i64 r,.int .i64 p,.bool u],m.val (.slice a1 nl cl) (.slice a2 nv cv),.int .i64 at_,.int .u8 10] w fun e w' => e = .returned (.bool (inR m.cm 0 (nl : Int)))∧Below w.heap.size w w':=by
 go_enter Tryz.func34,Tryz.ntmps34
 go_upto_region 1 with (refine boxMk rfl (.tmp 1) rfl m _ _ rfl ?_;intro q1 w1 hq1 M1 b1 z1)
 have hB : Below w.heap.size w w1:=((Below.refl _ _).alloc (Nat.le_refl _) _).trans (b1.mono (by simp));have HB:=hide hB;have c0 : w1.cell? ⟨w.heap.size,0,none⟩ = some (.int .i64 f):=(b1.cell (p:=⟨w.heap.size,0,none⟩) (by simp)).trans (by simp);have c1 : w1.cell? ⟨w.heap.size,1,none⟩ = some (.int .i64 r):=(b1.cell (p:=⟨w.heap.size,1,none⟩) (by simp)).trans (by simp)
 have hq2 : q1 = w.heap.size + 1:=by first | exact hq1 | simpa using hq1
 subst hq2;have x12:=M1.cell 12 _ rfl;have x16:=M1.cell 16 _ rfl;clear M1 b1 z1 hB hq1
 go_wp2_with fail
 refine (withinM_any _ _ _ _).mono ?_;rintro e w2 ⟨rfl,rfl⟩
 go_wp2
 go_ret
 exact ⟨rfl,HB.out⟩
set_option maxHeartbeats 1000000 in
theorem keeps_16 (f r p : Int) (u : Bool) (m : Mg) (a1 a2 : Option Addr) (nl cl nv cv : Nat) (at_ : Int) (w : World) (hf1 : 1 ≤ f) (hf2 : f ≤ 3) : Calls Tryz.prog 34 #[.agg #[.int .i64 f,.int .i64 r,.int .i64 p,.bool u],m.val (.slice a1 nl cl) (.slice a2 nv cv),.int .i64 at_,.int .u8 16] w fun e w' => e = .returned (.bool (resB m.r.1 m.r.2.1 m.r.2.2))∧Below w.heap.size w w':=by
 go_enter Tryz.func34,Tryz.ntmps34
 go_upto_region 1 with (refine boxMk rfl (.tmp 1) rfl m _ _ rfl ?_;intro q1 w1 hq1 M1 b1 z1)
 have hB : Below w.heap.size w w1:=((Below.refl _ _).alloc (Nat.le_refl _) _).trans (b1.mono (by simp));have HB:=hide hB;have c0 : w1.cell? ⟨w.heap.size,0,none⟩ = some (.int .i64 f):=(b1.cell (p:=⟨w.heap.size,0,none⟩) (by simp)).trans (by simp);have c1 : w1.cell? ⟨w.heap.size,1,none⟩ = some (.int .i64 r):=(b1.cell (p:=⟨w.heap.size,1,none⟩) (by simp)).trans (by simp)
 have hq2 : q1 = w.heap.size + 1:=by first | exact hq1 | simpa using hq1
 subst hq2;have x8:=M1.cell 8 _ rfl;have x9:=M1.cell 9 _ rfl;have x10:=M1.cell 10 _ rfl;clear M1 b1 z1 hB hq1
 go_wp2_with fail
 refine (resultMayBe_any _ _ _ _).mono ?_;rintro e w2 ⟨rfl,b2⟩;have B2:=hide (HB.out.trans (b2.mono HB.out.size));clear b2
 go_wp2
 go_ret
 exact ⟨rfl,B2.out⟩
set_option maxHeartbeats 1000000 in
theorem keeps_5 (f r p : Int) (u : Bool) (m : Mg) (a1 a2 : Option Addr) (nl cl nv cv : Nat) (at_ : Int) (w : World) (hf1 : 1 ≤ f) (hf2 : f ≤ 3) : Calls Tryz.prog 34 #[.agg #[.int .i64 f,.int .i64 r,.int .i64 p,.bool u],m.val (.slice a1 nl cl) (.slice a2 nv cv),.int .i64 at_,.int .u8 5] w fun e w' => e = .returned (.bool (decide (0 ≤ m.ls) && decide (m.ls < m.vw)))∧Below w.heap.size w w':=by
 by_cases h1 : 0 ≤ m.ls
 ·by_cases h2 : m.ls < m.vw
  ·have V : Hid ((decide (0 ≤ m.ls) && decide (m.ls < m.vw)) = true):=by simp [Hid,h1,h2]
   go_enter Tryz.func34,Tryz.ntmps34
   go_upto_region 1 with (refine boxMk rfl (.tmp 1) rfl m _ _ rfl ?_;intro q1 w1 hq1 M1 b1 z1)
   have hB : Below w.heap.size w w1:=((Below.refl _ _).alloc (Nat.le_refl _) _).trans (b1.mono (by simp));have HB:=hide hB;have c0 : w1.cell? ⟨w.heap.size,0,none⟩ = some (.int .i64 f):=(b1.cell (p:=⟨w.heap.size,0,none⟩) (by simp)).trans (by simp);have c1 : w1.cell? ⟨w.heap.size,1,none⟩ = some (.int .i64 r):=(b1.cell (p:=⟨w.heap.size,1,none⟩) (by simp)).trans (by simp)
   have hq2 : q1 = w.heap.size + 1:=by first | exact hq1 | simpa using hq1
   subst hq2;have x13:=M1.cell 13 _ rfl;have x2:=M1.cell 2 _ rfl;clear M1 b1 z1 hB hq1
   go_wp2
   go_ret
   exact ⟨by first | rfl | (rw [V.out];first | rfl | simp),HB.out⟩
  ·have V : Hid ((decide (0 ≤ m.ls) && decide (m.ls < m.vw)) = false):=by simp [Hid,h1,h2]
   have hq : decide (m.ls < m.vw) = false:=by simp [h2]
   go_enter Tryz.func34,Tryz.ntmps34
   go_upto_region 1 with (refine boxMk rfl (.tmp 1) rfl m _ _ rfl ?_;intro q1 w1 hq1 M1 b1 z1)
   have hB : Below w.heap.size w w1:=((Below.refl _ _).alloc (Nat.le_refl _) _).trans (b1.mono (by simp));have HB:=hide hB;have c0 : w1.cell? ⟨w.heap.size,0,none⟩ = some (.int .i64 f):=(b1.cell (p:=⟨w.heap.size,0,none⟩) (by simp)).trans (by simp);have c1 : w1.cell? ⟨w.heap.size,1,none⟩ = some (.int .i64 r):=(b1.cell (p:=⟨w.heap.size,1,none⟩) (by simp)).trans (by simp)
   have hq2 : q1 = w.heap.size + 1:=by first | exact hq1 | simpa using hq1
   subst hq2;have x13:=M1.cell 13 _ rfl;have x2:=M1.cell 2 _ rfl;clear M1 b1 z1 hB hq1
   go_wp2
   go_ret
   exact ⟨by first | rfl | (rw [V.out];first | rfl | simp),HB.out⟩
 ·have V : Hid ((decide (0 ≤ m.ls) && decide (m.ls < m.vw)) = false):=by simp [Hid,h1]
  have hq : decide (0 ≤ m.ls) = false:=by simp [h1]
  go_enter Tryz.func34,Tryz.ntmps34
  go_upto_region 1 with (refine boxMk rfl (.tmp 1) rfl m _ _ rfl ?_;intro q1 w1 hq1 M1 b1 z1)
  have hB : Below w.heap.size w w1:=((Below.refl _ _).alloc (Nat.le_refl _) _).trans (b1.mono (by simp));have HB:=hide hB;have c0 : w1.cell? ⟨w.heap.size,0,none⟩ = some (.int .i64 f):=(b1.cell (p:=⟨w.heap.size,0,none⟩) (by simp)).trans (by simp);have c1 : w1.cell? ⟨w.heap.size,1,none⟩ = some (.int .i64 r):=(b1.cell (p:=⟨w.heap.size,1,none⟩) (by simp)).trans (by simp)
  have hq2 : q1 = w.heap.size + 1:=by first | exact hq1 | simpa using hq1
  subst hq2;have x13:=M1.cell 13 _ rfl;have x2:=M1.cell 2 _ rfl;clear M1 b1 z1 hB hq1
  go_wp2
  go_ret
  exact ⟨by first | rfl | (rw [V.out];first | rfl | simp),HB.out⟩
set_option maxHeartbeats 1000000 in
theorem vcheckM_any (f : Int) (a : Option Addr) (n c : Nat) (w : World) (hf1 : 1 ≤ f) (hf2 : f ≤ 3) : Calls Tryz.prog 63 #[.slice a n c,.int .i64 (2 * f + 1)] w fun e w' => e = .returned (.int .i64 (if (n : Int) = 2 * f + 1 then 0 else 30))∧Below w.heap.size w w':=by
 have h3 : f = 1 ∨ f = 2 ∨ f = 3:=by omega
 by_cases h : (n : Int) = 2 * f + 1
 ·rw [if_pos h]
  rcases h3 with rfl | rfl | rfl
  ·have hq : ((n : Int) != 3) = false:=by simp;omega
   clear h
   go_enter Tryz.func63,Tryz.ntmps63
   go_wp2_with (go_at_call 66;go_in)
   go_ret
   exact ⟨rfl,Below.refl _ _⟩
  ·have hq : ((n : Int) != 5) = false:=by simp;omega
   clear h
   go_enter Tryz.func63,Tryz.ntmps63
   go_wp2_with (go_at_call 66;go_in)
   go_ret
   exact ⟨rfl,Below.refl _ _⟩
  ·have hq : ((n : Int) != 7) = false:=by simp;omega
   clear h
   go_enter Tryz.func63,Tryz.ntmps63
   go_wp2_with (go_at_call 66;go_in)
   go_ret
   exact ⟨rfl,Below.refl _ _⟩
 ·rw [if_neg h]
  rcases h3 with rfl | rfl | rfl
  ·have hq : ((n : Int) != 3) = true:=by simp;omega
   clear h
   go_enter Tryz.func63,Tryz.ntmps63
   go_wp2_with (go_at_call 66;go_in)
   go_ret
   exact ⟨rfl,Below.refl _ _⟩
  ·have hq : ((n : Int) != 5) = true:=by simp;omega
   clear h
   go_enter Tryz.func63,Tryz.ntmps63
   go_wp2_with (go_at_call 66;go_in)
   go_ret
   exact ⟨rfl,Below.refl _ _⟩
  ·have hq : ((n : Int) != 7) = true:=by simp;omega
   clear h
   go_enter Tryz.func63,Tryz.ntmps63
   go_wp2_with (go_at_call 66;go_in)
   go_ret
   exact ⟨rfl,Below.refl _ _⟩
set_option maxHeartbeats 1000000 in
theorem keeps_20 (f r p : Int) (u : Bool) (m : Mg) (a1 a2 : Option Addr) (nl cl nv cv : Nat) (at_ : Int) (w : World) (hf1 : 1 ≤ f) (hf2 : f ≤ 3) : Calls Tryz.prog 34 #[.agg #[.int .i64 f,.int .i64 r,.int .i64 p,.bool u],m.val (.slice a1 nl cl) (.slice a2 nv cv),.int .i64 at_,.int .u8 20] w fun e w' => e = .returned (.bool (decide ((nv : Int) = 2 * f + 1)))∧Below w.heap.size w w':=by
 have H:=hide (fun W => vcheckM_any f a2 nv cv W hf1 hf2)
 by_cases hn : (nv : Int) = 2 * f + 1
 ·have V : Hid (decide ((nv : Int) = 2 * f + 1) = true):=decide_eq_true hn
  rw [if_pos hn] at H;clear hn
  go_enter Tryz.func34,Tryz.ntmps34
  go_upto_region 1 with (refine boxMk rfl (.tmp 1) rfl m _ _ rfl ?_;intro q1 w1 hq1 M1 b1 z1)
  have hB : Below w.heap.size w w1:=((Below.refl _ _).alloc (Nat.le_refl _) _).trans (b1.mono (by simp));have HB:=hide hB;have c0 : w1.cell? ⟨w.heap.size,0,none⟩ = some (.int .i64 f):=(b1.cell (p:=⟨w.heap.size,0,none⟩) (by simp)).trans (by simp);have c1 : w1.cell? ⟨w.heap.size,1,none⟩ = some (.int .i64 r):=(b1.cell (p:=⟨w.heap.size,1,none⟩) (by simp)).trans (by simp)
  have hq2 : q1 = w.heap.size + 1:=by first | exact hq1 | simpa using hq1
  subst hq2;have x17:=M1.cell 17 _ rfl;clear M1 b1 z1 hB hq1
  go_wp2_with fail
  refine (H.out _).mono ?_;rintro e w2 ⟨rfl,b2⟩;have B2:=hide (HB.out.trans (b2.mono HB.out.size));clear b2
  go_wp2
  go_ret
  exact ⟨by rw [V.out];rfl,B2.out⟩
 ·have V : Hid (decide ((nv : Int) = 2 * f + 1) = false):=decide_eq_false hn
  rw [if_neg hn] at H;clear hn
  go_enter Tryz.func34,Tryz.ntmps34
  go_upto_region 1 with (refine boxMk rfl (.tmp 1) rfl m _ _ rfl ?_;intro q1 w1 hq1 M1 b1 z1)
  have hB : Below w.heap.size w w1:=((Below.refl _ _).alloc (Nat.le_refl _) _).trans (b1.mono (by simp));have HB:=hide hB;have c0 : w1.cell? ⟨w.heap.size,0,none⟩ = some (.int .i64 f):=(b1.cell (p:=⟨w.heap.size,0,none⟩) (by simp)).trans (by simp);have c1 : w1.cell? ⟨w.heap.size,1,none⟩ = some (.int .i64 r):=(b1.cell (p:=⟨w.heap.size,1,none⟩) (by simp)).trans (by simp)
  have hq2 : q1 = w.heap.size + 1:=by first | exact hq1 | simpa using hq1
  subst hq2;have x17:=M1.cell 17 _ rfl;clear M1 b1 z1 hB hq1
  go_wp2_with fail
  refine (H.out _).mono ?_;rintro e w2 ⟨rfl,b2⟩;have B2:=hide (HB.out.trans (b2.mono HB.out.size));clear b2
  go_wp2
  go_ret
  exact ⟨by rw [V.out];rfl,B2.out⟩
set_option maxHeartbeats 1000000 in
theorem keeps_17 (f r p : Int) (u : Bool) (m : Mg) (a1 a2 : Option Addr) (nl cl nv cv : Nat) (at_ : Int) (w : World) (hf1 : 1 ≤ f) (hf2 : f ≤ 3) : Calls Tryz.prog 34 #[.agg #[.int .i64 f,.int .i64 r,.int .i64 p,.bool u],m.val (.slice a1 nl cl) (.slice a2 nv cv),.int .i64 at_,.int .u8 17] w fun e w' => e = .returned (.bool (resB m.r.1 m.r.2.1 m.r.2.2 && rdB m.r.1))∧Below w.heap.size w w':=by
 have H:=hide (fun W => resultMayBe_any m.r.1 m.r.2.1 m.r.2.2 W);have HR:=hide (fun W => isReading_any m.r.1 W)
 generalize resB m.r.1 m.r.2.1 m.r.2.2 = x at *
 generalize rdB m.r.1 = y at *
 cases x with
 | false =>
  go_enter Tryz.func34,Tryz.ntmps34
  go_upto_region 1 with (refine boxMk rfl (.tmp 1) rfl m _ _ rfl ?_;intro q1 w1 hq1 M1 b1 z1)
  have hB : Below w.heap.size w w1:=((Below.refl _ _).alloc (Nat.le_refl _) _).trans (b1.mono (by simp));have HB:=hide hB;have c0 : w1.cell? ⟨w.heap.size,0,none⟩ = some (.int .i64 f):=(b1.cell (p:=⟨w.heap.size,0,none⟩) (by simp)).trans (by simp);have c1 : w1.cell? ⟨w.heap.size,1,none⟩ = some (.int .i64 r):=(b1.cell (p:=⟨w.heap.size,1,none⟩) (by simp)).trans (by simp)
  have hq2 : q1 = w.heap.size + 1:=by first | exact hq1 | simpa using hq1
  subst hq2;have x8:=M1.cell 8 _ rfl;have x9:=M1.cell 9 _ rfl;have x10:=M1.cell 10 _ rfl;have hz1 : w.heap.size + 1 < w1.heap.size:=M1.lt;clear M1 b1 z1 hB hq1
  go_wp2_with fail
  refine (H.out _).mono ?_;rintro e w2 ⟨rfl,b2⟩;have B2:=hide (HB.out.trans (b2.mono HB.out.size));clear b2
  go_wp2
  go_ret
  exact ⟨rfl,B2.out⟩
 | true =>
  go_enter Tryz.func34,Tryz.ntmps34
  go_upto_region 1 with (refine boxMk rfl (.tmp 1) rfl m _ _ rfl ?_;intro q1 w1 hq1 M1 b1 z1)
  have hB : Below w.heap.size w w1:=((Below.refl _ _).alloc (Nat.le_refl _) _).trans (b1.mono (by simp));have HB:=hide hB;have c0 : w1.cell? ⟨w.heap.size,0,none⟩ = some (.int .i64 f):=(b1.cell (p:=⟨w.heap.size,0,none⟩) (by simp)).trans (by simp);have c1 : w1.cell? ⟨w.heap.size,1,none⟩ = some (.int .i64 r):=(b1.cell (p:=⟨w.heap.size,1,none⟩) (by simp)).trans (by simp)
  have hq2 : q1 = w.heap.size + 1:=by first | exact hq1 | simpa using hq1
  subst hq2;have x8:=M1.cell 8 _ rfl;have x9:=M1.cell 9 _ rfl;have x10:=M1.cell 10 _ rfl;have hz1 : w.heap.size + 1 < w1.heap.size:=M1.lt;clear M1 b1 z1 hB hq1
  go_wp2_with fail
  refine (H.out _).mono ?_;rintro e w2 ⟨rfl,b2⟩;have y8:=(b2.cell (p:=⟨w.heap.size + 1,8,none⟩) hz1).trans x8;have B2:=hide (HB.out.trans (b2.mono HB.out.size));clear b2
  go_wp2_with fail
  refine (HR.out _).mono ?_;rintro e w3 ⟨rfl,rfl⟩
  go_wp2
  go_ret
  exact ⟨by simp,B2.out⟩
set_option maxHeartbeats 1000000 in
theorem keeps_18 (f r p : Int) (u : Bool) (m : Mg) (a1 a2 : Option Addr) (nl cl nv cv : Nat) (at_ : Int) (w : World) (hf1 : 1 ≤ f) (hf2 : f ≤ 3) (L : List En) (h : SlY yE w a1 nl cl L) (hfit : ∀ e ∈ L,e.fits) : Calls Tryz.prog 34 #[.agg #[.int .i64 f,.int .i64 r,.int .i64 p,.bool u],m.val (.slice a1 nl cl) (.slice a2 nv cv),.int .i64 at_,.int .u8 18] w fun e w' => e = .returned (.bool (decide ((chk L r).1 = 0)))∧Below w.heap.size w w':=by
 go_enter Tryz.func34,Tryz.ntmps34
 go_upto_region 1 with (refine boxMk rfl (.tmp 1) rfl m _ _ rfl ?_;intro q1 w1 hq1 M1 b1 z1)
 have hB : Below w.heap.size w w1:=((Below.refl _ _).alloc (Nat.le_refl _) _).trans (b1.mono (by simp));have HB:=hide hB;have c0 : w1.cell? ⟨w.heap.size,0,none⟩ = some (.int .i64 f):=(b1.cell (p:=⟨w.heap.size,0,none⟩) (by simp)).trans (by simp);have c1 : w1.cell? ⟨w.heap.size,1,none⟩ = some (.int .i64 r):=(b1.cell (p:=⟨w.heap.size,1,none⟩) (by simp)).trans (by simp)
 have hq2 : q1 = w.heap.size + 1:=by first | exact hq1 | simpa using hq1
 subst hq2;have x16:=M1.cell 16 _ rfl;clear M1 b1 z1 hB hq1
 go_wp2_with fail
 refine (logMayBe_any L a1 nl cl r _ (h.bel HB.out (Nat.le_refl _)) hfit).mono ?_;rintro e w2 ⟨rfl,b2⟩;have B2:=hide (HB.out.trans (b2.mono HB.out.size));clear b2
 go_wp2
 go_ret
 exact ⟨rfl,B2.out⟩
set_option maxHeartbeats 1000000 in
theorem keeps_13 (f r p : Int) (u : Bool) (m : Mg) (a1 a2 : Option Addr) (nl cl nv cv : Nat) (at_ : Int) (w : World) (hf1 : 1 ≤ f) (hf2 : f ≤ 3) (hfe : m.e.fits) : Calls Tryz.prog 34 #[.agg #[.int .i64 f,.int .i64 r,.int .i64 p,.bool u],m.val (.slice a1 nl cl) (.slice a2 nv cv),.int .i64 at_,.int .u8 13] w fun e w' => e = .returned (.bool (decide ((chk [m.e] 1).1 = 0)))∧Below w.heap.size w w':=by
 go_enter Tryz.func34,Tryz.ntmps34
 go_upto_region 1 with (refine boxMk rfl (.tmp 1) rfl m _ _ rfl ?_;intro q1 w1 hq1 M1 b1 z1)
 have hB : Below w.heap.size w w1:=((Below.refl _ _).alloc (Nat.le_refl _) _).trans (b1.mono (by simp));have HB:=hide hB;have c0 : w1.cell? ⟨w.heap.size,0,none⟩ = some (.int .i64 f):=(b1.cell (p:=⟨w.heap.size,0,none⟩) (by simp)).trans (by simp);have c1 : w1.cell? ⟨w.heap.size,1,none⟩ = some (.int .i64 r):=(b1.cell (p:=⟨w.heap.size,1,none⟩) (by simp)).trans (by simp)
 have hq2 : q1 = w.heap.size + 1:=by first | exact hq1 | simpa using hq1
 subst hq2;have x3:=M1.cell 3 _ rfl;have x4:=M1.cell 4 _ rfl;have x5:=M1.cell 5 _ rfl;have x6:=M1.cell 6 _ rfl;have x7:=M1.cell 7 _ rfl;clear M1 b1 z1 hB hq1
 go_wp2_with fail
 refine (logMayBe_any [m.e] _ _ _ _ _ (sl_box (Y:=yE) w1 m.e 38) (fun e he => by rw [List.mem_singleton.1 he];exact hfe)).mono ?_;rintro e w2 ⟨rfl,b2⟩;have B2:=hide ((HB.out.alloc HB.out.size _).trans (b2.mono (by have:=HB.out.size;simp;omega)));clear b2
 go_wp2
 go_ret
 exact ⟨rfl,B2.out⟩
end Go.Proofs.YtjcedofmljkhfaaGreatDoor
