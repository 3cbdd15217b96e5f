import Derived.Test.YtgncpcfncojgoaaGreatDoorF8
set_option maxRecDepth 100000
set_option linter.unusedVariables false
set_option linter.unusedSimpArgs false
namespace Go.Proofs.YtgncpcfncojgoaaGreatDoor
open Go.RowKit Go.Maps
open Classical
def An.Like (x y : An) : Prop:=y.n = x.n∧y.h = x.h∧y.l = x.l∧y.v = x.v∧y.c = x.c∧y.s.D = x.s.D
theorem An.Told.like {B : Nat} {w : World} {x y : An} (h : An.Told B w x y) : An.Like x y:=by
 obtain ⟨h1,h2,h3,h4,h5,h6⟩:=h.D
 exact ⟨h2,h3,h4,h5,h6,h1⟩
set_option maxHeartbeats 4000000 in
theorem An.same_any (L R : List An) (a b : Option Addr) (n c c2 : Nat) (w : World) (hL : SlY yAnA w a n c L) (hR : SlY yAnA w b n c2 R) (hk : ∀ (i : Nat) (x y : An),L[i]? = some x → R[i]? = some y → An.Like x y) (iL : ∀ x ∈ L,x.In w) (iR : ∀ x ∈ R,x.In w) :
  Calls Tryz.prog 63 #[.slice a n c,.slice b n c2] w fun e w' => e = .returned (.bool true)∧∃ k,w' = w.drewN k:=by
 have m1:=hL.max;have m2:=hR.max;have p1:=hL.cap;have p2:=hR.cap
 unfold maxLen at m1 m2
 have HL:=hide hL;have HR:=hide hR;have N1:=hide hL.len;have N2:=hide hR.len;have HK:=hide hk;have I1:=hide iL;have I2:=hide iR;clear hL hR hk iL iR
 go_enter Tryz.func63,Tryz.ntmps63
 go_wp2
 go_loopw [5] (fun i wr => ∃ (j d : Nat),i = .int .i64 (j : Int)∧j ≤ n∧wr = w.drewN d) (fun i _ => n - (intOf i).toNat)
 case atStart => exact ⟨0,0,rfl,Nat.zero_le _,rfl⟩
 case round =>
  obtain ⟨j,d,rfl,hj,rfl⟩:=hrel
  by_cases hlt : j < n
  ·have h1 : j < L.length:=by rw [N1.out];exact hlt
   have h2 : j < R.length:=by rw [N2.out];exact hlt
   have g1 : L[j]? = some L[j]:=List.getElem?_eq_getElem h1;have g2 : R[j]? = some R[j]:=List.getElem?_eq_getElem h2;obtain ⟨q,o,rfl,hq,a0,a1,a2,a3,a4,a5⟩:=HL.out.AnA g1;obtain ⟨q2,o2,rfl,hq2,b0,b1,b2,b3,b4,b5⟩:=HR.out.AnA g2;obtain ⟨e0,e1,e2,e3,e4,e5⟩:=HK.out j _ _ g1 g2;have i1:=I1.out _ (List.getElem_mem h1);have i2:=I2.out _ (List.getElem_mem h2);clear g1 g2
   generalize L[j] = x at *
   generalize R[j] = y at *
   obtain ⟨yn,yh,yl,yv,yc,ys⟩:=y
   dsimp only at e0 e1 e2 e3 e4 e5 b0 b1 b2 b3 b4 b5
   subst e0 e1 e2 e3 e4
   have CS : Hid (∀ v,(∃ k,v = w.drewN k) → Calls Tryz.prog 47 #[.slice x.s.a x.s.D.length x.s.c,.slice ys.a x.s.D.length ys.c] v fun e w' => e = .returned (.bool true)∧∃ k,w' = w.drewN k):=fun v hv => by
    obtain ⟨k,rfl⟩:=hv;have i1':=i1.1.drewN k
    have i2' : SlY yE (w.drewN k) ys.a x.s.D.length ys.c x.s.D:=by
     have:=i2.1.drewN k
     dsimp only at this
     rw [e5] at this
     exact this
    refine (sameentsB x.s.D x.s.D x.s.a ys.a x.s.D.length x.s.D.length x.s.c ys.c (w.drewN k) i1' i2').mono fun e w' h => ?_
    obtain ⟨rfl,k2,rfl⟩:=h
    exact ⟨by simp,k + k2,by simp only [World.drewN,Nat.add_assoc]⟩
   rw [e5] at b5
   have KC : Hid (∀ v,(∃ k,v = w.drewN k) → (v.cell? ⟨q,o + j * 6,none⟩ = some (.int .i64 x.n)∧v.cell? ⟨q,o + j * 6 + 1,none⟩ = some (.int .u64 x.h)∧v.cell? ⟨q,o + j * 6 + 2,none⟩ = some (.int .u64 x.l)∧v.cell? ⟨q,o + j * 6 + 3,none⟩ = some (.int .i64 x.v)∧v.cell? ⟨q,o + j * 6 + 4,none⟩ = some (.int .i64 x.c)∧v.cell? ⟨q,o + j * 6 + 5,none⟩ = some (.slice x.s.a x.s.D.length x.s.c))∧(v.cell? ⟨q2,o2 + j * 6,none⟩ = some (.int .i64 x.n)∧v.cell? ⟨q2,o2 + j * 6 + 1,none⟩ = some (.int .u64 x.h)∧v.cell? ⟨q2,o2 + j * 6 + 2,none⟩ = some (.int .u64 x.l)∧v.cell? ⟨q2,o2 + j * 6 + 3,none⟩ = some (.int .i64 x.v)∧v.cell? ⟨q2,o2 + j * 6 + 4,none⟩ = some (.int .i64 x.c)∧v.cell? ⟨q2,o2 + j * 6 + 5,none⟩ = some (.slice ys.a x.s.D.length ys.c))):=fun v hv => by
    obtain ⟨k,rfl⟩:=hv
    exact ⟨⟨a0,a1,a2,a3,a4,a5⟩,⟨b0,b1,b2,b3,b4,b5⟩⟩
   clear i1 i2 a0 a1 a2 a3 a4 a5 b0 b1 b2 b3 b4 b5 e5
   go_wp2_with fail
   refine region_q9 (C:=fun v => ∃ k,v = w.drewN k) (by kernel_rfl) (by kernel_rfl) ⟨d + 1,rfl⟩ ?_;refine wqv (u:=.slice (some ⟨q,o,none⟩) n c) (by kernel_rfl) (fun v hv => by kernel_rfl) ?_;simp only [pu,pn,pv,pw,px];refine wqv (u:=.int .i64 (j : Int)) (by kernel_rfl) (fun v hv => by kernel_rfl) ?_;simp only [pu,pn,pv,pw,px];refine wqv (u:=.pointer (some ⟨q,o + j * 6,none⟩)) (by kernel_rfl) (fun v hv => by go_simp) ?_;simp only [pu,pn,pv,pw,px];refine wqv (u:=.pointer (some ⟨q,o + j * 6,none⟩)) (by kernel_rfl) (fun v hv => by go_simp) ?_;simp only [pu,pn,pv,pw,px];refine wqv (u:=.int .i64 x.n) (by kernel_rfl) (fun v hv => by obtain ⟨⟨y0,y1,y2,y3,y4,y5⟩,⟨z0,z1,z2,z3,z4,z5⟩⟩:=KC.out v hv;go_simp) ?_;simp only [pu,pn,pv,pw,px];refine wqv (u:=.slice (some ⟨q2,o2,none⟩) n c2) (by kernel_rfl) (fun v hv => by kernel_rfl) ?_;simp only [pu,pn,pv,pw,px];refine wqv (u:=.int .i64 (j : Int)) (by kernel_rfl) (fun v hv => by kernel_rfl) ?_;simp only [pu,pn,pv,pw,px];refine wqv (u:=.pointer (some ⟨q2,o2 + j * 6,none⟩)) (by kernel_rfl) (fun v hv => by go_simp) ?_;simp only [pu,pn,pv,pw,px];refine wqv (u:=.pointer (some ⟨q2,o2 + j * 6,none⟩)) (by kernel_rfl) (fun v hv => by go_simp) ?_;simp only [pu,pn,pv,pw,px];refine wqv (u:=.int .i64 x.n) (by kernel_rfl) (fun v hv => by obtain ⟨⟨y0,y1,y2,y3,y4,y5⟩,⟨z0,z1,z2,z3,z4,z5⟩⟩:=KC.out v hv;go_simp) ?_;simp only [pu,pn,pv,pw,px];refine wqv (u:=.bool false) (by kernel_rfl) (fun v hv => by go_simp) ?_;simp only [pu,pn,pv,pw,px];refine wqv (u:=.bool false) (by kernel_rfl) (fun v hv => by kernel_rfl) ?_;simp only [pu,pn,pv,pw,px];refine wqv (u:=.slice (some ⟨q,o,none⟩) n c) (by kernel_rfl) (fun v hv => by kernel_rfl) ?_;simp only [pu,pn,pv,pw,px];refine wqv (u:=.int .i64 (j : Int)) (by kernel_rfl) (fun v hv => by kernel_rfl) ?_;simp only [pu,pn,pv,pw,px];refine wqv (u:=.pointer (some ⟨q,o + j * 6,none⟩)) (by kernel_rfl) (fun v hv => by go_simp) ?_;simp only [pu,pn,pv,pw,px];refine wqv (u:=.pointer (some ⟨q,o + j * 6 + 1,none⟩)) (by kernel_rfl) (fun v hv => by go_simp) ?_;simp only [pu,pn,pv,pw,px];refine wqv (u:=.agg #[.int .u64 x.h,.int .u64 x.l]) (by kernel_rfl) (fun v hv => by obtain ⟨⟨y0,y1,y2,y3,y4,y5⟩,⟨z0,z1,z2,z3,z4,z5⟩⟩:=KC.out v hv;go_simp) ?_;simp only [pu,pn,pv,pw,px];refine wqv (u:=.slice (some ⟨q2,o2,none⟩) n c2) (by kernel_rfl) (fun v hv => by kernel_rfl) ?_;simp only [pu,pn,pv,pw,px];refine wqv (u:=.int .i64 (j : Int)) (by kernel_rfl) (fun v hv => by kernel_rfl) ?_;simp only [pu,pn,pv,pw,px];refine wqv (u:=.pointer (some ⟨q2,o2 + j * 6,none⟩)) (by kernel_rfl) (fun v hv => by go_simp) ?_;simp only [pu,pn,pv,pw,px];refine wqv (u:=.pointer (some ⟨q2,o2 + j * 6 + 1,none⟩)) (by kernel_rfl) (fun v hv => by go_simp) ?_;simp only [pu,pn,pv,pw,px];refine wqv (u:=.agg #[.int .u64 x.h,.int .u64 x.l]) (by kernel_rfl) (fun v hv => by obtain ⟨⟨y0,y1,y2,y3,y4,y5⟩,⟨z0,z1,z2,z3,z4,z5⟩⟩:=KC.out v hv;go_simp) ?_;simp only [pu,pn,pv,pw,px];refine wqv (u:=.bool false) (by kernel_rfl) (fun v hv => by go_simp) ?_;simp only [pu,pn,pv,pw,px];refine wqv (u:=.bool false) (by kernel_rfl) (fun v hv => by kernel_rfl) ?_;simp only [pu,pn,pv,pw,px];refine wqv (u:=.bool false) (by kernel_rfl) (fun v hv => by kernel_rfl) ?_;simp only [pu,pn,pv,pw,px];refine wqv (u:=.slice (some ⟨q,o,none⟩) n c) (by kernel_rfl) (fun v hv => by kernel_rfl) ?_;simp only [pu,pn,pv,pw,px];refine wqv (u:=.int .i64 (j : Int)) (by kernel_rfl) (fun v hv => by kernel_rfl) ?_;simp only [pu,pn,pv,pw,px];refine wqv (u:=.pointer (some ⟨q,o + j * 6,none⟩)) (by kernel_rfl) (fun v hv => by go_simp) ?_;simp only [pu,pn,pv,pw,px];refine wqv (u:=.pointer (some ⟨q,o + j * 6 + 3,none⟩)) (by kernel_rfl) (fun v hv => by go_simp) ?_;simp only [pu,pn,pv,pw,px];refine wqv (u:=.int .i64 x.v) (by kernel_rfl) (fun v hv => by obtain ⟨⟨y0,y1,y2,y3,y4,y5⟩,⟨z0,z1,z2,z3,z4,z5⟩⟩:=KC.out v hv;go_simp) ?_;simp only [pu,pn,pv,pw,px];refine wqv (u:=.slice (some ⟨q2,o2,none⟩) n c2) (by kernel_rfl) (fun v hv => by kernel_rfl) ?_;simp only [pu,pn,pv,pw,px];refine wqv (u:=.int .i64 (j : Int)) (by kernel_rfl) (fun v hv => by kernel_rfl) ?_;simp only [pu,pn,pv,pw,px];refine wqv (u:=.pointer (some ⟨q2,o2 + j * 6,none⟩)) (by kernel_rfl) (fun v hv => by go_simp) ?_;simp only [pu,pn,pv,pw,px];refine wqv (u:=.pointer (some ⟨q2,o2 + j * 6 + 3,none⟩)) (by kernel_rfl) (fun v hv => by go_simp) ?_;simp only [pu,pn,pv,pw,px];refine wqv (u:=.int .i64 x.v) (by kernel_rfl) (fun v hv => by obtain ⟨⟨y0,y1,y2,y3,y4,y5⟩,⟨z0,z1,z2,z3,z4,z5⟩⟩:=KC.out v hv;go_simp) ?_;simp only [pu,pn,pv,pw,px];refine wqv (u:=.bool false) (by kernel_rfl) (fun v hv => by go_simp) ?_;simp only [pu,pn,pv,pw,px];refine wqv (u:=.bool false) (by kernel_rfl) (fun v hv => by kernel_rfl) ?_;simp only [pu,pn,pv,pw,px];refine wqv (u:=.bool false) (by kernel_rfl) (fun v hv => by kernel_rfl) ?_;simp only [pu,pn,pv,pw,px];refine wqv (u:=.slice (some ⟨q,o,none⟩) n c) (by kernel_rfl) (fun v hv => by kernel_rfl) ?_;simp only [pu,pn,pv,pw,px];refine wqv (u:=.int .i64 (j : Int)) (by kernel_rfl) (fun v hv => by kernel_rfl) ?_;simp only [pu,pn,pv,pw,px];refine wqv (u:=.pointer (some ⟨q,o + j * 6,none⟩)) (by kernel_rfl) (fun v hv => by go_simp) ?_;simp only [pu,pn,pv,pw,px];refine wqv (u:=.pointer (some ⟨q,o + j * 6 + 4,none⟩)) (by kernel_rfl) (fun v hv => by go_simp) ?_;simp only [pu,pn,pv,pw,px];refine wqv (u:=.int .i64 x.c) (by kernel_rfl) (fun v hv => by obtain ⟨⟨y0,y1,y2,y3,y4,y5⟩,⟨z0,z1,z2,z3,z4,z5⟩⟩:=KC.out v hv;go_simp) ?_;simp only [pu,pn,pv,pw,px];refine wqv (u:=.slice (some ⟨q2,o2,none⟩) n c2) (by kernel_rfl) (fun v hv => by kernel_rfl) ?_;simp only [pu,pn,pv,pw,px];refine wqv (u:=.int .i64 (j : Int)) (by kernel_rfl) (fun v hv => by kernel_rfl) ?_;simp only [pu,pn,pv,pw,px];refine wqv (u:=.pointer (some ⟨q2,o2 + j * 6,none⟩)) (by kernel_rfl) (fun v hv => by go_simp) ?_;simp only [pu,pn,pv,pw,px];refine wqv (u:=.pointer (some ⟨q2,o2 + j * 6 + 4,none⟩)) (by kernel_rfl) (fun v hv => by go_simp) ?_;simp only [pu,pn,pv,pw,px];refine wqv (u:=.int .i64 x.c) (by kernel_rfl) (fun v hv => by obtain ⟨⟨y0,y1,y2,y3,y4,y5⟩,⟨z0,z1,z2,z3,z4,z5⟩⟩:=KC.out v hv;go_simp) ?_;simp only [pu,pn,pv,pw,px];refine wqv (u:=.bool false) (by kernel_rfl) (fun v hv => by go_simp) ?_;simp only [pu,pn,pv,pw,px];refine wqv (u:=.bool false) (by kernel_rfl) (fun v hv => by kernel_rfl) ?_;simp only [pu,pn,pv,pw,px];refine wqv (u:=.bool false) (by kernel_rfl) (fun v hv => by kernel_rfl) ?_;simp only [pu,pn,pv,pw,px];refine wqv (u:=.slice (some ⟨q,o,none⟩) n c) (by kernel_rfl) (fun v hv => by kernel_rfl) ?_;simp only [pu,pn,pv,pw,px];refine wqv (u:=.int .i64 (j : Int)) (by kernel_rfl) (fun v hv => by kernel_rfl) ?_;simp only [pu,pn,pv,pw,px];refine wqv (u:=.pointer (some ⟨q,o + j * 6,none⟩)) (by kernel_rfl) (fun v hv => by go_simp) ?_;simp only [pu,pn,pv,pw,px];refine wqv (u:=.pointer (some ⟨q,o + j * 6 + 5,none⟩)) (by kernel_rfl) (fun v hv => by go_simp) ?_;simp only [pu,pn,pv,pw,px];refine wqv (u:=.slice x.s.a x.s.D.length x.s.c) (by kernel_rfl) (fun v hv => by obtain ⟨⟨y0,y1,y2,y3,y4,y5⟩,⟨z0,z1,z2,z3,z4,z5⟩⟩:=KC.out v hv;go_simp) ?_;simp only [pu,pn,pv,pw,px];refine wqv (u:=.slice (some ⟨q2,o2,none⟩) n c2) (by kernel_rfl) (fun v hv => by kernel_rfl) ?_;simp only [pu,pn,pv,pw,px];refine wqv (u:=.int .i64 (j : Int)) (by kernel_rfl) (fun v hv => by kernel_rfl) ?_;simp only [pu,pn,pv,pw,px];refine wqv (u:=.pointer (some ⟨q2,o2 + j * 6,none⟩)) (by kernel_rfl) (fun v hv => by go_simp) ?_;simp only [pu,pn,pv,pw,px];refine wqv (u:=.pointer (some ⟨q2,o2 + j * 6 + 5,none⟩)) (by kernel_rfl) (fun v hv => by go_simp) ?_;simp only [pu,pn,pv,pw,px];refine wqv (u:=.slice ys.a x.s.D.length ys.c) (by kernel_rfl) (fun v hv => by obtain ⟨⟨y0,y1,y2,y3,y4,y5⟩,⟨z0,z1,z2,z3,z4,z5⟩⟩:=KC.out v hv;go_simp) ?_;simp only [pu,pn,pv,pw,px];refine wqc (fid:=47) (args:=#[.slice x.s.a x.s.D.length x.s.c,.slice ys.a x.s.D.length ys.c]) (u:=.bool true) (by kernel_rfl) (fun v => by kernel_rfl) (fun v hv => CS.out v hv) ?_;simp only [pu,pn,pv,pw,px];refine wqv (u:=.bool false) (by kernel_rfl) (fun v hv => by go_simp) ?_;simp only [pu,pn,pv,pw,px];refine wqv (u:=.bool false) (by kernel_rfl) (fun v hv => by kernel_rfl) ?_;simp only [pu,pn,pv,pw,px];refine wqnil (fun v hv => ?_);obtain ⟨k,rfl⟩:=hv
   go_wp2
   go_round
   case rel => exact ⟨j + 1,k,by go_num,by omega,rfl⟩
   case measure => simp [intOf];omega
  ·obtain rfl : j = n:=by omega
   go_wp2
   go_ret
   exact ⟨rfl,d,rfl⟩
end Go.Proofs.YtgncpcfncojgoaaGreatDoor
namespace Go.Proofs.YtgncpcfncojgoaaGreatDoor
open Go.RowKit Go.Maps Go.Shelf
open Classical
structure Fr8 {α : Type} (Y : Lay α) (B : Nat) (w : World) (a : Option Addr) (n c : Nat) (l : List α) : Prop where
 sl : SlY Y w a n c l
 lo : ∀ x,a = some x → B ≤ x.block
section
variable {α : Type} {Y : Lay α} {B : Nat} {w w' : World} {a : Option Addr} {n c : Nat} {l : List α}
theorem Fr8.later (h : Fr8 Y B w a n c l) (hb : Below w.heap.size w w') : Fr8 Y B w' a n c l:=⟨h.sl.later hb,h.lo⟩
theorem Fr8.set {q : Nat} (h : Fr8 Y B w a n c l) (u : Upd (fun k => k = q) w w') (hq : q < B) : Fr8 Y B w' a n c l:=⟨h.sl.upd u (fun x hx _ => by have:=h.lo x hx;omega),h.lo⟩
theorem Fr8.of_own {B' : Nat} (K : Y.Ok) (h : OwnY Y B' w (.slice a n c) l) (hB : B ≤ B') : Fr8 Y B w a n c l:=by
 refine ⟨h.sl' K,fun x hx => ?_⟩;obtain ⟨va,vc,e,h1,h2,h3,h4⟩:=h.form
 injection e with e1 e2 e3
 subst e1;obtain ⟨g,rfl,h5,h6⟩:=h4 x hx
 exact Nat.le_trans hB h5
end
theorem Bl.Tolds.set8 {B q : Nat} {w w' : World} {L R : List Bl} (h : Bl.Tolds B w L R) (u : Upd (fun k => k = q) w w') (hq : q < B) : Bl.Tolds B w' L R :=
 ⟨h.1,fun i x y hx hy => by
  obtain ⟨h0,g,e,o⟩:=h.2 i x y hx hy
  exact ⟨h0,g,e,o.upd1 u (fun k hk e => by have:=(o.blk k hk).1;omega)⟩⟩
theorem An.Tolds.set8 {B q : Nat} {w w' : World} {L R : List An} (h : An.Tolds B w L R) (u : Upd (fun k => k = q) w w') (hq : q < B) : An.Tolds B w' L R :=
 ⟨h.1,fun i x y hx hy => by
  obtain ⟨h0,g,e,o⟩:=h.2 i x y hx hy
  exact ⟨h0,g,e,o.upd1 u (fun k hk e => by have:=(o.blk k hk).1;omega)⟩⟩
theorem Bl.Tolds.in8 {B : Nat} {w : World} {L R : List Bl} (h : Bl.Tolds B w L R) : ∀ y ∈ R,y.In w:=fun y hy => by
 obtain ⟨i,hi,rfl⟩:=List.mem_iff_getElem.1 hy
 have hl : i < L.length:=by rw [← h.1];exact hi
 exact (h.2 i _ _ (List.getElem?_eq_getElem hl) (List.getElem?_eq_getElem hi)).In
theorem An.Tolds.in8 {B : Nat} {w : World} {L R : List An} (h : An.Tolds B w L R) : ∀ y ∈ R,y.In w:=fun y hy => by
 obtain ⟨i,hi,rfl⟩:=List.mem_iff_getElem.1 hy
 have hl : i < L.length:=by rw [← h.1];exact hi
 exact (h.2 i _ _ (List.getElem?_eq_getElem hl) (List.getElem?_eq_getElem hi)).In
def zS8 : Sta:=⟨0,0,0,0,none,0,[],0,none,0,[],0,none,0,[],none,0,[],none,0,[],none,0,[]⟩
theorem al12 (w : World) : (Instr.alloc 36 true (.tuple #[])).run Tryz.prog w = .ok (.pointer (some ⟨w.heap.size,0,none⟩)) (w.alloc (.cells zS8.cs.toArray 36)):=by
 go_simp
 first | done | rfl
theorem bd12 (w : World) : (Instr.build 36 #[]).run Tryz.prog w = .ok zS8.val w:=by
 go_simp
 first | done | rfl
theorem st12 {w : World} {q : Nat} {s : Sta} (h : SB7 w q s) (t : Sta) : (Instr.storeAt 36 (.pointer (some ⟨q,0,none⟩)) t.val).run Tryz.prog w = .ok () (sets w q 0 t.cs):=by
 have:=run_storeAt_mid (P:=Tryz.prog) w q 0 36 t.cs.toArray (fun j hj => ⟨by rw [Nat.zero_add,h.cell j _ (List.getElem?_eq_getElem (show j < s.cs.length from hj))];rfl,by rw [Nat.zero_add];exact h.free j⟩) (by kernel_rfl) (all_oneCell_toArray (by
  intro v hv;simp only [Sta.cs,List.mem_cons,List.not_mem_nil,or_false] at hv
  rcases hv with rfl | rfl | rfl | rfl | rfl | rfl | rfl | rfl | rfl | rfl | rfl | rfl <;> rfl))
 rw [setCells_sets] at this
 exact this
theorem SB7.put {w : World} {q : Nat} {s : Sta} (h : SB7 w q s) (t : Sta) : SB7 (sets w q 0 t.cs) q t:=by
 refine ⟨by rw [size_sets];exact h.lt,fun i x hx => ?_,fun i => sets_free _ _ _ (h.free i)⟩;have:=sets_at (b:=q) t.cs 0 w (fun k hk => ⟨_,by rw [Nat.zero_add];exact h.cell k _ (List.getElem?_eq_getElem (show k < s.cs.length from hk))⟩) i x hx;rw [Nat.zero_add] at this
 exact this
theorem upd12 (w : World) (q : Nat) (t : Sta) : Upd (fun k => k = q) w (sets w q 0 t.cs):=upd_sets (S:=fun k => k = q) (b:=q) rfl _ _ _ (Upd.refl _ _)
theorem results_sta {fn : Func} {i : Tmp} {q : Nat} {t : Sta} {tmps : Array Value} {w : World} (h : fn.results = #[.cell i 36]) (hq : tmps.getD i undef = .pointer (some ⟨q,0,none⟩)) (hb : SB7 w q t) : (results fn tmps).run Tryz.prog w = .ok t.val w:=by
 have:=run_loadVar_mid (P:=Tryz.prog) w q 0 36 t.cs _ (fun j v hv => by rw [Nat.zero_add];exact hb.cell j v hv) Tryz.underlying36 rfl (by kernel_rfl);simp only [results,h];simp only [Array.getD_eq_getD_getElem?] at hq
 simp [Sem.run_bind,Result.andThen,hq,asAddr,this]
 rfl
theorem results_sta3 {fn : Func} {i j k : Tmp} {q : Nat} {t : Sta} {x y : Value} {tmps : Array Value} {w : World} (h : fn.results = #[.cell i 36,.tmp j,.tmp k]) (hq : tmps.getD i undef = .pointer (some ⟨q,0,none⟩)) (hj : tmps.getD j undef = x) (hk : tmps.getD k undef = y) (hb : SB7 w q t) : (results fn tmps).run Tryz.prog w = .ok (.tuple #[t.val,x,y]) w:=by
 have:=run_loadVar_mid (P:=Tryz.prog) w q 0 36 t.cs _ (fun j v hv => by rw [Nat.zero_add];exact hb.cell j v hv) Tryz.underlying36 rfl (by kernel_rfl);simp only [results,h];simp only [Array.getD_eq_getD_getElem?] at hq hj hk
 simp [Sem.run_bind,Result.andThen,hq,hj,hk,asAddr,this]
 rfl
structure Sta.Lo (t : Sta) (B : Nat) : Prop where
 l : ∀ x,t.la = some x → B ≤ x.block
 v : ∀ x,t.va = some x → B ≤ x.block
 a : ∀ x,t.ka = some x → B ≤ x.block
 m : ∀ x,t.ma = some x → B ≤ x.block
 b : ∀ x,t.ba = some x → B ≤ x.block
 n : ∀ x,t.na = some x → B ≤ x.block
theorem Sta.Lo.low {t : Sta} {B B' : Nat} (h : t.Lo B) (hB : B' ≤ B) : t.Lo B':=⟨fun x hx => Nat.le_trans hB (h.l x hx),fun x hx => Nat.le_trans hB (h.v x hx),fun x hx => Nat.le_trans hB (h.a x hx),fun x hx => Nat.le_trans hB (h.m x hx),fun x hx => Nat.le_trans hB (h.b x hx),fun x hx => Nat.le_trans hB (h.n x hx)⟩
structure Sta.Kn (t : Sta) (B : Nat) (s : Sta) (D : List (Int × Int)) (w : World) : Prop where
 self : t.self = s.self
 st : t.st = s.st
 view : t.view = s.view
 last : t.last = s.last
 commit : t.commit = s.commit
 idle : t.idle = s.idle
 l : t.L = s.L
 v : t.V = D
 a : t.A = Ak.prn s.A D
 m : t.M = Mk.prn s.M D
 b : Bl.Tolds B w (Bl.prn s.B D) t.B
 n : An.Tolds B w (An.prn s.N D) t.N
 inn : t.In w
theorem Sta.Kn.set8 {t : Sta} {B q : Nat} {s : Sta} {D : List (Int × Int)} {w w' : World} (h : t.Kn B s D w) (u : Upd (fun k => k = q) w w') (hq : q < B) (hlo : t.Lo B) : t.Kn B s D w' :=
 ⟨h.self,h.st,h.view,h.last,h.commit,h.idle,h.l,h.v,h.a,h.m,h.b.set8 u hq,h.n.set8 u hq,⟨h.inn.l.upd u (fun x hx _ => by have:=hlo.l x hx;omega),h.inn.v.upd u (fun x hx _ => by have:=hlo.v x hx;omega),h.inn.a.upd u (fun x hx _ => by have:=hlo.a x hx;omega),h.inn.m.upd u (fun x hx _ => by have:=hlo.m x hx;omega),h.inn.b.upd u (fun x hx _ => by have:=hlo.b x hx;omega),h.inn.n.upd u (fun x hx _ => by have:=hlo.n x hx;omega),(h.b.set8 u hq).in8,(h.n.set8 u hq).in8⟩⟩
theorem Sta.Kn.low8 {t : Sta} {B B' : Nat} {s : Sta} {D : List (Int × Int)} {w : World} (h : t.Kn B s D w) (hB : B' ≤ B) : t.Kn B' s D w :=
 ⟨h.self,h.st,h.view,h.last,h.commit,h.idle,h.l,h.v,h.a,h.m,h.b.low hB,h.n.low hB,h.inn⟩
theorem stI8 {w : World} {q i : Nat} {z : Value} (h : w.cell? ⟨q,i,none⟩ = some z) (hf : w.frozen? ⟨q,i,none⟩ = false) (x : Int) : (Instr.storeAt 3 (.pointer (some ⟨q,i,none⟩)) (.int .i64 x)).run Tryz.prog w = .ok () (w.setCell ⟨q,i,none⟩ (.int .i64 x)):=by go_simp
theorem stE8 {w : World} {q i : Nat} {z : Value} (h : w.cell? ⟨q,i,none⟩ = some z) (hf : w.frozen? ⟨q,i,none⟩ = false) (a : Option Addr) (n c : Nat) : (Instr.storeAt 28 (.pointer (some ⟨q,i,none⟩)) (.slice a n c)).run Tryz.prog w = .ok () (w.setCell ⟨q,i,none⟩ (.slice a n c)):=by go_simp
theorem stV8 {w : World} {q i : Nat} {z : Value} (h : w.cell? ⟨q,i,none⟩ = some z) (hf : w.frozen? ⟨q,i,none⟩ = false) (a : Option Addr) (n c : Nat) : (Instr.storeAt 30 (.pointer (some ⟨q,i,none⟩)) (.slice a n c)).run Tryz.prog w = .ok () (w.setCell ⟨q,i,none⟩ (.slice a n c)):=by go_simp
theorem stK8 {w : World} {q i : Nat} {z : Value} (h : w.cell? ⟨q,i,none⟩ = some z) (hf : w.frozen? ⟨q,i,none⟩ = false) (a : Option Addr) (n c : Nat) : (Instr.storeAt 31 (.pointer (some ⟨q,i,none⟩)) (.slice a n c)).run Tryz.prog w = .ok () (w.setCell ⟨q,i,none⟩ (.slice a n c)):=by go_simp
theorem stM8 {w : World} {q i : Nat} {z : Value} (h : w.cell? ⟨q,i,none⟩ = some z) (hf : w.frozen? ⟨q,i,none⟩ = false) (a : Option Addr) (n c : Nat) : (Instr.storeAt 32 (.pointer (some ⟨q,i,none⟩)) (.slice a n c)).run Tryz.prog w = .ok () (w.setCell ⟨q,i,none⟩ (.slice a n c)):=by go_simp
theorem stB8 {w : World} {q i : Nat} {z : Value} (h : w.cell? ⟨q,i,none⟩ = some z) (hf : w.frozen? ⟨q,i,none⟩ = false) (a : Option Addr) (n c : Nat) : (Instr.storeAt 33 (.pointer (some ⟨q,i,none⟩)) (.slice a n c)).run Tryz.prog w = .ok () (w.setCell ⟨q,i,none⟩ (.slice a n c)):=by go_simp
theorem stN8 {w : World} {q i : Nat} {z : Value} (h : w.cell? ⟨q,i,none⟩ = some z) (hf : w.frozen? ⟨q,i,none⟩ = false) (a : Option Addr) (n c : Nat) : (Instr.storeAt 34 (.pointer (some ⟨q,i,none⟩)) (.slice a n c)).run Tryz.prog w = .ok () (w.setCell ⟨q,i,none⟩ (.slice a n c)):=by go_simp
set_option maxHeartbeats 1000000 in
theorem freshE8 (D : List En) (a : Option Addr) (n c : Nat) (w : World) (h : SlY yE w a n c D) (hb : n * 48 ≤ 281474976710656) :
  Calls Tryz.prog 129 #[.slice a n c] w fun e w' => e = .returned (.slice (some ⟨w.heap.size,0,none⟩) n n)∧OwnY yE w.heap.size w' (.slice (some ⟨w.heap.size,0,none⟩) n n) D∧Below w.heap.size w w':=by
 have hmx:=h.max;have hcp:=h.cap;have hln:=h.len
 unfold maxLen at hmx
 have H:=hide h;have HN:=hide hln;clear h hln
 go_enter Tryz.func129,Tryz.ntmps129
 go_wp2_with (at_make;go_must (refine makeYs kE _ rfl (.tmp 5) rfl n rfl (by unfold maxLen;omega) hb ?zk))
 intro w1 o1 b1;have O1:=hide o1;have B1:=hide b1;have H1:=hide (H.out.later b1);have z1:=b1.size;clear o1 b1
 go_wp2_with (refine copyYc kE _ rfl (.tmp 7) (.tmp 8) 28 rfl w.heap.size w.heap.size n n 0 n n c n a _ D (by rfl) rfl O1.out H1.out (by omega) (Nat.le_refl _) ?zm)
 intro w2 o2 u2 z2
 have hp : put (List.replicate n yE.z) 0 D = D:=by
  unfold put
  rw [List.take_zero,List.nil_append,List.drop_of_length_le (by rw [List.length_replicate,HN.out];omega),List.append_nil]
 rw [hp] at o2;have O2:=hide o2;have B2:=hide (B1.out.trans (u2.below z1 (fun k e => by subst e;exact Nat.le_refl _)));clear o2 u2 hp
 go_wp2
 go_ret
 exact ⟨rfl,O2.out,B2.out⟩
set_option maxHeartbeats 1000000 in
theorem freshV8 (D : List (Int × Int)) (a : Option Addr) (n c : Nat) (w : World) (h : SlY yD w a n c D) (hb : n * 16 ≤ 281474976710656) :
  Calls Tryz.prog 130 #[.slice a n c] w fun e w' => e = .returned (.slice (some ⟨w.heap.size,0,none⟩) n n)∧OwnY yD w.heap.size w' (.slice (some ⟨w.heap.size,0,none⟩) n n) D∧Below w.heap.size w w':=by
 have hmx:=h.max;have hcp:=h.cap;have hln:=h.len
 unfold maxLen at hmx
 have H:=hide h;have HN:=hide hln;clear h hln
 go_enter Tryz.func130,Tryz.ntmps130
 go_wp2_with (at_make;go_must (refine makeYs kD _ rfl (.tmp 5) rfl n rfl (by unfold maxLen;omega) hb ?zk))
 intro w1 o1 b1;have O1:=hide o1;have B1:=hide b1;have H1:=hide (H.out.later b1);have z1:=b1.size;clear o1 b1
 go_wp2_with (refine copyYc kD _ rfl (.tmp 7) (.tmp 8) 30 rfl w.heap.size w.heap.size n n 0 n n c n a _ D (by rfl) rfl O1.out H1.out (by omega) (Nat.le_refl _) ?zm)
 intro w2 o2 u2 z2
 have hp : put (List.replicate n yD.z) 0 D = D:=by
  unfold put
  rw [List.take_zero,List.nil_append,List.drop_of_length_le (by rw [List.length_replicate,HN.out];omega),List.append_nil]
 rw [hp] at o2;have O2:=hide o2;have B2:=hide (B1.out.trans (u2.below z1 (fun k e => by subst e;exact Nat.le_refl _)));clear o2 u2 hp
 go_wp2
 go_ret
 exact ⟨rfl,O2.out,B2.out⟩
set_option maxHeartbeats 1000000 in
theorem knowing8 (s : Sta) (av : Option Addr) (cv : Nat) (D : List (Int × Int)) (w : World) (hI : s.In w) (hF : s.Fit) (hD : SlY yD w av D.length cv D) (hDl : D.length * 16 ≤ 140737488351232) : Calls Tryz.prog 83 #[s.val,.slice av D.length cv] w fun e w' => ∃ t : Sta,e = .returned t.val∧t.Kn w.heap.size s D w'∧t.Lo w.heap.size∧Below w.heap.size w w':=by
 go_enter Tryz.func83,Tryz.ntmps83
 go_upto_region 0 with fail
 refine wp_region_lit ?_;refine vl_gen (fun T => T.size = 33∧T[0]? = some (gw true (s.val))∧T[1]? = some (gw true (.slice av D.length cv))) ⟨rfl,rfl,rfl⟩ (fun Z0 ⟨hz,s0,s1⟩ => ?_)
 obtain ⟨w1,hw1⟩ : ∃ y,y = w.alloc (.cells s.cs.toArray 36):=⟨_,rfl⟩
 have hb : Below w.heap.size w w1:=by rw [hw1];exact (Below.refl _ _).alloc (Nat.le_refl _) _
 have hs1 : w1.heap.size = w.heap.size + 1:=by rw [hw1];simp
 have HS : SB7 w1 (w.heap.size) s:=by rw [hw1];exact BX7.new _ _ _
 refine vw (.pointer (some ⟨w.heap.size,0,none⟩)) w1 (want_none rfl) (ex_box8 rfl (ev s0 rfl) (by rw [hw1];exact bxS7 _ _)) rfl hz (by decide) (fun Z1 zz kk s2x => ?_);replace s1:=ku s1;clear kk hz s0 hw1;have hz:=zz;have s2:=s2x;clear zz s2x;have hB:=hb;clear hb;have hv0 : Below w1.heap.size w1 w1:=Below.refl _ _
 obtain ⟨w2,hw2⟩ : ∃ y,y = w1.alloc (.cells zS8.cs.toArray 36):=⟨_,rfl⟩
 have hb : Below w1.heap.size w1 w2:=by rw [hw2];exact (Below.refl _ _).alloc (Nat.le_refl _) _
 have HZ : SB7 w2 (w.heap.size + 1) zS8:=by rw [hw2,← hs1];exact BX7.new _ _ _
 have hz2 : w2.heap.size = w.heap.size + 2:=by rw [hw2];simp;omega
 have q75_0:=((Rp.nil hz).cons s1).cons s2;clear hz s1 s2;refine vw (.pointer (some ⟨w.heap.size + 1,0,none⟩)) w2 (want_none rfl) (ex_al rfl (by rw [hw2,← hs1];exact al12 _)) rfl q75_0.z (by decide) (q75_0.k fun Ya q75_1 => ?_);clear q75_0;have hz:=q75_1.z;have s1:=q75_1.a 1 rfl;have s2:=q75_1.a 2 rfl;have s4:=q75_1.a 4 rfl;clear q75_1;refine wpList_nil ?_;have hB2 : Below w.heap.size w w2:=hB.trans (hb.mono (by omega));have HS:=HS.bel hb;clear hb hw2 hv0 hB;have hB:=hB2;clear hB2;have f1:=hF.ll;have f2:=hF.al;have f3:=hF.ml;have f4:=hF.bl;have f5:=hF.nl;have hzB : w2.heap.size ≤ w2.heap.size:=Nat.le_refl _
 go_upto_region 1 with fail
 refine wp_region_lit ?_;have q76_0:=(((Rp.nil hz).cons s1).cons s2).cons s4;clear hz s1 s2 s4
 refine q76_0.t (.pointer (some ⟨w.heap.size,4,none⟩)) (ex_fa rfl (q76_0.e (j:=2) rfl) (faS4 _ _)) fun _ q76_1 => ?_;clear q76_0
 refine q76_1.t (.slice s.la s.L.length s.lc) (ex_ld rfl (q76_1.e (j:=5) rfl) (ldE8 (HS.cell 4 _ rfl))) fun _ q76_2 => ?_;clear q76_1
 refine vcallP (want_none rfl) (ex_call rfl (by simp only [List.map_toArray,List.map_cons,List.map_nil,(q76_2.e (j:=6) rfl),evc] <;> rfl) rfl) (freshE8 s.L s.la _ s.lc w2 (hI.later hB).l (by omega)) rfl q76_2.z (by decide) ?_;rintro e x1 ⟨rfl,oL,bL⟩;refine ⟨_,rfl,q76_2.k fun Yb q76_3 => ?_⟩;clear q76_2;have HS:=HS.bel bL;have HZ:=HZ.bel bL;have hB:=hB.trans (bL.mono (by omega));have hzB:=Nat.le_trans hzB bL.size;clear bL;have pL:=Fr8.of_own (B:=w2.heap.size) kE oL (Nat.le_refl _);clear oL
 refine q76_3.t _ (ex_move rfl (q76_3.e (j:=1) rfl)) fun _ q76_4 => ?_;clear q76_3
 refine vcallP (want_none rfl) (ex_call rfl (by simp only [List.map_toArray,List.map_cons,List.map_nil,(q76_4.e (j:=8) rfl),evc] <;> rfl) rfl) (freshV8 D av _ cv x1 (hD.later hB) (by omega)) rfl q76_4.z (by decide) ?_;rintro e x2 ⟨rfl,oV,bV⟩;refine ⟨_,rfl,q76_4.k fun Yc q76_5 => ?_⟩;clear q76_4;have pV:=Fr8.of_own (B:=w2.heap.size) kD oV hzB;have HS:=HS.bel bV;have HZ:=HZ.bel bV;have hB:=hB.trans (bV.mono (by omega));have pL:=pL.later bV;have hzB:=Nat.le_trans hzB bV.size;clear bV;clear oV
 refine q76_5.t (.pointer (some ⟨w.heap.size,4,none⟩)) (ex_fa rfl (q76_5.e (j:=2) rfl) (faS4 _ _)) fun _ q76_6 => ?_;clear q76_5
 refine vs (x2.setCell ⟨w.heap.size,4,none⟩ (.slice (some ⟨w2.heap.size,0,none⟩) s.L.length s.L.length)) (want_none rfl) (ex_st rfl (q76_6.e (j:=10) rfl) (q76_6.e (j:=7) rfl) (stE8 (HS.cell 4 _ rfl) (HS.free 4) _ _ _)) rfl ?_;have US : Upd (fun k => k = w.heap.size) x2 (x2.setCell ⟨w.heap.size,4,none⟩ (.slice (some ⟨w2.heap.size,0,none⟩) s.L.length s.L.length)):=(Upd.refl (fun k => k = w.heap.size) _).setCell (p:=⟨w.heap.size,4,none⟩) (.inl rfl) _;have HSn:=HS.set (j:=4) (by simp [Sta.cs]) (.slice (some ⟨w2.heap.size,0,none⟩) s.L.length s.L.length)
 obtain ⟨y1,hy1⟩ : ∃ v,v = (x2.setCell ⟨w.heap.size,4,none⟩ (.slice (some ⟨w2.heap.size,0,none⟩) s.L.length s.L.length)):=⟨_,rfl⟩
 rw [← hy1] at US HSn ⊢;clear hy1 HS;have HS : SB7 y1 (w.heap.size) { s with la:=some ⟨w2.heap.size,0,none⟩,lc:=s.L.length }:=HSn;clear HSn;have HZ:=HZ.upd US (by show ¬ w.heap.size + 1 = w.heap.size;omega);have hB:=hB.trans (US.below hB.size (fun k hk => by omega));have pL:=pL.set US (by omega);have pV:=pV.set US (by omega);have hzB:=Nat.le_trans hzB US.size;clear US
 refine q76_6.t (.pointer (some ⟨w.heap.size,6,none⟩)) (ex_fa rfl (q76_6.e (j:=2) rfl) (faS6 _ _)) fun _ q76_7 => ?_;clear q76_6
 refine vs (y1.setCell ⟨w.heap.size,6,none⟩ (.slice (some ⟨x1.heap.size,0,none⟩) D.length D.length)) (want_none rfl) (ex_st rfl (q76_7.e (j:=11) rfl) (q76_7.e (j:=9) rfl) (stV8 (HS.cell 6 _ rfl) (HS.free 6) _ _ _)) rfl ?_;have US : Upd (fun k => k = w.heap.size) y1 (y1.setCell ⟨w.heap.size,6,none⟩ (.slice (some ⟨x1.heap.size,0,none⟩) D.length D.length)):=(Upd.refl (fun k => k = w.heap.size) _).setCell (p:=⟨w.heap.size,6,none⟩) (.inl rfl) _;have HSn:=HS.set (j:=6) (by simp [Sta.cs]) (.slice (some ⟨x1.heap.size,0,none⟩) D.length D.length)
 obtain ⟨y2,hy2⟩ : ∃ v,v = (y1.setCell ⟨w.heap.size,6,none⟩ (.slice (some ⟨x1.heap.size,0,none⟩) D.length D.length)):=⟨_,rfl⟩
 rw [← hy2] at US HSn ⊢;clear hy2 HS;have HS : SB7 y2 (w.heap.size) { s with la:=some ⟨w2.heap.size,0,none⟩,lc:=s.L.length,va:=some ⟨x1.heap.size,0,none⟩,vc:=D.length,V:=D }:=HSn;clear HSn;have HZ:=HZ.upd US (by show ¬ w.heap.size + 1 = w.heap.size;omega);have hB:=hB.trans (US.below hB.size (fun k hk => by omega));have pL:=pL.set US (by omega);have pV:=pV.set US (by omega);have hzB:=Nat.le_trans hzB US.size;clear US;have hz:=q76_7.z;have s1:=q76_7.a 1 rfl;have s2:=q76_7.a 2 rfl;have s4:=q76_7.a 4 rfl;clear q76_7;refine wpList_nil ?_;have hb : Below y2.heap.size y2 y2.drew:=(Below.refl _ _).drew;have HS0:=HS;have hS:=hb;have HS:=HS.bel hb;have HZ:=HZ.bel hb;have hB:=hB.trans (hb.mono (by omega));have pL:=pL.later hb;have pV:=pV.later hb;have hzB:=Nat.le_trans hzB hb.size;clear hb
 go_upto_region 2 with fail
 refine vg_start (fun k => k == 9 || k == 11) (fun v => Below y2.heap.size y2 v) (by kernel_rfl) ?_;have q77_0:=(((Rp.nil hz).cons s1).cons s2).cons s4;clear hz s1 s2 s4;refine vg_takeW 0 true (.pointer (some ⟨w.heap.size,8,none⟩)) rfl (by kernel_rfl) (by kernel_rfl) (by kernel_rfl) (by kernel_rfl) (want_none rfl) (fun hc v => ex_fa rfl (q77_0.e (j:=2) rfl) (faS8 _ _)) rfl q77_0.z (by decide) (fun _ => hS) (q77_0.k fun Yd q77_1 => ?_);clear q77_0;refine vg_take 1 true (.slice s.ka s.A.length s.kc) rfl (by kernel_rfl) (by kernel_rfl) (by kernel_rfl) (by kernel_rfl) (by kernel_rfl) (by kernel_rfl) (want_none rfl) (fun hc v hv => ex_ld rfl (q77_1.e (j:=12) rfl) (ldK8 (cell8 (HS0.cell 8 _ rfl) hv))) rfl q77_1.z (by decide) hS (q77_1.k fun Ye q77_2 => ?_);clear q77_1;refine vg_takeW 2 true (.slice av D.length cv) rfl (by kernel_rfl) (by kernel_rfl) (by kernel_rfl) (by kernel_rfl) (want_none rfl) (fun hc v => ex_move rfl (q77_2.e (j:=1) rfl)) rfl q77_2.z (by decide) (fun _ => hS) (q77_2.k fun Yf q77_3 => ?_);clear q77_2;refine vg_takeW 4 true (.pointer (some ⟨w.heap.size,9,none⟩)) rfl (by kernel_rfl) (by kernel_rfl) (by kernel_rfl) (by kernel_rfl) (want_none rfl) (fun hc v => ex_fa rfl (q77_3.e (j:=2) rfl) (faS9 _ _)) rfl q77_3.z (by decide) (fun _ => hS) (q77_3.k fun Yg q77_4 => ?_);clear q77_3;refine vg_take 5 true (.slice s.ma s.M.length s.mc) rfl (by kernel_rfl) (by kernel_rfl) (by kernel_rfl) (by kernel_rfl) (by kernel_rfl) (by kernel_rfl) (want_none rfl) (fun hc v hv => ex_ld rfl (q77_4.e (j:=16) rfl) (ldM8 (cell8 (HS0.cell 9 _ rfl) hv))) rfl q77_4.z (by decide) hS (q77_4.k fun Yh q77_5 => ?_);clear q77_4;refine vg_takeW 6 true (.slice av D.length cv) rfl (by kernel_rfl) (by kernel_rfl) (by kernel_rfl) (by kernel_rfl) (want_none rfl) (fun hc v => ex_move rfl (q77_5.e (j:=1) rfl)) rfl q77_5.z (by decide) (fun _ => hS) (q77_5.k fun Yi q77_6 => ?_);clear q77_5;refine vg_call 3 rfl (by kernel_rfl) (want_none rfl) (ex_call rfl (by simp only [List.map_toArray,List.map_cons,List.map_nil,(q77_6.e (j:=13) rfl),(q77_6.e (j:=14) rfl),evc] <;> rfl) rfl) (Ak.Prune_any s.A D s.ka av _ s.kc _ cv y2.drew (hI.later hB).a (hD.later hB) (by omega)) rfl q77_6.z (by decide) ?_;rintro e z1 ⟨vAk,rfl,oAk,bAk⟩;obtain ⟨aAk,cAk,rfl,_,_⟩:=oAk.sl kAkA;have hS:=hS.trans (bAk.mono hS.size);refine ⟨_,rfl,hS,q77_6.k fun Yj q77_7 => ?_⟩;clear q77_6;have pAk:=Fr8.of_own (B:=w2.heap.size) kAkA oAk hzB;have HS:=HS.bel bAk;have HZ:=HZ.bel bAk;have hB:=hB.trans (bAk.mono (by omega));have pL:=pL.later bAk;have pV:=pV.later bAk;have hzB:=Nat.le_trans hzB bAk.size;clear bAk;clear oAk;refine vg_takeW 8 true (.pointer (some ⟨w.heap.size,8,none⟩)) rfl (by kernel_rfl) (by kernel_rfl) (by kernel_rfl) (by kernel_rfl) (want_none rfl) (fun hc v => ex_fa rfl (q77_7.e (j:=2) rfl) (faS8 _ _)) rfl q77_7.z (by decide) (fun _ => hS) (q77_7.k fun Yk q77_8 => ?_);clear q77_7;refine vg_call 7 rfl (by kernel_rfl) (want_none rfl) (ex_call rfl (by simp only [List.map_toArray,List.map_cons,List.map_nil,(q77_8.e (j:=17) rfl),(q77_8.e (j:=18) rfl),evc] <;> rfl) rfl) (Mk.Prune_any s.M D s.ma av _ s.mc _ cv z1 (hI.later hB).m (hD.later hB) (by omega)) rfl q77_8.z (by decide) ?_;rintro e z2 ⟨vMk,rfl,oMk,bMk⟩;obtain ⟨aMk,cMk,rfl,_,_⟩:=oMk.sl kMkA;have hS:=hS.trans (bMk.mono hS.size);refine ⟨_,rfl,hS,q77_8.k fun Yl q77_9 => ?_⟩;clear q77_8;have pMk:=Fr8.of_own (B:=w2.heap.size) kMkA oMk hzB;have HS:=HS.bel bMk;have HZ:=HZ.bel bMk;have hB:=hB.trans (bMk.mono (by omega));have pL:=pL.later bMk;have pV:=pV.later bMk;have pAk:=pAk.later bMk;have hzB:=Nat.le_trans hzB bMk.size;clear bMk;clear oMk;refine vg_store 9 (z2.setCell ⟨w.heap.size,8,none⟩ (.slice aAk (Ak.prn s.A D).length cAk)) rfl (by kernel_rfl) (by kernel_rfl) (want_none rfl) (ex_st rfl (q77_9.e (j:=20) rfl) (q77_9.e (j:=15) rfl) (stK8 (HS.cell 8 _ rfl) (HS.free 8) _ _ _)) rfl ?_;have US : Upd (fun k => k = w.heap.size) z2 (z2.setCell ⟨w.heap.size,8,none⟩ (.slice aAk (Ak.prn s.A D).length cAk)):=(Upd.refl (fun k => k = w.heap.size) _).setCell (p:=⟨w.heap.size,8,none⟩) (.inl rfl) _;have HSn:=HS.set (j:=8) (by simp [Sta.cs]) (.slice aAk (Ak.prn s.A D).length cAk)
 obtain ⟨u1,hu1⟩ : ∃ v,v = (z2.setCell ⟨w.heap.size,8,none⟩ (.slice aAk (Ak.prn s.A D).length cAk)):=⟨_,rfl⟩
 rw [← hu1] at US HSn ⊢;clear hu1 HS;have HS : SB7 u1 (w.heap.size) { s with la:=some ⟨w2.heap.size,0,none⟩,lc:=s.L.length,va:=some ⟨x1.heap.size,0,none⟩,vc:=D.length,V:=D,ka:=aAk,kc:=cAk,A:=Ak.prn s.A D }:=HSn;clear HSn;have HZ:=HZ.upd US (by show ¬ w.heap.size + 1 = w.heap.size;omega);have hB:=hB.trans (US.below hB.size (fun k hk => by omega));have pL:=pL.set US (by omega);have pV:=pV.set US (by omega);have pAk:=pAk.set US (by omega);have pMk:=pMk.set US (by omega);have hzB:=Nat.le_trans hzB US.size;clear US;refine vg_takeW 10 true (.pointer (some ⟨w.heap.size,9,none⟩)) rfl (by kernel_rfl) (by kernel_rfl) (by kernel_rfl) (by kernel_rfl) (want_none rfl) (fun hc v => ex_fa rfl (q77_9.e (j:=2) rfl) (faS9 _ _)) rfl q77_9.z (by decide) (late_no 9 (by kernel_rfl)) (q77_9.k fun Ym q77_10 => ?_);clear q77_9;refine vg_store 11 (u1.setCell ⟨w.heap.size,9,none⟩ (.slice aMk (Mk.prn s.M D).length cMk)) rfl (by kernel_rfl) (by kernel_rfl) (want_none rfl) (ex_st rfl (q77_10.e (j:=21) rfl) (q77_10.e (j:=19) rfl) (stM8 (HS.cell 9 _ rfl) (HS.free 9) _ _ _)) rfl ?_;have US : Upd (fun k => k = w.heap.size) u1 (u1.setCell ⟨w.heap.size,9,none⟩ (.slice aMk (Mk.prn s.M D).length cMk)):=(Upd.refl (fun k => k = w.heap.size) _).setCell (p:=⟨w.heap.size,9,none⟩) (.inl rfl) _;have HSn:=HS.set (j:=9) (by simp [Sta.cs]) (.slice aMk (Mk.prn s.M D).length cMk)
 obtain ⟨u2,hu2⟩ : ∃ v,v = (u1.setCell ⟨w.heap.size,9,none⟩ (.slice aMk (Mk.prn s.M D).length cMk)):=⟨_,rfl⟩
 rw [← hu2] at US HSn ⊢;clear hu2 HS;have HS : SB7 u2 (w.heap.size) { s with la:=some ⟨w2.heap.size,0,none⟩,lc:=s.L.length,va:=some ⟨x1.heap.size,0,none⟩,vc:=D.length,V:=D,ka:=aAk,kc:=cAk,A:=Ak.prn s.A D,ma:=aMk,mc:=cMk,M:=Mk.prn s.M D }:=HSn;clear HSn;have HZ:=HZ.upd US (by show ¬ w.heap.size + 1 = w.heap.size;omega);have hB:=hB.trans (US.below hB.size (fun k hk => by omega));have pL:=pL.set US (by omega);have pV:=pV.set US (by omega);have pAk:=pAk.set US (by omega);have pMk:=pMk.set US (by omega);have hzB:=Nat.le_trans hzB US.size;clear US;have hz:=q77_10.z;have s1:=q77_10.a 1 rfl;have s2:=q77_10.a 2 rfl;have s4:=q77_10.a 4 rfl;clear q77_10;refine vg_done (by kernel_rfl) ?_;clear HS0 hS;have hb : Below u2.heap.size u2 u2.drew:=(Below.refl _ _).drew;have HS0:=HS;have hS:=hb;have HS:=HS.bel hb;have HZ:=HZ.bel hb;have hB:=hB.trans (hb.mono (by omega));have pL:=pL.later hb;have pV:=pV.later hb;have pAk:=pAk.later hb;have pMk:=pMk.later hb;have hzB:=Nat.le_trans hzB hb.size;clear hb
 go_upto_region 3 with fail
 refine vg_start (fun k => k == 9 || k == 11) (fun v => Below u2.heap.size u2 v) (by kernel_rfl) ?_;have q78_0:=(((Rp.nil hz).cons s1).cons s2).cons s4;clear hz s1 s2 s4;refine vg_takeW 0 true (.pointer (some ⟨w.heap.size,10,none⟩)) rfl (by kernel_rfl) (by kernel_rfl) (by kernel_rfl) (by kernel_rfl) (want_none rfl) (fun hc v => ex_fa rfl (q78_0.e (j:=2) rfl) (faS10 _ _)) rfl q78_0.z (by decide) (fun _ => hS) (q78_0.k fun Yn q78_1 => ?_);clear q78_0;refine vg_take 1 true (.slice s.ba s.B.length s.bc) rfl (by kernel_rfl) (by kernel_rfl) (by kernel_rfl) (by kernel_rfl) (by kernel_rfl) (by kernel_rfl) (want_none rfl) (fun hc v hv => ex_ld rfl (q78_1.e (j:=22) rfl) (ldB8 (cell8 (HS0.cell 10 _ rfl) hv))) rfl q78_1.z (by decide) hS (q78_1.k fun Yo q78_2 => ?_);clear q78_1;refine vg_takeW 2 true (.slice av D.length cv) rfl (by kernel_rfl) (by kernel_rfl) (by kernel_rfl) (by kernel_rfl) (want_none rfl) (fun hc v => ex_move rfl (q78_2.e (j:=1) rfl)) rfl q78_2.z (by decide) (fun _ => hS) (q78_2.k fun Yp q78_3 => ?_);clear q78_2;refine vg_takeW 4 true (.pointer (some ⟨w.heap.size,11,none⟩)) rfl (by kernel_rfl) (by kernel_rfl) (by kernel_rfl) (by kernel_rfl) (want_none rfl) (fun hc v => ex_fa rfl (q78_3.e (j:=2) rfl) (faS11 _ _)) rfl q78_3.z (by decide) (fun _ => hS) (q78_3.k fun Yq q78_4 => ?_);clear q78_3;refine vg_take 5 true (.slice s.na s.N.length s.nc) rfl (by kernel_rfl) (by kernel_rfl) (by kernel_rfl) (by kernel_rfl) (by kernel_rfl) (by kernel_rfl) (want_none rfl) (fun hc v hv => ex_ld rfl (q78_4.e (j:=26) rfl) (ldN8 (cell8 (HS0.cell 11 _ rfl) hv))) rfl q78_4.z (by decide) hS (q78_4.k fun Yr q78_5 => ?_);clear q78_4;refine vg_takeW 6 true (.slice av D.length cv) rfl (by kernel_rfl) (by kernel_rfl) (by kernel_rfl) (by kernel_rfl) (want_none rfl) (fun hc v => ex_move rfl (q78_5.e (j:=1) rfl)) rfl q78_5.z (by decide) (fun _ => hS) (q78_5.k fun Ys q78_6 => ?_);clear q78_5;refine vg_call 3 rfl (by kernel_rfl) (want_none rfl) (ex_call rfl (by simp only [List.map_toArray,List.map_cons,List.map_nil,(q78_6.e (j:=23) rfl),(q78_6.e (j:=24) rfl),evc] <;> rfl) rfl) (Bl.Prune_any s.B D s.ba av _ s.bc _ cv u2.drew (hI.later hB).b (hD.later hB) (hI.later hB).bl (by omega)) rfl q78_6.z (by decide) ?_;rintro e z3 ⟨vBl,RBl,rfl,oBl,tBl,bBl⟩;obtain ⟨aBl,cBl,rfl,_,_⟩:=oBl.sl kBlA;have hS:=hS.trans (bBl.mono hS.size);refine ⟨_,rfl,hS,q78_6.k fun Yt q78_7 => ?_⟩;clear q78_6;have pBl:=Fr8.of_own (B:=w2.heap.size) kBlA oBl hzB;have tBl:=tBl.low (B':=w2.heap.size) hzB;have HS:=HS.bel bBl;have HZ:=HZ.bel bBl;have hB:=hB.trans (bBl.mono (by omega));have pL:=pL.later bBl;have pV:=pV.later bBl;have pAk:=pAk.later bBl;have pMk:=pMk.later bBl;have hzB:=Nat.le_trans hzB bBl.size;clear bBl;clear oBl;refine vg_takeW 8 true (.pointer (some ⟨w.heap.size,10,none⟩)) rfl (by kernel_rfl) (by kernel_rfl) (by kernel_rfl) (by kernel_rfl) (want_none rfl) (fun hc v => ex_fa rfl (q78_7.e (j:=2) rfl) (faS10 _ _)) rfl q78_7.z (by decide) (fun _ => hS) (q78_7.k fun Yu q78_8 => ?_);clear q78_7;refine vg_call 7 rfl (by kernel_rfl) (want_none rfl) (ex_call rfl (by simp only [List.map_toArray,List.map_cons,List.map_nil,(q78_8.e (j:=27) rfl),(q78_8.e (j:=28) rfl),evc] <;> rfl) rfl) (An.Prune_any s.N D s.na av _ s.nc _ cv z3 (hI.later hB).n (hD.later hB) (hI.later hB).nl (by omega)) rfl q78_8.z (by decide) ?_;rintro e z4 ⟨vAn,RAn,rfl,oAn,tAn,bAn⟩;obtain ⟨aAn,cAn,rfl,_,_⟩:=oAn.sl kAnA;have hS:=hS.trans (bAn.mono hS.size);refine ⟨_,rfl,hS,q78_8.k fun Yv q78_9 => ?_⟩;clear q78_8;have pAn:=Fr8.of_own (B:=w2.heap.size) kAnA oAn hzB;have tAn:=tAn.low (B':=w2.heap.size) hzB;have HS:=HS.bel bAn;have HZ:=HZ.bel bAn;have hB:=hB.trans (bAn.mono (by omega));have pL:=pL.later bAn;have pV:=pV.later bAn;have pAk:=pAk.later bAn;have pMk:=pMk.later bAn;have pBl:=pBl.later bAn;have tBl:=tBl.bel bAn;have hzB:=Nat.le_trans hzB bAn.size;clear bAn;clear oAn;refine vg_store 9 (z4.setCell ⟨w.heap.size,10,none⟩ (.slice aBl RBl.length cBl)) rfl (by kernel_rfl) (by kernel_rfl) (want_none rfl) (ex_st rfl (q78_9.e (j:=30) rfl) (q78_9.e (j:=25) rfl) (stB8 (HS.cell 10 _ rfl) (HS.free 10) _ _ _)) rfl ?_;have US : Upd (fun k => k = w.heap.size) z4 (z4.setCell ⟨w.heap.size,10,none⟩ (.slice aBl RBl.length cBl)):=(Upd.refl (fun k => k = w.heap.size) _).setCell (p:=⟨w.heap.size,10,none⟩) (.inl rfl) _;have HSn:=HS.set (j:=10) (by simp [Sta.cs]) (.slice aBl RBl.length cBl)
 obtain ⟨u3,hu3⟩ : ∃ v,v = (z4.setCell ⟨w.heap.size,10,none⟩ (.slice aBl RBl.length cBl)):=⟨_,rfl⟩
 rw [← hu3] at US HSn ⊢;clear hu3 HS;have HS : SB7 u3 (w.heap.size) { s with la:=some ⟨w2.heap.size,0,none⟩,lc:=s.L.length,va:=some ⟨x1.heap.size,0,none⟩,vc:=D.length,V:=D,ka:=aAk,kc:=cAk,A:=Ak.prn s.A D,ma:=aMk,mc:=cMk,M:=Mk.prn s.M D,ba:=aBl,bc:=cBl,B:=RBl }:=HSn;clear HSn;have HZ:=HZ.upd US (by show ¬ w.heap.size + 1 = w.heap.size;omega);have hB:=hB.trans (US.below hB.size (fun k hk => by omega));have pL:=pL.set US (by omega);have pV:=pV.set US (by omega);have pAk:=pAk.set US (by omega);have pMk:=pMk.set US (by omega);have pBl:=pBl.set US (by omega);have tBl:=tBl.set8 US (by omega);have pAn:=pAn.set US (by omega);have tAn:=tAn.set8 US (by omega);have hzB:=Nat.le_trans hzB US.size;clear US;refine vg_takeW 10 true (.pointer (some ⟨w.heap.size,11,none⟩)) rfl (by kernel_rfl) (by kernel_rfl) (by kernel_rfl) (by kernel_rfl) (want_none rfl) (fun hc v => ex_fa rfl (q78_9.e (j:=2) rfl) (faS11 _ _)) rfl q78_9.z (by decide) (late_no 9 (by kernel_rfl)) (q78_9.k fun Yw q78_10 => ?_);clear q78_9;refine vg_store 11 (u3.setCell ⟨w.heap.size,11,none⟩ (.slice aAn RAn.length cAn)) rfl (by kernel_rfl) (by kernel_rfl) (want_none rfl) (ex_st rfl (q78_10.e (j:=31) rfl) (q78_10.e (j:=29) rfl) (stN8 (HS.cell 11 _ rfl) (HS.free 11) _ _ _)) rfl ?_;have US : Upd (fun k => k = w.heap.size) u3 (u3.setCell ⟨w.heap.size,11,none⟩ (.slice aAn RAn.length cAn)):=(Upd.refl (fun k => k = w.heap.size) _).setCell (p:=⟨w.heap.size,11,none⟩) (.inl rfl) _;have HSn:=HS.set (j:=11) (by simp [Sta.cs]) (.slice aAn RAn.length cAn)
 obtain ⟨u4,hu4⟩ : ∃ v,v = (u3.setCell ⟨w.heap.size,11,none⟩ (.slice aAn RAn.length cAn)):=⟨_,rfl⟩
 rw [← hu4] at US HSn ⊢;clear hu4 HS;have HS : SB7 u4 (w.heap.size) { s with la:=some ⟨w2.heap.size,0,none⟩,lc:=s.L.length,va:=some ⟨x1.heap.size,0,none⟩,vc:=D.length,V:=D,ka:=aAk,kc:=cAk,A:=Ak.prn s.A D,ma:=aMk,mc:=cMk,M:=Mk.prn s.M D,ba:=aBl,bc:=cBl,B:=RBl,na:=aAn,nc:=cAn,N:=RAn }:=HSn;clear HSn;have HZ:=HZ.upd US (by show ¬ w.heap.size + 1 = w.heap.size;omega);have hB:=hB.trans (US.below hB.size (fun k hk => by omega));have pL:=pL.set US (by omega);have pV:=pV.set US (by omega);have pAk:=pAk.set US (by omega);have pMk:=pMk.set US (by omega);have pBl:=pBl.set US (by omega);have tBl:=tBl.set8 US (by omega);have pAn:=pAn.set US (by omega);have tAn:=tAn.set8 US (by omega);have hzB:=Nat.le_trans hzB US.size;clear US;have hz:=q78_10.z;have s1:=q78_10.a 1 rfl;have s2:=q78_10.a 2 rfl;have s4:=q78_10.a 4 rfl;clear q78_10;refine vg_done (by kernel_rfl) ?_;clear HS0 hS
 go_upto_region 4 with fail
 refine wp_region_lit ?_;have q79_0:=(((Rp.nil hz).cons s1).cons s2).cons s4;clear hz s1 s2 s4
 refine q79_0.t (Sta.val { s with la:=some ⟨w2.heap.size,0,none⟩,lc:=s.L.length,va:=some ⟨x1.heap.size,0,none⟩,vc:=D.length,V:=D,ka:=aAk,kc:=cAk,A:=Ak.prn s.A D,ma:=aMk,mc:=cMk,M:=Mk.prn s.M D,ba:=aBl,bc:=cBl,B:=RBl,na:=aAn,nc:=cAn,N:=RAn }) (ex_ld rfl (q79_0.e (j:=2) rfl) (SB7.ld HS)) fun _ q79_1 => ?_;clear q79_0
 refine vs (sets u4 (w.heap.size + 1) 0 (Sta.cs { s with la:=some ⟨w2.heap.size,0,none⟩,lc:=s.L.length,va:=some ⟨x1.heap.size,0,none⟩,vc:=D.length,V:=D,ka:=aAk,kc:=cAk,A:=Ak.prn s.A D,ma:=aMk,mc:=cMk,M:=Mk.prn s.M D,ba:=aBl,bc:=cBl,B:=RBl,na:=aAn,nc:=cAn,N:=RAn })) (want_none rfl) (ex_st rfl (q79_1.e (j:=4) rfl) (q79_1.e (j:=32) rfl) (st12 HZ { s with la:=some ⟨w2.heap.size,0,none⟩,lc:=s.L.length,va:=some ⟨x1.heap.size,0,none⟩,vc:=D.length,V:=D,ka:=aAk,kc:=cAk,A:=Ak.prn s.A D,ma:=aMk,mc:=cMk,M:=Mk.prn s.M D,ba:=aBl,bc:=cBl,B:=RBl,na:=aAn,nc:=cAn,N:=RAn })) rfl ?_;have HP:=SB7.put HZ { s with la:=some ⟨w2.heap.size,0,none⟩,lc:=s.L.length,va:=some ⟨x1.heap.size,0,none⟩,vc:=D.length,V:=D,ka:=aAk,kc:=cAk,A:=Ak.prn s.A D,ma:=aMk,mc:=cMk,M:=Mk.prn s.M D,ba:=aBl,bc:=cBl,B:=RBl,na:=aAn,nc:=cAn,N:=RAn };have UP:=upd12 u4 (w.heap.size + 1) { s with la:=some ⟨w2.heap.size,0,none⟩,lc:=s.L.length,va:=some ⟨x1.heap.size,0,none⟩,vc:=D.length,V:=D,ka:=aAk,kc:=cAk,A:=Ak.prn s.A D,ma:=aMk,mc:=cMk,M:=Mk.prn s.M D,ba:=aBl,bc:=cBl,B:=RBl,na:=aAn,nc:=cAn,N:=RAn }
 obtain ⟨u9,hu9⟩ : ∃ v,v = sets u4 (w.heap.size + 1) 0 (Sta.cs { s with la:=some ⟨w2.heap.size,0,none⟩,lc:=s.L.length,va:=some ⟨x1.heap.size,0,none⟩,vc:=D.length,V:=D,ka:=aAk,kc:=cAk,A:=Ak.prn s.A D,ma:=aMk,mc:=cMk,M:=Mk.prn s.M D,ba:=aBl,bc:=cBl,B:=RBl,na:=aAn,nc:=cAn,N:=RAn }):=⟨_,rfl⟩
 rw [← hu9] at HP UP ⊢;have hB9:=hide (hB.trans (UP.below hB.size (fun k hk => by omega)));have pL:=pL.set UP (by omega);have pV:=pV.set UP (by omega);have pAk:=pAk.set UP (by omega);have pMk:=pMk.set UP (by omega);have pBl:=pBl.set UP (by omega);have tBl:=tBl.set8 UP (by omega);have pAn:=pAn.set UP (by omega);have tAn:=tAn.set8 UP (by omega);clear hu9 UP;have hz:=q79_1.z;have s4:=q79_1.a 4 rfl;clear q79_1;refine wpList_nil ?_
 go_wp2
 refine bodyPost_ret (results_sta rfl (getD_of s4) HP) rfl ?_
 exact ⟨_,rfl,⟨rfl,rfl,rfl,rfl,rfl,rfl,rfl,rfl,rfl,rfl,tBl.low (by omega),tAn.low (by omega),⟨pL.sl,pV.sl,pAk.sl,pMk.sl,pBl.sl,pAn.sl,tBl.in8,tAn.in8⟩⟩,Sta.Lo.low ⟨pL.lo,pV.lo,pAk.lo,pMk.lo,pBl.lo,pAn.lo⟩ (by omega),hB9.out⟩
set_option maxHeartbeats 1000000 in
theorem copied8 (s : Sta) (w : World) (hI : s.In w) (hF : s.Fit) : Calls Tryz.prog 80 #[s.val] w fun e w' => ∃ t : Sta,e = .returned t.val∧t.Kn w.heap.size s s.V w'∧t.Lo w.heap.size∧Below w.heap.size w w':=by
 go_enter Tryz.func80,Tryz.ntmps80
 go_upto_region 0 with fail
 refine wp_region_lit ?_;refine vl_gen (fun T => T.size = 7∧T[0]? = some (gw true (s.val))) ⟨rfl,rfl⟩ (fun Z0 ⟨hz,s0⟩ => ?_)
 obtain ⟨w1,hw1⟩ : ∃ y,y = w.alloc (.cells s.cs.toArray 36):=⟨_,rfl⟩
 have hb : Below w.heap.size w w1:=by rw [hw1];exact (Below.refl _ _).alloc (Nat.le_refl _) _
 have hs1 : w1.heap.size = w.heap.size + 1:=by rw [hw1];simp
 have HS : SB7 w1 (w.heap.size) s:=by rw [hw1];exact BX7.new _ _ _
 refine vw (.pointer (some ⟨w.heap.size,0,none⟩)) w1 (want_none rfl) (ex_box8 rfl (ev s0 rfl) (by rw [hw1];exact bxS7 _ _)) rfl hz (by decide) (fun Z1 zz kk s1x => ?_);clear kk hz s0 hw1;have hz:=zz;have s1:=s1x;clear zz s1x;have hB:=hb;clear hb;have hv0 : Below w1.heap.size w1 w1:=Below.refl _ _
 obtain ⟨w2,hw2⟩ : ∃ y,y = w1.alloc (.cells zS8.cs.toArray 36):=⟨_,rfl⟩
 have hb : Below w1.heap.size w1 w2:=by rw [hw2];exact (Below.refl _ _).alloc (Nat.le_refl _) _
 have HZ : SB7 w2 (w.heap.size + 1) zS8:=by rw [hw2,← hs1];exact BX7.new _ _ _
 have q80_0:=(Rp.nil hz).cons s1;clear hz s1;refine vw (.pointer (some ⟨w.heap.size + 1,0,none⟩)) w2 (want_none rfl) (ex_al rfl (by rw [hw2,← hs1];exact al12 _)) rfl q80_0.z (by decide) (q80_0.k fun Ya q80_1 => ?_);clear q80_0;have hz:=q80_1.z;have s1:=q80_1.a 1 rfl;have s2:=q80_1.a 2 rfl;clear q80_1;refine wpList_nil ?_;have hB:=hB.trans (hb.mono (by omega));have HS:=HS.bel hb;have HI:=hI.later hB;clear hb hw2 hv0;have hv0 : Below w2.heap.size w2 w2:=Below.refl _ _
 go_upto_region 1 with fail
 refine wp_region_lit ?_;have q81_0:=((Rp.nil hz).cons s1).cons s2;clear hz s1 s2
 refine q81_0.t (s.val) (ex_ld rfl (q81_0.e (j:=1) rfl) (SB7.ld (HS.bel hv0))) fun _ q81_1 => ?_;clear q81_0
 refine q81_1.t (.pointer (some ⟨w.heap.size,6,none⟩)) (ex_fa rfl (q81_1.e (j:=1) rfl) (faS6 _ _)) fun _ q81_2 => ?_;clear q81_1
 refine q81_2.t (.slice s.va s.V.length s.vc) (ex_ld rfl (q81_2.e (j:=4) rfl) (ldV8 (cell8 (HS.cell 6 _ rfl) hv0))) fun _ q81_3 => ?_;clear q81_2
 refine vcallP (want_none rfl) (ex_call rfl (by simp only [List.map_toArray,List.map_cons,List.map_nil,(q81_3.e (j:=3) rfl),(q81_3.e (j:=5) rfl),evc] <;> rfl) rfl) (knowing8 s s.va s.vc s.V w2 HI hF HI.v hF.vl) rfl q81_3.z (by decide) ?_;rintro e x1 ⟨t,rfl,hk,hlo,bk⟩;refine ⟨_,rfl,q81_3.k fun Yb q81_4 => ?_⟩;clear q81_3;have hz3:=HZ.lt;have HZ:=HZ.bel bk;have hz1:=hB.size;have hz2:=bk.size;have hB:=hB.trans (bk.mono hz1);clear bk;refine vs (sets x1 (w.heap.size + 1) 0 t.cs) (want_none rfl) (ex_st rfl (q81_4.e (j:=2) rfl) (q81_4.e (j:=6) rfl) (st12 HZ t)) rfl ?_;have HP:=SB7.put HZ t;have UP:=upd12 x1 (w.heap.size + 1) t
 obtain ⟨u9,hu9⟩ : ∃ v,v = sets x1 (w.heap.size + 1) 0 t.cs:=⟨_,rfl⟩
 rw [← hu9] at HP UP ⊢;have hB9:=hide (hB.trans (UP.below hB.size (fun k hk => by omega)));have hk2:=hk.set8 UP (by omega) hlo;clear hu9 UP hk;have hz:=q81_4.z;have s2:=q81_4.a 2 rfl;clear q81_4;refine wpList_nil ?_
 go_wp2
 refine bodyPost_ret (results_sta rfl (getD_of s2) HP) rfl ?_
 exact ⟨t,rfl,hk2.low8 (by omega),hlo.low (by omega),hB9.out⟩
end Go.Proofs.YtgncpcfncojgoaaGreatDoor
namespace Go.Proofs.YtgncpcfncojgoaaGreatDoor
open Go.RowKit Go.Maps Go.Shelf
open Classical
theorem nil_sl8 {α : Type} (Y : Lay α) (w : World) : SlY Y w none 0 0 []:=⟨rfl,Nat.le_refl _,Nat.zero_le _,fun _ => ⟨rfl,rfl⟩,fun x h => by cases h⟩
theorem zS8_in (w : World) : zS8.In w:=⟨nil_sl8 _ _,nil_sl8 _ _,nil_sl8 _ _,nil_sl8 _ _,nil_sl8 _ _,nil_sl8 _ _,(fun x h => by cases h),(fun x h => by cases h)⟩
theorem Sta.Kn.later8 {t : Sta} {B : Nat} {s : Sta} {D : List (Int × Int)} {w w' : World} (h : t.Kn B s D w) (hb : Below w.heap.size w w') : t.Kn B s D w' :=
 ⟨h.self,h.st,h.view,h.last,h.commit,h.idle,h.l,h.v,h.a,h.m,h.b.bel hb,h.n.bel hb,h.inn.later hb⟩
theorem Sta.In.idle8 {t : Sta} {w : World} (h : t.In w) {i : Int} : ({ t with idle:=i } : Sta).In w:=⟨h.l,h.v,h.a,h.m,h.b,h.n,h.bl,h.nl⟩
def still8 (c : Cg) (s : Sta) : Bool:=decide (s.st = 3) || (decide (s.st = 1) && decide (s.self = c.pr s.view))
def wtI8 (c : Cg) (s : Sta) : Int:=if still8 c s = true then s.idle else (s.idle + 1) % c.P
def Wt8 (B : Nat) (c : Cg) (s t : Sta) (b : Bool) (w : World) : Prop :=
 (s.ckE c ≠ 0∧t = zS8∧b = false) ∨ (s.ckE c = 0∧∃ t0 : Sta,t0.Kn B s s.V w∧t0.Lo B∧t = { t0 with idle:=wtI8 c s }∧b = (!still8 c s && decide (wtI8 c s = 0)))
theorem ck_idle8 {c : Cg} {s : Sta} (h : s.ckE c = 0) : c.okB = true∧0 ≤ s.idle∧s.idle < c.P:=by
 unfold Sta.ckE at h
 cases hok : c.okB with
 | false => rw [hok] at h;simp at h
 | true =>
  rw [hok] at h
  cases hs : s.stB c with
  | false => rw [hs] at h;simp at h
  | true =>
   simp only [Sta.stB,Bool.and_eq_true] at hs;have hn:=hs.1.1.1;simp only [Sta.numB,Bool.and_eq_true,inB_iff] at hn;have:=hn.2
   exact ⟨rfl,by omega,by omega⟩
set_option maxHeartbeats 1000000 in
theorem wait8 (c : Cg) (s : Sta) (w : World) (hI : s.In w) (hF : s.Fit) : Calls Tryz.prog 42 #[c.val,s.val] w fun e w' => ∃ (t : Sta) (b : Bool),e = .returned (.tuple #[t.val,.bool b,.int .i64 (s.ckE c)])∧t.In w'∧Wt8 w.heap.size c s t b w'∧Below w.heap.size w w':=by
 go_enter Tryz.func42,Tryz.ntmps42
 go_upto_region 0 with fail
 refine wp_region_lit ?_;refine vl_gen (fun T => T.size = 37∧T[0]? = some (gw true (c.val))∧T[1]? = some (gw true (s.val))) ⟨rfl,rfl,rfl⟩ (fun Z0 ⟨hz,s0,s1⟩ => ?_)
 obtain ⟨w1,hw1⟩ : ∃ y,y = w.alloc (.cells c.cs.toArray 23):=⟨_,rfl⟩
 have hb : Below w.heap.size w w1:=by rw [hw1];exact (Below.refl _ _).alloc (Nat.le_refl _) _
 have hs1 : w1.heap.size = w.heap.size + 1:=by rw [hw1];simp
 have HC : CB7 w1 (w.heap.size) c:=by rw [hw1];exact BX7.new _ _ _
 refine vw (.pointer (some ⟨w.heap.size,0,none⟩)) w1 (want_none rfl) (ex_box8 rfl (ev s0 rfl) (by rw [hw1];exact bxC7 _ _)) rfl hz (by decide) (fun Z1 zz kk s2x => ?_);replace s1:=ku s1;clear kk hz s0 hw1;have hz:=zz;have s2:=s2x;clear zz s2x;have hB:=hb;clear hb
 obtain ⟨w2,hw2⟩ : ∃ y,y = w1.alloc (.cells s.cs.toArray 36):=⟨_,rfl⟩
 have hb : Below w1.heap.size w1 w2:=by rw [hw2];exact (Below.refl _ _).alloc (Nat.le_refl _) _
 have hs2 : w2.heap.size = w.heap.size + 2:=by rw [hw2];simp;omega
 have HS : SB7 w2 (w.heap.size + 1) s:=by rw [hw2,← hs1];exact BX7.new _ _ _
 refine vw (.pointer (some ⟨w.heap.size + 1,0,none⟩)) w2 (want_none rfl) (ex_box8 rfl (ev s1 rfl) (by rw [hw2,← hs1];exact bxS7 _ _)) rfl hz (by decide) (fun Z2 zz kk s3x => ?_);replace s2:=ku s2;clear kk hz s1 hw2;have hz:=zz;have s3:=s3x;clear zz s3x;have hB:=hB.trans (hb.mono (by omega));have HC:=HC.bel hb;clear hb;have hv0 : Below w2.heap.size w2 w2:=Below.refl _ _
 obtain ⟨w3,hw3⟩ : ∃ y,y = w2.alloc (.cells zS8.cs.toArray 36):=⟨_,rfl⟩
 have hb : Below w2.heap.size w2 w3:=by rw [hw3];exact (Below.refl _ _).alloc (Nat.le_refl _) _
 have HZ : SB7 w3 (w.heap.size + 2) zS8:=by rw [hw3,← hs2];exact BX7.new _ _ _
 have hz3 : w3.heap.size = w.heap.size + 3:=by rw [hw3];simp;omega
 have q82_0:=((Rp.nil hz).cons s2).cons s3;clear hz s2 s3;refine vw (.pointer (some ⟨w.heap.size + 2,0,none⟩)) w3 (want_none rfl) (ex_al rfl (by rw [hw3,← hs2];exact al12 _)) rfl q82_0.z (by decide) (q82_0.k fun Ya q82_1 => ?_);clear q82_0
 refine q82_1.t (.bool false) (ex_assign rfl rfl) fun _ q82_2 => ?_;clear q82_1
 refine q82_2.t (.int .i64 0) (ex_assign rfl rfl) fun _ q82_3 => ?_;clear q82_2
 have hz:=q82_3.z;have s2:=q82_3.a 2 rfl;have s3:=q82_3.a 3 rfl;have s4:=q82_3.a 4 rfl;clear q82_3;refine wpList_nil ?_;have hB:=hB.trans (hb.mono (by omega));have HS:=HS.bel hb;have HC:=HC.bel hb;have HI:=hI.later hB;clear hb hw3 hv0;have hv0 : Below w3.heap.size w3 w3:=Below.refl _ _
 go_upto_region 1 with fail
 refine wp_region_lit ?_;have q83_0:=(((Rp.nil hz).cons s2).cons s3).cons s4;clear hz s2 s3 s4
 refine q83_0.t (c.val) (ex_ld rfl (q83_0.e (j:=2) rfl) (CB7.ld (HC.bel hv0))) fun _ q83_1 => ?_;clear q83_0
 refine q83_1.t (s.val) (ex_ld rfl (q83_1.e (j:=3) rfl) (SB7.ld (HS.bel hv0))) fun _ q83_2 => ?_;clear q83_1
 refine vcall true (.int .i64 (s.ckE c)) (want_none rfl) (fun hc => ex_call rfl (by simp only [List.map_toArray,List.map_cons,List.map_nil,(q83_2.e (j:=8) rfl),(q83_2.e (j:=9) rfl),evc] <;> rfl) rfl) (fun hc => check8 c s w3 (HI.later hv0) hF) rfl q83_2.z (by decide) (q83_2.kc fun Yb x1 hb q83_3 => ?_);clear q83_2;have hx1:=hv0.trans (hb.mono hv0.size);clear hb
 refine q83_3.t _ (ex_assign rfl (q83_3.e (j:=10) rfl)) fun _ q83_4 => ?_;clear q83_3
 have hz:=q83_4.z;have s2:=q83_4.a 2 rfl;have s3:=q83_4.a 3 rfl;have s4:=q83_4.a 4 rfl;have s7:=q83_4.a 7 rfl;clear q83_4;refine wpList_nil ?_
 go_upto_region 2 with fail
 refine wp_region_lit ?_;have q84_0:=((((Rp.nil hz).cons s2).cons s3).cons s4).cons s7;clear hz s2 s3 s4 s7
 refine q84_0.t _ (ex_move rfl (q84_0.e (j:=7) rfl)) fun _ q84_1 => ?_;clear q84_0
 refine q84_1.t (.bool (!decide ((s.ckE c) = 0))) (ex_bin rfl (q84_1.e (j:=11) rfl) rfl (neqN8 _ _ _ _ _)) fun _ q84_2 => ?_;clear q84_1
 have hz:=q84_2.z;have s2:=q84_2.a 2 rfl;have s3:=q84_2.a 3 rfl;have s4:=q84_2.a 4 rfl;have s7:=q84_2.a 7 rfl;have s12:=q84_2.a 12 rfl;clear q84_2;refine wpList_nil ?_
 go_upto_region 3 with fail
 cases e12 : decide (s.ckE c = 0)
 ·refine wp_cond_true ((ev s12 rfl).trans (by rw [e12];rfl)) ?_
  have HZ1:=HZ.bel hx1
  go_upto_region 3 with fail
  refine wp_region_lit ?_;have q85_0:=((((Rp.nil hz).cons s2).cons s3).cons s4).cons s7;clear hz s2 s3 s4 s7
  refine q85_0.t (zS8.val) (ex_build rfl (bd12 _)) fun _ q85_1 => ?_;clear q85_0
  refine q85_1.t _ (ex_move rfl (q85_1.e (j:=7) rfl)) fun _ q85_2 => ?_;clear q85_1
  refine vs (sets x1 (w.heap.size + 2) 0 (Sta.cs zS8)) (want_none rfl) (ex_st rfl (q85_2.e (j:=4) rfl) (q85_2.e (j:=13) rfl) (st12 HZ1 zS8)) rfl ?_;have HP:=SB7.put HZ1 zS8;have UP:=upd12 x1 (w.heap.size + 2) zS8
  obtain ⟨u9,hu9⟩ : ∃ v,v = sets x1 (w.heap.size + 2) 0 (Sta.cs zS8):=⟨_,rfl⟩
  rw [← hu9] at HP UP ⊢;clear hu9
  refine q85_2.t (.bool false) (ex_assign rfl rfl) fun _ q85_3 => ?_;clear q85_2
  refine q85_3.t _ (ex_assign rfl (q85_3.e (j:=14) rfl)) fun _ q85_4 => ?_;clear q85_3
  have hz:=q85_4.z;have s4:=q85_4.a 4 rfl;have s5:=q85_4.a 5 rfl;have s6:=q85_4.a 6 rfl;clear q85_4;refine wpList_nil ?_;have hB9:=hide ((hB.trans (hx1.mono (by omega))).trans (UP.below (by have:=hx1.size;omega) (fun k hk => by omega)))
  go_wp2
  refine bodyPost_ret (results_sta3 rfl (getD_of s4) (getD_of s5) (getD_of s6) HP) rfl ?_
  exact ⟨zS8,false,rfl,zS8_in _,.inl ⟨of_decide_eq_false e12,rfl,rfl⟩,hB9.out⟩
 ·refine wp_cond_false ((ev s12 rfl).trans (by rw [e12];rfl)) ?_
  clear s12 s7;have hB:=hB.trans (hx1.mono (by omega));have HS:=HS.bel hx1;have HC:=HC.bel hx1;have HZ:=HZ.bel hx1;have HI:=hI.later hB;have hz4:=hx1.size;have hv1 : Below x1.heap.size x1 x1:=Below.refl _ _
  go_upto_region 4 with fail
  refine wp_region_lit ?_;have q86_0:=(((Rp.nil hz).cons s2).cons s3).cons s4;clear hz s2 s3 s4
  refine q86_0.t (s.val) (ex_ld rfl (q86_0.e (j:=3) rfl) (SB7.ld (HS.bel hv1))) fun _ q86_1 => ?_;clear q86_0
  refine vcallP (want_none rfl) (ex_call rfl (by simp only [List.map_toArray,List.map_cons,List.map_nil,(q86_1.e (j:=15) rfl),evc] <;> rfl) rfl) (copied8 s x1 HI hF) rfl q86_1.z (by decide) ?_;rintro e x5 ⟨t,rfl,hk,hlo,bk⟩;refine ⟨_,rfl,q86_1.k fun Yc q86_2 => ?_⟩;clear q86_1;have HS:=HS.bel bk;have HC:=HC.bel bk;have HZ:=HZ.bel bk;have hz5:=bk.size;have hB:=hB.trans (bk.mono (by omega));clear bk hv1;refine vs (sets x5 (w.heap.size + 1) 0 t.cs) (want_none rfl) (ex_st rfl (q86_2.e (j:=3) rfl) (q86_2.e (j:=16) rfl) (st12 HS t)) rfl ?_;have HT:=SB7.put HS t;have UT:=upd12 x5 (w.heap.size + 1) t
  obtain ⟨x6,hx6⟩ : ∃ v,v = sets x5 (w.heap.size + 1) 0 t.cs:=⟨_,rfl⟩
  rw [← hx6] at HT UT ⊢;clear hx6;have HC:=HC.upd UT (by show ¬ w.heap.size = w.heap.size + 1;omega);have HZ:=HZ.upd UT (by show ¬ w.heap.size + 2 = w.heap.size + 1;omega);have hz6:=UT.size;have hB:=hB.trans (UT.below (by omega) (fun k hk => by omega));have hk:=hk.set8 UT (by omega) hlo;clear UT HS;have hv2 : Below x6.heap.size x6 x6:=Below.refl _ _;have hz:=q86_2.z;have s2:=q86_2.a 2 rfl;have s3:=q86_2.a 3 rfl;have s4:=q86_2.a 4 rfl;clear q86_2;refine wpList_nil ?_
  go_upto_region 5 with fail
  refine wp_region_lit ?_;have q87_0:=(((Rp.nil hz).cons s2).cons s3).cons s4;clear hz s2 s3 s4
  refine q87_0.t (.pointer (some ⟨w.heap.size + 1,1,none⟩)) (ex_fa rfl (q87_0.e (j:=3) rfl) (faS1 _ _)) fun _ q87_1 => ?_;clear q87_0
  refine q87_1.t (.int .i64 t.st) (ex_ld rfl (q87_1.e (j:=17) rfl) (ldT8 (cell8 (HT.cell 1 _ rfl) hv2))) fun _ q87_2 => ?_;clear q87_1
  refine q87_2.t (.bool (decide (t.st = 3))) (ex_bin rfl (q87_2.e (j:=18) rfl) rfl (eqlT8 _ _ _ _ _)) fun _ q87_3 => ?_;clear q87_2
  refine q87_3.t _ (ex_move rfl (q87_3.e (j:=19) rfl)) fun _ q87_4 => ?_;clear q87_3
  refine vl _ (c.val) (want_g rfl rfl (q87_4.a 20 rfl)) (fun hc => ex_ld rfl (q87_4.e (j:=2) rfl) (CB7.ld (HC.bel hv2))) rfl q87_4.z (by decide) (q87_4.k fun Yd q87_5 => ?_);clear q87_4;refine vl _ (t.val) (want_g rfl rfl (q87_5.a 20 rfl)) (fun hc => ex_ld rfl (q87_5.e (j:=3) rfl) (SB7.ld (HT.bel hv2))) rfl q87_5.z (by decide) (q87_5.k fun Ye q87_6 => ?_);clear q87_5;refine vcall (true && ((decide (t.st = 3)) == false)) (.bool (decide (t.st = 1) && decide (t.self = c.pr t.view))) (want_g rfl rfl (q87_6.a 20 rfl)) (fun hc => ex_call rfl (by simp only [List.map_toArray,List.map_cons,List.map_nil,(ev (q87_6.a 21 rfl) hc),(ev (q87_6.a 22 rfl) hc),evc] <;> rfl) rfl) (fun hc => leads8 c t x6) rfl q87_6.z (by decide) (q87_6.kc fun Yf x21 hb q87_7 => ?_);clear q87_6;have hx21:=hv2.trans (hb.mono hv2.size);clear hb
  refine q87_7.t (.bool ((decide (t.st = 3)) || (decide (t.st = 1) && decide (t.self = c.pr t.view)))) (ex_or rfl (q87_7.a 20 rfl) (q87_7.a 23 rfl) rfl) fun _ q87_8 => ?_;clear q87_7
  have hz:=q87_8.z;have s2:=q87_8.a 2 rfl;have s3:=q87_8.a 3 rfl;have s4:=q87_8.a 4 rfl;have s24:=q87_8.a 24 rfl;clear q87_8;refine wpList_nil ?_;have hB:=hB.trans (hx21.mono (by omega));have HT:=HT.bel hx21;have HC:=HC.bel hx21;have HZ:=HZ.bel hx21;have hk:=hk.later8 hx21;have hz7:=hx21.size
  have hst : still8 c t = still8 c s:=by unfold still8;rw [hk.st,hk.self,hk.view]
  have hv3 : Below x21.heap.size x21 x21:=Below.refl _ _
  go_upto_region 6 with fail
  cases e24 : ((decide (t.st = 3)) || (decide (t.st = 1) && decide (t.self = c.pr t.view)))
  rotate_left
  ·refine wp_cond_true ((ev s24 rfl).trans (congrArg Value.bool e24)) ?_
   go_upto_region 6 with fail
   refine wp_region_lit ?_;have q88_0:=(((Rp.nil hz).cons s2).cons s3).cons s4;clear hz s2 s3 s4
   refine q88_0.t (t.val) (ex_ld rfl (q88_0.e (j:=3) rfl) (SB7.ld (HT.bel hv3))) fun _ q88_1 => ?_;clear q88_0
   refine vs (sets x21 (w.heap.size + 2) 0 (Sta.cs t)) (want_none rfl) (ex_st rfl (q88_1.e (j:=4) rfl) (q88_1.e (j:=25) rfl) (st12 HZ t)) rfl ?_;have HP:=SB7.put HZ t;have UP:=upd12 x21 (w.heap.size + 2) t
   obtain ⟨u9,hu9⟩ : ∃ v,v = sets x21 (w.heap.size + 2) 0 (Sta.cs t):=⟨_,rfl⟩
   rw [← hu9] at HP UP ⊢;clear hu9
   refine q88_1.t (.bool false) (ex_assign rfl rfl) fun _ q88_2 => ?_;clear q88_1
   refine q88_2.t (.int .i64 0) (ex_assign rfl rfl) fun _ q88_3 => ?_;clear q88_2
   have hz:=q88_3.z;have s4:=q88_3.a 4 rfl;have s5:=q88_3.a 5 rfl;have s6:=q88_3.a 6 rfl;clear q88_3;refine wpList_nil ?_;have hk:=hk.set8 UP (by omega) hlo;have hB9:=hide (hB.trans (UP.below (by omega) (fun k hk => by omega)))
   go_wp2
   refine bodyPost_ret (results_sta3 rfl (getD_of s4) (getD_of s5) (getD_of s6) HP) rfl ?_;have hE : s.ckE c = 0:=of_decide_eq_true e12;rw [hE];refine ⟨t,false,rfl,hk.inn,.inr ⟨hE,t,hk.low8 (by omega),hlo.low (by omega),?_,?_⟩,hB9.out⟩
   ·rw [show wtI8 c s = s.idle from by unfold wtI8;rw [← hst];exact if_pos e24,← hk.idle]
   ·rw [← hst,show still8 c t = true from e24];rfl
  refine wp_cond_false ((ev s24 rfl).trans (congrArg Value.bool e24)) ?_;clear s24;have hE : s.ckE c = 0:=of_decide_eq_true e12;obtain ⟨hok,hid⟩:=ck_idle8 hE;have hP:=Cg.P_ok hok;have hti : t.idle = s.idle:=hk.idle
  go_upto_region 7 with fail
  refine wp_region_lit ?_;have q89_0:=(((Rp.nil hz).cons s2).cons s3).cons s4;clear hz s2 s3 s4
  refine q89_0.t (.pointer (some ⟨w.heap.size + 1,7,none⟩)) (ex_fa rfl (q89_0.e (j:=3) rfl) (faS7 _ _)) fun _ q89_1 => ?_;clear q89_0
  refine q89_1.t (.int .i64 t.idle) (ex_ld rfl (q89_1.e (j:=26) rfl) (ldI8 (cell8 (HT.cell 7 _ rfl) hv3))) fun _ q89_2 => ?_;clear q89_1
  refine q89_2.t (.int .i64 (t.idle + 1)) (ex_bin rfl (q89_2.e (j:=27) rfl) rfl (addD8 _ _ t.idle 1 (t.idle + 1) (by rw [IntKind.wrap_i64];omega) _)) fun _ q89_3 => ?_;clear q89_2
  refine q89_3.t (.pointer (some ⟨w.heap.size,2,none⟩)) (ex_fa rfl (q89_3.e (j:=2) rfl) (faC2 _ _)) fun _ q89_4 => ?_;clear q89_3
  refine q89_4.t (.int .i64 c.P) (ex_ld rfl (q89_4.e (j:=29) rfl) (ldI8 (cell8 (HC.cell 2 _ rfl) hv3))) fun _ q89_5 => ?_;clear q89_4
  refine q89_5.t (.int .i64 ((t.idle + 1) % c.P)) (ex_bin rfl (q89_5.e (j:=28) rfl) (q89_5.e (j:=30) rfl) (remD8 _ _ (t.idle + 1) c.P (by omega) (by omega) (by omega) _)) fun _ q89_6 => ?_;clear q89_5
  refine q89_6.t (.pointer (some ⟨w.heap.size + 1,7,none⟩)) (ex_fa rfl (q89_6.e (j:=3) rfl) (faS7 _ _)) fun _ q89_7 => ?_;clear q89_6
  refine vs (x21.setCell ⟨w.heap.size + 1,7,none⟩ (.int .i64 ((t.idle + 1) % c.P))) (want_none rfl) (ex_st rfl (q89_7.e (j:=32) rfl) (q89_7.e (j:=31) rfl) (stI8 (HT.cell 7 _ rfl) (HT.free 7) _)) rfl ?_;have HTn:=HT.set (j:=7) (by simp [Sta.cs]) (.int .i64 ((t.idle + 1) % c.P));have UT : Upd (fun k => k = w.heap.size + 1) x21 (x21.setCell ⟨w.heap.size + 1,7,none⟩ (.int .i64 ((t.idle + 1) % c.P))):=(Upd.refl (fun k => k = w.heap.size + 1) _).setCell (p:=⟨w.heap.size + 1,7,none⟩) (.inl rfl) _
  obtain ⟨x8,hx8⟩ : ∃ v,v = x21.setCell ⟨w.heap.size + 1,7,none⟩ (.int .i64 ((t.idle + 1) % c.P)):=⟨_,rfl⟩
  rw [← hx8] at HTn UT ⊢;clear hx8;have HZ:=HZ.upd UT (by show ¬ w.heap.size + 2 = w.heap.size + 1;omega);have hz8:=UT.size;have hB:=hB.trans (UT.below (by omega) (fun k hk => by omega));have hk:=hk.set8 UT (by omega) hlo;clear UT HT hv3;have HT : SB7 x8 (w.heap.size + 1) { t with idle:=(t.idle + 1) % c.P }:=HTn;clear HTn;have hz:=q89_7.z;have s3:=q89_7.a 3 rfl;have s4:=q89_7.a 4 rfl;clear q89_7;refine wpList_nil ?_;have hS : Below x8.heap.size x8 x8.drew:=(Below.refl _ _).drew;have hU : Upd (fun k => k = w.heap.size + 2) x8 x8.drew:=Upd.of_below hS
  go_upto_region 8 with fail
  refine vh_start (fun v => Upd (fun k => k = w.heap.size + 2) x8 v) (by kernel_rfl) ?_;have q90_0:=((Rp.nil hz).cons s3).cons s4;clear hz s3 s4;refine vh_take 0 true (Sta.val { t with idle:=(t.idle + 1) % c.P }) rfl (by kernel_rfl) (by kernel_rfl) (by kernel_rfl) (want_none rfl) (fun hc v hv => ex_ld rfl (q90_0.e (j:=3) rfl) (SB7.ld (HT.upd hv (by show ¬ w.heap.size + 1 = w.heap.size + 2;omega)))) rfl q90_0.z (by decide) hU (q90_0.k fun Yg q90_1 => ?_);clear q90_0;refine vh_take 1 true (.pointer (some ⟨w.heap.size + 1,7,none⟩)) rfl (by kernel_rfl) (by kernel_rfl) (by kernel_rfl) (want_none rfl) (fun hc v hv => ex_fa rfl (q90_1.e (j:=3) rfl) (faS7 _ _)) rfl q90_1.z (by decide) hU (q90_1.k fun Yh q90_2 => ?_);clear q90_1;refine vh_take 2 true (.int .i64 ((t.idle + 1) % c.P)) rfl (by kernel_rfl) (by kernel_rfl) (by kernel_rfl) (want_none rfl) (fun hc v hv => ex_ld rfl (q90_2.e (j:=34) rfl) (ldI8 ((HT.upd hv (by show ¬ w.heap.size + 1 = w.heap.size + 2;omega)).cell 7 _ rfl))) rfl q90_2.z (by decide) hU (q90_2.k fun Yi q90_3 => ?_);clear q90_2;refine vh_take 3 true (.bool (decide (((t.idle + 1) % c.P) = 0))) rfl (by kernel_rfl) (by kernel_rfl) (by kernel_rfl) (want_none rfl) (fun hc v hv => ex_bin rfl (q90_3.e (j:=35) rfl) rfl (eqlC _ _ _ _ _)) rfl q90_3.z (by decide) hU (q90_3.k fun Yj q90_4 => ?_);clear q90_3;refine vh_store8 4 (sets x8.drew (w.heap.size + 2) 0 (Sta.cs { t with idle:=(t.idle + 1) % c.P })) rfl (by kernel_rfl) (want_none rfl) (ex_st rfl (q90_4.e (j:=4) rfl) (q90_4.e (j:=33) rfl) (st12 (HZ.bel hS) { t with idle:=(t.idle + 1) % c.P })) rfl (hU.trans (upd12 x8.drew (w.heap.size + 2) { t with idle:=(t.idle + 1) % c.P })) ?_;have HP:=SB7.put (HZ.bel hS) { t with idle:=(t.idle + 1) % c.P };have UP:=upd12 x8.drew (w.heap.size + 2) { t with idle:=(t.idle + 1) % c.P }
  obtain ⟨u9,hu9⟩ : ∃ v,v = sets x8.drew (w.heap.size + 2) 0 (Sta.cs { t with idle:=(t.idle + 1) % c.P }):=⟨_,rfl⟩
  rw [← hu9] at HP UP ⊢;clear hu9;have hU:=hU.trans UP;refine vh_take 5 true (.bool (decide (((t.idle + 1) % c.P) = 0))) rfl (by kernel_rfl) (by kernel_rfl) (by kernel_rfl) (want_none rfl) (fun hc v hv => ex_assign rfl (q90_4.e (j:=36) rfl)) rfl q90_4.z (by decide) hU (q90_4.k fun Yk q90_5 => ?_);clear q90_4;refine vh_take 6 true (.int .i64 0) rfl (by kernel_rfl) (by kernel_rfl) (by kernel_rfl) (want_none rfl) (fun hc v hv => ex_assign rfl rfl) rfl q90_5.z (by decide) hU (q90_5.k fun Yl q90_6 => ?_);clear q90_5;have hz:=q90_6.z;have s4:=q90_6.a 4 rfl;have s5:=q90_6.a 5 rfl;have s6:=q90_6.a 6 rfl;clear q90_6;refine vh_done (by kernel_rfl) ?_;have hk:=(hk.later8 hS).set8 UP (by omega) hlo;have hzd : x8.drew.heap.size = x8.heap.size:=rfl;have hB9:=hide ((hB.trans (hS.mono (by omega))).trans (UP.below (by omega) (fun k hk => by omega)))
  go_wp2
  refine bodyPost_ret (results_sta3 rfl (getD_of s4) (getD_of s5) (getD_of s6) HP) rfl ?_;rw [hE];refine ⟨{ t with idle:=(t.idle + 1) % c.P },_,rfl,hk.inn.idle8,.inr ⟨hE,t,hk.low8 (by omega),hlo.low (by omega),?_,?_⟩,hB9.out⟩
  ·rw [show wtI8 c s = (s.idle + 1) % c.P from by unfold wtI8;rw [← hst];exact if_neg (by rw [show still8 c t = false from e24];decide),hti]
  ·rw [show wtI8 c s = (s.idle + 1) % c.P from by unfold wtI8;rw [← hst];exact if_neg (by rw [show still8 c t = false from e24];decide),← hst,show still8 c t = false from e24,hti];rfl
end Go.Proofs.YtgncpcfncojgoaaGreatDoor
namespace Go.Proofs.YtgncpcfncojgoaaGreatDoor
open Go.RowKit Go.Maps
open Classical
theorem refentry_any (C N k s : Int) (v : ByteArray) (hf : (⟨k,s,v⟩ : Opn).fits) (w : World) :
  Calls Tryz.prog 196 #[.agg #[.int .i64 C,.int .i64 N,.int .i64 k,.int .i64 s,.string v]] w fun e w' => e = .returned (.int .i64 (ckE ⟨C,N,⟨k,s,v⟩⟩))∧Below w.heap.size w w':=by
 have cc:=fun W => refcheck k s v hf W
 have bA:=(Below.refl w.heap.size w).alloc (Nat.le_refl _) (.cells #[.int .i64 C,.int .i64 N,.int .i64 k,.int .i64 s,.string v] 66)
 by_cases h1 : C < 0
 ·have hE : Hid (ckE ⟨C,N,⟨k,s,v⟩⟩ = 62):=by show _ = _;simp [ckE,h1]
  have d1 : decide (C < 0) = true:=by simpa using h1
  go_enter Tryz.func196,Tryz.ntmps196
  go_wp2
  go_ret
  exact ⟨ret_int hE.out.symm,bA⟩
 ·by_cases h2 : 16 ≤ C
  ·have hE : Hid (ckE ⟨C,N,⟨k,s,v⟩⟩ = 62):=by show _ = _;simp [ckE,h2]
   go_enter Tryz.func196,Tryz.ntmps196
   go_wp2
   go_ret
   exact ⟨ret_int hE.out.symm,bA⟩
  ·by_cases h3 : N < 1
   ·have hE : Hid (ckE ⟨C,N,⟨k,s,v⟩⟩ = 63):=by show _ = _;simp [ckE,h1,h2,h3]
    go_enter Tryz.func196,Tryz.ntmps196
    go_wp2
    go_ret
    exact ⟨ret_int hE.out.symm,bA⟩
   ·have hE : Hid (ckE ⟨C,N,⟨k,s,v⟩⟩ = ck k s v):=by show _ = _;simp [ckE,h1,h2,h3]
    generalize ck k s v = x at *
    go_enter Tryz.func196,Tryz.ntmps196
    go_wp2_with (go_at_call 229;refine (cc _).mono ?_;rintro e w2 ⟨rfl,b2⟩)
    go_ret
    exact ⟨ret_int hE.out.symm,bA.trans (b2.mono (by simp))⟩
set_option maxHeartbeats 1000000 in
theorem reflog_any (L : List En) (a : Option Addr) (c : Nat) (room : Int) (w : World) (h : SlY yE w a L.length c L) (hf : ∀ e ∈ L,e.fits) :
  Calls Tryz.prog 138 #[.slice a L.length c,.int .i64 room] w fun e w' => e = .returned (.int .i64 (lg L room))∧Below w.heap.size w w':=by
 have hmx:=h.max;have hcp:=h.cap
 unfold maxLen at hmx
 have H:=hide h;have HF:=hide hf;clear h hf
 by_cases hl : room < (L.length : Int)
 ·have hE : Hid (lg L room = 60):=by show _ = _;simp [lg,hl]
  go_enter Tryz.func138,Tryz.ntmps138
  go_wp2
  go_ret
  exact ⟨ret_int hE.out.symm,Below.refl _ _⟩
 ·have HL : Hid (lg L room = lgA (L.take 0) (L.drop 0)):=by show _ = _;simp [lg,hl]
  go_enter Tryz.func138,Tryz.ntmps138
  go_wp2
  go_loopw [5] (fun i wr => ∃ j : Nat,i = .int .i64 (j : Int)∧j ≤ L.length∧Hid (lg L room = lgA (L.take j) (L.drop j))∧Below w.heap.size w wr) (fun i _ => L.length - (intOf i).toNat)
  case atStart => exact ⟨0,rfl,Nat.zero_le _,HL,Below.refl _ _⟩
  case round =>
   obtain ⟨j,rfl,hj,hL,hb⟩:=hrel
   by_cases hlt : j < L.length
   ·have hg : L[j]? = some L[j]:=List.getElem?_eq_getElem hlt
    have hat:=lgA_at hg;have hfj:=(HF.out L[j] (List.getElem_mem hlt)).ow;obtain ⟨q,o,ea,hq,c0,c1,c2,c3,c4⟩:=(H.out.later hb).en hg;have HE:=hide (fun W (hb : Below w.heap.size w W) => (H.out.later hb).en hg)
    generalize hee : L[j] = e at *
    subst ea
    have ce:=fun W => refentry_any e.c e.n e.o.k e.o.s e.o.v hfj W
    have hA:=hide hat;clear hat;have hsz:=hb.size
    have her : er (L.take j) e = if ckE e ≠ 0 then ckE e else if tw (L.take j) e then 64 else 0:=rfl
    have hER:=hide her;clear her;have hx0 : ckE ⟨e.c,e.n,⟨e.o.k,e.o.s,e.o.v⟩⟩ = ckE e:=rfl;rw [hx0] at ce
    generalize ckE e = x at *
    by_cases hx : x = 0
    ·subst hx
     go_wp2_with (go_at_call 196;refine (ce _).mono ?_;rintro r w1 ⟨rfl,b1⟩)
     have hb1:=hb.trans (b1.mono hsz);clear c0 c1 c2 c3 c4
     go_loopw [7] (fun i wr => ∃ m : Nat,i = .int .i64 (m : Int)∧m ≤ j∧Hid (tw (L.take m) e = false)∧Below w.heap.size w wr) (fun i _ => j - (intOf i).toNat)
     case atStart => exact ⟨0,rfl,Nat.zero_le _,by show tw _ _ = _;simp [tw],hb1⟩
     case round =>
      obtain ⟨m,rfl,hm,htw,hbm⟩:=hrel
      by_cases hlm : m < j
      ·have hgm : L[m]? = some L[m]:=List.getElem?_eq_getElem (by omega)
       have hst:=tw_take_step (e:=e) hgm;obtain ⟨q2,o2,ea2,hq2,d0,d1,d2,d3,d4⟩:=HE.out wr hbm
       cases ea2
       obtain ⟨q3,o3,ea3,hq3,f0,f1,f2,f3,f4⟩:=(H.out.later hbm).en hgm
       cases ea3
       generalize hpp : L[m] = p at *
       rw [htw.out] at hst;have hST:=hide hst;clear hst hpp hgm hg hee;obtain ⟨Ce,Ne,oe⟩:=e;obtain ⟨Cp,Np,op⟩:=p
       dsimp only at *
       by_cases hc : Cp = Ce
       ·subst hc
        by_cases hn : Ne ≤ Np
        ·have hE : Hid (lg L room = 64):=by
          show _ = _
          have ht:=tw_mono (L:=L) (show m + 1 ≤ j by omega) (hST.out.trans (by simp [hn]));rw [hL.out,hA.out,hER.out,ht]
          simp
         go_wp2
         go_quiet (fail)
         go_wp2
         go_ret
         exact ⟨ret_int hE.out.symm,belN hbm nq⟩
        ·have hT : Hid (tw (L.take (m + 1)) ⟨Cp,Ne,oe⟩ = false):=by show _ = _;rw [hST.out];simp [hn]
         have hn' : decide (Ne ≤ Np) = false:=by simpa using hn
         go_wp2
         go_quiet (fail)
         go_wp2
         go_round
         case rel => exact ⟨m + 1,by go_num,by omega,hT,belN hbm nq⟩
         case measure => simp [intOf];omega
       ·have hT : Hid (tw (L.take (m + 1)) ⟨Ce,Ne,oe⟩ = false):=by show _ = _;rw [hST.out];simp [hc]
        have hd : decide (Cp = Ce) = false:=by simpa using hc
        have hd2 : (Cp == Ce) = false:=by simpa using hc
        go_wp2
        go_quiet (fail)
        go_wp2
        go_round
        case rel => exact ⟨m + 1,by go_num,by omega,hT,belN hbm nq⟩
        case measure => simp [intOf];omega
      ·obtain rfl : m = j:=by omega
       have hE : Hid (lg L room = lgA (L.take (m + 1)) (L.drop (m + 1))):=by
        show _ = _
        rw [hL.out,hA.out,hER.out,htw.out]
        simp
       go_wp2
       go_round
       case rel => exact ⟨m + 1,by go_num,by omega,hE,hbm⟩
       case measure => simp [intOf];omega
    ·have hE : Hid (lg L room = x):=by show _ = _;rw [hL.out,hA.out,hER.out];simp [hx]
     go_wp2_with (go_at_call 196;refine (ce _).mono ?_;rintro r w1 ⟨rfl,b1⟩)
     go_ret
     exact ⟨ret_int hE.out.symm,hb.trans (b1.mono hsz)⟩
   ·obtain rfl : j = L.length:=by omega
    have hE:=hL.out;rw [lgA_end] at hE;have hEh:=hide hE;clear hE
    go_wp2
    go_ret
    exact ⟨ret_int hEh.out.symm,hb⟩
theorem ckA_lgA : ∀ (L past : List En),(ckA past L).1 = lgA past L
 | [],past => rfl
 | e :: r,past => by
  unfold ckA lgA
  by_cases h : er past e ≠ 0
  ·rw [if_pos h,if_pos h]
  ·rw [if_neg h,if_neg h];exact ckA_lgA r _
theorem chk_lg {r : Int} (h1 : 1 ≤ r) (h2 : r ≤ 256) (L : List En) : (chk L r).1 = lg L r:=by
 unfold chk lg
 rw [if_neg (by omega)]
 by_cases h : r < L.length
 ·rw [if_pos h,if_pos h]
 ·rw [if_neg h,if_neg h];exact ckA_lgA L []
end Go.Proofs.YtgncpcfncojgoaaGreatDoor
