import Derived.Deep.RegionHeld3
import Derived.Test.YtpcgnjpodnebpaaGreatDoorG2
set_option maxRecDepth 100000
set_option linter.unusedVariables false
set_option linter.unusedSimpArgs false
set_option maxHeartbeats 8000000
namespace Go.Proofs.YtpcgnjpodnebpaaGreatDoor
open Go.RowKit Go.Maps
open Classical
def An.mb (x : An) (n r : Int) : Bool:=(vmb x.v && lmb x.s.D x.c r) && (decide (x.s.D = []) || decide (x.n = x.v % n))
theorem An.may_any (x : An) (n r : Int) (w : World) (h : x.In w) (hf : ∀ e ∈ x.s.D,e.fits) (hn : 0 < n) (hn2 : n ≤ 9) : Calls Tryz.prog 182 #[x.val,.int .i64 n,.int .i64 r] w fun e w' => e = .returned (.bool (An.mb x n r))∧Below w.heap.size w w':=by
 have bw : Hid (Below w.heap.size w (w.alloc (.cells #[.int .i64 x.n,.int .u64 x.h,.int .u64 x.l,.int .i64 x.v,.int .i64 x.c,.slice x.s.a x.s.D.length x.s.c] 165))):=(Below.refl _ w).alloc LR _
 have KX : Hid (∀ v,Below (w.heap.size + 1) (w.alloc (.cells #[.int .i64 x.n,.int .u64 x.h,.int .u64 x.l,.int .i64 x.v,.int .i64 x.c,.slice x.s.a x.s.D.length x.s.c] 165)) v → v.cell? ⟨w.heap.size,0,none⟩ = some (.int .i64 x.n)∧v.cell? ⟨w.heap.size,3,none⟩ = some (.int .i64 x.v)∧v.cell? ⟨w.heap.size,4,none⟩ = some (.int .i64 x.c)∧v.cell? ⟨w.heap.size,5,none⟩ = some (.slice x.s.a x.s.D.length x.s.c)):=fun v hv =>
  ⟨(hv.cell (p:=⟨w.heap.size,0,none⟩) (by simp)).trans (by simp),(hv.cell (p:=⟨w.heap.size,3,none⟩) (by simp)).trans (by simp),(hv.cell (p:=⟨w.heap.size,4,none⟩) (by simp)).trans (by simp),(hv.cell (p:=⟨w.heap.size,5,none⟩) (by simp)).trans (by simp)⟩
 have KZ : Hid (∀ v,Below (w.heap.size + 1) (w.alloc (.cells #[.int .i64 x.n,.int .u64 x.h,.int .u64 x.l,.int .i64 x.v,.int .i64 x.c,.slice x.s.a x.s.D.length x.s.c] 165)) v → w.heap.size + 1 ≤ v.heap.size):=fun v hv => by have:=hv.size;simpa using this
 have cv:=hide (fun W => viewMayBe_any8 x.v W);have cl:=hide (fun W (hW : Below w.heap.size w W) => logMayBe_any8 x.s.D x.s.a x.s.D.length x.s.c x.c r W (h.1.later hW) hf);have cp:=hide (fun W => primary_any x.v n W hn hn2)
 have hmx : (x.s.D.length : Int) ≤ 9223372036854775807:=by have:=h.1.cap;have h2:=h.1.max;unfold maxLen at h2;omega
 have hE : Hid (An.mb x n r = ((vmb x.v && lmb x.s.D x.c r) && (decide (x.s.D.length = 0) || decide (x.n = x.v % n)))):=by
  show _ = _
  unfold An.mb
  rw [show decide (x.s.D = []) = decide (x.s.D.length = 0) from decide_eq_decide.2 ⟨fun h => by rw [h];rfl,List.eq_nil_of_length_eq_zero⟩]
 generalize An.mb x n r = Z at *
 generalize lmb x.s.D x.c r = Y at *
 generalize vmb x.v = X at *
 generalize x.v % n = P at *
 clear h hf
 show Calls Tryz.prog 182 #[.agg #[.int .i64 x.n,.int .u64 x.h,.int .u64 x.l,.int .i64 x.v,.int .i64 x.c,.slice x.s.a x.s.D.length x.s.c],.int .i64 n,.int .i64 r] w _
 generalize hw0 : w.alloc (.cells #[.int .i64 x.n,.int .u64 x.h,.int .u64 x.l,.int .i64 x.v,.int .i64 x.c,.slice x.s.a x.s.D.length x.s.c] 165) = w0 at *
 go_enter Tryz.func182,Tryz.ntmps182
 go_wp2_with fail
 try rw [hw0]
 clear hw0
 cases X with
 | false =>
  have hk : Hid (Z = false):=by show _ = _;rw [hE.out];rfl
  go_wp2_with fail
  refine region_q9 (C:=fun v => Below (w.heap.size + 1) w0 v) (by kernel_rfl) (by kernel_rfl) BR.drew ?_;refine wqg (.pointer (some ⟨w.heap.size,3,none⟩)) ?_;simp only [pu,pn,pv,pw,px];refine wqv (u:=.int .i64 x.v) (by kernel_rfl) (fun v hv => by obtain ⟨y0,y3,y4,y5⟩:=KX.out v hv;go_simp) ?_;simp only [pu,pn,pv,pw,px];refine wqc (fid:=179) (args:=#[.int .i64 x.v]) (u:=.bool false) (by kernel_rfl) (fun v => by kernel_rfl) (fun v hv => (cv.out v).mono fun e w2 h => ⟨h.1,h.2 ▸ hv⟩) ?_;refine wqk (.bool false) ?_;refine wqskip (by kernel_rfl) ?_;refine wqskip (by kernel_rfl) ?_;refine wqskip (by kernel_rfl) ?_;refine wqskip (by kernel_rfl) ?_;refine wqskip (by kernel_rfl) ?_;refine wqskip (by kernel_rfl) ?_;refine wqk (.bool false) ?_;refine wqk (.bool false) ?_;refine wqskip (by kernel_rfl) ?_;refine wqskip (by kernel_rfl) ?_;refine wqskip (by kernel_rfl) ?_;refine wqskip (by kernel_rfl) ?_;refine wqskip (by kernel_rfl) ?_;refine wqskip (by kernel_rfl) ?_;refine wqskip (by kernel_rfl) ?_;refine wqskip (by kernel_rfl) ?_;refine wqskip (by kernel_rfl) ?_;refine wqskip (by kernel_rfl) ?_;refine wqskip (by kernel_rfl) ?_;refine wqskip (by kernel_rfl) ?_;refine wqskip (by kernel_rfl) ?_;refine wqk (.bool false) ?_;refine wqk (.bool false) ?_;simp only [pu,pn,pv,pw,px];refine wqnil (fun w2 hv => ?_);have B2:=hide (bw.out.trans (hv.mono (by omega)));clear hv
  go_wp2
  go_ret
  exact ⟨by rw [hk.out];rfl,B2.out⟩
 | true =>
  cases Y with
  | false =>
   have hk : Hid (Z = false):=by show _ = _;rw [hE.out];rfl
   go_wp2_with fail
   refine region_q9 (C:=fun v => Below (w.heap.size + 1) w0 v) (by kernel_rfl) (by kernel_rfl) BR.drew ?_;refine wqg (.pointer (some ⟨w.heap.size,3,none⟩)) ?_;simp only [pu,pn,pv,pw,px];refine wqv (u:=.int .i64 x.v) (by kernel_rfl) (fun v hv => by obtain ⟨y0,y3,y4,y5⟩:=KX.out v hv;go_simp) ?_;simp only [pu,pn,pv,pw,px];refine wqc (fid:=179) (args:=#[.int .i64 x.v]) (u:=.bool true) (by kernel_rfl) (fun v => by kernel_rfl) (fun v hv => (cv.out v).mono fun e w2 h => ⟨h.1,h.2 ▸ hv⟩) ?_;refine wqk (.bool true) ?_;simp only [pu,pn,pv,pw,px];refine wqg (.pointer (some ⟨w.heap.size,5,none⟩)) ?_;simp only [pu,pn,pv,pw,px];refine wqv (u:=.slice x.s.a x.s.D.length x.s.c) (by kernel_rfl) (fun v hv => by obtain ⟨y0,y3,y4,y5⟩:=KX.out v hv;go_simp) ?_;simp only [pu,pn,pv,pw,px];refine wqg (.pointer (some ⟨w.heap.size,4,none⟩)) ?_;simp only [pu,pn,pv,pw,px];refine wqv (u:=.int .i64 x.c) (by kernel_rfl) (fun v hv => by obtain ⟨y0,y3,y4,y5⟩:=KX.out v hv;go_simp) ?_;refine wqk (.int .i64 r) ?_;simp only [pu,pn,pv,pw,px];refine wqc (fid:=180) (args:=#[.slice x.s.a x.s.D.length x.s.c,.int .i64 x.c,.int .i64 r]) (u:=.bool false) (by kernel_rfl) (fun v => by kernel_rfl) (fun v hv => (cl.out v (bw.out.trans (hv.mono (by omega)))).mono fun e w2 h => ⟨h.1,hv.trans (h.2.mono (KZ.out v hv))⟩) ?_;refine wqk (.bool false) ?_;refine wqk (.bool false) ?_;refine wqskip (by kernel_rfl) ?_;refine wqskip (by kernel_rfl) ?_;refine wqskip (by kernel_rfl) ?_;refine wqskip (by kernel_rfl) ?_;refine wqskip (by kernel_rfl) ?_;refine wqskip (by kernel_rfl) ?_;refine wqskip (by kernel_rfl) ?_;refine wqskip (by kernel_rfl) ?_;refine wqskip (by kernel_rfl) ?_;refine wqskip (by kernel_rfl) ?_;refine wqskip (by kernel_rfl) ?_;refine wqskip (by kernel_rfl) ?_;refine wqskip (by kernel_rfl) ?_;refine wqk (.bool false) ?_;refine wqk (.bool false) ?_;simp only [pu,pn,pv,pw,px];refine wqnil (fun w2 hv => ?_);have B2:=hide (bw.out.trans (hv.mono (by omega)));clear hv
   go_wp2
   go_ret
   exact ⟨by rw [hk.out];rfl,B2.out⟩
  | true =>
   by_cases h0 : x.s.D.length = 0
   ·have hb0 : ((x.s.D.length : Int) == 0) = true:=by simp [h0]
    have hk : Hid (Z = true):=by show _ = _;rw [hE.out,decide_eq_true h0];rfl
    clear h0
    go_wp2_with fail
    refine region_q9 (C:=fun v => Below (w.heap.size + 1) w0 v) (by kernel_rfl) (by kernel_rfl) BR.drew ?_;refine wqg (.pointer (some ⟨w.heap.size,3,none⟩)) ?_;simp only [pu,pn,pv,pw,px];refine wqv (u:=.int .i64 x.v) (by kernel_rfl) (fun v hv => by obtain ⟨y0,y3,y4,y5⟩:=KX.out v hv;go_simp) ?_;simp only [pu,pn,pv,pw,px];refine wqc (fid:=179) (args:=#[.int .i64 x.v]) (u:=.bool true) (by kernel_rfl) (fun v => by kernel_rfl) (fun v hv => (cv.out v).mono fun e w2 h => ⟨h.1,h.2 ▸ hv⟩) ?_;refine wqk (.bool true) ?_;simp only [pu,pn,pv,pw,px];refine wqg (.pointer (some ⟨w.heap.size,5,none⟩)) ?_;simp only [pu,pn,pv,pw,px];refine wqv (u:=.slice x.s.a x.s.D.length x.s.c) (by kernel_rfl) (fun v hv => by obtain ⟨y0,y3,y4,y5⟩:=KX.out v hv;go_simp) ?_;simp only [pu,pn,pv,pw,px];refine wqg (.pointer (some ⟨w.heap.size,4,none⟩)) ?_;simp only [pu,pn,pv,pw,px];refine wqv (u:=.int .i64 x.c) (by kernel_rfl) (fun v hv => by obtain ⟨y0,y3,y4,y5⟩:=KX.out v hv;go_simp) ?_;refine wqk (.int .i64 r) ?_;simp only [pu,pn,pv,pw,px];refine wqc (fid:=180) (args:=#[.slice x.s.a x.s.D.length x.s.c,.int .i64 x.c,.int .i64 r]) (u:=.bool true) (by kernel_rfl) (fun v => by kernel_rfl) (fun v hv => (cl.out v (bw.out.trans (hv.mono (by omega)))).mono fun e w2 h => ⟨h.1,hv.trans (h.2.mono (KZ.out v hv))⟩) ?_;refine wqk (.bool true) ?_;refine wqk (.bool true) ?_;simp only [pu,pn,pv,pw,px];refine wqg (.pointer (some ⟨w.heap.size,5,none⟩)) ?_;simp only [pu,pn,pv,pw,px];refine wqv (u:=.slice x.s.a x.s.D.length x.s.c) (by kernel_rfl) (fun v hv => by obtain ⟨y0,y3,y4,y5⟩:=KX.out v hv;go_simp) ?_;simp only [pu,pn,pv,pw,px];refine wqg (.int .i64 (x.s.D.length : Int)) ?_;simp only [pu,pn,pv,pw,px];refine wqg (.bool true) ?_;refine wqk (.bool true) ?_;refine wqskip (by kernel_rfl) ?_;refine wqskip (by kernel_rfl) ?_;refine wqskip (by kernel_rfl) ?_;refine wqskip (by kernel_rfl) ?_;refine wqskip (by kernel_rfl) ?_;refine wqskip (by kernel_rfl) ?_;refine wqskip (by kernel_rfl) ?_;refine wqk (.bool true) ?_;refine wqk (.bool true) ?_;refine wqk (.bool true) ?_;simp only [pu,pn,pv,pw,px];refine wqnil (fun w2 hv => ?_);have B2:=hide (bw.out.trans (hv.mono (by omega)));clear hv
    go_wp2
    go_ret
    exact ⟨by rw [hk.out];rfl,B2.out⟩
   ·have hb0 : ((x.s.D.length : Int) == 0) = false:=beq_eq_false_iff_ne.2 (by omega)
    by_cases hp : x.n = P
    ·have hbp : (x.n == P) = true:=by simp [hp]
     have hk : Hid (Z = true):=by show _ = _;rw [hE.out,decide_eq_true hp];simp
     clear hp
     go_wp2_with fail
     refine region_q9 (C:=fun v => Below (w.heap.size + 1) w0 v) (by kernel_rfl) (by kernel_rfl) BR.drew ?_;refine wqg (.pointer (some ⟨w.heap.size,3,none⟩)) ?_;simp only [pu,pn,pv,pw,px];refine wqv (u:=.int .i64 x.v) (by kernel_rfl) (fun v hv => by obtain ⟨y0,y3,y4,y5⟩:=KX.out v hv;go_simp) ?_;simp only [pu,pn,pv,pw,px];refine wqc (fid:=179) (args:=#[.int .i64 x.v]) (u:=.bool true) (by kernel_rfl) (fun v => by kernel_rfl) (fun v hv => (cv.out v).mono fun e w2 h => ⟨h.1,h.2 ▸ hv⟩) ?_;refine wqk (.bool true) ?_;simp only [pu,pn,pv,pw,px];refine wqg (.pointer (some ⟨w.heap.size,5,none⟩)) ?_;simp only [pu,pn,pv,pw,px];refine wqv (u:=.slice x.s.a x.s.D.length x.s.c) (by kernel_rfl) (fun v hv => by obtain ⟨y0,y3,y4,y5⟩:=KX.out v hv;go_simp) ?_;simp only [pu,pn,pv,pw,px];refine wqg (.pointer (some ⟨w.heap.size,4,none⟩)) ?_;simp only [pu,pn,pv,pw,px];refine wqv (u:=.int .i64 x.c) (by kernel_rfl) (fun v hv => by obtain ⟨y0,y3,y4,y5⟩:=KX.out v hv;go_simp) ?_;refine wqk (.int .i64 r) ?_;simp only [pu,pn,pv,pw,px];refine wqc (fid:=180) (args:=#[.slice x.s.a x.s.D.length x.s.c,.int .i64 x.c,.int .i64 r]) (u:=.bool true) (by kernel_rfl) (fun v => by kernel_rfl) (fun v hv => (cl.out v (bw.out.trans (hv.mono (by omega)))).mono fun e w2 h => ⟨h.1,hv.trans (h.2.mono (KZ.out v hv))⟩) ?_;refine wqk (.bool true) ?_;refine wqk (.bool true) ?_;simp only [pu,pn,pv,pw,px];refine wqg (.pointer (some ⟨w.heap.size,5,none⟩)) ?_;simp only [pu,pn,pv,pw,px];refine wqv (u:=.slice x.s.a x.s.D.length x.s.c) (by kernel_rfl) (fun v hv => by obtain ⟨y0,y3,y4,y5⟩:=KX.out v hv;go_simp) ?_;simp only [pu,pn,pv,pw,px];refine wqg (.int .i64 (x.s.D.length : Int)) ?_;simp only [pu,pn,pv,pw,px];refine wqg (.bool false) ?_;refine wqk (.bool false) ?_;simp only [pu,pn,pv,pw,px];refine wqg (.pointer (some ⟨w.heap.size,0,none⟩)) ?_;simp only [pu,pn,pv,pw,px];refine wqv (u:=.int .i64 x.n) (by kernel_rfl) (fun v hv => by obtain ⟨y0,y3,y4,y5⟩:=KX.out v hv;go_simp) ?_;simp only [pu,pn,pv,pw,px];refine wqg (.pointer (some ⟨w.heap.size,3,none⟩)) ?_;simp only [pu,pn,pv,pw,px];refine wqv (u:=.int .i64 x.v) (by kernel_rfl) (fun v hv => by obtain ⟨y0,y3,y4,y5⟩:=KX.out v hv;go_simp) ?_;refine wqk (.int .i64 n) ?_;simp only [pu,pn,pv,pw,px];refine wqc (fid:=184) (args:=#[.int .i64 x.v,.int .i64 n]) (u:=.int .i64 P) (by kernel_rfl) (fun v => by kernel_rfl) (fun v hv => (cp.out v).mono fun e w2 h => ⟨h.1,h.2 ▸ hv⟩) ?_;simp only [pu,pn,pv,pw,px];refine wqg (.bool true) ?_;refine wqk (.bool true) ?_;refine wqk (.bool true) ?_;refine wqk (.bool true) ?_;simp only [pu,pn,pv,pw,px];refine wqnil (fun w2 hv => ?_);have B2:=hide (bw.out.trans (hv.mono (by omega)));clear hv
     go_wp2
     go_ret
     exact ⟨by rw [hk.out];rfl,B2.out⟩
    ·have hbp : (x.n == P) = false:=by simp [hp]
     have hk : Hid (Z = false):=by show _ = _;rw [hE.out,decide_eq_false hp,decide_eq_false h0];rfl
     go_wp2_with fail
     refine region_q9 (C:=fun v => Below (w.heap.size + 1) w0 v) (by kernel_rfl) (by kernel_rfl) BR.drew ?_;refine wqg (.pointer (some ⟨w.heap.size,3,none⟩)) ?_;simp only [pu,pn,pv,pw,px];refine wqv (u:=.int .i64 x.v) (by kernel_rfl) (fun v hv => by obtain ⟨y0,y3,y4,y5⟩:=KX.out v hv;go_simp) ?_;simp only [pu,pn,pv,pw,px];refine wqc (fid:=179) (args:=#[.int .i64 x.v]) (u:=.bool true) (by kernel_rfl) (fun v => by kernel_rfl) (fun v hv => (cv.out v).mono fun e w2 h => ⟨h.1,h.2 ▸ hv⟩) ?_;refine wqk (.bool true) ?_;simp only [pu,pn,pv,pw,px];refine wqg (.pointer (some ⟨w.heap.size,5,none⟩)) ?_;simp only [pu,pn,pv,pw,px];refine wqv (u:=.slice x.s.a x.s.D.length x.s.c) (by kernel_rfl) (fun v hv => by obtain ⟨y0,y3,y4,y5⟩:=KX.out v hv;go_simp) ?_;simp only [pu,pn,pv,pw,px];refine wqg (.pointer (some ⟨w.heap.size,4,none⟩)) ?_;simp only [pu,pn,pv,pw,px];refine wqv (u:=.int .i64 x.c) (by kernel_rfl) (fun v hv => by obtain ⟨y0,y3,y4,y5⟩:=KX.out v hv;go_simp) ?_;refine wqk (.int .i64 r) ?_;simp only [pu,pn,pv,pw,px];refine wqc (fid:=180) (args:=#[.slice x.s.a x.s.D.length x.s.c,.int .i64 x.c,.int .i64 r]) (u:=.bool true) (by kernel_rfl) (fun v => by kernel_rfl) (fun v hv => (cl.out v (bw.out.trans (hv.mono (by omega)))).mono fun e w2 h => ⟨h.1,hv.trans (h.2.mono (KZ.out v hv))⟩) ?_;refine wqk (.bool true) ?_;refine wqk (.bool true) ?_;simp only [pu,pn,pv,pw,px];refine wqg (.pointer (some ⟨w.heap.size,5,none⟩)) ?_;simp only [pu,pn,pv,pw,px];refine wqv (u:=.slice x.s.a x.s.D.length x.s.c) (by kernel_rfl) (fun v hv => by obtain ⟨y0,y3,y4,y5⟩:=KX.out v hv;go_simp) ?_;simp only [pu,pn,pv,pw,px];refine wqg (.int .i64 (x.s.D.length : Int)) ?_;simp only [pu,pn,pv,pw,px];refine wqg (.bool false) ?_;refine wqk (.bool false) ?_;simp only [pu,pn,pv,pw,px];refine wqg (.pointer (some ⟨w.heap.size,0,none⟩)) ?_;simp only [pu,pn,pv,pw,px];refine wqv (u:=.int .i64 x.n) (by kernel_rfl) (fun v hv => by obtain ⟨y0,y3,y4,y5⟩:=KX.out v hv;go_simp) ?_;simp only [pu,pn,pv,pw,px];refine wqg (.pointer (some ⟨w.heap.size,3,none⟩)) ?_;simp only [pu,pn,pv,pw,px];refine wqv (u:=.int .i64 x.v) (by kernel_rfl) (fun v hv => by obtain ⟨y0,y3,y4,y5⟩:=KX.out v hv;go_simp) ?_;refine wqk (.int .i64 n) ?_;simp only [pu,pn,pv,pw,px];refine wqc (fid:=184) (args:=#[.int .i64 x.v,.int .i64 n]) (u:=.int .i64 P) (by kernel_rfl) (fun v => by kernel_rfl) (fun v hv => (cp.out v).mono fun e w2 h => ⟨h.1,h.2 ▸ hv⟩) ?_;simp only [pu,pn,pv,pw,px];refine wqg (.bool false) ?_;refine wqk (.bool false) ?_;refine wqk (.bool false) ?_;refine wqk (.bool false) ?_;simp only [pu,pn,pv,pw,px];refine wqnil (fun w2 hv => ?_);have B2:=hide (bw.out.trans (hv.mono (by omega)));clear hv
     go_wp2
     go_ret
     exact ⟨by rw [hk.out];rfl,B2.out⟩
def An.ckl (c : Cg) (self : Int) : Int → List An → Bool
 | _,[] => true
 | least,x :: r => if x.n < least ∨ 2 * c.F + 1 ≤ x.n ∨ x.n = self ∨ An.mb x (2 * c.F + 1) c.R = false then false else An.ckl c self (x.n + 1) r
def An.ck (c : Cg) (self : Int) (L : List An) : Int:=if c.ok = false then 1 else if An.ckl c self 0 L = true then 0 else 80
theorem An.check_any (c : Cg) (self : Int) (L : List An) (a : Option Addr) (n k : Nat) (w : World) (h : SlY yAnV w a n k L) (hlogs : ∀ x ∈ L,x.In w∧∀ e ∈ x.s.D,e.fits) :
  Calls Tryz.prog 117 #[c.val,.int .i64 self,.slice a n k] w fun e w' => e = .returned (.int .i64 (An.ck c self L))∧Below w.heap.size w w':=by
 have hmx:=h.max;have hcp:=h.cap;have hln:=h.len
 unfold maxLen at hmx
 have H:=hide h;have HN:=hide hln;have HL:=hide hlogs;clear h hln hlogs;have B0 : Hid (Below w.heap.size w (w.alloc (.cells #[.int .i64 c.F,.int .i64 c.R,.int .i64 c.P,.bool c.u] 23))):=(Below.refl _ w).alloc LR _;have cc:=hide (fun W => configMayBe_any8 c W)
 unfold Cg.val at cc
 have HCK : Hid (An.ck c self L = if c.ok = false then 1 else if An.ckl c self 0 L = true then 0 else 80):=rfl
 generalize An.ck c self L = CK at *
 show Calls Tryz.prog 117 #[.agg #[.int .i64 c.F,.int .i64 c.R,.int .i64 c.P,.bool c.u],.int .i64 self,.slice a n k] w _
 go_enter Tryz.func117,Tryz.ntmps117
 go_wp2_with fail
 refine (cc.out _).mono ?_;rintro e w1 ⟨rfl,b1⟩
 dsimp only
 have hz1 : w.heap.size + 1 ≤ w1.heap.size:=by have:=b1.size;simpa using this
 have D1 : Hid (Below (w.heap.size + 1) (w.alloc (.cells #[.int .i64 c.F,.int .i64 c.R,.int .i64 c.P,.bool c.u] 23)) w1):=by show Below _ _ _;simpa using b1
 clear b1 cc
 have KC : Hid (∀ v,Below (w.heap.size + 1) w1 v → v.cell? ⟨w.heap.size,0,none⟩ = some (.int .i64 c.F)∧v.cell? ⟨w.heap.size,1,none⟩ = some (.int .i64 c.R)):=fun v hv =>
  ⟨((D1.out.trans hv).cell (p:=⟨w.heap.size,0,none⟩) (by simp)).trans (by simp),((D1.out.trans hv).cell (p:=⟨w.heap.size,1,none⟩) (by simp)).trans (by simp)⟩
 have E1:=hide (B0.out.trans (D1.out.mono (by omega)))
 by_cases hk : c.ok = true
 ·have hF : 1 ≤ c.F∧c.F ≤ 3∧1 ≤ c.R∧c.R ≤ 256:=of_decide_eq_true hk
  obtain ⟨hF1,hF3,_,_⟩:=hF
  have HC2 : Hid (CK = if An.ckl c self 0 (L.drop 0) = true then 0 else 80):=by show _ = _;rw [HCK.out,hk,if_neg (by simp)];rfl
  rw [hk];clear HCK hk
  have hw1 : IntKind.i64.wrap (2 * c.F) = 2 * c.F:=by rw [IntKind.wrap_i64];omega
  have hw2 : IntKind.i64.wrap (2 * c.F + 1) = 2 * c.F + 1:=by rw [IntKind.wrap_i64];omega
  obtain ⟨k0,k1⟩:=KC.out w1 BR
  go_wp2
  go_loopw [20,8] (fun i l wr => ∃ (j : Nat) (l' : Int),i = .int .i64 (j : Int)∧j ≤ n∧l = .int .i64 l'∧(0 ≤ l'∧l' ≤ 8)∧Hid (CK = if An.ckl c self l' (L.drop j) = true then 0 else 80)∧Hid (Below (w.heap.size + 1) w1 wr)) (fun i _ _ => n - (intOf i).toNat)
  case atStart => exact ⟨0,0,rfl,Nat.zero_le _,rfl,⟨Int.le_refl _,by omega⟩,HC2,BR⟩
  case round =>
   obtain ⟨j,l',rfl,hj,rfl,⟨hl0,hl8⟩,hCK,hbl⟩:=hrel
   have zr : w.heap.size + 1 ≤ wr.heap.size:=by have:=hbl.out.size;omega
   by_cases hlt : j < n
   ·have hjl : j < L.length:=by rw [HN.out];exact hlt
    have hg : L[j]? = some L[j]:=List.getElem?_eq_getElem hjl;obtain ⟨q,o,ea,hq,y0,y1,y2,y3,y4,y5⟩:=(H.out.later (E1.out.trans (hbl.out.mono (by omega)))).AnV hg
    cases ea
    have hCK1 : Hid (CK = if (if L[j].n < l' ∨ 2 * c.F + 1 ≤ L[j].n ∨ L[j].n = self ∨ An.mb L[j] (2 * c.F + 1) c.R = false then false else An.ckl c self (L[j].n + 1) (L.drop (j + 1))) = true then 0 else 80):=by
     show _ = _
     rw [hCK.out,List.drop_eq_getElem_cons hjl,An.ckl]
    have HX : Hid (L[j].In w∧∀ e ∈ L[j].s.D,e.fits):=HL.out _ (List.getElem_mem hjl);clear hg hCK
    generalize L[j] = x at *
    have KX : Hid (∀ v,Below (wr.heap.size + 1) (wr.alloc (.cells #[.int .i64 x.n,.int .u64 x.h,.int .u64 x.l,.int .i64 x.v,.int .i64 x.c,.slice x.s.a x.s.D.length x.s.c] 165)) v → (v.cell? ⟨wr.heap.size,0,none⟩ = some (.int .i64 x.n)∧v.cell? ⟨wr.heap.size,1,none⟩ = some (.int .u64 x.h)∧v.cell? ⟨wr.heap.size,2,none⟩ = some (.int .u64 x.l)∧v.cell? ⟨wr.heap.size,3,none⟩ = some (.int .i64 x.v)∧v.cell? ⟨wr.heap.size,4,none⟩ = some (.int .i64 x.c)∧v.cell? ⟨wr.heap.size,5,none⟩ = some (.slice x.s.a x.s.D.length x.s.c))∧(v.cell? ⟨w.heap.size,0,none⟩ = some (.int .i64 c.F)∧v.cell? ⟨w.heap.size,1,none⟩ = some (.int .i64 c.R))):=fun v hv =>
     ⟨⟨(hv.cell (p:=⟨wr.heap.size,0,none⟩) (by simp)).trans (by simp),(hv.cell (p:=⟨wr.heap.size,1,none⟩) (by simp)).trans (by simp),(hv.cell (p:=⟨wr.heap.size,2,none⟩) (by simp)).trans (by simp),(hv.cell (p:=⟨wr.heap.size,3,none⟩) (by simp)).trans (by simp),(hv.cell (p:=⟨wr.heap.size,4,none⟩) (by simp)).trans (by simp),(hv.cell (p:=⟨wr.heap.size,5,none⟩) (by simp)).trans (by simp)⟩,KC.out v ((hbl.out.alloc zr _).trans (hv.mono (by omega)))⟩
    have hza : Hid ((wr.alloc (.cells #[.int .i64 x.n,.int .u64 x.h,.int .u64 x.l,.int .i64 x.v,.int .i64 x.c,.slice x.s.a x.s.D.length x.s.c] 165)).heap.size = wr.heap.size + 1):=by show _ = _;simp
    have D0 : Hid (Below (wr.heap.size + 1) (wr.alloc (.cells #[.int .i64 x.n,.int .u64 x.h,.int .u64 x.l,.int .i64 x.v,.int .i64 x.c,.slice x.s.a x.s.D.length x.s.c] 165)) (wr.alloc (.cells #[.int .i64 x.n,.int .u64 x.h,.int .u64 x.l,.int .i64 x.v,.int .i64 x.c,.slice x.s.a x.s.D.length x.s.c] 165))):=BR;have EB : Hid (Below (w.heap.size + 1) w1 (wr.alloc (.cells #[.int .i64 x.n,.int .u64 x.h,.int .u64 x.l,.int .i64 x.v,.int .i64 x.c,.slice x.s.a x.s.D.length x.s.c] 165))):=hbl.out.alloc zr _;have EE:=hide (E1.out.trans (EB.out.mono (by omega)));have cn:=hide (fun W => x.node_any W)
    unfold An.val at cn
    have cm:=hide (fun W (hW : Below w.heap.size w W) => x.may_any (2 * c.F + 1) c.R W (HX.out.1.later hW) HX.out.2 (by omega) (by omega))
    unfold An.val at cm
    obtain ⟨k0,k1⟩:=KC.out _ EB.out
    go_wp2_with fail
    refine (cn.out _).mono ?_;rintro e w2 ⟨rfl,bb⟩;have D2:=hide (D0.out.trans (bb.mono (by have:=D0.out.size;have h2:=hza.out;omega)));clear bb y0 y1 y2 y3 y4 y5 k0 k1;obtain ⟨⟨y0,y1,y2,y3,y4,y5⟩,⟨k0,k1⟩⟩:=KX.out w2 D2.out
    dsimp only
    by_cases h1 : x.n < l'
    ·have hCK2 : Hid (CK = 80):=by show _ = _;rw [hCK1.out,if_pos (c:=x.n < l' ∨ 2 * c.F + 1 ≤ x.n ∨ x.n = self ∨ An.mb x (2 * c.F + 1) c.R = false) (.inl h1)];rfl
     clear hCK1
     go_wp2
     go_ret
     exact ⟨by rw [hCK2.out];rfl,EE.out.trans (D2.out.mono (by omega))⟩
    ·go_wp2_with fail
     refine (cn.out _).mono ?_;rintro e w3 ⟨rfl,bb⟩;have D3:=hide (D2.out.trans (bb.mono (by have:=D2.out.size;have h2:=hza.out;omega)));clear bb y0 y1 y2 y3 y4 y5 k0 k1;obtain ⟨⟨y0,y1,y2,y3,y4,y5⟩,⟨k0,k1⟩⟩:=KX.out w3 D3.out
     dsimp only
     by_cases h2 : 2 * c.F + 1 ≤ x.n
     ·have hCK2 : Hid (CK = 80):=by show _ = _;rw [hCK1.out,if_pos (c:=x.n < l' ∨ 2 * c.F + 1 ≤ x.n ∨ x.n = self ∨ An.mb x (2 * c.F + 1) c.R = false) (.inr (.inl h2))];rfl
      clear hCK1
      go_wp2
      go_ret
      exact ⟨by rw [hCK2.out];rfl,EE.out.trans (D3.out.mono (by omega))⟩
     ·go_wp2_with fail
      refine (cn.out _).mono ?_;rintro e w4 ⟨rfl,bb⟩;have D4:=hide (D3.out.trans (bb.mono (by have:=D3.out.size;have h2:=hza.out;omega)));clear bb y0 y1 y2 y3 y4 y5 k0 k1;obtain ⟨⟨y0,y1,y2,y3,y4,y5⟩,⟨k0,k1⟩⟩:=KX.out w4 D4.out
      dsimp only
      by_cases h3 : x.n = self
      ·have h3b : (x.n == self) = true:=by simp [h3]
       have H3:=hide h3;clear h3
       have hCK2 : Hid (CK = 80):=by show _ = _;rw [hCK1.out,if_pos (c:=x.n < l' ∨ 2 * c.F + 1 ≤ x.n ∨ x.n = self ∨ An.mb x (2 * c.F + 1) c.R = false) (.inr (.inr (.inl H3.out)))];rfl
       clear hCK1
       go_wp2
       go_ret
       exact ⟨by rw [hCK2.out];rfl,EE.out.trans (D4.out.mono (by omega))⟩
      ·have h3b : (x.n == self) = false:=by simp [h3]
       go_wp2_with fail
       refine (cm.out _ (EE.out.trans (D4.out.mono (by omega)))).mono ?_;rintro e w5 ⟨rfl,bb⟩;have D5:=hide (D4.out.trans (bb.mono (by have:=D4.out.size;have h2:=hza.out;omega)));clear bb y0 y1 y2 y3 y4 y5 k0 k1;obtain ⟨⟨y0,y1,y2,y3,y4,y5⟩,⟨k0,k1⟩⟩:=KX.out w5 D5.out
       dsimp only
       cases hmb : An.mb x (2 * c.F + 1) c.R with
       | false =>
        have hCK2 : Hid (CK = 80):=by show _ = _;rw [hCK1.out,if_pos (c:=x.n < l' ∨ 2 * c.F + 1 ≤ x.n ∨ x.n = self ∨ An.mb x (2 * c.F + 1) c.R = false) (.inr (.inr (.inr hmb)))];rfl
        clear hCK1
        go_wp2
        go_ret
        exact ⟨by rw [hCK2.out];rfl,EE.out.trans (D5.out.mono (by omega))⟩
       | true =>
        have hCK2 : Hid (CK = if An.ckl c self (x.n + 1) (L.drop (j + 1)) = true then 0 else 80):=by
         show _ = _
         have hno : ¬ (x.n < l' ∨ 2 * c.F + 1 ≤ x.n ∨ x.n = self ∨ An.mb x (2 * c.F + 1) c.R = false):=by
          rintro (hc | hc | hc | hc)
          ·omega
          ·omega
          ·exact h3 hc
          ·rw [hmb] at hc;cases hc
         rw [hCK1.out,if_neg hno]
        have hw3 : IntKind.i64.wrap (x.n + 1) = x.n + 1:=by rw [IntKind.wrap_i64];omega
        clear hCK1 hmb
        go_wp2_with fail
        refine (cn.out _).mono ?_;rintro e w6 ⟨rfl,bb⟩;have D6:=hide (D5.out.trans (bb.mono (by have:=D5.out.size;have h2:=hza.out;omega)));clear bb y0 y1 y2 y3 y4 y5 k0 k1;obtain ⟨⟨y0,y1,y2,y3,y4,y5⟩,⟨k0,k1⟩⟩:=KX.out w6 D6.out
        dsimp only
        go_wp2
        go_round
        case rel => exact ⟨j + 1,x.n + 1,by go_num,by omega,rfl,⟨by omega,by omega⟩,hCK2,EB.out.trans (D6.out.mono (by omega))⟩
        case measure => first | (simp [intOf];done) | (simp [intOf];omega)
   ·obtain rfl : j = n:=by omega
    have hCK1 : Hid (CK = 0):=by show _ = _;rw [hCK.out,List.drop_of_length_le (by rw [HN.out];exact LR),An.ckl,if_pos rfl]
    clear hCK
    go_wp2
    go_ret
    exact ⟨by rw [hCK1.out];rfl,E1.out.trans (hbl.out.mono (by omega))⟩
 ·have hk2 : c.ok = false:=by simpa using hk
  have hCK1 : Hid (CK = 1):=by show _ = _;rw [HCK.out,if_pos hk2]
  rw [hk2];clear HCK
  go_wp2
  go_ret
  exact ⟨by rw [hCK1.out];rfl,E1.out⟩
theorem An.Check_any (c : Cg) (self : Int) (L : List An) (a : Option Addr) (n k : Nat) (w : World) (h : SlY yAnA w a n k L) (hb : n * 64 ≤ 281474976710656) (hlogs : ∀ x ∈ L,x.In w∧∀ e ∈ x.s.D,e.fits) :
  Calls Tryz.prog 76 #[c.val,.int .i64 self,.slice a n k] w fun e w' => e = .returned (.int .i64 (An.ck c self L))∧Below w.heap.size w w':=by
 have B0 : Hid (Below w.heap.size w (w.alloc (.cells #[.int .i64 c.F,.int .i64 c.R,.int .i64 c.P,.bool c.u] 23))):=(Below.refl _ w).alloc LR _
 have hwz : Hid ((w.alloc (.cells #[.int .i64 c.F,.int .i64 c.R,.int .i64 c.P,.bool c.u] 23)).heap.size = w.heap.size + 1):=by show _ = _;simp
 have KC : Hid (∀ v,Below (w.heap.size + 1) (w.alloc (.cells #[.int .i64 c.F,.int .i64 c.R,.int .i64 c.P,.bool c.u] 23)) v → v.cell? ⟨w.heap.size,0,none⟩ = some (.int .i64 c.F)∧v.cell? ⟨w.heap.size,1,none⟩ = some (.int .i64 c.R)∧v.cell? ⟨w.heap.size,2,none⟩ = some (.int .i64 c.P)∧v.cell? ⟨w.heap.size,3,none⟩ = some (.bool c.u)):=fun v hv =>
  ⟨(hv.cell (p:=⟨w.heap.size,0,none⟩) (by simp)).trans (by simp),(hv.cell (p:=⟨w.heap.size,1,none⟩) (by simp)).trans (by simp),(hv.cell (p:=⟨w.heap.size,2,none⟩) (by simp)).trans (by simp),(hv.cell (p:=⟨w.heap.size,3,none⟩) (by simp)).trans (by simp)⟩
 have H:=hide h;clear h;have ck:=hide (fun W (hW : Below w.heap.size w W) a' n' k' (hs : SlY yAnV W a' n' k' L) => An.check_any c self L a' n' k' W hs (fun x hx => ⟨(hlogs x hx).1.later hW,(hlogs x hx).2⟩));clear hlogs
 unfold Cg.val at ck
 generalize An.ck c self L = CK at *
 show Calls Tryz.prog 76 #[.agg #[.int .i64 c.F,.int .i64 c.R,.int .i64 c.P,.bool c.u],.int .i64 self,.slice a n k] w _
 generalize hw0 : w.alloc (.cells #[.int .i64 c.F,.int .i64 c.R,.int .i64 c.P,.bool c.u] 23) = w0 at *
 have s0:=KC.out _ (Below.refl (w.heap.size + 1) w0).drew
 go_enter Tryz.func76,Tryz.ntmps76
 go_wp2_with fail
 try rw [hw0]
 clear hw0
 go_region_held3 (fun v => v.cell? ⟨w.heap.size,0,none⟩ = some (.int .i64 c.F)∧v.cell? ⟨w.heap.size,1,none⟩ = some (.int .i64 c.R)∧v.cell? ⟨w.heap.size,2,none⟩ = some (.int .i64 c.P)∧v.cell? ⟨w.heap.size,3,none⟩ = some (.bool c.u)) (with_reducible assumption) (first
  | (have:=D2;go_at_call 117;refine (ck.out _ (B0.out.trans (D2.out.mono (by omega))) _ _ _ (o2.sl' kAnV)).mono ?_;rintro e w3 ⟨rfl,b3⟩;have D3:=hide (D2.out.trans (b3.mono (by have:=D2.out.size;have h2:=hwz.out;omega)));have s3:=KC.out w3 D3.out;clear b3 o2)
  | (go_at_call 107;refine (An.hold_any L a n k _ (H.out.later B0.out.drew) hb).mono ?_;rintro e w2 ⟨rfl,o2,b2⟩;have D2:=hide ((Below.refl (w.heap.size + 1) w0).drew.trans (b2.mono (by show _ ≤ w0.heap.size;rw [hwz.out];exact LR)));have s2:=KC.out w2 D2.out;clear b2))
 go_wp2
 go_ret
 exact ⟨rfl,B0.out.trans (D3.out.mono (by omega))⟩
structure Bl where
 n : Int
 h : Int
 l : Int
 v : Int
 c : Int
 s : SV En
def Bl.cs (x : Bl) : List Value:=[.int .i64 x.n,.int .u64 x.h,.int .u64 x.l,.int .i64 x.v,.int .i64 x.c,.slice x.s.a x.s.D.length x.s.c]
def Bl.val (x : Bl) : Value:=.agg #[.int .i64 x.n,.int .u64 x.h,.int .u64 x.l,.int .i64 x.v,.int .i64 x.c,.slice x.s.a x.s.D.length x.s.c]
def yBlA : Lay Bl:=⟨75,30,6,64,Bl.cs,⟨0,0,0,0,0,⟨none,0,[]⟩⟩⟩
def yBlV : Lay Bl:=⟨157,159,6,64,Bl.cs,⟨0,0,0,0,0,⟨none,0,[]⟩⟩⟩
theorem kBlA : yBlA.Ok:=⟨by decide,fun x => rfl,fun x u h => by
  simp [yBlA,Bl.cs] at h
  rcases h with rfl | rfl | rfl | rfl | rfl | rfl <;> rfl,Tryz.underlying30,⟨.agg #[.int .i64 (⟨0,0,0,0,0,⟨none,0,[]⟩⟩ : Bl).n,.int .u64 (⟨0,0,0,0,0,⟨none,0,[]⟩⟩ : Bl).h,.int .u64 (⟨0,0,0,0,0,⟨none,0,[]⟩⟩ : Bl).l,.int .i64 (⟨0,0,0,0,0,⟨none,0,[]⟩⟩ : Bl).v,.int .i64 (⟨0,0,0,0,0,⟨none,0,[]⟩⟩ : Bl).c,.slice (⟨0,0,0,0,0,⟨none,0,[]⟩⟩ : Bl).s.a (⟨0,0,0,0,0,⟨none,0,[]⟩⟩ : Bl).s.D.length (⟨0,0,0,0,0,⟨none,0,[]⟩⟩ : Bl).s.c],by kernel_rfl,rfl⟩⟩
theorem kBlV : yBlV.Ok:=⟨by decide,fun x => rfl,fun x u h => by
  simp [yBlV,Bl.cs] at h
  rcases h with rfl | rfl | rfl | rfl | rfl | rfl <;> rfl,Tryz.underlying159,⟨.agg #[.int .i64 (⟨0,0,0,0,0,⟨none,0,[]⟩⟩ : Bl).n,.int .u64 (⟨0,0,0,0,0,⟨none,0,[]⟩⟩ : Bl).h,.int .u64 (⟨0,0,0,0,0,⟨none,0,[]⟩⟩ : Bl).l,.int .i64 (⟨0,0,0,0,0,⟨none,0,[]⟩⟩ : Bl).v,.int .i64 (⟨0,0,0,0,0,⟨none,0,[]⟩⟩ : Bl).c,.slice (⟨0,0,0,0,0,⟨none,0,[]⟩⟩ : Bl).s.a (⟨0,0,0,0,0,⟨none,0,[]⟩⟩ : Bl).s.D.length (⟨0,0,0,0,0,⟨none,0,[]⟩⟩ : Bl).s.c],by kernel_rfl,rfl⟩⟩
theorem SlY.BlA {w : World} {a : Option Addr} {n c : Nat} {L : List Bl} (h : SlY yBlA w a n c L) {j : Nat} {x : Bl} (hx : L[j]? = some x) : ∃ q o,a = some ⟨q,o,none⟩∧q < w.heap.size∧w.cell? ⟨q,o + j * 6,none⟩ = some (.int .i64 x.n)∧w.cell? ⟨q,o + j * 6 + 1,none⟩ = some (.int .u64 x.h)∧w.cell? ⟨q,o + j * 6 + 2,none⟩ = some (.int .u64 x.l)∧w.cell? ⟨q,o + j * 6 + 3,none⟩ = some (.int .i64 x.v)∧w.cell? ⟨q,o + j * 6 + 4,none⟩ = some (.int .i64 x.c)∧w.cell? ⟨q,o + j * 6 + 5,none⟩ = some (.slice x.s.a x.s.D.length x.s.c):=by
 obtain ⟨q,o,ea,hq,hl⟩:=h.place (by rintro rfl;simp at hx)
 exact ⟨q,o,ea,hq,hl j x hx 0 _ rfl,hl j x hx 1 _ rfl,hl j x hx 2 _ rfl,hl j x hx 3 _ rfl,hl j x hx 4 _ rfl,hl j x hx 5 _ rfl⟩
theorem SlY.BlV {w : World} {a : Option Addr} {n c : Nat} {L : List Bl} (h : SlY yBlV w a n c L) {j : Nat} {x : Bl} (hx : L[j]? = some x) : ∃ q o,a = some ⟨q,o,none⟩∧q < w.heap.size∧w.cell? ⟨q,o + j * 6,none⟩ = some (.int .i64 x.n)∧w.cell? ⟨q,o + j * 6 + 1,none⟩ = some (.int .u64 x.h)∧w.cell? ⟨q,o + j * 6 + 2,none⟩ = some (.int .u64 x.l)∧w.cell? ⟨q,o + j * 6 + 3,none⟩ = some (.int .i64 x.v)∧w.cell? ⟨q,o + j * 6 + 4,none⟩ = some (.int .i64 x.c)∧w.cell? ⟨q,o + j * 6 + 5,none⟩ = some (.slice x.s.a x.s.D.length x.s.c):=by
 obtain ⟨q,o,ea,hq,hl⟩:=h.place (by rintro rfl;simp at hx)
 exact ⟨q,o,ea,hq,hl j x hx 0 _ rfl,hl j x hx 1 _ rfl,hl j x hx 2 _ rfl,hl j x hx 3 _ rfl,hl j x hx 4 _ rfl,hl j x hx 5 _ rfl⟩
theorem Bl.node_any (x : Bl) (w : World) : Calls Tryz.prog 178 #[x.val] w fun e w' => e = .returned (.int .i64 x.n)∧Below w.heap.size w w':=by
 show Calls Tryz.prog 178 #[.agg #[.int .i64 x.n,.int .u64 x.h,.int .u64 x.l,.int .i64 x.v,.int .i64 x.c,.slice x.s.a x.s.D.length x.s.c]] w _
 go_enter Tryz.func178,Tryz.ntmps178
 go_wp2
 go_ret
 exact ⟨rfl,BR.alloc LR _⟩
theorem Bl.draw_any (x : Bl) (w : World) : Calls Tryz.prog 176 #[x.val] w fun e w' => e = .returned (.agg #[.int .u64 x.h,.int .u64 x.l])∧Below w.heap.size w w':=by
 show Calls Tryz.prog 176 #[.agg #[.int .i64 x.n,.int .u64 x.h,.int .u64 x.l,.int .i64 x.v,.int .i64 x.c,.slice x.s.a x.s.D.length x.s.c]] w _
 go_enter Tryz.func176,Tryz.ntmps176
 go_wp2
 refine bodyPost_ret (v:=.agg #[.int .u64 x.h,.int .u64 x.l]) (by simp [results,Tryz.results176,go_sem]) rfl ?_
 exact ⟨rfl,by (repeat (first | exact Below.refl _ _ | assumption | refine Below.drew ?_ | refine Below.alloc ?_ (by first | (simp;done) | (simp;omega) | omega) _ | refine Below.setCell ?_ (by first | (simp;done) | (simp;omega) | omega) _))⟩
theorem Bl.as_any (x : Bl) (w : World) : Calls Tryz.prog 103 #[x.val] w fun e w' => e = .returned x.val∧Below w.heap.size w w':=by
 show Calls Tryz.prog 103 #[.agg #[.int .i64 x.n,.int .u64 x.h,.int .u64 x.l,.int .i64 x.v,.int .i64 x.c,.slice x.s.a x.s.D.length x.s.c]] w _
 go_enter Tryz.func103,Tryz.ntmps103
 go_wp2
 refine bodyPost_ret (v:=x.val) (by simp [results,Tryz.results103,go_sem,Bl.val]) rfl ?_
 exact ⟨rfl,by (repeat (first | exact Below.refl _ _ | assumption | refine Below.drew ?_ | refine Below.alloc ?_ (by first | (simp;done) | (simp;omega) | omega) _ | refine Below.setCell ?_ (by first | (simp;done) | (simp;omega) | omega) _))⟩
theorem Bl.ifnode (x : Bl) (w : World) : (invoke (.fn (.method "amnesia/tally.node") #[]) #[.iface 157 x.val]).run Tryz.prog w = .ok (.enter 178 #[x.val]) w := by kernel_rfl
theorem Bl.hold_any (L : List Bl) (a : Option Addr) (n c : Nat) (w : World) (h : SlY yBlA w a n c L) (hb : n * 64 ≤ 281474976710656) :
  Calls Tryz.prog 102 #[.slice a n c,.func (.func 103) #[] #[]] w fun e w' => e = .returned (.slice (some ⟨w.heap.size,0,none⟩) n n)∧OwnY yBlV w.heap.size w' (.slice (some ⟨w.heap.size,0,none⟩) n n) L∧Below w.heap.size w w':=by
 have hmx:=h.max;have hcp:=h.cap;have hln:=h.len
 unfold maxLen at hmx
 have H:=hide h;have HN:=hide hln;clear h hln
 go_enter Tryz.func102,Tryz.ntmps102
 go_wp2_with (at_make;go_must (refine makeYs kBlV _ rfl (.tmp 9) rfl n rfl (by unfold maxLen;omega) hb ?zk))
 intro w1 o1 b1
 have HO : Hid (OwnY yBlV w.heap.size w1 (.slice (some ⟨w.heap.size,0,none⟩) n n) (L.take 0 ++ List.replicate (n - 0) yBlV.z)):=by
  show OwnY _ _ _ _ _
  simpa using o1
 clear o1
 go_wp2
 go_loopw [13] (fun i wr => ∃ j : Nat,i = .int .i64 (j : Int)∧j ≤ n∧Hid (OwnY yBlV w.heap.size wr (.slice (some ⟨w.heap.size,0,none⟩) n n) (L.take j ++ List.replicate (n - j) yBlV.z))∧Below w.heap.size w wr) (fun i _ => n - (intOf i).toNat)
 case atStart => exact ⟨0,rfl,Nat.zero_le _,HO,b1⟩
 case round =>
  obtain ⟨j,rfl,hj,hO,hbl⟩:=hrel;have hsz:=hbl.size
  by_cases hlt : j < n
  ·have hjl : j < L.length:=by rw [HN.out];exact hlt
   have hg : L[j]? = some L[j]:=List.getElem?_eq_getElem hjl;obtain ⟨q,o,rfl,hq,y0,y1,y2,y3,y4,y5⟩:=(H.out.later hbl).BlA hg
   have hlt0 : w.heap.size < wr.heap.size:=by
    obtain ⟨_,_,ee,_,_,_,h4⟩:=hO.out.form
    injection ee with ee
    obtain ⟨g',e2,_,h5⟩:=h4 _ ee.symm
    cases e2
    exact h5
   have hset : Hid ((L.take j ++ List.replicate (n - j) yBlV.z).set j L[j] = L.take (j + 1) ++ List.replicate (n - (j + 1)) yBlV.z):=by
    show _ = _
    have hl : (L.take j).length = j:=by rw [List.length_take];omega
    rw [List.set_append_right _ _ (by omega),hl,Nat.sub_self,show n - j = (n - (j + 1)) + 1 by omega,List.replicate_succ,List.set_cons_zero,List.take_add_one,hg];simp only [Option.toList_some,List.append_assoc,List.cons_append,List.nil_append]
   have hget : Hid ((L.take j ++ List.replicate (n - j) yBlV.z)[j]? = some yBlV.z):=by
    show _ = _
    have hl : (L.take j).length = j:=by rw [List.length_take];omega
    rw [List.getElem?_append_right (by omega),hl,Nat.sub_self,show n - j = (n - (j + 1)) + 1 by omega,List.replicate_succ]
    rfl
   clear hg
   generalize L[j] = x at *
   generalize hX : L.take j ++ List.replicate (n - j) yBlV.z = XX at *
   clear hX;have bA:=hide (hbl.trans (((Below.refl _ wr).alloc LR (.cells #[.int .i64 x.n,.int .u64 x.h,.int .u64 x.l,.int .i64 x.v,.int .i64 x.c,.slice x.s.a x.s.D.length x.s.c] 75)).mono hsz));have OA:=hide (hO.out.alloc (.cells #[.int .i64 x.n,.int .u64 x.h,.int .u64 x.l,.int .i64 x.v,.int .i64 x.c,.slice x.s.a x.s.D.length x.s.c] 75));have ca:=hide (x.as_any (wr.alloc (.cells #[.int .i64 x.n,.int .u64 x.h,.int .u64 x.l,.int .i64 x.v,.int .i64 x.c,.slice x.s.a x.s.D.length x.s.c] 75)));clear hO
   go_wp2_with fail
   refine ca.out.mono ?_;rintro e w2 ⟨rfl,b2⟩;have O2:=hide (OA.out.grow b2);have z2:=b2.size;rw [World.size_alloc] at z2
   dsimp only
   go_wp2_with (first
    | (refine storeY kBlV _ rfl 157 (.tmp 23) (.tmp 22) rfl w.heap.size w.heap.size n n XX j 0 yBlV.z x _ rfl rfl hget.out (by kernel_rfl) (by exact (by decide : 6 ≤ 6)) rfl O2.out ?_;intro w3 o3 u3 z3;have O3:=hide o3;clear o3)
    | go_in)
   go_round
   case rel =>
    refine ⟨j + 1,by go_num,by omega,by show OwnY _ _ _ _ _;rw [← hset.out];exact O3.out,bA.out.trans ((b2.mono (by simp;omega)).trans (u3.below (by omega) (fun k e => by subst e;exact LR)))⟩
   case measure => simp [intOf];omega
  ·obtain rfl : j = n:=by omega
   have O9 : Hid (OwnY yBlV w.heap.size wr (.slice (some ⟨w.heap.size,0,none⟩) j j) L):=by
    show OwnY _ _ _ _ _
    have:=hO.out;rw [Nat.sub_self,List.replicate_zero,List.append_nil,List.take_of_length_le (by rw [HN.out];exact LR)] at this
    exact this
   clear hO
   go_wp2
   go_ret
   exact ⟨rfl,O9.out,hbl⟩
theorem Bl.index_any (p : Bl → Bool) (g : Nat) (lb : Array Value) (eg : ∀ args w,(callFunc g args).run Tryz.prog w = .ok (.enter g args) w) (L : List Bl) (a : Option Addr) (n c : Nat) (w : World) (h : SlY yBlV w a n c L)
  (hp : ∀ (W : World) (x : Bl),Below w.heap.size w W → Calls Tryz.prog g (#[x.val] ++ lb) W fun e w' => e = .returned (.bool (p x))∧Below w.heap.size w w') :
  Calls Tryz.prog 151 #[.slice a n c,.func (.func g) #[] lb] w fun e w' => e = .returned (.int .i64 (ix p L))∧Below w.heap.size w w':=by
 have hmx:=h.max;have hcp:=h.cap;have hln:=h.len
 unfold maxLen at hmx
 have H:=hide h;have HN:=hide hln;have HP:=hide hp;clear h hln hp
 go_enter Tryz.func151,Tryz.ntmps151
 go_wp2
 go_loopw [8] (fun i wr => ∃ j : Nat,i = .int .i64 (j : Int)∧j ≤ n∧Hid (∀ k (hk : k < L.length),k < j → p L[k] = false)∧Below w.heap.size w wr) (fun i _ => n - (intOf i).toNat)
 case atStart => exact ⟨0,rfl,Nat.zero_le _,fun k hk h => absurd h (Nat.not_lt_zero _),BR⟩
 case round =>
  obtain ⟨j,rfl,hj,hA,hbl⟩:=hrel;have hsz:=hbl.size
  by_cases hlt : j < n
  ·have hjl : j < L.length:=by rw [HN.out];exact hlt
   have hg : L[j]? = some L[j]:=List.getElem?_eq_getElem hjl;obtain ⟨q,o,rfl,hq,y0,y1,y2,y3,y4,y5⟩:=(H.out.later hbl).BlV hg;have hcall:=HP.out wr L[j] hbl
   have hH : Hid (p L[j] = true → ix p L = (j : Int)):=fun hp => ix_hit hjl hp (fun k hk => hA.out k (by omega) hk)
   have hS : Hid (p L[j] = false → ∀ k (hk : k < L.length),k < j + 1 → p L[k] = false):=fun hp k hk hkj => by
    by_cases e : k = j
    ·subst e;exact hp
    ·exact hA.out k hk (by omega)
   clear hA hg
   generalize L[j] = x at *
   unfold Bl.val at hcall
   cases hq2 : p x with
   | true =>
    have hx:=hide (hH.out hq2);rw [hq2] at hcall;clear hH hS
    go_wp2_with (go_at_fn g;refine hcall.mono ?_;rintro e w' ⟨rfl,hb'⟩)
    go_ret
    exact ⟨by rw [hx.out];rfl,hb'⟩
   | false =>
    have hx:=hide (hS.out hq2);rw [hq2] at hcall;clear hH hS
    go_wp2_with (go_at_fn g;refine hcall.mono ?_;rintro e w' ⟨rfl,hb'⟩)
    go_round
    case rel => exact ⟨j + 1,by go_num,by omega,hx,hb'⟩
    case measure => simp [intOf];omega
  ·obtain rfl : j = n:=by omega
   have hx : Hid (ix p L = -1):=ix_miss (fun x hx => by
    obtain ⟨k,hk,rfl⟩:=List.mem_iff_getElem.1 hx
    exact hA.out k hk (by rw [← HN.out];exact hk))
   clear hA
   go_wp2
   go_ret
   exact ⟨by rw [hx.out];rfl,hbl⟩
theorem Bl.box (x : Bl) (w v : World) (hv : Below (w.heap.size + 1) (w.alloc (.cells #[.int .i64 x.n,.int .u64 x.h,.int .u64 x.l,.int .i64 x.v,.int .i64 x.c,.slice x.s.a x.s.D.length x.s.c] 157)) v) : v.cell? ⟨w.heap.size,0,none⟩ = some (.int .i64 x.n)∧v.cell? ⟨w.heap.size,1,none⟩ = some (.int .u64 x.h)∧v.cell? ⟨w.heap.size,2,none⟩ = some (.int .u64 x.l)∧v.cell? ⟨w.heap.size,3,none⟩ = some (.int .i64 x.v)∧v.cell? ⟨w.heap.size,4,none⟩ = some (.int .i64 x.c)∧v.cell? ⟨w.heap.size,5,none⟩ = some (.slice x.s.a x.s.D.length x.s.c) :=
 ⟨(hv.cell (p:=⟨w.heap.size,0,none⟩) (by simp)).trans (by simp),(hv.cell (p:=⟨w.heap.size,1,none⟩) (by simp)).trans (by simp),(hv.cell (p:=⟨w.heap.size,2,none⟩) (by simp)).trans (by simp),(hv.cell (p:=⟨w.heap.size,3,none⟩) (by simp)).trans (by simp),(hv.cell (p:=⟨w.heap.size,4,none⟩) (by simp)).trans (by simp),(hv.cell (p:=⟨w.heap.size,5,none⟩) (by simp)).trans (by simp)⟩
theorem Bl.ifdraw (x : Bl) (w : World) : (invoke (.fn (.method "amnesia/tally.draw") #[]) #[.iface 157 x.val]).run Tryz.prog w = .ok (.enter 176 #[x.val]) w := by kernel_rfl
def Bl.re (x : Bl) (g : Nat) : Bl:={ x with s:=⟨some ⟨g,0,none⟩,x.s.D.length,x.s.D⟩ }
def Bl.In (w : World) (x : Bl) : Prop:=SlY yE w x.s.a x.s.D.length x.s.c x.s.D∧x.s.D.length * 48 ≤ 281474976710656
theorem Bl.In.later {w w' : World} {x : Bl} (h : x.In w) (hb : Below w.heap.size w w') : x.In w':=⟨h.1.later hb,h.2⟩
def Bl.Told (B : Nat) (w : World) (x y : Bl) : Prop:=x.s.D.length * 48 ≤ 281474976710656∧∃ g,y = x.re g∧OwnY yE B w (.slice (some ⟨g,0,none⟩) x.s.D.length x.s.D.length) x.s.D
theorem Bl.Told.bel {B : Nat} {w w' : World} {x y : Bl} (h : Bl.Told B w x y) (hb : Below w.heap.size w w') : Bl.Told B w' x y:=by
 obtain ⟨h0,g,e,o⟩:=h
 exact ⟨h0,g,e,o.grow hb⟩
theorem Bl.Told.low {B B' : Nat} {w : World} {x y : Bl} (h : Bl.Told B w x y) (hb : B' ≤ B) : Bl.Told B' w x y:=by
 obtain ⟨h0,g,e,o⟩:=h
 exact ⟨h0,g,e,o.low hb⟩
theorem Bl.Told.In {B : Nat} {w : World} {x y : Bl} (h : Bl.Told B w x y) : y.In w:=by
 obtain ⟨h0,g,rfl,o⟩:=h
 exact ⟨o.sl' kE,h0⟩
theorem Bl.Told.D {B : Nat} {w : World} {x y : Bl} (h : Bl.Told B w x y) : y.s.D = x.s.D∧y.n = x.n∧y.h = x.h∧y.l = x.l∧y.v = x.v∧y.c = x.c:=by
 obtain ⟨h0,g,rfl,o⟩:=h
 exact ⟨rfl,rfl,rfl,rfl,rfl,rfl⟩
def Bl.Tolds (B : Nat) (w : World) (L R : List Bl) : Prop:=R.length = L.length∧∀ (i : Nat) (x y : Bl),L[i]? = some x → R[i]? = some y → Bl.Told B w x y
theorem Bl.Tolds.bel {B : Nat} {w w' : World} {L R : List Bl} (h : Bl.Tolds B w L R) (hb : Below w.heap.size w w') : Bl.Tolds B w' L R:=⟨h.1,fun i x y hx hy => (h.2 i x y hx hy).bel hb⟩
theorem Bl.Tolds.low {B B' : Nat} {w : World} {L R : List Bl} (h : Bl.Tolds B w L R) (hb : B' ≤ B) : Bl.Tolds B' w L R:=⟨h.1,fun i x y hx hy => (h.2 i x y hx hy).low hb⟩
theorem hTEBl : yE.T ≠ yBlA.T:=by decide
theorem Bl.told_any (x : Bl) (w : World) (h : x.In w) : Calls Tryz.prog 104 #[x.val] w fun e w' => e = .returned (x.re (w.heap.size + 2)).val∧OwnY yE (w.heap.size + 2) w' (.slice (some ⟨w.heap.size + 2,0,none⟩) x.s.D.length x.s.D.length) x.s.D∧Below w.heap.size w w':=by
 obtain ⟨h,hd⟩:=h;obtain ⟨xn,xh,xl,xv,xc,⟨xa,xp,xD⟩⟩:=x
 dsimp only at h hd
 have wz:=hide (show ((w.alloc (.cells #[.int .i64 xn,.int .u64 xh,.int .u64 xl,.int .i64 xv,.int .i64 xc,.slice xa xD.length xp] 157)).alloc (.cells #[.int .i64 0,.int .u64 0,.int .u64 0,.int .i64 0,.int .i64 0,.slice none 0 0] 75)).heap.size = w.heap.size + 2 by simp);have b1 : Below w.heap.size w ((w.alloc (.cells #[.int .i64 xn,.int .u64 xh,.int .u64 xl,.int .i64 xv,.int .i64 xc,.slice xa xD.length xp] 157)).alloc (.cells #[.int .i64 0,.int .u64 0,.int .u64 0,.int .i64 0,.int .i64 0,.slice none 0 0] 75)):=((Below.refl _ w).alloc LR _).alloc (by simp) _;have cc:=copied_any xD xa xD.length xp _ (h.later b1) hd;rw [wz.out] at cc;have CC:=hide cc;have B1:=hide b1;clear cc b1 h
 show Calls Tryz.prog 104 #[.agg #[.int .i64 xn,.int .u64 xh,.int .u64 xl,.int .i64 xv,.int .i64 xc,.slice xa xD.length xp]] w fun e w' => e = .returned (.agg #[.int .i64 xn,.int .u64 xh,.int .u64 xl,.int .i64 xv,.int .i64 xc,.slice (some ⟨w.heap.size + 2,0,none⟩) xD.length xD.length])∧OwnY yE (w.heap.size + 2) w' (.slice (some ⟨w.heap.size + 2,0,none⟩) xD.length xD.length) xD∧Below w.heap.size w w'
 go_enter Tryz.func104,Tryz.ntmps104
 go_wp2_with fail
 refine CC.out.mono ?_;rintro e w1 ⟨rfl,o1,b1⟩
 have ox : OwnY yBlV w.heap.size w1 (.slice (some ⟨w.heap.size,0,none⟩) 1 1) [⟨xn,xh,xl,xv,xc,⟨xa,xp,xD⟩⟩] :=
  (((own_box kBlV w.heap.size w ⟨xn,xh,xl,xv,xc,⟨xa,xp,xD⟩⟩ LR).alloc _).upd1 (Upd.of_below (by rw [← wz.out] at b1;exact b1)) (fun _ _ => id))
 have oz : OwnY yBlA w.heap.size w1 (.slice (some ⟨w.heap.size + 1,0,none⟩) 1 1) [⟨0,0,0,0,0,⟨none,0,[]⟩⟩]:=by
  have:=(own_box kBlA w.heap.size (w.alloc (.cells #[.int .i64 xn,.int .u64 xh,.int .u64 xl,.int .i64 xv,.int .i64 xc,.slice xa xD.length xp] 157)) ⟨0,0,0,0,0,⟨none,0,[]⟩⟩ (by simp)).upd1 (Upd.of_below (by rw [← wz.out] at b1;exact b1)) (fun _ _ => id);rw [World.size_alloc] at this
  exact this
 have z1 : w.heap.size + 2 ≤ w1.heap.size:=by have:=b1.size;rwa [wz.out] at this
 have O1:=hide o1;have B2:=hide (B1.out.trans (b1.mono (by omega)));have OX:=hide ox;have OZ:=hide oz;clear o1 b1 ox oz CC B1 wz
 dsimp only
 go_wp2_with (refine storeY kBlV _ rfl 25 (.tmp 6) (.tmp 5) rfl w.heap.size w.heap.size 1 1 [⟨xn,xh,xl,xv,xc,⟨xa,xp,xD⟩⟩] 0 5 ⟨xn,xh,xl,xv,xc,⟨xa,xp,xD⟩⟩ ⟨xn,xh,xl,xv,xc,⟨some ⟨w.heap.size + 2,0,none⟩,xD.length,xD⟩⟩ _ rfl rfl rfl (by kernel_rfl) (by exact (by decide : 6 ≤ 6)) rfl OX.out ?zk)
 intro w2 o2 u2 z2;have y0:=o2.cell kBlV 0 _ rfl 0 _ rfl;have y1:=o2.cell kBlV 0 _ rfl 1 _ rfl;have y2:=o2.cell kBlV 0 _ rfl 2 _ rfl;have y3:=o2.cell kBlV 0 _ rfl 3 _ rfl;have y4:=o2.cell kBlV 0 _ rfl 4 _ rfl;have y5:=o2.cell kBlV 0 _ rfl 5 _ rfl;simp only [Nat.zero_mul,Nat.zero_add] at y0 y1 y2 y3 y4 y5;have OZ2:=hide (OZ.out.upd1 u2 (fun g e => by cases e;show ¬ (w.heap.size + 1 = w.heap.size);omega));have U2:=hide u2;clear o2 u2
 go_wp2_with (refine storeY kBlA _ rfl 75 (.tmp 2) (.tmp 7) rfl w.heap.size (w.heap.size + 1) 1 1 [⟨0,0,0,0,0,⟨none,0,[]⟩⟩] 0 0 ⟨0,0,0,0,0,⟨none,0,[]⟩⟩ ⟨xn,xh,xl,xv,xc,⟨some ⟨w.heap.size + 2,0,none⟩,xD.length,xD⟩⟩ _ rfl rfl rfl (by kernel_rfl) (by exact (by decide : 6 ≤ 6)) rfl OZ2.out ?zl)
 intro w3 o3 u3 z3;have OZ3:=hide o3;have U3:=hide u3;clear o3 u3
 go_wp2
 have v0:=OZ3.out.cell kBlA 0 _ rfl 0 _ rfl;have v1:=OZ3.out.cell kBlA 0 _ rfl 1 _ rfl;have v2:=OZ3.out.cell kBlA 0 _ rfl 2 _ rfl;have v3:=OZ3.out.cell kBlA 0 _ rfl 3 _ rfl;have v4:=OZ3.out.cell kBlA 0 _ rfl 4 _ rfl;have v5:=OZ3.out.cell kBlA 0 _ rfl 5 _ rfl;simp only [Nat.zero_mul,Nat.zero_add] at v0 v1 v2 v3 v4 v5;refine bodyPost_ret (v:=.agg #[.int .i64 xn,.int .u64 xh,.int .u64 xl,.int .i64 xv,.int .i64 xc,.slice (some ⟨w.heap.size + 2,0,none⟩) xD.length xD.length]) (by simp [results,Tryz.results104,go_sem,v0,v1,v2,v3,v4,v5]) rfl ?_;refine ⟨rfl,(O1.out.upd1 U2.out (fun g e => by cases e;show ¬ (w.heap.size + 2 = w.heap.size);omega)).upd1 U3.out (fun g e => by cases e;show ¬ (w.heap.size + 2 = w.heap.size + 1);omega),(B2.out.trans (U2.out.below (by omega) (fun k e => by subst e;exact LR))).trans (U3.out.below (by omega) (fun k e => by subst e;omega))⟩
theorem Bl.Tolds.snoc {B g : Nat} {w w2 w3 : World} {L R : List Bl} {j : Nat} {x : Bl} {q : Nat} (h : Bl.Tolds B w (L.take j) R) (hj : L[j]? = some x) (hB : B ≤ q) (hb : Below w.heap.size w w2) (hd : x.s.D.length * 48 ≤ 281474976710656) (ho : OwnY yE q w2 (.slice (some ⟨q,0,none⟩) x.s.D.length x.s.D.length) x.s.D) (u : Upd (· = g) w2 w3) (hr : ∃ cs f,w2.heap[g]? = some (.cells cs yBlA.T f)) : Bl.Tolds B w3 (L.take (j + 1)) (R ++ [x.re q]):=by
 have hjl:=(List.getElem?_eq_some_iff.1 hj).1
 have keep : ∀ {B' g' n c : Nat} {l : List En},OwnY yE B' w2 (.slice (some ⟨g',0,none⟩) n c) l → OwnY yE B' w3 (.slice (some ⟨g',0,none⟩) n c) l:=fun {B' g' n c l} ho' => ho'.upd1 u (fun k e hk => by
  subst hk;obtain ⟨c1,f1,e1⟩:=ho'.kind e;obtain ⟨c2,f2,e2⟩:=hr;rw [e1] at e2
  injection e2 with e2
  injection e2 with _ e3
  exact hTEBl e3)
 have ht : (L.take j).length = j:=by rw [List.length_take];omega
 refine ⟨by rw [List.length_append,h.1,ht,List.length_take,List.length_singleton];omega,fun i y z hy hz => ?_⟩;rw [List.take_add_one,hj] at hy
 by_cases hi : i < j
 ·rw [List.getElem?_append_left (by omega)] at hy
  rw [List.getElem?_append_left (by rw [h.1];omega)] at hz;obtain ⟨h0,g',e,o⟩:=h.2 i y z hy hz
  exact ⟨h0,g',e,keep (o.grow hb)⟩
 ·rw [List.getElem?_append_right (by omega)] at hy
  rw [List.getElem?_append_right (by rw [h.1];omega)] at hz;rw [ht] at hy;rw [h.1,ht] at hz
  have hi0 : i - j = 0:=by
   have:=(List.getElem?_eq_some_iff.1 hz).1
   simp at this
   omega
  rw [hi0] at hy hz
  simp at hy hz
  subst hy hz
  exact ⟨hd,q,rfl,(keep ho).low hB⟩
theorem Bl.tell_any (L : List Bl) (a : Option Addr) (n c : Nat) (w : World) (h : SlY yBlV w a n c L) (hb : n * 64 ≤ 281474976710656) (hlogs : ∀ x ∈ L,x.In w) :
  Calls Tryz.prog 100 #[.slice a n c,.func (.func 104) #[] #[]] w fun e w' => e = .returned (.slice (some ⟨w.heap.size,0,none⟩) n n)∧(∃ R,OwnY yBlA w.heap.size w' (.slice (some ⟨w.heap.size,0,none⟩) n n) R∧Bl.Tolds w.heap.size w' L R)∧Below w.heap.size w w':=by
 have hmx:=h.max;have hcp:=h.cap;have hln:=h.len
 unfold maxLen at hmx
 have H:=hide h;have HN:=hide hln;have HX:=hide hlogs;clear h hln hlogs
 go_enter Tryz.func100,Tryz.ntmps100
 go_wp2_with (at_make;go_must (refine makeYs kBlA _ rfl (.tmp 9) rfl n rfl (by unfold maxLen;omega) hb ?zk))
 intro w1 o1 b1
 have HO : Hid (∃ R,OwnY yBlA w.heap.size w1 (.slice (some ⟨w.heap.size,0,none⟩) n n) (R ++ List.replicate (n - 0) yBlA.z)∧Bl.Tolds w.heap.size w1 (L.take 0) R):=⟨[],by simpa using o1,rfl,fun i x y hx hy => by simp at hy⟩
 clear o1
 go_wp2
 go_loopw [13] (fun i wr => ∃ j : Nat,i = .int .i64 (j : Int)∧j ≤ n∧Hid (∃ R,OwnY yBlA w.heap.size wr (.slice (some ⟨w.heap.size,0,none⟩) n n) (R ++ List.replicate (n - j) yBlA.z)∧Bl.Tolds w.heap.size wr (L.take j) R)∧Below w.heap.size w wr) (fun i _ => n - (intOf i).toNat)
 case atStart => exact ⟨0,rfl,Nat.zero_le _,HO,b1⟩
 case round =>
  obtain ⟨j,rfl,hj,hO,hbl⟩:=hrel;have hsz:=hbl.size;obtain ⟨R,oR,tR⟩:=hO.out;clear hO
  by_cases hlt : j < n
  ·have hjl : j < L.length:=by rw [HN.out];exact hlt
   have hg : L[j]? = some L[j]:=List.getElem?_eq_getElem hjl;obtain ⟨q,o,rfl,hq,y0,y1,y2,y3,y4,y5⟩:=(H.out.later hbl).BlV hg
   have hlt0 : w.heap.size < wr.heap.size:=by
    obtain ⟨_,_,ee,_,_,_,h4⟩:=oR.form
    injection ee with ee
    obtain ⟨g',e2,_,h5⟩:=h4 _ ee.symm
    cases e2
    exact h5
   have hRl : R.length = j:=by rw [tR.1,List.length_take];omega
   have hset : Hid (∀ y,(R ++ List.replicate (n - j) yBlA.z).set j y = (R ++ [y]) ++ List.replicate (n - (j + 1)) yBlA.z):=fun y => by
    rw [List.set_append_right _ _ (by omega),hRl,Nat.sub_self,show n - j = (n - (j + 1)) + 1 by omega,List.replicate_succ,List.set_cons_zero,List.append_assoc,List.singleton_append]
   have hget : Hid ((R ++ List.replicate (n - j) yBlA.z)[j]? = some yBlA.z):=by
    show _ = _
    rw [List.getElem?_append_right (by omega),hRl,Nat.sub_self,show n - j = (n - (j + 1)) + 1 by omega,List.replicate_succ]
    rfl
   have HIN:=(HX.out _ (List.getElem_mem hjl)).later hbl;have HG:=hide hg;clear hg hRl
   generalize L[j] = x at *
   generalize hX : R ++ List.replicate (n - j) yBlA.z = XX at *
   clear hX
   have wz : Hid ((wr.alloc (.cells #[.int .i64 x.n,.int .u64 x.h,.int .u64 x.l,.int .i64 x.v,.int .i64 x.c,.slice x.s.a x.s.D.length x.s.c] 157)).heap.size = wr.heap.size + 1):=by show _ = _;simp
   have bw : Below wr.heap.size wr (wr.alloc (.cells #[.int .i64 x.n,.int .u64 x.h,.int .u64 x.l,.int .i64 x.v,.int .i64 x.c,.slice x.s.a x.s.D.length x.s.c] 157)):=(Below.refl _ wr).alloc LR _;have bA:=hide (hbl.trans (bw.mono hsz));have BW:=hide bw;have OA:=hide (oR.alloc (.cells #[.int .i64 x.n,.int .u64 x.h,.int .u64 x.l,.int .i64 x.v,.int .i64 x.c,.slice x.s.a x.s.D.length x.s.c] 157));have ca:=x.told_any _ (HIN.later bw);rw [wz.out] at ca;have CA:=hide ca;have HD:=hide HIN.2;have TR:=hide tR;clear ca oR tR HIN bw
   go_wp2_with fail
   refine CA.out.mono ?_;rintro e w2 ⟨rfl,o2,b2⟩;have OE:=hide o2;have b2':=b2;rw [← wz.out] at b2';have O2:=hide (OA.out.grow b2');have hk2:=hide (O2.out.kind (g:=w.heap.size) rfl);have z2:=b2.size;rw [wz.out] at z2;have bw2:=hide (BW.out.trans (b2.mono (by omega)));clear o2 b2'
   dsimp only
   go_wp2_with (first
    | (refine storeY kBlA _ rfl 75 (.tmp 23) (.tmp 22) rfl w.heap.size w.heap.size n n XX j 0 yBlA.z (x.re (wr.heap.size + 1 + 2)) _ rfl rfl hget.out (by kernel_rfl) (by exact (by decide : 6 ≤ 6)) rfl O2.out ?_;intro w3 o3 u3 z3;have O3:=hide o3;have U3:=hide u3;clear o3 u3)
    | go_in)
   go_round
   case rel =>
    refine ⟨j + 1,by go_num,by omega,⟨R ++ [x.re (wr.heap.size + 1 + 2)],by rw [← hset.out];exact O3.out,TR.out.snoc HG.out (by omega) bw2.out HD.out OE.out U3.out hk2.out⟩,hbl.trans ((bw2.out.mono hsz).trans (U3.out.below (by omega) (fun k e => by subst e;exact LR)))⟩
   case measure => simp [intOf];omega
  ·obtain rfl : j = n:=by omega
   have O9 : Hid (∃ R,OwnY yBlA w.heap.size wr (.slice (some ⟨w.heap.size,0,none⟩) j j) R∧Bl.Tolds w.heap.size wr L R):=by
    refine ⟨R,?_,?_⟩
    ·rw [Nat.sub_self,List.replicate_zero,List.append_nil] at oR
     exact oR
    ·rw [List.take_of_length_le (by rw [HN.out];exact LR)] at tR
     exact tR
   clear oR tR
   go_wp2
   go_ret
   exact ⟨rfl,O9.out,hbl⟩
def Bl.mb (x : Bl) (n r : Int) : Bool:=vmb x.v && lmb x.s.D x.c r
theorem Bl.may_any (x : Bl) (n r : Int) (w : World) (h : x.In w) (hf : ∀ e ∈ x.s.D,e.fits) : Calls Tryz.prog 177 #[x.val,.int .i64 n,.int .i64 r] w fun e w' => e = .returned (.bool (Bl.mb x n r))∧Below w.heap.size w w':=by
 have bw : Hid (Below w.heap.size w (w.alloc (.cells #[.int .i64 x.n,.int .u64 x.h,.int .u64 x.l,.int .i64 x.v,.int .i64 x.c,.slice x.s.a x.s.D.length x.s.c] 157))):=(Below.refl _ w).alloc LR _;have cv:=hide (fun W => viewMayBe_any8 x.v W);have cl:=hide (fun W (hW : Below w.heap.size w W) => logMayBe_any8 x.s.D x.s.a x.s.D.length x.s.c x.c r W (h.1.later hW) hf);have hE : Hid (Bl.mb x n r = (vmb x.v && lmb x.s.D x.c r)):=rfl
 generalize Bl.mb x n r = Z at *
 generalize lmb x.s.D x.c r = Y at *
 generalize vmb x.v = X at *
 clear h hf
 show Calls Tryz.prog 177 #[.agg #[.int .i64 x.n,.int .u64 x.h,.int .u64 x.l,.int .i64 x.v,.int .i64 x.c,.slice x.s.a x.s.D.length x.s.c],.int .i64 n,.int .i64 r] w _
 go_enter Tryz.func177,Tryz.ntmps177
 go_wp2_with fail
 refine (cv.out _).mono ?_;rintro e w1 ⟨rfl,rfl⟩
 cases X with
 | false =>
  go_wp2
  go_ret
  exact ⟨by rw [hE.out];rfl,bw.out⟩
 | true =>
  go_wp2_with fail
  refine (cl.out _ bw.out).mono ?_;rintro e w2 ⟨rfl,b2⟩;have B2:=hide (bw.out.trans (b2.mono (by simp)));clear b2
  go_wp2
  go_ret
  exact ⟨by rw [hE.out];simp,B2.out⟩
def Bl.ckl (c : Cg) (self : Int) : Int → List Bl → Bool
 | _,[] => true
 | least,x :: r => if x.n < least ∨ 2 * c.F + 1 ≤ x.n ∨ x.n = self ∨ Bl.mb x (2 * c.F + 1) c.R = false then false else Bl.ckl c self (x.n + 1) r
def Bl.ck (c : Cg) (self : Int) (L : List Bl) : Int:=if c.ok = false then 1 else if Bl.ckl c self 0 L = true then 0 else 80
theorem Bl.check_any (c : Cg) (self : Int) (L : List Bl) (a : Option Addr) (n k : Nat) (w : World) (h : SlY yBlV w a n k L) (hlogs : ∀ x ∈ L,x.In w∧∀ e ∈ x.s.D,e.fits) :
  Calls Tryz.prog 116 #[c.val,.int .i64 self,.slice a n k] w fun e w' => e = .returned (.int .i64 (Bl.ck c self L))∧Below w.heap.size w w':=by
 have hmx:=h.max;have hcp:=h.cap;have hln:=h.len
 unfold maxLen at hmx
 have H:=hide h;have HN:=hide hln;have HL:=hide hlogs;clear h hln hlogs;have B0 : Hid (Below w.heap.size w (w.alloc (.cells #[.int .i64 c.F,.int .i64 c.R,.int .i64 c.P,.bool c.u] 23))):=(Below.refl _ w).alloc LR _;have cc:=hide (fun W => configMayBe_any8 c W)
 unfold Cg.val at cc
 have HCK : Hid (Bl.ck c self L = if c.ok = false then 1 else if Bl.ckl c self 0 L = true then 0 else 80):=rfl
 generalize Bl.ck c self L = CK at *
 show Calls Tryz.prog 116 #[.agg #[.int .i64 c.F,.int .i64 c.R,.int .i64 c.P,.bool c.u],.int .i64 self,.slice a n k] w _
 go_enter Tryz.func116,Tryz.ntmps116
 go_wp2_with fail
 refine (cc.out _).mono ?_;rintro e w1 ⟨rfl,b1⟩
 dsimp only
 have hz1 : w.heap.size + 1 ≤ w1.heap.size:=by have:=b1.size;simpa using this
 have D1 : Hid (Below (w.heap.size + 1) (w.alloc (.cells #[.int .i64 c.F,.int .i64 c.R,.int .i64 c.P,.bool c.u] 23)) w1):=by show Below _ _ _;simpa using b1
 clear b1 cc
 have KC : Hid (∀ v,Below (w.heap.size + 1) w1 v → v.cell? ⟨w.heap.size,0,none⟩ = some (.int .i64 c.F)∧v.cell? ⟨w.heap.size,1,none⟩ = some (.int .i64 c.R)):=fun v hv =>
  ⟨((D1.out.trans hv).cell (p:=⟨w.heap.size,0,none⟩) (by simp)).trans (by simp),((D1.out.trans hv).cell (p:=⟨w.heap.size,1,none⟩) (by simp)).trans (by simp)⟩
 have E1:=hide (B0.out.trans (D1.out.mono (by omega)))
 by_cases hk : c.ok = true
 ·have hF : 1 ≤ c.F∧c.F ≤ 3∧1 ≤ c.R∧c.R ≤ 256:=of_decide_eq_true hk
  obtain ⟨hF1,hF3,_,_⟩:=hF
  have HC2 : Hid (CK = if Bl.ckl c self 0 (L.drop 0) = true then 0 else 80):=by show _ = _;rw [HCK.out,hk,if_neg (by simp)];rfl
  rw [hk];clear HCK hk
  have hw1 : IntKind.i64.wrap (2 * c.F) = 2 * c.F:=by rw [IntKind.wrap_i64];omega
  have hw2 : IntKind.i64.wrap (2 * c.F + 1) = 2 * c.F + 1:=by rw [IntKind.wrap_i64];omega
  obtain ⟨k0,k1⟩:=KC.out w1 BR
  go_wp2
  go_loopw [20,8] (fun i l wr => ∃ (j : Nat) (l' : Int),i = .int .i64 (j : Int)∧j ≤ n∧l = .int .i64 l'∧(0 ≤ l'∧l' ≤ 8)∧Hid (CK = if Bl.ckl c self l' (L.drop j) = true then 0 else 80)∧Hid (Below (w.heap.size + 1) w1 wr)) (fun i _ _ => n - (intOf i).toNat)
  case atStart => exact ⟨0,0,rfl,Nat.zero_le _,rfl,⟨Int.le_refl _,by omega⟩,HC2,BR⟩
  case round =>
   obtain ⟨j,l',rfl,hj,rfl,⟨hl0,hl8⟩,hCK,hbl⟩:=hrel
   have zr : w.heap.size + 1 ≤ wr.heap.size:=by have:=hbl.out.size;omega
   by_cases hlt : j < n
   ·have hjl : j < L.length:=by rw [HN.out];exact hlt
    have hg : L[j]? = some L[j]:=List.getElem?_eq_getElem hjl;obtain ⟨q,o,ea,hq,y0,y1,y2,y3,y4,y5⟩:=(H.out.later (E1.out.trans (hbl.out.mono (by omega)))).BlV hg
    cases ea
    have hCK1 : Hid (CK = if (if L[j].n < l' ∨ 2 * c.F + 1 ≤ L[j].n ∨ L[j].n = self ∨ Bl.mb L[j] (2 * c.F + 1) c.R = false then false else Bl.ckl c self (L[j].n + 1) (L.drop (j + 1))) = true then 0 else 80):=by
     show _ = _
     rw [hCK.out,List.drop_eq_getElem_cons hjl,Bl.ckl]
    have HX : Hid (L[j].In w∧∀ e ∈ L[j].s.D,e.fits):=HL.out _ (List.getElem_mem hjl);clear hg hCK
    generalize L[j] = x at *
    have KX : Hid (∀ v,Below (wr.heap.size + 1) (wr.alloc (.cells #[.int .i64 x.n,.int .u64 x.h,.int .u64 x.l,.int .i64 x.v,.int .i64 x.c,.slice x.s.a x.s.D.length x.s.c] 157)) v → (v.cell? ⟨wr.heap.size,0,none⟩ = some (.int .i64 x.n)∧v.cell? ⟨wr.heap.size,1,none⟩ = some (.int .u64 x.h)∧v.cell? ⟨wr.heap.size,2,none⟩ = some (.int .u64 x.l)∧v.cell? ⟨wr.heap.size,3,none⟩ = some (.int .i64 x.v)∧v.cell? ⟨wr.heap.size,4,none⟩ = some (.int .i64 x.c)∧v.cell? ⟨wr.heap.size,5,none⟩ = some (.slice x.s.a x.s.D.length x.s.c))∧(v.cell? ⟨w.heap.size,0,none⟩ = some (.int .i64 c.F)∧v.cell? ⟨w.heap.size,1,none⟩ = some (.int .i64 c.R))):=fun v hv =>
     ⟨⟨(hv.cell (p:=⟨wr.heap.size,0,none⟩) (by simp)).trans (by simp),(hv.cell (p:=⟨wr.heap.size,1,none⟩) (by simp)).trans (by simp),(hv.cell (p:=⟨wr.heap.size,2,none⟩) (by simp)).trans (by simp),(hv.cell (p:=⟨wr.heap.size,3,none⟩) (by simp)).trans (by simp),(hv.cell (p:=⟨wr.heap.size,4,none⟩) (by simp)).trans (by simp),(hv.cell (p:=⟨wr.heap.size,5,none⟩) (by simp)).trans (by simp)⟩,KC.out v ((hbl.out.alloc zr _).trans (hv.mono (by omega)))⟩
    have hza : Hid ((wr.alloc (.cells #[.int .i64 x.n,.int .u64 x.h,.int .u64 x.l,.int .i64 x.v,.int .i64 x.c,.slice x.s.a x.s.D.length x.s.c] 157)).heap.size = wr.heap.size + 1):=by show _ = _;simp
    have D0 : Hid (Below (wr.heap.size + 1) (wr.alloc (.cells #[.int .i64 x.n,.int .u64 x.h,.int .u64 x.l,.int .i64 x.v,.int .i64 x.c,.slice x.s.a x.s.D.length x.s.c] 157)) (wr.alloc (.cells #[.int .i64 x.n,.int .u64 x.h,.int .u64 x.l,.int .i64 x.v,.int .i64 x.c,.slice x.s.a x.s.D.length x.s.c] 157))):=BR;have EB : Hid (Below (w.heap.size + 1) w1 (wr.alloc (.cells #[.int .i64 x.n,.int .u64 x.h,.int .u64 x.l,.int .i64 x.v,.int .i64 x.c,.slice x.s.a x.s.D.length x.s.c] 157))):=hbl.out.alloc zr _;have EE:=hide (E1.out.trans (EB.out.mono (by omega)));have cn:=hide (fun W => x.node_any W)
    unfold Bl.val at cn
    have cm:=hide (fun W (hW : Below w.heap.size w W) => x.may_any (2 * c.F + 1) c.R W (HX.out.1.later hW) HX.out.2 )
    unfold Bl.val at cm
    obtain ⟨k0,k1⟩:=KC.out _ EB.out
    go_wp2_with fail
    refine (cn.out _).mono ?_;rintro e w2 ⟨rfl,bb⟩;have D2:=hide (D0.out.trans (bb.mono (by have:=D0.out.size;have h2:=hza.out;omega)));clear bb y0 y1 y2 y3 y4 y5 k0 k1;obtain ⟨⟨y0,y1,y2,y3,y4,y5⟩,⟨k0,k1⟩⟩:=KX.out w2 D2.out
    dsimp only
    by_cases h1 : x.n < l'
    ·have hCK2 : Hid (CK = 80):=by show _ = _;rw [hCK1.out,if_pos (c:=x.n < l' ∨ 2 * c.F + 1 ≤ x.n ∨ x.n = self ∨ Bl.mb x (2 * c.F + 1) c.R = false) (.inl h1)];rfl
     clear hCK1
     go_wp2
     go_ret
     exact ⟨by rw [hCK2.out];rfl,EE.out.trans (D2.out.mono (by omega))⟩
    ·go_wp2_with fail
     refine (cn.out _).mono ?_;rintro e w3 ⟨rfl,bb⟩;have D3:=hide (D2.out.trans (bb.mono (by have:=D2.out.size;have h2:=hza.out;omega)));clear bb y0 y1 y2 y3 y4 y5 k0 k1;obtain ⟨⟨y0,y1,y2,y3,y4,y5⟩,⟨k0,k1⟩⟩:=KX.out w3 D3.out
     dsimp only
     by_cases h2 : 2 * c.F + 1 ≤ x.n
     ·have hCK2 : Hid (CK = 80):=by show _ = _;rw [hCK1.out,if_pos (c:=x.n < l' ∨ 2 * c.F + 1 ≤ x.n ∨ x.n = self ∨ Bl.mb x (2 * c.F + 1) c.R = false) (.inr (.inl h2))];rfl
      clear hCK1
      go_wp2
      go_ret
      exact ⟨by rw [hCK2.out];rfl,EE.out.trans (D3.out.mono (by omega))⟩
     ·go_wp2_with fail
      refine (cn.out _).mono ?_;rintro e w4 ⟨rfl,bb⟩;have D4:=hide (D3.out.trans (bb.mono (by have:=D3.out.size;have h2:=hza.out;omega)));clear bb y0 y1 y2 y3 y4 y5 k0 k1;obtain ⟨⟨y0,y1,y2,y3,y4,y5⟩,⟨k0,k1⟩⟩:=KX.out w4 D4.out
      dsimp only
      by_cases h3 : x.n = self
      ·have h3b : (x.n == self) = true:=by simp [h3]
       have H3:=hide h3;clear h3
       have hCK2 : Hid (CK = 80):=by show _ = _;rw [hCK1.out,if_pos (c:=x.n < l' ∨ 2 * c.F + 1 ≤ x.n ∨ x.n = self ∨ Bl.mb x (2 * c.F + 1) c.R = false) (.inr (.inr (.inl H3.out)))];rfl
       clear hCK1
       go_wp2
       go_ret
       exact ⟨by rw [hCK2.out];rfl,EE.out.trans (D4.out.mono (by omega))⟩
      ·have h3b : (x.n == self) = false:=by simp [h3]
       go_wp2_with fail
       refine (cm.out _ (EE.out.trans (D4.out.mono (by omega)))).mono ?_;rintro e w5 ⟨rfl,bb⟩;have D5:=hide (D4.out.trans (bb.mono (by have:=D4.out.size;have h2:=hza.out;omega)));clear bb y0 y1 y2 y3 y4 y5 k0 k1;obtain ⟨⟨y0,y1,y2,y3,y4,y5⟩,⟨k0,k1⟩⟩:=KX.out w5 D5.out
       dsimp only
       cases hmb : Bl.mb x (2 * c.F + 1) c.R with
       | false =>
        have hCK2 : Hid (CK = 80):=by show _ = _;rw [hCK1.out,if_pos (c:=x.n < l' ∨ 2 * c.F + 1 ≤ x.n ∨ x.n = self ∨ Bl.mb x (2 * c.F + 1) c.R = false) (.inr (.inr (.inr hmb)))];rfl
        clear hCK1
        go_wp2
        go_ret
        exact ⟨by rw [hCK2.out];rfl,EE.out.trans (D5.out.mono (by omega))⟩
       | true =>
        have hCK2 : Hid (CK = if Bl.ckl c self (x.n + 1) (L.drop (j + 1)) = true then 0 else 80):=by
         show _ = _
         have hno : ¬ (x.n < l' ∨ 2 * c.F + 1 ≤ x.n ∨ x.n = self ∨ Bl.mb x (2 * c.F + 1) c.R = false):=by
          rintro (hc | hc | hc | hc)
          ·omega
          ·omega
          ·exact h3 hc
          ·rw [hmb] at hc;cases hc
         rw [hCK1.out,if_neg hno]
        have hw3 : IntKind.i64.wrap (x.n + 1) = x.n + 1:=by rw [IntKind.wrap_i64];omega
        clear hCK1 hmb
        go_wp2_with fail
        refine (cn.out _).mono ?_;rintro e w6 ⟨rfl,bb⟩;have D6:=hide (D5.out.trans (bb.mono (by have:=D5.out.size;have h2:=hza.out;omega)));clear bb y0 y1 y2 y3 y4 y5 k0 k1;obtain ⟨⟨y0,y1,y2,y3,y4,y5⟩,⟨k0,k1⟩⟩:=KX.out w6 D6.out
        dsimp only
        go_wp2
        go_round
        case rel => exact ⟨j + 1,x.n + 1,by go_num,by omega,rfl,⟨by omega,by omega⟩,hCK2,EB.out.trans (D6.out.mono (by omega))⟩
        case measure => first | (simp [intOf];done) | (simp [intOf];omega)
   ·obtain rfl : j = n:=by omega
    have hCK1 : Hid (CK = 0):=by show _ = _;rw [hCK.out,List.drop_of_length_le (by rw [HN.out];exact LR),Bl.ckl,if_pos rfl]
    clear hCK
    go_wp2
    go_ret
    exact ⟨by rw [hCK1.out];rfl,E1.out.trans (hbl.out.mono (by omega))⟩
 ·have hk2 : c.ok = false:=by simpa using hk
  have hCK1 : Hid (CK = 1):=by show _ = _;rw [HCK.out,if_pos hk2]
  rw [hk2];clear HCK
  go_wp2
  go_ret
  exact ⟨by rw [hCK1.out];rfl,E1.out⟩
theorem Bl.Check_any (c : Cg) (self : Int) (L : List Bl) (a : Option Addr) (n k : Nat) (w : World) (h : SlY yBlA w a n k L) (hb : n * 64 ≤ 281474976710656) (hlogs : ∀ x ∈ L,x.In w∧∀ e ∈ x.s.D,e.fits) :
  Calls Tryz.prog 75 #[c.val,.int .i64 self,.slice a n k] w fun e w' => e = .returned (.int .i64 (Bl.ck c self L))∧Below w.heap.size w w':=by
 have B0 : Hid (Below w.heap.size w (w.alloc (.cells #[.int .i64 c.F,.int .i64 c.R,.int .i64 c.P,.bool c.u] 23))):=(Below.refl _ w).alloc LR _
 have hwz : Hid ((w.alloc (.cells #[.int .i64 c.F,.int .i64 c.R,.int .i64 c.P,.bool c.u] 23)).heap.size = w.heap.size + 1):=by show _ = _;simp
 have KC : Hid (∀ v,Below (w.heap.size + 1) (w.alloc (.cells #[.int .i64 c.F,.int .i64 c.R,.int .i64 c.P,.bool c.u] 23)) v → v.cell? ⟨w.heap.size,0,none⟩ = some (.int .i64 c.F)∧v.cell? ⟨w.heap.size,1,none⟩ = some (.int .i64 c.R)∧v.cell? ⟨w.heap.size,2,none⟩ = some (.int .i64 c.P)∧v.cell? ⟨w.heap.size,3,none⟩ = some (.bool c.u)):=fun v hv =>
  ⟨(hv.cell (p:=⟨w.heap.size,0,none⟩) (by simp)).trans (by simp),(hv.cell (p:=⟨w.heap.size,1,none⟩) (by simp)).trans (by simp),(hv.cell (p:=⟨w.heap.size,2,none⟩) (by simp)).trans (by simp),(hv.cell (p:=⟨w.heap.size,3,none⟩) (by simp)).trans (by simp)⟩
 have H:=hide h;clear h;have ck:=hide (fun W (hW : Below w.heap.size w W) a' n' k' (hs : SlY yBlV W a' n' k' L) => Bl.check_any c self L a' n' k' W hs (fun x hx => ⟨(hlogs x hx).1.later hW,(hlogs x hx).2⟩));clear hlogs
 unfold Cg.val at ck
 generalize Bl.ck c self L = CK at *
 show Calls Tryz.prog 75 #[.agg #[.int .i64 c.F,.int .i64 c.R,.int .i64 c.P,.bool c.u],.int .i64 self,.slice a n k] w _
 generalize hw0 : w.alloc (.cells #[.int .i64 c.F,.int .i64 c.R,.int .i64 c.P,.bool c.u] 23) = w0 at *
 have s0:=KC.out _ (Below.refl (w.heap.size + 1) w0).drew
 go_enter Tryz.func75,Tryz.ntmps75
 go_wp2_with fail
 try rw [hw0]
 clear hw0
 go_region_held3 (fun v => v.cell? ⟨w.heap.size,0,none⟩ = some (.int .i64 c.F)∧v.cell? ⟨w.heap.size,1,none⟩ = some (.int .i64 c.R)∧v.cell? ⟨w.heap.size,2,none⟩ = some (.int .i64 c.P)∧v.cell? ⟨w.heap.size,3,none⟩ = some (.bool c.u)) (with_reducible assumption) (first
  | (have:=D2;go_at_call 116;refine (ck.out _ (B0.out.trans (D2.out.mono (by omega))) _ _ _ (o2.sl' kBlV)).mono ?_;rintro e w3 ⟨rfl,b3⟩;have D3:=hide (D2.out.trans (b3.mono (by have:=D2.out.size;have h2:=hwz.out;omega)));have s3:=KC.out w3 D3.out;clear b3 o2)
  | (go_at_call 102;refine (Bl.hold_any L a n k _ (H.out.later B0.out.drew) hb).mono ?_;rintro e w2 ⟨rfl,o2,b2⟩;have D2:=hide ((Below.refl (w.heap.size + 1) w0).drew.trans (b2.mono (by show _ ≤ w0.heap.size;rw [hwz.out];exact LR)));have s2:=KC.out w2 D2.out;clear b2))
 go_wp2
 go_ret
 exact ⟨rfl,B0.out.trans (D3.out.mono (by omega))⟩
structure Ak where
 n : Int
 h : Int
 l : Int
 p : Int
def Ak.cs (x : Ak) : List Value:=[.int .i64 x.n,.int .u64 x.h,.int .u64 x.l,.int .i64 x.p]
def Ak.val (x : Ak) : Value:=.agg #[.int .i64 x.n,.int .u64 x.h,.int .u64 x.l,.int .i64 x.p]
def yAkA : Lay Ak:=⟨105,28,4,32,Ak.cs,⟨0,0,0,0⟩⟩
def yAkV : Lay Ak:=⟨141,143,4,32,Ak.cs,⟨0,0,0,0⟩⟩
theorem kAkA : yAkA.Ok:=⟨by decide,fun x => rfl,fun x u h => by
  simp [yAkA,Ak.cs] at h
  rcases h with rfl | rfl | rfl | rfl <;> rfl,Tryz.underlying28,⟨.agg #[.int .i64 (⟨0,0,0,0⟩ : Ak).n,.int .u64 (⟨0,0,0,0⟩ : Ak).h,.int .u64 (⟨0,0,0,0⟩ : Ak).l,.int .i64 (⟨0,0,0,0⟩ : Ak).p],by kernel_rfl,rfl⟩⟩
theorem kAkV : yAkV.Ok:=⟨by decide,fun x => rfl,fun x u h => by
  simp [yAkV,Ak.cs] at h
  rcases h with rfl | rfl | rfl | rfl <;> rfl,Tryz.underlying143,⟨.agg #[.int .i64 (⟨0,0,0,0⟩ : Ak).n,.int .u64 (⟨0,0,0,0⟩ : Ak).h,.int .u64 (⟨0,0,0,0⟩ : Ak).l,.int .i64 (⟨0,0,0,0⟩ : Ak).p],by kernel_rfl,rfl⟩⟩
theorem SlY.AkA {w : World} {a : Option Addr} {n c : Nat} {L : List Ak} (h : SlY yAkA w a n c L) {j : Nat} {x : Ak} (hx : L[j]? = some x) : ∃ q o,a = some ⟨q,o,none⟩∧q < w.heap.size∧w.cell? ⟨q,o + j * 4,none⟩ = some (.int .i64 x.n)∧w.cell? ⟨q,o + j * 4 + 1,none⟩ = some (.int .u64 x.h)∧w.cell? ⟨q,o + j * 4 + 2,none⟩ = some (.int .u64 x.l)∧w.cell? ⟨q,o + j * 4 + 3,none⟩ = some (.int .i64 x.p):=by
 obtain ⟨q,o,ea,hq,hl⟩:=h.place (by rintro rfl;simp at hx)
 exact ⟨q,o,ea,hq,hl j x hx 0 _ rfl,hl j x hx 1 _ rfl,hl j x hx 2 _ rfl,hl j x hx 3 _ rfl⟩
theorem SlY.AkV {w : World} {a : Option Addr} {n c : Nat} {L : List Ak} (h : SlY yAkV w a n c L) {j : Nat} {x : Ak} (hx : L[j]? = some x) : ∃ q o,a = some ⟨q,o,none⟩∧q < w.heap.size∧w.cell? ⟨q,o + j * 4,none⟩ = some (.int .i64 x.n)∧w.cell? ⟨q,o + j * 4 + 1,none⟩ = some (.int .u64 x.h)∧w.cell? ⟨q,o + j * 4 + 2,none⟩ = some (.int .u64 x.l)∧w.cell? ⟨q,o + j * 4 + 3,none⟩ = some (.int .i64 x.p):=by
 obtain ⟨q,o,ea,hq,hl⟩:=h.place (by rintro rfl;simp at hx)
 exact ⟨q,o,ea,hq,hl j x hx 0 _ rfl,hl j x hx 1 _ rfl,hl j x hx 2 _ rfl,hl j x hx 3 _ rfl⟩
theorem Ak.node_any (x : Ak) (w : World) : Calls Tryz.prog 172 #[x.val] w fun e w' => e = .returned (.int .i64 x.n)∧Below w.heap.size w w':=by
 show Calls Tryz.prog 172 #[.agg #[.int .i64 x.n,.int .u64 x.h,.int .u64 x.l,.int .i64 x.p]] w _
 go_enter Tryz.func172,Tryz.ntmps172
 go_wp2
 go_ret
 exact ⟨rfl,BR.alloc LR _⟩
theorem Ak.draw_any (x : Ak) (w : World) : Calls Tryz.prog 170 #[x.val] w fun e w' => e = .returned (.agg #[.int .u64 x.h,.int .u64 x.l])∧Below w.heap.size w w':=by
 show Calls Tryz.prog 170 #[.agg #[.int .i64 x.n,.int .u64 x.h,.int .u64 x.l,.int .i64 x.p]] w _
 go_enter Tryz.func170,Tryz.ntmps170
 go_wp2
 refine bodyPost_ret (v:=.agg #[.int .u64 x.h,.int .u64 x.l]) (by simp [results,Tryz.results170,go_sem]) rfl ?_
 exact ⟨rfl,by (repeat (first | exact Below.refl _ _ | assumption | refine Below.drew ?_ | refine Below.alloc ?_ (by first | (simp;done) | (simp;omega) | omega) _ | refine Below.setCell ?_ (by first | (simp;done) | (simp;omega) | omega) _))⟩
theorem Ak.as_any (x : Ak) (w : World) : Calls Tryz.prog 93 #[x.val] w fun e w' => e = .returned x.val∧Below w.heap.size w w':=by
 show Calls Tryz.prog 93 #[.agg #[.int .i64 x.n,.int .u64 x.h,.int .u64 x.l,.int .i64 x.p]] w _
 go_enter Tryz.func93,Tryz.ntmps93
 go_wp2
 refine bodyPost_ret (v:=x.val) (by simp [results,Tryz.results93,go_sem,Ak.val]) rfl ?_
 exact ⟨rfl,by (repeat (first | exact Below.refl _ _ | assumption | refine Below.drew ?_ | refine Below.alloc ?_ (by first | (simp;done) | (simp;omega) | omega) _ | refine Below.setCell ?_ (by first | (simp;done) | (simp;omega) | omega) _))⟩
theorem Ak.ifnode (x : Ak) (w : World) : (invoke (.fn (.method "amnesia/tally.node") #[]) #[.iface 141 x.val]).run Tryz.prog w = .ok (.enter 172 #[x.val]) w := by kernel_rfl
end Go.Proofs.YtpcgnjpodnebpaaGreatDoor
