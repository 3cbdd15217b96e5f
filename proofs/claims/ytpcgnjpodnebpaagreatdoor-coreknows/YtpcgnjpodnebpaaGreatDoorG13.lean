import Derived.Orders
import Derived.Test.YtpcgnjpodnebpaaGreatDoorG12
set_option maxRecDepth 100000
set_option linter.unusedVariables false
set_option linter.unusedSimpArgs false
set_option maxHeartbeats 8000000
namespace Go.Proofs.YtpcgnjpodnebpaaGreatDoor
open Go.RowKit Go.Maps
open Classical
theorem vcheckM_any (f : Int) (a : Option Addr) (n c : Nat) (w : World) (hf1 : 1 ≤ f) (hf2 : f ≤ 3) : Calls Tryz.prog 72 #[.slice a n c,.int .i64 (2 * f + 1)] w fun e w' => e = .returned (.int .i64 (if (n : Int) = 2 * f + 1 then 0 else 30))∧Below w.heap.size w w':=by
 have h3 : f = 1 ∨ f = 2 ∨ f = 3:=by omega
 by_cases h : (n : Int) = 2 * f + 1
 ·rw [if_pos h]
  rcases h3 with rfl | rfl | rfl
  ·have hq : ((n : Int) != 3) = false:=by simp;omega
   clear h
   go_enter Tryz.func72,Tryz.ntmps72
   go_wp2_with (go_at_call 89;go_in)
   go_ret
   exact ⟨rfl,BR⟩
  ·have hq : ((n : Int) != 5) = false:=by simp;omega
   clear h
   go_enter Tryz.func72,Tryz.ntmps72
   go_wp2_with (go_at_call 89;go_in)
   go_ret
   exact ⟨rfl,BR⟩
  ·have hq : ((n : Int) != 7) = false:=by simp;omega
   clear h
   go_enter Tryz.func72,Tryz.ntmps72
   go_wp2_with (go_at_call 89;go_in)
   go_ret
   exact ⟨rfl,BR⟩
 ·rw [if_neg h]
  rcases h3 with rfl | rfl | rfl
  ·have hq : ((n : Int) != 3) = true:=by simp;omega
   clear h
   go_enter Tryz.func72,Tryz.ntmps72
   go_wp2_with (go_at_call 89;go_in)
   go_ret
   exact ⟨rfl,BR⟩
  ·have hq : ((n : Int) != 5) = true:=by simp;omega
   clear h
   go_enter Tryz.func72,Tryz.ntmps72
   go_wp2_with (go_at_call 89;go_in)
   go_ret
   exact ⟨rfl,BR⟩
  ·have hq : ((n : Int) != 7) = true:=by simp;omega
   clear h
   go_enter Tryz.func72,Tryz.ntmps72
   go_wp2_with (go_at_call 89;go_in)
   go_ret
   exact ⟨rfl,BR⟩
theorem keeps_20 (f r p : Int) (u : Bool) (m : Mg) (a1 a2 : Option Addr) (nl cl nv cv : Nat) (at_ : Int) (w : World) (hf1 : 1 ≤ f) (hf2 : f ≤ 3) : Calls Tryz.prog 54 #[.agg #[.int .i64 f,.int .i64 r,.int .i64 p,.bool u],m.val (.slice a1 nl cl) (.slice a2 nv cv),.int .i64 at_,.int .u8 20] w fun e w' => e = .returned (.bool (decide ((nv : Int) = 2 * f + 1)))∧Below w.heap.size w w':=by
 have H:=hide (fun W => vcheckM_any f a2 nv cv W hf1 hf2)
 by_cases hn : (nv : Int) = 2 * f + 1
 ·have V : Hid (decide ((nv : Int) = 2 * f + 1) = true):=decide_eq_true hn
  rw [if_pos hn] at H;clear hn
  go_enter Tryz.func54,Tryz.ntmps54
  go_upto_region 1 with (refine boxMk rfl (.tmp 1) rfl m _ _ rfl ?_;intro q1 w1 hq1 M1 b1 z1)
  have hB : Below w.heap.size w w1:=(BR.alloc LR _).trans (b1.mono (by simp));have HB:=hide hB;have c0 : w1.cell? ⟨w.heap.size,0,none⟩ = some (.int .i64 f):=(b1.cell (p:=⟨w.heap.size,0,none⟩) (by simp)).trans (by simp);have c1 : w1.cell? ⟨w.heap.size,1,none⟩ = some (.int .i64 r):=(b1.cell (p:=⟨w.heap.size,1,none⟩) (by simp)).trans (by simp)
  have hq2 : q1 = w.heap.size + 1:=by first | exact hq1 | simpa using hq1
  subst hq2;have x17:=M1.cell 17 _ rfl;clear M1 b1 z1 hB hq1
  go_wp2_with fail
  refine (H.out _).mono ?_;rintro e w2 ⟨rfl,b2⟩;have B2:=hide (HB.out.trans (b2.mono HB.out.size));clear b2
  go_wp2
  go_ret
  exact ⟨by rw [V.out];rfl,B2.out⟩
 ·have V : Hid (decide ((nv : Int) = 2 * f + 1) = false):=decide_eq_false hn
  rw [if_neg hn] at H;clear hn
  go_enter Tryz.func54,Tryz.ntmps54
  go_upto_region 1 with (refine boxMk rfl (.tmp 1) rfl m _ _ rfl ?_;intro q1 w1 hq1 M1 b1 z1)
  have hB : Below w.heap.size w w1:=(BR.alloc LR _).trans (b1.mono (by simp));have HB:=hide hB;have c0 : w1.cell? ⟨w.heap.size,0,none⟩ = some (.int .i64 f):=(b1.cell (p:=⟨w.heap.size,0,none⟩) (by simp)).trans (by simp);have c1 : w1.cell? ⟨w.heap.size,1,none⟩ = some (.int .i64 r):=(b1.cell (p:=⟨w.heap.size,1,none⟩) (by simp)).trans (by simp)
  have hq2 : q1 = w.heap.size + 1:=by first | exact hq1 | simpa using hq1
  subst hq2;have x17:=M1.cell 17 _ rfl;clear M1 b1 z1 hB hq1
  go_wp2_with fail
  refine (H.out _).mono ?_;rintro e w2 ⟨rfl,b2⟩;have B2:=hide (HB.out.trans (b2.mono HB.out.size));clear b2
  go_wp2
  go_ret
  exact ⟨by rw [V.out];rfl,B2.out⟩
theorem keeps_17 (f r p : Int) (u : Bool) (m : Mg) (a1 a2 : Option Addr) (nl cl nv cv : Nat) (at_ : Int) (w : World) (hf1 : 1 ≤ f) (hf2 : f ≤ 3) : Calls Tryz.prog 54 #[.agg #[.int .i64 f,.int .i64 r,.int .i64 p,.bool u],m.val (.slice a1 nl cl) (.slice a2 nv cv),.int .i64 at_,.int .u8 17] w fun e w' => e = .returned (.bool (resB m.r.1 m.r.2.1 m.r.2.2 && rdB m.r.1))∧Below w.heap.size w w':=by
 have H:=hide (fun W => resultMayBe_any m.r.1 m.r.2.1 m.r.2.2 W);have HR:=hide (fun W => isReading_any m.r.1 W)
 generalize resB m.r.1 m.r.2.1 m.r.2.2 = x at *
 generalize rdB m.r.1 = y at *
 cases x with
 | false =>
  go_enter Tryz.func54,Tryz.ntmps54
  go_upto_region 1 with (refine boxMk rfl (.tmp 1) rfl m _ _ rfl ?_;intro q1 w1 hq1 M1 b1 z1)
  have hB : Below w.heap.size w w1:=(BR.alloc LR _).trans (b1.mono (by simp));have HB:=hide hB;have c0 : w1.cell? ⟨w.heap.size,0,none⟩ = some (.int .i64 f):=(b1.cell (p:=⟨w.heap.size,0,none⟩) (by simp)).trans (by simp);have c1 : w1.cell? ⟨w.heap.size,1,none⟩ = some (.int .i64 r):=(b1.cell (p:=⟨w.heap.size,1,none⟩) (by simp)).trans (by simp)
  have hq2 : q1 = w.heap.size + 1:=by first | exact hq1 | simpa using hq1
  subst hq2;have x8:=M1.cell 8 _ rfl;have x9:=M1.cell 9 _ rfl;have x10:=M1.cell 10 _ rfl;have hz1 : w.heap.size + 1 < w1.heap.size:=M1.lt;clear M1 b1 z1 hB hq1
  go_wp2_with fail
  refine (H.out _).mono ?_;rintro e w2 ⟨rfl,b2⟩;have B2:=hide (HB.out.trans (b2.mono HB.out.size));clear b2
  go_wp2
  go_ret
  exact ⟨rfl,B2.out⟩
 | true =>
  go_enter Tryz.func54,Tryz.ntmps54
  go_upto_region 1 with (refine boxMk rfl (.tmp 1) rfl m _ _ rfl ?_;intro q1 w1 hq1 M1 b1 z1)
  have hB : Below w.heap.size w w1:=(BR.alloc LR _).trans (b1.mono (by simp));have HB:=hide hB;have c0 : w1.cell? ⟨w.heap.size,0,none⟩ = some (.int .i64 f):=(b1.cell (p:=⟨w.heap.size,0,none⟩) (by simp)).trans (by simp);have c1 : w1.cell? ⟨w.heap.size,1,none⟩ = some (.int .i64 r):=(b1.cell (p:=⟨w.heap.size,1,none⟩) (by simp)).trans (by simp)
  have hq2 : q1 = w.heap.size + 1:=by first | exact hq1 | simpa using hq1
  subst hq2;have x8:=M1.cell 8 _ rfl;have x9:=M1.cell 9 _ rfl;have x10:=M1.cell 10 _ rfl;have hz1 : w.heap.size + 1 < w1.heap.size:=M1.lt;clear M1 b1 z1 hB hq1
  go_wp2_with fail
  refine (H.out _).mono ?_;rintro e w2 ⟨rfl,b2⟩;have y8:=(b2.cell (p:=⟨w.heap.size + 1,8,none⟩) hz1).trans x8;have B2:=hide (HB.out.trans (b2.mono HB.out.size));clear b2
  go_wp2_with fail
  refine (HR.out _).mono ?_;rintro e w3 ⟨rfl,rfl⟩
  go_wp2
  go_ret
  exact ⟨by simp,B2.out⟩
theorem keeps_18 (f r p : Int) (u : Bool) (m : Mg) (a1 a2 : Option Addr) (nl cl nv cv : Nat) (at_ : Int) (w : World) (hf1 : 1 ≤ f) (hf2 : f ≤ 3) (L : List En) (h : SlY yE w a1 nl cl L) (hfit : ∀ e ∈ L,e.fits) : Calls Tryz.prog 54 #[.agg #[.int .i64 f,.int .i64 r,.int .i64 p,.bool u],m.val (.slice a1 nl cl) (.slice a2 nv cv),.int .i64 at_,.int .u8 18] w fun e w' => e = .returned (.bool (decide ((chk L r).1 = 0)))∧Below w.heap.size w w':=by
 go_enter Tryz.func54,Tryz.ntmps54
 go_upto_region 1 with (refine boxMk rfl (.tmp 1) rfl m _ _ rfl ?_;intro q1 w1 hq1 M1 b1 z1)
 have hB : Below w.heap.size w w1:=(BR.alloc LR _).trans (b1.mono (by simp));have HB:=hide hB;have c0 : w1.cell? ⟨w.heap.size,0,none⟩ = some (.int .i64 f):=(b1.cell (p:=⟨w.heap.size,0,none⟩) (by simp)).trans (by simp);have c1 : w1.cell? ⟨w.heap.size,1,none⟩ = some (.int .i64 r):=(b1.cell (p:=⟨w.heap.size,1,none⟩) (by simp)).trans (by simp)
 have hq2 : q1 = w.heap.size + 1:=by first | exact hq1 | simpa using hq1
 subst hq2;have x16:=M1.cell 16 _ rfl;clear M1 b1 z1 hB hq1
 go_wp2_with fail
 refine (logMayBe_any L a1 nl cl r _ (h.bel HB.out LR) hfit).mono ?_;rintro e w2 ⟨rfl,b2⟩;have B2:=hide (HB.out.trans (b2.mono HB.out.size));clear b2
 go_wp2
 go_ret
 exact ⟨rfl,B2.out⟩
theorem keeps_13 (f r p : Int) (u : Bool) (m : Mg) (a1 a2 : Option Addr) (nl cl nv cv : Nat) (at_ : Int) (w : World) (hf1 : 1 ≤ f) (hf2 : f ≤ 3) (hfe : m.e.fits) : Calls Tryz.prog 54 #[.agg #[.int .i64 f,.int .i64 r,.int .i64 p,.bool u],m.val (.slice a1 nl cl) (.slice a2 nv cv),.int .i64 at_,.int .u8 13] w fun e w' => e = .returned (.bool (decide ((chk [m.e] 1).1 = 0)))∧Below w.heap.size w w':=by
 go_enter Tryz.func54,Tryz.ntmps54
 go_upto_region 1 with (refine boxMk rfl (.tmp 1) rfl m _ _ rfl ?_;intro q1 w1 hq1 M1 b1 z1)
 have hB : Below w.heap.size w w1:=(BR.alloc LR _).trans (b1.mono (by simp));have HB:=hide hB;have c0 : w1.cell? ⟨w.heap.size,0,none⟩ = some (.int .i64 f):=(b1.cell (p:=⟨w.heap.size,0,none⟩) (by simp)).trans (by simp);have c1 : w1.cell? ⟨w.heap.size,1,none⟩ = some (.int .i64 r):=(b1.cell (p:=⟨w.heap.size,1,none⟩) (by simp)).trans (by simp)
 have hq2 : q1 = w.heap.size + 1:=by first | exact hq1 | simpa using hq1
 subst hq2;have x3:=M1.cell 3 _ rfl;have x4:=M1.cell 4 _ rfl;have x5:=M1.cell 5 _ rfl;have x6:=M1.cell 6 _ rfl;have x7:=M1.cell 7 _ rfl;clear M1 b1 z1 hB hq1
 go_wp2_with fail
 refine (logMayBe_any [m.e] _ _ _ _ _ (sl_box (Y:=yE) w1 m.e 47) (fun e he => by rw [List.mem_singleton.1 he];exact hfe)).mono ?_;rintro e w2 ⟨rfl,b2⟩;have B2:=hide ((HB.out.alloc HB.out.size _).trans (b2.mono (by have:=HB.out.size;simp;omega)));clear b2
 go_wp2
 go_ret
 exact ⟨rfl,B2.out⟩
def prB (f : Int) (m : Mg) : Bool:=decide (m.nd = m.vw.tmod (2 * f + 1))
theorem keeps_2 (f r p : Int) (u : Bool) (m : Mg) (a1 a2 : Option Addr) (nl cl nv cv : Nat) (at_ : Int) (w : World) (hf1 : 1 ≤ f) (hf2 : f ≤ 3) : Calls Tryz.prog 54 #[.agg #[.int .i64 f,.int .i64 r,.int .i64 p,.bool u],m.val (.slice a1 nl cl) (.slice a2 nv cv),.int .i64 at_,.int .u8 2] w fun e w' => e = .returned (.bool (prB f m))∧Below w.heap.size w w':=by
 have hn0 : ¬ (2 * f + 1 = 0):=by omega
 by_cases h : m.nd = m.vw.tmod (2 * f + 1)
 ·have V : Hid (prB f m = true):=decide_eq_true h
  have hq : (m.nd == m.vw.tmod (2 * f + 1)) = true:=by simp [← h]
  clear h
  go_enter Tryz.func54,Tryz.ntmps54
  go_upto_region 1 with (refine boxMk rfl (.tmp 1) rfl m _ _ rfl ?_;intro q1 w1 hq1 M1 b1 z1)
  have hB : Below w.heap.size w w1:=(BR.alloc LR _).trans (b1.mono (by simp));have HB:=hide hB;have c0 : w1.cell? ⟨w.heap.size,0,none⟩ = some (.int .i64 f):=(b1.cell (p:=⟨w.heap.size,0,none⟩) (by simp)).trans (by simp);have c1 : w1.cell? ⟨w.heap.size,1,none⟩ = some (.int .i64 r):=(b1.cell (p:=⟨w.heap.size,1,none⟩) (by simp)).trans (by simp)
  have hq2 : q1 = w.heap.size + 1:=by first | exact hq1 | simpa using hq1
  subst hq2;have x1:=M1.cell 1 _ rfl;have x2:=M1.cell 2 _ rfl;clear M1 b1 z1 hB hq1
  go_wp2_with fail
  go_quiet (fail)
  go_wp2
  go_ret
  exact ⟨by first | rfl | (rw [V.out];first | rfl | simp),belN HB.out nq⟩
 ·have V : Hid (prB f m = false):=decide_eq_false h
  have hq : (m.nd == m.vw.tmod (2 * f + 1)) = false:=by simp [h]
  clear h
  go_enter Tryz.func54,Tryz.ntmps54
  go_upto_region 1 with (refine boxMk rfl (.tmp 1) rfl m _ _ rfl ?_;intro q1 w1 hq1 M1 b1 z1)
  have hB : Below w.heap.size w w1:=(BR.alloc LR _).trans (b1.mono (by simp));have HB:=hide hB;have c0 : w1.cell? ⟨w.heap.size,0,none⟩ = some (.int .i64 f):=(b1.cell (p:=⟨w.heap.size,0,none⟩) (by simp)).trans (by simp);have c1 : w1.cell? ⟨w.heap.size,1,none⟩ = some (.int .i64 r):=(b1.cell (p:=⟨w.heap.size,1,none⟩) (by simp)).trans (by simp)
  have hq2 : q1 = w.heap.size + 1:=by first | exact hq1 | simpa using hq1
  subst hq2;have x1:=M1.cell 1 _ rfl;have x2:=M1.cell 2 _ rfl;clear M1 b1 z1 hB hq1
  go_wp2_with fail
  go_quiet (fail)
  go_wp2
  go_ret
  exact ⟨by first | rfl | (rw [V.out];first | rfl | simp),belN HB.out nq⟩
theorem keeps_11 (f r p : Int) (u : Bool) (m : Mg) (a1 a2 : Option Addr) (nl cl nv cv : Nat) (at_ : Int) (w : World) (hf1 : 1 ≤ f) (hf2 : f ≤ 3) : Calls Tryz.prog 54 #[.agg #[.int .i64 f,.int .i64 r,.int .i64 p,.bool u],m.val (.slice a1 nl cl) (.slice a2 nv cv),.int .i64 at_,.int .u8 11] w fun e w' => e = .returned (.bool (!decide (m.d = (0,0))))∧Below w.heap.size w w':=by
 by_cases g14 : m.d.1 = 0
 ·by_cases g15 : m.d.2 = 0
  ·have V : Hid ((!decide (m.d = (0,0))) = false):=by
    show _ = _
    have : m.d = (0,0):=Prod.ext g14 g15
    simp [this]
   go_enter Tryz.func54,Tryz.ntmps54
   go_upto_region 1 with (refine boxMk rfl (.tmp 1) rfl m _ _ rfl ?_;intro q1 w1 hq1 M1 b1 z1)
   have hB : Below w.heap.size w w1:=(BR.alloc LR _).trans (b1.mono (by simp));have HB:=hide hB;have c0 : w1.cell? ⟨w.heap.size,0,none⟩ = some (.int .i64 f):=(b1.cell (p:=⟨w.heap.size,0,none⟩) (by simp)).trans (by simp);have c1 : w1.cell? ⟨w.heap.size,1,none⟩ = some (.int .i64 r):=(b1.cell (p:=⟨w.heap.size,1,none⟩) (by simp)).trans (by simp)
   have hq2 : q1 = w.heap.size + 1:=by first | exact hq1 | simpa using hq1
   subst hq2;have x14:=M1.cell 14 _ rfl;rw [g14] at x14;have x15:=M1.cell 15 _ rfl;rw [g15] at x15;clear M1 b1 z1 hB hq1
   go_wp2
   go_ret
   exact ⟨by first | rfl | (rw [V.out];first | rfl | simp),HB.out⟩
  ·have V : Hid ((!decide (m.d = (0,0))) = true):=by
    show _ = _
    have : m.d ≠ (0,0):=fun h => g15 (by rw [h])
    simp [this]
   have hq : (m.d.2 == 0) = false:=by simp [g15]
   go_enter Tryz.func54,Tryz.ntmps54
   go_upto_region 1 with (refine boxMk rfl (.tmp 1) rfl m _ _ rfl ?_;intro q1 w1 hq1 M1 b1 z1)
   have hB : Below w.heap.size w w1:=(BR.alloc LR _).trans (b1.mono (by simp));have HB:=hide hB;have c0 : w1.cell? ⟨w.heap.size,0,none⟩ = some (.int .i64 f):=(b1.cell (p:=⟨w.heap.size,0,none⟩) (by simp)).trans (by simp);have c1 : w1.cell? ⟨w.heap.size,1,none⟩ = some (.int .i64 r):=(b1.cell (p:=⟨w.heap.size,1,none⟩) (by simp)).trans (by simp)
   have hq2 : q1 = w.heap.size + 1:=by first | exact hq1 | simpa using hq1
   subst hq2;have x14:=M1.cell 14 _ rfl;rw [g14] at x14;have x15:=M1.cell 15 _ rfl;clear M1 b1 z1 hB hq1
   go_wp2
   go_ret
   exact ⟨by first | rfl | (rw [V.out];first | rfl | simp),HB.out⟩
 ·have V : Hid ((!decide (m.d = (0,0))) = true):=by
   show _ = _
   have : m.d ≠ (0,0):=fun h => g14 (by rw [h])
   simp [this]
  have hq : (m.d.1 == 0) = false:=by simp [g14]
  go_enter Tryz.func54,Tryz.ntmps54
  go_upto_region 1 with (refine boxMk rfl (.tmp 1) rfl m _ _ rfl ?_;intro q1 w1 hq1 M1 b1 z1)
  have hB : Below w.heap.size w w1:=(BR.alloc LR _).trans (b1.mono (by simp));have HB:=hide hB;have c0 : w1.cell? ⟨w.heap.size,0,none⟩ = some (.int .i64 f):=(b1.cell (p:=⟨w.heap.size,0,none⟩) (by simp)).trans (by simp);have c1 : w1.cell? ⟨w.heap.size,1,none⟩ = some (.int .i64 r):=(b1.cell (p:=⟨w.heap.size,1,none⟩) (by simp)).trans (by simp)
  have hq2 : q1 = w.heap.size + 1:=by first | exact hq1 | simpa using hq1
  subst hq2;have x14:=M1.cell 14 _ rfl;have x15:=M1.cell 15 _ rfl;clear M1 b1 z1 hB hq1
  go_wp2
  go_ret
  exact ⟨by first | rfl | (rw [V.out];first | rfl | simp),HB.out⟩
theorem keeps_14 (f r p : Int) (u : Bool) (m : Mg) (a1 a2 : Option Addr) (nl cl nv cv : Nat) (at_ : Int) (w : World) (hf1 : 1 ≤ f) (hf2 : f ≤ 3) (hfe : m.e.fits) : Calls Tryz.prog 54 #[.agg #[.int .i64 f,.int .i64 r,.int .i64 p,.bool u],m.val (.slice a1 nl cl) (.slice a2 nv cv),.int .i64 at_,.int .u8 14] w fun e w' => e = .returned (.bool (decide ((chk [m.e] 1).1 = 0) && (decide (m.e.o.k = 3) || decide (m.e.o.k = 4))))∧Below w.heap.size w w':=by
 by_cases hc : (chk [m.e] 1).1 = 0
 ·have VC:=hide (decide_eq_true hc)
  by_cases h3 : m.e.o.k = 3
  ·have V : Hid ((decide ((chk [m.e] 1).1 = 0) && (decide (m.e.o.k = 3) || decide (m.e.o.k = 4))) = true):=by
    show _ = _
    rw [VC.out,decide_eq_true h3];rfl
   have hq3 : (m.e.o.k == 3) = true:=by simp [h3]
   clear h3 hc
   go_enter Tryz.func54,Tryz.ntmps54
   go_upto_region 1 with (refine boxMk rfl (.tmp 1) rfl m _ _ rfl ?_;intro q1 w1 hq1 M1 b1 z1)
   have hB : Below w.heap.size w w1:=(BR.alloc LR _).trans (b1.mono (by simp));have HB:=hide hB;have c0 : w1.cell? ⟨w.heap.size,0,none⟩ = some (.int .i64 f):=(b1.cell (p:=⟨w.heap.size,0,none⟩) (by simp)).trans (by simp);have c1 : w1.cell? ⟨w.heap.size,1,none⟩ = some (.int .i64 r):=(b1.cell (p:=⟨w.heap.size,1,none⟩) (by simp)).trans (by simp)
   have hq2 : q1 = w.heap.size + 1:=by first | exact hq1 | simpa using hq1
   subst hq2;have x3:=M1.cell 3 _ rfl;have x4:=M1.cell 4 _ rfl;have x5:=M1.cell 5 _ rfl;have x6:=M1.cell 6 _ rfl;have x7:=M1.cell 7 _ rfl;have hz1 : w.heap.size + 1 < w1.heap.size:=M1.lt;clear M1 b1 z1 hB hq1
   go_wp2_with fail
   refine (logMayBe_any [m.e] _ _ _ _ _ (sl_box (Y:=yE) w1 m.e 47) (fun e he => by rw [List.mem_singleton.1 he];exact hfe)).mono ?_;rintro e w2 ⟨rfl,b2⟩;have b3 : Below w1.heap.size w1 w2:=(BR.alloc LR _).trans (b2.mono (by simp));have y5:=(b3.cell (p:=⟨w.heap.size + 1,5,none⟩) hz1).trans x5;have B2:=hide (HB.out.trans (b3.mono HB.out.size));rw [VC.out];clear b2 b3
   go_wp2
   go_ret
   exact ⟨by first | rfl | (rw [V.out];first | rfl | simp),B2.out⟩
  ·by_cases h4 : m.e.o.k = 4
   ·have V : Hid ((decide ((chk [m.e] 1).1 = 0) && (decide (m.e.o.k = 3) || decide (m.e.o.k = 4))) = true):=by
     show _ = _
     rw [VC.out,decide_eq_true h4,decide_eq_false h3];rfl
    have hq3 : (m.e.o.k == 3) = false:=by simp [h3]
    have hq4 : (m.e.o.k == 4) = true:=by simp [h4]
    clear h3 h4 hc
    go_enter Tryz.func54,Tryz.ntmps54
    go_upto_region 1 with (refine boxMk rfl (.tmp 1) rfl m _ _ rfl ?_;intro q1 w1 hq1 M1 b1 z1)
    have hB : Below w.heap.size w w1:=(BR.alloc LR _).trans (b1.mono (by simp));have HB:=hide hB;have c0 : w1.cell? ⟨w.heap.size,0,none⟩ = some (.int .i64 f):=(b1.cell (p:=⟨w.heap.size,0,none⟩) (by simp)).trans (by simp);have c1 : w1.cell? ⟨w.heap.size,1,none⟩ = some (.int .i64 r):=(b1.cell (p:=⟨w.heap.size,1,none⟩) (by simp)).trans (by simp)
    have hq2 : q1 = w.heap.size + 1:=by first | exact hq1 | simpa using hq1
    subst hq2;have x3:=M1.cell 3 _ rfl;have x4:=M1.cell 4 _ rfl;have x5:=M1.cell 5 _ rfl;have x6:=M1.cell 6 _ rfl;have x7:=M1.cell 7 _ rfl;have hz1 : w.heap.size + 1 < w1.heap.size:=M1.lt;clear M1 b1 z1 hB hq1
    go_wp2_with fail
    refine (logMayBe_any [m.e] _ _ _ _ _ (sl_box (Y:=yE) w1 m.e 47) (fun e he => by rw [List.mem_singleton.1 he];exact hfe)).mono ?_;rintro e w2 ⟨rfl,b2⟩;have b3 : Below w1.heap.size w1 w2:=(BR.alloc LR _).trans (b2.mono (by simp));have y5:=(b3.cell (p:=⟨w.heap.size + 1,5,none⟩) hz1).trans x5;have B2:=hide (HB.out.trans (b3.mono HB.out.size));rw [VC.out];clear b2 b3
    go_wp2
    go_ret
    exact ⟨by first | rfl | (rw [V.out];first | rfl | simp),B2.out⟩
   ·have V : Hid ((decide ((chk [m.e] 1).1 = 0) && (decide (m.e.o.k = 3) || decide (m.e.o.k = 4))) = false):=by
     show _ = _
     rw [VC.out,decide_eq_false h4,decide_eq_false h3];rfl
    have hq3 : (m.e.o.k == 3) = false:=by simp [h3]
    have hq4 : (m.e.o.k == 4) = false:=by simp [h4]
    clear h3 h4 hc
    go_enter Tryz.func54,Tryz.ntmps54
    go_upto_region 1 with (refine boxMk rfl (.tmp 1) rfl m _ _ rfl ?_;intro q1 w1 hq1 M1 b1 z1)
    have hB : Below w.heap.size w w1:=(BR.alloc LR _).trans (b1.mono (by simp));have HB:=hide hB;have c0 : w1.cell? ⟨w.heap.size,0,none⟩ = some (.int .i64 f):=(b1.cell (p:=⟨w.heap.size,0,none⟩) (by simp)).trans (by simp);have c1 : w1.cell? ⟨w.heap.size,1,none⟩ = some (.int .i64 r):=(b1.cell (p:=⟨w.heap.size,1,none⟩) (by simp)).trans (by simp)
    have hq2 : q1 = w.heap.size + 1:=by first | exact hq1 | simpa using hq1
    subst hq2;have x3:=M1.cell 3 _ rfl;have x4:=M1.cell 4 _ rfl;have x5:=M1.cell 5 _ rfl;have x6:=M1.cell 6 _ rfl;have x7:=M1.cell 7 _ rfl;have hz1 : w.heap.size + 1 < w1.heap.size:=M1.lt;clear M1 b1 z1 hB hq1
    go_wp2_with fail
    refine (logMayBe_any [m.e] _ _ _ _ _ (sl_box (Y:=yE) w1 m.e 47) (fun e he => by rw [List.mem_singleton.1 he];exact hfe)).mono ?_;rintro e w2 ⟨rfl,b2⟩;have b3 : Below w1.heap.size w1 w2:=(BR.alloc LR _).trans (b2.mono (by simp));have y5:=(b3.cell (p:=⟨w.heap.size + 1,5,none⟩) hz1).trans x5;have B2:=hide (HB.out.trans (b3.mono HB.out.size));rw [VC.out];clear b2 b3
    go_wp2
    go_ret
    exact ⟨by first | rfl | (rw [V.out];first | rfl | simp),B2.out⟩
 ·have VC:=hide (decide_eq_false hc)
  have V : Hid ((decide ((chk [m.e] 1).1 = 0) && (decide (m.e.o.k = 3) || decide (m.e.o.k = 4))) = false):=by
   show _ = _
   rw [VC.out];rfl
  clear hc
  go_enter Tryz.func54,Tryz.ntmps54
  go_upto_region 1 with (refine boxMk rfl (.tmp 1) rfl m _ _ rfl ?_;intro q1 w1 hq1 M1 b1 z1)
  have hB : Below w.heap.size w w1:=(BR.alloc LR _).trans (b1.mono (by simp));have HB:=hide hB;have c0 : w1.cell? ⟨w.heap.size,0,none⟩ = some (.int .i64 f):=(b1.cell (p:=⟨w.heap.size,0,none⟩) (by simp)).trans (by simp);have c1 : w1.cell? ⟨w.heap.size,1,none⟩ = some (.int .i64 r):=(b1.cell (p:=⟨w.heap.size,1,none⟩) (by simp)).trans (by simp)
  have hq2 : q1 = w.heap.size + 1:=by first | exact hq1 | simpa using hq1
  subst hq2;have x3:=M1.cell 3 _ rfl;have x4:=M1.cell 4 _ rfl;have x5:=M1.cell 5 _ rfl;have x6:=M1.cell 6 _ rfl;have x7:=M1.cell 7 _ rfl;have hz1 : w.heap.size + 1 < w1.heap.size:=M1.lt;clear M1 b1 z1 hB hq1
  go_wp2_with fail
  refine (logMayBe_any [m.e] _ _ _ _ _ (sl_box (Y:=yE) w1 m.e 47) (fun e he => by rw [List.mem_singleton.1 he];exact hfe)).mono ?_;rintro e w2 ⟨rfl,b2⟩;have b3 : Below w1.heap.size w1 w2:=(BR.alloc LR _).trans (b2.mono (by simp));have y5:=(b3.cell (p:=⟨w.heap.size + 1,5,none⟩) hz1).trans x5;have B2:=hide (HB.out.trans (b3.mono HB.out.size));rw [VC.out];clear b2 b3
  go_wp2
  go_ret
  exact ⟨by first | rfl | (rw [V.out];first | rfl | simp),B2.out⟩
def nmE (e : En) : En:=⟨e.c,e.n,⟨4,0,⟨#[]⟩⟩⟩
def nmB (e : En) : Bool:=(decide (e.o.k = 0) && (decide (e.o.s = 0) && decide (e.o.v = ⟨#[]⟩))) && decide ((chk [nmE e] 1).1 = 0)
theorem nmE_fits {e : En} (h : e.fits) : ∀ x ∈ [nmE e],x.fits:=fun x hx => by
 rw [List.mem_singleton.1 hx]
 exact ⟨h.cw,h.nw,⟨(by decide : (Lit.int .i64 4).wf = true),(by decide : (Lit.int .i64 0).wf = true),Nat.zero_le _⟩⟩
theorem nameMayBe_any (e : En) (w : World) (hfe : e.fits) : Calls Tryz.prog 86 #[.agg #[.int .i64 e.c,.int .i64 e.n,.int .i64 e.o.k,.int .i64 e.o.s,.string e.o.v]] w fun r w' => r = .returned (.bool (nmB e))∧Below w.heap.size w w':=by
 have HL : Hid (∀ W : World,W.heap.size = w.heap.size + 2 → Calls Tryz.prog 85 #[.slice (some ⟨w.heap.size + 2,0,none⟩) 1 1,.int .i64 1] (W.alloc (.cells #[.int .i64 e.c,.int .i64 e.n,.int .i64 4,.int .i64 0,.string ⟨#[]⟩] 47)) fun r w' => r = .returned (.bool (decide ((chk [nmE e] 1).1 = 0)))∧Below (W.alloc (.cells #[.int .i64 e.c,.int .i64 e.n,.int .i64 4,.int .i64 0,.string ⟨#[]⟩] 47)).heap.size (W.alloc (.cells #[.int .i64 e.c,.int .i64 e.n,.int .i64 4,.int .i64 0,.string ⟨#[]⟩] 47)) w'):=fun W hW => by
  have:=logMayBe_any [nmE e] _ _ _ 1 _ (sl_box (Y:=yE) W (nmE e) 47) (nmE_fits hfe);rw [hW] at this
  exact this
 have V0 : Hid (nmB e = ((decide (e.o.k = 0) && (decide (e.o.s = 0) && decide (e.o.v = ⟨#[]⟩))) && decide ((chk [nmE e] 1).1 = 0))):=rfl
 generalize hx : decide ((chk [nmE e] 1).1 = 0) = x at HL V0
 clear hx hfe;obtain ⟨c,n,⟨k,s,v⟩⟩:=e
 dsimp only
 by_cases g1 : k = 0
 ·by_cases g2 : s = 0
  ·by_cases g3 : v = ⟨#[]⟩
   ·have V : Hid (nmB ⟨c,n,⟨k,s,v⟩⟩ = x):=by
     show _ = _
     rw [V0.out];subst g1 g2 g3
     simp
    subst g1 g2 g3;clear V0
    go_enter Tryz.func86,Tryz.ntmps86
    go_wp2_with fail
    refine (HL.out _ (by simp [World.setCell])).mono ?_;rintro e w2 ⟨rfl,b2⟩
    have B2 : Hid (Below w.heap.size w w2):=by
     refine Below.trans ?_ (b2.mono (by simp [World.setCell] <;> omega))
     repeat (first | exact Below.refl _ _ | refine Below.alloc ?_ (by simp [World.setCell] <;> omega) _ | refine Below.setCell ?_ (by simp) _)
    clear b2 HL
    go_wp2
    go_ret
    exact ⟨by rw [V.out];first | rfl | simp,B2.out⟩
   ·have V : Hid (nmB ⟨c,n,⟨k,s,v⟩⟩ = false):=by
     show _ = _
     rw [V0.out]
     simp [g3]
    have s7 : ¬ v.toList = (⟨#[]⟩ : ByteArray).toList:=fun e => g3 ((bytes_inj _ _).1 e)
    have t7 : v.toList.isEmpty = false:=by
     rw [Bool.eq_false_iff];intro h
     exact s7 (by rw [List.isEmpty_iff.1 h,ByteArray.toList_eq])
    subst g1 g2;clear V0 HL
    go_enter Tryz.func86,Tryz.ntmps86
    go_wp2
    go_ret
    exact ⟨by rw [V.out];first | rfl | simp,by repeat (first | exact Below.refl _ _ | refine Below.alloc ?_ (by simp [World.setCell] <;> omega) _ | refine Below.setCell ?_ (by simp) _)⟩
  ·have V : Hid (nmB ⟨c,n,⟨k,s,v⟩⟩ = false):=by
    show _ = _
    rw [V0.out]
    simp [g2]
   have hq : (s == 0) = false:=by simp [g2]
   subst g1;clear V0 HL
   go_enter Tryz.func86,Tryz.ntmps86
   go_wp2
   go_ret
   exact ⟨by rw [V.out];first | rfl | simp,by repeat (first | exact Below.refl _ _ | refine Below.alloc ?_ (by simp [World.setCell] <;> omega) _ | refine Below.setCell ?_ (by simp) _)⟩
 ·have V : Hid (nmB ⟨c,n,⟨k,s,v⟩⟩ = false):=by
   show _ = _
   rw [V0.out]
   simp [g1]
  have hq : (k == 0) = false:=by simp [g1]
  clear V0 HL
  go_enter Tryz.func86,Tryz.ntmps86
  go_wp2
  go_ret
  exact ⟨by rw [V.out];first | rfl | simp,by repeat (first | exact Below.refl _ _ | refine Below.alloc ?_ (by simp [World.setCell] <;> omega) _ | refine Below.setCell ?_ (by simp) _)⟩
structure In (La : List (SV En)) (Da : List (SV (Int × Int))) (L : List En) (D : List (Int × Int)) (n1 n2 : Nat) (s t : Value) : Prop where
 ex : ∃ g c g' c',s = .slice (some ⟨g,0,none⟩) n1 c∧t = .slice (some ⟨g',0,none⟩) n2 c'∧(⟨some ⟨g,0,none⟩,c,L ++ [mkE]⟩ : SV En) ∈ La∧(⟨some ⟨g',0,none⟩,c',D ++ [mkD]⟩ : SV (Int × Int)) ∈ Da
theorem region_qC8 {P : Program} {C : World → Prop} {id : Nat} {Q : Exit → Act → World → Prop} {a : Act} {w : World} {l : List Oper} (hm : P.follows .mixedOrders = true) (hB : Region.lexB .any l.toArray = true) (hC : C w.drew)
  (h : wpQuiet P l.toArray C (fun a' => ∀ w',C w' → Q .normal a' w') l a) : (Code.region id l.toArray true).wp P Q a w :=
 wp_region_quiet (C:=C) hm hB hC (by simpa using h)
theorem wq_val {ops : Array Oper} {rest : List Oper} {o : Oper} {a : Act} {C : World → Prop} {Q : Act → Prop} {u : Value} (hw : Region.wanted o (yielded ops a.tmps) = true) (h : ∀ v,(execOp a.eval o).run Tryz.prog v = .ok (.value u) v) (hk : wpQuiet Tryz.prog ops C Q rest (a.put o.dst u)) : wpQuiet Tryz.prog ops C Q (o :: rest) a :=
 BigFrame.wpQuiet_want hw (fun K hK => ⟨u,fun v _ => by unfold Oper.quietAt;rw [h v];exact ⟨rfl,rfl⟩,hK _ hk⟩)
theorem wq_call {ops : Array Oper} {rest : List Oper} {o : Oper} {a : Act} {C : World → Prop} {Q : Act → Prop} {fid : FuncId} {args : Array Value} {u : Value} (hw : Region.wanted o (yielded ops a.tmps) = true) (hr : ∀ v,(execOp a.eval o).run Tryz.prog v = .ok (.enter fid args) v) (hc : ∀ v,C v → Calls Tryz.prog fid args v (fun e w' => e = .returned u∧C w')) (hk : wpQuiet Tryz.prog ops C Q rest (a.put o.dst u)) : wpQuiet Tryz.prog ops C Q (o :: rest) a :=
 BigFrame.wpQuiet_want hw (fun K hK => ⟨u,fun v hv => by unfold Oper.quietAt;rw [hr v];exact ⟨rfl,hc v hv⟩,hK _ hk⟩)
def plB (f r : Int) (m : Mg) (L : List En) : Bool:=decide (L.length = 0) || (prB f m && decide ((chk L r).1 = 0))
theorem wq_valC {ops : Array Oper} {rest : List Oper} {o : Oper} {a : Act} {C : World → Prop} {Q : Act → Prop} {u : Value} (hw : Region.wanted o (yielded ops a.tmps) = true) (h : ∀ v,C v → (execOp a.eval o).run Tryz.prog v = .ok (.value u) v) (hk : wpQuiet Tryz.prog ops C Q rest (a.put o.dst u)) : wpQuiet Tryz.prog ops C Q (o :: rest) a :=
 BigFrame.wpQuiet_want hw (fun K hK => ⟨u,fun v hv => by unfold Oper.quietAt;rw [h v hv];exact ⟨rfl,rfl⟩,hK _ hk⟩)
theorem keeps_19 (f r p : Int) (u : Bool) (m : Mg) (a1 a2 : Option Addr) (nl cl nv cv : Nat) (at_ : Int) (w : World) (hf1 : 1 ≤ f) (hf2 : f ≤ 3) (L : List En) (h : SlY yE w a1 nl cl L) (hfit : ∀ e ∈ L,e.fits) : Calls Tryz.prog 54 #[.agg #[.int .i64 f,.int .i64 r,.int .i64 p,.bool u],m.val (.slice a1 nl cl) (.slice a2 nv cv),.int .i64 at_,.int .u8 19] w fun e w' => e = .returned (.bool (plB f r m L))∧Below w.heap.size w w':=by
 have hlen:=h.len;have HS:=hide h
 have hn0 : ¬ (2 * f + 1 = 0):=by omega
 clear h
 by_cases hl : nl = 0
 ·have V : Hid (plB f r m L = true):=by
   show _ = _
   unfold plB
   rw [hlen,decide_eq_true hl];rfl
  subst hl
  go_enter Tryz.func54,Tryz.ntmps54
  go_upto_region 1 with (refine boxMk rfl (.tmp 1) rfl m _ _ rfl ?_;intro q1 w1 hq1 M1 b1 z1)
  have hB : Below w.heap.size w w1:=(BR.alloc LR _).trans (b1.mono (by simp));have HB:=hide hB;have c0 : w1.cell? ⟨w.heap.size,0,none⟩ = some (.int .i64 f):=(b1.cell (p:=⟨w.heap.size,0,none⟩) (by simp)).trans (by simp);have c1 : w1.cell? ⟨w.heap.size,1,none⟩ = some (.int .i64 r):=(b1.cell (p:=⟨w.heap.size,1,none⟩) (by simp)).trans (by simp)
  have hq2 : q1 = w.heap.size + 1:=by first | exact hq1 | simpa using hq1
  subst hq2;have x16:=M1.cell 16 _ rfl;have x1:=M1.cell 1 _ rfl;have x2:=M1.cell 2 _ rfl;have hz1 : w.heap.size + 1 < w1.heap.size:=M1.lt;clear M1 b1 z1 hB hq1
  go_wp2_with fail
  go_quiet (fail)
  go_wp2
  go_ret
  exact ⟨by first | rfl | (rw [V.out];first | rfl | simp),belN HB.out nq⟩
 ·have hl' : ¬ ((nl : Int) = 0):=by omega
  have hq0 : ((nl : Int) == 0) = false:=by simp [hl]
  by_cases hp : m.nd = m.vw.tmod (2 * f + 1)
  ·have V : Hid (plB f r m L = decide ((chk L r).1 = 0)):=by
    show _ = _
    unfold plB prB
    rw [hlen,decide_eq_false hl,decide_eq_true hp];simp
   have hq : (m.nd == m.vw.tmod (2 * f + 1)) = true:=by simp [← hp]
   clear hp
   go_enter Tryz.func54,Tryz.ntmps54
   go_upto_region 1 with (refine boxMk rfl (.tmp 1) rfl m _ _ rfl ?_;intro q1 w1 hq1 M1 b1 z1)
   have hB : Below w.heap.size w w1:=(BR.alloc LR _).trans (b1.mono (by simp));have HB:=hide hB;have c0 : w1.cell? ⟨w.heap.size,0,none⟩ = some (.int .i64 f):=(b1.cell (p:=⟨w.heap.size,0,none⟩) (by simp)).trans (by simp);have c1 : w1.cell? ⟨w.heap.size,1,none⟩ = some (.int .i64 r):=(b1.cell (p:=⟨w.heap.size,1,none⟩) (by simp)).trans (by simp)
   have hq2 : q1 = w.heap.size + 1:=by first | exact hq1 | simpa using hq1
   subst hq2;have x16:=M1.cell 16 _ rfl;have x1:=M1.cell 1 _ rfl;have x2:=M1.cell 2 _ rfl;have hz1 : w.heap.size + 1 < w1.heap.size:=M1.lt;clear M1 b1 z1 hB hq1
   go_wp2_with fail
   have X16:=hide x16;have X1:=hide x1;have X2:=hide x2;have C1:=hide c1;refine region_qC8 (C:=fun v => Below w1.heap.size w1 v) (by kernel_rfl) (by kernel_rfl) BR.drew ?_;clear x16 x1 x2 c1 c0;refine wq_valC (u:=.pointer (some ⟨w.heap.size + 1,16,none⟩)) rfl (fun v hv => by go_simp) ?_;simp only [pu,pn,pv,pw,px];refine wq_valC (u:=.slice a1 nl cl) rfl (fun v hv => by have e:=(hv.cell (p:=⟨w.heap.size + 1,16,none⟩) hz1).trans X16.out;go_simp) ?_;simp only [pu,pn,pv,pw,px];refine wq_valC (u:=.int .i64 (nl : Int)) rfl (fun v hv => by go_simp) ?_;simp only [pu,pn,pv,pw,px];refine wq_valC (u:=.bool false) rfl (fun v hv => by go_simp) ?_;simp only [pu,pn,pv,pw,px];refine wq_valC (u:=.bool false) rfl (fun v hv => by rfl) ?_;simp only [pu,pn,pv,pw,px];refine wq_valC (u:=.pointer (some ⟨w.heap.size + 1,1,none⟩)) rfl (fun v hv => by go_simp) ?_;simp only [pu,pn,pv,pw,px];refine wq_valC (u:=.int .i64 m.nd) rfl (fun v hv => by have e:=(hv.cell (p:=⟨w.heap.size + 1,1,none⟩) hz1).trans X1.out;go_simp) ?_;simp only [pu,pn,pv,pw,px];refine wq_valC (u:=.pointer (some ⟨w.heap.size + 1,2,none⟩)) rfl (fun v hv => by go_simp) ?_;simp only [pu,pn,pv,pw,px];refine wq_valC (u:=.int .i64 m.vw) rfl (fun v hv => by have e:=(hv.cell (p:=⟨w.heap.size + 1,2,none⟩) hz1).trans X2.out;go_simp) ?_;simp only [pu,pn,pv,pw,px];refine wq_valC (u:=.int .i64 (2 * f + 1)) rfl (fun v hv => by rfl) ?_;simp only [pu,pn,pv,pw,px];refine wq_valC (u:=.int .i64 (m.vw.tmod (2 * f + 1))) rfl (fun v hv => by go_simp) ?_;simp only [pu,pn,pv,pw,px];refine wq_valC (u:=.bool true) rfl (fun v hv => by go_simp) ?_;simp only [pu,pn,pv,pw,px];refine wq_valC (u:=.bool true) rfl (fun v hv => by rfl) ?_;simp only [pu,pn,pv,pw,px];refine wq_valC (u:=.pointer (some ⟨w.heap.size + 1,16,none⟩)) rfl (fun v hv => by go_simp) ?_;simp only [pu,pn,pv,pw,px];refine wq_valC (u:=.slice a1 nl cl) rfl (fun v hv => by have e:=(hv.cell (p:=⟨w.heap.size + 1,16,none⟩) hz1).trans X16.out;go_simp) ?_;simp only [pu,pn,pv,pw,px];refine wq_valC (u:=.pointer (some ⟨w.heap.size,1,none⟩)) rfl (fun v hv => by go_simp) ?_;simp only [pu,pn,pv,pw,px];refine wq_valC (u:=.int .i64 r) rfl (fun v hv => by have e:=(hv.cell (p:=⟨w.heap.size,1,none⟩) (by show w.heap.size < w1.heap.size;omega)).trans C1.out;go_simp) ?_;simp only [pu,pn,pv,pw,px];refine wq_call (fid:=85) (args:=#[.slice a1 nl cl,.int .i64 r]) rfl (fun v => by unfold execOp;simp only [resolve,invoke,Sem.run_bind,LA,LB,LC];rfl) (fun v hv => (logMayBe_any L a1 nl cl r v (HS.out.bel (HB.out.trans (hv.mono HB.out.size)) LR) hfit).mono (fun e v' h => ⟨h.1,hv.trans (h.2.mono hv.size)⟩)) ?_;simp only [pu,pn,pv,pw,px];refine wq_valC (u:=.bool (decide ((chk L r).1 = 0))) rfl (fun v hv => rfl) ?_;simp only [pu,pn,pv,pw,px];refine wq_valC (u:=.bool (decide ((chk L r).1 = 0))) rfl (fun v hv => rfl) ?_;simp only [pu,pn,pv,pw,px];refine wq_valC (u:=.bool (decide ((chk L r).1 = 0))) rfl (fun v hv => rfl) ?_;simp only [pu,pn,pv,pw,px];refine wpQuiet_nil (fun v hv => ?_);have BV:=hide (HB.out.trans (hv.mono HB.out.size));clear hv
   go_wp2
   go_ret
   exact ⟨by rw [V.out];rfl,BV.out⟩
  ·have V : Hid (plB f r m L = false):=by
    show _ = _
    unfold plB prB
    rw [hlen,decide_eq_false hl,decide_eq_false hp];rfl
   have hq : (m.nd == m.vw.tmod (2 * f + 1)) = false:=by simp [hp]
   clear hp
   go_enter Tryz.func54,Tryz.ntmps54
   go_upto_region 1 with (refine boxMk rfl (.tmp 1) rfl m _ _ rfl ?_;intro q1 w1 hq1 M1 b1 z1)
   have hB : Below w.heap.size w w1:=(BR.alloc LR _).trans (b1.mono (by simp));have HB:=hide hB;have c0 : w1.cell? ⟨w.heap.size,0,none⟩ = some (.int .i64 f):=(b1.cell (p:=⟨w.heap.size,0,none⟩) (by simp)).trans (by simp);have c1 : w1.cell? ⟨w.heap.size,1,none⟩ = some (.int .i64 r):=(b1.cell (p:=⟨w.heap.size,1,none⟩) (by simp)).trans (by simp)
   have hq2 : q1 = w.heap.size + 1:=by first | exact hq1 | simpa using hq1
   subst hq2;have x16:=M1.cell 16 _ rfl;have x1:=M1.cell 1 _ rfl;have x2:=M1.cell 2 _ rfl;have hz1 : w.heap.size + 1 < w1.heap.size:=M1.lt;clear M1 b1 z1 hB hq1
   go_wp2_with fail
   go_quiet (fail)
   go_wp2
   go_ret
   exact ⟨by first | rfl | (rw [V.out];first | rfl | simp),belN HB.out nq⟩
theorem keeps_15 (f r p : Int) (u : Bool) (m : Mg) (a1 a2 : Option Addr) (nl cl nv cv : Nat) (at_ : Int) (w : World) (hf1 : 1 ≤ f) (hf2 : f ≤ 3) (hfe : m.e.fits) : Calls Tryz.prog 54 #[.agg #[.int .i64 f,.int .i64 r,.int .i64 p,.bool u],m.val (.slice a1 nl cl) (.slice a2 nv cv),.int .i64 at_,.int .u8 15] w fun e w' => e = .returned (.bool (nmB m.e))∧Below w.heap.size w w':=by
 go_enter Tryz.func54,Tryz.ntmps54
 go_upto_region 1 with (refine boxMk rfl (.tmp 1) rfl m _ _ rfl ?_;intro q1 w1 hq1 M1 b1 z1)
 have hB : Below w.heap.size w w1:=(BR.alloc LR _).trans (b1.mono (by simp));have HB:=hide hB;have c0 : w1.cell? ⟨w.heap.size,0,none⟩ = some (.int .i64 f):=(b1.cell (p:=⟨w.heap.size,0,none⟩) (by simp)).trans (by simp);have c1 : w1.cell? ⟨w.heap.size,1,none⟩ = some (.int .i64 r):=(b1.cell (p:=⟨w.heap.size,1,none⟩) (by simp)).trans (by simp)
 have hq2 : q1 = w.heap.size + 1:=by first | exact hq1 | simpa using hq1
 subst hq2;have x3:=M1.cell 3 _ rfl;have x4:=M1.cell 4 _ rfl;have x5:=M1.cell 5 _ rfl;have x6:=M1.cell 6 _ rfl;have x7:=M1.cell 7 _ rfl;clear M1 b1 z1 hB hq1
 go_wp2_with fail
 refine (nameMayBe_any m.e _ hfe).mono ?_;rintro e w2 ⟨rfl,b2⟩;have B2:=hide (HB.out.trans (b2.mono HB.out.size));clear b2
 go_wp2
 go_ret
 exact ⟨rfl,B2.out⟩
def owB (m : Mg) (D : List (Int × Int)) : Bool:=!decide (m.d = (0,0)) && (inR m.nd 0 ((D.length : Int) - 1) && decide (D[m.nd.toNat]? = some m.d))
theorem neqDr (x y : Operand) (r r' : Int × Int) (w : World) : (do eqGuard .neq 52 x y (.agg #[.int .u64 r.1,.int .u64 r.2]) (.agg #[.int .u64 r'.1,.int .u64 r'.2]);binOp .neq 52 (.agg #[.int .u64 r.1,.int .u64 r.2]) (.agg #[.int .u64 r'.1,.int .u64 r'.2]) : Sem Value).run Tryz.prog w = .ok (.bool (!decide (r = r'))) w:=by
 obtain ⟨a,b⟩:=r;obtain ⟨a',b'⟩:=r'
 go_simp
 by_cases e1 : a = a' <;> by_cases e2 : b = b' <;> simp [e1,e2]
theorem wq_bin {ops : Array Oper} {rest : List Oper} {o : Oper} {a : Act} {C : World → Prop} {Q : Act → Prop} {u X Y : Value} {op : BinOp} {ty ty' : TypeId} {x y : Operand} (hw : Region.wanted o (yielded ops a.tmps) = true) (ho : o.op = .binOp op ty x y ty') (hx : a.eval x = X) (hy : a.eval y = Y) (h : ∀ v,(do eqGuard op ty x y X Y;binOp op ty X Y : Sem Value).run Tryz.prog v = .ok u v) (hk : wpQuiet Tryz.prog ops C Q rest (a.put o.dst u)) : wpQuiet Tryz.prog ops C Q (o :: rest) a :=
 wq_val hw (fun v => by
  unfold execOp
  simp only [ho,hx,hy];rw [Sem.run_bind,h v]
  rfl) hk
theorem vj_valC {ops : Array Oper} {rest : List Oper} {o : Oper} {a : Act} {C : World → Prop} {Q : Act → Prop} {u : Value} (hw : Region.wanted o (yielded ops a.tmps) = true) (h : ∀ v,C v → (execOp a.eval o).run Tryz.prog v = .ok (.value u) v) (hk : VJ ops C Q rest (a.put o.dst u)) : VJ ops C Q (o :: rest) a:=⟨wq_valC hw h hk.out⟩
theorem vj_bin {ops : Array Oper} {rest : List Oper} {o : Oper} {a : Act} {C : World → Prop} {Q : Act → Prop} {u X Y : Value} {op : BinOp} {ty ty' : TypeId} {x y : Operand} (hw : Region.wanted o (yielded ops a.tmps) = true) (ho : o.op = .binOp op ty x y ty') (hx : a.eval x = X) (hy : a.eval y = Y) (h : ∀ v,(do eqGuard op ty x y X Y;binOp op ty X Y : Sem Value).run Tryz.prog v = .ok u v) (hk : VJ ops C Q rest (a.put o.dst u)) : VJ ops C Q (o :: rest) a:=⟨wq_bin hw ho hx hy h hk.out⟩
theorem vj_call {ops : Array Oper} {rest : List Oper} {o : Oper} {a : Act} {C : World → Prop} {Q : Act → Prop} {fid : FuncId} {args : Array Value} {u : Value} (hw : Region.wanted o (yielded ops a.tmps) = true) (hr : ∀ v,(execOp a.eval o).run Tryz.prog v = .ok (.enter fid args) v) (hc : ∀ v,C v → Calls Tryz.prog fid args v (fun e w' => e = .returned u∧C w')) (hk : VJ ops C Q rest (a.put o.dst u)) : VJ ops C Q (o :: rest) a:=⟨wq_call hw hr hc hk.out⟩
theorem vj_skip {ops : Array Oper} {rest : List Oper} {o : Oper} {a : Act} {C : World → Prop} {Q : Act → Prop} (hw : Region.wanted o (yielded ops a.tmps) = false) (hk : VJ ops C Q rest (a.put o.dst undef)) : VJ ops C Q (o :: rest) a:=⟨BigFrame.wpQuiet_skip hw hk.out⟩
theorem keeps_12 (f r p : Int) (u : Bool) (m : Mg) (a1 a2 : Option Addr) (nl cl nv cv : Nat) (at_ : Int) (w : World) (hf1 : 1 ≤ f) (hf2 : f ≤ 3) (D : List (Int × Int)) (h : SlY yD w a2 nv cv D) : Calls Tryz.prog 54 #[.agg #[.int .i64 f,.int .i64 r,.int .i64 p,.bool u],m.val (.slice a1 nl cl) (.slice a2 nv cv),.int .i64 at_,.int .u8 12] w fun e w' => e = .returned (.bool (owB m D))∧Below w.heap.size w w':=by
 have hlen:=h.len;have hcv:=h.cap;have hmx:=h.max
 unfold maxLen at hmx
 have wrp : IntKind.i64.wrap ((nv : Int) - 1) = (nv : Int) - 1:=by rw [IntKind.wrap_i64];omega
 have HS:=hide h;clear h
 by_cases hd : m.d = (0,0)
 ·have V : Hid (owB m D = false):=by simp [Hid,owB,hd]
  go_enter Tryz.func54,Tryz.ntmps54
  go_upto_region 1 with (refine boxMk rfl (.tmp 1) rfl m _ _ rfl ?_;intro q1 w1 hq1 M1 b1 z1)
  have hB : Below w.heap.size w w1:=(BR.alloc LR _).trans (b1.mono (by simp));have HB:=hide hB;have c0 : w1.cell? ⟨w.heap.size,0,none⟩ = some (.int .i64 f):=(b1.cell (p:=⟨w.heap.size,0,none⟩) (by simp)).trans (by simp);have c1 : w1.cell? ⟨w.heap.size,1,none⟩ = some (.int .i64 r):=(b1.cell (p:=⟨w.heap.size,1,none⟩) (by simp)).trans (by simp)
  have hq2 : q1 = w.heap.size + 1:=by first | exact hq1 | simpa using hq1
  subst hq2;have x1:=M1.cell 1 _ rfl;have x17:=M1.cell 17 _ rfl;have x14:=M1.cell 14 _ rfl;have x15:=M1.cell 15 _ rfl;have hz1 : w.heap.size + 1 < w1.heap.size:=M1.lt;clear M1 b1 z1 hB hq1
  go_wp2_with fail
  have X17:=hide x17;have X1:=hide x1;have X14:=hide x14;have X15:=hide x15;refine vq_start (C:=fun v => Below w1.heap.size w1 v) (by kernel_rfl) (by kernel_rfl) BR.drew ?_;clear x17 x1 x14 x15 c1 c0;refine vj_valC (u:=.pointer (some ⟨w.heap.size + 1,14,none⟩)) rfl (fun v hv => by go_simp) ?_;simp only [pu,pn,pv,pw,px];refine vj_valC (u:=.agg #[.int .u64 m.d.1,.int .u64 m.d.2]) rfl (fun v hv => by have e:=(hv.cell (p:=⟨w.heap.size + 1,14,none⟩) hz1).trans X14.out;have e2:=(hv.cell (p:=⟨w.heap.size + 1,15,none⟩) hz1).trans X15.out;go_simp) ?_;simp only [pu,pn,pv,pw,px];refine vj_valC (u:=.agg #[.int .u64 0,.int .u64 0]) rfl (fun v hv => by go_simp) ?_;simp only [pu,pn,pv,pw,px];refine vj_bin (u:=.bool false) rfl rfl rfl rfl (fun v => (neqDr _ _ m.d (0,0) v).trans (by rw [decide_eq_true hd];rfl)) ?_;simp only [pu,pn,pv,pw,px];refine vj_valC (u:=.bool false) (by kernel_rfl) (fun v hv => by kernel_rfl) ?_;simp only [pu,pn,pv,pw,px];refine vj_skip (by kernel_rfl) ?_;simp only [pu,pn,pv,pw,px];refine vj_skip (by kernel_rfl) ?_;simp only [pu,pn,pv,pw,px];refine vj_skip (by kernel_rfl) ?_;simp only [pu,pn,pv,pw,px];refine vj_skip (by kernel_rfl) ?_;simp only [pu,pn,pv,pw,px];refine vj_skip (by kernel_rfl) ?_;simp only [pu,pn,pv,pw,px];refine vj_skip (by kernel_rfl) ?_;simp only [pu,pn,pv,pw,px];refine vj_skip (by kernel_rfl) ?_;simp only [pu,pn,pv,pw,px];refine vj_valC (u:=.bool false) (by kernel_rfl) (fun v hv => by kernel_rfl) ?_;simp only [pu,pn,pv,pw,px];refine vj_valC (u:=.bool false) (by kernel_rfl) (fun v hv => by kernel_rfl) ?_;simp only [pu,pn,pv,pw,px];refine vj_skip (by kernel_rfl) ?_;simp only [pu,pn,pv,pw,px];refine vj_skip (by kernel_rfl) ?_;simp only [pu,pn,pv,pw,px];refine vj_skip (by kernel_rfl) ?_;simp only [pu,pn,pv,pw,px];refine vj_skip (by kernel_rfl) ?_;simp only [pu,pn,pv,pw,px];refine vj_skip (by kernel_rfl) ?_;simp only [pu,pn,pv,pw,px];refine vj_skip (by kernel_rfl) ?_;simp only [pu,pn,pv,pw,px];refine vj_skip (by kernel_rfl) ?_;simp only [pu,pn,pv,pw,px];refine vj_skip (by kernel_rfl) ?_;simp only [pu,pn,pv,pw,px];refine vj_skip (by kernel_rfl) ?_;simp only [pu,pn,pv,pw,px];refine vj_valC (u:=.bool false) (by kernel_rfl) (fun v hv => by kernel_rfl) ?_;simp only [pu,pn,pv,pw,px];refine vj_valC (u:=.bool false) (by kernel_rfl) (fun v hv => by kernel_rfl) ?_;simp only [pu,pn,pv,pw,px];refine vq_nil (fun v hv => ?_);have BV:=hide (HB.out.trans (hv.mono HB.out.size));clear hv
  go_wp2
  go_ret
  exact ⟨by rw [V.out];rfl,BV.out⟩
 ·by_cases hw : inR m.nd 0 ((nv : Int) - 1) = true
  ·have WQ:=hide hw
   obtain ⟨i,hi,hiv⟩ : ∃ i : Nat,m.nd = (i : Int)∧i < nv:=by
    unfold inR at hw
    simp at hw
    exact ⟨m.nd.toNat,by omega,by omega⟩
   obtain ⟨dd,hdd⟩ : ∃ dd,D[i]? = some dd:=⟨_,List.getElem?_eq_getElem (by rw [hlen];exact hiv)⟩
   obtain ⟨q2,o2,rfl,hqs,y0,y1⟩:=HS.out.dw hdd
   have V : Hid (owB m D = decide (m.d = dd)):=by
    show _ = _
    have hn : m.nd.toNat = i:=by omega
    unfold owB
    rw [hlen,hw,hn,hdd]
    simp [hd,eq_comm]
   clear hw hdd
   go_enter Tryz.func54,Tryz.ntmps54
   go_upto_region 1 with (refine boxMk rfl (.tmp 1) rfl m _ _ rfl ?_;intro q1 w1 hq1 M1 b1 z1)
   have hB : Below w.heap.size w w1:=(BR.alloc LR _).trans (b1.mono (by simp));have HB:=hide hB;have c0 : w1.cell? ⟨w.heap.size,0,none⟩ = some (.int .i64 f):=(b1.cell (p:=⟨w.heap.size,0,none⟩) (by simp)).trans (by simp);have c1 : w1.cell? ⟨w.heap.size,1,none⟩ = some (.int .i64 r):=(b1.cell (p:=⟨w.heap.size,1,none⟩) (by simp)).trans (by simp)
   have hq2 : q1 = w.heap.size + 1:=by first | exact hq1 | simpa using hq1
   subst hq2;have x1:=M1.cell 1 _ rfl;have x17:=M1.cell 17 _ rfl;have x14:=M1.cell 14 _ rfl;have x15:=M1.cell 15 _ rfl;have hz1 : w.heap.size + 1 < w1.heap.size:=M1.lt;have hqw : q2 < w1.heap.size:=Nat.lt_of_lt_of_le hqs HB.out.size;have Z0:=hide ((HB.out.cell (p:=⟨q2,o2 + i * 2,none⟩) hqs).trans y0);have Z1:=hide ((HB.out.cell (p:=⟨q2,o2 + i * 2 + 1,none⟩) hqs).trans y1);clear y0 y1;clear M1 b1 z1 hB hq1
   go_wp2_with fail
   have X17:=hide x17;have X1:=hide x1;have X14:=hide x14;have X15:=hide x15;refine vq_start (C:=fun v => Below w1.heap.size w1 v) (by kernel_rfl) (by kernel_rfl) BR.drew ?_;clear x17 x1 x14 x15 c1 c0;refine vj_valC (u:=.pointer (some ⟨w.heap.size + 1,14,none⟩)) rfl (fun v hv => by go_simp) ?_;simp only [pu,pn,pv,pw,px];refine vj_valC (u:=.agg #[.int .u64 m.d.1,.int .u64 m.d.2]) rfl (fun v hv => by have e:=(hv.cell (p:=⟨w.heap.size + 1,14,none⟩) hz1).trans X14.out;have e2:=(hv.cell (p:=⟨w.heap.size + 1,15,none⟩) hz1).trans X15.out;go_simp) ?_;simp only [pu,pn,pv,pw,px];refine vj_valC (u:=.agg #[.int .u64 0,.int .u64 0]) rfl (fun v hv => by go_simp) ?_;simp only [pu,pn,pv,pw,px];refine vj_bin (u:=.bool true) rfl rfl rfl rfl (fun v => (neqDr _ _ m.d (0,0) v).trans (by rw [decide_eq_false hd];rfl)) ?_;simp only [pu,pn,pv,pw,px];refine vj_valC (u:=.bool true) (by kernel_rfl) (fun v hv => by kernel_rfl) ?_;simp only [pu,pn,pv,pw,px];refine vj_valC (u:=.pointer (some ⟨w.heap.size + 1,1,none⟩)) rfl (fun v hv => by go_simp) ?_;simp only [pu,pn,pv,pw,px];refine vj_valC (u:=.int .i64 m.nd) rfl (fun v hv => by have e:=(hv.cell (p:=⟨w.heap.size + 1,1,none⟩) hz1).trans X1.out;go_simp) ?_;simp only [pu,pn,pv,pw,px];refine vj_valC (u:=.pointer (some ⟨w.heap.size + 1,17,none⟩)) rfl (fun v hv => by go_simp) ?_;simp only [pu,pn,pv,pw,px];refine vj_valC (u:=.slice (some ⟨q2,o2,none⟩) nv cv) rfl (fun v hv => by have e:=(hv.cell (p:=⟨w.heap.size + 1,17,none⟩) hz1).trans X17.out;go_simp) ?_;simp only [pu,pn,pv,pw,px];refine vj_valC (u:=.int .i64 (nv : Int)) rfl (fun v hv => by go_simp) ?_;simp only [pu,pn,pv,pw,px];refine vj_valC (u:=.int .i64 ((nv : Int) - 1)) rfl (fun v hv => by have e:=wrp;go_simp;try exact e) ?_;simp only [pu,pn,pv,pw,px];refine vj_call (u:=.bool true) (fid:=82) (args:=#[.int .i64 m.nd,.int .i64 0,.int .i64 ((nv : Int) - 1)]) rfl (fun v => by unfold execOp;simp only [resolve,invoke,Sem.run_bind,LA,LB,LC];rfl) (fun v hv => (withinM_any m.nd 0 ((nv : Int) - 1) v).mono (fun e v' h => ⟨h.1.trans (by rw [WQ.out]),by rw [h.2];exact hv⟩)) ?_;simp only [pu,pn,pv,pw,px];refine vj_valC (u:=.bool true) (by kernel_rfl) (fun v hv => by kernel_rfl) ?_;simp only [pu,pn,pv,pw,px];refine vj_valC (u:=.bool true) (by kernel_rfl) (fun v hv => by kernel_rfl) ?_;simp only [pu,pn,pv,pw,px];refine vj_valC (u:=.pointer (some ⟨w.heap.size + 1,14,none⟩)) rfl (fun v hv => by go_simp) ?_;simp only [pu,pn,pv,pw,px];refine vj_valC (u:=.agg #[.int .u64 m.d.1,.int .u64 m.d.2]) rfl (fun v hv => by have e:=(hv.cell (p:=⟨w.heap.size + 1,14,none⟩) hz1).trans X14.out;have e2:=(hv.cell (p:=⟨w.heap.size + 1,15,none⟩) hz1).trans X15.out;go_simp) ?_;simp only [pu,pn,pv,pw,px];refine vj_valC (u:=.pointer (some ⟨w.heap.size + 1,17,none⟩)) rfl (fun v hv => by go_simp) ?_;simp only [pu,pn,pv,pw,px];refine vj_valC (u:=.slice (some ⟨q2,o2,none⟩) nv cv) rfl (fun v hv => by have e:=(hv.cell (p:=⟨w.heap.size + 1,17,none⟩) hz1).trans X17.out;go_simp) ?_;simp only [pu,pn,pv,pw,px];refine vj_valC (u:=.pointer (some ⟨w.heap.size + 1,1,none⟩)) rfl (fun v hv => by go_simp) ?_;simp only [pu,pn,pv,pw,px];refine vj_valC (u:=.int .i64 (i : Int)) rfl (fun v hv => by have e:=(hv.cell (p:=⟨w.heap.size + 1,1,none⟩) hz1).trans X1.out;rw [hi] at e;go_simp) ?_;simp only [pu,pn,pv,pw,px];refine vj_valC (u:=.pointer (some ⟨q2,o2 + i * 2,none⟩)) rfl (fun v hv => by go_simp) ?_;simp only [pu,pn,pv,pw,px];refine vj_valC (u:=.agg #[.int .u64 dd.1,.int .u64 dd.2]) rfl (fun v hv => by have e:=(hv.cell (p:=⟨q2,o2 + i * 2,none⟩) hqw).trans Z0.out;have e2:=(hv.cell (p:=⟨q2,o2 + i * 2 + 1,none⟩) hqw).trans Z1.out;go_simp) ?_;simp only [pu,pn,pv,pw,px];refine vj_bin (u:=.bool (decide (m.d = dd))) rfl rfl rfl rfl (fun v => eqlDr _ _ m.d dd v) ?_;simp only [pu,pn,pv,pw,px];refine vj_valC (u:=.bool (decide (m.d = dd))) (by kernel_rfl) (fun v hv => by kernel_rfl) ?_;simp only [pu,pn,pv,pw,px];refine vj_valC (u:=.bool (decide (m.d = dd))) (by kernel_rfl) (fun v hv => by kernel_rfl) ?_;simp only [pu,pn,pv,pw,px];refine vq_nil (fun v hv => ?_);have BV:=hide (HB.out.trans (hv.mono HB.out.size));clear hv
   go_wp2
   go_ret
   exact ⟨by rw [V.out];rfl,BV.out⟩
  ·have hw' : inR m.nd 0 ((nv : Int) - 1) = false:=by simpa using hw
   have WQ:=hide hw'
   have V : Hid (owB m D = false):=by
    show _ = _
    unfold owB
    rw [hlen,hw']
    simp
   clear hw hw'
   go_enter Tryz.func54,Tryz.ntmps54
   go_upto_region 1 with (refine boxMk rfl (.tmp 1) rfl m _ _ rfl ?_;intro q1 w1 hq1 M1 b1 z1)
   have hB : Below w.heap.size w w1:=(BR.alloc LR _).trans (b1.mono (by simp));have HB:=hide hB;have c0 : w1.cell? ⟨w.heap.size,0,none⟩ = some (.int .i64 f):=(b1.cell (p:=⟨w.heap.size,0,none⟩) (by simp)).trans (by simp);have c1 : w1.cell? ⟨w.heap.size,1,none⟩ = some (.int .i64 r):=(b1.cell (p:=⟨w.heap.size,1,none⟩) (by simp)).trans (by simp)
   have hq2 : q1 = w.heap.size + 1:=by first | exact hq1 | simpa using hq1
   subst hq2;have x1:=M1.cell 1 _ rfl;have x17:=M1.cell 17 _ rfl;have x14:=M1.cell 14 _ rfl;have x15:=M1.cell 15 _ rfl;have hz1 : w.heap.size + 1 < w1.heap.size:=M1.lt;clear M1 b1 z1 hB hq1
   go_wp2_with fail
   have X17:=hide x17;have X1:=hide x1;have X14:=hide x14;have X15:=hide x15;refine vq_start (C:=fun v => Below w1.heap.size w1 v) (by kernel_rfl) (by kernel_rfl) BR.drew ?_;clear x17 x1 x14 x15 c1 c0;refine vj_valC (u:=.pointer (some ⟨w.heap.size + 1,14,none⟩)) rfl (fun v hv => by go_simp) ?_;simp only [pu,pn,pv,pw,px];refine vj_valC (u:=.agg #[.int .u64 m.d.1,.int .u64 m.d.2]) rfl (fun v hv => by have e:=(hv.cell (p:=⟨w.heap.size + 1,14,none⟩) hz1).trans X14.out;have e2:=(hv.cell (p:=⟨w.heap.size + 1,15,none⟩) hz1).trans X15.out;go_simp) ?_;simp only [pu,pn,pv,pw,px];refine vj_valC (u:=.agg #[.int .u64 0,.int .u64 0]) rfl (fun v hv => by go_simp) ?_;simp only [pu,pn,pv,pw,px];refine vj_bin (u:=.bool true) rfl rfl rfl rfl (fun v => (neqDr _ _ m.d (0,0) v).trans (by rw [decide_eq_false hd];rfl)) ?_;simp only [pu,pn,pv,pw,px];refine vj_valC (u:=.bool true) (by kernel_rfl) (fun v hv => by kernel_rfl) ?_;simp only [pu,pn,pv,pw,px];refine vj_valC (u:=.pointer (some ⟨w.heap.size + 1,1,none⟩)) rfl (fun v hv => by go_simp) ?_;simp only [pu,pn,pv,pw,px];refine vj_valC (u:=.int .i64 m.nd) rfl (fun v hv => by have e:=(hv.cell (p:=⟨w.heap.size + 1,1,none⟩) hz1).trans X1.out;go_simp) ?_;simp only [pu,pn,pv,pw,px];refine vj_valC (u:=.pointer (some ⟨w.heap.size + 1,17,none⟩)) rfl (fun v hv => by go_simp) ?_;simp only [pu,pn,pv,pw,px];refine vj_valC (u:=.slice a2 nv cv) rfl (fun v hv => by have e:=(hv.cell (p:=⟨w.heap.size + 1,17,none⟩) hz1).trans X17.out;go_simp) ?_;simp only [pu,pn,pv,pw,px];refine vj_valC (u:=.int .i64 (nv : Int)) rfl (fun v hv => by go_simp) ?_;simp only [pu,pn,pv,pw,px];refine vj_valC (u:=.int .i64 ((nv : Int) - 1)) rfl (fun v hv => by have e:=wrp;go_simp;try exact e) ?_;simp only [pu,pn,pv,pw,px];refine vj_call (u:=.bool false) (fid:=82) (args:=#[.int .i64 m.nd,.int .i64 0,.int .i64 ((nv : Int) - 1)]) rfl (fun v => by unfold execOp;simp only [resolve,invoke,Sem.run_bind,LA,LB,LC];rfl) (fun v hv => (withinM_any m.nd 0 ((nv : Int) - 1) v).mono (fun e v' h => ⟨h.1.trans (by rw [WQ.out]),by rw [h.2];exact hv⟩)) ?_;simp only [pu,pn,pv,pw,px];refine vj_valC (u:=.bool false) (by kernel_rfl) (fun v hv => by kernel_rfl) ?_;simp only [pu,pn,pv,pw,px];refine vj_valC (u:=.bool false) (by kernel_rfl) (fun v hv => by kernel_rfl) ?_;simp only [pu,pn,pv,pw,px];refine vj_skip (by kernel_rfl) ?_;simp only [pu,pn,pv,pw,px];refine vj_skip (by kernel_rfl) ?_;simp only [pu,pn,pv,pw,px];refine vj_skip (by kernel_rfl) ?_;simp only [pu,pn,pv,pw,px];refine vj_skip (by kernel_rfl) ?_;simp only [pu,pn,pv,pw,px];refine vj_skip (by kernel_rfl) ?_;simp only [pu,pn,pv,pw,px];refine vj_skip (by kernel_rfl) ?_;simp only [pu,pn,pv,pw,px];refine vj_skip (by kernel_rfl) ?_;simp only [pu,pn,pv,pw,px];refine vj_skip (by kernel_rfl) ?_;simp only [pu,pn,pv,pw,px];refine vj_skip (by kernel_rfl) ?_;simp only [pu,pn,pv,pw,px];refine vj_valC (u:=.bool false) (by kernel_rfl) (fun v hv => by kernel_rfl) ?_;simp only [pu,pn,pv,pw,px];refine vj_valC (u:=.bool false) (by kernel_rfl) (fun v hv => by kernel_rfl) ?_;simp only [pu,pn,pv,pw,px];refine vq_nil (fun v hv => ?_);have BV:=hide (HB.out.trans (hv.mono HB.out.size));clear hv
   go_wp2
   go_ret
   exact ⟨by rw [V.out];rfl,BV.out⟩
def keepB (f r : Int) (m : Mg) (L : List En) (D : List (Int × Int)) (j : Nat) (q : Nat) : Bool :=
 match q with
 | 0 => blB m L.length D.length j
 | 1 => inR m.nd 0 (2 * f)
 | 2 => prB f m
 | 3 => inR m.vw 0 4294967296
 | 4 => inR m.vw 1 4294967296
 | 5 => decide (0 ≤ m.ls) && decide (m.ls < m.vw)
 | 6 => inR m.p 0 r
 | 7 => inR m.p 1 r
 | 8 => apB m.p m.r.1 r
 | 9 => inR m.cm 0 r
 | 10 => inR m.cm 0 (L.length : Int)
 | 11 => !decide (m.d = (0,0))
 | 12 => owB m D
 | 13 => decide ((chk [m.e] 1).1 = 0)
 | 14 => decide ((chk [m.e] 1).1 = 0) && (decide (m.e.o.k = 3) || decide (m.e.o.k = 4))
 | 15 => nmB m.e
 | 16 => resB m.r.1 m.r.2.1 m.r.2.2
 | 17 => resB m.r.1 m.r.2.1 m.r.2.2 && rdB m.r.1
 | 18 => decide ((chk L r).1 = 0)
 | 19 => plB f r m L
 | 20 => decide ((D.length : Int) = 2 * f + 1)
 | _ => false
theorem keeps_all (f r p : Int) (u : Bool) (m : Mg) (a1 a2 : Option Addr) (cl cv : Nat) (L : List En) (D : List (Int × Int)) (j q : Nat) (hj : j < 10) (hq : q < 21) (w : World) (hf1 : 1 ≤ f) (hf2 : f ≤ 3) (h1 : SlY yE w a1 L.length cl L) (hfit : ∀ e ∈ L,e.fits) (h2 : SlY yD w a2 D.length cv D) (hfe : m.e.fits) :
  Calls Tryz.prog 54 #[.agg #[.int .i64 f,.int .i64 r,.int .i64 p,.bool u],m.val (.slice a1 L.length cl) (.slice a2 D.length cv),.int .i64 (j : Int),.int .u8 (q : Int)] w fun e w' => e = .returned (.bool (keepB f r m L D j q))∧Below w.heap.size w w':=by
 match q,hq with
 | 0,_ => exact keeps_0 f r p u m a1 a2 _ cl _ cv j w hf1 hf2 hj
 | 1,_ => exact keeps_ks f r p u m a1 a2 _ cl _ cv _ w hf1 hf2 _ _ (.inl ⟨rfl,rfl⟩)
 | 2,_ => exact keeps_2 f r p u m a1 a2 _ cl _ cv _ w hf1 hf2
 | 3,_ => exact keeps_ks f r p u m a1 a2 _ cl _ cv _ w hf1 hf2 _ _ (.inr <| .inl ⟨rfl,rfl⟩)
 | 4,_ => exact keeps_ks f r p u m a1 a2 _ cl _ cv _ w hf1 hf2 _ _ (.inr <| .inr <| .inl ⟨rfl,rfl⟩)
 | 5,_ => exact keeps_5 f r p u m a1 a2 _ cl _ cv _ w hf1 hf2
 | 6,_ => exact keeps_ks f r p u m a1 a2 _ cl _ cv _ w hf1 hf2 _ _ (.inr <| .inr <| .inr <| .inl ⟨rfl,rfl⟩)
 | 7,_ => exact keeps_ks f r p u m a1 a2 _ cl _ cv _ w hf1 hf2 _ _ (.inr <| .inr <| .inr <| .inr <| .inl ⟨rfl,rfl⟩)
 | 8,_ => exact keeps_8 f r p u m a1 a2 _ cl _ cv _ w hf1 hf2
 | 9,_ => exact keeps_ks f r p u m a1 a2 _ cl _ cv _ w hf1 hf2 _ _ (.inr <| .inr <| .inr <| .inr <| .inr <| .inl ⟨rfl,rfl⟩)
 | 10,_ => exact keeps_ks f r p u m a1 a2 _ cl _ cv _ w hf1 hf2 _ _ (.inr <| .inr <| .inr <| .inr <| .inr <| .inr <| ⟨rfl,rfl⟩)
 | 11,_ => exact keeps_11 f r p u m a1 a2 _ cl _ cv _ w hf1 hf2
 | 12,_ => exact keeps_12 f r p u m a1 a2 _ cl _ cv _ w hf1 hf2 D h2
 | 13,_ => exact keeps_13 f r p u m a1 a2 _ cl _ cv _ w hf1 hf2 hfe
 | 14,_ => exact keeps_14 f r p u m a1 a2 _ cl _ cv _ w hf1 hf2 hfe
 | 15,_ => exact keeps_15 f r p u m a1 a2 _ cl _ cv _ w hf1 hf2 hfe
 | 16,_ => exact keeps_16 f r p u m a1 a2 _ cl _ cv _ w hf1 hf2
 | 17,_ => exact keeps_17 f r p u m a1 a2 _ cl _ cv _ w hf1 hf2
 | 18,_ => exact keeps_18 f r p u m a1 a2 _ cl _ cv _ w hf1 hf2 L h1 hfit
 | 19,_ => exact keeps_19 f r p u m a1 a2 _ cl _ cv _ w hf1 hf2 L h1 hfit
 | 20,_ => exact keeps_20 f r p u m a1 a2 _ cl _ cv _ w hf1 hf2
 | (n + 21),hn => exact absurd hn (by omega)
def tabR : List (List Nat):=[[0,0,0,0,0,0,0,0,0,0],[0,0,0,0,0,0,13,0,0,0],[1,3,0,8,0,0,15,16,0,0],[2,3,0,7,9,0,13,0,0,20],[1,3,0,6,0,0,0,0,0,20],[2,3,0,0,9,0,0,0,0,20],[1,4,0,0,0,0,0,0,0,20],[1,4,5,0,10,0,0,0,18,20],[2,4,0,0,10,0,0,0,18,20],[1,0,0,0,0,12,0,0,0,20],[1,3,0,0,10,11,0,0,19,20],[1,3,0,0,0,0,0,0,0,20],[1,3,0,0,10,0,0,0,18,20],[0,0,0,6,0,0,14,0,0,0],[1,3,0,0,9,0,15,17,0,0]]
def tabA (k j : Nat) : Nat:=((tabR[k]?).getD []).getD j 0
theorem tabA_lt : ∀ k,k < 15 → ∀ j,j < 10 → tabA k j < 21:=by decide
def ckM (c : Cf) (m : Mg) (L : List En) (D : List (Int × Int)) : Int:=if cfB c = false then 1 else if kdB m.k = false then 70 else if (List.range 10).all (fun j => keepB c.f c.r m L D j (tabA m.k.toNat j)) then 0 else 71
structure Tab (w : World) : Prop where
 lt : 0 < w.heap.size
 cell : ∀ k j,k < 15 → j < 10 → w.cell? ⟨0,k * 10 + j,none⟩ = some (.int .u8 (tabA k j : Int))
theorem Tab.later {w w' : World} (h : Tab w) {B : Nat} (hb : Below B w w') (hB : 0 < B) : Tab w' :=
 ⟨Nat.lt_of_lt_of_le h.lt hb.size,fun k j hk hj => (hb.cell (p:=⟨0,k * 10 + j,none⟩) hB).trans (h.cell k j hk hj)⟩
theorem cfB_f {c : Cf} (h : cfB c = true) : 1 ≤ c.f∧c.f ≤ 3:=by
 unfold cfB inR at h
 simp at h
 omega
theorem rowIx0 (v0 v1 v2 v3 v4 v5 v6 v7 v8 v9 : Int) (w : World) : Sem.run Tryz.prog (Instr.index 96 (.agg #[.int .u8 v0,.int .u8 v1,.int .u8 v2,.int .u8 v3,.int .u8 v4,.int .u8 v5,.int .u8 v6,.int .u8 v7,.int .u8 v8,.int .u8 v9]) (.int .i64 0)) w = .ok (.int .u8 v0) w:=by kernel_rfl
theorem rowIx1 (v0 v1 v2 v3 v4 v5 v6 v7 v8 v9 : Int) (w : World) : Sem.run Tryz.prog (Instr.index 96 (.agg #[.int .u8 v0,.int .u8 v1,.int .u8 v2,.int .u8 v3,.int .u8 v4,.int .u8 v5,.int .u8 v6,.int .u8 v7,.int .u8 v8,.int .u8 v9]) (.int .i64 1)) w = .ok (.int .u8 v1) w:=by kernel_rfl
theorem rowIx2 (v0 v1 v2 v3 v4 v5 v6 v7 v8 v9 : Int) (w : World) : Sem.run Tryz.prog (Instr.index 96 (.agg #[.int .u8 v0,.int .u8 v1,.int .u8 v2,.int .u8 v3,.int .u8 v4,.int .u8 v5,.int .u8 v6,.int .u8 v7,.int .u8 v8,.int .u8 v9]) (.int .i64 2)) w = .ok (.int .u8 v2) w:=by kernel_rfl
theorem rowIx3 (v0 v1 v2 v3 v4 v5 v6 v7 v8 v9 : Int) (w : World) : Sem.run Tryz.prog (Instr.index 96 (.agg #[.int .u8 v0,.int .u8 v1,.int .u8 v2,.int .u8 v3,.int .u8 v4,.int .u8 v5,.int .u8 v6,.int .u8 v7,.int .u8 v8,.int .u8 v9]) (.int .i64 3)) w = .ok (.int .u8 v3) w:=by kernel_rfl
theorem rowIx4 (v0 v1 v2 v3 v4 v5 v6 v7 v8 v9 : Int) (w : World) : Sem.run Tryz.prog (Instr.index 96 (.agg #[.int .u8 v0,.int .u8 v1,.int .u8 v2,.int .u8 v3,.int .u8 v4,.int .u8 v5,.int .u8 v6,.int .u8 v7,.int .u8 v8,.int .u8 v9]) (.int .i64 4)) w = .ok (.int .u8 v4) w:=by kernel_rfl
theorem rowIx5 (v0 v1 v2 v3 v4 v5 v6 v7 v8 v9 : Int) (w : World) : Sem.run Tryz.prog (Instr.index 96 (.agg #[.int .u8 v0,.int .u8 v1,.int .u8 v2,.int .u8 v3,.int .u8 v4,.int .u8 v5,.int .u8 v6,.int .u8 v7,.int .u8 v8,.int .u8 v9]) (.int .i64 5)) w = .ok (.int .u8 v5) w:=by kernel_rfl
theorem rowIx6 (v0 v1 v2 v3 v4 v5 v6 v7 v8 v9 : Int) (w : World) : Sem.run Tryz.prog (Instr.index 96 (.agg #[.int .u8 v0,.int .u8 v1,.int .u8 v2,.int .u8 v3,.int .u8 v4,.int .u8 v5,.int .u8 v6,.int .u8 v7,.int .u8 v8,.int .u8 v9]) (.int .i64 6)) w = .ok (.int .u8 v6) w:=by kernel_rfl
theorem rowIx7 (v0 v1 v2 v3 v4 v5 v6 v7 v8 v9 : Int) (w : World) : Sem.run Tryz.prog (Instr.index 96 (.agg #[.int .u8 v0,.int .u8 v1,.int .u8 v2,.int .u8 v3,.int .u8 v4,.int .u8 v5,.int .u8 v6,.int .u8 v7,.int .u8 v8,.int .u8 v9]) (.int .i64 7)) w = .ok (.int .u8 v7) w:=by kernel_rfl
theorem rowIx8 (v0 v1 v2 v3 v4 v5 v6 v7 v8 v9 : Int) (w : World) : Sem.run Tryz.prog (Instr.index 96 (.agg #[.int .u8 v0,.int .u8 v1,.int .u8 v2,.int .u8 v3,.int .u8 v4,.int .u8 v5,.int .u8 v6,.int .u8 v7,.int .u8 v8,.int .u8 v9]) (.int .i64 8)) w = .ok (.int .u8 v8) w:=by kernel_rfl
theorem rowIx9 (v0 v1 v2 v3 v4 v5 v6 v7 v8 v9 : Int) (w : World) : Sem.run Tryz.prog (Instr.index 96 (.agg #[.int .u8 v0,.int .u8 v1,.int .u8 v2,.int .u8 v3,.int .u8 v4,.int .u8 v5,.int .u8 v6,.int .u8 v7,.int .u8 v8,.int .u8 v9]) (.int .i64 9)) w = .ok (.int .u8 v9) w:=by kernel_rfl
theorem rowIx (k j : Nat) (hj : j < 10) (w : World) : Sem.run Tryz.prog (Instr.index 96 (.agg #[.int .u8 (tabA k 0 : Int),.int .u8 (tabA k 1 : Int),.int .u8 (tabA k 2 : Int),.int .u8 (tabA k 3 : Int),.int .u8 (tabA k 4 : Int),.int .u8 (tabA k 5 : Int),.int .u8 (tabA k 6 : Int),.int .u8 (tabA k 7 : Int),.int .u8 (tabA k 8 : Int),.int .u8 (tabA k 9 : Int)]) (.int .i64 (j : Int))) w = .ok (.int .u8 (tabA k j : Int)) w:=by
 match j,hj with
 | 0,_ => exact rowIx0 _ _ _ _ _ _ _ _ _ _ w
 | 1,_ => exact rowIx1 _ _ _ _ _ _ _ _ _ _ w
 | 2,_ => exact rowIx2 _ _ _ _ _ _ _ _ _ _ w
 | 3,_ => exact rowIx3 _ _ _ _ _ _ _ _ _ _ w
 | 4,_ => exact rowIx4 _ _ _ _ _ _ _ _ _ _ w
 | 5,_ => exact rowIx5 _ _ _ _ _ _ _ _ _ _ w
 | 6,_ => exact rowIx6 _ _ _ _ _ _ _ _ _ _ w
 | 7,_ => exact rowIx7 _ _ _ _ _ _ _ _ _ _ w
 | 8,_ => exact rowIx8 _ _ _ _ _ _ _ _ _ _ w
 | 9,_ => exact rowIx9 _ _ _ _ _ _ _ _ _ _ w
theorem checkM_any (c : Cf) (m : Mg) (a1 a2 : Option Addr) (cl cv : Nat) (L : List En) (D : List (Int × Int)) (w : World) (hT : Tab w) (h1 : SlY yE w a1 L.length cl L) (hfit : ∀ e ∈ L,e.fits) (h2 : SlY yD w a2 D.length cv D) (hfe : m.e.fits) :
  Calls Tryz.prog 25 #[c.val,m.val (.slice a1 L.length cl) (.slice a2 D.length cv)] w fun e w' => e = .returned (.int .i64 (ckM c m L D))∧Below w.heap.size w w':=by
 have HT:=hide hT;have H1:=hide h1;have H2:=hide h2;have H0:=hT.lt;clear hT h1 h2;have HC:=hide (fun W => configMayBe_any c W);have HV : Hid (c.val = .agg #[.int .i64 c.f,.int .i64 c.r,.int .i64 c.p,.bool c.u]):=rfl;rw [HV.out] at HC ⊢
 by_cases hc : cfB c = true
 ·obtain ⟨hf1,hf2⟩:=cfB_f hc
  by_cases hk : kdB m.k = true
  ·obtain ⟨k,hkk,hk1,hk2⟩ : ∃ k : Nat,m.k = (k : Int)∧1 ≤ k∧k < 15:=by
    unfold kdB inR at hk
    simp at hk
    exact ⟨m.k.toNat,by omega,by omega,by omega⟩
   have V : Hid (ckM c m L D = if (List.range 10).all (fun j => keepB c.f c.r m L D j (tabA k j)) then 0 else 71):=by
    show _ = _
    unfold ckM
    rw [hc,hk,hkk]
    simp
   have HK:=hide (fun W => isKind_any m.k W);rw [hk,hkk] at HK;rw [hc] at HC;clear hk hc
   go_enter Tryz.func25,Tryz.ntmps25
   go_wp2_with (refine boxMk rfl (.tmp 1) rfl m _ _ rfl ?_;intro q1 w1 hq1 M1 b1 z1;have c0 : w1.cell? ⟨w.heap.size,0,none⟩ = some (.int .i64 c.f):=(b1.cell (p:=⟨w.heap.size,0,none⟩) (by simp)).trans (by simp);have c1 : w1.cell? ⟨w.heap.size,1,none⟩ = some (.int .i64 c.r):=(b1.cell (p:=⟨w.heap.size,1,none⟩) (by simp)).trans (by simp);have c2 : w1.cell? ⟨w.heap.size,2,none⟩ = some (.int .i64 c.p):=(b1.cell (p:=⟨w.heap.size,2,none⟩) (by simp)).trans (by simp);have c3 : w1.cell? ⟨w.heap.size,3,none⟩ = some (.bool c.u):=(b1.cell (p:=⟨w.heap.size,3,none⟩) (by simp)).trans (by simp))
   have hq2 : q1 = w.heap.size + 1:=by first | exact hq1 | simpa using hq1
   subst hq2;have hB1 : Below w.heap.size w w1:=(BR.alloc LR _).trans (b1.mono (by simp));refine (HC.out w1).mono ?_;rintro e w2 ⟨rfl,b2⟩;have hs2 : w1.heap.size ≤ w2.heap.size:=b2.size;have g0:=(b2.cell (p:=⟨w.heap.size,0,none⟩) (by show w.heap.size < w1.heap.size;omega)).trans c0;have g1:=(b2.cell (p:=⟨w.heap.size,1,none⟩) (by show w.heap.size < w1.heap.size;omega)).trans c1;have g2:=(b2.cell (p:=⟨w.heap.size,2,none⟩) (by show w.heap.size < w1.heap.size;omega)).trans c2;have g3:=(b2.cell (p:=⟨w.heap.size,3,none⟩) (by show w.heap.size < w1.heap.size;omega)).trans c3;have M2:=M1.bel b2;have B2:=hide (hB1.trans (b2.mono (by omega)))
   have x0 : w2.cell? ⟨w.heap.size + 1,0,none⟩ = some (.int .i64 (k : Int)):=by rw [← hkk];exact M2.cell 0 _ rfl
   have HM:=hide M2;have HKK:=hide hkk;clear hkk;have hz1:=z1;clear c0 c1 c2 c3 M1 b1 M2 hB1 b2 hq1 z1;have HZ:=hide hz1;have HS2:=hide hs2;clear hz1 hs2
   dsimp only
   go_wp2_with fail
   refine (HK.out _).mono ?_;rintro e w3 ⟨rfl,rfl⟩;have T2:=HT.out.later B2.out H0;have y0 : w3.cell? ⟨0,k * 10,none⟩ = some (.int .u8 (tabA k 0 : Int)):=T2.cell k 0 hk2 (by omega);have y1 : w3.cell? ⟨0,k * 10 + 1,none⟩ = some (.int .u8 (tabA k 1 : Int)):=T2.cell k 1 hk2 (by omega);have y2 : w3.cell? ⟨0,k * 10 + 2,none⟩ = some (.int .u8 (tabA k 2 : Int)):=T2.cell k 2 hk2 (by omega);have y3 : w3.cell? ⟨0,k * 10 + 3,none⟩ = some (.int .u8 (tabA k 3 : Int)):=T2.cell k 3 hk2 (by omega);have y4 : w3.cell? ⟨0,k * 10 + 4,none⟩ = some (.int .u8 (tabA k 4 : Int)):=T2.cell k 4 hk2 (by omega);have y5 : w3.cell? ⟨0,k * 10 + 5,none⟩ = some (.int .u8 (tabA k 5 : Int)):=T2.cell k 5 hk2 (by omega);have y6 : w3.cell? ⟨0,k * 10 + 6,none⟩ = some (.int .u8 (tabA k 6 : Int)):=T2.cell k 6 hk2 (by omega);have y7 : w3.cell? ⟨0,k * 10 + 7,none⟩ = some (.int .u8 (tabA k 7 : Int)):=T2.cell k 7 hk2 (by omega);have y8 : w3.cell? ⟨0,k * 10 + 8,none⟩ = some (.int .u8 (tabA k 8 : Int)):=T2.cell k 8 hk2 (by omega);have y9 : w3.cell? ⟨0,k * 10 + 9,none⟩ = some (.int .u8 (tabA k 9 : Int)):=T2.cell k 9 hk2 (by omega);have HT2:=hide T2;clear T2
   dsimp only
   go_wp2_with fail
   have HMk:=hide hk2;clear hk1 x0 y0 y1 y2 y3 y4 y5 y6 y7 y8 y9
   go_loopw [20] (fun i wr => ∃ j : Nat,i = .int .i64 (j : Int)∧j ≤ 10∧(∀ t,t < j → keepB c.f c.r m L D t (tabA k t) = true)∧Below w.heap.size w wr∧MBox wr (w.heap.size + 1) m (.slice a1 L.length cl) (.slice a2 D.length cv)∧wr.cell? ⟨w.heap.size,0,none⟩ = some (.int .i64 c.f)∧wr.cell? ⟨w.heap.size,1,none⟩ = some (.int .i64 c.r)∧wr.cell? ⟨w.heap.size,2,none⟩ = some (.int .i64 c.p)∧wr.cell? ⟨w.heap.size,3,none⟩ = some (.bool c.u)) (fun i _ => 10 - (intOf i).toNat)
   case atStart => exact ⟨0,rfl,by omega,fun t ht => absurd ht (by omega),B2.out,HM.out,g0,g1,g2,g3⟩
   case round =>
    clear g0 g1 g2 g3 HM B2;obtain ⟨j,rfl,hj,hall,br,mr,r0,r1,r2,r3⟩:=hrel;have HA:=hide hall;have HBr:=hide br;have HMr:=hide mr;clear hall br mr
    by_cases hlt : j < 10
    ·have KA:=hide (keeps_all c.f c.r c.p c.u m a1 a2 cl cv L D j (tabA k j) hlt (tabA_lt k HMk.out j hlt) _ hf1 hf2 (H1.out.later HBr.out) hfit (H2.out.later HBr.out) hfe)
     cases hkp : keepB c.f c.r m L D j (tabA k j)
     ·rw [hkp] at KA
      have N:=hide hkp;clear hkp
      go_wp2_with fail
      rw [rowIx k j hlt]
      go_wp2_with (refine loadM rfl (.tmp 3) rfl (w.heap.size + 1) m _ _ rfl HMr.out ?_)
      refine KA.out.mono ?_;rintro e w5 ⟨rfl,b5⟩;have B5:=hide (HBr.out.trans (b5.mono HBr.out.size));clear b5
      dsimp only
      go_wp2
      go_ret
      refine ⟨?_,B5.out⟩
      rw [V.out,if_neg (fun hh => by
       have:=(List.all_eq_true.1 hh) j (List.mem_range.2 hlt);rw [N.out] at this
       cases this)]
      rfl
     ·rw [hkp] at KA
      have N:=hide hkp;clear hkp
      go_wp2_with fail
      rw [rowIx k j hlt]
      go_wp2_with (refine loadM rfl (.tmp 3) rfl (w.heap.size + 1) m _ _ rfl HMr.out ?_)
      refine KA.out.mono ?_;rintro e w5 ⟨rfl,b5⟩;have l1:=HMr.out.lt;have B5:=hide (HBr.out.trans (b5.mono HBr.out.size));have M5:=hide (HMr.out.bel b5);have s0:=hide ((b5.cell (p:=⟨w.heap.size,0,none⟩) (Nat.lt_of_succ_lt l1)).trans r0);have s1:=hide ((b5.cell (p:=⟨w.heap.size,1,none⟩) (Nat.lt_of_succ_lt l1)).trans r1);have s2:=hide ((b5.cell (p:=⟨w.heap.size,2,none⟩) (Nat.lt_of_succ_lt l1)).trans r2);have s3:=hide ((b5.cell (p:=⟨w.heap.size,3,none⟩) (Nat.lt_of_succ_lt l1)).trans r3);clear b5 l1
      dsimp only
      go_wp2
      go_round
      case rel => exact ⟨j + 1,by go_num,by omega,fun t ht => by
       rcases Nat.lt_succ_iff_lt_or_eq.1 ht with h | h
       ·exact HA.out t h
       ·subst h;exact N.out,B5.out,M5.out,s0.out,s1.out,s2.out,s3.out⟩
      case measure => simp [intOf];omega
    ·have hj10 : j = 10:=by omega
     subst hj10
     go_wp2
     go_ret
     refine ⟨?_,HBr.out⟩;rw [V.out,if_pos (List.all_eq_true.2 (fun t ht => HA.out t (List.mem_range.1 ht)))]
     rfl
  ·have hk0 : kdB m.k = false:=by simpa using hk
   have V : Hid (ckM c m L D = 70):=by
    show _ = _
    unfold ckM
    rw [hc,hk0]
    simp
   have HK:=hide (fun W => isKind_any m.k W);rw [hk0] at HK;rw [hc] at HC;clear hk hc hk0
   go_enter Tryz.func25,Tryz.ntmps25
   go_wp2_with (refine boxMk rfl (.tmp 1) rfl m _ _ rfl ?_;intro q1 w1 hq1 M1 b1 z1;have c0 : w1.cell? ⟨w.heap.size,0,none⟩ = some (.int .i64 c.f):=(b1.cell (p:=⟨w.heap.size,0,none⟩) (by simp)).trans (by simp);have c1 : w1.cell? ⟨w.heap.size,1,none⟩ = some (.int .i64 c.r):=(b1.cell (p:=⟨w.heap.size,1,none⟩) (by simp)).trans (by simp);have c2 : w1.cell? ⟨w.heap.size,2,none⟩ = some (.int .i64 c.p):=(b1.cell (p:=⟨w.heap.size,2,none⟩) (by simp)).trans (by simp);have c3 : w1.cell? ⟨w.heap.size,3,none⟩ = some (.bool c.u):=(b1.cell (p:=⟨w.heap.size,3,none⟩) (by simp)).trans (by simp))
   have hq2 : q1 = w.heap.size + 1:=by first | exact hq1 | simpa using hq1
   subst hq2;have hB1 : Below w.heap.size w w1:=(BR.alloc LR _).trans (b1.mono (by simp));refine (HC.out w1).mono ?_;rintro e w2 ⟨rfl,b2⟩;have hs2 : w1.heap.size ≤ w2.heap.size:=b2.size;have g0:=(b2.cell (p:=⟨w.heap.size,0,none⟩) (by show w.heap.size < w1.heap.size;omega)).trans c0;have g1:=(b2.cell (p:=⟨w.heap.size,1,none⟩) (by show w.heap.size < w1.heap.size;omega)).trans c1;have g2:=(b2.cell (p:=⟨w.heap.size,2,none⟩) (by show w.heap.size < w1.heap.size;omega)).trans c2;have g3:=(b2.cell (p:=⟨w.heap.size,3,none⟩) (by show w.heap.size < w1.heap.size;omega)).trans c3;have M2:=M1.bel b2;have B2:=hide (hB1.trans (b2.mono (by omega)));have x0:=M2.cell 0 _ rfl;have HM:=hide M2;have hz1:=z1;clear c0 c1 c2 c3 M1 b1 M2 hB1 b2 hq1 z1;have HZ:=hide hz1;have HS2:=hide hs2;clear hz1 hs2
   dsimp only
   go_wp2_with fail
   refine (HK.out _).mono ?_;rintro e w3 ⟨rfl,rfl⟩
   dsimp only
   go_wp2
   go_ret
   exact ⟨by rw [V.out];rfl,B2.out⟩
 ·have hc0 : cfB c = false:=by simpa using hc
  have V : Hid (ckM c m L D = 1):=by
   show _ = _
   unfold ckM
   rw [hc0]
   simp
  rw [hc0] at HC;clear hc hc0
  go_enter Tryz.func25,Tryz.ntmps25
  go_wp2_with (refine boxMk rfl (.tmp 1) rfl m _ _ rfl ?_;intro q1 w1 hq1 M1 b1 z1;have c0 : w1.cell? ⟨w.heap.size,0,none⟩ = some (.int .i64 c.f):=(b1.cell (p:=⟨w.heap.size,0,none⟩) (by simp)).trans (by simp);have c1 : w1.cell? ⟨w.heap.size,1,none⟩ = some (.int .i64 c.r):=(b1.cell (p:=⟨w.heap.size,1,none⟩) (by simp)).trans (by simp);have c2 : w1.cell? ⟨w.heap.size,2,none⟩ = some (.int .i64 c.p):=(b1.cell (p:=⟨w.heap.size,2,none⟩) (by simp)).trans (by simp);have c3 : w1.cell? ⟨w.heap.size,3,none⟩ = some (.bool c.u):=(b1.cell (p:=⟨w.heap.size,3,none⟩) (by simp)).trans (by simp))
  have hq2 : q1 = w.heap.size + 1:=by first | exact hq1 | simpa using hq1
  subst hq2;have hB1 : Below w.heap.size w w1:=(BR.alloc LR _).trans (b1.mono (by simp));refine (HC.out w1).mono ?_;rintro e w2 ⟨rfl,b2⟩;have hs2 : w1.heap.size ≤ w2.heap.size:=b2.size;have g0:=(b2.cell (p:=⟨w.heap.size,0,none⟩) (by show w.heap.size < w1.heap.size;omega)).trans c0;have g1:=(b2.cell (p:=⟨w.heap.size,1,none⟩) (by show w.heap.size < w1.heap.size;omega)).trans c1;have g2:=(b2.cell (p:=⟨w.heap.size,2,none⟩) (by show w.heap.size < w1.heap.size;omega)).trans c2;have g3:=(b2.cell (p:=⟨w.heap.size,3,none⟩) (by show w.heap.size < w1.heap.size;omega)).trans c3;have M2:=M1.bel b2;have B2:=hide (hB1.trans (b2.mono (by omega)));have x0:=M2.cell 0 _ rfl;have HM:=hide M2;have hz1:=z1;clear c0 c1 c2 c3 M1 b1 M2 hB1 b2 hq1 z1;have HZ:=hide hz1;have HS2:=hide hs2;clear hz1 hs2
  dsimp only
  go_wp2
  go_ret
  exact ⟨by rw [V.out];rfl,B2.out⟩
end Go.Proofs.YtpcgnjpodnebpaaGreatDoor
