import Derived.Deep.RegionHeld3
import Derived.Test.YtgncpcfncojgoaaGreatDoorF1
set_option maxRecDepth 100000
set_option linter.unusedVariables false
set_option linter.unusedSimpArgs false
namespace Go.Proofs.YtgncpcfncojgoaaGreatDoor
open Go.RowKit Go.Maps
open Classical
def An.mb (x : An) (n r : Int) : Bool:=(vmb x.v && lmb x.s.D x.c r) && (decide (x.s.D = []) || decide (x.n = x.v % n))
def An.ckl (c : Cg) (self : Int) : Int → List An → Bool
 | _,[] => true
 | least,x :: r => if x.n < least ∨ 2 * c.F + 1 ≤ x.n ∨ x.n = self ∨ An.mb x (2 * c.F + 1) c.R = false then false else An.ckl c self (x.n + 1) r
def An.ck (c : Cg) (self : Int) (L : List An) : Int:=if c.ok = false then 1 else if An.ckl c self 0 L = true then 0 else 80
set_option maxHeartbeats 2000000 in
theorem An.check_any (c : Cg) (self : Int) (L : List An) (a : Option Addr) (n k : Nat) (w : World) (h : SlY yAnV w a n k L) (hlogs : ∀ x ∈ L,x.In w∧∀ e ∈ x.s.D,e.fits) :
  Calls Tryz.prog 204 #[c.val,.int .i64 self,.slice a n k] w fun e w' => e = .returned (.int .i64 (An.ck c self L))∧Below w.heap.size w w':=by
 have hmx:=h.max;have hcp:=h.cap;have hln:=h.len
 unfold maxLen at hmx
 have H:=hide h;have HN:=hide hln;have HL:=hide hlogs;clear h hln hlogs;have B0 : Hid (Below w.heap.size w (w.alloc (.cells #[.int .i64 c.F,.int .i64 c.R,.int .i64 c.P,.bool c.u] 23))):=(Below.refl _ w).alloc (Nat.le_refl _) _;have cc:=hide (fun W => configMayBe_any8 c W)
 unfold Cg.val at cc
 have HCK : Hid (An.ck c self L = if c.ok = false then 1 else if An.ckl c self 0 L = true then 0 else 80):=rfl
 generalize An.ck c self L = CK at *
 show Calls Tryz.prog 204 #[.agg #[.int .i64 c.F,.int .i64 c.R,.int .i64 c.P,.bool c.u],.int .i64 self,.slice a n k] w _
 go_enter Tryz.func204,Tryz.ntmps204
 go_wp2_with fail
 refine (cc.out _).mono ?_;rintro e w1 ⟨rfl,b1⟩
 dsimp only
 have hz1 : w.heap.size + 1 ≤ w1.heap.size:=by have:=b1.size;simpa using this
 have D1 : Hid (Below (w.heap.size + 1) (w.alloc (.cells #[.int .i64 c.F,.int .i64 c.R,.int .i64 c.P,.bool c.u] 23)) w1):=by show Below _ _ _;simpa using b1
 clear b1 cc
 have KC : Hid (∀ v,Below (w.heap.size + 1) w1 v → v.cell? ⟨w.heap.size,0,none⟩ = some (.int .i64 c.F)∧v.cell? ⟨w.heap.size,1,none⟩ = some (.int .i64 c.R)):=fun v hv =>
  ⟨((D1.out.trans hv).cell (p:=⟨w.heap.size,0,none⟩) (by simp)).trans (by simp),((D1.out.trans hv).cell (p:=⟨w.heap.size,1,none⟩) (by simp)).trans (by simp)⟩
 have E1:=hide (B0.out.trans (D1.out.mono (by omega)))
 by_cases hk : c.ok = true
 ·have hF : 1 ≤ c.F∧c.F ≤ 3∧1 ≤ c.R∧c.R ≤ 256:=of_decide_eq_true hk
  obtain ⟨hF1,hF3,_,_⟩:=hF
  have HC2 : Hid (CK = if An.ckl c self 0 (L.drop 0) = true then 0 else 80):=by show _ = _;rw [HCK.out,hk,if_neg (by simp)];rfl
  rw [hk];clear HCK hk
  have hw1 : IntKind.i64.wrap (2 * c.F) = 2 * c.F:=by rw [IntKind.wrap_i64];omega
  have hw2 : IntKind.i64.wrap (2 * c.F + 1) = 2 * c.F + 1:=by rw [IntKind.wrap_i64];omega
  obtain ⟨k0,k1⟩:=KC.out w1 (Below.refl _ _)
  go_wp2
  go_loopw [20,8] (fun i l wr => ∃ (j : Nat) (l' : Int),i = .int .i64 (j : Int)∧j ≤ n∧l = .int .i64 l'∧(0 ≤ l'∧l' ≤ 8)∧Hid (CK = if An.ckl c self l' (L.drop j) = true then 0 else 80)∧Hid (Below (w.heap.size + 1) w1 wr)) (fun i _ _ => n - (intOf i).toNat)
  case atStart => exact ⟨0,0,rfl,Nat.zero_le _,rfl,⟨Int.le_refl _,by omega⟩,HC2,Below.refl _ _⟩
  case round =>
   obtain ⟨j,l',rfl,hj,rfl,⟨hl0,hl8⟩,hCK,hbl⟩:=hrel
   have zr : w.heap.size + 1 ≤ wr.heap.size:=by have:=hbl.out.size;omega
   by_cases hlt : j < n
   ·have hjl : j < L.length:=by rw [HN.out];exact hlt
    have hg : L[j]? = some L[j]:=List.getElem?_eq_getElem hjl;obtain ⟨q,o,ea,hq,y0,y1,y2,y3,y4,y5⟩:=(H.out.later (E1.out.trans (hbl.out.mono (by omega)))).AnV hg
    cases ea
    have hCK1 : Hid (CK = if (if L[j].n < l' ∨ 2 * c.F + 1 ≤ L[j].n ∨ L[j].n = self ∨ An.mb L[j] (2 * c.F + 1) c.R = false then false else An.ckl c self (L[j].n + 1) (L.drop (j + 1))) = true then 0 else 80):=by
     show _ = _
     rw [hCK.out,List.drop_eq_getElem_cons hjl,An.ckl]
    have HX : Hid (L[j].In w∧∀ e ∈ L[j].s.D,e.fits):=HL.out _ (List.getElem_mem hjl);clear hg hCK
    generalize L[j] = x at *
    have KX : Hid (∀ v,Below (wr.heap.size + 1) (wr.alloc (.cells #[.int .i64 x.n,.int .u64 x.h,.int .u64 x.l,.int .i64 x.v,.int .i64 x.c,.slice x.s.a x.s.D.length x.s.c] 255)) v → (v.cell? ⟨wr.heap.size,0,none⟩ = some (.int .i64 x.n)∧v.cell? ⟨wr.heap.size,1,none⟩ = some (.int .u64 x.h)∧v.cell? ⟨wr.heap.size,2,none⟩ = some (.int .u64 x.l)∧v.cell? ⟨wr.heap.size,3,none⟩ = some (.int .i64 x.v)∧v.cell? ⟨wr.heap.size,4,none⟩ = some (.int .i64 x.c)∧v.cell? ⟨wr.heap.size,5,none⟩ = some (.slice x.s.a x.s.D.length x.s.c))∧(v.cell? ⟨w.heap.size,0,none⟩ = some (.int .i64 c.F)∧v.cell? ⟨w.heap.size,1,none⟩ = some (.int .i64 c.R))):=fun v hv =>
     ⟨⟨(hv.cell (p:=⟨wr.heap.size,0,none⟩) (by simp)).trans (by simp),(hv.cell (p:=⟨wr.heap.size,1,none⟩) (by simp)).trans (by simp),(hv.cell (p:=⟨wr.heap.size,2,none⟩) (by simp)).trans (by simp),(hv.cell (p:=⟨wr.heap.size,3,none⟩) (by simp)).trans (by simp),(hv.cell (p:=⟨wr.heap.size,4,none⟩) (by simp)).trans (by simp),(hv.cell (p:=⟨wr.heap.size,5,none⟩) (by simp)).trans (by simp)⟩,KC.out v ((hbl.out.alloc zr _).trans (hv.mono (by omega)))⟩
    have hza : Hid ((wr.alloc (.cells #[.int .i64 x.n,.int .u64 x.h,.int .u64 x.l,.int .i64 x.v,.int .i64 x.c,.slice x.s.a x.s.D.length x.s.c] 255)).heap.size = wr.heap.size + 1):=by show _ = _;simp
    have D0 : Hid (Below (wr.heap.size + 1) (wr.alloc (.cells #[.int .i64 x.n,.int .u64 x.h,.int .u64 x.l,.int .i64 x.v,.int .i64 x.c,.slice x.s.a x.s.D.length x.s.c] 255)) (wr.alloc (.cells #[.int .i64 x.n,.int .u64 x.h,.int .u64 x.l,.int .i64 x.v,.int .i64 x.c,.slice x.s.a x.s.D.length x.s.c] 255))):=Below.refl _ _;have EB : Hid (Below (w.heap.size + 1) w1 (wr.alloc (.cells #[.int .i64 x.n,.int .u64 x.h,.int .u64 x.l,.int .i64 x.v,.int .i64 x.c,.slice x.s.a x.s.D.length x.s.c] 255))):=hbl.out.alloc zr _;have EE:=hide (E1.out.trans (EB.out.mono (by omega)));have cn:=hide (fun W => x.node_any W)
    unfold An.val at cn
    have cm:=hide (fun W (hW : Below w.heap.size w W) => x.may_any (2 * c.F + 1) c.R W (HX.out.1.later hW) HX.out.2 (by omega) (by omega))
    unfold An.val at cm
    obtain ⟨k0,k1⟩:=KC.out _ EB.out
    go_wp2_with fail
    refine (cn.out _).mono ?_;rintro e w2 ⟨rfl,bb⟩;have D2:=hide (D0.out.trans (bb.mono (by have:=D0.out.size;have h2:=hza.out;omega)));clear bb y0 y1 y2 y3 y4 y5 k0 k1;obtain ⟨⟨y0,y1,y2,y3,y4,y5⟩,⟨k0,k1⟩⟩:=KX.out w2 D2.out
    dsimp only
    by_cases h1 : x.n < l'
    ·have hCK2 : Hid (CK = 80):=by show _ = _;rw [hCK1.out,if_pos (c:=x.n < l' ∨ 2 * c.F + 1 ≤ x.n ∨ x.n = self ∨ An.mb x (2 * c.F + 1) c.R = false) (.inl h1)];rfl
     clear hCK1
     go_wp2
     go_ret
     exact ⟨by rw [hCK2.out];rfl,EE.out.trans (D2.out.mono (by omega))⟩
    ·go_wp2_with fail
     refine (cn.out _).mono ?_;rintro e w3 ⟨rfl,bb⟩;have D3:=hide (D2.out.trans (bb.mono (by have:=D2.out.size;have h2:=hza.out;omega)));clear bb y0 y1 y2 y3 y4 y5 k0 k1;obtain ⟨⟨y0,y1,y2,y3,y4,y5⟩,⟨k0,k1⟩⟩:=KX.out w3 D3.out
     dsimp only
     by_cases h2 : 2 * c.F + 1 ≤ x.n
     ·have hCK2 : Hid (CK = 80):=by show _ = _;rw [hCK1.out,if_pos (c:=x.n < l' ∨ 2 * c.F + 1 ≤ x.n ∨ x.n = self ∨ An.mb x (2 * c.F + 1) c.R = false) (.inr (.inl h2))];rfl
      clear hCK1
      go_wp2
      go_ret
      exact ⟨by rw [hCK2.out];rfl,EE.out.trans (D3.out.mono (by omega))⟩
     ·go_wp2_with fail
      refine (cn.out _).mono ?_;rintro e w4 ⟨rfl,bb⟩;have D4:=hide (D3.out.trans (bb.mono (by have:=D3.out.size;have h2:=hza.out;omega)));clear bb y0 y1 y2 y3 y4 y5 k0 k1;obtain ⟨⟨y0,y1,y2,y3,y4,y5⟩,⟨k0,k1⟩⟩:=KX.out w4 D4.out
      dsimp only
      by_cases h3 : x.n = self
      ·have h3b : (x.n == self) = true:=by simp [h3]
       have H3:=hide h3;clear h3
       have hCK2 : Hid (CK = 80):=by show _ = _;rw [hCK1.out,if_pos (c:=x.n < l' ∨ 2 * c.F + 1 ≤ x.n ∨ x.n = self ∨ An.mb x (2 * c.F + 1) c.R = false) (.inr (.inr (.inl H3.out)))];rfl
       clear hCK1
       go_wp2
       go_ret
       exact ⟨by rw [hCK2.out];rfl,EE.out.trans (D4.out.mono (by omega))⟩
      ·have h3b : (x.n == self) = false:=by simp [h3]
       go_wp2_with fail
       refine (cm.out _ (EE.out.trans (D4.out.mono (by omega)))).mono ?_;rintro e w5 ⟨rfl,bb⟩;have D5:=hide (D4.out.trans (bb.mono (by have:=D4.out.size;have h2:=hza.out;omega)));clear bb y0 y1 y2 y3 y4 y5 k0 k1;obtain ⟨⟨y0,y1,y2,y3,y4,y5⟩,⟨k0,k1⟩⟩:=KX.out w5 D5.out
       dsimp only
       cases hmb : An.mb x (2 * c.F + 1) c.R with
       | false =>
        have hCK2 : Hid (CK = 80):=by show _ = _;rw [hCK1.out,if_pos (c:=x.n < l' ∨ 2 * c.F + 1 ≤ x.n ∨ x.n = self ∨ An.mb x (2 * c.F + 1) c.R = false) (.inr (.inr (.inr hmb)))];rfl
        clear hCK1
        go_wp2
        go_ret
        exact ⟨by rw [hCK2.out];rfl,EE.out.trans (D5.out.mono (by omega))⟩
       | true =>
        have hCK2 : Hid (CK = if An.ckl c self (x.n + 1) (L.drop (j + 1)) = true then 0 else 80):=by
         show _ = _
         have hno : ¬ (x.n < l' ∨ 2 * c.F + 1 ≤ x.n ∨ x.n = self ∨ An.mb x (2 * c.F + 1) c.R = false):=by
          rintro (hc | hc | hc | hc)
          ·omega
          ·omega
          ·exact h3 hc
          ·rw [hmb] at hc;cases hc
         rw [hCK1.out,if_neg hno]
        have hw3 : IntKind.i64.wrap (x.n + 1) = x.n + 1:=by rw [IntKind.wrap_i64];omega
        clear hCK1 hmb
        go_wp2_with fail
        refine (cn.out _).mono ?_;rintro e w6 ⟨rfl,bb⟩;have D6:=hide (D5.out.trans (bb.mono (by have:=D5.out.size;have h2:=hza.out;omega)));clear bb y0 y1 y2 y3 y4 y5 k0 k1;obtain ⟨⟨y0,y1,y2,y3,y4,y5⟩,⟨k0,k1⟩⟩:=KX.out w6 D6.out
        dsimp only
        go_wp2
        go_round
        case rel => exact ⟨j + 1,x.n + 1,by go_num,by omega,rfl,⟨by omega,by omega⟩,hCK2,EB.out.trans (D6.out.mono (by omega))⟩
        case measure => first | (simp [intOf];done) | (simp [intOf];omega)
   ·obtain rfl : j = n:=by omega
    have hCK1 : Hid (CK = 0):=by show _ = _;rw [hCK.out,List.drop_of_length_le (by rw [HN.out];exact Nat.le_refl _),An.ckl,if_pos rfl]
    clear hCK
    go_wp2
    go_ret
    exact ⟨by rw [hCK1.out];rfl,E1.out.trans (hbl.out.mono (by omega))⟩
 ·have hk2 : c.ok = false:=by simpa using hk
  have hCK1 : Hid (CK = 1):=by show _ = _;rw [HCK.out,if_pos hk2]
  rw [hk2];clear HCK
  go_wp2
  go_ret
  exact ⟨by rw [hCK1.out];rfl,E1.out⟩
set_option maxHeartbeats 1000000 in
theorem An.Check_any (c : Cg) (self : Int) (L : List An) (a : Option Addr) (n k : Nat) (w : World) (h : SlY yAnA w a n k L) (hb : n * 64 ≤ 281474976710656) (hlogs : ∀ x ∈ L,x.In w∧∀ e ∈ x.s.D,e.fits) :
  Calls Tryz.prog 168 #[c.val,.int .i64 self,.slice a n k] w fun e w' => e = .returned (.int .i64 (An.ck c self L))∧Below w.heap.size w w':=by
 have B0 : Hid (Below w.heap.size w (w.alloc (.cells #[.int .i64 c.F,.int .i64 c.R,.int .i64 c.P,.bool c.u] 23))):=(Below.refl _ w).alloc (Nat.le_refl _) _
 have hwz : Hid ((w.alloc (.cells #[.int .i64 c.F,.int .i64 c.R,.int .i64 c.P,.bool c.u] 23)).heap.size = w.heap.size + 1):=by show _ = _;simp
 have KC : Hid (∀ v,Below (w.heap.size + 1) (w.alloc (.cells #[.int .i64 c.F,.int .i64 c.R,.int .i64 c.P,.bool c.u] 23)) v → v.cell? ⟨w.heap.size,0,none⟩ = some (.int .i64 c.F)∧v.cell? ⟨w.heap.size,1,none⟩ = some (.int .i64 c.R)∧v.cell? ⟨w.heap.size,2,none⟩ = some (.int .i64 c.P)∧v.cell? ⟨w.heap.size,3,none⟩ = some (.bool c.u)):=fun v hv =>
  ⟨(hv.cell (p:=⟨w.heap.size,0,none⟩) (by simp)).trans (by simp),(hv.cell (p:=⟨w.heap.size,1,none⟩) (by simp)).trans (by simp),(hv.cell (p:=⟨w.heap.size,2,none⟩) (by simp)).trans (by simp),(hv.cell (p:=⟨w.heap.size,3,none⟩) (by simp)).trans (by simp)⟩
 have H:=hide h;clear h;have ck:=hide (fun W (hW : Below w.heap.size w W) a' n' k' (hs : SlY yAnV W a' n' k' L) => An.check_any c self L a' n' k' W hs (fun x hx => ⟨(hlogs x hx).1.later hW,(hlogs x hx).2⟩));clear hlogs
 unfold Cg.val at ck
 generalize An.ck c self L = CK at *
 show Calls Tryz.prog 168 #[.agg #[.int .i64 c.F,.int .i64 c.R,.int .i64 c.P,.bool c.u],.int .i64 self,.slice a n k] w _
 generalize hw0 : w.alloc (.cells #[.int .i64 c.F,.int .i64 c.R,.int .i64 c.P,.bool c.u] 23) = w0 at *
 have s0:=KC.out _ (Below.refl (w.heap.size + 1) w0).drew
 go_enter Tryz.func168,Tryz.ntmps168
 go_wp2_with fail
 try rw [hw0]
 clear hw0
 go_region_held3 (fun v => v.cell? ⟨w.heap.size,0,none⟩ = some (.int .i64 c.F)∧v.cell? ⟨w.heap.size,1,none⟩ = some (.int .i64 c.R)∧v.cell? ⟨w.heap.size,2,none⟩ = some (.int .i64 c.P)∧v.cell? ⟨w.heap.size,3,none⟩ = some (.bool c.u)) (with_reducible assumption) (first
  | (have:=D2;go_at_call 204;refine (ck.out _ (B0.out.trans (D2.out.mono (by omega))) _ _ _ (o2.sl' kAnV)).mono ?_;rintro e w3 ⟨rfl,b3⟩;have D3:=hide (D2.out.trans (b3.mono (by have:=D2.out.size;have h2:=hwz.out;omega)));have s3:=KC.out w3 D3.out;clear b3 o2)
  | (go_at_call 191;refine (An.hold_any L a n k _ (H.out.later B0.out.drew) hb).mono ?_;rintro e w2 ⟨rfl,o2,b2⟩;have D2:=hide ((Below.refl (w.heap.size + 1) w0).drew.trans (b2.mono (by show _ ≤ w0.heap.size;rw [hwz.out];exact Nat.le_refl _)));have s2:=KC.out w2 D2.out;clear b2))
 go_wp2
 go_ret
 exact ⟨rfl,B0.out.trans (D3.out.mono (by omega))⟩
end Go.Proofs.YtgncpcfncojgoaaGreatDoor
namespace Go.Proofs.YtgncpcfncojgoaaGreatDoor
open Go.RowKit Go.Maps
open Classical
structure Bl where
 n : Int
 h : Int
 l : Int
 v : Int
 c : Int
 s : SV En
def Bl.cs (x : Bl) : List Value:=[.int .i64 x.n,.int .u64 x.h,.int .u64 x.l,.int .i64 x.v,.int .i64 x.c,.slice x.s.a x.s.D.length x.s.c]
def Bl.val (x : Bl) : Value:=.agg #[.int .i64 x.n,.int .u64 x.h,.int .u64 x.l,.int .i64 x.v,.int .i64 x.c,.slice x.s.a x.s.D.length x.s.c]
def yBlA : Lay Bl:=⟨114,33,6,64,Bl.cs,⟨0,0,0,0,0,⟨none,0,[]⟩⟩⟩
def yBlV : Lay Bl:=⟨247,249,6,64,Bl.cs,⟨0,0,0,0,0,⟨none,0,[]⟩⟩⟩
theorem kBlA : yBlA.Ok:=⟨by decide,fun x => rfl,fun x u h => by
  simp [yBlA,Bl.cs] at h
  rcases h with rfl | rfl | rfl | rfl | rfl | rfl <;> rfl,Tryz.underlying33,⟨.agg #[.int .i64 (⟨0,0,0,0,0,⟨none,0,[]⟩⟩ : Bl).n,.int .u64 (⟨0,0,0,0,0,⟨none,0,[]⟩⟩ : Bl).h,.int .u64 (⟨0,0,0,0,0,⟨none,0,[]⟩⟩ : Bl).l,.int .i64 (⟨0,0,0,0,0,⟨none,0,[]⟩⟩ : Bl).v,.int .i64 (⟨0,0,0,0,0,⟨none,0,[]⟩⟩ : Bl).c,.slice (⟨0,0,0,0,0,⟨none,0,[]⟩⟩ : Bl).s.a (⟨0,0,0,0,0,⟨none,0,[]⟩⟩ : Bl).s.D.length (⟨0,0,0,0,0,⟨none,0,[]⟩⟩ : Bl).s.c],by kernel_rfl,rfl⟩⟩
theorem kBlV : yBlV.Ok:=⟨by decide,fun x => rfl,fun x u h => by
  simp [yBlV,Bl.cs] at h
  rcases h with rfl | rfl | rfl | rfl | rfl | rfl <;> rfl,Tryz.underlying249,⟨.agg #[.int .i64 (⟨0,0,0,0,0,⟨none,0,[]⟩⟩ : Bl).n,.int .u64 (⟨0,0,0,0,0,⟨none,0,[]⟩⟩ : Bl).h,.int .u64 (⟨0,0,0,0,0,⟨none,0,[]⟩⟩ : Bl).l,.int .i64 (⟨0,0,0,0,0,⟨none,0,[]⟩⟩ : Bl).v,.int .i64 (⟨0,0,0,0,0,⟨none,0,[]⟩⟩ : Bl).c,.slice (⟨0,0,0,0,0,⟨none,0,[]⟩⟩ : Bl).s.a (⟨0,0,0,0,0,⟨none,0,[]⟩⟩ : Bl).s.D.length (⟨0,0,0,0,0,⟨none,0,[]⟩⟩ : Bl).s.c],by kernel_rfl,rfl⟩⟩
end Go.Proofs.YtgncpcfncojgoaaGreatDoor
namespace Go.Proofs.YtgncpcfncojgoaaGreatDoor
open Go.RowKit Go.Maps
open Classical
set_option maxHeartbeats 1000000 in
theorem Bl.hold_any (L : List Bl) (a : Option Addr) (n c : Nat) (w : World) (h : SlY yBlA w a n c L) (hb : n * 64 ≤ 281474976710656) :
  Calls Tryz.prog 186 #[.slice a n c,.func (.func 187) #[] #[]] w fun e w' => e = .returned (.slice (some ⟨w.heap.size,0,none⟩) n n)∧OwnY yBlV w.heap.size w' (.slice (some ⟨w.heap.size,0,none⟩) n n) L∧Below w.heap.size w w':=by
 have hmx:=h.max;have hcp:=h.cap;have hln:=h.len
 unfold maxLen at hmx
 have H:=hide h;have HN:=hide hln;clear h hln
 go_enter Tryz.func186,Tryz.ntmps186
 go_wp2_with (at_make;go_must (refine makeYs kBlV _ rfl (.tmp 9) rfl n rfl (by unfold maxLen;omega) hb ?zk))
 intro w1 o1 b1
 have HO : Hid (OwnY yBlV w.heap.size w1 (.slice (some ⟨w.heap.size,0,none⟩) n n) (L.take 0 ++ List.replicate (n - 0) yBlV.z)):=by
  show OwnY _ _ _ _ _
  simpa using o1
 clear o1
 go_wp2
 go_loopw [13] (fun i wr => ∃ j : Nat,i = .int .i64 (j : Int)∧j ≤ n∧Hid (OwnY yBlV w.heap.size wr (.slice (some ⟨w.heap.size,0,none⟩) n n) (L.take j ++ List.replicate (n - j) yBlV.z))∧Below w.heap.size w wr) (fun i _ => n - (intOf i).toNat)
 case atStart => exact ⟨0,rfl,Nat.zero_le _,HO,b1⟩
 case round =>
  obtain ⟨j,rfl,hj,hO,hbl⟩:=hrel;have hsz:=hbl.size
  by_cases hlt : j < n
  ·have hjl : j < L.length:=by rw [HN.out];exact hlt
   have hg : L[j]? = some L[j]:=List.getElem?_eq_getElem hjl;obtain ⟨q,o,rfl,hq,y0,y1,y2,y3,y4,y5⟩:=(H.out.later hbl).BlA hg
   have hlt0 : w.heap.size < wr.heap.size:=by
    obtain ⟨_,_,ee,_,_,_,h4⟩:=hO.out.form
    injection ee with ee
    obtain ⟨g',e2,_,h5⟩:=h4 _ ee.symm
    cases e2
    exact h5
   have hset : Hid ((L.take j ++ List.replicate (n - j) yBlV.z).set j L[j] = L.take (j + 1) ++ List.replicate (n - (j + 1)) yBlV.z):=by
    show _ = _
    have hl : (L.take j).length = j:=by rw [List.length_take];omega
    rw [List.set_append_right _ _ (by omega),hl,Nat.sub_self,show n - j = (n - (j + 1)) + 1 by omega,List.replicate_succ,List.set_cons_zero,List.take_add_one,hg];simp only [Option.toList_some,List.append_assoc,List.cons_append,List.nil_append]
   have hget : Hid ((L.take j ++ List.replicate (n - j) yBlV.z)[j]? = some yBlV.z):=by
    show _ = _
    have hl : (L.take j).length = j:=by rw [List.length_take];omega
    rw [List.getElem?_append_right (by omega),hl,Nat.sub_self,show n - j = (n - (j + 1)) + 1 by omega,List.replicate_succ]
    rfl
   clear hg
   generalize L[j] = x at *
   generalize hX : L.take j ++ List.replicate (n - j) yBlV.z = XX at *
   clear hX;have bA:=hide (hbl.trans (((Below.refl _ wr).alloc (Nat.le_refl _) (.cells #[.int .i64 x.n,.int .u64 x.h,.int .u64 x.l,.int .i64 x.v,.int .i64 x.c,.slice x.s.a x.s.D.length x.s.c] 114)).mono hsz));have OA:=hide (hO.out.alloc (.cells #[.int .i64 x.n,.int .u64 x.h,.int .u64 x.l,.int .i64 x.v,.int .i64 x.c,.slice x.s.a x.s.D.length x.s.c] 114));have ca:=hide (x.as_any (wr.alloc (.cells #[.int .i64 x.n,.int .u64 x.h,.int .u64 x.l,.int .i64 x.v,.int .i64 x.c,.slice x.s.a x.s.D.length x.s.c] 114)));clear hO
   go_wp2_with fail
   refine ca.out.mono ?_;rintro e w2 ⟨rfl,b2⟩;have O2:=hide (OA.out.grow b2);have z2:=b2.size;rw [World.size_alloc] at z2
   dsimp only
   go_wp2_with (first
    | (refine storeY kBlV _ rfl 247 (.tmp 23) (.tmp 22) rfl w.heap.size w.heap.size n n XX j 0 yBlV.z x _ rfl rfl hget.out (by kernel_rfl) (by exact (by decide : 6 ≤ 6)) rfl O2.out ?_;intro w3 o3 u3 z3;have O3:=hide o3;clear o3)
    | go_in)
   go_round
   case rel =>
    refine ⟨j + 1,by go_num,by omega,by show OwnY _ _ _ _ _;rw [← hset.out];exact O3.out,bA.out.trans ((b2.mono (by simp;omega)).trans (u3.below (by omega) (fun k e => by subst e;exact Nat.le_refl _)))⟩
   case measure => simp [intOf];omega
  ·obtain rfl : j = n:=by omega
   have O9 : Hid (OwnY yBlV w.heap.size wr (.slice (some ⟨w.heap.size,0,none⟩) j j) L):=by
    show OwnY _ _ _ _ _
    have:=hO.out;rw [Nat.sub_self,List.replicate_zero,List.append_nil,List.take_of_length_le (by rw [HN.out];exact Nat.le_refl _)] at this
    exact this
   clear hO
   go_wp2
   go_ret
   exact ⟨rfl,O9.out,hbl⟩
end Go.Proofs.YtgncpcfncojgoaaGreatDoor
namespace Go.Proofs.YtgncpcfncojgoaaGreatDoor
open Go.RowKit Go.Maps
open Classical
set_option maxHeartbeats 1000000 in
theorem Bl.index_any (p : Bl → Bool) (g : Nat) (lb : Array Value) (eg : ∀ args w,(callFunc g args).run Tryz.prog w = .ok (.enter g args) w) (L : List Bl) (a : Option Addr) (n c : Nat) (w : World) (h : SlY yBlV w a n c L)
  (hp : ∀ (W : World) (x : Bl),Below w.heap.size w W → Calls Tryz.prog g (#[x.val] ++ lb) W fun e w' => e = .returned (.bool (p x))∧Below w.heap.size w w') :
  Calls Tryz.prog 239 #[.slice a n c,.func (.func g) #[] lb] w fun e w' => e = .returned (.int .i64 (ix p L))∧Below w.heap.size w w':=by
 have hmx:=h.max;have hcp:=h.cap;have hln:=h.len
 unfold maxLen at hmx
 have H:=hide h;have HN:=hide hln;have HP:=hide hp;clear h hln hp
 go_enter Tryz.func239,Tryz.ntmps239
 go_wp2
 go_loopw [8] (fun i wr => ∃ j : Nat,i = .int .i64 (j : Int)∧j ≤ n∧Hid (∀ k (hk : k < L.length),k < j → p L[k] = false)∧Below w.heap.size w wr) (fun i _ => n - (intOf i).toNat)
 case atStart => exact ⟨0,rfl,Nat.zero_le _,fun k hk h => absurd h (Nat.not_lt_zero _),Below.refl _ _⟩
 case round =>
  obtain ⟨j,rfl,hj,hA,hbl⟩:=hrel;have hsz:=hbl.size
  by_cases hlt : j < n
  ·have hjl : j < L.length:=by rw [HN.out];exact hlt
   have hg : L[j]? = some L[j]:=List.getElem?_eq_getElem hjl;obtain ⟨q,o,rfl,hq,y0,y1,y2,y3,y4,y5⟩:=(H.out.later hbl).BlV hg;have hcall:=HP.out wr L[j] hbl
   have hH : Hid (p L[j] = true → ix p L = (j : Int)):=fun hp => ix_hit hjl hp (fun k hk => hA.out k (by omega) hk)
   have hS : Hid (p L[j] = false → ∀ k (hk : k < L.length),k < j + 1 → p L[k] = false):=fun hp k hk hkj => by
    by_cases e : k = j
    ·subst e;exact hp
    ·exact hA.out k hk (by omega)
   clear hA hg
   generalize L[j] = x at *
   unfold Bl.val at hcall
   cases hq2 : p x with
   | true =>
    have hx:=hide (hH.out hq2);rw [hq2] at hcall;clear hH hS
    go_wp2_with (go_at_fn g;refine hcall.mono ?_;rintro e w' ⟨rfl,hb'⟩)
    go_ret
    exact ⟨by rw [hx.out];rfl,hb'⟩
   | false =>
    have hx:=hide (hS.out hq2);rw [hq2] at hcall;clear hH hS
    go_wp2_with (go_at_fn g;refine hcall.mono ?_;rintro e w' ⟨rfl,hb'⟩)
    go_round
    case rel => exact ⟨j + 1,by go_num,by omega,hx,hb'⟩
    case measure => simp [intOf];omega
  ·obtain rfl : j = n:=by omega
   have hx : Hid (ix p L = -1):=ix_miss (fun x hx => by
    obtain ⟨k,hk,rfl⟩:=List.mem_iff_getElem.1 hx
    exact hA.out k hk (by rw [← HN.out];exact hk))
   clear hA
   go_wp2
   go_ret
   exact ⟨by rw [hx.out];rfl,hbl⟩
end Go.Proofs.YtgncpcfncojgoaaGreatDoor
namespace Go.Proofs.YtgncpcfncojgoaaGreatDoor
open Go.RowKit Go.Maps
open Classical
end Go.Proofs.YtgncpcfncojgoaaGreatDoor
namespace Go.Proofs.YtgncpcfncojgoaaGreatDoor
open Go.RowKit Go.Maps
open Classical
end Go.Proofs.YtgncpcfncojgoaaGreatDoor
namespace Go.Proofs.YtgncpcfncojgoaaGreatDoor
open Go.RowKit Go.Maps
open Classical
end Go.Proofs.YtgncpcfncojgoaaGreatDoor
namespace Go.Proofs.YtgncpcfncojgoaaGreatDoor
open Go.RowKit Go.Maps
open Classical
end Go.Proofs.YtgncpcfncojgoaaGreatDoor
namespace Go.Proofs.YtgncpcfncojgoaaGreatDoor
open Go.RowKit Go.Maps
open Classical
end Go.Proofs.YtgncpcfncojgoaaGreatDoor
namespace Go.Proofs.YtgncpcfncojgoaaGreatDoor
open Go.RowKit Go.Maps
open Classical
def Bl.Told (B : Nat) (w : World) (x y : Bl) : Prop:=x.s.D.length * 48 ≤ 281474976710656∧∃ g,y = x.re g∧OwnY yE B w (.slice (some ⟨g,0,none⟩) x.s.D.length x.s.D.length) x.s.D
def Bl.Tolds (B : Nat) (w : World) (L R : List Bl) : Prop:=R.length = L.length∧∀ (i : Nat) (x y : Bl),L[i]? = some x → R[i]? = some y → Bl.Told B w x y
set_option maxHeartbeats 1000000 in
theorem Bl.tell_any (L : List Bl) (a : Option Addr) (n c : Nat) (w : World) (h : SlY yBlV w a n c L) (hb : n * 64 ≤ 281474976710656) (hlogs : ∀ x ∈ L,x.In w) :
  Calls Tryz.prog 184 #[.slice a n c,.func (.func 188) #[] #[]] w fun e w' => e = .returned (.slice (some ⟨w.heap.size,0,none⟩) n n)∧(∃ R,OwnY yBlA w.heap.size w' (.slice (some ⟨w.heap.size,0,none⟩) n n) R∧Bl.Tolds w.heap.size w' L R)∧Below w.heap.size w w':=by
 have hmx:=h.max;have hcp:=h.cap;have hln:=h.len
 unfold maxLen at hmx
 have H:=hide h;have HN:=hide hln;have HX:=hide hlogs;clear h hln hlogs
 go_enter Tryz.func184,Tryz.ntmps184
 go_wp2_with (at_make;go_must (refine makeYs kBlA _ rfl (.tmp 9) rfl n rfl (by unfold maxLen;omega) hb ?zk))
 intro w1 o1 b1
 have HO : Hid (∃ R,OwnY yBlA w.heap.size w1 (.slice (some ⟨w.heap.size,0,none⟩) n n) (R ++ List.replicate (n - 0) yBlA.z)∧Bl.Tolds w.heap.size w1 (L.take 0) R):=⟨[],by simpa using o1,rfl,fun i x y hx hy => by simp at hy⟩
 clear o1
 go_wp2
 go_loopw [13] (fun i wr => ∃ j : Nat,i = .int .i64 (j : Int)∧j ≤ n∧Hid (∃ R,OwnY yBlA w.heap.size wr (.slice (some ⟨w.heap.size,0,none⟩) n n) (R ++ List.replicate (n - j) yBlA.z)∧Bl.Tolds w.heap.size wr (L.take j) R)∧Below w.heap.size w wr) (fun i _ => n - (intOf i).toNat)
 case atStart => exact ⟨0,rfl,Nat.zero_le _,HO,b1⟩
 case round =>
  obtain ⟨j,rfl,hj,hO,hbl⟩:=hrel;have hsz:=hbl.size;obtain ⟨R,oR,tR⟩:=hO.out;clear hO
  by_cases hlt : j < n
  ·have hjl : j < L.length:=by rw [HN.out];exact hlt
   have hg : L[j]? = some L[j]:=List.getElem?_eq_getElem hjl;obtain ⟨q,o,rfl,hq,y0,y1,y2,y3,y4,y5⟩:=(H.out.later hbl).BlV hg
   have hlt0 : w.heap.size < wr.heap.size:=by
    obtain ⟨_,_,ee,_,_,_,h4⟩:=oR.form
    injection ee with ee
    obtain ⟨g',e2,_,h5⟩:=h4 _ ee.symm
    cases e2
    exact h5
   have hRl : R.length = j:=by rw [tR.1,List.length_take];omega
   have hset : Hid (∀ y,(R ++ List.replicate (n - j) yBlA.z).set j y = (R ++ [y]) ++ List.replicate (n - (j + 1)) yBlA.z):=fun y => by
    rw [List.set_append_right _ _ (by omega),hRl,Nat.sub_self,show n - j = (n - (j + 1)) + 1 by omega,List.replicate_succ,List.set_cons_zero,List.append_assoc,List.singleton_append]
   have hget : Hid ((R ++ List.replicate (n - j) yBlA.z)[j]? = some yBlA.z):=by
    show _ = _
    rw [List.getElem?_append_right (by omega),hRl,Nat.sub_self,show n - j = (n - (j + 1)) + 1 by omega,List.replicate_succ]
    rfl
   have HIN:=(HX.out _ (List.getElem_mem hjl)).later hbl;have HG:=hide hg;clear hg hRl
   generalize L[j] = x at *
   generalize hX : R ++ List.replicate (n - j) yBlA.z = XX at *
   clear hX
   have wz : Hid ((wr.alloc (.cells #[.int .i64 x.n,.int .u64 x.h,.int .u64 x.l,.int .i64 x.v,.int .i64 x.c,.slice x.s.a x.s.D.length x.s.c] 247)).heap.size = wr.heap.size + 1):=by show _ = _;simp
   have bw : Below wr.heap.size wr (wr.alloc (.cells #[.int .i64 x.n,.int .u64 x.h,.int .u64 x.l,.int .i64 x.v,.int .i64 x.c,.slice x.s.a x.s.D.length x.s.c] 247)):=(Below.refl _ wr).alloc (Nat.le_refl _) _;have bA:=hide (hbl.trans (bw.mono hsz));have BW:=hide bw;have OA:=hide (oR.alloc (.cells #[.int .i64 x.n,.int .u64 x.h,.int .u64 x.l,.int .i64 x.v,.int .i64 x.c,.slice x.s.a x.s.D.length x.s.c] 247));have ca:=x.told_any _ (HIN.later bw);rw [wz.out] at ca;have CA:=hide ca;have HD:=hide HIN.2;have TR:=hide tR;clear ca oR tR HIN bw
   go_wp2_with fail
   refine CA.out.mono ?_;rintro e w2 ⟨rfl,o2,b2⟩;have OE:=hide o2;have b2':=b2;rw [← wz.out] at b2';have O2:=hide (OA.out.grow b2');have hk2:=hide (O2.out.kind (g:=w.heap.size) rfl);have z2:=b2.size;rw [wz.out] at z2;have bw2:=hide (BW.out.trans (b2.mono (by omega)));clear o2 b2'
   dsimp only
   go_wp2_with (first
    | (refine storeY kBlA _ rfl 114 (.tmp 23) (.tmp 22) rfl w.heap.size w.heap.size n n XX j 0 yBlA.z (x.re (wr.heap.size + 1 + 2)) _ rfl rfl hget.out (by kernel_rfl) (by exact (by decide : 6 ≤ 6)) rfl O2.out ?_;intro w3 o3 u3 z3;have O3:=hide o3;have U3:=hide u3;clear o3 u3)
    | go_in)
   go_round
   case rel =>
    refine ⟨j + 1,by go_num,by omega,⟨R ++ [x.re (wr.heap.size + 1 + 2)],by rw [← hset.out];exact O3.out,TR.out.snoc HG.out (by omega) bw2.out HD.out OE.out U3.out hk2.out⟩,hbl.trans ((bw2.out.mono hsz).trans (U3.out.below (by omega) (fun k e => by subst e;exact Nat.le_refl _)))⟩
   case measure => simp [intOf];omega
  ·obtain rfl : j = n:=by omega
   have O9 : Hid (∃ R,OwnY yBlA w.heap.size wr (.slice (some ⟨w.heap.size,0,none⟩) j j) R∧Bl.Tolds w.heap.size wr L R):=by
    refine ⟨R,?_,?_⟩
    ·rw [Nat.sub_self,List.replicate_zero,List.append_nil] at oR
     exact oR
    ·rw [List.take_of_length_le (by rw [HN.out];exact Nat.le_refl _)] at tR
     exact tR
   clear oR tR
   go_wp2
   go_ret
   exact ⟨rfl,O9.out,hbl⟩
end Go.Proofs.YtgncpcfncojgoaaGreatDoor
namespace Go.Proofs.YtgncpcfncojgoaaGreatDoor
open Go.RowKit Go.Maps
open Classical
end Go.Proofs.YtgncpcfncojgoaaGreatDoor
namespace Go.Proofs.YtgncpcfncojgoaaGreatDoor
open Go.RowKit Go.Maps
open Classical
def Bl.mb (x : Bl) (n r : Int) : Bool:=vmb x.v && lmb x.s.D x.c r
def Bl.ckl (c : Cg) (self : Int) : Int → List Bl → Bool
 | _,[] => true
 | least,x :: r => if x.n < least ∨ 2 * c.F + 1 ≤ x.n ∨ x.n = self ∨ Bl.mb x (2 * c.F + 1) c.R = false then false else Bl.ckl c self (x.n + 1) r
def Bl.ck (c : Cg) (self : Int) (L : List Bl) : Int:=if c.ok = false then 1 else if Bl.ckl c self 0 L = true then 0 else 80
set_option maxHeartbeats 2000000 in
theorem Bl.check_any (c : Cg) (self : Int) (L : List Bl) (a : Option Addr) (n k : Nat) (w : World) (h : SlY yBlV w a n k L) (hlogs : ∀ x ∈ L,x.In w∧∀ e ∈ x.s.D,e.fits) :
  Calls Tryz.prog 203 #[c.val,.int .i64 self,.slice a n k] w fun e w' => e = .returned (.int .i64 (Bl.ck c self L))∧Below w.heap.size w w':=by
 have hmx:=h.max;have hcp:=h.cap;have hln:=h.len
 unfold maxLen at hmx
 have H:=hide h;have HN:=hide hln;have HL:=hide hlogs;clear h hln hlogs;have B0 : Hid (Below w.heap.size w (w.alloc (.cells #[.int .i64 c.F,.int .i64 c.R,.int .i64 c.P,.bool c.u] 23))):=(Below.refl _ w).alloc (Nat.le_refl _) _;have cc:=hide (fun W => configMayBe_any8 c W)
 unfold Cg.val at cc
 have HCK : Hid (Bl.ck c self L = if c.ok = false then 1 else if Bl.ckl c self 0 L = true then 0 else 80):=rfl
 generalize Bl.ck c self L = CK at *
 show Calls Tryz.prog 203 #[.agg #[.int .i64 c.F,.int .i64 c.R,.int .i64 c.P,.bool c.u],.int .i64 self,.slice a n k] w _
 go_enter Tryz.func203,Tryz.ntmps203
 go_wp2_with fail
 refine (cc.out _).mono ?_;rintro e w1 ⟨rfl,b1⟩
 dsimp only
 have hz1 : w.heap.size + 1 ≤ w1.heap.size:=by have:=b1.size;simpa using this
 have D1 : Hid (Below (w.heap.size + 1) (w.alloc (.cells #[.int .i64 c.F,.int .i64 c.R,.int .i64 c.P,.bool c.u] 23)) w1):=by show Below _ _ _;simpa using b1
 clear b1 cc
 have KC : Hid (∀ v,Below (w.heap.size + 1) w1 v → v.cell? ⟨w.heap.size,0,none⟩ = some (.int .i64 c.F)∧v.cell? ⟨w.heap.size,1,none⟩ = some (.int .i64 c.R)):=fun v hv =>
  ⟨((D1.out.trans hv).cell (p:=⟨w.heap.size,0,none⟩) (by simp)).trans (by simp),((D1.out.trans hv).cell (p:=⟨w.heap.size,1,none⟩) (by simp)).trans (by simp)⟩
 have E1:=hide (B0.out.trans (D1.out.mono (by omega)))
 by_cases hk : c.ok = true
 ·have hF : 1 ≤ c.F∧c.F ≤ 3∧1 ≤ c.R∧c.R ≤ 256:=of_decide_eq_true hk
  obtain ⟨hF1,hF3,_,_⟩:=hF
  have HC2 : Hid (CK = if Bl.ckl c self 0 (L.drop 0) = true then 0 else 80):=by show _ = _;rw [HCK.out,hk,if_neg (by simp)];rfl
  rw [hk];clear HCK hk
  have hw1 : IntKind.i64.wrap (2 * c.F) = 2 * c.F:=by rw [IntKind.wrap_i64];omega
  have hw2 : IntKind.i64.wrap (2 * c.F + 1) = 2 * c.F + 1:=by rw [IntKind.wrap_i64];omega
  obtain ⟨k0,k1⟩:=KC.out w1 (Below.refl _ _)
  go_wp2
  go_loopw [20,8] (fun i l wr => ∃ (j : Nat) (l' : Int),i = .int .i64 (j : Int)∧j ≤ n∧l = .int .i64 l'∧(0 ≤ l'∧l' ≤ 8)∧Hid (CK = if Bl.ckl c self l' (L.drop j) = true then 0 else 80)∧Hid (Below (w.heap.size + 1) w1 wr)) (fun i _ _ => n - (intOf i).toNat)
  case atStart => exact ⟨0,0,rfl,Nat.zero_le _,rfl,⟨Int.le_refl _,by omega⟩,HC2,Below.refl _ _⟩
  case round =>
   obtain ⟨j,l',rfl,hj,rfl,⟨hl0,hl8⟩,hCK,hbl⟩:=hrel
   have zr : w.heap.size + 1 ≤ wr.heap.size:=by have:=hbl.out.size;omega
   by_cases hlt : j < n
   ·have hjl : j < L.length:=by rw [HN.out];exact hlt
    have hg : L[j]? = some L[j]:=List.getElem?_eq_getElem hjl;obtain ⟨q,o,ea,hq,y0,y1,y2,y3,y4,y5⟩:=(H.out.later (E1.out.trans (hbl.out.mono (by omega)))).BlV hg
    cases ea
    have hCK1 : Hid (CK = if (if L[j].n < l' ∨ 2 * c.F + 1 ≤ L[j].n ∨ L[j].n = self ∨ Bl.mb L[j] (2 * c.F + 1) c.R = false then false else Bl.ckl c self (L[j].n + 1) (L.drop (j + 1))) = true then 0 else 80):=by
     show _ = _
     rw [hCK.out,List.drop_eq_getElem_cons hjl,Bl.ckl]
    have HX : Hid (L[j].In w∧∀ e ∈ L[j].s.D,e.fits):=HL.out _ (List.getElem_mem hjl);clear hg hCK
    generalize L[j] = x at *
    have KX : Hid (∀ v,Below (wr.heap.size + 1) (wr.alloc (.cells #[.int .i64 x.n,.int .u64 x.h,.int .u64 x.l,.int .i64 x.v,.int .i64 x.c,.slice x.s.a x.s.D.length x.s.c] 247)) v → (v.cell? ⟨wr.heap.size,0,none⟩ = some (.int .i64 x.n)∧v.cell? ⟨wr.heap.size,1,none⟩ = some (.int .u64 x.h)∧v.cell? ⟨wr.heap.size,2,none⟩ = some (.int .u64 x.l)∧v.cell? ⟨wr.heap.size,3,none⟩ = some (.int .i64 x.v)∧v.cell? ⟨wr.heap.size,4,none⟩ = some (.int .i64 x.c)∧v.cell? ⟨wr.heap.size,5,none⟩ = some (.slice x.s.a x.s.D.length x.s.c))∧(v.cell? ⟨w.heap.size,0,none⟩ = some (.int .i64 c.F)∧v.cell? ⟨w.heap.size,1,none⟩ = some (.int .i64 c.R))):=fun v hv =>
     ⟨⟨(hv.cell (p:=⟨wr.heap.size,0,none⟩) (by simp)).trans (by simp),(hv.cell (p:=⟨wr.heap.size,1,none⟩) (by simp)).trans (by simp),(hv.cell (p:=⟨wr.heap.size,2,none⟩) (by simp)).trans (by simp),(hv.cell (p:=⟨wr.heap.size,3,none⟩) (by simp)).trans (by simp),(hv.cell (p:=⟨wr.heap.size,4,none⟩) (by simp)).trans (by simp),(hv.cell (p:=⟨wr.heap.size,5,none⟩) (by simp)).trans (by simp)⟩,KC.out v ((hbl.out.alloc zr _).trans (hv.mono (by omega)))⟩
    have hza : Hid ((wr.alloc (.cells #[.int .i64 x.n,.int .u64 x.h,.int .u64 x.l,.int .i64 x.v,.int .i64 x.c,.slice x.s.a x.s.D.length x.s.c] 247)).heap.size = wr.heap.size + 1):=by show _ = _;simp
    have D0 : Hid (Below (wr.heap.size + 1) (wr.alloc (.cells #[.int .i64 x.n,.int .u64 x.h,.int .u64 x.l,.int .i64 x.v,.int .i64 x.c,.slice x.s.a x.s.D.length x.s.c] 247)) (wr.alloc (.cells #[.int .i64 x.n,.int .u64 x.h,.int .u64 x.l,.int .i64 x.v,.int .i64 x.c,.slice x.s.a x.s.D.length x.s.c] 247))):=Below.refl _ _;have EB : Hid (Below (w.heap.size + 1) w1 (wr.alloc (.cells #[.int .i64 x.n,.int .u64 x.h,.int .u64 x.l,.int .i64 x.v,.int .i64 x.c,.slice x.s.a x.s.D.length x.s.c] 247))):=hbl.out.alloc zr _;have EE:=hide (E1.out.trans (EB.out.mono (by omega)));have cn:=hide (fun W => x.node_any W)
    unfold Bl.val at cn
    have cm:=hide (fun W (hW : Below w.heap.size w W) => x.may_any (2 * c.F + 1) c.R W (HX.out.1.later hW) HX.out.2 )
    unfold Bl.val at cm
    obtain ⟨k0,k1⟩:=KC.out _ EB.out
    go_wp2_with fail
    refine (cn.out _).mono ?_;rintro e w2 ⟨rfl,bb⟩;have D2:=hide (D0.out.trans (bb.mono (by have:=D0.out.size;have h2:=hza.out;omega)));clear bb y0 y1 y2 y3 y4 y5 k0 k1;obtain ⟨⟨y0,y1,y2,y3,y4,y5⟩,⟨k0,k1⟩⟩:=KX.out w2 D2.out
    dsimp only
    by_cases h1 : x.n < l'
    ·have hCK2 : Hid (CK = 80):=by show _ = _;rw [hCK1.out,if_pos (c:=x.n < l' ∨ 2 * c.F + 1 ≤ x.n ∨ x.n = self ∨ Bl.mb x (2 * c.F + 1) c.R = false) (.inl h1)];rfl
     clear hCK1
     go_wp2
     go_ret
     exact ⟨by rw [hCK2.out];rfl,EE.out.trans (D2.out.mono (by omega))⟩
    ·go_wp2_with fail
     refine (cn.out _).mono ?_;rintro e w3 ⟨rfl,bb⟩;have D3:=hide (D2.out.trans (bb.mono (by have:=D2.out.size;have h2:=hza.out;omega)));clear bb y0 y1 y2 y3 y4 y5 k0 k1;obtain ⟨⟨y0,y1,y2,y3,y4,y5⟩,⟨k0,k1⟩⟩:=KX.out w3 D3.out
     dsimp only
     by_cases h2 : 2 * c.F + 1 ≤ x.n
     ·have hCK2 : Hid (CK = 80):=by show _ = _;rw [hCK1.out,if_pos (c:=x.n < l' ∨ 2 * c.F + 1 ≤ x.n ∨ x.n = self ∨ Bl.mb x (2 * c.F + 1) c.R = false) (.inr (.inl h2))];rfl
      clear hCK1
      go_wp2
      go_ret
      exact ⟨by rw [hCK2.out];rfl,EE.out.trans (D3.out.mono (by omega))⟩
     ·go_wp2_with fail
      refine (cn.out _).mono ?_;rintro e w4 ⟨rfl,bb⟩;have D4:=hide (D3.out.trans (bb.mono (by have:=D3.out.size;have h2:=hza.out;omega)));clear bb y0 y1 y2 y3 y4 y5 k0 k1;obtain ⟨⟨y0,y1,y2,y3,y4,y5⟩,⟨k0,k1⟩⟩:=KX.out w4 D4.out
      dsimp only
      by_cases h3 : x.n = self
      ·have h3b : (x.n == self) = true:=by simp [h3]
       have H3:=hide h3;clear h3
       have hCK2 : Hid (CK = 80):=by show _ = _;rw [hCK1.out,if_pos (c:=x.n < l' ∨ 2 * c.F + 1 ≤ x.n ∨ x.n = self ∨ Bl.mb x (2 * c.F + 1) c.R = false) (.inr (.inr (.inl H3.out)))];rfl
       clear hCK1
       go_wp2
       go_ret
       exact ⟨by rw [hCK2.out];rfl,EE.out.trans (D4.out.mono (by omega))⟩
      ·have h3b : (x.n == self) = false:=by simp [h3]
       go_wp2_with fail
       refine (cm.out _ (EE.out.trans (D4.out.mono (by omega)))).mono ?_;rintro e w5 ⟨rfl,bb⟩;have D5:=hide (D4.out.trans (bb.mono (by have:=D4.out.size;have h2:=hza.out;omega)));clear bb y0 y1 y2 y3 y4 y5 k0 k1;obtain ⟨⟨y0,y1,y2,y3,y4,y5⟩,⟨k0,k1⟩⟩:=KX.out w5 D5.out
       dsimp only
       cases hmb : Bl.mb x (2 * c.F + 1) c.R with
       | false =>
        have hCK2 : Hid (CK = 80):=by show _ = _;rw [hCK1.out,if_pos (c:=x.n < l' ∨ 2 * c.F + 1 ≤ x.n ∨ x.n = self ∨ Bl.mb x (2 * c.F + 1) c.R = false) (.inr (.inr (.inr hmb)))];rfl
        clear hCK1
        go_wp2
        go_ret
        exact ⟨by rw [hCK2.out];rfl,EE.out.trans (D5.out.mono (by omega))⟩
       | true =>
        have hCK2 : Hid (CK = if Bl.ckl c self (x.n + 1) (L.drop (j + 1)) = true then 0 else 80):=by
         show _ = _
         have hno : ¬ (x.n < l' ∨ 2 * c.F + 1 ≤ x.n ∨ x.n = self ∨ Bl.mb x (2 * c.F + 1) c.R = false):=by
          rintro (hc | hc | hc | hc)
          ·omega
          ·omega
          ·exact h3 hc
          ·rw [hmb] at hc;cases hc
         rw [hCK1.out,if_neg hno]
        have hw3 : IntKind.i64.wrap (x.n + 1) = x.n + 1:=by rw [IntKind.wrap_i64];omega
        clear hCK1 hmb
        go_wp2_with fail
        refine (cn.out _).mono ?_;rintro e w6 ⟨rfl,bb⟩;have D6:=hide (D5.out.trans (bb.mono (by have:=D5.out.size;have h2:=hza.out;omega)));clear bb y0 y1 y2 y3 y4 y5 k0 k1;obtain ⟨⟨y0,y1,y2,y3,y4,y5⟩,⟨k0,k1⟩⟩:=KX.out w6 D6.out
        dsimp only
        go_wp2
        go_round
        case rel => exact ⟨j + 1,x.n + 1,by go_num,by omega,rfl,⟨by omega,by omega⟩,hCK2,EB.out.trans (D6.out.mono (by omega))⟩
        case measure => first | (simp [intOf];done) | (simp [intOf];omega)
   ·obtain rfl : j = n:=by omega
    have hCK1 : Hid (CK = 0):=by show _ = _;rw [hCK.out,List.drop_of_length_le (by rw [HN.out];exact Nat.le_refl _),Bl.ckl,if_pos rfl]
    clear hCK
    go_wp2
    go_ret
    exact ⟨by rw [hCK1.out];rfl,E1.out.trans (hbl.out.mono (by omega))⟩
 ·have hk2 : c.ok = false:=by simpa using hk
  have hCK1 : Hid (CK = 1):=by show _ = _;rw [HCK.out,if_pos hk2]
  rw [hk2];clear HCK
  go_wp2
  go_ret
  exact ⟨by rw [hCK1.out];rfl,E1.out⟩
set_option maxHeartbeats 1000000 in
theorem Bl.Check_any (c : Cg) (self : Int) (L : List Bl) (a : Option Addr) (n k : Nat) (w : World) (h : SlY yBlA w a n k L) (hb : n * 64 ≤ 281474976710656) (hlogs : ∀ x ∈ L,x.In w∧∀ e ∈ x.s.D,e.fits) :
  Calls Tryz.prog 167 #[c.val,.int .i64 self,.slice a n k] w fun e w' => e = .returned (.int .i64 (Bl.ck c self L))∧Below w.heap.size w w':=by
 have B0 : Hid (Below w.heap.size w (w.alloc (.cells #[.int .i64 c.F,.int .i64 c.R,.int .i64 c.P,.bool c.u] 23))):=(Below.refl _ w).alloc (Nat.le_refl _) _
 have hwz : Hid ((w.alloc (.cells #[.int .i64 c.F,.int .i64 c.R,.int .i64 c.P,.bool c.u] 23)).heap.size = w.heap.size + 1):=by show _ = _;simp
 have KC : Hid (∀ v,Below (w.heap.size + 1) (w.alloc (.cells #[.int .i64 c.F,.int .i64 c.R,.int .i64 c.P,.bool c.u] 23)) v → v.cell? ⟨w.heap.size,0,none⟩ = some (.int .i64 c.F)∧v.cell? ⟨w.heap.size,1,none⟩ = some (.int .i64 c.R)∧v.cell? ⟨w.heap.size,2,none⟩ = some (.int .i64 c.P)∧v.cell? ⟨w.heap.size,3,none⟩ = some (.bool c.u)):=fun v hv =>
  ⟨(hv.cell (p:=⟨w.heap.size,0,none⟩) (by simp)).trans (by simp),(hv.cell (p:=⟨w.heap.size,1,none⟩) (by simp)).trans (by simp),(hv.cell (p:=⟨w.heap.size,2,none⟩) (by simp)).trans (by simp),(hv.cell (p:=⟨w.heap.size,3,none⟩) (by simp)).trans (by simp)⟩
 have H:=hide h;clear h;have ck:=hide (fun W (hW : Below w.heap.size w W) a' n' k' (hs : SlY yBlV W a' n' k' L) => Bl.check_any c self L a' n' k' W hs (fun x hx => ⟨(hlogs x hx).1.later hW,(hlogs x hx).2⟩));clear hlogs
 unfold Cg.val at ck
 generalize Bl.ck c self L = CK at *
 show Calls Tryz.prog 167 #[.agg #[.int .i64 c.F,.int .i64 c.R,.int .i64 c.P,.bool c.u],.int .i64 self,.slice a n k] w _
 generalize hw0 : w.alloc (.cells #[.int .i64 c.F,.int .i64 c.R,.int .i64 c.P,.bool c.u] 23) = w0 at *
 have s0:=KC.out _ (Below.refl (w.heap.size + 1) w0).drew
 go_enter Tryz.func167,Tryz.ntmps167
 go_wp2_with fail
 try rw [hw0]
 clear hw0
 go_region_held3 (fun v => v.cell? ⟨w.heap.size,0,none⟩ = some (.int .i64 c.F)∧v.cell? ⟨w.heap.size,1,none⟩ = some (.int .i64 c.R)∧v.cell? ⟨w.heap.size,2,none⟩ = some (.int .i64 c.P)∧v.cell? ⟨w.heap.size,3,none⟩ = some (.bool c.u)) (with_reducible assumption) (first
  | (have:=D2;go_at_call 203;refine (ck.out _ (B0.out.trans (D2.out.mono (by omega))) _ _ _ (o2.sl' kBlV)).mono ?_;rintro e w3 ⟨rfl,b3⟩;have D3:=hide (D2.out.trans (b3.mono (by have:=D2.out.size;have h2:=hwz.out;omega)));have s3:=KC.out w3 D3.out;clear b3 o2)
  | (go_at_call 186;refine (Bl.hold_any L a n k _ (H.out.later B0.out.drew) hb).mono ?_;rintro e w2 ⟨rfl,o2,b2⟩;have D2:=hide ((Below.refl (w.heap.size + 1) w0).drew.trans (b2.mono (by show _ ≤ w0.heap.size;rw [hwz.out];exact Nat.le_refl _)));have s2:=KC.out w2 D2.out;clear b2))
 go_wp2
 go_ret
 exact ⟨rfl,B0.out.trans (D3.out.mono (by omega))⟩
structure Ak where
 n : Int
 h : Int
 l : Int
 p : Int
def Ak.cs (x : Ak) : List Value:=[.int .i64 x.n,.int .u64 x.h,.int .u64 x.l,.int .i64 x.p]
def Ak.val (x : Ak) : Value:=.agg #[.int .i64 x.n,.int .u64 x.h,.int .u64 x.l,.int .i64 x.p]
def yAkA : Lay Ak:=⟨110,31,4,32,Ak.cs,⟨0,0,0,0⟩⟩
def yAkV : Lay Ak:=⟨231,233,4,32,Ak.cs,⟨0,0,0,0⟩⟩
theorem kAkA : yAkA.Ok:=⟨by decide,fun x => rfl,fun x u h => by
  simp [yAkA,Ak.cs] at h
  rcases h with rfl | rfl | rfl | rfl <;> rfl,Tryz.underlying31,⟨.agg #[.int .i64 (⟨0,0,0,0⟩ : Ak).n,.int .u64 (⟨0,0,0,0⟩ : Ak).h,.int .u64 (⟨0,0,0,0⟩ : Ak).l,.int .i64 (⟨0,0,0,0⟩ : Ak).p],by kernel_rfl,rfl⟩⟩
theorem kAkV : yAkV.Ok:=⟨by decide,fun x => rfl,fun x u h => by
  simp [yAkV,Ak.cs] at h
  rcases h with rfl | rfl | rfl | rfl <;> rfl,Tryz.underlying233,⟨.agg #[.int .i64 (⟨0,0,0,0⟩ : Ak).n,.int .u64 (⟨0,0,0,0⟩ : Ak).h,.int .u64 (⟨0,0,0,0⟩ : Ak).l,.int .i64 (⟨0,0,0,0⟩ : Ak).p],by kernel_rfl,rfl⟩⟩
set_option maxHeartbeats 1000000 in
theorem Ak.hold_any (L : List Ak) (a : Option Addr) (n c : Nat) (w : World) (h : SlY yAkA w a n c L) (hb : n * 32 ≤ 281474976710656) :
  Calls Tryz.prog 176 #[.slice a n c,.func (.func 177) #[] #[]] w fun e w' => e = .returned (.slice (some ⟨w.heap.size,0,none⟩) n n)∧OwnY yAkV w.heap.size w' (.slice (some ⟨w.heap.size,0,none⟩) n n) L∧Below w.heap.size w w':=by
 have hmx:=h.max;have hcp:=h.cap;have hln:=h.len
 unfold maxLen at hmx
 have H:=hide h;have HN:=hide hln;clear h hln
 go_enter Tryz.func176,Tryz.ntmps176
 go_wp2_with (at_make;go_must (refine makeYs kAkV _ rfl (.tmp 9) rfl n rfl (by unfold maxLen;omega) hb ?zk))
 intro w1 o1 b1
 have HO : Hid (OwnY yAkV w.heap.size w1 (.slice (some ⟨w.heap.size,0,none⟩) n n) (L.take 0 ++ List.replicate (n - 0) yAkV.z)):=by
  show OwnY _ _ _ _ _
  simpa using o1
 clear o1
 go_wp2
 go_loopw [13] (fun i wr => ∃ j : Nat,i = .int .i64 (j : Int)∧j ≤ n∧Hid (OwnY yAkV w.heap.size wr (.slice (some ⟨w.heap.size,0,none⟩) n n) (L.take j ++ List.replicate (n - j) yAkV.z))∧Below w.heap.size w wr) (fun i _ => n - (intOf i).toNat)
 case atStart => exact ⟨0,rfl,Nat.zero_le _,HO,b1⟩
 case round =>
  obtain ⟨j,rfl,hj,hO,hbl⟩:=hrel;have hsz:=hbl.size
  by_cases hlt : j < n
  ·have hjl : j < L.length:=by rw [HN.out];exact hlt
   have hg : L[j]? = some L[j]:=List.getElem?_eq_getElem hjl;obtain ⟨q,o,rfl,hq,y0,y1,y2,y3⟩:=(H.out.later hbl).AkA hg
   have hlt0 : w.heap.size < wr.heap.size:=by
    obtain ⟨_,_,ee,_,_,_,h4⟩:=hO.out.form
    injection ee with ee
    obtain ⟨g',e2,_,h5⟩:=h4 _ ee.symm
    cases e2
    exact h5
   have hset : Hid ((L.take j ++ List.replicate (n - j) yAkV.z).set j L[j] = L.take (j + 1) ++ List.replicate (n - (j + 1)) yAkV.z):=by
    show _ = _
    have hl : (L.take j).length = j:=by rw [List.length_take];omega
    rw [List.set_append_right _ _ (by omega),hl,Nat.sub_self,show n - j = (n - (j + 1)) + 1 by omega,List.replicate_succ,List.set_cons_zero,List.take_add_one,hg];simp only [Option.toList_some,List.append_assoc,List.cons_append,List.nil_append]
   have hget : Hid ((L.take j ++ List.replicate (n - j) yAkV.z)[j]? = some yAkV.z):=by
    show _ = _
    have hl : (L.take j).length = j:=by rw [List.length_take];omega
    rw [List.getElem?_append_right (by omega),hl,Nat.sub_self,show n - j = (n - (j + 1)) + 1 by omega,List.replicate_succ]
    rfl
   clear hg
   generalize L[j] = x at *
   generalize hX : L.take j ++ List.replicate (n - j) yAkV.z = XX at *
   clear hX;have bA:=hide (hbl.trans (((Below.refl _ wr).alloc (Nat.le_refl _) (.cells #[.int .i64 x.n,.int .u64 x.h,.int .u64 x.l,.int .i64 x.p] 110)).mono hsz));have OA:=hide (hO.out.alloc (.cells #[.int .i64 x.n,.int .u64 x.h,.int .u64 x.l,.int .i64 x.p] 110));have ca:=hide (x.as_any (wr.alloc (.cells #[.int .i64 x.n,.int .u64 x.h,.int .u64 x.l,.int .i64 x.p] 110)));clear hO
   go_wp2_with fail
   refine ca.out.mono ?_;rintro e w2 ⟨rfl,b2⟩;have O2:=hide (OA.out.grow b2);have z2:=b2.size;rw [World.size_alloc] at z2
   dsimp only
   go_wp2_with (first
    | (refine storeY kAkV _ rfl 231 (.tmp 23) (.tmp 22) rfl w.heap.size w.heap.size n n XX j 0 yAkV.z x _ rfl rfl hget.out (by kernel_rfl) (by exact (by decide : 4 ≤ 4)) rfl O2.out ?_;intro w3 o3 u3 z3;have O3:=hide o3;clear o3)
    | go_in)
   go_round
   case rel =>
    refine ⟨j + 1,by go_num,by omega,by show OwnY _ _ _ _ _;rw [← hset.out];exact O3.out,bA.out.trans ((b2.mono (by simp;omega)).trans (u3.below (by omega) (fun k e => by subst e;exact Nat.le_refl _)))⟩
   case measure => simp [intOf];omega
  ·obtain rfl : j = n:=by omega
   have O9 : Hid (OwnY yAkV w.heap.size wr (.slice (some ⟨w.heap.size,0,none⟩) j j) L):=by
    show OwnY _ _ _ _ _
    have:=hO.out;rw [Nat.sub_self,List.replicate_zero,List.append_nil,List.take_of_length_le (by rw [HN.out];exact Nat.le_refl _)] at this
    exact this
   clear hO
   go_wp2
   go_ret
   exact ⟨rfl,O9.out,hbl⟩
def Ak.mb (x : Ak) (n r : Int) : Bool:=decide (0 ≤ x.p∧x.p ≤ r)
def Ak.ckl (c : Cg) (self : Int) : Int → List Ak → Bool
 | _,[] => true
 | least,x :: r => if x.n < least ∨ 2 * c.F + 1 ≤ x.n ∨ x.n = self ∨ Ak.mb x (2 * c.F + 1) c.R = false then false else Ak.ckl c self (x.n + 1) r
def Ak.ck (c : Cg) (self : Int) (L : List Ak) : Int:=if c.ok = false then 1 else if Ak.ckl c self 0 L = true then 0 else 80
set_option maxHeartbeats 2000000 in
theorem Ak.check_any (c : Cg) (self : Int) (L : List Ak) (a : Option Addr) (n k : Nat) (w : World) (h : SlY yAkV w a n k L) :
  Calls Tryz.prog 201 #[c.val,.int .i64 self,.slice a n k] w fun e w' => e = .returned (.int .i64 (Ak.ck c self L))∧Below w.heap.size w w':=by
 have hmx:=h.max;have hcp:=h.cap;have hln:=h.len
 unfold maxLen at hmx
 have H:=hide h;have HN:=hide hln;clear h hln;have B0 : Hid (Below w.heap.size w (w.alloc (.cells #[.int .i64 c.F,.int .i64 c.R,.int .i64 c.P,.bool c.u] 23))):=(Below.refl _ w).alloc (Nat.le_refl _) _;have cc:=hide (fun W => configMayBe_any8 c W)
 unfold Cg.val at cc
 have HCK : Hid (Ak.ck c self L = if c.ok = false then 1 else if Ak.ckl c self 0 L = true then 0 else 80):=rfl
 generalize Ak.ck c self L = CK at *
 show Calls Tryz.prog 201 #[.agg #[.int .i64 c.F,.int .i64 c.R,.int .i64 c.P,.bool c.u],.int .i64 self,.slice a n k] w _
 go_enter Tryz.func201,Tryz.ntmps201
 go_wp2_with fail
 refine (cc.out _).mono ?_;rintro e w1 ⟨rfl,b1⟩
 dsimp only
 have hz1 : w.heap.size + 1 ≤ w1.heap.size:=by have:=b1.size;simpa using this
 have D1 : Hid (Below (w.heap.size + 1) (w.alloc (.cells #[.int .i64 c.F,.int .i64 c.R,.int .i64 c.P,.bool c.u] 23)) w1):=by show Below _ _ _;simpa using b1
 clear b1 cc
 have KC : Hid (∀ v,Below (w.heap.size + 1) w1 v → v.cell? ⟨w.heap.size,0,none⟩ = some (.int .i64 c.F)∧v.cell? ⟨w.heap.size,1,none⟩ = some (.int .i64 c.R)):=fun v hv =>
  ⟨((D1.out.trans hv).cell (p:=⟨w.heap.size,0,none⟩) (by simp)).trans (by simp),((D1.out.trans hv).cell (p:=⟨w.heap.size,1,none⟩) (by simp)).trans (by simp)⟩
 have E1:=hide (B0.out.trans (D1.out.mono (by omega)))
 by_cases hk : c.ok = true
 ·have hF : 1 ≤ c.F∧c.F ≤ 3∧1 ≤ c.R∧c.R ≤ 256:=of_decide_eq_true hk
  obtain ⟨hF1,hF3,_,_⟩:=hF
  have HC2 : Hid (CK = if Ak.ckl c self 0 (L.drop 0) = true then 0 else 80):=by show _ = _;rw [HCK.out,hk,if_neg (by simp)];rfl
  rw [hk];clear HCK hk
  have hw1 : IntKind.i64.wrap (2 * c.F) = 2 * c.F:=by rw [IntKind.wrap_i64];omega
  have hw2 : IntKind.i64.wrap (2 * c.F + 1) = 2 * c.F + 1:=by rw [IntKind.wrap_i64];omega
  obtain ⟨k0,k1⟩:=KC.out w1 (Below.refl _ _)
  go_wp2
  go_loopw [20,8] (fun i l wr => ∃ (j : Nat) (l' : Int),i = .int .i64 (j : Int)∧j ≤ n∧l = .int .i64 l'∧(0 ≤ l'∧l' ≤ 8)∧Hid (CK = if Ak.ckl c self l' (L.drop j) = true then 0 else 80)∧Hid (Below (w.heap.size + 1) w1 wr)) (fun i _ _ => n - (intOf i).toNat)
  case atStart => exact ⟨0,0,rfl,Nat.zero_le _,rfl,⟨Int.le_refl _,by omega⟩,HC2,Below.refl _ _⟩
  case round =>
   obtain ⟨j,l',rfl,hj,rfl,⟨hl0,hl8⟩,hCK,hbl⟩:=hrel
   have zr : w.heap.size + 1 ≤ wr.heap.size:=by have:=hbl.out.size;omega
   by_cases hlt : j < n
   ·have hjl : j < L.length:=by rw [HN.out];exact hlt
    have hg : L[j]? = some L[j]:=List.getElem?_eq_getElem hjl;obtain ⟨q,o,ea,hq,y0,y1,y2,y3⟩:=(H.out.later (E1.out.trans (hbl.out.mono (by omega)))).AkV hg
    cases ea
    have hCK1 : Hid (CK = if (if L[j].n < l' ∨ 2 * c.F + 1 ≤ L[j].n ∨ L[j].n = self ∨ Ak.mb L[j] (2 * c.F + 1) c.R = false then false else Ak.ckl c self (L[j].n + 1) (L.drop (j + 1))) = true then 0 else 80):=by
     show _ = _
     rw [hCK.out,List.drop_eq_getElem_cons hjl,Ak.ckl]
    clear hg hCK
    generalize L[j] = x at *
    have KX : Hid (∀ v,Below (wr.heap.size + 1) (wr.alloc (.cells #[.int .i64 x.n,.int .u64 x.h,.int .u64 x.l,.int .i64 x.p] 231)) v → (v.cell? ⟨wr.heap.size,0,none⟩ = some (.int .i64 x.n)∧v.cell? ⟨wr.heap.size,1,none⟩ = some (.int .u64 x.h)∧v.cell? ⟨wr.heap.size,2,none⟩ = some (.int .u64 x.l)∧v.cell? ⟨wr.heap.size,3,none⟩ = some (.int .i64 x.p))∧(v.cell? ⟨w.heap.size,0,none⟩ = some (.int .i64 c.F)∧v.cell? ⟨w.heap.size,1,none⟩ = some (.int .i64 c.R))):=fun v hv =>
     ⟨⟨(hv.cell (p:=⟨wr.heap.size,0,none⟩) (by simp)).trans (by simp),(hv.cell (p:=⟨wr.heap.size,1,none⟩) (by simp)).trans (by simp),(hv.cell (p:=⟨wr.heap.size,2,none⟩) (by simp)).trans (by simp),(hv.cell (p:=⟨wr.heap.size,3,none⟩) (by simp)).trans (by simp)⟩,KC.out v ((hbl.out.alloc zr _).trans (hv.mono (by omega)))⟩
    have hza : Hid ((wr.alloc (.cells #[.int .i64 x.n,.int .u64 x.h,.int .u64 x.l,.int .i64 x.p] 231)).heap.size = wr.heap.size + 1):=by show _ = _;simp
    have D0 : Hid (Below (wr.heap.size + 1) (wr.alloc (.cells #[.int .i64 x.n,.int .u64 x.h,.int .u64 x.l,.int .i64 x.p] 231)) (wr.alloc (.cells #[.int .i64 x.n,.int .u64 x.h,.int .u64 x.l,.int .i64 x.p] 231))):=Below.refl _ _;have EB : Hid (Below (w.heap.size + 1) w1 (wr.alloc (.cells #[.int .i64 x.n,.int .u64 x.h,.int .u64 x.l,.int .i64 x.p] 231))):=hbl.out.alloc zr _;have EE:=hide (E1.out.trans (EB.out.mono (by omega)));have cn:=hide (fun W => x.node_any W)
    unfold Ak.val at cn
    have cm:=hide (fun W => x.may_any (2 * c.F + 1) c.R W)
    unfold Ak.val at cm
    obtain ⟨k0,k1⟩:=KC.out _ EB.out
    go_wp2_with fail
    refine (cn.out _).mono ?_;rintro e w2 ⟨rfl,bb⟩;have D2:=hide (D0.out.trans (bb.mono (by have:=D0.out.size;have h2:=hza.out;omega)));clear bb y0 y1 y2 y3 k0 k1;obtain ⟨⟨y0,y1,y2,y3⟩,⟨k0,k1⟩⟩:=KX.out w2 D2.out
    dsimp only
    by_cases h1 : x.n < l'
    ·have hCK2 : Hid (CK = 80):=by show _ = _;rw [hCK1.out,if_pos (c:=x.n < l' ∨ 2 * c.F + 1 ≤ x.n ∨ x.n = self ∨ Ak.mb x (2 * c.F + 1) c.R = false) (.inl h1)];rfl
     clear hCK1
     go_wp2
     go_ret
     exact ⟨by rw [hCK2.out];rfl,EE.out.trans (D2.out.mono (by omega))⟩
    ·go_wp2_with fail
     refine (cn.out _).mono ?_;rintro e w3 ⟨rfl,bb⟩;have D3:=hide (D2.out.trans (bb.mono (by have:=D2.out.size;have h2:=hza.out;omega)));clear bb y0 y1 y2 y3 k0 k1;obtain ⟨⟨y0,y1,y2,y3⟩,⟨k0,k1⟩⟩:=KX.out w3 D3.out
     dsimp only
     by_cases h2 : 2 * c.F + 1 ≤ x.n
     ·have hCK2 : Hid (CK = 80):=by show _ = _;rw [hCK1.out,if_pos (c:=x.n < l' ∨ 2 * c.F + 1 ≤ x.n ∨ x.n = self ∨ Ak.mb x (2 * c.F + 1) c.R = false) (.inr (.inl h2))];rfl
      clear hCK1
      go_wp2
      go_ret
      exact ⟨by rw [hCK2.out];rfl,EE.out.trans (D3.out.mono (by omega))⟩
     ·go_wp2_with fail
      refine (cn.out _).mono ?_;rintro e w4 ⟨rfl,bb⟩;have D4:=hide (D3.out.trans (bb.mono (by have:=D3.out.size;have h2:=hza.out;omega)));clear bb y0 y1 y2 y3 k0 k1;obtain ⟨⟨y0,y1,y2,y3⟩,⟨k0,k1⟩⟩:=KX.out w4 D4.out
      dsimp only
      by_cases h3 : x.n = self
      ·have h3b : (x.n == self) = true:=by simp [h3]
       have H3:=hide h3;clear h3
       have hCK2 : Hid (CK = 80):=by show _ = _;rw [hCK1.out,if_pos (c:=x.n < l' ∨ 2 * c.F + 1 ≤ x.n ∨ x.n = self ∨ Ak.mb x (2 * c.F + 1) c.R = false) (.inr (.inr (.inl H3.out)))];rfl
       clear hCK1
       go_wp2
       go_ret
       exact ⟨by rw [hCK2.out];rfl,EE.out.trans (D4.out.mono (by omega))⟩
      ·have h3b : (x.n == self) = false:=by simp [h3]
       go_wp2_with fail
       refine (cm.out _).mono ?_;rintro e w5 ⟨rfl,bb⟩;have D5:=hide (D4.out.trans (bb.mono (by have:=D4.out.size;have h2:=hza.out;omega)));clear bb y0 y1 y2 y3 k0 k1;obtain ⟨⟨y0,y1,y2,y3⟩,⟨k0,k1⟩⟩:=KX.out w5 D5.out
       dsimp only
       cases hmb : Ak.mb x (2 * c.F + 1) c.R with
       | false =>
        have hCK2 : Hid (CK = 80):=by show _ = _;rw [hCK1.out,if_pos (c:=x.n < l' ∨ 2 * c.F + 1 ≤ x.n ∨ x.n = self ∨ Ak.mb x (2 * c.F + 1) c.R = false) (.inr (.inr (.inr hmb)))];rfl
        clear hCK1
        go_wp2
        go_ret
        exact ⟨by rw [hCK2.out];rfl,EE.out.trans (D5.out.mono (by omega))⟩
       | true =>
        have hCK2 : Hid (CK = if Ak.ckl c self (x.n + 1) (L.drop (j + 1)) = true then 0 else 80):=by
         show _ = _
         have hno : ¬ (x.n < l' ∨ 2 * c.F + 1 ≤ x.n ∨ x.n = self ∨ Ak.mb x (2 * c.F + 1) c.R = false):=by
          rintro (hc | hc | hc | hc)
          ·omega
          ·omega
          ·exact h3 hc
          ·rw [hmb] at hc;cases hc
         rw [hCK1.out,if_neg hno]
        have hw3 : IntKind.i64.wrap (x.n + 1) = x.n + 1:=by rw [IntKind.wrap_i64];omega
        clear hCK1 hmb
        go_wp2_with fail
        refine (cn.out _).mono ?_;rintro e w6 ⟨rfl,bb⟩;have D6:=hide (D5.out.trans (bb.mono (by have:=D5.out.size;have h2:=hza.out;omega)));clear bb y0 y1 y2 y3 k0 k1;obtain ⟨⟨y0,y1,y2,y3⟩,⟨k0,k1⟩⟩:=KX.out w6 D6.out
        dsimp only
        go_wp2
        go_round
        case rel => exact ⟨j + 1,x.n + 1,by go_num,by omega,rfl,⟨by omega,by omega⟩,hCK2,EB.out.trans (D6.out.mono (by omega))⟩
        case measure => first | (simp [intOf];done) | (simp [intOf];omega)
   ·obtain rfl : j = n:=by omega
    have hCK1 : Hid (CK = 0):=by show _ = _;rw [hCK.out,List.drop_of_length_le (by rw [HN.out];exact Nat.le_refl _),Ak.ckl,if_pos rfl]
    clear hCK
    go_wp2
    go_ret
    exact ⟨by rw [hCK1.out];rfl,E1.out.trans (hbl.out.mono (by omega))⟩
 ·have hk2 : c.ok = false:=by simpa using hk
  have hCK1 : Hid (CK = 1):=by show _ = _;rw [HCK.out,if_pos hk2]
  rw [hk2];clear HCK
  go_wp2
  go_ret
  exact ⟨by rw [hCK1.out];rfl,E1.out⟩
set_option maxHeartbeats 1000000 in
theorem Ak.Check_any (c : Cg) (self : Int) (L : List Ak) (a : Option Addr) (n k : Nat) (w : World) (h : SlY yAkA w a n k L) (hb : n * 32 ≤ 281474976710656) :
  Calls Tryz.prog 165 #[c.val,.int .i64 self,.slice a n k] w fun e w' => e = .returned (.int .i64 (Ak.ck c self L))∧Below w.heap.size w w':=by
 have B0 : Hid (Below w.heap.size w (w.alloc (.cells #[.int .i64 c.F,.int .i64 c.R,.int .i64 c.P,.bool c.u] 23))):=(Below.refl _ w).alloc (Nat.le_refl _) _
 have hwz : Hid ((w.alloc (.cells #[.int .i64 c.F,.int .i64 c.R,.int .i64 c.P,.bool c.u] 23)).heap.size = w.heap.size + 1):=by show _ = _;simp
 have KC : Hid (∀ v,Below (w.heap.size + 1) (w.alloc (.cells #[.int .i64 c.F,.int .i64 c.R,.int .i64 c.P,.bool c.u] 23)) v → v.cell? ⟨w.heap.size,0,none⟩ = some (.int .i64 c.F)∧v.cell? ⟨w.heap.size,1,none⟩ = some (.int .i64 c.R)∧v.cell? ⟨w.heap.size,2,none⟩ = some (.int .i64 c.P)∧v.cell? ⟨w.heap.size,3,none⟩ = some (.bool c.u)):=fun v hv =>
  ⟨(hv.cell (p:=⟨w.heap.size,0,none⟩) (by simp)).trans (by simp),(hv.cell (p:=⟨w.heap.size,1,none⟩) (by simp)).trans (by simp),(hv.cell (p:=⟨w.heap.size,2,none⟩) (by simp)).trans (by simp),(hv.cell (p:=⟨w.heap.size,3,none⟩) (by simp)).trans (by simp)⟩
 have H:=hide h;clear h;have ck:=hide (fun W a' n' k' (hs : SlY yAkV W a' n' k' L) => Ak.check_any c self L a' n' k' W hs)
 unfold Cg.val at ck
 generalize Ak.ck c self L = CK at *
 show Calls Tryz.prog 165 #[.agg #[.int .i64 c.F,.int .i64 c.R,.int .i64 c.P,.bool c.u],.int .i64 self,.slice a n k] w _
 generalize hw0 : w.alloc (.cells #[.int .i64 c.F,.int .i64 c.R,.int .i64 c.P,.bool c.u] 23) = w0 at *
 have s0:=KC.out _ (Below.refl (w.heap.size + 1) w0).drew
 go_enter Tryz.func165,Tryz.ntmps165
 go_wp2_with fail
 try rw [hw0]
 clear hw0
 go_region_held3 (fun v => v.cell? ⟨w.heap.size,0,none⟩ = some (.int .i64 c.F)∧v.cell? ⟨w.heap.size,1,none⟩ = some (.int .i64 c.R)∧v.cell? ⟨w.heap.size,2,none⟩ = some (.int .i64 c.P)∧v.cell? ⟨w.heap.size,3,none⟩ = some (.bool c.u)) (with_reducible assumption) (first
  | (have:=D2;go_at_call 201;refine (ck.out _ _ _ _ (o2.sl' kAkV)).mono ?_;rintro e w3 ⟨rfl,b3⟩;have D3:=hide (D2.out.trans (b3.mono (by have:=D2.out.size;have h2:=hwz.out;omega)));have s3:=KC.out w3 D3.out;clear b3 o2)
  | (go_at_call 176;refine (Ak.hold_any L a n k _ (H.out.later B0.out.drew) hb).mono ?_;rintro e w2 ⟨rfl,o2,b2⟩;have D2:=hide ((Below.refl (w.heap.size + 1) w0).drew.trans (b2.mono (by show _ ≤ w0.heap.size;rw [hwz.out];exact Nat.le_refl _)));have s2:=KC.out w2 D2.out;clear b2))
 go_wp2
 go_ret
 exact ⟨rfl,B0.out.trans (D3.out.mono (by omega))⟩
end Go.Proofs.YtgncpcfncojgoaaGreatDoor
namespace Go.Proofs.YtgncpcfncojgoaaGreatDoor
open Go.RowKit Go.Maps
open Classical
structure Mk where
 n : Int
 h : Int
 l : Int
def Mk.cs (x : Mk) : List Value:=[.int .i64 x.n,.int .u64 x.h,.int .u64 x.l]
def Mk.val (x : Mk) : Value:=.agg #[.int .i64 x.n,.int .u64 x.h,.int .u64 x.l]
def yMkA : Lay Mk:=⟨112,32,3,24,Mk.cs,⟨0,0,0⟩⟩
def yMkV : Lay Mk:=⟨239,241,3,24,Mk.cs,⟨0,0,0⟩⟩
theorem kMkA : yMkA.Ok:=⟨by decide,fun x => rfl,fun x u h => by
  simp [yMkA,Mk.cs] at h
  rcases h with rfl | rfl | rfl <;> rfl,Tryz.underlying32,⟨.agg #[.int .i64 (⟨0,0,0⟩ : Mk).n,.int .u64 (⟨0,0,0⟩ : Mk).h,.int .u64 (⟨0,0,0⟩ : Mk).l],by kernel_rfl,rfl⟩⟩
theorem kMkV : yMkV.Ok:=⟨by decide,fun x => rfl,fun x u h => by
  simp [yMkV,Mk.cs] at h
  rcases h with rfl | rfl | rfl <;> rfl,Tryz.underlying241,⟨.agg #[.int .i64 (⟨0,0,0⟩ : Mk).n,.int .u64 (⟨0,0,0⟩ : Mk).h,.int .u64 (⟨0,0,0⟩ : Mk).l],by kernel_rfl,rfl⟩⟩
end Go.Proofs.YtgncpcfncojgoaaGreatDoor
namespace Go.Proofs.YtgncpcfncojgoaaGreatDoor
open Go.RowKit Go.Maps
open Classical
set_option maxHeartbeats 1000000 in
theorem Mk.hold_any (L : List Mk) (a : Option Addr) (n c : Nat) (w : World) (h : SlY yMkA w a n c L) (hb : n * 24 ≤ 281474976710656) :
  Calls Tryz.prog 181 #[.slice a n c,.func (.func 182) #[] #[]] w fun e w' => e = .returned (.slice (some ⟨w.heap.size,0,none⟩) n n)∧OwnY yMkV w.heap.size w' (.slice (some ⟨w.heap.size,0,none⟩) n n) L∧Below w.heap.size w w':=by
 have hmx:=h.max;have hcp:=h.cap;have hln:=h.len
 unfold maxLen at hmx
 have H:=hide h;have HN:=hide hln;clear h hln
 go_enter Tryz.func181,Tryz.ntmps181
 go_wp2_with (at_make;go_must (refine makeYs kMkV _ rfl (.tmp 9) rfl n rfl (by unfold maxLen;omega) hb ?zk))
 intro w1 o1 b1
 have HO : Hid (OwnY yMkV w.heap.size w1 (.slice (some ⟨w.heap.size,0,none⟩) n n) (L.take 0 ++ List.replicate (n - 0) yMkV.z)):=by
  show OwnY _ _ _ _ _
  simpa using o1
 clear o1
 go_wp2
 go_loopw [13] (fun i wr => ∃ j : Nat,i = .int .i64 (j : Int)∧j ≤ n∧Hid (OwnY yMkV w.heap.size wr (.slice (some ⟨w.heap.size,0,none⟩) n n) (L.take j ++ List.replicate (n - j) yMkV.z))∧Below w.heap.size w wr) (fun i _ => n - (intOf i).toNat)
 case atStart => exact ⟨0,rfl,Nat.zero_le _,HO,b1⟩
 case round =>
  obtain ⟨j,rfl,hj,hO,hbl⟩:=hrel;have hsz:=hbl.size
  by_cases hlt : j < n
  ·have hjl : j < L.length:=by rw [HN.out];exact hlt
   have hg : L[j]? = some L[j]:=List.getElem?_eq_getElem hjl;obtain ⟨q,o,rfl,hq,y0,y1,y2⟩:=(H.out.later hbl).MkA hg
   have hlt0 : w.heap.size < wr.heap.size:=by
    obtain ⟨_,_,ee,_,_,_,h4⟩:=hO.out.form
    injection ee with ee
    obtain ⟨g',e2,_,h5⟩:=h4 _ ee.symm
    cases e2
    exact h5
   have hset : Hid ((L.take j ++ List.replicate (n - j) yMkV.z).set j L[j] = L.take (j + 1) ++ List.replicate (n - (j + 1)) yMkV.z):=by
    show _ = _
    have hl : (L.take j).length = j:=by rw [List.length_take];omega
    rw [List.set_append_right _ _ (by omega),hl,Nat.sub_self,show n - j = (n - (j + 1)) + 1 by omega,List.replicate_succ,List.set_cons_zero,List.take_add_one,hg];simp only [Option.toList_some,List.append_assoc,List.cons_append,List.nil_append]
   have hget : Hid ((L.take j ++ List.replicate (n - j) yMkV.z)[j]? = some yMkV.z):=by
    show _ = _
    have hl : (L.take j).length = j:=by rw [List.length_take];omega
    rw [List.getElem?_append_right (by omega),hl,Nat.sub_self,show n - j = (n - (j + 1)) + 1 by omega,List.replicate_succ]
    rfl
   clear hg
   generalize L[j] = x at *
   generalize hX : L.take j ++ List.replicate (n - j) yMkV.z = XX at *
   clear hX;have bA:=hide (hbl.trans (((Below.refl _ wr).alloc (Nat.le_refl _) (.cells #[.int .i64 x.n,.int .u64 x.h,.int .u64 x.l] 112)).mono hsz));have OA:=hide (hO.out.alloc (.cells #[.int .i64 x.n,.int .u64 x.h,.int .u64 x.l] 112));have ca:=hide (x.as_any (wr.alloc (.cells #[.int .i64 x.n,.int .u64 x.h,.int .u64 x.l] 112)));clear hO
   go_wp2_with fail
   refine ca.out.mono ?_;rintro e w2 ⟨rfl,b2⟩;have O2:=hide (OA.out.grow b2);have z2:=b2.size;rw [World.size_alloc] at z2
   dsimp only
   go_wp2_with (first
    | (refine storeY kMkV _ rfl 239 (.tmp 23) (.tmp 22) rfl w.heap.size w.heap.size n n XX j 0 yMkV.z x _ rfl rfl hget.out (by kernel_rfl) (by exact (by decide : 3 ≤ 3)) rfl O2.out ?_;intro w3 o3 u3 z3;have O3:=hide o3;clear o3)
    | go_in)
   go_round
   case rel =>
    refine ⟨j + 1,by go_num,by omega,by show OwnY _ _ _ _ _;rw [← hset.out];exact O3.out,bA.out.trans ((b2.mono (by simp;omega)).trans (u3.below (by omega) (fun k e => by subst e;exact Nat.le_refl _)))⟩
   case measure => simp [intOf];omega
  ·obtain rfl : j = n:=by omega
   have O9 : Hid (OwnY yMkV w.heap.size wr (.slice (some ⟨w.heap.size,0,none⟩) j j) L):=by
    show OwnY _ _ _ _ _
    have:=hO.out;rw [Nat.sub_self,List.replicate_zero,List.append_nil,List.take_of_length_le (by rw [HN.out];exact Nat.le_refl _)] at this
    exact this
   clear hO
   go_wp2
   go_ret
   exact ⟨rfl,O9.out,hbl⟩
end Go.Proofs.YtgncpcfncojgoaaGreatDoor
namespace Go.Proofs.YtgncpcfncojgoaaGreatDoor
open Go.RowKit Go.Maps
open Classical
set_option maxHeartbeats 1000000 in
theorem Mk.index_any (p : Mk → Bool) (g : Nat) (lb : Array Value) (eg : ∀ args w,(callFunc g args).run Tryz.prog w = .ok (.enter g args) w) (L : List Mk) (a : Option Addr) (n c : Nat) (w : World) (h : SlY yMkV w a n c L)
  (hp : ∀ (W : World) (x : Mk),Below w.heap.size w W → Calls Tryz.prog g (#[x.val] ++ lb) W fun e w' => e = .returned (.bool (p x))∧Below w.heap.size w w') :
  Calls Tryz.prog 238 #[.slice a n c,.func (.func g) #[] lb] w fun e w' => e = .returned (.int .i64 (ix p L))∧Below w.heap.size w w':=by
 have hmx:=h.max;have hcp:=h.cap;have hln:=h.len
 unfold maxLen at hmx
 have H:=hide h;have HN:=hide hln;have HP:=hide hp;clear h hln hp
 go_enter Tryz.func238,Tryz.ntmps238
 go_wp2
 go_loopw [8] (fun i wr => ∃ j : Nat,i = .int .i64 (j : Int)∧j ≤ n∧Hid (∀ k (hk : k < L.length),k < j → p L[k] = false)∧Below w.heap.size w wr) (fun i _ => n - (intOf i).toNat)
 case atStart => exact ⟨0,rfl,Nat.zero_le _,fun k hk h => absurd h (Nat.not_lt_zero _),Below.refl _ _⟩
 case round =>
  obtain ⟨j,rfl,hj,hA,hbl⟩:=hrel;have hsz:=hbl.size
  by_cases hlt : j < n
  ·have hjl : j < L.length:=by rw [HN.out];exact hlt
   have hg : L[j]? = some L[j]:=List.getElem?_eq_getElem hjl;obtain ⟨q,o,rfl,hq,y0,y1,y2⟩:=(H.out.later hbl).MkV hg;have hcall:=HP.out wr L[j] hbl
   have hH : Hid (p L[j] = true → ix p L = (j : Int)):=fun hp => ix_hit hjl hp (fun k hk => hA.out k (by omega) hk)
   have hS : Hid (p L[j] = false → ∀ k (hk : k < L.length),k < j + 1 → p L[k] = false):=fun hp k hk hkj => by
    by_cases e : k = j
    ·subst e;exact hp
    ·exact hA.out k hk (by omega)
   clear hA hg
   generalize L[j] = x at *
   unfold Mk.val at hcall
   cases hq2 : p x with
   | true =>
    have hx:=hide (hH.out hq2);rw [hq2] at hcall;clear hH hS
    go_wp2_with (go_at_fn g;refine hcall.mono ?_;rintro e w' ⟨rfl,hb'⟩)
    go_ret
    exact ⟨by rw [hx.out];rfl,hb'⟩
   | false =>
    have hx:=hide (hS.out hq2);rw [hq2] at hcall;clear hH hS
    go_wp2_with (go_at_fn g;refine hcall.mono ?_;rintro e w' ⟨rfl,hb'⟩)
    go_round
    case rel => exact ⟨j + 1,by go_num,by omega,hx,hb'⟩
    case measure => simp [intOf];omega
  ·obtain rfl : j = n:=by omega
   have hx : Hid (ix p L = -1):=ix_miss (fun x hx => by
    obtain ⟨k,hk,rfl⟩:=List.mem_iff_getElem.1 hx
    exact hA.out k hk (by rw [← HN.out];exact hk))
   clear hA
   go_wp2
   go_ret
   exact ⟨by rw [hx.out];rfl,hbl⟩
end Go.Proofs.YtgncpcfncojgoaaGreatDoor
namespace Go.Proofs.YtgncpcfncojgoaaGreatDoor
open Go.RowKit Go.Maps
open Classical
end Go.Proofs.YtgncpcfncojgoaaGreatDoor
namespace Go.Proofs.YtgncpcfncojgoaaGreatDoor
open Go.RowKit Go.Maps
open Classical
end Go.Proofs.YtgncpcfncojgoaaGreatDoor
namespace Go.Proofs.YtgncpcfncojgoaaGreatDoor
open Go.RowKit Go.Maps
open Classical
end Go.Proofs.YtgncpcfncojgoaaGreatDoor
namespace Go.Proofs.YtgncpcfncojgoaaGreatDoor
open Go.RowKit Go.Maps
open Classical
end Go.Proofs.YtgncpcfncojgoaaGreatDoor
namespace Go.Proofs.YtgncpcfncojgoaaGreatDoor
open Go.RowKit Go.Maps
open Classical
end Go.Proofs.YtgncpcfncojgoaaGreatDoor
namespace Go.Proofs.YtgncpcfncojgoaaGreatDoor
open Go.RowKit Go.Maps
open Classical
set_option maxHeartbeats 1000000 in
theorem Mk.tell_any (L : List Mk) (a : Option Addr) (n c : Nat) (w : World) (h : SlY yMkV w a n c L) (hb : n * 24 ≤ 281474976710656) :
  Calls Tryz.prog 179 #[.slice a n c,.func (.func 183) #[] #[]] w fun e w' => e = .returned (.slice (some ⟨w.heap.size,0,none⟩) n n)∧OwnY yMkA w.heap.size w' (.slice (some ⟨w.heap.size,0,none⟩) n n) L∧Below w.heap.size w w':=by
 have hmx:=h.max;have hcp:=h.cap;have hln:=h.len
 unfold maxLen at hmx
 have H:=hide h;have HN:=hide hln;clear h hln
 go_enter Tryz.func179,Tryz.ntmps179
 go_wp2_with (at_make;go_must (refine makeYs kMkA _ rfl (.tmp 9) rfl n rfl (by unfold maxLen;omega) hb ?zk))
 intro w1 o1 b1
 have HO : Hid (OwnY yMkA w.heap.size w1 (.slice (some ⟨w.heap.size,0,none⟩) n n) (L.take 0 ++ List.replicate (n - 0) yMkA.z)):=by
  show OwnY _ _ _ _ _
  simpa using o1
 clear o1
 go_wp2
 go_loopw [13] (fun i wr => ∃ j : Nat,i = .int .i64 (j : Int)∧j ≤ n∧Hid (OwnY yMkA w.heap.size wr (.slice (some ⟨w.heap.size,0,none⟩) n n) (L.take j ++ List.replicate (n - j) yMkA.z))∧Below w.heap.size w wr) (fun i _ => n - (intOf i).toNat)
 case atStart => exact ⟨0,rfl,Nat.zero_le _,HO,b1⟩
 case round =>
  obtain ⟨j,rfl,hj,hO,hbl⟩:=hrel;have hsz:=hbl.size
  by_cases hlt : j < n
  ·have hjl : j < L.length:=by rw [HN.out];exact hlt
   have hg : L[j]? = some L[j]:=List.getElem?_eq_getElem hjl;obtain ⟨q,o,rfl,hq,y0,y1,y2⟩:=(H.out.later hbl).MkV hg
   have hlt0 : w.heap.size < wr.heap.size:=by
    obtain ⟨_,_,ee,_,_,_,h4⟩:=hO.out.form
    injection ee with ee
    obtain ⟨g',e2,_,h5⟩:=h4 _ ee.symm
    cases e2
    exact h5
   have hset : Hid ((L.take j ++ List.replicate (n - j) yMkA.z).set j L[j] = L.take (j + 1) ++ List.replicate (n - (j + 1)) yMkA.z):=by
    show _ = _
    have hl : (L.take j).length = j:=by rw [List.length_take];omega
    rw [List.set_append_right _ _ (by omega),hl,Nat.sub_self,show n - j = (n - (j + 1)) + 1 by omega,List.replicate_succ,List.set_cons_zero,List.take_add_one,hg];simp only [Option.toList_some,List.append_assoc,List.cons_append,List.nil_append]
   have hget : Hid ((L.take j ++ List.replicate (n - j) yMkA.z)[j]? = some yMkA.z):=by
    show _ = _
    have hl : (L.take j).length = j:=by rw [List.length_take];omega
    rw [List.getElem?_append_right (by omega),hl,Nat.sub_self,show n - j = (n - (j + 1)) + 1 by omega,List.replicate_succ]
    rfl
   clear hg
   generalize L[j] = x at *
   generalize hX : L.take j ++ List.replicate (n - j) yMkA.z = XX at *
   clear hX;have bA:=hide (hbl.trans (((Below.refl _ wr).alloc (Nat.le_refl _) (.cells #[.int .i64 x.n,.int .u64 x.h,.int .u64 x.l] 239)).mono hsz));have OA:=hide (hO.out.alloc (.cells #[.int .i64 x.n,.int .u64 x.h,.int .u64 x.l] 239));have ca:=hide (x.told_any (wr.alloc (.cells #[.int .i64 x.n,.int .u64 x.h,.int .u64 x.l] 239)));clear hO
   go_wp2_with fail
   refine ca.out.mono ?_;rintro e w2 ⟨rfl,b2⟩;have O2:=hide (OA.out.grow b2);have z2:=b2.size;rw [World.size_alloc] at z2
   dsimp only
   go_wp2_with (first
    | (refine storeY kMkA _ rfl 112 (.tmp 23) (.tmp 22) rfl w.heap.size w.heap.size n n XX j 0 yMkA.z x _ rfl rfl hget.out (by kernel_rfl) (by exact (by decide : 3 ≤ 3)) rfl O2.out ?_;intro w3 o3 u3 z3;have O3:=hide o3;clear o3)
    | go_in)
   go_round
   case rel =>
    refine ⟨j + 1,by go_num,by omega,by show OwnY _ _ _ _ _;rw [← hset.out];exact O3.out,bA.out.trans ((b2.mono (by simp;omega)).trans (u3.below (by omega) (fun k e => by subst e;exact Nat.le_refl _)))⟩
   case measure => simp [intOf];omega
  ·obtain rfl : j = n:=by omega
   have O9 : Hid (OwnY yMkA w.heap.size wr (.slice (some ⟨w.heap.size,0,none⟩) j j) L):=by
    show OwnY _ _ _ _ _
    have:=hO.out;rw [Nat.sub_self,List.replicate_zero,List.append_nil,List.take_of_length_le (by rw [HN.out];exact Nat.le_refl _)] at this
    exact this
   clear hO
   go_wp2
   go_ret
   exact ⟨rfl,O9.out,hbl⟩
end Go.Proofs.YtgncpcfncojgoaaGreatDoor
