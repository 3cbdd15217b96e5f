import Derived.Test.YtpcgnjpodnebpaaGreatDoorG3
set_option maxRecDepth 100000
set_option linter.unusedVariables false
set_option linter.unusedSimpArgs false
set_option maxHeartbeats 8000000
namespace Go.Proofs.YtpcgnjpodnebpaaGreatDoor
open Go.RowKit Go.Maps
open Classical
theorem Ak.hold_any (L : List Ak) (a : Option Addr) (n c : Nat) (w : World) (h : SlY yAkA w a n c L) (hb : n * 32 ≤ 281474976710656) :
  Calls Tryz.prog 92 #[.slice a n c,.func (.func 93) #[] #[]] w fun e w' => e = .returned (.slice (some ⟨w.heap.size,0,none⟩) n n)∧OwnY yAkV w.heap.size w' (.slice (some ⟨w.heap.size,0,none⟩) n n) L∧Below w.heap.size w w':=by
 have hmx:=h.max;have hcp:=h.cap;have hln:=h.len
 unfold maxLen at hmx
 have H:=hide h;have HN:=hide hln;clear h hln
 go_enter Tryz.func92,Tryz.ntmps92
 go_wp2_with (at_make;go_must (refine makeYs kAkV _ rfl (.tmp 9) rfl n rfl (by unfold maxLen;omega) hb ?zk))
 intro w1 o1 b1
 have HO : Hid (OwnY yAkV w.heap.size w1 (.slice (some ⟨w.heap.size,0,none⟩) n n) (L.take 0 ++ List.replicate (n - 0) yAkV.z)):=by
  show OwnY _ _ _ _ _
  simpa using o1
 clear o1
 go_wp2
 go_loopw [13] (fun i wr => ∃ j : Nat,i = .int .i64 (j : Int)∧j ≤ n∧Hid (OwnY yAkV w.heap.size wr (.slice (some ⟨w.heap.size,0,none⟩) n n) (L.take j ++ List.replicate (n - j) yAkV.z))∧Below w.heap.size w wr) (fun i _ => n - (intOf i).toNat)
 case atStart => exact ⟨0,rfl,Nat.zero_le _,HO,b1⟩
 case round =>
  obtain ⟨j,rfl,hj,hO,hbl⟩:=hrel;have hsz:=hbl.size
  by_cases hlt : j < n
  ·have hjl : j < L.length:=by rw [HN.out];exact hlt
   have hg : L[j]? = some L[j]:=List.getElem?_eq_getElem hjl;obtain ⟨q,o,rfl,hq,y0,y1,y2,y3⟩:=(H.out.later hbl).AkA hg
   have hlt0 : w.heap.size < wr.heap.size:=by
    obtain ⟨_,_,ee,_,_,_,h4⟩:=hO.out.form
    injection ee with ee
    obtain ⟨g',e2,_,h5⟩:=h4 _ ee.symm
    cases e2
    exact h5
   have hset : Hid ((L.take j ++ List.replicate (n - j) yAkV.z).set j L[j] = L.take (j + 1) ++ List.replicate (n - (j + 1)) yAkV.z):=by
    show _ = _
    have hl : (L.take j).length = j:=by rw [List.length_take];omega
    rw [List.set_append_right _ _ (by omega),hl,Nat.sub_self,show n - j = (n - (j + 1)) + 1 by omega,List.replicate_succ,List.set_cons_zero,List.take_add_one,hg];simp only [Option.toList_some,List.append_assoc,List.cons_append,List.nil_append]
   have hget : Hid ((L.take j ++ List.replicate (n - j) yAkV.z)[j]? = some yAkV.z):=by
    show _ = _
    have hl : (L.take j).length = j:=by rw [List.length_take];omega
    rw [List.getElem?_append_right (by omega),hl,Nat.sub_self,show n - j = (n - (j + 1)) + 1 by omega,List.replicate_succ]
    rfl
   clear hg
   generalize L[j] = x at *
   generalize hX : L.take j ++ List.replicate (n - j) yAkV.z = XX at *
   clear hX;have bA:=hide (hbl.trans (((Below.refl _ wr).alloc LR (.cells #[.int .i64 x.n,.int .u64 x.h,.int .u64 x.l,.int .i64 x.p] 105)).mono hsz));have OA:=hide (hO.out.alloc (.cells #[.int .i64 x.n,.int .u64 x.h,.int .u64 x.l,.int .i64 x.p] 105));have ca:=hide (x.as_any (wr.alloc (.cells #[.int .i64 x.n,.int .u64 x.h,.int .u64 x.l,.int .i64 x.p] 105)));clear hO
   go_wp2_with fail
   refine ca.out.mono ?_;rintro e w2 ⟨rfl,b2⟩;have O2:=hide (OA.out.grow b2);have z2:=b2.size;rw [World.size_alloc] at z2
   dsimp only
   go_wp2_with (first
    | (refine storeY kAkV _ rfl 141 (.tmp 23) (.tmp 22) rfl w.heap.size w.heap.size n n XX j 0 yAkV.z x _ rfl rfl hget.out (by kernel_rfl) (by exact (by decide : 4 ≤ 4)) rfl O2.out ?_;intro w3 o3 u3 z3;have O3:=hide o3;clear o3)
    | go_in)
   go_round
   case rel =>
    refine ⟨j + 1,by go_num,by omega,by show OwnY _ _ _ _ _;rw [← hset.out];exact O3.out,bA.out.trans ((b2.mono (by simp;omega)).trans (u3.below (by omega) (fun k e => by subst e;exact LR)))⟩
   case measure => simp [intOf];omega
  ·obtain rfl : j = n:=by omega
   have O9 : Hid (OwnY yAkV w.heap.size wr (.slice (some ⟨w.heap.size,0,none⟩) j j) L):=by
    show OwnY _ _ _ _ _
    have:=hO.out;rw [Nat.sub_self,List.replicate_zero,List.append_nil,List.take_of_length_le (by rw [HN.out];exact LR)] at this
    exact this
   clear hO
   go_wp2
   go_ret
   exact ⟨rfl,O9.out,hbl⟩
def Ak.mb (x : Ak) (n r : Int) : Bool:=decide (0 ≤ x.p∧x.p ≤ r)
theorem Ak.may_any (x : Ak) (n r : Int) (w : World) : Calls Tryz.prog 171 #[x.val,.int .i64 n,.int .i64 r] w fun e w' => e = .returned (.bool (Ak.mb x n r))∧Below w.heap.size w w':=by
 have bw : Hid (Below w.heap.size w (w.alloc (.cells #[.int .i64 x.n,.int .u64 x.h,.int .u64 x.l,.int .i64 x.p] 141))):=(Below.refl _ w).alloc LR _
 show Calls Tryz.prog 171 #[.agg #[.int .i64 x.n,.int .u64 x.h,.int .u64 x.l,.int .i64 x.p],.int .i64 n,.int .i64 r] w _
 by_cases h1 : 0 ≤ x.p
 ·by_cases h2 : x.p ≤ r
  ·have hk : Ak.mb x n r = true:=decide_eq_true ⟨h1,h2⟩
   go_enter Tryz.func171,Tryz.ntmps171
   go_wp2
   go_ret
   exact ⟨by first | rfl | (rw [hk];rfl),bw.out⟩
  ·have hk : Ak.mb x n r = false:=decide_eq_false (fun h => h2 h.2)
   go_enter Tryz.func171,Tryz.ntmps171
   go_wp2
   go_ret
   exact ⟨by first | rfl | (rw [hk];rfl),bw.out⟩
 ·have hk : Ak.mb x n r = false:=decide_eq_false (fun h => h1 h.1)
  go_enter Tryz.func171,Tryz.ntmps171
  go_wp2
  go_ret
  exact ⟨by first | rfl | (rw [hk];rfl),bw.out⟩
def Ak.ckl (c : Cg) (self : Int) : Int → List Ak → Bool
 | _,[] => true
 | least,x :: r => if x.n < least ∨ 2 * c.F + 1 ≤ x.n ∨ x.n = self ∨ Ak.mb x (2 * c.F + 1) c.R = false then false else Ak.ckl c self (x.n + 1) r
def Ak.ck (c : Cg) (self : Int) (L : List Ak) : Int:=if c.ok = false then 1 else if Ak.ckl c self 0 L = true then 0 else 80
theorem Ak.check_any (c : Cg) (self : Int) (L : List Ak) (a : Option Addr) (n k : Nat) (w : World) (h : SlY yAkV w a n k L) :
  Calls Tryz.prog 114 #[c.val,.int .i64 self,.slice a n k] w fun e w' => e = .returned (.int .i64 (Ak.ck c self L))∧Below w.heap.size w w':=by
 have hmx:=h.max;have hcp:=h.cap;have hln:=h.len
 unfold maxLen at hmx
 have H:=hide h;have HN:=hide hln;clear h hln;have B0 : Hid (Below w.heap.size w (w.alloc (.cells #[.int .i64 c.F,.int .i64 c.R,.int .i64 c.P,.bool c.u] 23))):=(Below.refl _ w).alloc LR _;have cc:=hide (fun W => configMayBe_any8 c W)
 unfold Cg.val at cc
 have HCK : Hid (Ak.ck c self L = if c.ok = false then 1 else if Ak.ckl c self 0 L = true then 0 else 80):=rfl
 generalize Ak.ck c self L = CK at *
 show Calls Tryz.prog 114 #[.agg #[.int .i64 c.F,.int .i64 c.R,.int .i64 c.P,.bool c.u],.int .i64 self,.slice a n k] w _
 go_enter Tryz.func114,Tryz.ntmps114
 go_wp2_with fail
 refine (cc.out _).mono ?_;rintro e w1 ⟨rfl,b1⟩
 dsimp only
 have hz1 : w.heap.size + 1 ≤ w1.heap.size:=by have:=b1.size;simpa using this
 have D1 : Hid (Below (w.heap.size + 1) (w.alloc (.cells #[.int .i64 c.F,.int .i64 c.R,.int .i64 c.P,.bool c.u] 23)) w1):=by show Below _ _ _;simpa using b1
 clear b1 cc
 have KC : Hid (∀ v,Below (w.heap.size + 1) w1 v → v.cell? ⟨w.heap.size,0,none⟩ = some (.int .i64 c.F)∧v.cell? ⟨w.heap.size,1,none⟩ = some (.int .i64 c.R)):=fun v hv =>
  ⟨((D1.out.trans hv).cell (p:=⟨w.heap.size,0,none⟩) (by simp)).trans (by simp),((D1.out.trans hv).cell (p:=⟨w.heap.size,1,none⟩) (by simp)).trans (by simp)⟩
 have E1:=hide (B0.out.trans (D1.out.mono (by omega)))
 by_cases hk : c.ok = true
 ·have hF : 1 ≤ c.F∧c.F ≤ 3∧1 ≤ c.R∧c.R ≤ 256:=of_decide_eq_true hk
  obtain ⟨hF1,hF3,_,_⟩:=hF
  have HC2 : Hid (CK = if Ak.ckl c self 0 (L.drop 0) = true then 0 else 80):=by show _ = _;rw [HCK.out,hk,if_neg (by simp)];rfl
  rw [hk];clear HCK hk
  have hw1 : IntKind.i64.wrap (2 * c.F) = 2 * c.F:=by rw [IntKind.wrap_i64];omega
  have hw2 : IntKind.i64.wrap (2 * c.F + 1) = 2 * c.F + 1:=by rw [IntKind.wrap_i64];omega
  obtain ⟨k0,k1⟩:=KC.out w1 BR
  go_wp2
  go_loopw [20,8] (fun i l wr => ∃ (j : Nat) (l' : Int),i = .int .i64 (j : Int)∧j ≤ n∧l = .int .i64 l'∧(0 ≤ l'∧l' ≤ 8)∧Hid (CK = if Ak.ckl c self l' (L.drop j) = true then 0 else 80)∧Hid (Below (w.heap.size + 1) w1 wr)) (fun i _ _ => n - (intOf i).toNat)
  case atStart => exact ⟨0,0,rfl,Nat.zero_le _,rfl,⟨Int.le_refl _,by omega⟩,HC2,BR⟩
  case round =>
   obtain ⟨j,l',rfl,hj,rfl,⟨hl0,hl8⟩,hCK,hbl⟩:=hrel
   have zr : w.heap.size + 1 ≤ wr.heap.size:=by have:=hbl.out.size;omega
   by_cases hlt : j < n
   ·have hjl : j < L.length:=by rw [HN.out];exact hlt
    have hg : L[j]? = some L[j]:=List.getElem?_eq_getElem hjl;obtain ⟨q,o,ea,hq,y0,y1,y2,y3⟩:=(H.out.later (E1.out.trans (hbl.out.mono (by omega)))).AkV hg
    cases ea
    have hCK1 : Hid (CK = if (if L[j].n < l' ∨ 2 * c.F + 1 ≤ L[j].n ∨ L[j].n = self ∨ Ak.mb L[j] (2 * c.F + 1) c.R = false then false else Ak.ckl c self (L[j].n + 1) (L.drop (j + 1))) = true then 0 else 80):=by
     show _ = _
     rw [hCK.out,List.drop_eq_getElem_cons hjl,Ak.ckl]
    clear hg hCK
    generalize L[j] = x at *
    have KX : Hid (∀ v,Below (wr.heap.size + 1) (wr.alloc (.cells #[.int .i64 x.n,.int .u64 x.h,.int .u64 x.l,.int .i64 x.p] 141)) v → (v.cell? ⟨wr.heap.size,0,none⟩ = some (.int .i64 x.n)∧v.cell? ⟨wr.heap.size,1,none⟩ = some (.int .u64 x.h)∧v.cell? ⟨wr.heap.size,2,none⟩ = some (.int .u64 x.l)∧v.cell? ⟨wr.heap.size,3,none⟩ = some (.int .i64 x.p))∧(v.cell? ⟨w.heap.size,0,none⟩ = some (.int .i64 c.F)∧v.cell? ⟨w.heap.size,1,none⟩ = some (.int .i64 c.R))):=fun v hv =>
     ⟨⟨(hv.cell (p:=⟨wr.heap.size,0,none⟩) (by simp)).trans (by simp),(hv.cell (p:=⟨wr.heap.size,1,none⟩) (by simp)).trans (by simp),(hv.cell (p:=⟨wr.heap.size,2,none⟩) (by simp)).trans (by simp),(hv.cell (p:=⟨wr.heap.size,3,none⟩) (by simp)).trans (by simp)⟩,KC.out v ((hbl.out.alloc zr _).trans (hv.mono (by omega)))⟩
    have hza : Hid ((wr.alloc (.cells #[.int .i64 x.n,.int .u64 x.h,.int .u64 x.l,.int .i64 x.p] 141)).heap.size = wr.heap.size + 1):=by show _ = _;simp
    have D0 : Hid (Below (wr.heap.size + 1) (wr.alloc (.cells #[.int .i64 x.n,.int .u64 x.h,.int .u64 x.l,.int .i64 x.p] 141)) (wr.alloc (.cells #[.int .i64 x.n,.int .u64 x.h,.int .u64 x.l,.int .i64 x.p] 141))):=BR;have EB : Hid (Below (w.heap.size + 1) w1 (wr.alloc (.cells #[.int .i64 x.n,.int .u64 x.h,.int .u64 x.l,.int .i64 x.p] 141))):=hbl.out.alloc zr _;have EE:=hide (E1.out.trans (EB.out.mono (by omega)));have cn:=hide (fun W => x.node_any W)
    unfold Ak.val at cn
    have cm:=hide (fun W => x.may_any (2 * c.F + 1) c.R W)
    unfold Ak.val at cm
    obtain ⟨k0,k1⟩:=KC.out _ EB.out
    go_wp2_with fail
    refine (cn.out _).mono ?_;rintro e w2 ⟨rfl,bb⟩;have D2:=hide (D0.out.trans (bb.mono (by have:=D0.out.size;have h2:=hza.out;omega)));clear bb y0 y1 y2 y3 k0 k1;obtain ⟨⟨y0,y1,y2,y3⟩,⟨k0,k1⟩⟩:=KX.out w2 D2.out
    dsimp only
    by_cases h1 : x.n < l'
    ·have hCK2 : Hid (CK = 80):=by show _ = _;rw [hCK1.out,if_pos (c:=x.n < l' ∨ 2 * c.F + 1 ≤ x.n ∨ x.n = self ∨ Ak.mb x (2 * c.F + 1) c.R = false) (.inl h1)];rfl
     clear hCK1
     go_wp2
     go_ret
     exact ⟨by rw [hCK2.out];rfl,EE.out.trans (D2.out.mono (by omega))⟩
    ·go_wp2_with fail
     refine (cn.out _).mono ?_;rintro e w3 ⟨rfl,bb⟩;have D3:=hide (D2.out.trans (bb.mono (by have:=D2.out.size;have h2:=hza.out;omega)));clear bb y0 y1 y2 y3 k0 k1;obtain ⟨⟨y0,y1,y2,y3⟩,⟨k0,k1⟩⟩:=KX.out w3 D3.out
     dsimp only
     by_cases h2 : 2 * c.F + 1 ≤ x.n
     ·have hCK2 : Hid (CK = 80):=by show _ = _;rw [hCK1.out,if_pos (c:=x.n < l' ∨ 2 * c.F + 1 ≤ x.n ∨ x.n = self ∨ Ak.mb x (2 * c.F + 1) c.R = false) (.inr (.inl h2))];rfl
      clear hCK1
      go_wp2
      go_ret
      exact ⟨by rw [hCK2.out];rfl,EE.out.trans (D3.out.mono (by omega))⟩
     ·go_wp2_with fail
      refine (cn.out _).mono ?_;rintro e w4 ⟨rfl,bb⟩;have D4:=hide (D3.out.trans (bb.mono (by have:=D3.out.size;have h2:=hza.out;omega)));clear bb y0 y1 y2 y3 k0 k1;obtain ⟨⟨y0,y1,y2,y3⟩,⟨k0,k1⟩⟩:=KX.out w4 D4.out
      dsimp only
      by_cases h3 : x.n = self
      ·have h3b : (x.n == self) = true:=by simp [h3]
       have H3:=hide h3;clear h3
       have hCK2 : Hid (CK = 80):=by show _ = _;rw [hCK1.out,if_pos (c:=x.n < l' ∨ 2 * c.F + 1 ≤ x.n ∨ x.n = self ∨ Ak.mb x (2 * c.F + 1) c.R = false) (.inr (.inr (.inl H3.out)))];rfl
       clear hCK1
       go_wp2
       go_ret
       exact ⟨by rw [hCK2.out];rfl,EE.out.trans (D4.out.mono (by omega))⟩
      ·have h3b : (x.n == self) = false:=by simp [h3]
       go_wp2_with fail
       refine (cm.out _).mono ?_;rintro e w5 ⟨rfl,bb⟩;have D5:=hide (D4.out.trans (bb.mono (by have:=D4.out.size;have h2:=hza.out;omega)));clear bb y0 y1 y2 y3 k0 k1;obtain ⟨⟨y0,y1,y2,y3⟩,⟨k0,k1⟩⟩:=KX.out w5 D5.out
       dsimp only
       cases hmb : Ak.mb x (2 * c.F + 1) c.R with
       | false =>
        have hCK2 : Hid (CK = 80):=by show _ = _;rw [hCK1.out,if_pos (c:=x.n < l' ∨ 2 * c.F + 1 ≤ x.n ∨ x.n = self ∨ Ak.mb x (2 * c.F + 1) c.R = false) (.inr (.inr (.inr hmb)))];rfl
        clear hCK1
        go_wp2
        go_ret
        exact ⟨by rw [hCK2.out];rfl,EE.out.trans (D5.out.mono (by omega))⟩
       | true =>
        have hCK2 : Hid (CK = if Ak.ckl c self (x.n + 1) (L.drop (j + 1)) = true then 0 else 80):=by
         show _ = _
         have hno : ¬ (x.n < l' ∨ 2 * c.F + 1 ≤ x.n ∨ x.n = self ∨ Ak.mb x (2 * c.F + 1) c.R = false):=by
          rintro (hc | hc | hc | hc)
          ·omega
          ·omega
          ·exact h3 hc
          ·rw [hmb] at hc;cases hc
         rw [hCK1.out,if_neg hno]
        have hw3 : IntKind.i64.wrap (x.n + 1) = x.n + 1:=by rw [IntKind.wrap_i64];omega
        clear hCK1 hmb
        go_wp2_with fail
        refine (cn.out _).mono ?_;rintro e w6 ⟨rfl,bb⟩;have D6:=hide (D5.out.trans (bb.mono (by have:=D5.out.size;have h2:=hza.out;omega)));clear bb y0 y1 y2 y3 k0 k1;obtain ⟨⟨y0,y1,y2,y3⟩,⟨k0,k1⟩⟩:=KX.out w6 D6.out
        dsimp only
        go_wp2
        go_round
        case rel => exact ⟨j + 1,x.n + 1,by go_num,by omega,rfl,⟨by omega,by omega⟩,hCK2,EB.out.trans (D6.out.mono (by omega))⟩
        case measure => first | (simp [intOf];done) | (simp [intOf];omega)
   ·obtain rfl : j = n:=by omega
    have hCK1 : Hid (CK = 0):=by show _ = _;rw [hCK.out,List.drop_of_length_le (by rw [HN.out];exact LR),Ak.ckl,if_pos rfl]
    clear hCK
    go_wp2
    go_ret
    exact ⟨by rw [hCK1.out];rfl,E1.out.trans (hbl.out.mono (by omega))⟩
 ·have hk2 : c.ok = false:=by simpa using hk
  have hCK1 : Hid (CK = 1):=by show _ = _;rw [HCK.out,if_pos hk2]
  rw [hk2];clear HCK
  go_wp2
  go_ret
  exact ⟨by rw [hCK1.out];rfl,E1.out⟩
theorem Ak.Check_any (c : Cg) (self : Int) (L : List Ak) (a : Option Addr) (n k : Nat) (w : World) (h : SlY yAkA w a n k L) (hb : n * 32 ≤ 281474976710656) :
  Calls Tryz.prog 73 #[c.val,.int .i64 self,.slice a n k] w fun e w' => e = .returned (.int .i64 (Ak.ck c self L))∧Below w.heap.size w w':=by
 have B0 : Hid (Below w.heap.size w (w.alloc (.cells #[.int .i64 c.F,.int .i64 c.R,.int .i64 c.P,.bool c.u] 23))):=(Below.refl _ w).alloc LR _
 have hwz : Hid ((w.alloc (.cells #[.int .i64 c.F,.int .i64 c.R,.int .i64 c.P,.bool c.u] 23)).heap.size = w.heap.size + 1):=by show _ = _;simp
 have KC : Hid (∀ v,Below (w.heap.size + 1) (w.alloc (.cells #[.int .i64 c.F,.int .i64 c.R,.int .i64 c.P,.bool c.u] 23)) v → v.cell? ⟨w.heap.size,0,none⟩ = some (.int .i64 c.F)∧v.cell? ⟨w.heap.size,1,none⟩ = some (.int .i64 c.R)∧v.cell? ⟨w.heap.size,2,none⟩ = some (.int .i64 c.P)∧v.cell? ⟨w.heap.size,3,none⟩ = some (.bool c.u)):=fun v hv =>
  ⟨(hv.cell (p:=⟨w.heap.size,0,none⟩) (by simp)).trans (by simp),(hv.cell (p:=⟨w.heap.size,1,none⟩) (by simp)).trans (by simp),(hv.cell (p:=⟨w.heap.size,2,none⟩) (by simp)).trans (by simp),(hv.cell (p:=⟨w.heap.size,3,none⟩) (by simp)).trans (by simp)⟩
 have H:=hide h;clear h;have ck:=hide (fun W a' n' k' (hs : SlY yAkV W a' n' k' L) => Ak.check_any c self L a' n' k' W hs)
 unfold Cg.val at ck
 generalize Ak.ck c self L = CK at *
 show Calls Tryz.prog 73 #[.agg #[.int .i64 c.F,.int .i64 c.R,.int .i64 c.P,.bool c.u],.int .i64 self,.slice a n k] w _
 generalize hw0 : w.alloc (.cells #[.int .i64 c.F,.int .i64 c.R,.int .i64 c.P,.bool c.u] 23) = w0 at *
 have s0:=KC.out _ (Below.refl (w.heap.size + 1) w0).drew
 go_enter Tryz.func73,Tryz.ntmps73
 go_wp2_with fail
 try rw [hw0]
 clear hw0
 go_region_held3 (fun v => v.cell? ⟨w.heap.size,0,none⟩ = some (.int .i64 c.F)∧v.cell? ⟨w.heap.size,1,none⟩ = some (.int .i64 c.R)∧v.cell? ⟨w.heap.size,2,none⟩ = some (.int .i64 c.P)∧v.cell? ⟨w.heap.size,3,none⟩ = some (.bool c.u)) (with_reducible assumption) (first
  | (have:=D2;go_at_call 114;refine (ck.out _ _ _ _ (o2.sl' kAkV)).mono ?_;rintro e w3 ⟨rfl,b3⟩;have D3:=hide (D2.out.trans (b3.mono (by have:=D2.out.size;have h2:=hwz.out;omega)));have s3:=KC.out w3 D3.out;clear b3 o2)
  | (go_at_call 92;refine (Ak.hold_any L a n k _ (H.out.later B0.out.drew) hb).mono ?_;rintro e w2 ⟨rfl,o2,b2⟩;have D2:=hide ((Below.refl (w.heap.size + 1) w0).drew.trans (b2.mono (by show _ ≤ w0.heap.size;rw [hwz.out];exact LR)));have s2:=KC.out w2 D2.out;clear b2))
 go_wp2
 go_ret
 exact ⟨rfl,B0.out.trans (D3.out.mono (by omega))⟩
structure Mk where
 n : Int
 h : Int
 l : Int
def Mk.cs (x : Mk) : List Value:=[.int .i64 x.n,.int .u64 x.h,.int .u64 x.l]
def Mk.val (x : Mk) : Value:=.agg #[.int .i64 x.n,.int .u64 x.h,.int .u64 x.l]
def yMkA : Lay Mk:=⟨119,29,3,24,Mk.cs,⟨0,0,0⟩⟩
def yMkV : Lay Mk:=⟨149,151,3,24,Mk.cs,⟨0,0,0⟩⟩
theorem kMkA : yMkA.Ok:=⟨by decide,fun x => rfl,fun x u h => by
  simp [yMkA,Mk.cs] at h
  rcases h with rfl | rfl | rfl <;> rfl,Tryz.underlying29,⟨.agg #[.int .i64 (⟨0,0,0⟩ : Mk).n,.int .u64 (⟨0,0,0⟩ : Mk).h,.int .u64 (⟨0,0,0⟩ : Mk).l],by kernel_rfl,rfl⟩⟩
theorem kMkV : yMkV.Ok:=⟨by decide,fun x => rfl,fun x u h => by
  simp [yMkV,Mk.cs] at h
  rcases h with rfl | rfl | rfl <;> rfl,Tryz.underlying151,⟨.agg #[.int .i64 (⟨0,0,0⟩ : Mk).n,.int .u64 (⟨0,0,0⟩ : Mk).h,.int .u64 (⟨0,0,0⟩ : Mk).l],by kernel_rfl,rfl⟩⟩
theorem SlY.MkA {w : World} {a : Option Addr} {n c : Nat} {L : List Mk} (h : SlY yMkA w a n c L) {j : Nat} {x : Mk} (hx : L[j]? = some x) : ∃ q o,a = some ⟨q,o,none⟩∧q < w.heap.size∧w.cell? ⟨q,o + j * 3,none⟩ = some (.int .i64 x.n)∧w.cell? ⟨q,o + j * 3 + 1,none⟩ = some (.int .u64 x.h)∧w.cell? ⟨q,o + j * 3 + 2,none⟩ = some (.int .u64 x.l):=by
 obtain ⟨q,o,ea,hq,hl⟩:=h.place (by rintro rfl;simp at hx)
 exact ⟨q,o,ea,hq,hl j x hx 0 _ rfl,hl j x hx 1 _ rfl,hl j x hx 2 _ rfl⟩
theorem SlY.MkV {w : World} {a : Option Addr} {n c : Nat} {L : List Mk} (h : SlY yMkV w a n c L) {j : Nat} {x : Mk} (hx : L[j]? = some x) : ∃ q o,a = some ⟨q,o,none⟩∧q < w.heap.size∧w.cell? ⟨q,o + j * 3,none⟩ = some (.int .i64 x.n)∧w.cell? ⟨q,o + j * 3 + 1,none⟩ = some (.int .u64 x.h)∧w.cell? ⟨q,o + j * 3 + 2,none⟩ = some (.int .u64 x.l):=by
 obtain ⟨q,o,ea,hq,hl⟩:=h.place (by rintro rfl;simp at hx)
 exact ⟨q,o,ea,hq,hl j x hx 0 _ rfl,hl j x hx 1 _ rfl,hl j x hx 2 _ rfl⟩
theorem Mk.node_any (x : Mk) (w : World) : Calls Tryz.prog 175 #[x.val] w fun e w' => e = .returned (.int .i64 x.n)∧Below w.heap.size w w':=by
 show Calls Tryz.prog 175 #[.agg #[.int .i64 x.n,.int .u64 x.h,.int .u64 x.l]] w _
 go_enter Tryz.func175,Tryz.ntmps175
 go_wp2
 go_ret
 exact ⟨rfl,BR.alloc LR _⟩
theorem Mk.draw_any (x : Mk) (w : World) : Calls Tryz.prog 173 #[x.val] w fun e w' => e = .returned (.agg #[.int .u64 x.h,.int .u64 x.l])∧Below w.heap.size w w':=by
 show Calls Tryz.prog 173 #[.agg #[.int .i64 x.n,.int .u64 x.h,.int .u64 x.l]] w _
 go_enter Tryz.func173,Tryz.ntmps173
 go_wp2
 refine bodyPost_ret (v:=.agg #[.int .u64 x.h,.int .u64 x.l]) (by simp [results,Tryz.results173,go_sem]) rfl ?_
 exact ⟨rfl,by (repeat (first | exact Below.refl _ _ | assumption | refine Below.drew ?_ | refine Below.alloc ?_ (by first | (simp;done) | (simp;omega) | omega) _ | refine Below.setCell ?_ (by first | (simp;done) | (simp;omega) | omega) _))⟩
theorem Mk.as_any (x : Mk) (w : World) : Calls Tryz.prog 98 #[x.val] w fun e w' => e = .returned x.val∧Below w.heap.size w w':=by
 show Calls Tryz.prog 98 #[.agg #[.int .i64 x.n,.int .u64 x.h,.int .u64 x.l]] w _
 go_enter Tryz.func98,Tryz.ntmps98
 go_wp2
 refine bodyPost_ret (v:=x.val) (by simp [results,Tryz.results98,go_sem,Mk.val]) rfl ?_
 exact ⟨rfl,by (repeat (first | exact Below.refl _ _ | assumption | refine Below.drew ?_ | refine Below.alloc ?_ (by first | (simp;done) | (simp;omega) | omega) _ | refine Below.setCell ?_ (by first | (simp;done) | (simp;omega) | omega) _))⟩
theorem Mk.ifnode (x : Mk) (w : World) : (invoke (.fn (.method "amnesia/tally.node") #[]) #[.iface 149 x.val]).run Tryz.prog w = .ok (.enter 175 #[x.val]) w := by kernel_rfl
theorem Mk.hold_any (L : List Mk) (a : Option Addr) (n c : Nat) (w : World) (h : SlY yMkA w a n c L) (hb : n * 24 ≤ 281474976710656) :
  Calls Tryz.prog 97 #[.slice a n c,.func (.func 98) #[] #[]] w fun e w' => e = .returned (.slice (some ⟨w.heap.size,0,none⟩) n n)∧OwnY yMkV w.heap.size w' (.slice (some ⟨w.heap.size,0,none⟩) n n) L∧Below w.heap.size w w':=by
 have hmx:=h.max;have hcp:=h.cap;have hln:=h.len
 unfold maxLen at hmx
 have H:=hide h;have HN:=hide hln;clear h hln
 go_enter Tryz.func97,Tryz.ntmps97
 go_wp2_with (at_make;go_must (refine makeYs kMkV _ rfl (.tmp 9) rfl n rfl (by unfold maxLen;omega) hb ?zk))
 intro w1 o1 b1
 have HO : Hid (OwnY yMkV w.heap.size w1 (.slice (some ⟨w.heap.size,0,none⟩) n n) (L.take 0 ++ List.replicate (n - 0) yMkV.z)):=by
  show OwnY _ _ _ _ _
  simpa using o1
 clear o1
 go_wp2
 go_loopw [13] (fun i wr => ∃ j : Nat,i = .int .i64 (j : Int)∧j ≤ n∧Hid (OwnY yMkV w.heap.size wr (.slice (some ⟨w.heap.size,0,none⟩) n n) (L.take j ++ List.replicate (n - j) yMkV.z))∧Below w.heap.size w wr) (fun i _ => n - (intOf i).toNat)
 case atStart => exact ⟨0,rfl,Nat.zero_le _,HO,b1⟩
 case round =>
  obtain ⟨j,rfl,hj,hO,hbl⟩:=hrel;have hsz:=hbl.size
  by_cases hlt : j < n
  ·have hjl : j < L.length:=by rw [HN.out];exact hlt
   have hg : L[j]? = some L[j]:=List.getElem?_eq_getElem hjl;obtain ⟨q,o,rfl,hq,y0,y1,y2⟩:=(H.out.later hbl).MkA hg
   have hlt0 : w.heap.size < wr.heap.size:=by
    obtain ⟨_,_,ee,_,_,_,h4⟩:=hO.out.form
    injection ee with ee
    obtain ⟨g',e2,_,h5⟩:=h4 _ ee.symm
    cases e2
    exact h5
   have hset : Hid ((L.take j ++ List.replicate (n - j) yMkV.z).set j L[j] = L.take (j + 1) ++ List.replicate (n - (j + 1)) yMkV.z):=by
    show _ = _
    have hl : (L.take j).length = j:=by rw [List.length_take];omega
    rw [List.set_append_right _ _ (by omega),hl,Nat.sub_self,show n - j = (n - (j + 1)) + 1 by omega,List.replicate_succ,List.set_cons_zero,List.take_add_one,hg];simp only [Option.toList_some,List.append_assoc,List.cons_append,List.nil_append]
   have hget : Hid ((L.take j ++ List.replicate (n - j) yMkV.z)[j]? = some yMkV.z):=by
    show _ = _
    have hl : (L.take j).length = j:=by rw [List.length_take];omega
    rw [List.getElem?_append_right (by omega),hl,Nat.sub_self,show n - j = (n - (j + 1)) + 1 by omega,List.replicate_succ]
    rfl
   clear hg
   generalize L[j] = x at *
   generalize hX : L.take j ++ List.replicate (n - j) yMkV.z = XX at *
   clear hX;have bA:=hide (hbl.trans (((Below.refl _ wr).alloc LR (.cells #[.int .i64 x.n,.int .u64 x.h,.int .u64 x.l] 119)).mono hsz));have OA:=hide (hO.out.alloc (.cells #[.int .i64 x.n,.int .u64 x.h,.int .u64 x.l] 119));have ca:=hide (x.as_any (wr.alloc (.cells #[.int .i64 x.n,.int .u64 x.h,.int .u64 x.l] 119)));clear hO
   go_wp2_with fail
   refine ca.out.mono ?_;rintro e w2 ⟨rfl,b2⟩;have O2:=hide (OA.out.grow b2);have z2:=b2.size;rw [World.size_alloc] at z2
   dsimp only
   go_wp2_with (first
    | (refine storeY kMkV _ rfl 149 (.tmp 23) (.tmp 22) rfl w.heap.size w.heap.size n n XX j 0 yMkV.z x _ rfl rfl hget.out (by kernel_rfl) (by exact (by decide : 3 ≤ 3)) rfl O2.out ?_;intro w3 o3 u3 z3;have O3:=hide o3;clear o3)
    | go_in)
   go_round
   case rel =>
    refine ⟨j + 1,by go_num,by omega,by show OwnY _ _ _ _ _;rw [← hset.out];exact O3.out,bA.out.trans ((b2.mono (by simp;omega)).trans (u3.below (by omega) (fun k e => by subst e;exact LR)))⟩
   case measure => simp [intOf];omega
  ·obtain rfl : j = n:=by omega
   have O9 : Hid (OwnY yMkV w.heap.size wr (.slice (some ⟨w.heap.size,0,none⟩) j j) L):=by
    show OwnY _ _ _ _ _
    have:=hO.out;rw [Nat.sub_self,List.replicate_zero,List.append_nil,List.take_of_length_le (by rw [HN.out];exact LR)] at this
    exact this
   clear hO
   go_wp2
   go_ret
   exact ⟨rfl,O9.out,hbl⟩
theorem Mk.index_any (p : Mk → Bool) (g : Nat) (lb : Array Value) (eg : ∀ args w,(callFunc g args).run Tryz.prog w = .ok (.enter g args) w) (L : List Mk) (a : Option Addr) (n c : Nat) (w : World) (h : SlY yMkV w a n c L)
  (hp : ∀ (W : World) (x : Mk),Below w.heap.size w W → Calls Tryz.prog g (#[x.val] ++ lb) W fun e w' => e = .returned (.bool (p x))∧Below w.heap.size w w') :
  Calls Tryz.prog 150 #[.slice a n c,.func (.func g) #[] lb] w fun e w' => e = .returned (.int .i64 (ix p L))∧Below w.heap.size w w':=by
 have hmx:=h.max;have hcp:=h.cap;have hln:=h.len
 unfold maxLen at hmx
 have H:=hide h;have HN:=hide hln;have HP:=hide hp;clear h hln hp
 go_enter Tryz.func150,Tryz.ntmps150
 go_wp2
 go_loopw [8] (fun i wr => ∃ j : Nat,i = .int .i64 (j : Int)∧j ≤ n∧Hid (∀ k (hk : k < L.length),k < j → p L[k] = false)∧Below w.heap.size w wr) (fun i _ => n - (intOf i).toNat)
 case atStart => exact ⟨0,rfl,Nat.zero_le _,fun k hk h => absurd h (Nat.not_lt_zero _),BR⟩
 case round =>
  obtain ⟨j,rfl,hj,hA,hbl⟩:=hrel;have hsz:=hbl.size
  by_cases hlt : j < n
  ·have hjl : j < L.length:=by rw [HN.out];exact hlt
   have hg : L[j]? = some L[j]:=List.getElem?_eq_getElem hjl;obtain ⟨q,o,rfl,hq,y0,y1,y2⟩:=(H.out.later hbl).MkV hg;have hcall:=HP.out wr L[j] hbl
   have hH : Hid (p L[j] = true → ix p L = (j : Int)):=fun hp => ix_hit hjl hp (fun k hk => hA.out k (by omega) hk)
   have hS : Hid (p L[j] = false → ∀ k (hk : k < L.length),k < j + 1 → p L[k] = false):=fun hp k hk hkj => by
    by_cases e : k = j
    ·subst e;exact hp
    ·exact hA.out k hk (by omega)
   clear hA hg
   generalize L[j] = x at *
   unfold Mk.val at hcall
   cases hq2 : p x with
   | true =>
    have hx:=hide (hH.out hq2);rw [hq2] at hcall;clear hH hS
    go_wp2_with (go_at_fn g;refine hcall.mono ?_;rintro e w' ⟨rfl,hb'⟩)
    go_ret
    exact ⟨by rw [hx.out];rfl,hb'⟩
   | false =>
    have hx:=hide (hS.out hq2);rw [hq2] at hcall;clear hH hS
    go_wp2_with (go_at_fn g;refine hcall.mono ?_;rintro e w' ⟨rfl,hb'⟩)
    go_round
    case rel => exact ⟨j + 1,by go_num,by omega,hx,hb'⟩
    case measure => simp [intOf];omega
  ·obtain rfl : j = n:=by omega
   have hx : Hid (ix p L = -1):=ix_miss (fun x hx => by
    obtain ⟨k,hk,rfl⟩:=List.mem_iff_getElem.1 hx
    exact hA.out k hk (by rw [← HN.out];exact hk))
   clear hA
   go_wp2
   go_ret
   exact ⟨by rw [hx.out];rfl,hbl⟩
theorem Mk.box (x : Mk) (w v : World) (hv : Below (w.heap.size + 1) (w.alloc (.cells #[.int .i64 x.n,.int .u64 x.h,.int .u64 x.l] 149)) v) : v.cell? ⟨w.heap.size,0,none⟩ = some (.int .i64 x.n)∧v.cell? ⟨w.heap.size,1,none⟩ = some (.int .u64 x.h)∧v.cell? ⟨w.heap.size,2,none⟩ = some (.int .u64 x.l) :=
 ⟨(hv.cell (p:=⟨w.heap.size,0,none⟩) (by simp)).trans (by simp),(hv.cell (p:=⟨w.heap.size,1,none⟩) (by simp)).trans (by simp),(hv.cell (p:=⟨w.heap.size,2,none⟩) (by simp)).trans (by simp)⟩
theorem Mk.ifdraw (x : Mk) (w : World) : (invoke (.fn (.method "amnesia/tally.draw") #[]) #[.iface 149 x.val]).run Tryz.prog w = .ok (.enter 173 #[x.val]) w := by kernel_rfl
theorem Mk.told_any (x : Mk) (w : World) : Calls Tryz.prog 99 #[x.val] w fun e w' => e = .returned x.val∧Below w.heap.size w w':=by
 show Calls Tryz.prog 99 #[.agg #[.int .i64 x.n,.int .u64 x.h,.int .u64 x.l]] w _
 go_enter Tryz.func99,Tryz.ntmps99
 go_wp2
 refine bodyPost_ret (v:=x.val) (by simp [results,Tryz.results99,go_sem,Mk.val]) rfl ?_
 exact ⟨rfl,by (repeat (first | exact Below.refl _ _ | assumption | refine Below.drew ?_ | refine Below.alloc ?_ (by first | (simp;done) | (simp;omega) | omega) _ | refine Below.setCell ?_ (by first | (simp;done) | (simp;omega) | omega) _))⟩
theorem Mk.tell_any (L : List Mk) (a : Option Addr) (n c : Nat) (w : World) (h : SlY yMkV w a n c L) (hb : n * 24 ≤ 281474976710656) :
  Calls Tryz.prog 95 #[.slice a n c,.func (.func 99) #[] #[]] w fun e w' => e = .returned (.slice (some ⟨w.heap.size,0,none⟩) n n)∧OwnY yMkA w.heap.size w' (.slice (some ⟨w.heap.size,0,none⟩) n n) L∧Below w.heap.size w w':=by
 have hmx:=h.max;have hcp:=h.cap;have hln:=h.len
 unfold maxLen at hmx
 have H:=hide h;have HN:=hide hln;clear h hln
 go_enter Tryz.func95,Tryz.ntmps95
 go_wp2_with (at_make;go_must (refine makeYs kMkA _ rfl (.tmp 9) rfl n rfl (by unfold maxLen;omega) hb ?zk))
 intro w1 o1 b1
 have HO : Hid (OwnY yMkA w.heap.size w1 (.slice (some ⟨w.heap.size,0,none⟩) n n) (L.take 0 ++ List.replicate (n - 0) yMkA.z)):=by
  show OwnY _ _ _ _ _
  simpa using o1
 clear o1
 go_wp2
 go_loopw [13] (fun i wr => ∃ j : Nat,i = .int .i64 (j : Int)∧j ≤ n∧Hid (OwnY yMkA w.heap.size wr (.slice (some ⟨w.heap.size,0,none⟩) n n) (L.take j ++ List.replicate (n - j) yMkA.z))∧Below w.heap.size w wr) (fun i _ => n - (intOf i).toNat)
 case atStart => exact ⟨0,rfl,Nat.zero_le _,HO,b1⟩
 case round =>
  obtain ⟨j,rfl,hj,hO,hbl⟩:=hrel;have hsz:=hbl.size
  by_cases hlt : j < n
  ·have hjl : j < L.length:=by rw [HN.out];exact hlt
   have hg : L[j]? = some L[j]:=List.getElem?_eq_getElem hjl;obtain ⟨q,o,rfl,hq,y0,y1,y2⟩:=(H.out.later hbl).MkV hg
   have hlt0 : w.heap.size < wr.heap.size:=by
    obtain ⟨_,_,ee,_,_,_,h4⟩:=hO.out.form
    injection ee with ee
    obtain ⟨g',e2,_,h5⟩:=h4 _ ee.symm
    cases e2
    exact h5
   have hset : Hid ((L.take j ++ List.replicate (n - j) yMkA.z).set j L[j] = L.take (j + 1) ++ List.replicate (n - (j + 1)) yMkA.z):=by
    show _ = _
    have hl : (L.take j).length = j:=by rw [List.length_take];omega
    rw [List.set_append_right _ _ (by omega),hl,Nat.sub_self,show n - j = (n - (j + 1)) + 1 by omega,List.replicate_succ,List.set_cons_zero,List.take_add_one,hg];simp only [Option.toList_some,List.append_assoc,List.cons_append,List.nil_append]
   have hget : Hid ((L.take j ++ List.replicate (n - j) yMkA.z)[j]? = some yMkA.z):=by
    show _ = _
    have hl : (L.take j).length = j:=by rw [List.length_take];omega
    rw [List.getElem?_append_right (by omega),hl,Nat.sub_self,show n - j = (n - (j + 1)) + 1 by omega,List.replicate_succ]
    rfl
   clear hg
   generalize L[j] = x at *
   generalize hX : L.take j ++ List.replicate (n - j) yMkA.z = XX at *
   clear hX;have bA:=hide (hbl.trans (((Below.refl _ wr).alloc LR (.cells #[.int .i64 x.n,.int .u64 x.h,.int .u64 x.l] 149)).mono hsz));have OA:=hide (hO.out.alloc (.cells #[.int .i64 x.n,.int .u64 x.h,.int .u64 x.l] 149));have ca:=hide (x.told_any (wr.alloc (.cells #[.int .i64 x.n,.int .u64 x.h,.int .u64 x.l] 149)));clear hO
   go_wp2_with fail
   refine ca.out.mono ?_;rintro e w2 ⟨rfl,b2⟩;have O2:=hide (OA.out.grow b2);have z2:=b2.size;rw [World.size_alloc] at z2
   dsimp only
   go_wp2_with (first
    | (refine storeY kMkA _ rfl 119 (.tmp 23) (.tmp 22) rfl w.heap.size w.heap.size n n XX j 0 yMkA.z x _ rfl rfl hget.out (by kernel_rfl) (by exact (by decide : 3 ≤ 3)) rfl O2.out ?_;intro w3 o3 u3 z3;have O3:=hide o3;clear o3)
    | go_in)
   go_round
   case rel =>
    refine ⟨j + 1,by go_num,by omega,by show OwnY _ _ _ _ _;rw [← hset.out];exact O3.out,bA.out.trans ((b2.mono (by simp;omega)).trans (u3.below (by omega) (fun k e => by subst e;exact LR)))⟩
   case measure => simp [intOf];omega
  ·obtain rfl : j = n:=by omega
   have O9 : Hid (OwnY yMkA w.heap.size wr (.slice (some ⟨w.heap.size,0,none⟩) j j) L):=by
    show OwnY _ _ _ _ _
    have:=hO.out;rw [Nat.sub_self,List.replicate_zero,List.append_nil,List.take_of_length_le (by rw [HN.out];exact LR)] at this
    exact this
   clear hO
   go_wp2
   go_ret
   exact ⟨rfl,O9.out,hbl⟩
def Mk.mb (x : Mk) (n r : Int) : Bool:=true
theorem Mk.may_any (x : Mk) (n r : Int) (w : World) : Calls Tryz.prog 174 #[x.val,.int .i64 n,.int .i64 r] w fun e w' => e = .returned (.bool (Mk.mb x n r))∧Below w.heap.size w w':=by
 show Calls Tryz.prog 174 #[.agg #[.int .i64 x.n,.int .u64 x.h,.int .u64 x.l],.int .i64 n,.int .i64 r] w _
 go_enter Tryz.func174,Tryz.ntmps174
 go_wp2
 go_ret
 exact ⟨rfl,BR.alloc LR _⟩
def Mk.ckl (c : Cg) (self : Int) : Int → List Mk → Bool
 | _,[] => true
 | least,x :: r => if x.n < least ∨ 2 * c.F + 1 ≤ x.n ∨ x.n = self ∨ Mk.mb x (2 * c.F + 1) c.R = false then false else Mk.ckl c self (x.n + 1) r
def Mk.ck (c : Cg) (self : Int) (L : List Mk) : Int:=if c.ok = false then 1 else if Mk.ckl c self 0 L = true then 0 else 80
theorem Mk.check_any (c : Cg) (self : Int) (L : List Mk) (a : Option Addr) (n k : Nat) (w : World) (h : SlY yMkV w a n k L) :
  Calls Tryz.prog 115 #[c.val,.int .i64 self,.slice a n k] w fun e w' => e = .returned (.int .i64 (Mk.ck c self L))∧Below w.heap.size w w':=by
 have hmx:=h.max;have hcp:=h.cap;have hln:=h.len
 unfold maxLen at hmx
 have H:=hide h;have HN:=hide hln;clear h hln;have B0 : Hid (Below w.heap.size w (w.alloc (.cells #[.int .i64 c.F,.int .i64 c.R,.int .i64 c.P,.bool c.u] 23))):=(Below.refl _ w).alloc LR _;have cc:=hide (fun W => configMayBe_any8 c W)
 unfold Cg.val at cc
 have HCK : Hid (Mk.ck c self L = if c.ok = false then 1 else if Mk.ckl c self 0 L = true then 0 else 80):=rfl
 generalize Mk.ck c self L = CK at *
 show Calls Tryz.prog 115 #[.agg #[.int .i64 c.F,.int .i64 c.R,.int .i64 c.P,.bool c.u],.int .i64 self,.slice a n k] w _
 go_enter Tryz.func115,Tryz.ntmps115
 go_wp2_with fail
 refine (cc.out _).mono ?_;rintro e w1 ⟨rfl,b1⟩
 dsimp only
 have hz1 : w.heap.size + 1 ≤ w1.heap.size:=by have:=b1.size;simpa using this
 have D1 : Hid (Below (w.heap.size + 1) (w.alloc (.cells #[.int .i64 c.F,.int .i64 c.R,.int .i64 c.P,.bool c.u] 23)) w1):=by show Below _ _ _;simpa using b1
 clear b1 cc
 have KC : Hid (∀ v,Below (w.heap.size + 1) w1 v → v.cell? ⟨w.heap.size,0,none⟩ = some (.int .i64 c.F)∧v.cell? ⟨w.heap.size,1,none⟩ = some (.int .i64 c.R)):=fun v hv =>
  ⟨((D1.out.trans hv).cell (p:=⟨w.heap.size,0,none⟩) (by simp)).trans (by simp),((D1.out.trans hv).cell (p:=⟨w.heap.size,1,none⟩) (by simp)).trans (by simp)⟩
 have E1:=hide (B0.out.trans (D1.out.mono (by omega)))
 by_cases hk : c.ok = true
 ·have hF : 1 ≤ c.F∧c.F ≤ 3∧1 ≤ c.R∧c.R ≤ 256:=of_decide_eq_true hk
  obtain ⟨hF1,hF3,_,_⟩:=hF
  have HC2 : Hid (CK = if Mk.ckl c self 0 (L.drop 0) = true then 0 else 80):=by show _ = _;rw [HCK.out,hk,if_neg (by simp)];rfl
  rw [hk];clear HCK hk
  have hw1 : IntKind.i64.wrap (2 * c.F) = 2 * c.F:=by rw [IntKind.wrap_i64];omega
  have hw2 : IntKind.i64.wrap (2 * c.F + 1) = 2 * c.F + 1:=by rw [IntKind.wrap_i64];omega
  obtain ⟨k0,k1⟩:=KC.out w1 BR
  go_wp2
  go_loopw [20,8] (fun i l wr => ∃ (j : Nat) (l' : Int),i = .int .i64 (j : Int)∧j ≤ n∧l = .int .i64 l'∧(0 ≤ l'∧l' ≤ 8)∧Hid (CK = if Mk.ckl c self l' (L.drop j) = true then 0 else 80)∧Hid (Below (w.heap.size + 1) w1 wr)) (fun i _ _ => n - (intOf i).toNat)
  case atStart => exact ⟨0,0,rfl,Nat.zero_le _,rfl,⟨Int.le_refl _,by omega⟩,HC2,BR⟩
  case round =>
   obtain ⟨j,l',rfl,hj,rfl,⟨hl0,hl8⟩,hCK,hbl⟩:=hrel
   have zr : w.heap.size + 1 ≤ wr.heap.size:=by have:=hbl.out.size;omega
   by_cases hlt : j < n
   ·have hjl : j < L.length:=by rw [HN.out];exact hlt
    have hg : L[j]? = some L[j]:=List.getElem?_eq_getElem hjl;obtain ⟨q,o,ea,hq,y0,y1,y2⟩:=(H.out.later (E1.out.trans (hbl.out.mono (by omega)))).MkV hg
    cases ea
    have hCK1 : Hid (CK = if (if L[j].n < l' ∨ 2 * c.F + 1 ≤ L[j].n ∨ L[j].n = self ∨ Mk.mb L[j] (2 * c.F + 1) c.R = false then false else Mk.ckl c self (L[j].n + 1) (L.drop (j + 1))) = true then 0 else 80):=by
     show _ = _
     rw [hCK.out,List.drop_eq_getElem_cons hjl,Mk.ckl]
    clear hg hCK
    generalize L[j] = x at *
    have KX : Hid (∀ v,Below (wr.heap.size + 1) (wr.alloc (.cells #[.int .i64 x.n,.int .u64 x.h,.int .u64 x.l] 149)) v → (v.cell? ⟨wr.heap.size,0,none⟩ = some (.int .i64 x.n)∧v.cell? ⟨wr.heap.size,1,none⟩ = some (.int .u64 x.h)∧v.cell? ⟨wr.heap.size,2,none⟩ = some (.int .u64 x.l))∧(v.cell? ⟨w.heap.size,0,none⟩ = some (.int .i64 c.F)∧v.cell? ⟨w.heap.size,1,none⟩ = some (.int .i64 c.R))):=fun v hv =>
     ⟨⟨(hv.cell (p:=⟨wr.heap.size,0,none⟩) (by simp)).trans (by simp),(hv.cell (p:=⟨wr.heap.size,1,none⟩) (by simp)).trans (by simp),(hv.cell (p:=⟨wr.heap.size,2,none⟩) (by simp)).trans (by simp)⟩,KC.out v ((hbl.out.alloc zr _).trans (hv.mono (by omega)))⟩
    have hza : Hid ((wr.alloc (.cells #[.int .i64 x.n,.int .u64 x.h,.int .u64 x.l] 149)).heap.size = wr.heap.size + 1):=by show _ = _;simp
    have D0 : Hid (Below (wr.heap.size + 1) (wr.alloc (.cells #[.int .i64 x.n,.int .u64 x.h,.int .u64 x.l] 149)) (wr.alloc (.cells #[.int .i64 x.n,.int .u64 x.h,.int .u64 x.l] 149))):=BR;have EB : Hid (Below (w.heap.size + 1) w1 (wr.alloc (.cells #[.int .i64 x.n,.int .u64 x.h,.int .u64 x.l] 149))):=hbl.out.alloc zr _;have EE:=hide (E1.out.trans (EB.out.mono (by omega)));have cn:=hide (fun W => x.node_any W)
    unfold Mk.val at cn
    have cm:=hide (fun W => x.may_any (2 * c.F + 1) c.R W)
    unfold Mk.val at cm
    obtain ⟨k0,k1⟩:=KC.out _ EB.out
    go_wp2_with fail
    refine (cn.out _).mono ?_;rintro e w2 ⟨rfl,bb⟩;have D2:=hide (D0.out.trans (bb.mono (by have:=D0.out.size;have h2:=hza.out;omega)));clear bb y0 y1 y2 k0 k1;obtain ⟨⟨y0,y1,y2⟩,⟨k0,k1⟩⟩:=KX.out w2 D2.out
    dsimp only
    by_cases h1 : x.n < l'
    ·have hCK2 : Hid (CK = 80):=by show _ = _;rw [hCK1.out,if_pos (c:=x.n < l' ∨ 2 * c.F + 1 ≤ x.n ∨ x.n = self ∨ Mk.mb x (2 * c.F + 1) c.R = false) (.inl h1)];rfl
     clear hCK1
     go_wp2
     go_ret
     exact ⟨by rw [hCK2.out];rfl,EE.out.trans (D2.out.mono (by omega))⟩
    ·go_wp2_with fail
     refine (cn.out _).mono ?_;rintro e w3 ⟨rfl,bb⟩;have D3:=hide (D2.out.trans (bb.mono (by have:=D2.out.size;have h2:=hza.out;omega)));clear bb y0 y1 y2 k0 k1;obtain ⟨⟨y0,y1,y2⟩,⟨k0,k1⟩⟩:=KX.out w3 D3.out
     dsimp only
     by_cases h2 : 2 * c.F + 1 ≤ x.n
     ·have hCK2 : Hid (CK = 80):=by show _ = _;rw [hCK1.out,if_pos (c:=x.n < l' ∨ 2 * c.F + 1 ≤ x.n ∨ x.n = self ∨ Mk.mb x (2 * c.F + 1) c.R = false) (.inr (.inl h2))];rfl
      clear hCK1
      go_wp2
      go_ret
      exact ⟨by rw [hCK2.out];rfl,EE.out.trans (D3.out.mono (by omega))⟩
     ·go_wp2_with fail
      refine (cn.out _).mono ?_;rintro e w4 ⟨rfl,bb⟩;have D4:=hide (D3.out.trans (bb.mono (by have:=D3.out.size;have h2:=hza.out;omega)));clear bb y0 y1 y2 k0 k1;obtain ⟨⟨y0,y1,y2⟩,⟨k0,k1⟩⟩:=KX.out w4 D4.out
      dsimp only
      by_cases h3 : x.n = self
      ·have h3b : (x.n == self) = true:=by simp [h3]
       have H3:=hide h3;clear h3
       have hCK2 : Hid (CK = 80):=by show _ = _;rw [hCK1.out,if_pos (c:=x.n < l' ∨ 2 * c.F + 1 ≤ x.n ∨ x.n = self ∨ Mk.mb x (2 * c.F + 1) c.R = false) (.inr (.inr (.inl H3.out)))];rfl
       clear hCK1
       go_wp2
       go_ret
       exact ⟨by rw [hCK2.out];rfl,EE.out.trans (D4.out.mono (by omega))⟩
      ·have h3b : (x.n == self) = false:=by simp [h3]
       go_wp2_with fail
       refine (cm.out _).mono ?_;rintro e w5 ⟨rfl,bb⟩;have D5:=hide (D4.out.trans (bb.mono (by have:=D4.out.size;have h2:=hza.out;omega)));clear bb y0 y1 y2 k0 k1;obtain ⟨⟨y0,y1,y2⟩,⟨k0,k1⟩⟩:=KX.out w5 D5.out
       dsimp only
       cases hmb : Mk.mb x (2 * c.F + 1) c.R with
       | false =>
        have hCK2 : Hid (CK = 80):=by show _ = _;rw [hCK1.out,if_pos (c:=x.n < l' ∨ 2 * c.F + 1 ≤ x.n ∨ x.n = self ∨ Mk.mb x (2 * c.F + 1) c.R = false) (.inr (.inr (.inr hmb)))];rfl
        clear hCK1
        go_wp2
        go_ret
        exact ⟨by rw [hCK2.out];rfl,EE.out.trans (D5.out.mono (by omega))⟩
       | true =>
        have hCK2 : Hid (CK = if Mk.ckl c self (x.n + 1) (L.drop (j + 1)) = true then 0 else 80):=by
         show _ = _
         have hno : ¬ (x.n < l' ∨ 2 * c.F + 1 ≤ x.n ∨ x.n = self ∨ Mk.mb x (2 * c.F + 1) c.R = false):=by
          rintro (hc | hc | hc | hc)
          ·omega
          ·omega
          ·exact h3 hc
          ·rw [hmb] at hc;cases hc
         rw [hCK1.out,if_neg hno]
        have hw3 : IntKind.i64.wrap (x.n + 1) = x.n + 1:=by rw [IntKind.wrap_i64];omega
        clear hCK1 hmb
        go_wp2_with fail
        refine (cn.out _).mono ?_;rintro e w6 ⟨rfl,bb⟩;have D6:=hide (D5.out.trans (bb.mono (by have:=D5.out.size;have h2:=hza.out;omega)));clear bb y0 y1 y2 k0 k1;obtain ⟨⟨y0,y1,y2⟩,⟨k0,k1⟩⟩:=KX.out w6 D6.out
        dsimp only
        go_wp2
        go_round
        case rel => exact ⟨j + 1,x.n + 1,by go_num,by omega,rfl,⟨by omega,by omega⟩,hCK2,EB.out.trans (D6.out.mono (by omega))⟩
        case measure => first | (simp [intOf];done) | (simp [intOf];omega)
   ·obtain rfl : j = n:=by omega
    have hCK1 : Hid (CK = 0):=by show _ = _;rw [hCK.out,List.drop_of_length_le (by rw [HN.out];exact LR),Mk.ckl,if_pos rfl]
    clear hCK
    go_wp2
    go_ret
    exact ⟨by rw [hCK1.out];rfl,E1.out.trans (hbl.out.mono (by omega))⟩
 ·have hk2 : c.ok = false:=by simpa using hk
  have hCK1 : Hid (CK = 1):=by show _ = _;rw [HCK.out,if_pos hk2]
  rw [hk2];clear HCK
  go_wp2
  go_ret
  exact ⟨by rw [hCK1.out];rfl,E1.out⟩
theorem Mk.Check_any (c : Cg) (self : Int) (L : List Mk) (a : Option Addr) (n k : Nat) (w : World) (h : SlY yMkA w a n k L) (hb : n * 24 ≤ 281474976710656) :
  Calls Tryz.prog 74 #[c.val,.int .i64 self,.slice a n k] w fun e w' => e = .returned (.int .i64 (Mk.ck c self L))∧Below w.heap.size w w':=by
 have B0 : Hid (Below w.heap.size w (w.alloc (.cells #[.int .i64 c.F,.int .i64 c.R,.int .i64 c.P,.bool c.u] 23))):=(Below.refl _ w).alloc LR _
 have hwz : Hid ((w.alloc (.cells #[.int .i64 c.F,.int .i64 c.R,.int .i64 c.P,.bool c.u] 23)).heap.size = w.heap.size + 1):=by show _ = _;simp
 have KC : Hid (∀ v,Below (w.heap.size + 1) (w.alloc (.cells #[.int .i64 c.F,.int .i64 c.R,.int .i64 c.P,.bool c.u] 23)) v → v.cell? ⟨w.heap.size,0,none⟩ = some (.int .i64 c.F)∧v.cell? ⟨w.heap.size,1,none⟩ = some (.int .i64 c.R)∧v.cell? ⟨w.heap.size,2,none⟩ = some (.int .i64 c.P)∧v.cell? ⟨w.heap.size,3,none⟩ = some (.bool c.u)):=fun v hv =>
  ⟨(hv.cell (p:=⟨w.heap.size,0,none⟩) (by simp)).trans (by simp),(hv.cell (p:=⟨w.heap.size,1,none⟩) (by simp)).trans (by simp),(hv.cell (p:=⟨w.heap.size,2,none⟩) (by simp)).trans (by simp),(hv.cell (p:=⟨w.heap.size,3,none⟩) (by simp)).trans (by simp)⟩
 have H:=hide h;clear h;have ck:=hide (fun W a' n' k' (hs : SlY yMkV W a' n' k' L) => Mk.check_any c self L a' n' k' W hs)
 unfold Cg.val at ck
 generalize Mk.ck c self L = CK at *
 show Calls Tryz.prog 74 #[.agg #[.int .i64 c.F,.int .i64 c.R,.int .i64 c.P,.bool c.u],.int .i64 self,.slice a n k] w _
 generalize hw0 : w.alloc (.cells #[.int .i64 c.F,.int .i64 c.R,.int .i64 c.P,.bool c.u] 23) = w0 at *
 have s0:=KC.out _ (Below.refl (w.heap.size + 1) w0).drew
 go_enter Tryz.func74,Tryz.ntmps74
 go_wp2_with fail
 try rw [hw0]
 clear hw0
 go_region_held3 (fun v => v.cell? ⟨w.heap.size,0,none⟩ = some (.int .i64 c.F)∧v.cell? ⟨w.heap.size,1,none⟩ = some (.int .i64 c.R)∧v.cell? ⟨w.heap.size,2,none⟩ = some (.int .i64 c.P)∧v.cell? ⟨w.heap.size,3,none⟩ = some (.bool c.u)) (with_reducible assumption) (first
  | (have:=D2;go_at_call 115;refine (ck.out _ _ _ _ (o2.sl' kMkV)).mono ?_;rintro e w3 ⟨rfl,b3⟩;have D3:=hide (D2.out.trans (b3.mono (by have:=D2.out.size;have h2:=hwz.out;omega)));have s3:=KC.out w3 D3.out;clear b3 o2)
  | (go_at_call 97;refine (Mk.hold_any L a n k _ (H.out.later B0.out.drew) hb).mono ?_;rintro e w2 ⟨rfl,o2,b2⟩;have D2:=hide ((Below.refl (w.heap.size + 1) w0).drew.trans (b2.mono (by show _ ≤ w0.heap.size;rw [hwz.out];exact LR)));have s2:=KC.out w2 D2.out;clear b2))
 go_wp2
 go_ret
 exact ⟨rfl,B0.out.trans (D3.out.mono (by omega))⟩
structure BX7 (w : World) (q : Nat) (cs : List Value) : Prop where
 lt : q < w.heap.size
 cell : ∀ i x,cs[i]? = some x → w.cell? ⟨q,i,none⟩ = some x
 free : ∀ i,w.frozen? ⟨q,i,none⟩ = false
theorem BX7.upd {S : Nat → Prop} {w w' : World} {q : Nat} {cs : List Value} (h : BX7 w q cs) (u : Upd S w w') (hs : ¬ S q) : BX7 w' q cs :=
 ⟨Nat.lt_of_lt_of_le h.lt u.size,fun i x hx => (u.cell (p:=⟨q,i,none⟩) h.lt hs).trans (h.cell i x hx),fun i => (u.frozen (p:=⟨q,i,none⟩) h.lt hs).trans (h.free i)⟩
theorem BX7.bel {w w' : World} {q : Nat} {cs : List Value} (h : BX7 w q cs) (hb : Below w.heap.size w w') : BX7 w' q cs:=h.upd (S:=fun _ => False) (Upd.of_below hb) id
theorem cell_box7 (w : World) (cs : Array Value) (T : TypeId) (i : Nat) (x : Value) (h : cs[i]? = some x) : (w.alloc (.cells cs T)).cell? ⟨w.heap.size,i,none⟩ = some x:=by
 unfold World.cell?
 rw [World.alloc_heap_new]
 exact h
theorem BX7.new (w : World) (cs : List Value) (T : TypeId) : BX7 (w.alloc (.cells cs.toArray T)) w.heap.size cs :=
 ⟨by simp,fun i x hx => cell_box7 _ _ _ _ _ (by simpa using hx),fun i => by simp⟩
theorem BX7.set {w : World} {q : Nat} {cs : List Value} (h : BX7 w q cs) {j : Nat} (hj : j < cs.length) (u : Value) : BX7 (w.setCell ⟨q,j,none⟩ u) q (cs.set j u):=by
 refine ⟨by simpa [World.setCell] using h.lt,fun i x hx => ?_,fun i => setf (h.free i)⟩
 by_cases e : i = j
 ·subst e
  rw [List.getElem?_set_self hj] at hx
  cases hx
  exact setc_eq (h.cell i _ (List.getElem?_eq_getElem hj))
 ·rw [List.getElem?_set_ne (fun e' => e e'.symm)] at hx
  exact setc_ne (h.cell i x hx) e
structure Sta where
 self : Int
 st : Int
 view : Int
 last : Int
 la : Option Addr
 lc : Nat
 L : List En
 commit : Int
 va : Option Addr
 vc : Nat
 V : List (Int × Int)
 idle : Int
 ka : Option Addr
 kc : Nat
 A : List Ak
 ma : Option Addr
 mc : Nat
 M : List Mk
 ba : Option Addr
 bc : Nat
 B : List Bl
 na : Option Addr
 nc : Nat
 N : List An
def Sta.cs (s : Sta) : List Value:=[.int .i64 s.self,.int .i64 s.st,.int .i64 s.view,.int .i64 s.last,.slice s.la s.L.length s.lc,.int .i64 s.commit,.slice s.va s.V.length s.vc,.int .i64 s.idle,.slice s.ka s.A.length s.kc,.slice s.ma s.M.length s.mc,.slice s.ba s.B.length s.bc,.slice s.na s.N.length s.nc]
def Sta.val (s : Sta) : Value:=.agg #[.int .i64 s.self,.int .i64 s.st,.int .i64 s.view,.int .i64 s.last,.slice s.la s.L.length s.lc,.int .i64 s.commit,.slice s.va s.V.length s.vc,.int .i64 s.idle,.slice s.ka s.A.length s.kc,.slice s.ma s.M.length s.mc,.slice s.ba s.B.length s.bc,.slice s.na s.N.length s.nc]
structure Sta.In (w : World) (s : Sta) : Prop where
 l : SlY yE w s.la s.L.length s.lc s.L
 v : SlY yD w s.va s.V.length s.vc s.V
 a : SlY yAkA w s.ka s.A.length s.kc s.A
 m : SlY yMkA w s.ma s.M.length s.mc s.M
 b : SlY yBlA w s.ba s.B.length s.bc s.B
 n : SlY yAnA w s.na s.N.length s.nc s.N
 bl : ∀ x ∈ s.B,x.In w
 nl : ∀ x ∈ s.N,x.In w
theorem Sta.In.later {w w' : World} {s : Sta} (h : s.In w) (hb : Below w.heap.size w w') : s.In w' :=
 ⟨h.l.later hb,h.v.later hb,h.a.later hb,h.m.later hb,h.b.later hb,h.n.later hb,fun x hx => ⟨(h.bl x hx).1.later hb,(h.bl x hx).2⟩,fun x hx => ⟨(h.nl x hx).1.later hb,(h.nl x hx).2⟩⟩
structure Sta.Fit (s : Sta) : Prop where
 le : ∀ e ∈ s.L,e.fits
 be : ∀ x ∈ s.B,∀ e ∈ x.s.D,e.fits
 ne : ∀ x ∈ s.N,∀ e ∈ x.s.D,e.fits
 ll : s.L.length * 48 ≤ 140737488351232
 vl : s.V.length * 16 ≤ 140737488351232
 al : s.A.length * 32 ≤ 140737488351232
 ml : s.M.length * 24 ≤ 140737488351232
 bl : s.B.length * 64 ≤ 140737488351232
 nl : s.N.length * 64 ≤ 140737488351232
abbrev SB7 (w : World) (q : Nat) (s : Sta) : Prop:=BX7 w q s.cs
def Cg.cs (c : Cg) : List Value:=[.int .i64 c.F,.int .i64 c.R,.int .i64 c.P,.bool c.u]
abbrev CB7 (w : World) (q : Nat) (c : Cg) : Prop:=BX7 w q c.cs
theorem bxS7 (s : Sta) (w : World) : (Instr.box 33 s.val).run Tryz.prog w = .ok (.pointer (some ⟨w.heap.size,0,none⟩)) (w.alloc (.cells s.cs.toArray 33)):=rfl
theorem bxC7 (c : Cg) (w : World) : (Instr.box 23 c.val).run Tryz.prog w = .ok (.pointer (some ⟨w.heap.size,0,none⟩)) (w.alloc (.cells c.cs.toArray 23)):=rfl
theorem SB7.ld {w : World} {q : Nat} {s : Sta} (h : SB7 w q s) : (Instr.loadAt 33 (.pointer (some ⟨q,0,none⟩))).run Tryz.prog w = .ok s.val w:=by
 have h0:=h.cell 0 _ rfl;have h1:=h.cell 1 _ rfl;have h2:=h.cell 2 _ rfl;have h3:=h.cell 3 _ rfl;have h4:=h.cell 4 _ rfl;have h5:=h.cell 5 _ rfl;have h6:=h.cell 6 _ rfl;have h7:=h.cell 7 _ rfl;have h8:=h.cell 8 _ rfl;have h9:=h.cell 9 _ rfl;have h10:=h.cell 10 _ rfl;have h11:=h.cell 11 _ rfl
 unfold Sta.val
 clear h
 go_simp
theorem CB7.ld {w : World} {q : Nat} {c : Cg} (h : CB7 w q c) : (Instr.loadAt 23 (.pointer (some ⟨q,0,none⟩))).run Tryz.prog w = .ok c.val w:=by
 have h0:=h.cell 0 _ rfl;have h1:=h.cell 1 _ rfl;have h2:=h.cell 2 _ rfl;have h3:=h.cell 3 _ rfl
 unfold Cg.val
 clear h
 go_simp
theorem faS0 (q : Nat) (w : World) : (Instr.fieldAt 33 (.pointer (some ⟨q,0,none⟩)) 0).run Tryz.prog w = .ok (.pointer (some ⟨q,0,none⟩)) w:=by go_simp
theorem faS1 (q : Nat) (w : World) : (Instr.fieldAt 33 (.pointer (some ⟨q,0,none⟩)) 1).run Tryz.prog w = .ok (.pointer (some ⟨q,1,none⟩)) w:=by go_simp
theorem faS2 (q : Nat) (w : World) : (Instr.fieldAt 33 (.pointer (some ⟨q,0,none⟩)) 2).run Tryz.prog w = .ok (.pointer (some ⟨q,2,none⟩)) w:=by go_simp
theorem faS3 (q : Nat) (w : World) : (Instr.fieldAt 33 (.pointer (some ⟨q,0,none⟩)) 3).run Tryz.prog w = .ok (.pointer (some ⟨q,3,none⟩)) w:=by go_simp
theorem faS4 (q : Nat) (w : World) : (Instr.fieldAt 33 (.pointer (some ⟨q,0,none⟩)) 4).run Tryz.prog w = .ok (.pointer (some ⟨q,4,none⟩)) w:=by go_simp
theorem faS5 (q : Nat) (w : World) : (Instr.fieldAt 33 (.pointer (some ⟨q,0,none⟩)) 5).run Tryz.prog w = .ok (.pointer (some ⟨q,5,none⟩)) w:=by go_simp
theorem faS6 (q : Nat) (w : World) : (Instr.fieldAt 33 (.pointer (some ⟨q,0,none⟩)) 6).run Tryz.prog w = .ok (.pointer (some ⟨q,6,none⟩)) w:=by go_simp
theorem faS7 (q : Nat) (w : World) : (Instr.fieldAt 33 (.pointer (some ⟨q,0,none⟩)) 7).run Tryz.prog w = .ok (.pointer (some ⟨q,7,none⟩)) w:=by go_simp
theorem faS8 (q : Nat) (w : World) : (Instr.fieldAt 33 (.pointer (some ⟨q,0,none⟩)) 8).run Tryz.prog w = .ok (.pointer (some ⟨q,8,none⟩)) w:=by go_simp
theorem faS9 (q : Nat) (w : World) : (Instr.fieldAt 33 (.pointer (some ⟨q,0,none⟩)) 9).run Tryz.prog w = .ok (.pointer (some ⟨q,9,none⟩)) w:=by go_simp
theorem faS10 (q : Nat) (w : World) : (Instr.fieldAt 33 (.pointer (some ⟨q,0,none⟩)) 10).run Tryz.prog w = .ok (.pointer (some ⟨q,10,none⟩)) w:=by go_simp
theorem faS11 (q : Nat) (w : World) : (Instr.fieldAt 33 (.pointer (some ⟨q,0,none⟩)) 11).run Tryz.prog w = .ok (.pointer (some ⟨q,11,none⟩)) w:=by go_simp
theorem faC0 (q : Nat) (w : World) : (Instr.fieldAt 23 (.pointer (some ⟨q,0,none⟩)) 0).run Tryz.prog w = .ok (.pointer (some ⟨q,0,none⟩)) w:=by go_simp
theorem faC1 (q : Nat) (w : World) : (Instr.fieldAt 23 (.pointer (some ⟨q,0,none⟩)) 1).run Tryz.prog w = .ok (.pointer (some ⟨q,1,none⟩)) w:=by go_simp
theorem faC2 (q : Nat) (w : World) : (Instr.fieldAt 23 (.pointer (some ⟨q,0,none⟩)) 2).run Tryz.prog w = .ok (.pointer (some ⟨q,2,none⟩)) w:=by go_simp
theorem faC3 (q : Nat) (w : World) : (Instr.fieldAt 23 (.pointer (some ⟨q,0,none⟩)) 3).run Tryz.prog w = .ok (.pointer (some ⟨q,3,none⟩)) w:=by go_simp
theorem ldI8 {w : World} {q i : Nat} {z : Int} (h : w.cell? ⟨q,i,none⟩ = some (.int .i64 z)) : (Instr.loadAt 3 (.pointer (some ⟨q,i,none⟩))).run Tryz.prog w = .ok (.int .i64 z) w:=by go_simp
theorem ldT8 {w : World} {q i : Nat} {z : Int} (h : w.cell? ⟨q,i,none⟩ = some (.int .i64 z)) : (Instr.loadAt 24 (.pointer (some ⟨q,i,none⟩))).run Tryz.prog w = .ok (.int .i64 z) w:=by go_simp
theorem ldE8 {w : World} {q i : Nat} {a : Option Addr} {n c : Nat} (h : w.cell? ⟨q,i,none⟩ = some (.slice a n c)) : (Instr.loadAt 25 (.pointer (some ⟨q,i,none⟩))).run Tryz.prog w = .ok (.slice a n c) w:=by go_simp
theorem ex_lenE8 {o : Oper} {ρ : Operand → Value} {i : Nat} {a : Option Addr} {n k : Nat} {w : World} (ho : o.op = .call { callee:=.builtin .len,args:=#[.tmp i],argTypes:=#[25] }) (ht : o.type = 3) (hx : ρ (.tmp i) = .slice a n k) : (execOp ρ o).run Tryz.prog w = .ok (.value (.int .i64 (n : Int))) w:=by
 unfold execOp
 simp only [ho,resolve,invoke,builtin,Sem.run_bind,Sem.run_pure,Result.andThen_ok,LA,LB,LC,hx,ht]
 go_simp
theorem ldV8 {w : World} {q i : Nat} {a : Option Addr} {n c : Nat} (h : w.cell? ⟨q,i,none⟩ = some (.slice a n c)) : (Instr.loadAt 27 (.pointer (some ⟨q,i,none⟩))).run Tryz.prog w = .ok (.slice a n c) w:=by go_simp
theorem ex_lenV8 {o : Oper} {ρ : Operand → Value} {i : Nat} {a : Option Addr} {n k : Nat} {w : World} (ho : o.op = .call { callee:=.builtin .len,args:=#[.tmp i],argTypes:=#[27] }) (ht : o.type = 3) (hx : ρ (.tmp i) = .slice a n k) : (execOp ρ o).run Tryz.prog w = .ok (.value (.int .i64 (n : Int))) w:=by
 unfold execOp
 simp only [ho,resolve,invoke,builtin,Sem.run_bind,Sem.run_pure,Result.andThen_ok,LA,LB,LC,hx,ht]
 go_simp
theorem ldK8 {w : World} {q i : Nat} {a : Option Addr} {n c : Nat} (h : w.cell? ⟨q,i,none⟩ = some (.slice a n c)) : (Instr.loadAt 28 (.pointer (some ⟨q,i,none⟩))).run Tryz.prog w = .ok (.slice a n c) w:=by go_simp
theorem ex_lenK8 {o : Oper} {ρ : Operand → Value} {i : Nat} {a : Option Addr} {n k : Nat} {w : World} (ho : o.op = .call { callee:=.builtin .len,args:=#[.tmp i],argTypes:=#[28] }) (ht : o.type = 3) (hx : ρ (.tmp i) = .slice a n k) : (execOp ρ o).run Tryz.prog w = .ok (.value (.int .i64 (n : Int))) w:=by
 unfold execOp
 simp only [ho,resolve,invoke,builtin,Sem.run_bind,Sem.run_pure,Result.andThen_ok,LA,LB,LC,hx,ht]
 go_simp
theorem ldM8 {w : World} {q i : Nat} {a : Option Addr} {n c : Nat} (h : w.cell? ⟨q,i,none⟩ = some (.slice a n c)) : (Instr.loadAt 29 (.pointer (some ⟨q,i,none⟩))).run Tryz.prog w = .ok (.slice a n c) w:=by go_simp
theorem ex_lenM8 {o : Oper} {ρ : Operand → Value} {i : Nat} {a : Option Addr} {n k : Nat} {w : World} (ho : o.op = .call { callee:=.builtin .len,args:=#[.tmp i],argTypes:=#[29] }) (ht : o.type = 3) (hx : ρ (.tmp i) = .slice a n k) : (execOp ρ o).run Tryz.prog w = .ok (.value (.int .i64 (n : Int))) w:=by
 unfold execOp
 simp only [ho,resolve,invoke,builtin,Sem.run_bind,Sem.run_pure,Result.andThen_ok,LA,LB,LC,hx,ht]
 go_simp
theorem ldB8 {w : World} {q i : Nat} {a : Option Addr} {n c : Nat} (h : w.cell? ⟨q,i,none⟩ = some (.slice a n c)) : (Instr.loadAt 30 (.pointer (some ⟨q,i,none⟩))).run Tryz.prog w = .ok (.slice a n c) w:=by go_simp
theorem ex_lenB8 {o : Oper} {ρ : Operand → Value} {i : Nat} {a : Option Addr} {n k : Nat} {w : World} (ho : o.op = .call { callee:=.builtin .len,args:=#[.tmp i],argTypes:=#[30] }) (ht : o.type = 3) (hx : ρ (.tmp i) = .slice a n k) : (execOp ρ o).run Tryz.prog w = .ok (.value (.int .i64 (n : Int))) w:=by
 unfold execOp
 simp only [ho,resolve,invoke,builtin,Sem.run_bind,Sem.run_pure,Result.andThen_ok,LA,LB,LC,hx,ht]
 go_simp
theorem ldN8 {w : World} {q i : Nat} {a : Option Addr} {n c : Nat} (h : w.cell? ⟨q,i,none⟩ = some (.slice a n c)) : (Instr.loadAt 31 (.pointer (some ⟨q,i,none⟩))).run Tryz.prog w = .ok (.slice a n c) w:=by go_simp
theorem ex_lenN8 {o : Oper} {ρ : Operand → Value} {i : Nat} {a : Option Addr} {n k : Nat} {w : World} (ho : o.op = .call { callee:=.builtin .len,args:=#[.tmp i],argTypes:=#[31] }) (ht : o.type = 3) (hx : ρ (.tmp i) = .slice a n k) : (execOp ρ o).run Tryz.prog w = .ok (.value (.int .i64 (n : Int))) w:=by
 unfold execOp
 simp only [ho,resolve,invoke,builtin,Sem.run_bind,Sem.run_pure,Result.andThen_ok,LA,LB,LC,hx,ht]
 go_simp
theorem ldU8 {w : World} {q i : Nat} {z : Bool} (h : w.cell? ⟨q,i,none⟩ = some (.bool z)) : (Instr.loadAt 4 (.pointer (some ⟨q,i,none⟩))).run Tryz.prog w = .ok (.bool z) w:=by go_simp
theorem neqN8 (x y : Operand) (a b : Int) (w : World) : (do eqGuard .neq 37 x y (.int .i64 a) (.int .i64 b);binOp .neq 37 (.int .i64 a) (.int .i64 b) : Sem Value).run Tryz.prog w = .ok (.bool (!decide (a = b))) w:=by
 go_simp
 try rfl
theorem eqlN8 (x y : Operand) (a b : Int) (w : World) : (do eqGuard .eql 37 x y (.int .i64 a) (.int .i64 b);binOp .eql 37 (.int .i64 a) (.int .i64 b) : Sem Value).run Tryz.prog w = .ok (.bool (decide (a = b))) w:=by
 go_simp
 try rfl
theorem eqlT8 (x y : Operand) (a b : Int) (w : World) : (do eqGuard .eql 24 x y (.int .i64 a) (.int .i64 b);binOp .eql 24 (.int .i64 a) (.int .i64 b) : Sem Value).run Tryz.prog w = .ok (.bool (decide (a = b))) w:=by
 go_simp
 try rfl
theorem leqC8 (x y : Operand) (a b : Int) (w : World) : (do eqGuard .leq 3 x y (.int .i64 a) (.int .i64 b);binOp .leq 3 (.int .i64 a) (.int .i64 b) : Sem Value).run Tryz.prog w = .ok (.bool (decide (a ≤ b))) w:=by
 go_simp
 try rfl
theorem cell8 {w v : World} {p : Addr} {x : Value} (h : w.cell? p = some x) (hv : Below w.heap.size w v) : v.cell? p = some x:=(hv.cell (World.block_lt_of_cell? _ _ h)).trans h
theorem want_k {ops : Array Oper} {o : Oper} {T : Array Value} {g j : Nat} {pol : Bool} (h : o.guard = some (g,pol)) (hg : (ops[g]?).bind (·.dst) = some j) (hj : T[j]? = some (gw true (.bool pol))) : Region.wanted o (yielded ops T) = true:=by
 rw [want_g h hg hj]
 simp
theorem vq_call {ops : Array Oper} {rest : List Oper} {o : Oper} {T : Array Value} {df : List Deferred} {C : World → Prop} {Q : Act → Prop} {d n : Nat} (c : Bool) (V : Value) {fid : FuncId} {args : Array Value} (hw : Region.wanted o (yielded ops T) = c) (he : c = true → ∀ v,C v → (execOp (⟨T,df⟩ : Act).eval o).run Tryz.prog v = .ok (.enter fid args) v)
  (hc : c = true → ∀ v,C v → Calls Tryz.prog fid args v fun e w' => e = .returned V∧C w') (hd : o.dst = some d) (hz : T.size = n) (hn : d < n)
  (hk : ∀ T' : Array Value,T'.size = n → (∀ i,i ≠ d → T'[i]? = T[i]?) → T'[d]? = some (gw c V) → VJ ops C Q rest ⟨T',df⟩) : VJ ops C Q (o :: rest) ⟨T,df⟩:=by
 cases c with
 | false =>
  refine ⟨BigFrame.wpQuiet_skip hw ?_⟩;rw [hd]
  exact (hk (T.setIfInBounds d undef) (by simp [hz]) (fun i hi => at_set_ne _ hi) (at_set _ (by omega))).out
 | true =>
  refine ⟨BigFrame.wpQuiet_want hw (fun K hK => ⟨V,fun v hv => by unfold Oper.quietAt;rw [he rfl v hv];exact ⟨rfl,hc rfl v hv⟩,hK _ ?_⟩)⟩;rw [hd]
  exact (hk (T.setIfInBounds d V) (by simp [hz]) (fun i hi => at_set_ne _ hi) (at_set _ (by omega))).out
theorem bel8 {w v : World} {B : Nat} {f : FuncId} {args : Array Value} {V : Value} (hv : Below B w v) (h : Calls Tryz.prog f args v fun e w' => e = .returned V∧Below v.heap.size v w') (hB : B ≤ v.heap.size:=by first | assumption | (have:=hv.size;omega)) : Calls Tryz.prog f args v fun e w' => e = .returned V∧Below B w w' :=
 h.mono fun e w' ⟨h1,h2⟩ => ⟨h1,hv.trans (h2.mono hB)⟩
theorem ex_ext8 {o : Oper} {ρ : Operand → Value} {x : Operand} {i : Nat} {X V : Value} {w : World} (ho : o.op = .extract x i) (hx : ρ x = X) (hr : (Instr.extract X i).run Tryz.prog w = .ok V w) : (execOp ρ o).run Tryz.prog w = .ok (.value V) w:=by
 unfold execOp
 simp only [ho,hx]
 simp [hr]
theorem ex_box8 {o : Oper} {ρ : Operand → Value} {s : TypeId} {x : Operand} {X V : Value} {w w' : World} (ho : o.op = .box s x) (hx : ρ x = X) (hr : (Instr.box s X).run Tryz.prog w = .ok V w') : (execOp ρ o).run Tryz.prog w = .ok (.value V) w':=by
 unfold execOp
 simp only [ho,hx,Sem.run_bind,hr,Result.andThen_ok]
 rfl
def inB (x a b : Int) : Bool:=decide (a ≤ x) && decide (x ≤ b)
theorem inB_iff {x a b : Int} : inB x a b = true ↔ a ≤ x∧x ≤ b:=by simp [inB]
def Cg.okB (c : Cg) : Bool:=(inB c.F 1 3 && inB c.R 1 256) && inB c.P 6 100
def Cg.er (c : Cg) : Int:=bif c.okB then 0 else 1
def Cg.nd (c : Cg) : Int:=bif c.okB then 2 * c.F + 1 else 0
def Cg.pr (c : Cg) (v : Int) : Int:=bif (c.okB && inB v 0 4294967296) then v % c.nd else -1
theorem Cg.er_eq (c : Cg) : decide (c.er = 0) = c.okB:=by unfold Cg.er;cases c.okB <;> rfl
theorem Cg.nd_ok {c : Cg} (h : c.okB = true) : c.nd = 2 * c.F + 1∧1 ≤ c.F∧c.F ≤ 3:=by
 have h2:=h;simp only [Cg.okB,Bool.and_eq_true,inB_iff] at h2
 exact ⟨by simp [Cg.nd,h],h2.1.1⟩
end Go.Proofs.YtpcgnjpodnebpaaGreatDoor
