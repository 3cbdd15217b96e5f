import Derived.Lib.Strings
import Derived.Test.YtpcgnjpodnebpaaGreatDoorG16
set_option maxRecDepth 100000
set_option linter.unusedVariables false
set_option linter.unusedSimpArgs false
set_option maxHeartbeats 8000000
namespace Go.Proofs.YtpcgnjpodnebpaaGreatDoor
open Go.RowKit Go.Maps
open Classical
def yB : Lay Bool:=⟨4,84,1,1,fun x => [.bool x],false⟩
theorem kB : yB.Ok:=⟨by decide,fun x => rfl,fun x u h => by
  simp [yB] at h
  subst h;rfl,Tryz.underlying84,⟨.bool false,by kernel_rfl,rfl⟩⟩
def btsU (s : ByteArray) : List Nat:=s.data.toList.map UInt8.toNat
theorem btsU_len (s : ByteArray) : (btsU s).length = s.size:=by unfold btsU;rw [List.length_map,Array.length_toList];rfl
theorem idxU {s : ByteArray} {j c : Nat} (h : (btsU s)[j]? = some c) (w : World) : (Instr.index 9 (.string s) (.int .i64 (j : Int))).run Tryz.prog w = .ok (.int .u8 (c : Int)) w:=by
 have hj : j < s.size:=by rw [← btsU_len];exact (List.getElem?_eq_some_iff.1 h).1
 rw [run_index_string w 9 s .i64 (j : Int) Tryz.underlying9,dif_pos ⟨by omega,by omega⟩]
 have e : ((s[((j : Int)).toNat]'(by omega)).toNat : Int) = (c : Int):=by
  have h2 : (btsU s)[j]? = some (s[j]'hj).toNat:=by
   unfold btsU
   rw [List.getElem?_map,List.getElem?_eq_getElem (by simpa using hj)]
   rfl
  rw [h] at h2
  injection h2 with h2
  simp only [Int.toNat_natCast]
  omega
 rw [e]
def usT (l : List Nat) : List Bool:=l.map fun c => !(c == 46)
theorem usT_next {l : List Nat} {i c : Nat} (h : l[i]? = some c) : usT (l.take i) ++ [!(c == 46)] = usT (l.take (i + 1)):=by
 unfold usT
 rw [List.take_add_one,h];simp
theorem uses_ks (k : Int) (l : List Nat) (S : ByteArray) (w : World) (h : (k = 1∧l = [46,46,46,46,46,46,101,46,46,46]∧S = ⟨#[46,46,46,46,46,46,101,46,46,46]⟩) ∨ (k = 2∧l = [110,118,46,112,46,46,101,114,46,46]∧S = ⟨#[110,118,46,112,46,46,101,114,46,46]⟩) ∨ (k = 3∧l = [110,118,46,112,99,46,101,46,46,120]∧S = ⟨#[110,118,46,112,99,46,101,46,46,120]⟩) ∨ (k = 4∧l = [110,118,46,112,46,46,46,46,46,120]∧S = ⟨#[110,118,46,112,46,46,46,46,46,120]⟩) ∨ (k = 5∧l = [110,118,46,46,99,46,46,46,46,120]∧S = ⟨#[110,118,46,46,99,46,46,46,46,120]⟩) ∨ (k = 6∧l = [110,118,46,46,46,46,46,46,46,120]∧S = ⟨#[110,118,46,46,46,46,46,46,46,120]⟩) ∨ (k = 7∧l = [110,118,108,46,99,46,46,46,103,120]∧S = ⟨#[110,118,108,46,99,46,46,46,103,120]⟩) ∨ (k = 8∧l = [110,118,46,46,99,46,46,46,103,120]∧S = ⟨#[110,118,46,46,99,46,46,46,103,120]⟩) ∨ (k = 9∧l = [110,46,46,46,46,100,46,46,46,120]∧S = ⟨#[110,46,46,46,46,100,46,46,46,120]⟩) ∨ (k = 10∧l = [110,118,46,46,99,100,46,46,103,120]∧S = ⟨#[110,118,46,46,99,100,46,46,103,120]⟩) ∨ (k = 11∧l = [110,118,46,46,46,46,46,46,46,120]∧S = ⟨#[110,118,46,46,46,46,46,46,46,120]⟩) ∨ (k = 12∧l = [110,118,46,46,99,46,46,46,103,120]∧S = ⟨#[110,118,46,46,99,46,46,46,103,120]⟩) ∨ (k = 13∧l = [46,46,46,112,46,46,101,46,46,46]∧S = ⟨#[46,46,46,112,46,46,101,46,46,46]⟩) ∨ (k = 14∧l = [110,118,46,46,99,46,101,114,46,46]∧S = ⟨#[110,118,46,46,99,46,101,114,46,46]⟩)) :
  Calls Tryz.prog 31 #[.int .i64 k] w fun e w' => ∃ v',e = .returned v'∧OwnY yB w.heap.size w' v' (usT l)∧Below w.heap.size w w':=by
 have hn : l.length = 10:=by rcases h with ⟨_,rfl,_⟩ | ⟨_,rfl,_⟩ | ⟨_,rfl,_⟩ | ⟨_,rfl,_⟩ | ⟨_,rfl,_⟩ | ⟨_,rfl,_⟩ | ⟨_,rfl,_⟩ | ⟨_,rfl,_⟩ | ⟨_,rfl,_⟩ | ⟨_,rfl,_⟩ | ⟨_,rfl,_⟩ | ⟨_,rfl,_⟩ | ⟨_,rfl,_⟩ | ⟨_,rfl,_⟩ <;> rfl
 have IX : Hid (∀ (j c : Nat),l[j]? = some c → ∀ W,(Instr.index 9 (.string S) (.int .i64 (j : Int))).run Tryz.prog W = .ok (.int .u8 (c : Int)) W):=by
  rcases h with ⟨_,rfl,rfl⟩ | ⟨_,rfl,rfl⟩ | ⟨_,rfl,rfl⟩ | ⟨_,rfl,rfl⟩ | ⟨_,rfl,rfl⟩ | ⟨_,rfl,rfl⟩ | ⟨_,rfl,rfl⟩ | ⟨_,rfl,rfl⟩ | ⟨_,rfl,rfl⟩ | ⟨_,rfl,rfl⟩ | ⟨_,rfl,rfl⟩ | ⟨_,rfl,rfl⟩ | ⟨_,rfl,rfl⟩ | ⟨_,rfl,rfl⟩ <;> exact fun j c h W => idxU h W
 rcases h with ⟨rfl,hq,rfl⟩ | ⟨rfl,hq,rfl⟩ | ⟨rfl,hq,rfl⟩ | ⟨rfl,hq,rfl⟩ | ⟨rfl,hq,rfl⟩ | ⟨rfl,hq,rfl⟩ | ⟨rfl,hq,rfl⟩ | ⟨rfl,hq,rfl⟩ | ⟨rfl,hq,rfl⟩ | ⟨rfl,hq,rfl⟩ | ⟨rfl,hq,rfl⟩ | ⟨rfl,hq,rfl⟩ | ⟨rfl,hq,rfl⟩ | ⟨rfl,hq,rfl⟩ <;> (
 clear hq
 go_enter Tryz.func31,Tryz.ntmps31
 go_wp2
 go_loopw [4,5] (fun vl vi wr => ∃ i : Nat,vi = .int .i64 (i : Int)∧i ≤ 10∧Hid (OwnY yB w.heap.size wr vl (usT (l.take i))∧Below w.heap.size w wr)) (fun _ vi _ => 10 - (intOf vi).toNat)
 case atStart => exact ⟨0,rfl,Nat.zero_le _,OwnY.nil _ _ _,BR⟩
 case round =>
  obtain ⟨i,rfl,hi,H⟩:=hrel
  by_cases hlt : i < 10
  ·obtain ⟨c,hc⟩ : ∃ c,l[i]? = some c:=⟨_,List.getElem?_eq_getElem (by omega)⟩
   have ix:=fun W => IX.out i c hc W
   have E:=hide (usT_next hc)
   have hL : Hid ((usT (l.take i)).length = i):=by show _ = _;simp [usT];omega
   clear hc;have z1:=H.out.2.size;have SB:=hide (sl_box (Y:=yB) wr (!(c == 46)) 4)
   have eB : ((c : Int) != 46) = !(c == 46):=by
    by_cases h : c = 46
    ·subst h;rfl
    ·rw [bne,beq_eq_false_iff_ne.2 h,beq_eq_false_iff_ne.2 (by omega)]
   go_wp2_with (at_builtin;go_must (refine appY kB _ rfl (.tmp 39) (.tmp 44) rfl w.heap.size _ _ rfl (some ⟨wr.heap.size,0,none⟩) 1 1 rfl [!(c == 46)] SB.out (H.out.1.alloc _) (by simp;omega) (by rw [hL.out];unfold maxLen;omega) (by show (_ + 1) * 1 ≤ _;rw [hL.out];omega) ?_))
   intro v5 w2 o2 g2 _;have b2:=hide ((H.out.1.alloc _).grown (H.out.2.alloc z1 _) g2 (by simp;omega));have O2:=hide o2;clear o2 g2 SB H
   go_wp2
   go_roundw
   case rel => exact ⟨i + 1,by go_num,by omega,by rw [← E.out];exact O2.out,b2.out⟩
   case measure => simp [intOf];omega
  ·obtain rfl : i = 10:=by omega
   go_wp2
   go_ret
   have H2:=H.out;rw [List.take_of_length_le (by omega)] at H2
   exact ⟨_,rfl,H2.1,H2.2⟩)
def usN (k : Int) : List Nat :=
 if k = 1 then [46,46,46,46,46,46,101,46,46,46] else
 if k = 2 then [110,118,46,112,46,46,101,114,46,46] else
 if k = 3 then [110,118,46,112,99,46,101,46,46,120] else
 if k = 4 then [110,118,46,112,46,46,46,46,46,120] else
 if k = 5 then [110,118,46,46,99,46,46,46,46,120] else
 if k = 6 then [110,118,46,46,46,46,46,46,46,120] else
 if k = 7 then [110,118,108,46,99,46,46,46,103,120] else
 if k = 8 then [110,118,46,46,99,46,46,46,103,120] else
 if k = 9 then [110,46,46,46,46,100,46,46,46,120] else
 if k = 10 then [110,118,46,46,99,100,46,46,103,120] else
 if k = 11 then [110,118,46,46,46,46,46,46,46,120] else
 if k = 12 then [110,118,46,46,99,46,46,46,103,120] else
 if k = 13 then [46,46,46,112,46,46,101,46,46,46] else
 if k = 14 then [110,118,46,46,99,46,101,114,46,46] else
 []
def usL (k : Int) : List Bool:=usT (usN k)
theorem uses_none (k : Int) (hk : k < 1 ∨ 14 < k) (w : World) :
  Calls Tryz.prog 31 #[.int .i64 k] w fun e w' => e = .returned (.slice none 0 0)∧w' = w:=by
 have e1 : (k == 1) = false:=by simp;omega
 have e2 : (k == 2) = false:=by simp;omega
 have e3 : (k == 3) = false:=by simp;omega
 have e4 : (k == 4) = false:=by simp;omega
 have e5 : (k == 5) = false:=by simp;omega
 have e6 : (k == 6) = false:=by simp;omega
 have e7 : (k == 7) = false:=by simp;omega
 have e8 : (k == 8) = false:=by simp;omega
 have e9 : (k == 9) = false:=by simp;omega
 have e10 : (k == 10) = false:=by simp;omega
 have e11 : (k == 11) = false:=by simp;omega
 have e12 : (k == 12) = false:=by simp;omega
 have e13 : (k == 13) = false:=by simp;omega
 have e14 : (k == 14) = false:=by simp;omega
 clear hk
 go_enter Tryz.func31,Tryz.ntmps31
 go_wp2
 go_loopw [4,5] (fun vl vi wr => vl = .slice none 0 0∧vi = .int .i64 0∧wr = w) (fun _ _ _ => 0)
 case atStart => exact ⟨rfl,rfl,rfl⟩
 case round =>
  obtain ⟨rfl,rfl,rfl⟩:=hrel
  go_wp2
  go_ret
  exact ⟨rfl,rfl⟩
theorem uses_all (k : Int) (w : World) :
  Calls Tryz.prog 31 #[.int .i64 k] w fun e w' => ∃ v',e = .returned v'∧OwnY yB w.heap.size w' v' (usL k)∧Below w.heap.size w w':=by
 by_cases h1 : k = 1
 ·subst h1;exact uses_ks _ _ _ w (.inl ⟨rfl,rfl,rfl⟩)
 by_cases h2 : k = 2
 ·subst h2;exact uses_ks _ _ _ w (.inr <| .inl ⟨rfl,rfl,rfl⟩)
 by_cases h3 : k = 3
 ·subst h3;exact uses_ks _ _ _ w (.inr <| .inr <| .inl ⟨rfl,rfl,rfl⟩)
 by_cases h4 : k = 4
 ·subst h4;exact uses_ks _ _ _ w (.inr <| .inr <| .inr <| .inl ⟨rfl,rfl,rfl⟩)
 by_cases h5 : k = 5
 ·subst h5;exact uses_ks _ _ _ w (.inr <| .inr <| .inr <| .inr <| .inl ⟨rfl,rfl,rfl⟩)
 by_cases h6 : k = 6
 ·subst h6;exact uses_ks _ _ _ w (.inr <| .inr <| .inr <| .inr <| .inr <| .inl ⟨rfl,rfl,rfl⟩)
 by_cases h7 : k = 7
 ·subst h7;exact uses_ks _ _ _ w (.inr <| .inr <| .inr <| .inr <| .inr <| .inr <| .inl ⟨rfl,rfl,rfl⟩)
 by_cases h8 : k = 8
 ·subst h8;exact uses_ks _ _ _ w (.inr <| .inr <| .inr <| .inr <| .inr <| .inr <| .inr <| .inl ⟨rfl,rfl,rfl⟩)
 by_cases h9 : k = 9
 ·subst h9;exact uses_ks _ _ _ w (.inr <| .inr <| .inr <| .inr <| .inr <| .inr <| .inr <| .inr <| .inl ⟨rfl,rfl,rfl⟩)
 by_cases h10 : k = 10
 ·subst h10;exact uses_ks _ _ _ w (.inr <| .inr <| .inr <| .inr <| .inr <| .inr <| .inr <| .inr <| .inr <| .inl ⟨rfl,rfl,rfl⟩)
 by_cases h11 : k = 11
 ·subst h11;exact uses_ks _ _ _ w (.inr <| .inr <| .inr <| .inr <| .inr <| .inr <| .inr <| .inr <| .inr <| .inr <| .inl ⟨rfl,rfl,rfl⟩)
 by_cases h12 : k = 12
 ·subst h12;exact uses_ks _ _ _ w (.inr <| .inr <| .inr <| .inr <| .inr <| .inr <| .inr <| .inr <| .inr <| .inr <| .inr <| .inl ⟨rfl,rfl,rfl⟩)
 by_cases h13 : k = 13
 ·subst h13;exact uses_ks _ _ _ w (.inr <| .inr <| .inr <| .inr <| .inr <| .inr <| .inr <| .inr <| .inr <| .inr <| .inr <| .inr <| .inl ⟨rfl,rfl,rfl⟩)
 by_cases h14 : k = 14
 ·subst h14;exact uses_ks _ _ _ w (.inr <| .inr <| .inr <| .inr <| .inr <| .inr <| .inr <| .inr <| .inr <| .inr <| .inr <| .inr <| .inr <| ⟨rfl,rfl,rfl⟩)
 have hk : k < 1 ∨ 14 < k:=by omega
 refine (uses_none k hk w).mono ?_;rintro e w' ⟨rfl,rfl⟩;refine ⟨_,rfl,?_,BR⟩
 have e : usL k = []:=by
  unfold usL usN
  rw [if_neg h1,if_neg h2,if_neg h3,if_neg h4,if_neg h5,if_neg h6,if_neg h7,if_neg h8,if_neg h9,if_neg h10,if_neg h11,if_neg h12,if_neg h13,if_neg h14]
  rfl
 rw [e]
 exact OwnY.nil _ _ _
theorem refConfig7 (c : Cf) (w : World) : Calls Tryz.prog 30 #[c.val] w fun e w' => e = .returned (.bool (cfB c))∧Below w.heap.size w w':=by
 obtain ⟨f,r,p,u⟩:=c
 have V : Hid (cfB ⟨f,r,p,u⟩ = decide (1 ≤ f∧f ≤ 3∧1 ≤ r∧r ≤ 256∧6 ≤ p∧p ≤ 100)):=by
  show _ = _
  rw [Bool.eq_iff_iff]
  simp [cfB,inR,and_assoc]
 unfold Cf.val
 dsimp only
 have HB : Hid (Below w.heap.size w (w.alloc (.cells #[.int .i64 f,.int .i64 r,.int .i64 p,.bool u] 23))):=BR.alloc LR _
 generalize cfB ⟨f,r,p,u⟩ = b at *
 by_cases h0 : 1 ≤ f
 rotate_left
 ·have hk : Hid (b = false):=by show _ = _;rw [V.out,decide_eq_false_iff_not];omega
  go_enter Tryz.func30,Tryz.ntmps30
  go_wp2
  go_ret
  exact ⟨by rw [hk.out];first | rfl | (simp;omega),HB.out⟩
 by_cases h1 : f ≤ 3
 rotate_left
 ·have hk : Hid (b = false):=by show _ = _;rw [V.out,decide_eq_false_iff_not];omega
  go_enter Tryz.func30,Tryz.ntmps30
  go_wp2
  go_ret
  exact ⟨by rw [hk.out];first | rfl | (simp;omega),HB.out⟩
 by_cases h2 : 1 ≤ r
 rotate_left
 ·have hk : Hid (b = false):=by show _ = _;rw [V.out,decide_eq_false_iff_not];omega
  go_enter Tryz.func30,Tryz.ntmps30
  go_wp2
  go_ret
  exact ⟨by rw [hk.out];first | rfl | (simp;omega),HB.out⟩
 by_cases h3 : r ≤ 256
 rotate_left
 ·have hk : Hid (b = false):=by show _ = _;rw [V.out,decide_eq_false_iff_not];omega
  go_enter Tryz.func30,Tryz.ntmps30
  go_wp2
  go_ret
  exact ⟨by rw [hk.out];first | rfl | (simp;omega),HB.out⟩
 by_cases h4 : 6 ≤ p
 rotate_left
 ·have hk : Hid (b = false):=by show _ = _;rw [V.out,decide_eq_false_iff_not];omega
  go_enter Tryz.func30,Tryz.ntmps30
  go_wp2
  go_ret
  exact ⟨by rw [hk.out];first | rfl | (simp;omega),HB.out⟩
 by_cases h5 : p ≤ 100
 rotate_left
 ·have hk : Hid (b = false):=by show _ = _;rw [V.out,decide_eq_false_iff_not];omega
  go_enter Tryz.func30,Tryz.ntmps30
  go_wp2
  go_ret
  exact ⟨by rw [hk.out];first | rfl | (simp;omega),HB.out⟩
 have hk : Hid (b = true):=by show _ = _;rw [V.out,decide_eq_true_iff];omega
 go_enter Tryz.func30,Tryz.ntmps30
 go_wp2
 go_ret
 exact ⟨by rw [hk.out];first | rfl | (simp;omega),HB.out⟩
theorem refresult_ks (s : Int) (v : ByteArray) (w : World) (k : Int) (hk : k = 1 ∨ k = 2 ∨ k = 4) : Calls Tryz.prog 66 #[.agg #[.int .i64 k,.int .i64 s,.string v]] w fun e w' => e = .returned (.bool (resB k s v))∧Below w.heap.size w w':=by
 have HB : Hid (Below w.heap.size w (w.alloc (.cells #[.int .i64 k,.int .i64 s,.string v] 49))):=BR.alloc LR _
 have V : Hid (resB k s v = (inR s 0 1023 && decide (v.size ≤ 64))):=by rcases hk with rfl | rfl | rfl <;> simp [Hid,resB]
 have V2 : Hid (resB k s v = decide (0 ≤ s∧s ≤ 1023∧(v.size : Int) ≤ 64)):=V.out.trans (by rw [Bool.eq_iff_iff];simp [inR] <;> omega);clear V
 rcases hk with rfl | rfl | rfl <;> (
 by_cases h0 : 0 ≤ s <;> by_cases h1 : s < 1024 <;> by_cases hv : (v.size : Int) ≤ 64 <;> first | (exfalso;omega) | (
 go_enter Tryz.func66,Tryz.ntmps66
 go_wp2
 go_ret
 exact ⟨by rw [V2.out];first | rfl | (simp;done) | (simp;omega),HB.out⟩))
theorem refresult_ns (s : Int) (v : ByteArray) (w : World) (k : Int) (hk : k = 5 ∨ k = 6) : Calls Tryz.prog 66 #[.agg #[.int .i64 k,.int .i64 s,.string v]] w fun e w' => e = .returned (.bool (resB k s v))∧Below w.heap.size w w':=by
 have HB : Hid (Below w.heap.size w (w.alloc (.cells #[.int .i64 k,.int .i64 s,.string v] 49))):=BR.alloc LR _
 have V : Hid (resB k s v = (inR s 0 (if k = 5 then 1023 else 1024) && decide (v = noV))):=by rcases hk with rfl | rfl <;> simp [Hid,resB]
 by_cases hv : v = noV
 ·have V2 : Hid (resB k s v = decide (0 ≤ s∧s ≤ if k = 5 then 1023 else 1024)):=V.out.trans (by simp [inR,hv])
  clear V
  unfold noV at hv
  subst hv
  rcases hk with rfl | rfl <;> by_cases h0 : 0 ≤ s <;> by_cases h1 : s < 1024 <;> by_cases h4 : s ≤ 1024 <;> first | (exfalso;omega) | (
  go_enter Tryz.func66,Tryz.ntmps66
  go_wp2
  go_ret
  exact ⟨by rw [V2.out];first | rfl | (simp;done) | (simp;omega),HB.out⟩)
 ·have V2 : Hid (resB k s v = false):=V.out.trans (by simp [hv])
  clear V
  have g2 : ¬ v.toList = (⟨#[]⟩ : ByteArray).toList:=fun e => hv ((bytes_inj _ _).1 e)
  have g3 : v.toList.isEmpty = false:=by
   rw [Bool.eq_false_iff];intro h
   exact g2 (by rw [List.isEmpty_iff.1 h,ByteArray.toList_eq])
  rcases hk with rfl | rfl <;> by_cases h0 : 0 ≤ s <;> by_cases h1 : s < 1024 <;> by_cases h4 : s ≤ 1024 <;> first | (exfalso;omega) | (
  go_enter Tryz.func66,Tryz.ntmps66
  go_wp2
  go_ret
  exact ⟨by rw [V2.out];first | rfl | (simp;done) | (simp;omega),HB.out⟩)
theorem refresult_3 (s : Int) (v : ByteArray) (w : World) : Calls Tryz.prog 66 #[.agg #[.int .i64 3,.int .i64 s,.string v]] w fun e w' => e = .returned (.bool (resB 3 s v))∧Below w.heap.size w w':=by
 have HB : Hid (Below w.heap.size w (w.alloc (.cells #[.int .i64 3,.int .i64 s,.string v] 49))):=BR.alloc LR _
 have V : Hid (resB 3 s v = (decide (s = 0) && decide (v = noV))):=by simp [Hid,resB]
 by_cases h0 : 0 ≤ s
 ·by_cases h1 : s < 1024
  ·by_cases hv : v = noV
   ·by_cases hs : s = 0
    ·have V2 : Hid (resB 3 s v = true):=V.out.trans (by simp [hv,hs])
     clear V
     unfold noV at hv
     subst hv;subst hs
     go_enter Tryz.func66,Tryz.ntmps66
     go_wp2
     go_ret
     exact ⟨by rw [V2.out];first | rfl | (simp;done) | (simp;omega),HB.out⟩
    ·have V2 : Hid (resB 3 s v = false):=V.out.trans (by simp [hs])
     have n0 : (s == 0) = false:=by simp [hs]
     clear V
     unfold noV at hv
     subst hv
     go_enter Tryz.func66,Tryz.ntmps66
     go_wp2
     go_ret
     exact ⟨by rw [V2.out];first | rfl | (simp;done) | (simp;omega),HB.out⟩
   ·by_cases hs : s = 0
    ·have V2 : Hid (resB 3 s v = false):=V.out.trans (by simp [hv,hs])
     clear V
     have g2 : ¬ v.toList = (⟨#[]⟩ : ByteArray).toList:=fun e => hv ((bytes_inj _ _).1 e)
     have g3 : v.toList.isEmpty = false:=by
      rw [Bool.eq_false_iff];intro h
      exact g2 (by rw [List.isEmpty_iff.1 h,ByteArray.toList_eq])
     subst hs
     go_enter Tryz.func66,Tryz.ntmps66
     go_wp2
     go_ret
     exact ⟨by rw [V2.out];first | rfl | (simp;done) | (simp;omega),HB.out⟩
    ·have V2 : Hid (resB 3 s v = false):=V.out.trans (by simp [hs])
     have n0 : (s == 0) = false:=by simp [hs]
     clear V
     have g2 : ¬ v.toList = (⟨#[]⟩ : ByteArray).toList:=fun e => hv ((bytes_inj _ _).1 e)
     have g3 : v.toList.isEmpty = false:=by
      rw [Bool.eq_false_iff];intro h
      exact g2 (by rw [List.isEmpty_iff.1 h,ByteArray.toList_eq])
     go_enter Tryz.func66,Tryz.ntmps66
     go_wp2
     go_ret
     exact ⟨by rw [V2.out];first | rfl | (simp;done) | (simp;omega),HB.out⟩
  ·by_cases hv : v = noV
   ·have hs : ¬ s = 0:=by omega
    have V2 : Hid (resB 3 s v = false):=V.out.trans (by simp [hs])
    have n0 : (s == 0) = false:=by simp [hs]
    clear V
    unfold noV at hv
    subst hv
    go_enter Tryz.func66,Tryz.ntmps66
    go_wp2
    go_ret
    exact ⟨by rw [V2.out];first | rfl | (simp;done) | (simp;omega),HB.out⟩
   ·have hs : ¬ s = 0:=by omega
    have V2 : Hid (resB 3 s v = false):=V.out.trans (by simp [hs])
    have n0 : (s == 0) = false:=by simp [hs]
    clear V
    have g2 : ¬ v.toList = (⟨#[]⟩ : ByteArray).toList:=fun e => hv ((bytes_inj _ _).1 e)
    have g3 : v.toList.isEmpty = false:=by
     rw [Bool.eq_false_iff];intro h
     exact g2 (by rw [List.isEmpty_iff.1 h,ByteArray.toList_eq])
    go_enter Tryz.func66,Tryz.ntmps66
    go_wp2
    go_ret
    exact ⟨by rw [V2.out];first | rfl | (simp;done) | (simp;omega),HB.out⟩
 ·by_cases hv : v = noV
  ·have hs : ¬ s = 0:=by omega
   have V2 : Hid (resB 3 s v = false):=V.out.trans (by simp [hs])
   have n0 : (s == 0) = false:=by simp [hs]
   clear V
   unfold noV at hv
   subst hv
   go_enter Tryz.func66,Tryz.ntmps66
   go_wp2
   go_ret
   exact ⟨by rw [V2.out];first | rfl | (simp;done) | (simp;omega),HB.out⟩
  ·have hs : ¬ s = 0:=by omega
   have V2 : Hid (resB 3 s v = false):=V.out.trans (by simp [hs])
   have n0 : (s == 0) = false:=by simp [hs]
   clear V
   have g2 : ¬ v.toList = (⟨#[]⟩ : ByteArray).toList:=fun e => hv ((bytes_inj _ _).1 e)
   have g3 : v.toList.isEmpty = false:=by
    rw [Bool.eq_false_iff];intro h
    exact g2 (by rw [List.isEmpty_iff.1 h,ByteArray.toList_eq])
   go_enter Tryz.func66,Tryz.ntmps66
   go_wp2
   go_ret
   exact ⟨by rw [V2.out];first | rfl | (simp;done) | (simp;omega),HB.out⟩
theorem refresult_7 (s : Int) (v : ByteArray) (w : World) : Calls Tryz.prog 66 #[.agg #[.int .i64 7,.int .i64 s,.string v]] w fun e w' => e = .returned (.bool (resB 7 s v))∧Below w.heap.size w w':=by
 have HB : Hid (Below w.heap.size w (w.alloc (.cells #[.int .i64 7,.int .i64 s,.string v] 49))):=BR.alloc LR _
 have V : Hid (resB 7 s v = (decide (s = 0) && decide (v = noV))):=by simp [Hid,resB]
 by_cases h0 : 0 ≤ s
 ·by_cases h1 : s < 1024
  ·by_cases hv : v = noV
   ·by_cases hs : s = 0
    ·have V2 : Hid (resB 7 s v = true):=V.out.trans (by simp [hv,hs])
     clear V
     unfold noV at hv
     subst hv;subst hs
     go_enter Tryz.func66,Tryz.ntmps66
     go_wp2
     go_ret
     exact ⟨by rw [V2.out];first | rfl | (simp;done) | (simp;omega),HB.out⟩
    ·have V2 : Hid (resB 7 s v = false):=V.out.trans (by simp [hs])
     have n0 : (s == 0) = false:=by simp [hs]
     clear V
     unfold noV at hv
     subst hv
     go_enter Tryz.func66,Tryz.ntmps66
     go_wp2
     go_ret
     exact ⟨by rw [V2.out];first | rfl | (simp;done) | (simp;omega),HB.out⟩
   ·by_cases hs : s = 0
    ·have V2 : Hid (resB 7 s v = false):=V.out.trans (by simp [hv,hs])
     clear V
     have g2 : ¬ v.toList = (⟨#[]⟩ : ByteArray).toList:=fun e => hv ((bytes_inj _ _).1 e)
     have g3 : v.toList.isEmpty = false:=by
      rw [Bool.eq_false_iff];intro h
      exact g2 (by rw [List.isEmpty_iff.1 h,ByteArray.toList_eq])
     subst hs
     go_enter Tryz.func66,Tryz.ntmps66
     go_wp2
     go_ret
     exact ⟨by rw [V2.out];first | rfl | (simp;done) | (simp;omega),HB.out⟩
    ·have V2 : Hid (resB 7 s v = false):=V.out.trans (by simp [hs])
     have n0 : (s == 0) = false:=by simp [hs]
     clear V
     have g2 : ¬ v.toList = (⟨#[]⟩ : ByteArray).toList:=fun e => hv ((bytes_inj _ _).1 e)
     have g3 : v.toList.isEmpty = false:=by
      rw [Bool.eq_false_iff];intro h
      exact g2 (by rw [List.isEmpty_iff.1 h,ByteArray.toList_eq])
     go_enter Tryz.func66,Tryz.ntmps66
     go_wp2
     go_ret
     exact ⟨by rw [V2.out];first | rfl | (simp;done) | (simp;omega),HB.out⟩
  ·by_cases hv : v = noV
   ·have hs : ¬ s = 0:=by omega
    have V2 : Hid (resB 7 s v = false):=V.out.trans (by simp [hs])
    have n0 : (s == 0) = false:=by simp [hs]
    clear V
    unfold noV at hv
    subst hv
    go_enter Tryz.func66,Tryz.ntmps66
    go_wp2
    go_ret
    exact ⟨by rw [V2.out];first | rfl | (simp;done) | (simp;omega),HB.out⟩
   ·have hs : ¬ s = 0:=by omega
    have V2 : Hid (resB 7 s v = false):=V.out.trans (by simp [hs])
    have n0 : (s == 0) = false:=by simp [hs]
    clear V
    have g2 : ¬ v.toList = (⟨#[]⟩ : ByteArray).toList:=fun e => hv ((bytes_inj _ _).1 e)
    have g3 : v.toList.isEmpty = false:=by
     rw [Bool.eq_false_iff];intro h
     exact g2 (by rw [List.isEmpty_iff.1 h,ByteArray.toList_eq])
    go_enter Tryz.func66,Tryz.ntmps66
    go_wp2
    go_ret
    exact ⟨by rw [V2.out];first | rfl | (simp;done) | (simp;omega),HB.out⟩
 ·by_cases hv : v = noV
  ·have hs : ¬ s = 0:=by omega
   have V2 : Hid (resB 7 s v = false):=V.out.trans (by simp [hs])
   have n0 : (s == 0) = false:=by simp [hs]
   clear V
   unfold noV at hv
   subst hv
   go_enter Tryz.func66,Tryz.ntmps66
   go_wp2
   go_ret
   exact ⟨by rw [V2.out];first | rfl | (simp;done) | (simp;omega),HB.out⟩
  ·have hs : ¬ s = 0:=by omega
   have V2 : Hid (resB 7 s v = false):=V.out.trans (by simp [hs])
   have n0 : (s == 0) = false:=by simp [hs]
   clear V
   have g2 : ¬ v.toList = (⟨#[]⟩ : ByteArray).toList:=fun e => hv ((bytes_inj _ _).1 e)
   have g3 : v.toList.isEmpty = false:=by
    rw [Bool.eq_false_iff];intro h
    exact g2 (by rw [List.isEmpty_iff.1 h,ByteArray.toList_eq])
   go_enter Tryz.func66,Tryz.ntmps66
   go_wp2
   go_ret
   exact ⟨by rw [V2.out];first | rfl | (simp;done) | (simp;omega),HB.out⟩
theorem refresult_any (c s : Int) (v : ByteArray) (w : World) : Calls Tryz.prog 66 #[.agg #[.int .i64 c,.int .i64 s,.string v]] w fun e w' => e = .returned (.bool (resB c s v))∧Below w.heap.size w w':=by
 by_cases g1 : c = 1
 ·subst g1;exact refresult_ks s v w _ (.inl rfl)
 by_cases g2 : c = 2
 ·subst g2;exact refresult_ks s v w _ (.inr (.inl rfl))
 by_cases g3 : c = 3
 ·subst g3;exact refresult_3 s v w
 by_cases g4 : c = 4
 ·subst g4;exact refresult_ks s v w _ (.inr (.inr rfl))
 by_cases g5 : c = 5
 ·subst g5;exact refresult_ns s v w _ (.inl rfl)
 by_cases g6 : c = 6
 ·subst g6;exact refresult_ns s v w _ (.inr rfl)
 by_cases g7 : c = 7
 ·subst g7;exact refresult_7 s v w
 have HB : Hid (Below w.heap.size w (w.alloc (.cells #[.int .i64 c,.int .i64 s,.string v] 49))):=BR.alloc LR _
 have V : Hid (resB c s v = false):=by simp [Hid,resB,g1,g2,g3,g4,g5,g6,g7]
 have n1 : (c == 1) = false:=by simp [g1]
 have n2 : (c == 2) = false:=by simp [g2]
 have n3 : (c == 3) = false:=by simp [g3]
 have n4 : (c == 4) = false:=by simp [g4]
 have n5 : (c == 5) = false:=by simp [g5]
 have n6 : (c == 6) = false:=by simp [g6]
 have n7 : (c == 7) = false:=by simp [g7]
 by_cases h0 : 0 ≤ s
 ·by_cases h1 : s < 1024
  ·go_enter Tryz.func66,Tryz.ntmps66
   go_wp2
   go_ret
   exact ⟨by rw [V.out];first | rfl | (simp;done) | (simp;omega),HB.out⟩
  ·go_enter Tryz.func66,Tryz.ntmps66
   go_wp2
   go_ret
   exact ⟨by rw [V.out];first | rfl | (simp;done) | (simp;omega),HB.out⟩
 ·go_enter Tryz.func66,Tryz.ntmps66
  go_wp2
  go_ret
  exact ⟨by rw [V.out];first | rfl | (simp;done) | (simp;omega),HB.out⟩
def enK (k : Int) (e : En) : Bool:=if k = 2 ∨ k = 14 then decide (0 ≤ e.c) && (decide (e.c < 16) && (decide (1 ≤ e.n) && (decide (e.o.k = 0) && (decide (e.o.s = 0) && decide (e.o.v = ⟨#[]⟩))))) else decide (ckE e = 0) && (!decide (k = 13) || (decide (e.o.k = 3) || decide (e.o.k = 4)))
theorem refentry7_name (K : Int) (hK : K = 2 ∨ K = 14) (C N k s : Int) (v : ByteArray) (w : World) : Calls Tryz.prog 65 #[.int .i64 K,.agg #[.int .i64 C,.int .i64 N,.int .i64 k,.int .i64 s,.string v]] w fun e w' => e = .returned (.bool (enK K ⟨C,N,⟨k,s,v⟩⟩))∧Below w.heap.size w w':=by
 have HB : Hid (∀ o,Below w.heap.size w ((w.alloc (.cells #[.int .i64 C,.int .i64 N,.int .i64 k,.int .i64 s,.string v] 47)).alloc o)):=fun o => (BR.alloc LR _).alloc (by simp) _
 have HB1 : Hid (Below w.heap.size w (w.alloc (.cells #[.int .i64 C,.int .i64 N,.int .i64 k,.int .i64 s,.string v] 47))):=BR.alloc LR _
 have V : Hid (enK K ⟨C,N,⟨k,s,v⟩⟩ = (decide (0 ≤ C) && (decide (C < 16) && (decide (1 ≤ N) && (decide (k = 0) && (decide (s = 0) && decide (v = ⟨#[]⟩))))))):=by show _ = _;unfold enK;rw [if_pos hK]
 generalize enK K ⟨C,N,⟨k,s,v⟩⟩ = b at *
 rcases hK with rfl | rfl
 ·by_cases h0 : 0 ≤ C
  rotate_left
  ·have V2 : Hid (b = false):=V.out.trans (by simp [*])
   clear V
   go_enter Tryz.func65,Tryz.ntmps65
   go_wp2
   go_ret
   exact ⟨by rw [V2.out];first | rfl | (simp;done) | (simp;omega),by repeat (first | exact Below.refl _ _ | exact HB1.out | refine Below.alloc ?_ (by simp [World.setCell] <;> omega) _ | refine Below.setCell ?_ (by simp) _)⟩
  by_cases h1 : C < 16
  rotate_left
  ·have V2 : Hid (b = false):=V.out.trans (by simp [*])
   clear V
   go_enter Tryz.func65,Tryz.ntmps65
   go_wp2
   go_ret
   exact ⟨by rw [V2.out];first | rfl | (simp;done) | (simp;omega),by repeat (first | exact Below.refl _ _ | exact HB1.out | refine Below.alloc ?_ (by simp [World.setCell] <;> omega) _ | refine Below.setCell ?_ (by simp) _)⟩
  by_cases h2 : 1 ≤ N
  rotate_left
  ·have V2 : Hid (b = false):=V.out.trans (by simp [*])
   clear V
   go_enter Tryz.func65,Tryz.ntmps65
   go_wp2
   go_ret
   exact ⟨by rw [V2.out];first | rfl | (simp;done) | (simp;omega),by repeat (first | exact Below.refl _ _ | exact HB1.out | refine Below.alloc ?_ (by simp [World.setCell] <;> omega) _ | refine Below.setCell ?_ (by simp) _)⟩
  by_cases g0 : k = 0
  rotate_left
  ·have V2 : Hid (b = false):=V.out.trans (by simp [*])
   clear V
   have q0 : (k == 0) = false:=by simp [g0]
   go_enter Tryz.func65,Tryz.ntmps65
   go_wp2
   go_ret
   exact ⟨by rw [V2.out];first | rfl | (simp;done) | (simp;omega),by repeat (first | exact Below.refl _ _ | exact HB1.out | refine Below.alloc ?_ (by simp [World.setCell] <;> omega) _ | refine Below.setCell ?_ (by simp) _)⟩
  by_cases g1 : s = 0
  rotate_left
  ·have V2 : Hid (b = false):=V.out.trans (by simp [*])
   clear V
   have q1 : (s == 0) = false:=by simp [g1]
   subst g0
   go_enter Tryz.func65,Tryz.ntmps65
   go_wp2
   go_ret
   exact ⟨by rw [V2.out];first | rfl | (simp;done) | (simp;omega),by repeat (first | exact Below.refl _ _ | exact HB1.out | refine Below.alloc ?_ (by simp [World.setCell] <;> omega) _ | refine Below.setCell ?_ (by simp) _)⟩
  by_cases hv : v = ⟨#[]⟩
  ·have V2 : Hid (b = true):=V.out.trans (by simp [*])
   clear V;subst g0 g1 hv
   go_enter Tryz.func65,Tryz.ntmps65
   go_wp2
   go_ret
   exact ⟨by rw [V2.out];first | rfl | (simp;done) | (simp;omega),by repeat (first | exact Below.refl _ _ | exact HB1.out | refine Below.alloc ?_ (by simp [World.setCell] <;> omega) _ | refine Below.setCell ?_ (by simp) _)⟩
  ·have V2 : Hid (b = false):=V.out.trans (by simp [*])
   clear V
   have s7 : ¬ v.toList = (⟨#[]⟩ : ByteArray).toList:=fun e => hv ((bytes_inj _ _).1 e)
   have t7 : v.toList.isEmpty = false:=by
    rw [Bool.eq_false_iff];intro h
    exact s7 (by rw [List.isEmpty_iff.1 h,ByteArray.toList_eq])
   subst g0 g1
   go_enter Tryz.func65,Tryz.ntmps65
   go_wp2
   go_ret
   exact ⟨by rw [V2.out];first | rfl | (simp;done) | (simp;omega),by repeat (first | exact Below.refl _ _ | exact HB1.out | refine Below.alloc ?_ (by simp [World.setCell] <;> omega) _ | refine Below.setCell ?_ (by simp) _)⟩
 ·by_cases h0 : 0 ≤ C
  rotate_left
  ·have V2 : Hid (b = false):=V.out.trans (by simp [*])
   clear V
   go_enter Tryz.func65,Tryz.ntmps65
   go_wp2
   go_ret
   exact ⟨by rw [V2.out];first | rfl | (simp;done) | (simp;omega),by repeat (first | exact Below.refl _ _ | exact HB1.out | refine Below.alloc ?_ (by simp [World.setCell] <;> omega) _ | refine Below.setCell ?_ (by simp) _)⟩
  by_cases h1 : C < 16
  rotate_left
  ·have V2 : Hid (b = false):=V.out.trans (by simp [*])
   clear V
   go_enter Tryz.func65,Tryz.ntmps65
   go_wp2
   go_ret
   exact ⟨by rw [V2.out];first | rfl | (simp;done) | (simp;omega),by repeat (first | exact Below.refl _ _ | exact HB1.out | refine Below.alloc ?_ (by simp [World.setCell] <;> omega) _ | refine Below.setCell ?_ (by simp) _)⟩
  by_cases h2 : 1 ≤ N
  rotate_left
  ·have V2 : Hid (b = false):=V.out.trans (by simp [*])
   clear V
   go_enter Tryz.func65,Tryz.ntmps65
   go_wp2
   go_ret
   exact ⟨by rw [V2.out];first | rfl | (simp;done) | (simp;omega),by repeat (first | exact Below.refl _ _ | exact HB1.out | refine Below.alloc ?_ (by simp [World.setCell] <;> omega) _ | refine Below.setCell ?_ (by simp) _)⟩
  by_cases g0 : k = 0
  rotate_left
  ·have V2 : Hid (b = false):=V.out.trans (by simp [*])
   clear V
   have q0 : (k == 0) = false:=by simp [g0]
   go_enter Tryz.func65,Tryz.ntmps65
   go_wp2
   go_ret
   exact ⟨by rw [V2.out];first | rfl | (simp;done) | (simp;omega),by repeat (first | exact Below.refl _ _ | exact HB1.out | refine Below.alloc ?_ (by simp [World.setCell] <;> omega) _ | refine Below.setCell ?_ (by simp) _)⟩
  by_cases g1 : s = 0
  rotate_left
  ·have V2 : Hid (b = false):=V.out.trans (by simp [*])
   clear V
   have q1 : (s == 0) = false:=by simp [g1]
   subst g0
   go_enter Tryz.func65,Tryz.ntmps65
   go_wp2
   go_ret
   exact ⟨by rw [V2.out];first | rfl | (simp;done) | (simp;omega),by repeat (first | exact Below.refl _ _ | exact HB1.out | refine Below.alloc ?_ (by simp [World.setCell] <;> omega) _ | refine Below.setCell ?_ (by simp) _)⟩
  by_cases hv : v = ⟨#[]⟩
  ·have V2 : Hid (b = true):=V.out.trans (by simp [*])
   clear V;subst g0 g1 hv
   go_enter Tryz.func65,Tryz.ntmps65
   go_wp2
   go_ret
   exact ⟨by rw [V2.out];first | rfl | (simp;done) | (simp;omega),by repeat (first | exact Below.refl _ _ | exact HB1.out | refine Below.alloc ?_ (by simp [World.setCell] <;> omega) _ | refine Below.setCell ?_ (by simp) _)⟩
  ·have V2 : Hid (b = false):=V.out.trans (by simp [*])
   clear V
   have s7 : ¬ v.toList = (⟨#[]⟩ : ByteArray).toList:=fun e => hv ((bytes_inj _ _).1 e)
   have t7 : v.toList.isEmpty = false:=by
    rw [Bool.eq_false_iff];intro h
    exact s7 (by rw [List.isEmpty_iff.1 h,ByteArray.toList_eq])
   subst g0 g1
   go_enter Tryz.func65,Tryz.ntmps65
   go_wp2
   go_ret
   exact ⟨by rw [V2.out];first | rfl | (simp;done) | (simp;omega),by repeat (first | exact Below.refl _ _ | exact HB1.out | refine Below.alloc ?_ (by simp [World.setCell] <;> omega) _ | refine Below.setCell ?_ (by simp) _)⟩
theorem refentry7_whole (K : Int) (hK : ¬ (K = 2 ∨ K = 14)) (C N k s : Int) (v : ByteArray) (hf : (⟨k,s,v⟩ : Opn).fits) (w : World) : Calls Tryz.prog 65 #[.int .i64 K,.agg #[.int .i64 C,.int .i64 N,.int .i64 k,.int .i64 s,.string v]] w fun e w' => e = .returned (.bool (enK K ⟨C,N,⟨k,s,v⟩⟩))∧Below w.heap.size w w':=by
 have HE:=hide (fun W => refentry_any C N k s v hf W);have HB1 : Hid (Below w.heap.size w (w.alloc (.cells #[.int .i64 C,.int .i64 N,.int .i64 k,.int .i64 s,.string v] 47))):=BR.alloc LR _
 have V : Hid (enK K ⟨C,N,⟨k,s,v⟩⟩ = (decide (ckE ⟨C,N,⟨k,s,v⟩⟩ = 0) && (!decide (K = 13) || (decide (k = 3) || decide (k = 4))))):=by show _ = _;unfold enK;rw [if_neg hK]
 generalize enK K ⟨C,N,⟨k,s,v⟩⟩ = b at *
 generalize ckE ⟨C,N,⟨k,s,v⟩⟩ = x at *
 have k2 : (K == 2) = false:=by simp;omega
 have k14 : (K == 14) = false:=by simp;omega
 clear hK hf
 by_cases hx : x = 0
 rotate_left
 ·have V2 : Hid (b = false):=V.out.trans (by simp [hx])
  have qx : (x == 0) = false:=by simp [hx]
  clear V
  go_enter Tryz.func65,Tryz.ntmps65
  go_wp2_with fail
  refine (HE.out _).mono ?_;rintro e w1 ⟨rfl,b1⟩;have e2:=(b1.cell (p:=⟨w.heap.size,2,none⟩) (by simp)).trans (show _ = some (.int .i64 k) by simp);have B1:=hide (HB1.out.trans (b1.mono (by simp)));clear b1
  go_wp2
  go_ret
  exact ⟨by rw [V2.out];first | rfl | (simp;done) | (simp;omega),B1.out⟩
 subst hx
 by_cases h13 : K = 13
 rotate_left
 ·have V2 : Hid (b = true):=V.out.trans (by simp [h13])
  have q13 : (K == 13) = false:=by simp [h13]
  clear V
  go_enter Tryz.func65,Tryz.ntmps65
  go_wp2_with fail
  refine (HE.out _).mono ?_;rintro e w1 ⟨rfl,b1⟩;have e2:=(b1.cell (p:=⟨w.heap.size,2,none⟩) (by simp)).trans (show _ = some (.int .i64 k) by simp);have B1:=hide (HB1.out.trans (b1.mono (by simp)));clear b1
  go_wp2
  go_ret
  exact ⟨by rw [V2.out];first | rfl | (simp;done) | (simp;omega),B1.out⟩
 subst h13
 by_cases g3 : k = 3
 ·have V2 : Hid (b = true):=V.out.trans (by simp [g3])
  subst g3;clear V
  go_enter Tryz.func65,Tryz.ntmps65
  go_wp2_with fail
  refine (HE.out _).mono ?_;rintro e w1 ⟨rfl,b1⟩;have e2:=(b1.cell (p:=⟨w.heap.size,2,none⟩) (by simp)).trans (show _ = some (.int .i64 3) by simp);have B1:=hide (HB1.out.trans (b1.mono (by simp)));clear b1
  go_wp2
  go_ret
  exact ⟨by rw [V2.out];first | rfl | (simp;done) | (simp;omega),B1.out⟩
 have q3 : (k == 3) = false:=by simp [g3]
 by_cases g4 : k = 4
 ·have V2 : Hid (b = true):=V.out.trans (by simp [g4])
  subst g4;clear V
  go_enter Tryz.func65,Tryz.ntmps65
  go_wp2_with fail
  refine (HE.out _).mono ?_;rintro e w1 ⟨rfl,b1⟩;have e2:=(b1.cell (p:=⟨w.heap.size,2,none⟩) (by simp)).trans (show _ = some (.int .i64 4) by simp);have B1:=hide (HB1.out.trans (b1.mono (by simp)));clear b1
  go_wp2
  go_ret
  exact ⟨by rw [V2.out];first | rfl | (simp;done) | (simp;omega),B1.out⟩
 have q4 : (k == 4) = false:=by simp [g4]
 have V2 : Hid (b = false):=V.out.trans (by simp [g3,g4]);clear V
 go_enter Tryz.func65,Tryz.ntmps65
 go_wp2_with fail
 refine (HE.out _).mono ?_;rintro e w1 ⟨rfl,b1⟩;have e2:=(b1.cell (p:=⟨w.heap.size,2,none⟩) (by simp)).trans (show _ = some (.int .i64 k) by simp);have B1:=hide (HB1.out.trans (b1.mono (by simp)));clear b1
 go_wp2
 go_ret
 exact ⟨by rw [V2.out];first | rfl | (simp;done) | (simp;omega),B1.out⟩
theorem refentry7 (K : Int) (e : En) (hf : e.o.fits) (w : World) : Calls Tryz.prog 65 #[.int .i64 K,.agg #[.int .i64 e.c,.int .i64 e.n,.int .i64 e.o.k,.int .i64 e.o.s,.string e.o.v]] w fun r w' => r = .returned (.bool (enK K e))∧Below w.heap.size w w':=by
 by_cases hK : K = 2 ∨ K = 14
 ·exact refentry7_name K hK e.c e.n e.o.k e.o.s e.o.v w
 ·exact refentry7_whole K hK e.c e.n e.o.k e.o.s e.o.v hf w
theorem eqlEnb (x y : Operand) (e e' : En) (w : World) : (do eqGuard .eql 47 x y (.agg #[.int .i64 e.c,.int .i64 e.n,.int .i64 e.o.k,.int .i64 e.o.s,.string e.o.v]) (.agg #[.int .i64 e'.c,.int .i64 e'.n,.int .i64 e'.o.k,.int .i64 e'.o.s,.string e'.o.v]);binOp .eql 47 (.agg #[.int .i64 e.c,.int .i64 e.n,.int .i64 e.o.k,.int .i64 e.o.s,.string e.o.v]) (.agg #[.int .i64 e'.c,.int .i64 e'.n,.int .i64 e'.o.k,.int .i64 e'.o.s,.string e'.o.v]) : Sem Value).run Tryz.prog w = .ok (.bool (enb e e')) w:=by
 have h : enb e e' = decide (e = e'):=by rw [Bool.eq_iff_iff,enb_iff,decide_eq_true_eq]
 rw [h]
 exact eqlEn x y e e' w
def unG (m : Mg) (nl nv : Nat) (u0 u1 u2 u3 u4 u5 u6 u7 u8 u9 : Bool) : Bool:=((((((((((u0 || (decide (m.nd = 0))) && (u1 || (decide (m.vw = 0)))) && (u2 || (decide (m.ls = 0)))) && (u3 || (decide (m.p = 0)))) && (u4 || (decide (m.cm = 0)))) && (u5 || (decide (m.d = (0,0))))) && (u6 || (enb m.e zEn))) && (u7 || (decide (m.r = (0,0,⟨#[]⟩))))) && (u8 || (decide (((nl : Nat) : Int) = 0)))) && (u9 || (decide (((nv : Nat) : Int) = 0))))
theorem unused_any (m : Mg) (a1 a2 : Option Addr) (nl cl nv cv g cu : Nat) (u0 u1 u2 u3 u4 u5 u6 u7 u8 u9 : Bool) (w : World) (hg : g < w.heap.size) (hu : ∀ (j : Nat) (b : Bool),([u0,u1,u2,u3,u4,u5,u6,u7,u8,u9] : List Bool)[j]? = some b → w.cell? ⟨g,j,none⟩ = some (.bool b)) : Calls Tryz.prog 32 #[m.val (.slice a1 nl cl) (.slice a2 nv cv),.slice (some ⟨g,0,none⟩) 10 cu] w fun e w' => e = .returned (.bool (unG m nl nv u0 u1 u2 u3 u4 u5 u6 u7 u8 u9))∧Below w.heap.size w w':=by
 go_enter Tryz.func32,Tryz.ntmps32
 go_upto_region 1 with (refine boxMk rfl (.tmp 0) rfl m _ _ rfl ?_;intro q1 w1 hq1 M1 b1 z1;subst hq1)
 have HM : Hid (∀ v,Below w1.heap.size w1 v → MBox v w.heap.size m (.slice a1 nl cl) (.slice a2 nv cv)):=fun v hv => M1.bel hv
 have HU : Hid (∀ v,Below w1.heap.size w1 v → ∀ (j : Nat) (b : Bool),([u0,u1,u2,u3,u4,u5,u6,u7,u8,u9] : List Bool)[j]? = some b → v.cell? ⟨g,j,none⟩ = some (.bool b)):=fun v hv j b hj => ((b1.trans (hv.mono b1.size)).cell (p:=⟨g,j,none⟩) hg).trans (hu j b hj)
 have HB : Hid (∀ v,Below w1.heap.size w1 v → Below w.heap.size w v):=fun v hv => b1.trans (hv.mono b1.size)
 clear M1 b1 z1 hu;refine vq_start (C:=fun v => Below w1.heap.size w1 v) (by kernel_rfl) (by kernel_rfl) (belN BR 1) ?_;refine vq_gen (fun T => T.size = 118∧T[1]? = some (gw true (.slice (some ⟨g,0,none⟩) 10 cu))∧T[2]? = some (gw true (.pointer (some ⟨w.heap.size,0,none⟩)))) ⟨rfl,rfl,rfl⟩ (fun T0 ⟨hz,s1,s2⟩ => ?_);have Ya:=((Rp.nil hz).cons s1).cons s2;clear hz s1 s2
 refine Ya.q _ (fun v hv => ex_fa rfl (Ya.f 2) (MBox.faNode _ _)) fun _ Yb => ?_;clear Ya
 refine Yb.q _ (fun v hv => ex_ld rfl (Yb.f 10) ((HM.out v hv).ldNode)) fun _ Yc => ?_;clear Yb
 refine Yc.q (.bool (decide (m.nd = 0))) (fun v hv => ex_bin rfl (Yc.f 11) rfl (eqlC _ _ _ _ _)) fun _ Yd => ?_;clear Yc
 refine Yd.q _ (fun v hv => ex_fa rfl (Yd.f 2) (MBox.faView _ _)) fun _ Ye => ?_;clear Yd
 refine Ye.q _ (fun v hv => ex_ld rfl (Ye.f 13) ((HM.out v hv).ldView)) fun _ Yf => ?_;clear Ye
 refine Yf.q (.bool (decide (m.vw = 0))) (fun v hv => ex_bin rfl (Yf.f 14) rfl (eqlC _ _ _ _ _)) fun _ Yg => ?_;clear Yf
 refine Yg.q _ (fun v hv => ex_fa rfl (Yg.f 2) (MBox.faLast _ _)) fun _ Yh => ?_;clear Yg
 refine Yh.q _ (fun v hv => ex_ld rfl (Yh.f 16) ((HM.out v hv).ldLast)) fun _ Yi => ?_;clear Yh
 refine Yi.q (.bool (decide (m.ls = 0))) (fun v hv => ex_bin rfl (Yi.f 17) rfl (eqlC _ _ _ _ _)) fun _ Yj => ?_;clear Yi
 refine Yj.q _ (fun v hv => ex_fa rfl (Yj.f 2) (MBox.faPlace _ _)) fun _ Yk => ?_;clear Yj
 refine Yk.q _ (fun v hv => ex_ld rfl (Yk.f 19) ((HM.out v hv).ldPlace)) fun _ Yl => ?_;clear Yk
 refine Yl.q (.bool (decide (m.p = 0))) (fun v hv => ex_bin rfl (Yl.f 20) rfl (eqlC _ _ _ _ _)) fun _ Ym => ?_;clear Yl
 refine Ym.q _ (fun v hv => ex_fa rfl (Ym.f 2) (MBox.faCommit _ _)) fun _ Yn => ?_;clear Ym
 refine Yn.q _ (fun v hv => ex_ld rfl (Yn.f 22) ((HM.out v hv).ldCommit)) fun _ Yo => ?_;clear Yn
 refine Yo.q (.bool (decide (m.cm = 0))) (fun v hv => ex_bin rfl (Yo.f 23) rfl (eqlC _ _ _ _ _)) fun _ Yp => ?_;clear Yo
 refine Yp.q _ (fun v hv => ex_assign rfl (Yp.f 12)) fun _ Yq => ?_;clear Yp
 refine Yq.q _ (fun v hv => ex_assign rfl (Yq.f 15)) fun _ Yr => ?_;clear Yq
 refine Yr.q _ (fun v hv => ex_assign rfl (Yr.f 18)) fun _ Ys => ?_;clear Yr
 refine Ys.q _ (fun v hv => ex_assign rfl (Ys.f 21)) fun _ Yt => ?_;clear Ys
 refine Yt.q _ (fun v hv => ex_assign rfl (Yt.f 24)) fun _ Yu => ?_;clear Yt
 have hz:=Yu.z;have s1:=Yu.a 1 rfl;have s2:=Yu.a 2 rfl;have s5:=Yu.a 5 rfl;have s6:=Yu.a 6 rfl;have s7:=Yu.a 7 rfl;have s8:=Yu.a 8 rfl;have s9:=Yu.a 9 rfl;clear Yu;refine vq_nil (fun v hv => ?_)
 go_upto_region 2 with fail
 refine WL ?_;have Yv:=(((((((Rp.nil hz).cons s1).cons s2).cons s5).cons s6).cons s7).cons s8).cons s9;clear hz s1 s2 s5 s6 s7 s8 s9
 refine Yv.t _ (ex_move rfl (Yv.f 1)) fun _ Yw => ?_;clear Yv
 refine Yw.t (.pointer (some ⟨g,0,none⟩)) (ex_ix rfl (Yw.f 25) rfl (ixBool g 0 10 cu (by decide) _)) fun _ Yx => ?_;clear Yw
 refine Yx.t _ (ex_ld rfl (Yx.f 26) (ldBool (HU.out v hv 0 _ rfl))) fun _ Yy => ?_;clear Yx
 refine Yy.t _ (ex_move rfl (Yy.f 27)) fun _ Yz => ?_;clear Yy
 refine Yz.g 28 rfl rfl _ (fun hc => ex_move rfl (Yz.f 5)) fun R5 Y0 => ?_;clear Yz
 refine Y0.t (.bool (u0 || (decide (m.nd = 0)))) (ex_or rfl (Y0.a 28 rfl) (Y0.a 29 rfl) rfl) fun _ Y1 => ?_;clear Y0
 refine Y1.t _ (ex_move rfl (Y1.f 30)) fun _ Y2 => ?_;clear Y1
 refine Y2.g 31 rfl rfl _ (fun hc => ex_move rfl (Y2.f 1)) fun R8 Y3 => ?_;clear Y2
 refine Y3.g 31 rfl rfl (.pointer (some ⟨g,1,none⟩)) (fun hc => ex_ix rfl (Y3.v 32 hc) rfl (ixBool g 1 10 cu (by decide) _)) fun R9 Y4 => ?_;clear Y3
 refine Y4.g 31 rfl rfl _ (fun hc => ex_ld rfl (Y4.v 33 hc) (ldBool (HU.out v hv 1 _ rfl))) fun R10 Y5 => ?_;clear Y4
 refine Y5.g 31 rfl rfl _ (fun hc => ex_move rfl (Y5.v 34 hc)) fun R11 Y6 => ?_;clear Y5
 refine Y6.g 35 rfl rfl _ (fun hc => ex_move rfl (Y6.f 6)) fun R12 Y7 => ?_;clear Y6
 refine Y7.g 31 rfl rfl (.bool (u1 || (decide (m.vw = 0)))) (fun hc => ex_or rfl (Y7.a 35 rfl) (Y7.a 36 rfl) hc) fun R13 Y8 => ?_;clear Y7
 refine Y8.t (.bool ((u0 || (decide (m.nd = 0))) && (u1 || (decide (m.vw = 0))))) (ex_and rfl (Y8.a 31 rfl) (Y8.a 37 rfl) rfl) fun _ Y9 => ?_;clear Y8
 refine Y9.t _ (ex_move rfl (Y9.f 38)) fun _ Yba => ?_;clear Y9
 refine Yba.g 39 rfl rfl _ (fun hc => ex_move rfl (Yba.f 1)) fun R16 Ybb => ?_;clear Yba
 refine Ybb.g 39 rfl rfl (.pointer (some ⟨g,2,none⟩)) (fun hc => ex_ix rfl (Ybb.v 40 hc) rfl (ixBool g 2 10 cu (by decide) _)) fun R17 Ybc => ?_;clear Ybb
 refine Ybc.g 39 rfl rfl _ (fun hc => ex_ld rfl (Ybc.v 41 hc) (ldBool (HU.out v hv 2 _ rfl))) fun R18 Ybd => ?_;clear Ybc
 refine Ybd.g 39 rfl rfl _ (fun hc => ex_move rfl (Ybd.v 42 hc)) fun R19 Ybe => ?_;clear Ybd
 refine Ybe.g 43 rfl rfl _ (fun hc => ex_move rfl (Ybe.f 7)) fun R20 Ybf => ?_;clear Ybe
 refine Ybf.g 39 rfl rfl (.bool (u2 || (decide (m.ls = 0)))) (fun hc => ex_or rfl (Ybf.a 43 rfl) (Ybf.a 44 rfl) hc) fun R21 Ybg => ?_;clear Ybf
 refine Ybg.t (.bool (((u0 || (decide (m.nd = 0))) && (u1 || (decide (m.vw = 0)))) && (u2 || (decide (m.ls = 0))))) (ex_and rfl (Ybg.a 39 rfl) (Ybg.a 45 rfl) rfl) fun _ Ybh => ?_;clear Ybg
 refine Ybh.t _ (ex_move rfl (Ybh.f 46)) fun _ Ybi => ?_;clear Ybh
 refine Ybi.g 47 rfl rfl _ (fun hc => ex_move rfl (Ybi.f 1)) fun R24 Ybj => ?_;clear Ybi
 refine Ybj.g 47 rfl rfl (.pointer (some ⟨g,3,none⟩)) (fun hc => ex_ix rfl (Ybj.v 48 hc) rfl (ixBool g 3 10 cu (by decide) _)) fun R25 Ybk => ?_;clear Ybj
 refine Ybk.g 47 rfl rfl _ (fun hc => ex_ld rfl (Ybk.v 49 hc) (ldBool (HU.out v hv 3 _ rfl))) fun R26 Ybl => ?_;clear Ybk
 refine Ybl.g 47 rfl rfl _ (fun hc => ex_move rfl (Ybl.v 50 hc)) fun R27 Ybm => ?_;clear Ybl
 refine Ybm.g 51 rfl rfl _ (fun hc => ex_move rfl (Ybm.f 8)) fun R28 Ybn => ?_;clear Ybm
 refine Ybn.g 47 rfl rfl (.bool (u3 || (decide (m.p = 0)))) (fun hc => ex_or rfl (Ybn.a 51 rfl) (Ybn.a 52 rfl) hc) fun R29 Ybo => ?_;clear Ybn
 refine Ybo.t (.bool ((((u0 || (decide (m.nd = 0))) && (u1 || (decide (m.vw = 0)))) && (u2 || (decide (m.ls = 0)))) && (u3 || (decide (m.p = 0))))) (ex_and rfl (Ybo.a 47 rfl) (Ybo.a 53 rfl) rfl) fun _ Ybp => ?_;clear Ybo
 refine Ybp.t _ (ex_move rfl (Ybp.f 54)) fun _ Ybq => ?_;clear Ybp
 refine Ybq.g 55 rfl rfl _ (fun hc => ex_move rfl (Ybq.f 1)) fun R32 Ybr => ?_;clear Ybq
 refine Ybr.g 55 rfl rfl (.pointer (some ⟨g,4,none⟩)) (fun hc => ex_ix rfl (Ybr.v 56 hc) rfl (ixBool g 4 10 cu (by decide) _)) fun R33 Ybs => ?_;clear Ybr
 refine Ybs.g 55 rfl rfl _ (fun hc => ex_ld rfl (Ybs.v 57 hc) (ldBool (HU.out v hv 4 _ rfl))) fun R34 Ybt => ?_;clear Ybs
 refine Ybt.g 55 rfl rfl _ (fun hc => ex_move rfl (Ybt.v 58 hc)) fun R35 Ybu => ?_;clear Ybt
 refine Ybu.g 59 rfl rfl _ (fun hc => ex_move rfl (Ybu.f 9)) fun R36 Ybv => ?_;clear Ybu
 refine Ybv.g 55 rfl rfl (.bool (u4 || (decide (m.cm = 0)))) (fun hc => ex_or rfl (Ybv.a 59 rfl) (Ybv.a 60 rfl) hc) fun R37 Ybw => ?_;clear Ybv
 refine Ybw.t (.bool (((((u0 || (decide (m.nd = 0))) && (u1 || (decide (m.vw = 0)))) && (u2 || (decide (m.ls = 0)))) && (u3 || (decide (m.p = 0)))) && (u4 || (decide (m.cm = 0))))) (ex_and rfl (Ybw.a 55 rfl) (Ybw.a 61 rfl) rfl) fun _ Ybx => ?_;clear Ybw
 refine Ybx.t _ (ex_move rfl (Ybx.f 62)) fun _ Yby => ?_;clear Ybx
 refine Yby.g 63 rfl rfl _ (fun hc => ex_move rfl (Yby.f 1)) fun R40 Ybz => ?_;clear Yby
 refine Ybz.g 63 rfl rfl (.pointer (some ⟨g,5,none⟩)) (fun hc => ex_ix rfl (Ybz.v 64 hc) rfl (ixBool g 5 10 cu (by decide) _)) fun R41 Yb0 => ?_;clear Ybz
 refine Yb0.g 63 rfl rfl _ (fun hc => ex_ld rfl (Yb0.v 65 hc) (ldBool (HU.out v hv 5 _ rfl))) fun R42 Yb1 => ?_;clear Yb0
 refine Yb1.g 63 rfl rfl _ (fun hc => ex_move rfl (Yb1.v 66 hc)) fun R43 Yb2 => ?_;clear Yb1
 refine Yb2.g 67 rfl rfl _ (fun hc => ex_fa rfl (Yb2.f 2) (MBox.faDraw _ _)) fun R44 Yb3 => ?_;clear Yb2
 refine Yb3.g 67 rfl rfl _ (fun hc => ex_ld rfl (Yb3.v 68 hc) ((HM.out v hv).ldDraw)) fun R45 Yb4 => ?_;clear Yb3
 refine Yb4.g 67 rfl rfl (.agg #[.int .u64 0,.int .u64 0]) (fun hc => ex_build rfl (buildDr _)) fun R46 Yb5 => ?_;clear Yb4
 refine Yb5.g 67 rfl rfl (.bool (decide (m.d = (0,0)))) (fun hc => ex_bin rfl (Yb5.v 69 hc) (Yb5.v 70 hc) (eqlDr _ _ m.d (0,0) _)) fun R47 Yb6 => ?_;clear Yb5
 refine Yb6.g 63 rfl rfl (.bool (u5 || (decide (m.d = (0,0))))) (fun hc => ex_or rfl (Yb6.a 67 rfl) (Yb6.a 71 rfl) hc) fun R48 Yb7 => ?_;clear Yb6
 refine Yb7.t (.bool ((((((u0 || (decide (m.nd = 0))) && (u1 || (decide (m.vw = 0)))) && (u2 || (decide (m.ls = 0)))) && (u3 || (decide (m.p = 0)))) && (u4 || (decide (m.cm = 0)))) && (u5 || (decide (m.d = (0,0)))))) (ex_and rfl (Yb7.a 63 rfl) (Yb7.a 72 rfl) rfl) fun _ Yb8 => ?_;clear Yb7
 refine Yb8.t _ (ex_move rfl (Yb8.f 73)) fun _ Yb9 => ?_;clear Yb8
 refine Yb9.g 74 rfl rfl _ (fun hc => ex_move rfl (Yb9.f 1)) fun R51 Yca => ?_;clear Yb9
 refine Yca.g 74 rfl rfl (.pointer (some ⟨g,6,none⟩)) (fun hc => ex_ix rfl (Yca.v 75 hc) rfl (ixBool g 6 10 cu (by decide) _)) fun R52 Ycb => ?_;clear Yca
 refine Ycb.g 74 rfl rfl _ (fun hc => ex_ld rfl (Ycb.v 76 hc) (ldBool (HU.out v hv 6 _ rfl))) fun R53 Ycc => ?_;clear Ycb
 refine Ycc.g 74 rfl rfl _ (fun hc => ex_move rfl (Ycc.v 77 hc)) fun R54 Ycd => ?_;clear Ycc
 refine Ycd.g 78 rfl rfl _ (fun hc => ex_fa rfl (Ycd.f 2) (MBox.faEntry _ _)) fun R55 Yce => ?_;clear Ycd
 refine Yce.g 78 rfl rfl _ (fun hc => ex_ld rfl (Yce.v 79 hc) ((HM.out v hv).ldEntry)) fun R56 Ycf => ?_;clear Yce
 refine Ycf.g 78 rfl rfl (.agg #[.int .i64 0,.int .i64 0,.int .i64 0,.int .i64 0,.string ⟨#[]⟩]) (fun hc => ex_build rfl (buildEn _)) fun R57 Ycg => ?_;clear Ycf
 refine Ycg.g 78 rfl rfl (.bool (enb m.e zEn)) (fun hc => ex_bin rfl (Ycg.v 80 hc) (Ycg.v 81 hc) (eqlEnb _ _ m.e zEn _)) fun R58 Ych => ?_;clear Ycg
 refine Ych.g 74 rfl rfl (.bool (u6 || (enb m.e zEn))) (fun hc => ex_or rfl (Ych.a 78 rfl) (Ych.a 82 rfl) hc) fun R59 Yci => ?_;clear Ych
 refine Yci.t (.bool (((((((u0 || (decide (m.nd = 0))) && (u1 || (decide (m.vw = 0)))) && (u2 || (decide (m.ls = 0)))) && (u3 || (decide (m.p = 0)))) && (u4 || (decide (m.cm = 0)))) && (u5 || (decide (m.d = (0,0))))) && (u6 || (enb m.e zEn)))) (ex_and rfl (Yci.a 74 rfl) (Yci.a 83 rfl) rfl) fun _ Ycj => ?_;clear Yci
 refine Ycj.t _ (ex_move rfl (Ycj.f 84)) fun _ Yck => ?_;clear Ycj
 refine Yck.g 85 rfl rfl _ (fun hc => ex_move rfl (Yck.f 1)) fun R62 Ycl => ?_;clear Yck
 refine Ycl.g 85 rfl rfl (.pointer (some ⟨g,7,none⟩)) (fun hc => ex_ix rfl (Ycl.v 86 hc) rfl (ixBool g 7 10 cu (by decide) _)) fun R63 Ycm => ?_;clear Ycl
 refine Ycm.g 85 rfl rfl _ (fun hc => ex_ld rfl (Ycm.v 87 hc) (ldBool (HU.out v hv 7 _ rfl))) fun R64 Ycn => ?_;clear Ycm
 refine Ycn.g 85 rfl rfl _ (fun hc => ex_move rfl (Ycn.v 88 hc)) fun R65 Yco => ?_;clear Ycn
 refine Yco.g 89 rfl rfl _ (fun hc => ex_fa rfl (Yco.f 2) (MBox.faResult _ _)) fun R66 Ycp => ?_;clear Yco
 refine Ycp.g 89 rfl rfl _ (fun hc => ex_ld rfl (Ycp.v 90 hc) ((HM.out v hv).ldResult)) fun R67 Ycq => ?_;clear Ycp
 refine Ycq.g 89 rfl rfl (.agg #[.int .i64 0,.int .i64 0,.string ⟨#[]⟩]) (fun hc => ex_build rfl (buildRs _)) fun R68 Ycr => ?_;clear Ycq
 refine Ycr.g 89 rfl rfl (.bool (decide (m.r = (0,0,⟨#[]⟩)))) (fun hc => ex_bin rfl (Ycr.v 91 hc) (Ycr.v 92 hc) (eqlRs _ _ m.r (0,0,⟨#[]⟩) _)) fun R69 Ycs => ?_;clear Ycr
 refine Ycs.g 85 rfl rfl (.bool (u7 || (decide (m.r = (0,0,⟨#[]⟩))))) (fun hc => ex_or rfl (Ycs.a 89 rfl) (Ycs.a 93 rfl) hc) fun R70 Yct => ?_;clear Ycs
 refine Yct.t (.bool ((((((((u0 || (decide (m.nd = 0))) && (u1 || (decide (m.vw = 0)))) && (u2 || (decide (m.ls = 0)))) && (u3 || (decide (m.p = 0)))) && (u4 || (decide (m.cm = 0)))) && (u5 || (decide (m.d = (0,0))))) && (u6 || (enb m.e zEn))) && (u7 || (decide (m.r = (0,0,⟨#[]⟩)))))) (ex_and rfl (Yct.a 85 rfl) (Yct.a 94 rfl) rfl) fun _ Ycu => ?_;clear Yct
 refine Ycu.t _ (ex_move rfl (Ycu.f 95)) fun _ Ycv => ?_;clear Ycu
 refine Ycv.g 96 rfl rfl _ (fun hc => ex_move rfl (Ycv.f 1)) fun R73 Ycw => ?_;clear Ycv
 refine Ycw.g 96 rfl rfl (.pointer (some ⟨g,8,none⟩)) (fun hc => ex_ix rfl (Ycw.v 97 hc) rfl (ixBool g 8 10 cu (by decide) _)) fun R74 Ycx => ?_;clear Ycw
 refine Ycx.g 96 rfl rfl _ (fun hc => ex_ld rfl (Ycx.v 98 hc) (ldBool (HU.out v hv 8 _ rfl))) fun R75 Ycy => ?_;clear Ycx
 refine Ycy.g 96 rfl rfl _ (fun hc => ex_move rfl (Ycy.v 99 hc)) fun R76 Ycz => ?_;clear Ycy
 refine Ycz.g 100 rfl rfl _ (fun hc => ex_fa rfl (Ycz.f 2) (MBox.faLog _ _)) fun R77 Yc0 => ?_;clear Ycz
 refine Yc0.g 100 rfl rfl _ (fun hc => ex_ld rfl (Yc0.v 101 hc) ((HM.out v hv).ldLog)) fun R78 Yc1 => ?_;clear Yc0
 refine Yc1.g 100 rfl rfl _ (fun hc => ex_lenE rfl rfl (Yc1.v 102 hc)) fun R79 Yc2 => ?_;clear Yc1
 refine Yc2.g 100 rfl rfl (.bool (decide (((nl : Nat) : Int) = 0))) (fun hc => ex_bin rfl (Yc2.v 103 hc) rfl (eqlC _ _ _ _ _)) fun R80 Yc3 => ?_;clear Yc2
 refine Yc3.g 96 rfl rfl (.bool (u8 || (decide (((nl : Nat) : Int) = 0)))) (fun hc => ex_or rfl (Yc3.a 100 rfl) (Yc3.a 104 rfl) hc) fun R81 Yc4 => ?_;clear Yc3
 refine Yc4.t (.bool (((((((((u0 || (decide (m.nd = 0))) && (u1 || (decide (m.vw = 0)))) && (u2 || (decide (m.ls = 0)))) && (u3 || (decide (m.p = 0)))) && (u4 || (decide (m.cm = 0)))) && (u5 || (decide (m.d = (0,0))))) && (u6 || (enb m.e zEn))) && (u7 || (decide (m.r = (0,0,⟨#[]⟩))))) && (u8 || (decide (((nl : Nat) : Int) = 0))))) (ex_and rfl (Yc4.a 96 rfl) (Yc4.a 105 rfl) rfl) fun _ Yc5 => ?_;clear Yc4
 refine Yc5.t _ (ex_move rfl (Yc5.f 106)) fun _ Yc6 => ?_;clear Yc5
 refine Yc6.g 107 rfl rfl _ (fun hc => ex_move rfl (Yc6.f 1)) fun R84 Yc7 => ?_;clear Yc6
 refine Yc7.g 107 rfl rfl (.pointer (some ⟨g,9,none⟩)) (fun hc => ex_ix rfl (Yc7.v 108 hc) rfl (ixBool g 9 10 cu (by decide) _)) fun R85 Yc8 => ?_;clear Yc7
 refine Yc8.g 107 rfl rfl _ (fun hc => ex_ld rfl (Yc8.v 109 hc) (ldBool (HU.out v hv 9 _ rfl))) fun R86 Yc9 => ?_;clear Yc8
 refine Yc9.g 107 rfl rfl _ (fun hc => ex_move rfl (Yc9.v 110 hc)) fun R87 Yda => ?_;clear Yc9
 refine Yda.g 111 rfl rfl _ (fun hc => ex_fa rfl (Yda.f 2) (MBox.faVector _ _)) fun R88 Ydb => ?_;clear Yda
 refine Ydb.g 111 rfl rfl _ (fun hc => ex_ld rfl (Ydb.v 112 hc) ((HM.out v hv).ldVector)) fun R89 Ydc => ?_;clear Ydb
 refine Ydc.g 111 rfl rfl _ (fun hc => ex_lenV rfl rfl (Ydc.v 113 hc)) fun R90 Ydd => ?_;clear Ydc
 refine Ydd.g 111 rfl rfl (.bool (decide (((nv : Nat) : Int) = 0))) (fun hc => ex_bin rfl (Ydd.v 114 hc) rfl (eqlC _ _ _ _ _)) fun R91 Yde => ?_;clear Ydd
 refine Yde.g 107 rfl rfl (.bool (u9 || (decide (((nv : Nat) : Int) = 0)))) (fun hc => ex_or rfl (Yde.a 111 rfl) (Yde.a 115 rfl) hc) fun R92 Ydf => ?_;clear Yde
 refine Ydf.t (.bool ((((((((((u0 || (decide (m.nd = 0))) && (u1 || (decide (m.vw = 0)))) && (u2 || (decide (m.ls = 0)))) && (u3 || (decide (m.p = 0)))) && (u4 || (decide (m.cm = 0)))) && (u5 || (decide (m.d = (0,0))))) && (u6 || (enb m.e zEn))) && (u7 || (decide (m.r = (0,0,⟨#[]⟩))))) && (u8 || (decide (((nl : Nat) : Int) = 0)))) && (u9 || (decide (((nv : Nat) : Int) = 0))))) (ex_and rfl (Ydf.a 107 rfl) (Ydf.a 116 rfl) rfl) fun _ Ydg => ?_;clear Ydf
 refine Ydg.t _ (ex_assign rfl (Ydg.f 117)) fun _ Ydh => ?_;clear Ydg
 have hz:=Ydh.z;have s4:=Ydh.a 4 rfl;clear Ydh;refine WE ?_;have HV:=hide (HB.out v hv);clear HM HU HB hv
 go_wp2
 refine bodyPost_ret (results_tmp rfl _ _ _) rfl ⟨?_,HV.out⟩;rw [getD_of s4]
 rfl
end Go.Proofs.YtpcgnjpodnebpaaGreatDoor
