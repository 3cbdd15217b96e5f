import Derived.Lib.Strings
import Derived.Test.YtjcedofmljkhfaaGreatDoorF17
set_option maxRecDepth 100000
set_option linter.unusedVariables false
set_option linter.unusedSimpArgs false
namespace Go.Proofs.YtjcedofmljkhfaaGreatDoor
open Go.RowKit
open Classical
def yB : Lay Bool:=⟨4,77,1,1,fun x => [.bool x],false⟩
theorem kB : yB.Ok:=⟨by decide,fun x => rfl,fun x u h => by
  simp [yB] at h
  subst h;rfl,Tryz.underlying77,⟨.bool false,by kernel_rfl,rfl⟩⟩
def btsU (s : ByteArray) : List Nat:=s.data.toList.map UInt8.toNat
theorem btsU_len (s : ByteArray) : (btsU s).length = s.size:=by unfold btsU;rw [List.length_map,Array.length_toList];rfl
theorem idxU {s : ByteArray} {j c : Nat} (h : (btsU s)[j]? = some c) (w : World) : (Instr.index 9 (.string s) (.int .i64 (j : Int))).run Tryz.prog w = .ok (.int .u8 (c : Int)) w:=by
 have hj : j < s.size:=by rw [← btsU_len];exact (List.getElem?_eq_some_iff.1 h).1
 rw [run_index_string w 9 s .i64 (j : Int) Tryz.underlying9,dif_pos ⟨by omega,by omega⟩]
 have e : ((s[((j : Int)).toNat]'(by omega)).toNat : Int) = (c : Int):=by
  have h2 : (btsU s)[j]? = some (s[j]'hj).toNat:=by
   unfold btsU
   rw [List.getElem?_map,List.getElem?_eq_getElem (by simpa using hj)]
   rfl
  rw [h] at h2
  injection h2 with h2
  simp only [Int.toNat_natCast]
  omega
 rw [e]
def usT (l : List Nat) : List Bool:=l.map fun c => !(c == 46)
theorem usT_next {l : List Nat} {i c : Nat} (h : l[i]? = some c) : usT (l.take i) ++ [!(c == 46)] = usT (l.take (i + 1)):=by
 unfold usT
 rw [List.take_add_one,h];simp
set_option maxHeartbeats 1000000 in
theorem uses_1 (w : World) :
  Calls Tryz.prog 22 #[.int .i64 1] w fun e w' => ∃ v',e = .returned v'∧OwnY yB w.heap.size w' v' (usT [46,46,46,46,46,46,101,46,46,46])∧Below w.heap.size w w':=by
 have IX : Hid (∀ (j c : Nat),([46,46,46,46,46,46,101,46,46,46] : List Nat)[j]? = some c → ∀ W,(Instr.index 9 (.string ⟨#[46,46,46,46,46,46,101,46,46,46]⟩) (.int .i64 (j : Int))).run Tryz.prog W = .ok (.int .u8 (c : Int)) W):=fun j c h W => idxU (s:=⟨#[46,46,46,46,46,46,101,46,46,46]⟩) h W
 go_enter Tryz.func22,Tryz.ntmps22
 go_wp2
 go_loopw [4,5] (fun vl vi wr => ∃ i : Nat,vi = .int .i64 (i : Int)∧i ≤ 10∧Hid (OwnY yB w.heap.size wr vl (usT (([46,46,46,46,46,46,101,46,46,46] : List Nat).take i))∧Below w.heap.size w wr)) (fun _ vi _ => 10 - (intOf vi).toNat)
 case atStart => exact ⟨0,rfl,Nat.zero_le _,OwnY.nil _ _ _,Below.refl _ _⟩
 case round =>
  obtain ⟨i,rfl,hi,H⟩:=hrel
  by_cases hlt : i < 10
  ·obtain ⟨c,hc⟩ : ∃ c,([46,46,46,46,46,46,101,46,46,46] : List Nat)[i]? = some c:=⟨_,List.getElem?_eq_getElem hlt⟩
   have ix:=fun W => IX.out i c hc W
   have E:=hide (usT_next hc)
   have hL : Hid ((usT (([46,46,46,46,46,46,101,46,46,46] : List Nat).take i)).length = i):=by show _ = _;simp [usT];omega
   clear hc;have z1:=H.out.2.size;have SB:=hide (sl_box (Y:=yB) wr (!(c == 46)) 4)
   have eB : ((c : Int) != 46) = !(c == 46):=by
    by_cases h : c = 46
    ·subst h;rfl
    ·rw [bne,beq_eq_false_iff_ne.2 h,beq_eq_false_iff_ne.2 (by omega)]
   go_wp2_with (at_builtin;go_must (refine appY kB _ rfl (.tmp 39) (.tmp 44) rfl w.heap.size _ _ rfl (some ⟨wr.heap.size,0,none⟩) 1 1 rfl [!(c == 46)] SB.out (H.out.1.alloc _) (by simp;omega) (by rw [hL.out];unfold maxLen;omega) (by show (_ + 1) * 1 ≤ _;rw [hL.out];omega) ?_))
   intro v5 w2 o2 g2 _;have b2:=hide ((H.out.1.alloc _).grown (H.out.2.alloc z1 _) g2 (by simp;omega));have O2:=hide o2;clear o2 g2 SB H
   go_wp2
   go_roundw
   case rel => exact ⟨i + 1,by go_num,by omega,by rw [← E.out];exact O2.out,b2.out⟩
   case measure => simp [intOf];omega
  ·obtain rfl : i = 10:=by omega
   go_wp2
   go_ret
   exact ⟨_,rfl,H.out.1,H.out.2⟩
set_option maxHeartbeats 1000000 in
theorem uses_2 (w : World) :
  Calls Tryz.prog 22 #[.int .i64 2] w fun e w' => ∃ v',e = .returned v'∧OwnY yB w.heap.size w' v' (usT [110,118,46,112,46,46,101,114,46,46])∧Below w.heap.size w w':=by
 have IX : Hid (∀ (j c : Nat),([110,118,46,112,46,46,101,114,46,46] : List Nat)[j]? = some c → ∀ W,(Instr.index 9 (.string ⟨#[110,118,46,112,46,46,101,114,46,46]⟩) (.int .i64 (j : Int))).run Tryz.prog W = .ok (.int .u8 (c : Int)) W):=fun j c h W => idxU (s:=⟨#[110,118,46,112,46,46,101,114,46,46]⟩) h W
 go_enter Tryz.func22,Tryz.ntmps22
 go_wp2
 go_loopw [4,5] (fun vl vi wr => ∃ i : Nat,vi = .int .i64 (i : Int)∧i ≤ 10∧Hid (OwnY yB w.heap.size wr vl (usT (([110,118,46,112,46,46,101,114,46,46] : List Nat).take i))∧Below w.heap.size w wr)) (fun _ vi _ => 10 - (intOf vi).toNat)
 case atStart => exact ⟨0,rfl,Nat.zero_le _,OwnY.nil _ _ _,Below.refl _ _⟩
 case round =>
  obtain ⟨i,rfl,hi,H⟩:=hrel
  by_cases hlt : i < 10
  ·obtain ⟨c,hc⟩ : ∃ c,([110,118,46,112,46,46,101,114,46,46] : List Nat)[i]? = some c:=⟨_,List.getElem?_eq_getElem hlt⟩
   have ix:=fun W => IX.out i c hc W
   have E:=hide (usT_next hc)
   have hL : Hid ((usT (([110,118,46,112,46,46,101,114,46,46] : List Nat).take i)).length = i):=by show _ = _;simp [usT];omega
   clear hc;have z1:=H.out.2.size;have SB:=hide (sl_box (Y:=yB) wr (!(c == 46)) 4)
   have eB : ((c : Int) != 46) = !(c == 46):=by
    by_cases h : c = 46
    ·subst h;rfl
    ·rw [bne,beq_eq_false_iff_ne.2 h,beq_eq_false_iff_ne.2 (by omega)]
   go_wp2_with (at_builtin;go_must (refine appY kB _ rfl (.tmp 39) (.tmp 44) rfl w.heap.size _ _ rfl (some ⟨wr.heap.size,0,none⟩) 1 1 rfl [!(c == 46)] SB.out (H.out.1.alloc _) (by simp;omega) (by rw [hL.out];unfold maxLen;omega) (by show (_ + 1) * 1 ≤ _;rw [hL.out];omega) ?_))
   intro v5 w2 o2 g2 _;have b2:=hide ((H.out.1.alloc _).grown (H.out.2.alloc z1 _) g2 (by simp;omega));have O2:=hide o2;clear o2 g2 SB H
   go_wp2
   go_roundw
   case rel => exact ⟨i + 1,by go_num,by omega,by rw [← E.out];exact O2.out,b2.out⟩
   case measure => simp [intOf];omega
  ·obtain rfl : i = 10:=by omega
   go_wp2
   go_ret
   exact ⟨_,rfl,H.out.1,H.out.2⟩
set_option maxHeartbeats 1000000 in
theorem uses_3 (w : World) :
  Calls Tryz.prog 22 #[.int .i64 3] w fun e w' => ∃ v',e = .returned v'∧OwnY yB w.heap.size w' v' (usT [110,118,46,112,99,46,101,46,46,120])∧Below w.heap.size w w':=by
 have IX : Hid (∀ (j c : Nat),([110,118,46,112,99,46,101,46,46,120] : List Nat)[j]? = some c → ∀ W,(Instr.index 9 (.string ⟨#[110,118,46,112,99,46,101,46,46,120]⟩) (.int .i64 (j : Int))).run Tryz.prog W = .ok (.int .u8 (c : Int)) W):=fun j c h W => idxU (s:=⟨#[110,118,46,112,99,46,101,46,46,120]⟩) h W
 go_enter Tryz.func22,Tryz.ntmps22
 go_wp2
 go_loopw [4,5] (fun vl vi wr => ∃ i : Nat,vi = .int .i64 (i : Int)∧i ≤ 10∧Hid (OwnY yB w.heap.size wr vl (usT (([110,118,46,112,99,46,101,46,46,120] : List Nat).take i))∧Below w.heap.size w wr)) (fun _ vi _ => 10 - (intOf vi).toNat)
 case atStart => exact ⟨0,rfl,Nat.zero_le _,OwnY.nil _ _ _,Below.refl _ _⟩
 case round =>
  obtain ⟨i,rfl,hi,H⟩:=hrel
  by_cases hlt : i < 10
  ·obtain ⟨c,hc⟩ : ∃ c,([110,118,46,112,99,46,101,46,46,120] : List Nat)[i]? = some c:=⟨_,List.getElem?_eq_getElem hlt⟩
   have ix:=fun W => IX.out i c hc W
   have E:=hide (usT_next hc)
   have hL : Hid ((usT (([110,118,46,112,99,46,101,46,46,120] : List Nat).take i)).length = i):=by show _ = _;simp [usT];omega
   clear hc;have z1:=H.out.2.size;have SB:=hide (sl_box (Y:=yB) wr (!(c == 46)) 4)
   have eB : ((c : Int) != 46) = !(c == 46):=by
    by_cases h : c = 46
    ·subst h;rfl
    ·rw [bne,beq_eq_false_iff_ne.2 h,beq_eq_false_iff_ne.2 (by omega)]
   go_wp2_with (at_builtin;go_must (refine appY kB _ rfl (.tmp 39) (.tmp 44) rfl w.heap.size _ _ rfl (some ⟨wr.heap.size,0,none⟩) 1 1 rfl [!(c == 46)] SB.out (H.out.1.alloc _) (by simp;omega) (by rw [hL.out];unfold maxLen;omega) (by show (_ + 1) * 1 ≤ _;rw [hL.out];omega) ?_))
   intro v5 w2 o2 g2 _;have b2:=hide ((H.out.1.alloc _).grown (H.out.2.alloc z1 _) g2 (by simp;omega));have O2:=hide o2;clear o2 g2 SB H
   go_wp2
   go_roundw
   case rel => exact ⟨i + 1,by go_num,by omega,by rw [← E.out];exact O2.out,b2.out⟩
   case measure => simp [intOf];omega
  ·obtain rfl : i = 10:=by omega
   go_wp2
   go_ret
   exact ⟨_,rfl,H.out.1,H.out.2⟩
set_option maxHeartbeats 1000000 in
theorem uses_4 (w : World) :
  Calls Tryz.prog 22 #[.int .i64 4] w fun e w' => ∃ v',e = .returned v'∧OwnY yB w.heap.size w' v' (usT [110,118,46,112,46,46,46,46,46,120])∧Below w.heap.size w w':=by
 have IX : Hid (∀ (j c : Nat),([110,118,46,112,46,46,46,46,46,120] : List Nat)[j]? = some c → ∀ W,(Instr.index 9 (.string ⟨#[110,118,46,112,46,46,46,46,46,120]⟩) (.int .i64 (j : Int))).run Tryz.prog W = .ok (.int .u8 (c : Int)) W):=fun j c h W => idxU (s:=⟨#[110,118,46,112,46,46,46,46,46,120]⟩) h W
 go_enter Tryz.func22,Tryz.ntmps22
 go_wp2
 go_loopw [4,5] (fun vl vi wr => ∃ i : Nat,vi = .int .i64 (i : Int)∧i ≤ 10∧Hid (OwnY yB w.heap.size wr vl (usT (([110,118,46,112,46,46,46,46,46,120] : List Nat).take i))∧Below w.heap.size w wr)) (fun _ vi _ => 10 - (intOf vi).toNat)
 case atStart => exact ⟨0,rfl,Nat.zero_le _,OwnY.nil _ _ _,Below.refl _ _⟩
 case round =>
  obtain ⟨i,rfl,hi,H⟩:=hrel
  by_cases hlt : i < 10
  ·obtain ⟨c,hc⟩ : ∃ c,([110,118,46,112,46,46,46,46,46,120] : List Nat)[i]? = some c:=⟨_,List.getElem?_eq_getElem hlt⟩
   have ix:=fun W => IX.out i c hc W
   have E:=hide (usT_next hc)
   have hL : Hid ((usT (([110,118,46,112,46,46,46,46,46,120] : List Nat).take i)).length = i):=by show _ = _;simp [usT];omega
   clear hc;have z1:=H.out.2.size;have SB:=hide (sl_box (Y:=yB) wr (!(c == 46)) 4)
   have eB : ((c : Int) != 46) = !(c == 46):=by
    by_cases h : c = 46
    ·subst h;rfl
    ·rw [bne,beq_eq_false_iff_ne.2 h,beq_eq_false_iff_ne.2 (by omega)]
   go_wp2_with (at_builtin;go_must (refine appY kB _ rfl (.tmp 39) (.tmp 44) rfl w.heap.size _ _ rfl (some ⟨wr.heap.size,0,none⟩) 1 1 rfl [!(c == 46)] SB.out (H.out.1.alloc _) (by simp;omega) (by rw [hL.out];unfold maxLen;omega) (by show (_ + 1) * 1 ≤ _;rw [hL.out];omega) ?_))
   intro v5 w2 o2 g2 _;have b2:=hide ((H.out.1.alloc _).grown (H.out.2.alloc z1 _) g2 (by simp;omega));have O2:=hide o2;clear o2 g2 SB H
   go_wp2
   go_roundw
   case rel => exact ⟨i + 1,by go_num,by omega,by rw [← E.out];exact O2.out,b2.out⟩
   case measure => simp [intOf];omega
  ·obtain rfl : i = 10:=by omega
   go_wp2
   go_ret
   exact ⟨_,rfl,H.out.1,H.out.2⟩
set_option maxHeartbeats 1000000 in
theorem uses_5 (w : World) :
  Calls Tryz.prog 22 #[.int .i64 5] w fun e w' => ∃ v',e = .returned v'∧OwnY yB w.heap.size w' v' (usT [110,118,46,46,99,46,46,46,46,120])∧Below w.heap.size w w':=by
 have IX : Hid (∀ (j c : Nat),([110,118,46,46,99,46,46,46,46,120] : List Nat)[j]? = some c → ∀ W,(Instr.index 9 (.string ⟨#[110,118,46,46,99,46,46,46,46,120]⟩) (.int .i64 (j : Int))).run Tryz.prog W = .ok (.int .u8 (c : Int)) W):=fun j c h W => idxU (s:=⟨#[110,118,46,46,99,46,46,46,46,120]⟩) h W
 go_enter Tryz.func22,Tryz.ntmps22
 go_wp2
 go_loopw [4,5] (fun vl vi wr => ∃ i : Nat,vi = .int .i64 (i : Int)∧i ≤ 10∧Hid (OwnY yB w.heap.size wr vl (usT (([110,118,46,46,99,46,46,46,46,120] : List Nat).take i))∧Below w.heap.size w wr)) (fun _ vi _ => 10 - (intOf vi).toNat)
 case atStart => exact ⟨0,rfl,Nat.zero_le _,OwnY.nil _ _ _,Below.refl _ _⟩
 case round =>
  obtain ⟨i,rfl,hi,H⟩:=hrel
  by_cases hlt : i < 10
  ·obtain ⟨c,hc⟩ : ∃ c,([110,118,46,46,99,46,46,46,46,120] : List Nat)[i]? = some c:=⟨_,List.getElem?_eq_getElem hlt⟩
   have ix:=fun W => IX.out i c hc W
   have E:=hide (usT_next hc)
   have hL : Hid ((usT (([110,118,46,46,99,46,46,46,46,120] : List Nat).take i)).length = i):=by show _ = _;simp [usT];omega
   clear hc;have z1:=H.out.2.size;have SB:=hide (sl_box (Y:=yB) wr (!(c == 46)) 4)
   have eB : ((c : Int) != 46) = !(c == 46):=by
    by_cases h : c = 46
    ·subst h;rfl
    ·rw [bne,beq_eq_false_iff_ne.2 h,beq_eq_false_iff_ne.2 (by omega)]
   go_wp2_with (at_builtin;go_must (refine appY kB _ rfl (.tmp 39) (.tmp 44) rfl w.heap.size _ _ rfl (some ⟨wr.heap.size,0,none⟩) 1 1 rfl [!(c == 46)] SB.out (H.out.1.alloc _) (by simp;omega) (by rw [hL.out];unfold maxLen;omega) (by show (_ + 1) * 1 ≤ _;rw [hL.out];omega) ?_))
   intro v5 w2 o2 g2 _;have b2:=hide ((H.out.1.alloc _).grown (H.out.2.alloc z1 _) g2 (by simp;omega));have O2:=hide o2;clear o2 g2 SB H
   go_wp2
   go_roundw
   case rel => exact ⟨i + 1,by go_num,by omega,by rw [← E.out];exact O2.out,b2.out⟩
   case measure => simp [intOf];omega
  ·obtain rfl : i = 10:=by omega
   go_wp2
   go_ret
   exact ⟨_,rfl,H.out.1,H.out.2⟩
set_option maxHeartbeats 1000000 in
theorem uses_6 (w : World) :
  Calls Tryz.prog 22 #[.int .i64 6] w fun e w' => ∃ v',e = .returned v'∧OwnY yB w.heap.size w' v' (usT [110,118,46,46,46,46,46,46,46,120])∧Below w.heap.size w w':=by
 have IX : Hid (∀ (j c : Nat),([110,118,46,46,46,46,46,46,46,120] : List Nat)[j]? = some c → ∀ W,(Instr.index 9 (.string ⟨#[110,118,46,46,46,46,46,46,46,120]⟩) (.int .i64 (j : Int))).run Tryz.prog W = .ok (.int .u8 (c : Int)) W):=fun j c h W => idxU (s:=⟨#[110,118,46,46,46,46,46,46,46,120]⟩) h W
 go_enter Tryz.func22,Tryz.ntmps22
 go_wp2
 go_loopw [4,5] (fun vl vi wr => ∃ i : Nat,vi = .int .i64 (i : Int)∧i ≤ 10∧Hid (OwnY yB w.heap.size wr vl (usT (([110,118,46,46,46,46,46,46,46,120] : List Nat).take i))∧Below w.heap.size w wr)) (fun _ vi _ => 10 - (intOf vi).toNat)
 case atStart => exact ⟨0,rfl,Nat.zero_le _,OwnY.nil _ _ _,Below.refl _ _⟩
 case round =>
  obtain ⟨i,rfl,hi,H⟩:=hrel
  by_cases hlt : i < 10
  ·obtain ⟨c,hc⟩ : ∃ c,([110,118,46,46,46,46,46,46,46,120] : List Nat)[i]? = some c:=⟨_,List.getElem?_eq_getElem hlt⟩
   have ix:=fun W => IX.out i c hc W
   have E:=hide (usT_next hc)
   have hL : Hid ((usT (([110,118,46,46,46,46,46,46,46,120] : List Nat).take i)).length = i):=by show _ = _;simp [usT];omega
   clear hc;have z1:=H.out.2.size;have SB:=hide (sl_box (Y:=yB) wr (!(c == 46)) 4)
   have eB : ((c : Int) != 46) = !(c == 46):=by
    by_cases h : c = 46
    ·subst h;rfl
    ·rw [bne,beq_eq_false_iff_ne.2 h,beq_eq_false_iff_ne.2 (by omega)]
   go_wp2_with (at_builtin;go_must (refine appY kB _ rfl (.tmp 39) (.tmp 44) rfl w.heap.size _ _ rfl (some ⟨wr.heap.size,0,none⟩) 1 1 rfl [!(c == 46)] SB.out (H.out.1.alloc _) (by simp;omega) (by rw [hL.out];unfold maxLen;omega) (by show (_ + 1) * 1 ≤ _;rw [hL.out];omega) ?_))
   intro v5 w2 o2 g2 _;have b2:=hide ((H.out.1.alloc _).grown (H.out.2.alloc z1 _) g2 (by simp;omega));have O2:=hide o2;clear o2 g2 SB H
   go_wp2
   go_roundw
   case rel => exact ⟨i + 1,by go_num,by omega,by rw [← E.out];exact O2.out,b2.out⟩
   case measure => simp [intOf];omega
  ·obtain rfl : i = 10:=by omega
   go_wp2
   go_ret
   exact ⟨_,rfl,H.out.1,H.out.2⟩
set_option maxHeartbeats 1000000 in
theorem uses_7 (w : World) :
  Calls Tryz.prog 22 #[.int .i64 7] w fun e w' => ∃ v',e = .returned v'∧OwnY yB w.heap.size w' v' (usT [110,118,108,46,99,46,46,46,103,120])∧Below w.heap.size w w':=by
 have IX : Hid (∀ (j c : Nat),([110,118,108,46,99,46,46,46,103,120] : List Nat)[j]? = some c → ∀ W,(Instr.index 9 (.string ⟨#[110,118,108,46,99,46,46,46,103,120]⟩) (.int .i64 (j : Int))).run Tryz.prog W = .ok (.int .u8 (c : Int)) W):=fun j c h W => idxU (s:=⟨#[110,118,108,46,99,46,46,46,103,120]⟩) h W
 go_enter Tryz.func22,Tryz.ntmps22
 go_wp2
 go_loopw [4,5] (fun vl vi wr => ∃ i : Nat,vi = .int .i64 (i : Int)∧i ≤ 10∧Hid (OwnY yB w.heap.size wr vl (usT (([110,118,108,46,99,46,46,46,103,120] : List Nat).take i))∧Below w.heap.size w wr)) (fun _ vi _ => 10 - (intOf vi).toNat)
 case atStart => exact ⟨0,rfl,Nat.zero_le _,OwnY.nil _ _ _,Below.refl _ _⟩
 case round =>
  obtain ⟨i,rfl,hi,H⟩:=hrel
  by_cases hlt : i < 10
  ·obtain ⟨c,hc⟩ : ∃ c,([110,118,108,46,99,46,46,46,103,120] : List Nat)[i]? = some c:=⟨_,List.getElem?_eq_getElem hlt⟩
   have ix:=fun W => IX.out i c hc W
   have E:=hide (usT_next hc)
   have hL : Hid ((usT (([110,118,108,46,99,46,46,46,103,120] : List Nat).take i)).length = i):=by show _ = _;simp [usT];omega
   clear hc;have z1:=H.out.2.size;have SB:=hide (sl_box (Y:=yB) wr (!(c == 46)) 4)
   have eB : ((c : Int) != 46) = !(c == 46):=by
    by_cases h : c = 46
    ·subst h;rfl
    ·rw [bne,beq_eq_false_iff_ne.2 h,beq_eq_false_iff_ne.2 (by omega)]
   go_wp2_with (at_builtin;go_must (refine appY kB _ rfl (.tmp 39) (.tmp 44) rfl w.heap.size _ _ rfl (some ⟨wr.heap.size,0,none⟩) 1 1 rfl [!(c == 46)] SB.out (H.out.1.alloc _) (by simp;omega) (by rw [hL.out];unfold maxLen;omega) (by show (_ + 1) * 1 ≤ _;rw [hL.out];omega) ?_))
   intro v5 w2 o2 g2 _;have b2:=hide ((H.out.1.alloc _).grown (H.out.2.alloc z1 _) g2 (by simp;omega));have O2:=hide o2;clear o2 g2 SB H
   go_wp2
   go_roundw
   case rel => exact ⟨i + 1,by go_num,by omega,by rw [← E.out];exact O2.out,b2.out⟩
   case measure => simp [intOf];omega
  ·obtain rfl : i = 10:=by omega
   go_wp2
   go_ret
   exact ⟨_,rfl,H.out.1,H.out.2⟩
set_option maxHeartbeats 1000000 in
theorem uses_8 (w : World) :
  Calls Tryz.prog 22 #[.int .i64 8] w fun e w' => ∃ v',e = .returned v'∧OwnY yB w.heap.size w' v' (usT [110,118,46,46,99,46,46,46,103,120])∧Below w.heap.size w w':=by
 have IX : Hid (∀ (j c : Nat),([110,118,46,46,99,46,46,46,103,120] : List Nat)[j]? = some c → ∀ W,(Instr.index 9 (.string ⟨#[110,118,46,46,99,46,46,46,103,120]⟩) (.int .i64 (j : Int))).run Tryz.prog W = .ok (.int .u8 (c : Int)) W):=fun j c h W => idxU (s:=⟨#[110,118,46,46,99,46,46,46,103,120]⟩) h W
 go_enter Tryz.func22,Tryz.ntmps22
 go_wp2
 go_loopw [4,5] (fun vl vi wr => ∃ i : Nat,vi = .int .i64 (i : Int)∧i ≤ 10∧Hid (OwnY yB w.heap.size wr vl (usT (([110,118,46,46,99,46,46,46,103,120] : List Nat).take i))∧Below w.heap.size w wr)) (fun _ vi _ => 10 - (intOf vi).toNat)
 case atStart => exact ⟨0,rfl,Nat.zero_le _,OwnY.nil _ _ _,Below.refl _ _⟩
 case round =>
  obtain ⟨i,rfl,hi,H⟩:=hrel
  by_cases hlt : i < 10
  ·obtain ⟨c,hc⟩ : ∃ c,([110,118,46,46,99,46,46,46,103,120] : List Nat)[i]? = some c:=⟨_,List.getElem?_eq_getElem hlt⟩
   have ix:=fun W => IX.out i c hc W
   have E:=hide (usT_next hc)
   have hL : Hid ((usT (([110,118,46,46,99,46,46,46,103,120] : List Nat).take i)).length = i):=by show _ = _;simp [usT];omega
   clear hc;have z1:=H.out.2.size;have SB:=hide (sl_box (Y:=yB) wr (!(c == 46)) 4)
   have eB : ((c : Int) != 46) = !(c == 46):=by
    by_cases h : c = 46
    ·subst h;rfl
    ·rw [bne,beq_eq_false_iff_ne.2 h,beq_eq_false_iff_ne.2 (by omega)]
   go_wp2_with (at_builtin;go_must (refine appY kB _ rfl (.tmp 39) (.tmp 44) rfl w.heap.size _ _ rfl (some ⟨wr.heap.size,0,none⟩) 1 1 rfl [!(c == 46)] SB.out (H.out.1.alloc _) (by simp;omega) (by rw [hL.out];unfold maxLen;omega) (by show (_ + 1) * 1 ≤ _;rw [hL.out];omega) ?_))
   intro v5 w2 o2 g2 _;have b2:=hide ((H.out.1.alloc _).grown (H.out.2.alloc z1 _) g2 (by simp;omega));have O2:=hide o2;clear o2 g2 SB H
   go_wp2
   go_roundw
   case rel => exact ⟨i + 1,by go_num,by omega,by rw [← E.out];exact O2.out,b2.out⟩
   case measure => simp [intOf];omega
  ·obtain rfl : i = 10:=by omega
   go_wp2
   go_ret
   exact ⟨_,rfl,H.out.1,H.out.2⟩
set_option maxHeartbeats 1000000 in
theorem uses_9 (w : World) :
  Calls Tryz.prog 22 #[.int .i64 9] w fun e w' => ∃ v',e = .returned v'∧OwnY yB w.heap.size w' v' (usT [110,46,46,46,46,100,46,46,46,120])∧Below w.heap.size w w':=by
 have IX : Hid (∀ (j c : Nat),([110,46,46,46,46,100,46,46,46,120] : List Nat)[j]? = some c → ∀ W,(Instr.index 9 (.string ⟨#[110,46,46,46,46,100,46,46,46,120]⟩) (.int .i64 (j : Int))).run Tryz.prog W = .ok (.int .u8 (c : Int)) W):=fun j c h W => idxU (s:=⟨#[110,46,46,46,46,100,46,46,46,120]⟩) h W
 go_enter Tryz.func22,Tryz.ntmps22
 go_wp2
 go_loopw [4,5] (fun vl vi wr => ∃ i : Nat,vi = .int .i64 (i : Int)∧i ≤ 10∧Hid (OwnY yB w.heap.size wr vl (usT (([110,46,46,46,46,100,46,46,46,120] : List Nat).take i))∧Below w.heap.size w wr)) (fun _ vi _ => 10 - (intOf vi).toNat)
 case atStart => exact ⟨0,rfl,Nat.zero_le _,OwnY.nil _ _ _,Below.refl _ _⟩
 case round =>
  obtain ⟨i,rfl,hi,H⟩:=hrel
  by_cases hlt : i < 10
  ·obtain ⟨c,hc⟩ : ∃ c,([110,46,46,46,46,100,46,46,46,120] : List Nat)[i]? = some c:=⟨_,List.getElem?_eq_getElem hlt⟩
   have ix:=fun W => IX.out i c hc W
   have E:=hide (usT_next hc)
   have hL : Hid ((usT (([110,46,46,46,46,100,46,46,46,120] : List Nat).take i)).length = i):=by show _ = _;simp [usT];omega
   clear hc;have z1:=H.out.2.size;have SB:=hide (sl_box (Y:=yB) wr (!(c == 46)) 4)
   have eB : ((c : Int) != 46) = !(c == 46):=by
    by_cases h : c = 46
    ·subst h;rfl
    ·rw [bne,beq_eq_false_iff_ne.2 h,beq_eq_false_iff_ne.2 (by omega)]
   go_wp2_with (at_builtin;go_must (refine appY kB _ rfl (.tmp 39) (.tmp 44) rfl w.heap.size _ _ rfl (some ⟨wr.heap.size,0,none⟩) 1 1 rfl [!(c == 46)] SB.out (H.out.1.alloc _) (by simp;omega) (by rw [hL.out];unfold maxLen;omega) (by show (_ + 1) * 1 ≤ _;rw [hL.out];omega) ?_))
   intro v5 w2 o2 g2 _;have b2:=hide ((H.out.1.alloc _).grown (H.out.2.alloc z1 _) g2 (by simp;omega));have O2:=hide o2;clear o2 g2 SB H
   go_wp2
   go_roundw
   case rel => exact ⟨i + 1,by go_num,by omega,by rw [← E.out];exact O2.out,b2.out⟩
   case measure => simp [intOf];omega
  ·obtain rfl : i = 10:=by omega
   go_wp2
   go_ret
   exact ⟨_,rfl,H.out.1,H.out.2⟩
set_option maxHeartbeats 1000000 in
theorem uses_10 (w : World) :
  Calls Tryz.prog 22 #[.int .i64 10] w fun e w' => ∃ v',e = .returned v'∧OwnY yB w.heap.size w' v' (usT [110,118,46,46,99,100,46,46,103,120])∧Below w.heap.size w w':=by
 have IX : Hid (∀ (j c : Nat),([110,118,46,46,99,100,46,46,103,120] : List Nat)[j]? = some c → ∀ W,(Instr.index 9 (.string ⟨#[110,118,46,46,99,100,46,46,103,120]⟩) (.int .i64 (j : Int))).run Tryz.prog W = .ok (.int .u8 (c : Int)) W):=fun j c h W => idxU (s:=⟨#[110,118,46,46,99,100,46,46,103,120]⟩) h W
 go_enter Tryz.func22,Tryz.ntmps22
 go_wp2
 go_loopw [4,5] (fun vl vi wr => ∃ i : Nat,vi = .int .i64 (i : Int)∧i ≤ 10∧Hid (OwnY yB w.heap.size wr vl (usT (([110,118,46,46,99,100,46,46,103,120] : List Nat).take i))∧Below w.heap.size w wr)) (fun _ vi _ => 10 - (intOf vi).toNat)
 case atStart => exact ⟨0,rfl,Nat.zero_le _,OwnY.nil _ _ _,Below.refl _ _⟩
 case round =>
  obtain ⟨i,rfl,hi,H⟩:=hrel
  by_cases hlt : i < 10
  ·obtain ⟨c,hc⟩ : ∃ c,([110,118,46,46,99,100,46,46,103,120] : List Nat)[i]? = some c:=⟨_,List.getElem?_eq_getElem hlt⟩
   have ix:=fun W => IX.out i c hc W
   have E:=hide (usT_next hc)
   have hL : Hid ((usT (([110,118,46,46,99,100,46,46,103,120] : List Nat).take i)).length = i):=by show _ = _;simp [usT];omega
   clear hc;have z1:=H.out.2.size;have SB:=hide (sl_box (Y:=yB) wr (!(c == 46)) 4)
   have eB : ((c : Int) != 46) = !(c == 46):=by
    by_cases h : c = 46
    ·subst h;rfl
    ·rw [bne,beq_eq_false_iff_ne.2 h,beq_eq_false_iff_ne.2 (by omega)]
   go_wp2_with (at_builtin;go_must (refine appY kB _ rfl (.tmp 39) (.tmp 44) rfl w.heap.size _ _ rfl (some ⟨wr.heap.size,0,none⟩) 1 1 rfl [!(c == 46)] SB.out (H.out.1.alloc _) (by simp;omega) (by rw [hL.out];unfold maxLen;omega) (by show (_ + 1) * 1 ≤ _;rw [hL.out];omega) ?_))
   intro v5 w2 o2 g2 _;have b2:=hide ((H.out.1.alloc _).grown (H.out.2.alloc z1 _) g2 (by simp;omega));have O2:=hide o2;clear o2 g2 SB H
   go_wp2
   go_roundw
   case rel => exact ⟨i + 1,by go_num,by omega,by rw [← E.out];exact O2.out,b2.out⟩
   case measure => simp [intOf];omega
  ·obtain rfl : i = 10:=by omega
   go_wp2
   go_ret
   exact ⟨_,rfl,H.out.1,H.out.2⟩
set_option maxHeartbeats 1000000 in
theorem uses_11 (w : World) :
  Calls Tryz.prog 22 #[.int .i64 11] w fun e w' => ∃ v',e = .returned v'∧OwnY yB w.heap.size w' v' (usT [110,118,46,46,46,46,46,46,46,120])∧Below w.heap.size w w':=by
 have IX : Hid (∀ (j c : Nat),([110,118,46,46,46,46,46,46,46,120] : List Nat)[j]? = some c → ∀ W,(Instr.index 9 (.string ⟨#[110,118,46,46,46,46,46,46,46,120]⟩) (.int .i64 (j : Int))).run Tryz.prog W = .ok (.int .u8 (c : Int)) W):=fun j c h W => idxU (s:=⟨#[110,118,46,46,46,46,46,46,46,120]⟩) h W
 go_enter Tryz.func22,Tryz.ntmps22
 go_wp2
 go_loopw [4,5] (fun vl vi wr => ∃ i : Nat,vi = .int .i64 (i : Int)∧i ≤ 10∧Hid (OwnY yB w.heap.size wr vl (usT (([110,118,46,46,46,46,46,46,46,120] : List Nat).take i))∧Below w.heap.size w wr)) (fun _ vi _ => 10 - (intOf vi).toNat)
 case atStart => exact ⟨0,rfl,Nat.zero_le _,OwnY.nil _ _ _,Below.refl _ _⟩
 case round =>
  obtain ⟨i,rfl,hi,H⟩:=hrel
  by_cases hlt : i < 10
  ·obtain ⟨c,hc⟩ : ∃ c,([110,118,46,46,46,46,46,46,46,120] : List Nat)[i]? = some c:=⟨_,List.getElem?_eq_getElem hlt⟩
   have ix:=fun W => IX.out i c hc W
   have E:=hide (usT_next hc)
   have hL : Hid ((usT (([110,118,46,46,46,46,46,46,46,120] : List Nat).take i)).length = i):=by show _ = _;simp [usT];omega
   clear hc;have z1:=H.out.2.size;have SB:=hide (sl_box (Y:=yB) wr (!(c == 46)) 4)
   have eB : ((c : Int) != 46) = !(c == 46):=by
    by_cases h : c = 46
    ·subst h;rfl
    ·rw [bne,beq_eq_false_iff_ne.2 h,beq_eq_false_iff_ne.2 (by omega)]
   go_wp2_with (at_builtin;go_must (refine appY kB _ rfl (.tmp 39) (.tmp 44) rfl w.heap.size _ _ rfl (some ⟨wr.heap.size,0,none⟩) 1 1 rfl [!(c == 46)] SB.out (H.out.1.alloc _) (by simp;omega) (by rw [hL.out];unfold maxLen;omega) (by show (_ + 1) * 1 ≤ _;rw [hL.out];omega) ?_))
   intro v5 w2 o2 g2 _;have b2:=hide ((H.out.1.alloc _).grown (H.out.2.alloc z1 _) g2 (by simp;omega));have O2:=hide o2;clear o2 g2 SB H
   go_wp2
   go_roundw
   case rel => exact ⟨i + 1,by go_num,by omega,by rw [← E.out];exact O2.out,b2.out⟩
   case measure => simp [intOf];omega
  ·obtain rfl : i = 10:=by omega
   go_wp2
   go_ret
   exact ⟨_,rfl,H.out.1,H.out.2⟩
set_option maxHeartbeats 1000000 in
theorem uses_12 (w : World) :
  Calls Tryz.prog 22 #[.int .i64 12] w fun e w' => ∃ v',e = .returned v'∧OwnY yB w.heap.size w' v' (usT [110,118,46,46,99,46,46,46,103,120])∧Below w.heap.size w w':=by
 have IX : Hid (∀ (j c : Nat),([110,118,46,46,99,46,46,46,103,120] : List Nat)[j]? = some c → ∀ W,(Instr.index 9 (.string ⟨#[110,118,46,46,99,46,46,46,103,120]⟩) (.int .i64 (j : Int))).run Tryz.prog W = .ok (.int .u8 (c : Int)) W):=fun j c h W => idxU (s:=⟨#[110,118,46,46,99,46,46,46,103,120]⟩) h W
 go_enter Tryz.func22,Tryz.ntmps22
 go_wp2
 go_loopw [4,5] (fun vl vi wr => ∃ i : Nat,vi = .int .i64 (i : Int)∧i ≤ 10∧Hid (OwnY yB w.heap.size wr vl (usT (([110,118,46,46,99,46,46,46,103,120] : List Nat).take i))∧Below w.heap.size w wr)) (fun _ vi _ => 10 - (intOf vi).toNat)
 case atStart => exact ⟨0,rfl,Nat.zero_le _,OwnY.nil _ _ _,Below.refl _ _⟩
 case round =>
  obtain ⟨i,rfl,hi,H⟩:=hrel
  by_cases hlt : i < 10
  ·obtain ⟨c,hc⟩ : ∃ c,([110,118,46,46,99,46,46,46,103,120] : List Nat)[i]? = some c:=⟨_,List.getElem?_eq_getElem hlt⟩
   have ix:=fun W => IX.out i c hc W
   have E:=hide (usT_next hc)
   have hL : Hid ((usT (([110,118,46,46,99,46,46,46,103,120] : List Nat).take i)).length = i):=by show _ = _;simp [usT];omega
   clear hc;have z1:=H.out.2.size;have SB:=hide (sl_box (Y:=yB) wr (!(c == 46)) 4)
   have eB : ((c : Int) != 46) = !(c == 46):=by
    by_cases h : c = 46
    ·subst h;rfl
    ·rw [bne,beq_eq_false_iff_ne.2 h,beq_eq_false_iff_ne.2 (by omega)]
   go_wp2_with (at_builtin;go_must (refine appY kB _ rfl (.tmp 39) (.tmp 44) rfl w.heap.size _ _ rfl (some ⟨wr.heap.size,0,none⟩) 1 1 rfl [!(c == 46)] SB.out (H.out.1.alloc _) (by simp;omega) (by rw [hL.out];unfold maxLen;omega) (by show (_ + 1) * 1 ≤ _;rw [hL.out];omega) ?_))
   intro v5 w2 o2 g2 _;have b2:=hide ((H.out.1.alloc _).grown (H.out.2.alloc z1 _) g2 (by simp;omega));have O2:=hide o2;clear o2 g2 SB H
   go_wp2
   go_roundw
   case rel => exact ⟨i + 1,by go_num,by omega,by rw [← E.out];exact O2.out,b2.out⟩
   case measure => simp [intOf];omega
  ·obtain rfl : i = 10:=by omega
   go_wp2
   go_ret
   exact ⟨_,rfl,H.out.1,H.out.2⟩
set_option maxHeartbeats 1000000 in
theorem uses_13 (w : World) :
  Calls Tryz.prog 22 #[.int .i64 13] w fun e w' => ∃ v',e = .returned v'∧OwnY yB w.heap.size w' v' (usT [46,46,46,112,46,46,101,46,46,46])∧Below w.heap.size w w':=by
 have IX : Hid (∀ (j c : Nat),([46,46,46,112,46,46,101,46,46,46] : List Nat)[j]? = some c → ∀ W,(Instr.index 9 (.string ⟨#[46,46,46,112,46,46,101,46,46,46]⟩) (.int .i64 (j : Int))).run Tryz.prog W = .ok (.int .u8 (c : Int)) W):=fun j c h W => idxU (s:=⟨#[46,46,46,112,46,46,101,46,46,46]⟩) h W
 go_enter Tryz.func22,Tryz.ntmps22
 go_wp2
 go_loopw [4,5] (fun vl vi wr => ∃ i : Nat,vi = .int .i64 (i : Int)∧i ≤ 10∧Hid (OwnY yB w.heap.size wr vl (usT (([46,46,46,112,46,46,101,46,46,46] : List Nat).take i))∧Below w.heap.size w wr)) (fun _ vi _ => 10 - (intOf vi).toNat)
 case atStart => exact ⟨0,rfl,Nat.zero_le _,OwnY.nil _ _ _,Below.refl _ _⟩
 case round =>
  obtain ⟨i,rfl,hi,H⟩:=hrel
  by_cases hlt : i < 10
  ·obtain ⟨c,hc⟩ : ∃ c,([46,46,46,112,46,46,101,46,46,46] : List Nat)[i]? = some c:=⟨_,List.getElem?_eq_getElem hlt⟩
   have ix:=fun W => IX.out i c hc W
   have E:=hide (usT_next hc)
   have hL : Hid ((usT (([46,46,46,112,46,46,101,46,46,46] : List Nat).take i)).length = i):=by show _ = _;simp [usT];omega
   clear hc;have z1:=H.out.2.size;have SB:=hide (sl_box (Y:=yB) wr (!(c == 46)) 4)
   have eB : ((c : Int) != 46) = !(c == 46):=by
    by_cases h : c = 46
    ·subst h;rfl
    ·rw [bne,beq_eq_false_iff_ne.2 h,beq_eq_false_iff_ne.2 (by omega)]
   go_wp2_with (at_builtin;go_must (refine appY kB _ rfl (.tmp 39) (.tmp 44) rfl w.heap.size _ _ rfl (some ⟨wr.heap.size,0,none⟩) 1 1 rfl [!(c == 46)] SB.out (H.out.1.alloc _) (by simp;omega) (by rw [hL.out];unfold maxLen;omega) (by show (_ + 1) * 1 ≤ _;rw [hL.out];omega) ?_))
   intro v5 w2 o2 g2 _;have b2:=hide ((H.out.1.alloc _).grown (H.out.2.alloc z1 _) g2 (by simp;omega));have O2:=hide o2;clear o2 g2 SB H
   go_wp2
   go_roundw
   case rel => exact ⟨i + 1,by go_num,by omega,by rw [← E.out];exact O2.out,b2.out⟩
   case measure => simp [intOf];omega
  ·obtain rfl : i = 10:=by omega
   go_wp2
   go_ret
   exact ⟨_,rfl,H.out.1,H.out.2⟩
set_option maxHeartbeats 1000000 in
theorem uses_14 (w : World) :
  Calls Tryz.prog 22 #[.int .i64 14] w fun e w' => ∃ v',e = .returned v'∧OwnY yB w.heap.size w' v' (usT [110,118,46,46,99,46,101,114,46,46])∧Below w.heap.size w w':=by
 have IX : Hid (∀ (j c : Nat),([110,118,46,46,99,46,101,114,46,46] : List Nat)[j]? = some c → ∀ W,(Instr.index 9 (.string ⟨#[110,118,46,46,99,46,101,114,46,46]⟩) (.int .i64 (j : Int))).run Tryz.prog W = .ok (.int .u8 (c : Int)) W):=fun j c h W => idxU (s:=⟨#[110,118,46,46,99,46,101,114,46,46]⟩) h W
 go_enter Tryz.func22,Tryz.ntmps22
 go_wp2
 go_loopw [4,5] (fun vl vi wr => ∃ i : Nat,vi = .int .i64 (i : Int)∧i ≤ 10∧Hid (OwnY yB w.heap.size wr vl (usT (([110,118,46,46,99,46,101,114,46,46] : List Nat).take i))∧Below w.heap.size w wr)) (fun _ vi _ => 10 - (intOf vi).toNat)
 case atStart => exact ⟨0,rfl,Nat.zero_le _,OwnY.nil _ _ _,Below.refl _ _⟩
 case round =>
  obtain ⟨i,rfl,hi,H⟩:=hrel
  by_cases hlt : i < 10
  ·obtain ⟨c,hc⟩ : ∃ c,([110,118,46,46,99,46,101,114,46,46] : List Nat)[i]? = some c:=⟨_,List.getElem?_eq_getElem hlt⟩
   have ix:=fun W => IX.out i c hc W
   have E:=hide (usT_next hc)
   have hL : Hid ((usT (([110,118,46,46,99,46,101,114,46,46] : List Nat).take i)).length = i):=by show _ = _;simp [usT];omega
   clear hc;have z1:=H.out.2.size;have SB:=hide (sl_box (Y:=yB) wr (!(c == 46)) 4)
   have eB : ((c : Int) != 46) = !(c == 46):=by
    by_cases h : c = 46
    ·subst h;rfl
    ·rw [bne,beq_eq_false_iff_ne.2 h,beq_eq_false_iff_ne.2 (by omega)]
   go_wp2_with (at_builtin;go_must (refine appY kB _ rfl (.tmp 39) (.tmp 44) rfl w.heap.size _ _ rfl (some ⟨wr.heap.size,0,none⟩) 1 1 rfl [!(c == 46)] SB.out (H.out.1.alloc _) (by simp;omega) (by rw [hL.out];unfold maxLen;omega) (by show (_ + 1) * 1 ≤ _;rw [hL.out];omega) ?_))
   intro v5 w2 o2 g2 _;have b2:=hide ((H.out.1.alloc _).grown (H.out.2.alloc z1 _) g2 (by simp;omega));have O2:=hide o2;clear o2 g2 SB H
   go_wp2
   go_roundw
   case rel => exact ⟨i + 1,by go_num,by omega,by rw [← E.out];exact O2.out,b2.out⟩
   case measure => simp [intOf];omega
  ·obtain rfl : i = 10:=by omega
   go_wp2
   go_ret
   exact ⟨_,rfl,H.out.1,H.out.2⟩
def usN (k : Int) : List Nat :=
 if k = 1 then [46,46,46,46,46,46,101,46,46,46] else
 if k = 2 then [110,118,46,112,46,46,101,114,46,46] else
 if k = 3 then [110,118,46,112,99,46,101,46,46,120] else
 if k = 4 then [110,118,46,112,46,46,46,46,46,120] else
 if k = 5 then [110,118,46,46,99,46,46,46,46,120] else
 if k = 6 then [110,118,46,46,46,46,46,46,46,120] else
 if k = 7 then [110,118,108,46,99,46,46,46,103,120] else
 if k = 8 then [110,118,46,46,99,46,46,46,103,120] else
 if k = 9 then [110,46,46,46,46,100,46,46,46,120] else
 if k = 10 then [110,118,46,46,99,100,46,46,103,120] else
 if k = 11 then [110,118,46,46,46,46,46,46,46,120] else
 if k = 12 then [110,118,46,46,99,46,46,46,103,120] else
 if k = 13 then [46,46,46,112,46,46,101,46,46,46] else
 if k = 14 then [110,118,46,46,99,46,101,114,46,46] else
 []
def usL (k : Int) : List Bool:=usT (usN k)
set_option maxHeartbeats 1000000 in
theorem uses_none (k : Int) (hk : k < 1 ∨ 14 < k) (w : World) :
  Calls Tryz.prog 22 #[.int .i64 k] w fun e w' => e = .returned (.slice none 0 0)∧w' = w:=by
 have e1 : (k == 1) = false:=by simp;omega
 have e2 : (k == 2) = false:=by simp;omega
 have e3 : (k == 3) = false:=by simp;omega
 have e4 : (k == 4) = false:=by simp;omega
 have e5 : (k == 5) = false:=by simp;omega
 have e6 : (k == 6) = false:=by simp;omega
 have e7 : (k == 7) = false:=by simp;omega
 have e8 : (k == 8) = false:=by simp;omega
 have e9 : (k == 9) = false:=by simp;omega
 have e10 : (k == 10) = false:=by simp;omega
 have e11 : (k == 11) = false:=by simp;omega
 have e12 : (k == 12) = false:=by simp;omega
 have e13 : (k == 13) = false:=by simp;omega
 have e14 : (k == 14) = false:=by simp;omega
 clear hk
 go_enter Tryz.func22,Tryz.ntmps22
 go_wp2
 go_loopw [4,5] (fun vl vi wr => vl = .slice none 0 0∧vi = .int .i64 0∧wr = w) (fun _ _ _ => 0)
 case atStart => exact ⟨rfl,rfl,rfl⟩
 case round =>
  obtain ⟨rfl,rfl,rfl⟩:=hrel
  go_wp2
  go_ret
  exact ⟨rfl,rfl⟩
theorem uses_all (k : Int) (w : World) :
  Calls Tryz.prog 22 #[.int .i64 k] w fun e w' => ∃ v',e = .returned v'∧OwnY yB w.heap.size w' v' (usL k)∧Below w.heap.size w w':=by
 by_cases h1 : k = 1
 ·subst h1;exact uses_1 w
 by_cases h2 : k = 2
 ·subst h2;exact uses_2 w
 by_cases h3 : k = 3
 ·subst h3;exact uses_3 w
 by_cases h4 : k = 4
 ·subst h4;exact uses_4 w
 by_cases h5 : k = 5
 ·subst h5;exact uses_5 w
 by_cases h6 : k = 6
 ·subst h6;exact uses_6 w
 by_cases h7 : k = 7
 ·subst h7;exact uses_7 w
 by_cases h8 : k = 8
 ·subst h8;exact uses_8 w
 by_cases h9 : k = 9
 ·subst h9;exact uses_9 w
 by_cases h10 : k = 10
 ·subst h10;exact uses_10 w
 by_cases h11 : k = 11
 ·subst h11;exact uses_11 w
 by_cases h12 : k = 12
 ·subst h12;exact uses_12 w
 by_cases h13 : k = 13
 ·subst h13;exact uses_13 w
 by_cases h14 : k = 14
 ·subst h14;exact uses_14 w
 have hk : k < 1 ∨ 14 < k:=by omega
 refine (uses_none k hk w).mono ?_;rintro e w' ⟨rfl,rfl⟩;refine ⟨_,rfl,?_,Below.refl _ _⟩
 have e : usL k = []:=by
  unfold usL usN
  rw [if_neg h1,if_neg h2,if_neg h3,if_neg h4,if_neg h5,if_neg h6,if_neg h7,if_neg h8,if_neg h9,if_neg h10,if_neg h11,if_neg h12,if_neg h13,if_neg h14]
  rfl
 rw [e]
 exact OwnY.nil _ _ _
end Go.Proofs.YtjcedofmljkhfaaGreatDoor
namespace Go.Proofs.YtjcedofmljkhfaaGreatDoor
open Go.RowKit Go.Maps
open Classical
set_option maxHeartbeats 1000000 in
theorem refConfig7 (c : Cf) (w : World) : Calls Tryz.prog 21 #[c.val] w fun e w' => e = .returned (.bool (cfB c))∧Below w.heap.size w w':=by
 obtain ⟨f,r,p,u⟩:=c
 have V : Hid (cfB ⟨f,r,p,u⟩ = decide (1 ≤ f∧f ≤ 3∧1 ≤ r∧r ≤ 256∧6 ≤ p∧p ≤ 100)):=by
  show _ = _
  rw [Bool.eq_iff_iff]
  simp [cfB,inR,and_assoc]
 unfold Cf.val
 dsimp only
 have HB : Hid (Below w.heap.size w (w.alloc (.cells #[.int .i64 f,.int .i64 r,.int .i64 p,.bool u] 23))):=(Below.refl _ _).alloc (Nat.le_refl _) _
 generalize cfB ⟨f,r,p,u⟩ = b at *
 by_cases h0 : 1 ≤ f
 rotate_left
 ·have hk : Hid (b = false):=by show _ = _;rw [V.out,decide_eq_false_iff_not];omega
  go_enter Tryz.func21,Tryz.ntmps21
  go_wp2
  go_ret
  exact ⟨by rw [hk.out];first | rfl | (simp;omega),HB.out⟩
 by_cases h1 : f ≤ 3
 rotate_left
 ·have hk : Hid (b = false):=by show _ = _;rw [V.out,decide_eq_false_iff_not];omega
  go_enter Tryz.func21,Tryz.ntmps21
  go_wp2
  go_ret
  exact ⟨by rw [hk.out];first | rfl | (simp;omega),HB.out⟩
 by_cases h2 : 1 ≤ r
 rotate_left
 ·have hk : Hid (b = false):=by show _ = _;rw [V.out,decide_eq_false_iff_not];omega
  go_enter Tryz.func21,Tryz.ntmps21
  go_wp2
  go_ret
  exact ⟨by rw [hk.out];first | rfl | (simp;omega),HB.out⟩
 by_cases h3 : r ≤ 256
 rotate_left
 ·have hk : Hid (b = false):=by show _ = _;rw [V.out,decide_eq_false_iff_not];omega
  go_enter Tryz.func21,Tryz.ntmps21
  go_wp2
  go_ret
  exact ⟨by rw [hk.out];first | rfl | (simp;omega),HB.out⟩
 by_cases h4 : 6 ≤ p
 rotate_left
 ·have hk : Hid (b = false):=by show _ = _;rw [V.out,decide_eq_false_iff_not];omega
  go_enter Tryz.func21,Tryz.ntmps21
  go_wp2
  go_ret
  exact ⟨by rw [hk.out];first | rfl | (simp;omega),HB.out⟩
 by_cases h5 : p ≤ 100
 rotate_left
 ·have hk : Hid (b = false):=by show _ = _;rw [V.out,decide_eq_false_iff_not];omega
  go_enter Tryz.func21,Tryz.ntmps21
  go_wp2
  go_ret
  exact ⟨by rw [hk.out];first | rfl | (simp;omega),HB.out⟩
 have hk : Hid (b = true):=by show _ = _;rw [V.out,decide_eq_true_iff];omega
 go_enter Tryz.func21,Tryz.ntmps21
 go_wp2
 go_ret
 exact ⟨by rw [hk.out];first | rfl | (simp;omega),HB.out⟩
set_option maxHeartbeats 1000000 in
theorem refresult_1 (s : Int) (v : ByteArray) (w : World) : Calls Tryz.prog 47 #[.agg #[.int .i64 1,.int .i64 s,.string v]] w fun e w' => e = .returned (.bool (resB 1 s v))∧Below w.heap.size w w':=by
 have HB : Hid (Below w.heap.size w (w.alloc (.cells #[.int .i64 1,.int .i64 s,.string v] 40))):=(Below.refl _ _).alloc (Nat.le_refl _) _
 have V : Hid (resB 1 s v = (inR s 0 1023 && decide (v.size ≤ 64))):=by simp [Hid,resB]
 by_cases h0 : 0 ≤ s
 ·by_cases h1 : s < 1024
  ·by_cases hv : (v.size : Int) ≤ 64
   ·have V2 : Hid (resB 1 s v = decide (0 ≤ s∧s ≤ 1023∧True)):=V.out.trans (by rw [Bool.eq_iff_iff];simp [inR] <;> omega)
    clear V
    go_enter Tryz.func47,Tryz.ntmps47
    go_wp2
    go_ret
    exact ⟨by rw [V2.out];first | rfl | (simp;done) | (simp;omega),HB.out⟩
   ·have V2 : Hid (resB 1 s v = decide (0 ≤ s∧s ≤ 1023∧False)):=V.out.trans (by rw [Bool.eq_iff_iff];simp [inR] <;> omega)
    clear V
    go_enter Tryz.func47,Tryz.ntmps47
    go_wp2
    go_ret
    exact ⟨by rw [V2.out];first | rfl | (simp;done) | (simp;omega),HB.out⟩
  ·by_cases hv : (v.size : Int) ≤ 64
   ·have V2 : Hid (resB 1 s v = decide (0 ≤ s∧s ≤ 1023∧True)):=V.out.trans (by rw [Bool.eq_iff_iff];simp [inR] <;> omega)
    clear V
    go_enter Tryz.func47,Tryz.ntmps47
    go_wp2
    go_ret
    exact ⟨by rw [V2.out];first | rfl | (simp;done) | (simp;omega),HB.out⟩
   ·have V2 : Hid (resB 1 s v = decide (0 ≤ s∧s ≤ 1023∧False)):=V.out.trans (by rw [Bool.eq_iff_iff];simp [inR] <;> omega)
    clear V
    go_enter Tryz.func47,Tryz.ntmps47
    go_wp2
    go_ret
    exact ⟨by rw [V2.out];first | rfl | (simp;done) | (simp;omega),HB.out⟩
 ·by_cases hv : (v.size : Int) ≤ 64
  ·have V2 : Hid (resB 1 s v = decide (0 ≤ s∧s ≤ 1023∧True)):=V.out.trans (by rw [Bool.eq_iff_iff];simp [inR] <;> omega)
   clear V
   go_enter Tryz.func47,Tryz.ntmps47
   go_wp2
   go_ret
   exact ⟨by rw [V2.out];first | rfl | (simp;done) | (simp;omega),HB.out⟩
  ·have V2 : Hid (resB 1 s v = decide (0 ≤ s∧s ≤ 1023∧False)):=V.out.trans (by rw [Bool.eq_iff_iff];simp [inR] <;> omega)
   clear V
   go_enter Tryz.func47,Tryz.ntmps47
   go_wp2
   go_ret
   exact ⟨by rw [V2.out];first | rfl | (simp;done) | (simp;omega),HB.out⟩
set_option maxHeartbeats 1000000 in
theorem refresult_2 (s : Int) (v : ByteArray) (w : World) : Calls Tryz.prog 47 #[.agg #[.int .i64 2,.int .i64 s,.string v]] w fun e w' => e = .returned (.bool (resB 2 s v))∧Below w.heap.size w w':=by
 have HB : Hid (Below w.heap.size w (w.alloc (.cells #[.int .i64 2,.int .i64 s,.string v] 40))):=(Below.refl _ _).alloc (Nat.le_refl _) _
 have V : Hid (resB 2 s v = (inR s 0 1023 && decide (v.size ≤ 64))):=by simp [Hid,resB]
 by_cases h0 : 0 ≤ s
 ·by_cases h1 : s < 1024
  ·by_cases hv : (v.size : Int) ≤ 64
   ·have V2 : Hid (resB 2 s v = decide (0 ≤ s∧s ≤ 1023∧True)):=V.out.trans (by rw [Bool.eq_iff_iff];simp [inR] <;> omega)
    clear V
    go_enter Tryz.func47,Tryz.ntmps47
    go_wp2
    go_ret
    exact ⟨by rw [V2.out];first | rfl | (simp;done) | (simp;omega),HB.out⟩
   ·have V2 : Hid (resB 2 s v = decide (0 ≤ s∧s ≤ 1023∧False)):=V.out.trans (by rw [Bool.eq_iff_iff];simp [inR] <;> omega)
    clear V
    go_enter Tryz.func47,Tryz.ntmps47
    go_wp2
    go_ret
    exact ⟨by rw [V2.out];first | rfl | (simp;done) | (simp;omega),HB.out⟩
  ·by_cases hv : (v.size : Int) ≤ 64
   ·have V2 : Hid (resB 2 s v = decide (0 ≤ s∧s ≤ 1023∧True)):=V.out.trans (by rw [Bool.eq_iff_iff];simp [inR] <;> omega)
    clear V
    go_enter Tryz.func47,Tryz.ntmps47
    go_wp2
    go_ret
    exact ⟨by rw [V2.out];first | rfl | (simp;done) | (simp;omega),HB.out⟩
   ·have V2 : Hid (resB 2 s v = decide (0 ≤ s∧s ≤ 1023∧False)):=V.out.trans (by rw [Bool.eq_iff_iff];simp [inR] <;> omega)
    clear V
    go_enter Tryz.func47,Tryz.ntmps47
    go_wp2
    go_ret
    exact ⟨by rw [V2.out];first | rfl | (simp;done) | (simp;omega),HB.out⟩
 ·by_cases hv : (v.size : Int) ≤ 64
  ·have V2 : Hid (resB 2 s v = decide (0 ≤ s∧s ≤ 1023∧True)):=V.out.trans (by rw [Bool.eq_iff_iff];simp [inR] <;> omega)
   clear V
   go_enter Tryz.func47,Tryz.ntmps47
   go_wp2
   go_ret
   exact ⟨by rw [V2.out];first | rfl | (simp;done) | (simp;omega),HB.out⟩
  ·have V2 : Hid (resB 2 s v = decide (0 ≤ s∧s ≤ 1023∧False)):=V.out.trans (by rw [Bool.eq_iff_iff];simp [inR] <;> omega)
   clear V
   go_enter Tryz.func47,Tryz.ntmps47
   go_wp2
   go_ret
   exact ⟨by rw [V2.out];first | rfl | (simp;done) | (simp;omega),HB.out⟩
set_option maxHeartbeats 1000000 in
theorem refresult_4 (s : Int) (v : ByteArray) (w : World) : Calls Tryz.prog 47 #[.agg #[.int .i64 4,.int .i64 s,.string v]] w fun e w' => e = .returned (.bool (resB 4 s v))∧Below w.heap.size w w':=by
 have HB : Hid (Below w.heap.size w (w.alloc (.cells #[.int .i64 4,.int .i64 s,.string v] 40))):=(Below.refl _ _).alloc (Nat.le_refl _) _
 have V : Hid (resB 4 s v = (inR s 0 1023 && decide (v.size ≤ 64))):=by simp [Hid,resB]
 by_cases h0 : 0 ≤ s
 ·by_cases h1 : s < 1024
  ·by_cases hv : (v.size : Int) ≤ 64
   ·have V2 : Hid (resB 4 s v = decide (0 ≤ s∧s ≤ 1023∧True)):=V.out.trans (by rw [Bool.eq_iff_iff];simp [inR] <;> omega)
    clear V
    go_enter Tryz.func47,Tryz.ntmps47
    go_wp2
    go_ret
    exact ⟨by rw [V2.out];first | rfl | (simp;done) | (simp;omega),HB.out⟩
   ·have V2 : Hid (resB 4 s v = decide (0 ≤ s∧s ≤ 1023∧False)):=V.out.trans (by rw [Bool.eq_iff_iff];simp [inR] <;> omega)
    clear V
    go_enter Tryz.func47,Tryz.ntmps47
    go_wp2
    go_ret
    exact ⟨by rw [V2.out];first | rfl | (simp;done) | (simp;omega),HB.out⟩
  ·by_cases hv : (v.size : Int) ≤ 64
   ·have V2 : Hid (resB 4 s v = decide (0 ≤ s∧s ≤ 1023∧True)):=V.out.trans (by rw [Bool.eq_iff_iff];simp [inR] <;> omega)
    clear V
    go_enter Tryz.func47,Tryz.ntmps47
    go_wp2
    go_ret
    exact ⟨by rw [V2.out];first | rfl | (simp;done) | (simp;omega),HB.out⟩
   ·have V2 : Hid (resB 4 s v = decide (0 ≤ s∧s ≤ 1023∧False)):=V.out.trans (by rw [Bool.eq_iff_iff];simp [inR] <;> omega)
    clear V
    go_enter Tryz.func47,Tryz.ntmps47
    go_wp2
    go_ret
    exact ⟨by rw [V2.out];first | rfl | (simp;done) | (simp;omega),HB.out⟩
 ·by_cases hv : (v.size : Int) ≤ 64
  ·have V2 : Hid (resB 4 s v = decide (0 ≤ s∧s ≤ 1023∧True)):=V.out.trans (by rw [Bool.eq_iff_iff];simp [inR] <;> omega)
   clear V
   go_enter Tryz.func47,Tryz.ntmps47
   go_wp2
   go_ret
   exact ⟨by rw [V2.out];first | rfl | (simp;done) | (simp;omega),HB.out⟩
  ·have V2 : Hid (resB 4 s v = decide (0 ≤ s∧s ≤ 1023∧False)):=V.out.trans (by rw [Bool.eq_iff_iff];simp [inR] <;> omega)
   clear V
   go_enter Tryz.func47,Tryz.ntmps47
   go_wp2
   go_ret
   exact ⟨by rw [V2.out];first | rfl | (simp;done) | (simp;omega),HB.out⟩
set_option maxHeartbeats 1000000 in
theorem refresult_5 (s : Int) (v : ByteArray) (w : World) : Calls Tryz.prog 47 #[.agg #[.int .i64 5,.int .i64 s,.string v]] w fun e w' => e = .returned (.bool (resB 5 s v))∧Below w.heap.size w w':=by
 have HB : Hid (Below w.heap.size w (w.alloc (.cells #[.int .i64 5,.int .i64 s,.string v] 40))):=(Below.refl _ _).alloc (Nat.le_refl _) _
 have V : Hid (resB 5 s v = (inR s 0 1023 && decide (v = noV))):=by simp [Hid,resB]
 by_cases h0 : 0 ≤ s
 ·by_cases h1 : s < 1024
  ·by_cases hv : v = noV
   ·have V2 : Hid (resB 5 s v = decide (0 ≤ s∧s ≤ 1023∧True)):=V.out.trans (by rw [Bool.eq_iff_iff];simp [inR,hv] <;> omega)
    clear V
    unfold noV at hv
    subst hv
    go_enter Tryz.func47,Tryz.ntmps47
    go_wp2
    go_ret
    exact ⟨by rw [V2.out];first | rfl | (simp;done) | (simp;omega),HB.out⟩
   ·have V2 : Hid (resB 5 s v = decide (0 ≤ s∧s ≤ 1023∧False)):=V.out.trans (by rw [Bool.eq_iff_iff];simp [inR,hv] <;> omega)
    clear V
    have g2 : ¬ v.toList = (⟨#[]⟩ : ByteArray).toList:=fun e => hv ((bytes_inj _ _).1 e)
    have g3 : v.toList.isEmpty = false:=by
     rw [Bool.eq_false_iff];intro h
     exact g2 (by rw [List.isEmpty_iff.1 h,ByteArray.toList_eq])
    go_enter Tryz.func47,Tryz.ntmps47
    go_wp2
    go_ret
    exact ⟨by rw [V2.out];first | rfl | (simp;done) | (simp;omega),HB.out⟩
  ·by_cases hv : v = noV
   ·have V2 : Hid (resB 5 s v = decide (0 ≤ s∧s ≤ 1023∧True)):=V.out.trans (by rw [Bool.eq_iff_iff];simp [inR,hv] <;> omega)
    clear V
    unfold noV at hv
    subst hv
    go_enter Tryz.func47,Tryz.ntmps47
    go_wp2
    go_ret
    exact ⟨by rw [V2.out];first | rfl | (simp;done) | (simp;omega),HB.out⟩
   ·have V2 : Hid (resB 5 s v = decide (0 ≤ s∧s ≤ 1023∧False)):=V.out.trans (by rw [Bool.eq_iff_iff];simp [inR,hv] <;> omega)
    clear V
    have g2 : ¬ v.toList = (⟨#[]⟩ : ByteArray).toList:=fun e => hv ((bytes_inj _ _).1 e)
    have g3 : v.toList.isEmpty = false:=by
     rw [Bool.eq_false_iff];intro h
     exact g2 (by rw [List.isEmpty_iff.1 h,ByteArray.toList_eq])
    go_enter Tryz.func47,Tryz.ntmps47
    go_wp2
    go_ret
    exact ⟨by rw [V2.out];first | rfl | (simp;done) | (simp;omega),HB.out⟩
 ·by_cases hv : v = noV
  ·have V2 : Hid (resB 5 s v = decide (0 ≤ s∧s ≤ 1023∧True)):=V.out.trans (by rw [Bool.eq_iff_iff];simp [inR,hv] <;> omega)
   clear V
   unfold noV at hv
   subst hv
   go_enter Tryz.func47,Tryz.ntmps47
   go_wp2
   go_ret
   exact ⟨by rw [V2.out];first | rfl | (simp;done) | (simp;omega),HB.out⟩
  ·have V2 : Hid (resB 5 s v = decide (0 ≤ s∧s ≤ 1023∧False)):=V.out.trans (by rw [Bool.eq_iff_iff];simp [inR,hv] <;> omega)
   clear V
   have g2 : ¬ v.toList = (⟨#[]⟩ : ByteArray).toList:=fun e => hv ((bytes_inj _ _).1 e)
   have g3 : v.toList.isEmpty = false:=by
    rw [Bool.eq_false_iff];intro h
    exact g2 (by rw [List.isEmpty_iff.1 h,ByteArray.toList_eq])
   go_enter Tryz.func47,Tryz.ntmps47
   go_wp2
   go_ret
   exact ⟨by rw [V2.out];first | rfl | (simp;done) | (simp;omega),HB.out⟩
set_option maxHeartbeats 1000000 in
theorem refresult_6 (s : Int) (v : ByteArray) (w : World) : Calls Tryz.prog 47 #[.agg #[.int .i64 6,.int .i64 s,.string v]] w fun e w' => e = .returned (.bool (resB 6 s v))∧Below w.heap.size w w':=by
 have HB : Hid (Below w.heap.size w (w.alloc (.cells #[.int .i64 6,.int .i64 s,.string v] 40))):=(Below.refl _ _).alloc (Nat.le_refl _) _
 have V : Hid (resB 6 s v = (inR s 0 1024 && decide (v = noV))):=by simp [Hid,resB]
 by_cases h0 : 0 ≤ s
 ·by_cases h1 : s < 1024
  ·by_cases hv : v = noV
   ·have V2 : Hid (resB 6 s v = decide (0 ≤ s∧s ≤ 1024∧True)):=V.out.trans (by rw [Bool.eq_iff_iff];simp [inR,hv] <;> omega)
    clear V
    unfold noV at hv
    subst hv
    have h4 : s ≤ 1024:=by omega
    go_enter Tryz.func47,Tryz.ntmps47
    go_wp2
    go_ret
    exact ⟨by rw [V2.out];first | rfl | (simp;done) | (simp;omega),HB.out⟩
   ·have V2 : Hid (resB 6 s v = decide (0 ≤ s∧s ≤ 1024∧False)):=V.out.trans (by rw [Bool.eq_iff_iff];simp [inR,hv] <;> omega)
    clear V
    have g2 : ¬ v.toList = (⟨#[]⟩ : ByteArray).toList:=fun e => hv ((bytes_inj _ _).1 e)
    have g3 : v.toList.isEmpty = false:=by
     rw [Bool.eq_false_iff];intro h
     exact g2 (by rw [List.isEmpty_iff.1 h,ByteArray.toList_eq])
    have h4 : s ≤ 1024:=by omega
    go_enter Tryz.func47,Tryz.ntmps47
    go_wp2
    go_ret
    exact ⟨by rw [V2.out];first | rfl | (simp;done) | (simp;omega),HB.out⟩
  ·by_cases hv : v = noV
   ·have V2 : Hid (resB 6 s v = decide (0 ≤ s∧s ≤ 1024∧True)):=V.out.trans (by rw [Bool.eq_iff_iff];simp [inR,hv] <;> omega)
    clear V
    unfold noV at hv
    subst hv
    by_cases h4 : s ≤ 1024
    ·go_enter Tryz.func47,Tryz.ntmps47
     go_wp2
     go_ret
     exact ⟨by rw [V2.out];first | rfl | (simp;done) | (simp;omega),HB.out⟩
    ·go_enter Tryz.func47,Tryz.ntmps47
     go_wp2
     go_ret
     exact ⟨by rw [V2.out];first | rfl | (simp;done) | (simp;omega),HB.out⟩
   ·have V2 : Hid (resB 6 s v = decide (0 ≤ s∧s ≤ 1024∧False)):=V.out.trans (by rw [Bool.eq_iff_iff];simp [inR,hv] <;> omega)
    clear V
    have g2 : ¬ v.toList = (⟨#[]⟩ : ByteArray).toList:=fun e => hv ((bytes_inj _ _).1 e)
    have g3 : v.toList.isEmpty = false:=by
     rw [Bool.eq_false_iff];intro h
     exact g2 (by rw [List.isEmpty_iff.1 h,ByteArray.toList_eq])
    by_cases h4 : s ≤ 1024
    ·go_enter Tryz.func47,Tryz.ntmps47
     go_wp2
     go_ret
     exact ⟨by rw [V2.out];first | rfl | (simp;done) | (simp;omega),HB.out⟩
    ·go_enter Tryz.func47,Tryz.ntmps47
     go_wp2
     go_ret
     exact ⟨by rw [V2.out];first | rfl | (simp;done) | (simp;omega),HB.out⟩
 ·by_cases hv : v = noV
  ·have V2 : Hid (resB 6 s v = decide (0 ≤ s∧s ≤ 1024∧True)):=V.out.trans (by rw [Bool.eq_iff_iff];simp [inR,hv] <;> omega)
   clear V
   unfold noV at hv
   subst hv
   go_enter Tryz.func47,Tryz.ntmps47
   go_wp2
   go_ret
   exact ⟨by rw [V2.out];first | rfl | (simp;done) | (simp;omega),HB.out⟩
  ·have V2 : Hid (resB 6 s v = decide (0 ≤ s∧s ≤ 1024∧False)):=V.out.trans (by rw [Bool.eq_iff_iff];simp [inR,hv] <;> omega)
   clear V
   have g2 : ¬ v.toList = (⟨#[]⟩ : ByteArray).toList:=fun e => hv ((bytes_inj _ _).1 e)
   have g3 : v.toList.isEmpty = false:=by
    rw [Bool.eq_false_iff];intro h
    exact g2 (by rw [List.isEmpty_iff.1 h,ByteArray.toList_eq])
   go_enter Tryz.func47,Tryz.ntmps47
   go_wp2
   go_ret
   exact ⟨by rw [V2.out];first | rfl | (simp;done) | (simp;omega),HB.out⟩
set_option maxHeartbeats 1000000 in
theorem refresult_3 (s : Int) (v : ByteArray) (w : World) : Calls Tryz.prog 47 #[.agg #[.int .i64 3,.int .i64 s,.string v]] w fun e w' => e = .returned (.bool (resB 3 s v))∧Below w.heap.size w w':=by
 have HB : Hid (Below w.heap.size w (w.alloc (.cells #[.int .i64 3,.int .i64 s,.string v] 40))):=(Below.refl _ _).alloc (Nat.le_refl _) _
 have V : Hid (resB 3 s v = (decide (s = 0) && decide (v = noV))):=by simp [Hid,resB]
 by_cases h0 : 0 ≤ s
 ·by_cases h1 : s < 1024
  ·by_cases hv : v = noV
   ·by_cases hs : s = 0
    ·have V2 : Hid (resB 3 s v = true):=V.out.trans (by simp [hv,hs])
     clear V
     unfold noV at hv
     subst hv;subst hs
     go_enter Tryz.func47,Tryz.ntmps47
     go_wp2
     go_ret
     exact ⟨by rw [V2.out];first | rfl | (simp;done) | (simp;omega),HB.out⟩
    ·have V2 : Hid (resB 3 s v = false):=V.out.trans (by simp [hs])
     have n0 : (s == 0) = false:=by simp [hs]
     clear V
     unfold noV at hv
     subst hv
     go_enter Tryz.func47,Tryz.ntmps47
     go_wp2
     go_ret
     exact ⟨by rw [V2.out];first | rfl | (simp;done) | (simp;omega),HB.out⟩
   ·by_cases hs : s = 0
    ·have V2 : Hid (resB 3 s v = false):=V.out.trans (by simp [hv,hs])
     clear V
     have g2 : ¬ v.toList = (⟨#[]⟩ : ByteArray).toList:=fun e => hv ((bytes_inj _ _).1 e)
     have g3 : v.toList.isEmpty = false:=by
      rw [Bool.eq_false_iff];intro h
      exact g2 (by rw [List.isEmpty_iff.1 h,ByteArray.toList_eq])
     subst hs
     go_enter Tryz.func47,Tryz.ntmps47
     go_wp2
     go_ret
     exact ⟨by rw [V2.out];first | rfl | (simp;done) | (simp;omega),HB.out⟩
    ·have V2 : Hid (resB 3 s v = false):=V.out.trans (by simp [hs])
     have n0 : (s == 0) = false:=by simp [hs]
     clear V
     have g2 : ¬ v.toList = (⟨#[]⟩ : ByteArray).toList:=fun e => hv ((bytes_inj _ _).1 e)
     have g3 : v.toList.isEmpty = false:=by
      rw [Bool.eq_false_iff];intro h
      exact g2 (by rw [List.isEmpty_iff.1 h,ByteArray.toList_eq])
     go_enter Tryz.func47,Tryz.ntmps47
     go_wp2
     go_ret
     exact ⟨by rw [V2.out];first | rfl | (simp;done) | (simp;omega),HB.out⟩
  ·by_cases hv : v = noV
   ·have hs : ¬ s = 0:=by omega
    have V2 : Hid (resB 3 s v = false):=V.out.trans (by simp [hs])
    have n0 : (s == 0) = false:=by simp [hs]
    clear V
    unfold noV at hv
    subst hv
    go_enter Tryz.func47,Tryz.ntmps47
    go_wp2
    go_ret
    exact ⟨by rw [V2.out];first | rfl | (simp;done) | (simp;omega),HB.out⟩
   ·have hs : ¬ s = 0:=by omega
    have V2 : Hid (resB 3 s v = false):=V.out.trans (by simp [hs])
    have n0 : (s == 0) = false:=by simp [hs]
    clear V
    have g2 : ¬ v.toList = (⟨#[]⟩ : ByteArray).toList:=fun e => hv ((bytes_inj _ _).1 e)
    have g3 : v.toList.isEmpty = false:=by
     rw [Bool.eq_false_iff];intro h
     exact g2 (by rw [List.isEmpty_iff.1 h,ByteArray.toList_eq])
    go_enter Tryz.func47,Tryz.ntmps47
    go_wp2
    go_ret
    exact ⟨by rw [V2.out];first | rfl | (simp;done) | (simp;omega),HB.out⟩
 ·by_cases hv : v = noV
  ·have hs : ¬ s = 0:=by omega
   have V2 : Hid (resB 3 s v = false):=V.out.trans (by simp [hs])
   have n0 : (s == 0) = false:=by simp [hs]
   clear V
   unfold noV at hv
   subst hv
   go_enter Tryz.func47,Tryz.ntmps47
   go_wp2
   go_ret
   exact ⟨by rw [V2.out];first | rfl | (simp;done) | (simp;omega),HB.out⟩
  ·have hs : ¬ s = 0:=by omega
   have V2 : Hid (resB 3 s v = false):=V.out.trans (by simp [hs])
   have n0 : (s == 0) = false:=by simp [hs]
   clear V
   have g2 : ¬ v.toList = (⟨#[]⟩ : ByteArray).toList:=fun e => hv ((bytes_inj _ _).1 e)
   have g3 : v.toList.isEmpty = false:=by
    rw [Bool.eq_false_iff];intro h
    exact g2 (by rw [List.isEmpty_iff.1 h,ByteArray.toList_eq])
   go_enter Tryz.func47,Tryz.ntmps47
   go_wp2
   go_ret
   exact ⟨by rw [V2.out];first | rfl | (simp;done) | (simp;omega),HB.out⟩
set_option maxHeartbeats 1000000 in
theorem refresult_7 (s : Int) (v : ByteArray) (w : World) : Calls Tryz.prog 47 #[.agg #[.int .i64 7,.int .i64 s,.string v]] w fun e w' => e = .returned (.bool (resB 7 s v))∧Below w.heap.size w w':=by
 have HB : Hid (Below w.heap.size w (w.alloc (.cells #[.int .i64 7,.int .i64 s,.string v] 40))):=(Below.refl _ _).alloc (Nat.le_refl _) _
 have V : Hid (resB 7 s v = (decide (s = 0) && decide (v = noV))):=by simp [Hid,resB]
 by_cases h0 : 0 ≤ s
 ·by_cases h1 : s < 1024
  ·by_cases hv : v = noV
   ·by_cases hs : s = 0
    ·have V2 : Hid (resB 7 s v = true):=V.out.trans (by simp [hv,hs])
     clear V
     unfold noV at hv
     subst hv;subst hs
     go_enter Tryz.func47,Tryz.ntmps47
     go_wp2
     go_ret
     exact ⟨by rw [V2.out];first | rfl | (simp;done) | (simp;omega),HB.out⟩
    ·have V2 : Hid (resB 7 s v = false):=V.out.trans (by simp [hs])
     have n0 : (s == 0) = false:=by simp [hs]
     clear V
     unfold noV at hv
     subst hv
     go_enter Tryz.func47,Tryz.ntmps47
     go_wp2
     go_ret
     exact ⟨by rw [V2.out];first | rfl | (simp;done) | (simp;omega),HB.out⟩
   ·by_cases hs : s = 0
    ·have V2 : Hid (resB 7 s v = false):=V.out.trans (by simp [hv,hs])
     clear V
     have g2 : ¬ v.toList = (⟨#[]⟩ : ByteArray).toList:=fun e => hv ((bytes_inj _ _).1 e)
     have g3 : v.toList.isEmpty = false:=by
      rw [Bool.eq_false_iff];intro h
      exact g2 (by rw [List.isEmpty_iff.1 h,ByteArray.toList_eq])
     subst hs
     go_enter Tryz.func47,Tryz.ntmps47
     go_wp2
     go_ret
     exact ⟨by rw [V2.out];first | rfl | (simp;done) | (simp;omega),HB.out⟩
    ·have V2 : Hid (resB 7 s v = false):=V.out.trans (by simp [hs])
     have n0 : (s == 0) = false:=by simp [hs]
     clear V
     have g2 : ¬ v.toList = (⟨#[]⟩ : ByteArray).toList:=fun e => hv ((bytes_inj _ _).1 e)
     have g3 : v.toList.isEmpty = false:=by
      rw [Bool.eq_false_iff];intro h
      exact g2 (by rw [List.isEmpty_iff.1 h,ByteArray.toList_eq])
     go_enter Tryz.func47,Tryz.ntmps47
     go_wp2
     go_ret
     exact ⟨by rw [V2.out];first | rfl | (simp;done) | (simp;omega),HB.out⟩
  ·by_cases hv : v = noV
   ·have hs : ¬ s = 0:=by omega
    have V2 : Hid (resB 7 s v = false):=V.out.trans (by simp [hs])
    have n0 : (s == 0) = false:=by simp [hs]
    clear V
    unfold noV at hv
    subst hv
    go_enter Tryz.func47,Tryz.ntmps47
    go_wp2
    go_ret
    exact ⟨by rw [V2.out];first | rfl | (simp;done) | (simp;omega),HB.out⟩
   ·have hs : ¬ s = 0:=by omega
    have V2 : Hid (resB 7 s v = false):=V.out.trans (by simp [hs])
    have n0 : (s == 0) = false:=by simp [hs]
    clear V
    have g2 : ¬ v.toList = (⟨#[]⟩ : ByteArray).toList:=fun e => hv ((bytes_inj _ _).1 e)
    have g3 : v.toList.isEmpty = false:=by
     rw [Bool.eq_false_iff];intro h
     exact g2 (by rw [List.isEmpty_iff.1 h,ByteArray.toList_eq])
    go_enter Tryz.func47,Tryz.ntmps47
    go_wp2
    go_ret
    exact ⟨by rw [V2.out];first | rfl | (simp;done) | (simp;omega),HB.out⟩
 ·by_cases hv : v = noV
  ·have hs : ¬ s = 0:=by omega
   have V2 : Hid (resB 7 s v = false):=V.out.trans (by simp [hs])
   have n0 : (s == 0) = false:=by simp [hs]
   clear V
   unfold noV at hv
   subst hv
   go_enter Tryz.func47,Tryz.ntmps47
   go_wp2
   go_ret
   exact ⟨by rw [V2.out];first | rfl | (simp;done) | (simp;omega),HB.out⟩
  ·have hs : ¬ s = 0:=by omega
   have V2 : Hid (resB 7 s v = false):=V.out.trans (by simp [hs])
   have n0 : (s == 0) = false:=by simp [hs]
   clear V
   have g2 : ¬ v.toList = (⟨#[]⟩ : ByteArray).toList:=fun e => hv ((bytes_inj _ _).1 e)
   have g3 : v.toList.isEmpty = false:=by
    rw [Bool.eq_false_iff];intro h
    exact g2 (by rw [List.isEmpty_iff.1 h,ByteArray.toList_eq])
   go_enter Tryz.func47,Tryz.ntmps47
   go_wp2
   go_ret
   exact ⟨by rw [V2.out];first | rfl | (simp;done) | (simp;omega),HB.out⟩
set_option maxHeartbeats 1000000 in
theorem refresult_any (c s : Int) (v : ByteArray) (w : World) : Calls Tryz.prog 47 #[.agg #[.int .i64 c,.int .i64 s,.string v]] w fun e w' => e = .returned (.bool (resB c s v))∧Below w.heap.size w w':=by
 by_cases g1 : c = 1
 ·subst g1;exact refresult_1 s v w
 by_cases g2 : c = 2
 ·subst g2;exact refresult_2 s v w
 by_cases g3 : c = 3
 ·subst g3;exact refresult_3 s v w
 by_cases g4 : c = 4
 ·subst g4;exact refresult_4 s v w
 by_cases g5 : c = 5
 ·subst g5;exact refresult_5 s v w
 by_cases g6 : c = 6
 ·subst g6;exact refresult_6 s v w
 by_cases g7 : c = 7
 ·subst g7;exact refresult_7 s v w
 have HB : Hid (Below w.heap.size w (w.alloc (.cells #[.int .i64 c,.int .i64 s,.string v] 40))):=(Below.refl _ _).alloc (Nat.le_refl _) _
 have V : Hid (resB c s v = false):=by simp [Hid,resB,g1,g2,g3,g4,g5,g6,g7]
 have n1 : (c == 1) = false:=by simp [g1]
 have n2 : (c == 2) = false:=by simp [g2]
 have n3 : (c == 3) = false:=by simp [g3]
 have n4 : (c == 4) = false:=by simp [g4]
 have n5 : (c == 5) = false:=by simp [g5]
 have n6 : (c == 6) = false:=by simp [g6]
 have n7 : (c == 7) = false:=by simp [g7]
 by_cases h0 : 0 ≤ s
 ·by_cases h1 : s < 1024
  ·go_enter Tryz.func47,Tryz.ntmps47
   go_wp2
   go_ret
   exact ⟨by rw [V.out];first | rfl | (simp;done) | (simp;omega),HB.out⟩
  ·go_enter Tryz.func47,Tryz.ntmps47
   go_wp2
   go_ret
   exact ⟨by rw [V.out];first | rfl | (simp;done) | (simp;omega),HB.out⟩
 ·go_enter Tryz.func47,Tryz.ntmps47
  go_wp2
  go_ret
  exact ⟨by rw [V.out];first | rfl | (simp;done) | (simp;omega),HB.out⟩
def enK (k : Int) (e : En) : Bool:=if k = 2 ∨ k = 14 then decide (0 ≤ e.c) && (decide (e.c < 16) && (decide (1 ≤ e.n) && (decide (e.o.k = 0) && (decide (e.o.s = 0) && decide (e.o.v = ⟨#[]⟩))))) else decide (ckE e = 0) && (!decide (k = 13) || (decide (e.o.k = 3) || decide (e.o.k = 4)))
set_option maxHeartbeats 2000000 in
theorem refentry7_name (K : Int) (hK : K = 2 ∨ K = 14) (C N k s : Int) (v : ByteArray) (w : World) : Calls Tryz.prog 46 #[.int .i64 K,.agg #[.int .i64 C,.int .i64 N,.int .i64 k,.int .i64 s,.string v]] w fun e w' => e = .returned (.bool (enK K ⟨C,N,⟨k,s,v⟩⟩))∧Below w.heap.size w w':=by
 have HB : Hid (∀ o,Below w.heap.size w ((w.alloc (.cells #[.int .i64 C,.int .i64 N,.int .i64 k,.int .i64 s,.string v] 38)).alloc o)):=fun o => ((Below.refl _ _).alloc (Nat.le_refl _) _).alloc (by simp) _
 have HB1 : Hid (Below w.heap.size w (w.alloc (.cells #[.int .i64 C,.int .i64 N,.int .i64 k,.int .i64 s,.string v] 38))):=(Below.refl _ _).alloc (Nat.le_refl _) _
 have V : Hid (enK K ⟨C,N,⟨k,s,v⟩⟩ = (decide (0 ≤ C) && (decide (C < 16) && (decide (1 ≤ N) && (decide (k = 0) && (decide (s = 0) && decide (v = ⟨#[]⟩))))))):=by show _ = _;unfold enK;rw [if_pos hK]
 generalize enK K ⟨C,N,⟨k,s,v⟩⟩ = b at *
 rcases hK with rfl | rfl
 ·by_cases h0 : 0 ≤ C
  rotate_left
  ·have V2 : Hid (b = false):=V.out.trans (by simp [*])
   clear V
   go_enter Tryz.func46,Tryz.ntmps46
   go_wp2
   go_ret
   exact ⟨by rw [V2.out];first | rfl | (simp;done) | (simp;omega),by repeat (first | exact Below.refl _ _ | exact HB1.out | refine Below.alloc ?_ (by simp [World.setCell] <;> omega) _ | refine Below.setCell ?_ (by simp) _)⟩
  by_cases h1 : C < 16
  rotate_left
  ·have V2 : Hid (b = false):=V.out.trans (by simp [*])
   clear V
   go_enter Tryz.func46,Tryz.ntmps46
   go_wp2
   go_ret
   exact ⟨by rw [V2.out];first | rfl | (simp;done) | (simp;omega),by repeat (first | exact Below.refl _ _ | exact HB1.out | refine Below.alloc ?_ (by simp [World.setCell] <;> omega) _ | refine Below.setCell ?_ (by simp) _)⟩
  by_cases h2 : 1 ≤ N
  rotate_left
  ·have V2 : Hid (b = false):=V.out.trans (by simp [*])
   clear V
   go_enter Tryz.func46,Tryz.ntmps46
   go_wp2
   go_ret
   exact ⟨by rw [V2.out];first | rfl | (simp;done) | (simp;omega),by repeat (first | exact Below.refl _ _ | exact HB1.out | refine Below.alloc ?_ (by simp [World.setCell] <;> omega) _ | refine Below.setCell ?_ (by simp) _)⟩
  by_cases g0 : k = 0
  rotate_left
  ·have V2 : Hid (b = false):=V.out.trans (by simp [*])
   clear V
   have q0 : (k == 0) = false:=by simp [g0]
   go_enter Tryz.func46,Tryz.ntmps46
   go_wp2
   go_ret
   exact ⟨by rw [V2.out];first | rfl | (simp;done) | (simp;omega),by repeat (first | exact Below.refl _ _ | exact HB1.out | refine Below.alloc ?_ (by simp [World.setCell] <;> omega) _ | refine Below.setCell ?_ (by simp) _)⟩
  by_cases g1 : s = 0
  rotate_left
  ·have V2 : Hid (b = false):=V.out.trans (by simp [*])
   clear V
   have q1 : (s == 0) = false:=by simp [g1]
   subst g0
   go_enter Tryz.func46,Tryz.ntmps46
   go_wp2
   go_ret
   exact ⟨by rw [V2.out];first | rfl | (simp;done) | (simp;omega),by repeat (first | exact Below.refl _ _ | exact HB1.out | refine Below.alloc ?_ (by simp [World.setCell] <;> omega) _ | refine Below.setCell ?_ (by simp) _)⟩
  by_cases hv : v = ⟨#[]⟩
  ·have V2 : Hid (b = true):=V.out.trans (by simp [*])
   clear V;subst g0 g1 hv
   go_enter Tryz.func46,Tryz.ntmps46
   go_wp2
   go_ret
   exact ⟨by rw [V2.out];first | rfl | (simp;done) | (simp;omega),by repeat (first | exact Below.refl _ _ | exact HB1.out | refine Below.alloc ?_ (by simp [World.setCell] <;> omega) _ | refine Below.setCell ?_ (by simp) _)⟩
  ·have V2 : Hid (b = false):=V.out.trans (by simp [*])
   clear V
   have s7 : ¬ v.toList = (⟨#[]⟩ : ByteArray).toList:=fun e => hv ((bytes_inj _ _).1 e)
   have t7 : v.toList.isEmpty = false:=by
    rw [Bool.eq_false_iff];intro h
    exact s7 (by rw [List.isEmpty_iff.1 h,ByteArray.toList_eq])
   subst g0 g1
   go_enter Tryz.func46,Tryz.ntmps46
   go_wp2
   go_ret
   exact ⟨by rw [V2.out];first | rfl | (simp;done) | (simp;omega),by repeat (first | exact Below.refl _ _ | exact HB1.out | refine Below.alloc ?_ (by simp [World.setCell] <;> omega) _ | refine Below.setCell ?_ (by simp) _)⟩
 ·by_cases h0 : 0 ≤ C
  rotate_left
  ·have V2 : Hid (b = false):=V.out.trans (by simp [*])
   clear V
   go_enter Tryz.func46,Tryz.ntmps46
   go_wp2
   go_ret
   exact ⟨by rw [V2.out];first | rfl | (simp;done) | (simp;omega),by repeat (first | exact Below.refl _ _ | exact HB1.out | refine Below.alloc ?_ (by simp [World.setCell] <;> omega) _ | refine Below.setCell ?_ (by simp) _)⟩
  by_cases h1 : C < 16
  rotate_left
  ·have V2 : Hid (b = false):=V.out.trans (by simp [*])
   clear V
   go_enter Tryz.func46,Tryz.ntmps46
   go_wp2
   go_ret
   exact ⟨by rw [V2.out];first | rfl | (simp;done) | (simp;omega),by repeat (first | exact Below.refl _ _ | exact HB1.out | refine Below.alloc ?_ (by simp [World.setCell] <;> omega) _ | refine Below.setCell ?_ (by simp) _)⟩
  by_cases h2 : 1 ≤ N
  rotate_left
  ·have V2 : Hid (b = false):=V.out.trans (by simp [*])
   clear V
   go_enter Tryz.func46,Tryz.ntmps46
   go_wp2
   go_ret
   exact ⟨by rw [V2.out];first | rfl | (simp;done) | (simp;omega),by repeat (first | exact Below.refl _ _ | exact HB1.out | refine Below.alloc ?_ (by simp [World.setCell] <;> omega) _ | refine Below.setCell ?_ (by simp) _)⟩
  by_cases g0 : k = 0
  rotate_left
  ·have V2 : Hid (b = false):=V.out.trans (by simp [*])
   clear V
   have q0 : (k == 0) = false:=by simp [g0]
   go_enter Tryz.func46,Tryz.ntmps46
   go_wp2
   go_ret
   exact ⟨by rw [V2.out];first | rfl | (simp;done) | (simp;omega),by repeat (first | exact Below.refl _ _ | exact HB1.out | refine Below.alloc ?_ (by simp [World.setCell] <;> omega) _ | refine Below.setCell ?_ (by simp) _)⟩
  by_cases g1 : s = 0
  rotate_left
  ·have V2 : Hid (b = false):=V.out.trans (by simp [*])
   clear V
   have q1 : (s == 0) = false:=by simp [g1]
   subst g0
   go_enter Tryz.func46,Tryz.ntmps46
   go_wp2
   go_ret
   exact ⟨by rw [V2.out];first | rfl | (simp;done) | (simp;omega),by repeat (first | exact Below.refl _ _ | exact HB1.out | refine Below.alloc ?_ (by simp [World.setCell] <;> omega) _ | refine Below.setCell ?_ (by simp) _)⟩
  by_cases hv : v = ⟨#[]⟩
  ·have V2 : Hid (b = true):=V.out.trans (by simp [*])
   clear V;subst g0 g1 hv
   go_enter Tryz.func46,Tryz.ntmps46
   go_wp2
   go_ret
   exact ⟨by rw [V2.out];first | rfl | (simp;done) | (simp;omega),by repeat (first | exact Below.refl _ _ | exact HB1.out | refine Below.alloc ?_ (by simp [World.setCell] <;> omega) _ | refine Below.setCell ?_ (by simp) _)⟩
  ·have V2 : Hid (b = false):=V.out.trans (by simp [*])
   clear V
   have s7 : ¬ v.toList = (⟨#[]⟩ : ByteArray).toList:=fun e => hv ((bytes_inj _ _).1 e)
   have t7 : v.toList.isEmpty = false:=by
    rw [Bool.eq_false_iff];intro h
    exact s7 (by rw [List.isEmpty_iff.1 h,ByteArray.toList_eq])
   subst g0 g1
   go_enter Tryz.func46,Tryz.ntmps46
   go_wp2
   go_ret
   exact ⟨by rw [V2.out];first | rfl | (simp;done) | (simp;omega),by repeat (first | exact Below.refl _ _ | exact HB1.out | refine Below.alloc ?_ (by simp [World.setCell] <;> omega) _ | refine Below.setCell ?_ (by simp) _)⟩
set_option maxHeartbeats 2000000 in
theorem refentry7_whole (K : Int) (hK : ¬ (K = 2 ∨ K = 14)) (C N k s : Int) (v : ByteArray) (hf : (⟨k,s,v⟩ : Opn).fits) (w : World) : Calls Tryz.prog 46 #[.int .i64 K,.agg #[.int .i64 C,.int .i64 N,.int .i64 k,.int .i64 s,.string v]] w fun e w' => e = .returned (.bool (enK K ⟨C,N,⟨k,s,v⟩⟩))∧Below w.heap.size w w':=by
 have HE:=hide (fun W => refentry_any C N k s v hf W);have HB1 : Hid (Below w.heap.size w (w.alloc (.cells #[.int .i64 C,.int .i64 N,.int .i64 k,.int .i64 s,.string v] 38))):=(Below.refl _ _).alloc (Nat.le_refl _) _
 have V : Hid (enK K ⟨C,N,⟨k,s,v⟩⟩ = (decide (ckE ⟨C,N,⟨k,s,v⟩⟩ = 0) && (!decide (K = 13) || (decide (k = 3) || decide (k = 4))))):=by show _ = _;unfold enK;rw [if_neg hK]
 generalize enK K ⟨C,N,⟨k,s,v⟩⟩ = b at *
 generalize ckE ⟨C,N,⟨k,s,v⟩⟩ = x at *
 have k2 : (K == 2) = false:=by simp;omega
 have k14 : (K == 14) = false:=by simp;omega
 clear hK hf
 by_cases hx : x = 0
 rotate_left
 ·have V2 : Hid (b = false):=V.out.trans (by simp [hx])
  have qx : (x == 0) = false:=by simp [hx]
  clear V
  go_enter Tryz.func46,Tryz.ntmps46
  go_wp2_with fail
  refine (HE.out _).mono ?_;rintro e w1 ⟨rfl,b1⟩;have e2:=(b1.cell (p:=⟨w.heap.size,2,none⟩) (by simp)).trans (show _ = some (.int .i64 k) by simp);have B1:=hide (HB1.out.trans (b1.mono (by simp)));clear b1
  go_wp2
  go_ret
  exact ⟨by rw [V2.out];first | rfl | (simp;done) | (simp;omega),B1.out⟩
 subst hx
 by_cases h13 : K = 13
 rotate_left
 ·have V2 : Hid (b = true):=V.out.trans (by simp [h13])
  have q13 : (K == 13) = false:=by simp [h13]
  clear V
  go_enter Tryz.func46,Tryz.ntmps46
  go_wp2_with fail
  refine (HE.out _).mono ?_;rintro e w1 ⟨rfl,b1⟩;have e2:=(b1.cell (p:=⟨w.heap.size,2,none⟩) (by simp)).trans (show _ = some (.int .i64 k) by simp);have B1:=hide (HB1.out.trans (b1.mono (by simp)));clear b1
  go_wp2
  go_ret
  exact ⟨by rw [V2.out];first | rfl | (simp;done) | (simp;omega),B1.out⟩
 subst h13
 by_cases g3 : k = 3
 ·have V2 : Hid (b = true):=V.out.trans (by simp [g3])
  subst g3;clear V
  go_enter Tryz.func46,Tryz.ntmps46
  go_wp2_with fail
  refine (HE.out _).mono ?_;rintro e w1 ⟨rfl,b1⟩;have e2:=(b1.cell (p:=⟨w.heap.size,2,none⟩) (by simp)).trans (show _ = some (.int .i64 3) by simp);have B1:=hide (HB1.out.trans (b1.mono (by simp)));clear b1
  go_wp2
  go_ret
  exact ⟨by rw [V2.out];first | rfl | (simp;done) | (simp;omega),B1.out⟩
 have q3 : (k == 3) = false:=by simp [g3]
 by_cases g4 : k = 4
 ·have V2 : Hid (b = true):=V.out.trans (by simp [g4])
  subst g4;clear V
  go_enter Tryz.func46,Tryz.ntmps46
  go_wp2_with fail
  refine (HE.out _).mono ?_;rintro e w1 ⟨rfl,b1⟩;have e2:=(b1.cell (p:=⟨w.heap.size,2,none⟩) (by simp)).trans (show _ = some (.int .i64 4) by simp);have B1:=hide (HB1.out.trans (b1.mono (by simp)));clear b1
  go_wp2
  go_ret
  exact ⟨by rw [V2.out];first | rfl | (simp;done) | (simp;omega),B1.out⟩
 have q4 : (k == 4) = false:=by simp [g4]
 have V2 : Hid (b = false):=V.out.trans (by simp [g3,g4]);clear V
 go_enter Tryz.func46,Tryz.ntmps46
 go_wp2_with fail
 refine (HE.out _).mono ?_;rintro e w1 ⟨rfl,b1⟩;have e2:=(b1.cell (p:=⟨w.heap.size,2,none⟩) (by simp)).trans (show _ = some (.int .i64 k) by simp);have B1:=hide (HB1.out.trans (b1.mono (by simp)));clear b1
 go_wp2
 go_ret
 exact ⟨by rw [V2.out];first | rfl | (simp;done) | (simp;omega),B1.out⟩
theorem refentry7 (K : Int) (e : En) (hf : e.o.fits) (w : World) : Calls Tryz.prog 46 #[.int .i64 K,.agg #[.int .i64 e.c,.int .i64 e.n,.int .i64 e.o.k,.int .i64 e.o.s,.string e.o.v]] w fun r w' => r = .returned (.bool (enK K e))∧Below w.heap.size w w':=by
 by_cases hK : K = 2 ∨ K = 14
 ·exact refentry7_name K hK e.c e.n e.o.k e.o.s e.o.v w
 ·exact refentry7_whole K hK e.c e.n e.o.k e.o.s e.o.v hf w
end Go.Proofs.YtjcedofmljkhfaaGreatDoor
