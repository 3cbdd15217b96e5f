import Derived.Shelf.Abstract
import Derived.Test.YtpcgnjpodnebpaaGreatDoorG5
set_option maxRecDepth 100000
set_option linter.unusedVariables false
set_option linter.unusedSimpArgs false
set_option maxHeartbeats 8000000
namespace Go.Proofs.YtpcgnjpodnebpaaGreatDoor
open Go.RowKit Go.Maps
open Classical
/-! Stamps lie as marks do. -/
def ySt : Lay Mk:=⟨133,130,3,24,Mk.cs,⟨0,0,0⟩⟩
theorem kSt : ySt.Ok:=⟨by decide,fun x => rfl,fun x u h => by
  simp [ySt,Mk.cs] at h
  rcases h with rfl | rfl | rfl <;> rfl,Tryz.underlying130,⟨.agg #[.int .i64 (⟨0,0,0⟩ : Mk).n,.int .u64 (⟨0,0,0⟩ : Mk).h,.int .u64 (⟨0,0,0⟩ : Mk).l],by kernel_rfl,rfl⟩⟩
def Ak.sm (x : Ak) : Mk:=⟨x.n,x.h,x.l⟩
theorem Ak.stamp_any (x : Ak) (w : World) : Calls Tryz.prog 119 #[x.val] w fun e w' => e = .returned (.agg #[.int .i64 x.n,.int .u64 x.h,.int .u64 x.l])∧Below w.heap.size w w':=by
 show Calls Tryz.prog 119 #[.agg #[.int .i64 x.n,.int .u64 x.h,.int .u64 x.l,.int .i64 x.p]] w _
 go_enter Tryz.func119,Tryz.ntmps119
 go_wp2
 refine bodyPost_ret (v:=.agg #[.int .i64 x.n,.int .u64 x.h,.int .u64 x.l]) (by simp [results,Tryz.results119,go_sem]) rfl ?_
 exact ⟨rfl,by (repeat (first | exact Below.refl _ _ | assumption | refine Below.drew ?_ | refine Below.alloc ?_ (by first | (simp;done) | (simp;omega) | omega) _ | refine Below.setCell ?_ (by first | (simp;done) | (simp;omega) | omega) _))⟩
theorem Ak.stamps_any (L : List Ak) (a : Option Addr) (n c : Nat) (w : World) (h : SlY yAkA w a n c L) (hb : n * 24 ≤ 281474976710656) :
  Calls Tryz.prog 118 #[.slice a n c,.func (.func 119) #[] #[]] w fun e w' => e = .returned (.slice (some ⟨w.heap.size,0,none⟩) n n)∧OwnY ySt w.heap.size w' (.slice (some ⟨w.heap.size,0,none⟩) n n) (L.map Ak.sm)∧Below w.heap.size w w':=by
 have hmx:=h.max;have hcp:=h.cap;have hln:=h.len
 unfold maxLen at hmx
 have H:=hide h;have HN:=hide hln;clear h hln
 go_enter Tryz.func118,Tryz.ntmps118
 go_wp2_with (at_make;go_must (refine makeYs kSt _ rfl (.tmp 9) rfl n rfl (by unfold maxLen;omega) hb ?zk))
 intro w1 o1 b1
 have HO : Hid (OwnY ySt w.heap.size w1 (.slice (some ⟨w.heap.size,0,none⟩) n n) ((L.map Ak.sm).take 0 ++ List.replicate (n - 0) ySt.z)):=by
  show OwnY _ _ _ _ _
  simpa using o1
 clear o1
 go_wp2
 go_loopw [13] (fun i wr => ∃ j : Nat,i = .int .i64 (j : Int)∧j ≤ n∧Hid (OwnY ySt w.heap.size wr (.slice (some ⟨w.heap.size,0,none⟩) n n) ((L.map Ak.sm).take j ++ List.replicate (n - j) ySt.z))∧Below w.heap.size w wr) (fun i _ => n - (intOf i).toNat)
 case atStart => exact ⟨0,rfl,Nat.zero_le _,HO,b1⟩
 case round =>
  obtain ⟨j,rfl,hj,hO,hbl⟩:=hrel;have hsz:=hbl.size
  by_cases hlt : j < n
  ·have hjl : j < L.length:=by rw [HN.out];exact hlt
   have hg0 : L[j]? = some L[j]:=List.getElem?_eq_getElem hjl
   have hg : (L.map Ak.sm)[j]? = some (L[j]).sm:=by rw [List.getElem?_map,hg0];rfl
   obtain ⟨q,o,rfl,hq,y0,y1,y2,y3⟩:=(H.out.later hbl).AkA hg0
   have hlt0 : w.heap.size < wr.heap.size:=by
    obtain ⟨_,_,ee,_,_,_,h4⟩:=hO.out.form
    injection ee with ee
    obtain ⟨g',e2,_,h5⟩:=h4 _ ee.symm
    cases e2
    exact h5
   have hset : Hid (((L.map Ak.sm).take j ++ List.replicate (n - j) ySt.z).set j (L[j]).sm = (L.map Ak.sm).take (j + 1) ++ List.replicate (n - (j + 1)) ySt.z):=by
    show _ = _
    have hl : ((L.map Ak.sm).take j).length = j:=by rw [List.length_take,List.length_map];omega
    rw [List.set_append_right _ _ (by omega),hl,Nat.sub_self,show n - j = (n - (j + 1)) + 1 by omega,List.replicate_succ,List.set_cons_zero,List.take_add_one,hg];simp only [Option.toList_some,List.append_assoc,List.cons_append,List.nil_append]
   have hget : Hid (((L.map Ak.sm).take j ++ List.replicate (n - j) ySt.z)[j]? = some ySt.z):=by
    show _ = _
    have hl : ((L.map Ak.sm).take j).length = j:=by rw [List.length_take,List.length_map];omega
    rw [List.getElem?_append_right (by omega),hl,Nat.sub_self,show n - j = (n - (j + 1)) + 1 by omega,List.replicate_succ]
    rfl
   clear hg hg0
   generalize L[j] = x at *
   generalize hX : (L.map Ak.sm).take j ++ List.replicate (n - j) ySt.z = XX at *
   clear hX;have bA:=hide (hbl.trans (((Below.refl _ wr).alloc LR (.cells #[.int .i64 x.n,.int .u64 x.h,.int .u64 x.l,.int .i64 x.p] 105)).mono hsz));have OA:=hide (hO.out.alloc (.cells #[.int .i64 x.n,.int .u64 x.h,.int .u64 x.l,.int .i64 x.p] 105));have ca:=hide (x.stamp_any (wr.alloc (.cells #[.int .i64 x.n,.int .u64 x.h,.int .u64 x.l,.int .i64 x.p] 105)));clear hO
   go_wp2_with fail
   refine ca.out.mono ?_;rintro e w2 ⟨rfl,b2⟩;have O2:=hide (OA.out.grow b2);have z2:=b2.size;rw [World.size_alloc] at z2
   dsimp only
   go_wp2_with (first
    | (refine storeY kSt _ rfl 133 (.tmp 23) (.tmp 22) rfl w.heap.size w.heap.size n n XX j 0 ySt.z x.sm _ rfl rfl hget.out (by kernel_rfl) (by exact (by decide : 3 ≤ 3)) rfl O2.out ?_;intro w3 o3 u3 z3;have O3:=hide o3;clear o3)
    | go_in)
   go_round
   case rel =>
    refine ⟨j + 1,by go_num,by omega,by show OwnY _ _ _ _ _;rw [← hset.out];exact O3.out,bA.out.trans ((b2.mono (by simp;omega)).trans (u3.below (by omega) (fun k e => by subst e;exact LR)))⟩
   case measure => simp [intOf];omega
  ·obtain rfl : j = n:=by omega
   have O9 : Hid (OwnY ySt w.heap.size wr (.slice (some ⟨w.heap.size,0,none⟩) j j) (L.map Ak.sm)):=by
    show OwnY _ _ _ _ _
    have:=hO.out;rw [Nat.sub_self,List.replicate_zero,List.append_nil,List.take_of_length_le (by rw [List.length_map,HN.out];exact LR)] at this
    exact this
   clear hO
   go_wp2
   go_ret
   exact ⟨rfl,O9.out,hbl⟩
def Mk.sm (x : Mk) : Mk:=⟨x.n,x.h,x.l⟩
theorem Mk.stamp_any (x : Mk) (w : World) : Calls Tryz.prog 121 #[x.val] w fun e w' => e = .returned (.agg #[.int .i64 x.n,.int .u64 x.h,.int .u64 x.l])∧Below w.heap.size w w':=by
 show Calls Tryz.prog 121 #[.agg #[.int .i64 x.n,.int .u64 x.h,.int .u64 x.l]] w _
 go_enter Tryz.func121,Tryz.ntmps121
 go_wp2
 refine bodyPost_ret (v:=.agg #[.int .i64 x.n,.int .u64 x.h,.int .u64 x.l]) (by simp [results,Tryz.results121,go_sem]) rfl ?_
 exact ⟨rfl,by (repeat (first | exact Below.refl _ _ | assumption | refine Below.drew ?_ | refine Below.alloc ?_ (by first | (simp;done) | (simp;omega) | omega) _ | refine Below.setCell ?_ (by first | (simp;done) | (simp;omega) | omega) _))⟩
theorem Mk.stamps_any (L : List Mk) (a : Option Addr) (n c : Nat) (w : World) (h : SlY yMkA w a n c L) (hb : n * 24 ≤ 281474976710656) :
  Calls Tryz.prog 120 #[.slice a n c,.func (.func 121) #[] #[]] w fun e w' => e = .returned (.slice (some ⟨w.heap.size,0,none⟩) n n)∧OwnY ySt w.heap.size w' (.slice (some ⟨w.heap.size,0,none⟩) n n) (L.map Mk.sm)∧Below w.heap.size w w':=by
 have hmx:=h.max;have hcp:=h.cap;have hln:=h.len
 unfold maxLen at hmx
 have H:=hide h;have HN:=hide hln;clear h hln
 go_enter Tryz.func120,Tryz.ntmps120
 go_wp2_with (at_make;go_must (refine makeYs kSt _ rfl (.tmp 9) rfl n rfl (by unfold maxLen;omega) hb ?zk))
 intro w1 o1 b1
 have HO : Hid (OwnY ySt w.heap.size w1 (.slice (some ⟨w.heap.size,0,none⟩) n n) ((L.map Mk.sm).take 0 ++ List.replicate (n - 0) ySt.z)):=by
  show OwnY _ _ _ _ _
  simpa using o1
 clear o1
 go_wp2
 go_loopw [13] (fun i wr => ∃ j : Nat,i = .int .i64 (j : Int)∧j ≤ n∧Hid (OwnY ySt w.heap.size wr (.slice (some ⟨w.heap.size,0,none⟩) n n) ((L.map Mk.sm).take j ++ List.replicate (n - j) ySt.z))∧Below w.heap.size w wr) (fun i _ => n - (intOf i).toNat)
 case atStart => exact ⟨0,rfl,Nat.zero_le _,HO,b1⟩
 case round =>
  obtain ⟨j,rfl,hj,hO,hbl⟩:=hrel;have hsz:=hbl.size
  by_cases hlt : j < n
  ·have hjl : j < L.length:=by rw [HN.out];exact hlt
   have hg0 : L[j]? = some L[j]:=List.getElem?_eq_getElem hjl
   have hg : (L.map Mk.sm)[j]? = some (L[j]).sm:=by rw [List.getElem?_map,hg0];rfl
   obtain ⟨q,o,rfl,hq,y0,y1,y2⟩:=(H.out.later hbl).MkA hg0
   have hlt0 : w.heap.size < wr.heap.size:=by
    obtain ⟨_,_,ee,_,_,_,h4⟩:=hO.out.form
    injection ee with ee
    obtain ⟨g',e2,_,h5⟩:=h4 _ ee.symm
    cases e2
    exact h5
   have hset : Hid (((L.map Mk.sm).take j ++ List.replicate (n - j) ySt.z).set j (L[j]).sm = (L.map Mk.sm).take (j + 1) ++ List.replicate (n - (j + 1)) ySt.z):=by
    show _ = _
    have hl : ((L.map Mk.sm).take j).length = j:=by rw [List.length_take,List.length_map];omega
    rw [List.set_append_right _ _ (by omega),hl,Nat.sub_self,show n - j = (n - (j + 1)) + 1 by omega,List.replicate_succ,List.set_cons_zero,List.take_add_one,hg];simp only [Option.toList_some,List.append_assoc,List.cons_append,List.nil_append]
   have hget : Hid (((L.map Mk.sm).take j ++ List.replicate (n - j) ySt.z)[j]? = some ySt.z):=by
    show _ = _
    have hl : ((L.map Mk.sm).take j).length = j:=by rw [List.length_take,List.length_map];omega
    rw [List.getElem?_append_right (by omega),hl,Nat.sub_self,show n - j = (n - (j + 1)) + 1 by omega,List.replicate_succ]
    rfl
   clear hg hg0
   generalize L[j] = x at *
   generalize hX : (L.map Mk.sm).take j ++ List.replicate (n - j) ySt.z = XX at *
   clear hX;have bA:=hide (hbl.trans (((Below.refl _ wr).alloc LR (.cells #[.int .i64 x.n,.int .u64 x.h,.int .u64 x.l] 119)).mono hsz));have OA:=hide (hO.out.alloc (.cells #[.int .i64 x.n,.int .u64 x.h,.int .u64 x.l] 119));have ca:=hide (x.stamp_any (wr.alloc (.cells #[.int .i64 x.n,.int .u64 x.h,.int .u64 x.l] 119)));clear hO
   go_wp2_with fail
   refine ca.out.mono ?_;rintro e w2 ⟨rfl,b2⟩;have O2:=hide (OA.out.grow b2);have z2:=b2.size;rw [World.size_alloc] at z2
   dsimp only
   go_wp2_with (first
    | (refine storeY kSt _ rfl 133 (.tmp 23) (.tmp 22) rfl w.heap.size w.heap.size n n XX j 0 ySt.z x.sm _ rfl rfl hget.out (by kernel_rfl) (by exact (by decide : 3 ≤ 3)) rfl O2.out ?_;intro w3 o3 u3 z3;have O3:=hide o3;clear o3)
    | go_in)
   go_round
   case rel =>
    refine ⟨j + 1,by go_num,by omega,by show OwnY _ _ _ _ _;rw [← hset.out];exact O3.out,bA.out.trans ((b2.mono (by simp;omega)).trans (u3.below (by omega) (fun k e => by subst e;exact LR)))⟩
   case measure => simp [intOf];omega
  ·obtain rfl : j = n:=by omega
   have O9 : Hid (OwnY ySt w.heap.size wr (.slice (some ⟨w.heap.size,0,none⟩) j j) (L.map Mk.sm)):=by
    show OwnY _ _ _ _ _
    have:=hO.out;rw [Nat.sub_self,List.replicate_zero,List.append_nil,List.take_of_length_le (by rw [List.length_map,HN.out];exact LR)] at this
    exact this
   clear hO
   go_wp2
   go_ret
   exact ⟨rfl,O9.out,hbl⟩
def Bl.sm (x : Bl) : Mk:=⟨x.n,x.h,x.l⟩
theorem Bl.stamp_any (x : Bl) (w : World) : Calls Tryz.prog 123 #[x.val] w fun e w' => e = .returned (.agg #[.int .i64 x.n,.int .u64 x.h,.int .u64 x.l])∧Below w.heap.size w w':=by
 show Calls Tryz.prog 123 #[.agg #[.int .i64 x.n,.int .u64 x.h,.int .u64 x.l,.int .i64 x.v,.int .i64 x.c,.slice x.s.a x.s.D.length x.s.c]] w _
 go_enter Tryz.func123,Tryz.ntmps123
 go_wp2
 refine bodyPost_ret (v:=.agg #[.int .i64 x.n,.int .u64 x.h,.int .u64 x.l]) (by simp [results,Tryz.results123,go_sem]) rfl ?_
 exact ⟨rfl,by (repeat (first | exact Below.refl _ _ | assumption | refine Below.drew ?_ | refine Below.alloc ?_ (by first | (simp;done) | (simp;omega) | omega) _ | refine Below.setCell ?_ (by first | (simp;done) | (simp;omega) | omega) _))⟩
theorem Bl.stamps_any (L : List Bl) (a : Option Addr) (n c : Nat) (w : World) (h : SlY yBlA w a n c L) (hb : n * 24 ≤ 281474976710656) :
  Calls Tryz.prog 122 #[.slice a n c,.func (.func 123) #[] #[]] w fun e w' => e = .returned (.slice (some ⟨w.heap.size,0,none⟩) n n)∧OwnY ySt w.heap.size w' (.slice (some ⟨w.heap.size,0,none⟩) n n) (L.map Bl.sm)∧Below w.heap.size w w':=by
 have hmx:=h.max;have hcp:=h.cap;have hln:=h.len
 unfold maxLen at hmx
 have H:=hide h;have HN:=hide hln;clear h hln
 go_enter Tryz.func122,Tryz.ntmps122
 go_wp2_with (at_make;go_must (refine makeYs kSt _ rfl (.tmp 9) rfl n rfl (by unfold maxLen;omega) hb ?zk))
 intro w1 o1 b1
 have HO : Hid (OwnY ySt w.heap.size w1 (.slice (some ⟨w.heap.size,0,none⟩) n n) ((L.map Bl.sm).take 0 ++ List.replicate (n - 0) ySt.z)):=by
  show OwnY _ _ _ _ _
  simpa using o1
 clear o1
 go_wp2
 go_loopw [13] (fun i wr => ∃ j : Nat,i = .int .i64 (j : Int)∧j ≤ n∧Hid (OwnY ySt w.heap.size wr (.slice (some ⟨w.heap.size,0,none⟩) n n) ((L.map Bl.sm).take j ++ List.replicate (n - j) ySt.z))∧Below w.heap.size w wr) (fun i _ => n - (intOf i).toNat)
 case atStart => exact ⟨0,rfl,Nat.zero_le _,HO,b1⟩
 case round =>
  obtain ⟨j,rfl,hj,hO,hbl⟩:=hrel;have hsz:=hbl.size
  by_cases hlt : j < n
  ·have hjl : j < L.length:=by rw [HN.out];exact hlt
   have hg0 : L[j]? = some L[j]:=List.getElem?_eq_getElem hjl
   have hg : (L.map Bl.sm)[j]? = some (L[j]).sm:=by rw [List.getElem?_map,hg0];rfl
   obtain ⟨q,o,rfl,hq,y0,y1,y2,y3,y4,y5⟩:=(H.out.later hbl).BlA hg0
   have hlt0 : w.heap.size < wr.heap.size:=by
    obtain ⟨_,_,ee,_,_,_,h4⟩:=hO.out.form
    injection ee with ee
    obtain ⟨g',e2,_,h5⟩:=h4 _ ee.symm
    cases e2
    exact h5
   have hset : Hid (((L.map Bl.sm).take j ++ List.replicate (n - j) ySt.z).set j (L[j]).sm = (L.map Bl.sm).take (j + 1) ++ List.replicate (n - (j + 1)) ySt.z):=by
    show _ = _
    have hl : ((L.map Bl.sm).take j).length = j:=by rw [List.length_take,List.length_map];omega
    rw [List.set_append_right _ _ (by omega),hl,Nat.sub_self,show n - j = (n - (j + 1)) + 1 by omega,List.replicate_succ,List.set_cons_zero,List.take_add_one,hg];simp only [Option.toList_some,List.append_assoc,List.cons_append,List.nil_append]
   have hget : Hid (((L.map Bl.sm).take j ++ List.replicate (n - j) ySt.z)[j]? = some ySt.z):=by
    show _ = _
    have hl : ((L.map Bl.sm).take j).length = j:=by rw [List.length_take,List.length_map];omega
    rw [List.getElem?_append_right (by omega),hl,Nat.sub_self,show n - j = (n - (j + 1)) + 1 by omega,List.replicate_succ]
    rfl
   clear hg hg0
   generalize L[j] = x at *
   generalize hX : (L.map Bl.sm).take j ++ List.replicate (n - j) ySt.z = XX at *
   clear hX;have bA:=hide (hbl.trans (((Below.refl _ wr).alloc LR (.cells #[.int .i64 x.n,.int .u64 x.h,.int .u64 x.l,.int .i64 x.v,.int .i64 x.c,.slice x.s.a x.s.D.length x.s.c] 75)).mono hsz));have OA:=hide (hO.out.alloc (.cells #[.int .i64 x.n,.int .u64 x.h,.int .u64 x.l,.int .i64 x.v,.int .i64 x.c,.slice x.s.a x.s.D.length x.s.c] 75));have ca:=hide (x.stamp_any (wr.alloc (.cells #[.int .i64 x.n,.int .u64 x.h,.int .u64 x.l,.int .i64 x.v,.int .i64 x.c,.slice x.s.a x.s.D.length x.s.c] 75)));clear hO
   go_wp2_with fail
   refine ca.out.mono ?_;rintro e w2 ⟨rfl,b2⟩;have O2:=hide (OA.out.grow b2);have z2:=b2.size;rw [World.size_alloc] at z2
   dsimp only
   go_wp2_with (first
    | (refine storeY kSt _ rfl 133 (.tmp 23) (.tmp 22) rfl w.heap.size w.heap.size n n XX j 0 ySt.z x.sm _ rfl rfl hget.out (by kernel_rfl) (by exact (by decide : 3 ≤ 3)) rfl O2.out ?_;intro w3 o3 u3 z3;have O3:=hide o3;clear o3)
    | go_in)
   go_round
   case rel =>
    refine ⟨j + 1,by go_num,by omega,by show OwnY _ _ _ _ _;rw [← hset.out];exact O3.out,bA.out.trans ((b2.mono (by simp;omega)).trans (u3.below (by omega) (fun k e => by subst e;exact LR)))⟩
   case measure => simp [intOf];omega
  ·obtain rfl : j = n:=by omega
   have O9 : Hid (OwnY ySt w.heap.size wr (.slice (some ⟨w.heap.size,0,none⟩) j j) (L.map Bl.sm)):=by
    show OwnY _ _ _ _ _
    have:=hO.out;rw [Nat.sub_self,List.replicate_zero,List.append_nil,List.take_of_length_le (by rw [List.length_map,HN.out];exact LR)] at this
    exact this
   clear hO
   go_wp2
   go_ret
   exact ⟨rfl,O9.out,hbl⟩
def An.sm (x : An) : Mk:=⟨x.n,x.h,x.l⟩
theorem An.stamp_any (x : An) (w : World) : Calls Tryz.prog 125 #[x.val] w fun e w' => e = .returned (.agg #[.int .i64 x.n,.int .u64 x.h,.int .u64 x.l])∧Below w.heap.size w w':=by
 show Calls Tryz.prog 125 #[.agg #[.int .i64 x.n,.int .u64 x.h,.int .u64 x.l,.int .i64 x.v,.int .i64 x.c,.slice x.s.a x.s.D.length x.s.c]] w _
 go_enter Tryz.func125,Tryz.ntmps125
 go_wp2
 refine bodyPost_ret (v:=.agg #[.int .i64 x.n,.int .u64 x.h,.int .u64 x.l]) (by simp [results,Tryz.results125,go_sem]) rfl ?_
 exact ⟨rfl,by (repeat (first | exact Below.refl _ _ | assumption | refine Below.drew ?_ | refine Below.alloc ?_ (by first | (simp;done) | (simp;omega) | omega) _ | refine Below.setCell ?_ (by first | (simp;done) | (simp;omega) | omega) _))⟩
theorem An.stamps_any (L : List An) (a : Option Addr) (n c : Nat) (w : World) (h : SlY yAnA w a n c L) (hb : n * 24 ≤ 281474976710656) :
  Calls Tryz.prog 124 #[.slice a n c,.func (.func 125) #[] #[]] w fun e w' => e = .returned (.slice (some ⟨w.heap.size,0,none⟩) n n)∧OwnY ySt w.heap.size w' (.slice (some ⟨w.heap.size,0,none⟩) n n) (L.map An.sm)∧Below w.heap.size w w':=by
 have hmx:=h.max;have hcp:=h.cap;have hln:=h.len
 unfold maxLen at hmx
 have H:=hide h;have HN:=hide hln;clear h hln
 go_enter Tryz.func124,Tryz.ntmps124
 go_wp2_with (at_make;go_must (refine makeYs kSt _ rfl (.tmp 9) rfl n rfl (by unfold maxLen;omega) hb ?zk))
 intro w1 o1 b1
 have HO : Hid (OwnY ySt w.heap.size w1 (.slice (some ⟨w.heap.size,0,none⟩) n n) ((L.map An.sm).take 0 ++ List.replicate (n - 0) ySt.z)):=by
  show OwnY _ _ _ _ _
  simpa using o1
 clear o1
 go_wp2
 go_loopw [13] (fun i wr => ∃ j : Nat,i = .int .i64 (j : Int)∧j ≤ n∧Hid (OwnY ySt w.heap.size wr (.slice (some ⟨w.heap.size,0,none⟩) n n) ((L.map An.sm).take j ++ List.replicate (n - j) ySt.z))∧Below w.heap.size w wr) (fun i _ => n - (intOf i).toNat)
 case atStart => exact ⟨0,rfl,Nat.zero_le _,HO,b1⟩
 case round =>
  obtain ⟨j,rfl,hj,hO,hbl⟩:=hrel;have hsz:=hbl.size
  by_cases hlt : j < n
  ·have hjl : j < L.length:=by rw [HN.out];exact hlt
   have hg0 : L[j]? = some L[j]:=List.getElem?_eq_getElem hjl
   have hg : (L.map An.sm)[j]? = some (L[j]).sm:=by rw [List.getElem?_map,hg0];rfl
   obtain ⟨q,o,rfl,hq,y0,y1,y2,y3,y4,y5⟩:=(H.out.later hbl).AnA hg0
   have hlt0 : w.heap.size < wr.heap.size:=by
    obtain ⟨_,_,ee,_,_,_,h4⟩:=hO.out.form
    injection ee with ee
    obtain ⟨g',e2,_,h5⟩:=h4 _ ee.symm
    cases e2
    exact h5
   have hset : Hid (((L.map An.sm).take j ++ List.replicate (n - j) ySt.z).set j (L[j]).sm = (L.map An.sm).take (j + 1) ++ List.replicate (n - (j + 1)) ySt.z):=by
    show _ = _
    have hl : ((L.map An.sm).take j).length = j:=by rw [List.length_take,List.length_map];omega
    rw [List.set_append_right _ _ (by omega),hl,Nat.sub_self,show n - j = (n - (j + 1)) + 1 by omega,List.replicate_succ,List.set_cons_zero,List.take_add_one,hg];simp only [Option.toList_some,List.append_assoc,List.cons_append,List.nil_append]
   have hget : Hid (((L.map An.sm).take j ++ List.replicate (n - j) ySt.z)[j]? = some ySt.z):=by
    show _ = _
    have hl : ((L.map An.sm).take j).length = j:=by rw [List.length_take,List.length_map];omega
    rw [List.getElem?_append_right (by omega),hl,Nat.sub_self,show n - j = (n - (j + 1)) + 1 by omega,List.replicate_succ]
    rfl
   clear hg hg0
   generalize L[j] = x at *
   generalize hX : (L.map An.sm).take j ++ List.replicate (n - j) ySt.z = XX at *
   clear hX;have bA:=hide (hbl.trans (((Below.refl _ wr).alloc LR (.cells #[.int .i64 x.n,.int .u64 x.h,.int .u64 x.l,.int .i64 x.v,.int .i64 x.c,.slice x.s.a x.s.D.length x.s.c] 77)).mono hsz));have OA:=hide (hO.out.alloc (.cells #[.int .i64 x.n,.int .u64 x.h,.int .u64 x.l,.int .i64 x.v,.int .i64 x.c,.slice x.s.a x.s.D.length x.s.c] 77));have ca:=hide (x.stamp_any (wr.alloc (.cells #[.int .i64 x.n,.int .u64 x.h,.int .u64 x.l,.int .i64 x.v,.int .i64 x.c,.slice x.s.a x.s.D.length x.s.c] 77)));clear hO
   go_wp2_with fail
   refine ca.out.mono ?_;rintro e w2 ⟨rfl,b2⟩;have O2:=hide (OA.out.grow b2);have z2:=b2.size;rw [World.size_alloc] at z2
   dsimp only
   go_wp2_with (first
    | (refine storeY kSt _ rfl 133 (.tmp 23) (.tmp 22) rfl w.heap.size w.heap.size n n XX j 0 ySt.z x.sm _ rfl rfl hget.out (by kernel_rfl) (by exact (by decide : 3 ≤ 3)) rfl O2.out ?_;intro w3 o3 u3 z3;have O3:=hide o3;clear o3)
    | go_in)
   go_round
   case rel =>
    refine ⟨j + 1,by go_num,by omega,by show OwnY _ _ _ _ _;rw [← hset.out];exact O3.out,bA.out.trans ((b2.mono (by simp;omega)).trans (u3.below (by omega) (fun k e => by subst e;exact LR)))⟩
   case measure => simp [intOf];omega
  ·obtain rfl : j = n:=by omega
   have O9 : Hid (OwnY ySt w.heap.size wr (.slice (some ⟨w.heap.size,0,none⟩) j j) (L.map An.sm)):=by
    show OwnY _ _ _ _ _
    have:=hO.out;rw [Nat.sub_self,List.replicate_zero,List.append_nil,List.take_of_length_le (by rw [List.length_map,HN.out];exact LR)] at this
    exact this
   clear hO
   go_wp2
   go_ret
   exact ⟨rfl,O9.out,hbl⟩
theorem Ak.indexA_any (p : Ak → Bool) (g : Nat) (lb : Array Value) (eg : ∀ args w,(callFunc g args).run Tryz.prog w = .ok (.enter g args) w) (L : List Ak) (a : Option Addr) (n c : Nat) (w : World) (h : SlY yAkA w a n c L)
  (hp : ∀ (W : World) (x : Ak),Below w.heap.size w W → Calls Tryz.prog g (#[x.val] ++ lb) W fun e w' => e = .returned (.bool (p x))∧Below w.heap.size w w') :
  Calls Tryz.prog 147 #[.slice a n c,.func (.func g) #[] lb] w fun e w' => e = .returned (.int .i64 (ix p L))∧Below w.heap.size w w':=by
 have hmx:=h.max;have hcp:=h.cap;have hln:=h.len
 unfold maxLen at hmx
 have H:=hide h;have HN:=hide hln;have HP:=hide hp;clear h hln hp
 go_enter Tryz.func147,Tryz.ntmps147
 go_wp2
 go_loopw [8] (fun i wr => ∃ j : Nat,i = .int .i64 (j : Int)∧j ≤ n∧Hid (∀ k (hk : k < L.length),k < j → p L[k] = false)∧Below w.heap.size w wr) (fun i _ => n - (intOf i).toNat)
 case atStart => exact ⟨0,rfl,Nat.zero_le _,fun k hk h => absurd h (Nat.not_lt_zero _),BR⟩
 case round =>
  obtain ⟨j,rfl,hj,hA,hbl⟩:=hrel;have hsz:=hbl.size
  by_cases hlt : j < n
  ·have hjl : j < L.length:=by rw [HN.out];exact hlt
   have hg : L[j]? = some L[j]:=List.getElem?_eq_getElem hjl;obtain ⟨q,o,rfl,hq,y0,y1,y2,y3⟩:=(H.out.later hbl).AkA hg;have hcall:=HP.out wr L[j] hbl
   have hH : Hid (p L[j] = true → ix p L = (j : Int)):=fun hp => ix_hit hjl hp (fun k hk => hA.out k (by omega) hk)
   have hS : Hid (p L[j] = false → ∀ k (hk : k < L.length),k < j + 1 → p L[k] = false):=fun hp k hk hkj => by
    by_cases e : k = j
    ·subst e;exact hp
    ·exact hA.out k hk (by omega)
   clear hA hg
   generalize L[j] = x at *
   unfold Ak.val at hcall
   cases hq2 : p x with
   | true =>
    have hx:=hide (hH.out hq2);rw [hq2] at hcall;clear hH hS
    go_wp2_with (go_at_fn g;refine hcall.mono ?_;rintro e w' ⟨rfl,hb'⟩)
    go_ret
    exact ⟨by rw [hx.out];rfl,hb'⟩
   | false =>
    have hx:=hide (hS.out hq2);rw [hq2] at hcall;clear hH hS
    go_wp2_with (go_at_fn g;refine hcall.mono ?_;rintro e w' ⟨rfl,hb'⟩)
    go_round
    case rel => exact ⟨j + 1,by go_num,by omega,hx,hb'⟩
    case measure => simp [intOf];omega
  ·obtain rfl : j = n:=by omega
   have hx : Hid (ix p L = -1):=ix_miss (fun x hx => by
    obtain ⟨k,hk,rfl⟩:=List.mem_iff_getElem.1 hx
    exact hA.out k hk (by rw [← HN.out];exact hk))
   clear hA
   go_wp2
   go_ret
   exact ⟨by rw [hx.out];rfl,hbl⟩
theorem Ak.contains_any (p : Ak → Bool) (g : Nat) (lb : Array Value) (eg : ∀ args w,(callFunc g args).run Tryz.prog w = .ok (.enter g args) w) (L : List Ak) (a : Option Addr) (n c : Nat) (w : World) (h : SlY yAkA w a n c L)
  (hp : ∀ (W : World) (x : Ak),Below w.heap.size w W → Calls Tryz.prog g (#[x.val] ++ lb) W fun e w' => e = .returned (.bool (p x))∧Below w.heap.size w w') :
  Calls Tryz.prog 128 #[.slice a n c,.func (.func g) #[] lb] w fun e w' => e = .returned (.bool (decide (0 ≤ ix p L)))∧Below w.heap.size w w':=by
 have H:=hide (Ak.indexA_any p g lb eg L a n c w h hp);clear h hp
 go_enter Tryz.func128,Tryz.ntmps128
 go_wp2_with fail
 refine H.out.mono ?_;rintro e w' ⟨rfl,hb⟩
 go_wp2
 go_ret
 exact ⟨rfl,hb⟩
theorem Bl.indexA_any (p : Bl → Bool) (g : Nat) (lb : Array Value) (eg : ∀ args w,(callFunc g args).run Tryz.prog w = .ok (.enter g args) w) (L : List Bl) (a : Option Addr) (n c : Nat) (w : World) (h : SlY yBlA w a n c L)
  (hp : ∀ (W : World) (x : Bl),Below w.heap.size w W → Calls Tryz.prog g (#[x.val] ++ lb) W fun e w' => e = .returned (.bool (p x))∧Below w.heap.size w w') :
  Calls Tryz.prog 148 #[.slice a n c,.func (.func g) #[] lb] w fun e w' => e = .returned (.int .i64 (ix p L))∧Below w.heap.size w w':=by
 have hmx:=h.max;have hcp:=h.cap;have hln:=h.len
 unfold maxLen at hmx
 have H:=hide h;have HN:=hide hln;have HP:=hide hp;clear h hln hp
 go_enter Tryz.func148,Tryz.ntmps148
 go_wp2
 go_loopw [8] (fun i wr => ∃ j : Nat,i = .int .i64 (j : Int)∧j ≤ n∧Hid (∀ k (hk : k < L.length),k < j → p L[k] = false)∧Below w.heap.size w wr) (fun i _ => n - (intOf i).toNat)
 case atStart => exact ⟨0,rfl,Nat.zero_le _,fun k hk h => absurd h (Nat.not_lt_zero _),BR⟩
 case round =>
  obtain ⟨j,rfl,hj,hA,hbl⟩:=hrel;have hsz:=hbl.size
  by_cases hlt : j < n
  ·have hjl : j < L.length:=by rw [HN.out];exact hlt
   have hg : L[j]? = some L[j]:=List.getElem?_eq_getElem hjl;obtain ⟨q,o,rfl,hq,y0,y1,y2,y3,y4,y5⟩:=(H.out.later hbl).BlA hg;have hcall:=HP.out wr L[j] hbl
   have hH : Hid (p L[j] = true → ix p L = (j : Int)):=fun hp => ix_hit hjl hp (fun k hk => hA.out k (by omega) hk)
   have hS : Hid (p L[j] = false → ∀ k (hk : k < L.length),k < j + 1 → p L[k] = false):=fun hp k hk hkj => by
    by_cases e : k = j
    ·subst e;exact hp
    ·exact hA.out k hk (by omega)
   clear hA hg
   generalize L[j] = x at *
   unfold Bl.val at hcall
   cases hq2 : p x with
   | true =>
    have hx:=hide (hH.out hq2);rw [hq2] at hcall;clear hH hS
    go_wp2_with (go_at_fn g;refine hcall.mono ?_;rintro e w' ⟨rfl,hb'⟩)
    go_ret
    exact ⟨by rw [hx.out];rfl,hb'⟩
   | false =>
    have hx:=hide (hS.out hq2);rw [hq2] at hcall;clear hH hS
    go_wp2_with (go_at_fn g;refine hcall.mono ?_;rintro e w' ⟨rfl,hb'⟩)
    go_round
    case rel => exact ⟨j + 1,by go_num,by omega,hx,hb'⟩
    case measure => simp [intOf];omega
  ·obtain rfl : j = n:=by omega
   have hx : Hid (ix p L = -1):=ix_miss (fun x hx => by
    obtain ⟨k,hk,rfl⟩:=List.mem_iff_getElem.1 hx
    exact hA.out k hk (by rw [← HN.out];exact hk))
   clear hA
   go_wp2
   go_ret
   exact ⟨by rw [hx.out];rfl,hbl⟩
theorem Bl.contains_any (p : Bl → Bool) (g : Nat) (lb : Array Value) (eg : ∀ args w,(callFunc g args).run Tryz.prog w = .ok (.enter g args) w) (L : List Bl) (a : Option Addr) (n c : Nat) (w : World) (h : SlY yBlA w a n c L)
  (hp : ∀ (W : World) (x : Bl),Below w.heap.size w W → Calls Tryz.prog g (#[x.val] ++ lb) W fun e w' => e = .returned (.bool (p x))∧Below w.heap.size w w') :
  Calls Tryz.prog 130 #[.slice a n c,.func (.func g) #[] lb] w fun e w' => e = .returned (.bool (decide (0 ≤ ix p L)))∧Below w.heap.size w w':=by
 have H:=hide (Bl.indexA_any p g lb eg L a n c w h hp);clear h hp
 go_enter Tryz.func130,Tryz.ntmps130
 go_wp2_with fail
 refine H.out.mono ?_;rintro e w' ⟨rfl,hb⟩
 go_wp2
 go_ret
 exact ⟨rfl,hb⟩
end Go.Proofs.YtpcgnjpodnebpaaGreatDoor
namespace Go.Proofs.YtpcgnjpodnebpaaGreatDoor
open Go.RowKit Go.Maps Go.Shelf
open Classical
theorem ex_mkf8 {o : Oper} {ρ : Operand → Value} {fid : FuncId} {x : Operand} {X : Value} {w : World} (ho : o.op = .makeFunc (.func fid) #[] #[x]) (hx : ρ x = X) : (execOp ρ o).run Tryz.prog w = .ok (.value (.func (.func fid) #[] #[X])) w:=by
 unfold execOp
 simp [ho,hx,go_sem]
def Sta.norB (s : Sta) (c : Cg) : Bool:=bif (!decide (s.last = s.view) || decide (0 < (((s.M.length : Int) + (s.B.length : Int)) + (s.N.length : Int)))) then false else bif (!decide (s.self = c.pr s.view)) then decide ((s.A.length : Int) = 0) else decide (s.idle = 0) && (!decide (0 ≤ ix (fun a => !inB a.p 1 (s.L.length : Int)) s.A))
def Sta.chgB (s : Sta) (c : Cg) : Bool:=bif (decide (s.last = s.view) || decide (0 < ((s.A.length : Int) + (s.N.length : Int)))) then false else bif (!decide (s.self = c.pr s.view)) then decide ((s.B.length : Int) = 0) else decide ((s.B.length : Int) < c.F) && (!decide (0 ≤ ix (fun b => decide (s.view ≤ b.v)) s.B))
def Sta.kpB (s : Sta) (c : Cg) : Bool:=bif decide (s.st = 1) then s.norB c else bif decide (s.st = 2) then s.chgB c else bif decide (s.st = 3) then s.recB else false
theorem beyond8 (x : Ak) (s : Sta) (q : Nat) (w : World) (h : SB7 w q s) : Calls Tryz.prog 127 #[x.val,.pointer (some ⟨q,0,none⟩)] w fun e w' => e = .returned (.bool (!inB x.p 1 (s.L.length : Int)))∧Below w.heap.size w w':=by
 have hq:=h.lt;have h2 : w.cell? ⟨q,2,none⟩ = some (.int .i64 s.view):=h.cell 2 _ rfl;have h4 : w.cell? ⟨q,4,none⟩ = some (.slice s.la s.L.length s.lc):=h.cell 4 _ rfl
 have hqw : q ≠ w.heap.size:=by omega
 have W8:=hide (fun W => within8 x.p 1 (s.L.length : Int) W);clear h
 show Calls Tryz.prog 127 #[.agg #[.int .i64 x.n,.int .u64 x.h,.int .u64 x.l,.int .i64 x.p],.pointer (some ⟨q,0,none⟩)] w _
 go_enter Tryz.func127,Tryz.ntmps127
 go_wp2_with fail
 refine (W8.out _).mono ?_;rintro e w2 ⟨rfl,b2⟩;have b2:=b2;have bb : Below w.heap.size w w2:=((Below.refl _ w).alloc LR _).trans (b2.mono (by simp));have HB:=hide bb;clear b2 bb
 go_wp2
 go_ret
 exact ⟨rfl,HB.out⟩
theorem late8 (x : Bl) (s : Sta) (q : Nat) (w : World) (h : SB7 w q s) : Calls Tryz.prog 129 #[x.val,.pointer (some ⟨q,0,none⟩)] w fun e w' => e = .returned (.bool (decide (s.view ≤ x.v)))∧Below w.heap.size w w':=by
 have hq:=h.lt;have h2 : w.cell? ⟨q,2,none⟩ = some (.int .i64 s.view):=h.cell 2 _ rfl;have h4 : w.cell? ⟨q,4,none⟩ = some (.slice s.la s.L.length s.lc):=h.cell 4 _ rfl
 have hqw : q ≠ w.heap.size:=by omega
 have W8:=hide (fun W => within8 x.v 1 (s.L.length : Int) W);clear h
 show Calls Tryz.prog 129 #[.agg #[.int .i64 x.n,.int .u64 x.h,.int .u64 x.l,.int .i64 x.v,.int .i64 x.c,.slice x.s.a x.s.D.length x.s.c],.pointer (some ⟨q,0,none⟩)] w _
 go_enter Tryz.func129,Tryz.ntmps129
 go_wp2
 go_ret
 exact ⟨rfl,(Below.refl _ w).alloc LR _⟩
theorem normal8 (c : Cg) (s : Sta) (w : World) (hI : s.In w) (hF : s.Fit) : Calls Tryz.prog 78 #[c.val,s.val] w fun e w' => e = .returned (.bool (s.norB c))∧Below w.heap.size w w':=by
 go_enter Tryz.func78,Tryz.ntmps78
 go_upto_region 0 with fail
 refine WL ?_;refine vl_gen (fun T => T.size = 44∧T[0]? = some (gw true (c.val))∧T[1]? = some (gw true (s.val))) ⟨rfl,rfl,rfl⟩ (fun Z0 ⟨hz,s0,s1⟩ => ?_)
 obtain ⟨w1,hw1⟩ : ∃ y,y = w.alloc (.cells c.cs.toArray 23):=⟨_,rfl⟩
 have hb : Below w.heap.size w w1:=by rw [hw1];exact BR.alloc LR _
 have hs1 : w1.heap.size = w.heap.size + 1:=by rw [hw1];simp
 have HC : CB7 w1 (w.heap.size) c:=by rw [hw1];exact BX7.new _ _ _
 refine vw (.pointer (some ⟨w.heap.size,0,none⟩)) w1 WN (ex_box8 rfl (ev s0 rfl) (by rw [hw1];exact bxC7 _ _)) rfl hz (by decide) (fun Z1 zz kk s2x => ?_);replace s1:=ku s1;clear kk hz s0 hw1;have hz:=zz;have s2:=s2x;clear zz s2x;have hB:=hb;clear hb
 obtain ⟨w2,hw2⟩ : ∃ y,y = w1.alloc (.cells s.cs.toArray 33):=⟨_,rfl⟩
 have hb : Below w1.heap.size w1 w2:=by rw [hw2];exact BR.alloc LR _
 have hs2 : w2.heap.size = w.heap.size + 2:=by rw [hw2];simp;omega
 have HS : SB7 w2 (w.heap.size + 1) s:=by rw [hw2,← hs1];exact BX7.new _ _ _
 refine vw (.pointer (some ⟨w.heap.size + 1,0,none⟩)) w2 WN (ex_box8 rfl (ev s1 rfl) (by rw [hw2,← hs1];exact bxS7 _ _)) rfl hz (by decide) (fun Z2 zz kk s3x => ?_);replace s2:=ku s2;clear kk hz s1 hw2;have hz:=zz;have s3:=s3x;clear zz s3x;have hB:=hB.trans (hb.mono (by omega));have HC:=HC.bel hb;clear hb;have hv0 : Below w2.heap.size w2 w2:=BR;have HI:=hI.later hB;have f1:=hF.al;have f2:=hF.ml;have f3:=hF.bl;have f4:=hF.nl;have Ya:=((Rp.nil hz).cons s2).cons s3;clear hz s2 s3
 refine Ya.t (.bool false) (ex_assign rfl rfl) fun _ Yb => ?_;clear Ya
 have hz:=Yb.z;have s2:=Yb.a 2 rfl;have s3:=Yb.a 3 rfl;clear Yb;refine WE ?_
 go_upto_region 1 with fail
 refine WL ?_;have Yc:=((Rp.nil hz).cons s2).cons s3;clear hz s2 s3
 refine Yc.t _ (ex_fa rfl (Yc.f 3) (faS3 _ _)) fun _ Yd => ?_;clear Yc
 refine Yd.t _ (ex_ld rfl (Yd.f 6) (ldI8 (cell8 (HS.cell 3 _ rfl) hv0))) fun _ Ye => ?_;clear Yd
 refine Ye.t _ (ex_fa rfl (Ye.f 3) (faS2 _ _)) fun _ Yf => ?_;clear Ye
 refine Yf.t _ (ex_ld rfl (Yf.f 8) (ldI8 (cell8 (HS.cell 2 _ rfl) hv0))) fun _ Yg => ?_;clear Yf
 refine Yg.t (.bool (!decide (s.last = s.view))) (ex_bin rfl (Yg.f 7) (Yg.f 9) (neqC _ _ _ _ _)) fun _ Yh => ?_;clear Yg
 refine Yh.t _ (ex_move rfl (Yh.f 10)) fun _ Yi => ?_;clear Yh
 refine Yi.g 11 rfl rfl _ (fun hc => ex_fa rfl (Yi.f 3) (faS9 _ _)) fun Yj Yk => ?_;clear Yi
 refine Yk.g 11 rfl rfl _ (fun hc => ex_ld rfl (Yk.v 12 hc) (ldM8 (cell8 (HS.cell 9 _ rfl) hv0))) fun Yl Ym => ?_;clear Yk
 refine Ym.g 11 rfl rfl _ (fun hc => ex_lenM8 rfl rfl (Ym.v 13 hc)) fun Yn Yo => ?_;clear Ym
 refine Yo.g 11 rfl rfl _ (fun hc => ex_fa rfl (Yo.f 3) (faS10 _ _)) fun Yp Yq => ?_;clear Yo
 refine Yq.g 11 rfl rfl _ (fun hc => ex_ld rfl (Yq.v 15 hc) (ldB8 (cell8 (HS.cell 10 _ rfl) hv0))) fun Yr Ys => ?_;clear Yq
 refine Ys.g 11 rfl rfl _ (fun hc => ex_lenB8 rfl rfl (Ys.v 16 hc)) fun Yt Yu => ?_;clear Ys
 refine Yu.g 11 rfl rfl (.int .i64 ((s.M.length : Int) + (s.B.length : Int))) (fun hc => ex_bin rfl (Yu.v 14 hc) (Yu.v 17 hc) (addD8 _ _ (s.M.length : Int) (s.B.length : Int) ((s.M.length : Int) + (s.B.length : Int)) (by rw [IntKind.wrap_i64];omega) _)) fun Yv Yw => ?_;clear Yu
 refine Yw.g 11 rfl rfl _ (fun hc => ex_fa rfl (Yw.f 3) (faS11 _ _)) fun Yx Yy => ?_;clear Yw
 refine Yy.g 11 rfl rfl _ (fun hc => ex_ld rfl (Yy.v 19 hc) (ldN8 (cell8 (HS.cell 11 _ rfl) hv0))) fun Yz Y0 => ?_;clear Yy
 refine Y0.g 11 rfl rfl _ (fun hc => ex_lenN8 rfl rfl (Y0.v 20 hc)) fun Y1 Y2 => ?_;clear Y0
 refine Y2.g 11 rfl rfl (.int .i64 (((s.M.length : Int) + (s.B.length : Int)) + (s.N.length : Int))) (fun hc => ex_bin rfl (Y2.v 18 hc) (Y2.v 21 hc) (addD8 _ _ ((s.M.length : Int) + (s.B.length : Int)) (s.N.length : Int) (((s.M.length : Int) + (s.B.length : Int)) + (s.N.length : Int)) (by rw [IntKind.wrap_i64];omega) _)) fun Y3 Y4 => ?_;clear Y2
 refine Y4.g 11 rfl rfl (.bool (decide (0 < (((s.M.length : Int) + (s.B.length : Int)) + (s.N.length : Int))))) (fun hc => ex_bin rfl (Y4.v 22 hc) rfl (gtrC _ _ _ _ _)) fun Y5 Y6 => ?_;clear Y4
 refine Y6.t (.bool ((!decide (s.last = s.view)) || (decide (0 < (((s.M.length : Int) + (s.B.length : Int)) + (s.N.length : Int)))))) (ex_or rfl (Y6.a 11 rfl) (Y6.a 23 rfl) rfl) fun _ Y7 => ?_;clear Y6
 have hz:=Y7.z;have s2:=Y7.a 2 rfl;have s3:=Y7.a 3 rfl;have s24:=Y7.a 24 rfl;clear Y7;refine WE ?_
 go_upto_region 2 with fail
 cases e1 : ((!decide (s.last = s.view)) || (decide (0 < (((s.M.length : Int) + (s.B.length : Int)) + (s.N.length : Int)))))
 rotate_left
 ·refine wp_cond_true ((ev s24 rfl).trans (congrArg Value.bool e1)) ?_
  go_upto_region 2 with fail
  refine WL ?_;have Y8:=(((Rp.nil hz).cons s2).cons s3).cons s24;clear hz s2 s3 s24
  refine Y8.t (.bool false) (ex_assign rfl rfl) fun _ Y9 => ?_;clear Y8
  have hz:=Y9.z;have s4:=Y9.a 4 rfl;clear Y9;refine WE ?_
  go_wp2
  refine bodyPost_ret (results_tmp rfl _ _ _) rfl ⟨?_,hB.trans (hv0.mono (by omega))⟩;rw [getD_of s4];rw [show s.norB c = false from by unfold Sta.norB;rw [e1];rfl]
  rfl
 refine wp_cond_false ((ev s24 rfl).trans (congrArg Value.bool e1)) ?_;clear s24
 go_upto_region 3 with fail
 refine WL ?_;have Yba:=((Rp.nil hz).cons s2).cons s3;clear hz s2 s3
 refine Yba.t _ (ex_ld rfl (Yba.f 2) (CB7.ld (HC.bel hv0))) fun _ Ybb => ?_;clear Yba
 refine Ybb.t _ (ex_ld rfl (Ybb.f 3) (SB7.ld (HS.bel hv0))) fun _ Ybc => ?_;clear Ybb
 refine vcall true (.bool (decide (s.self = c.pr s.view))) WN (fun hc => ex_call rfl (by simp only [LA,LB,LC,(Ybc.f 25),(Ybc.f 26),evc] <;> rfl) rfl) (fun hc => isprimary8 c s w2) rfl Ybc.z (by decide) (Ybc.kc fun Ybd x1 hb Ybe => ?_);clear Ybc;have hx1:=hv0.trans (hb.mono hv0.size);clear hb
 refine Ybe.t (.bool (!(decide (s.self = c.pr s.view)))) (ex_not rfl (Ybe.f 27)) fun _ Ybf => ?_;clear Ybe
 have hz:=Ybf.z;have s2:=Ybf.a 2 rfl;have s3:=Ybf.a 3 rfl;have s28:=Ybf.a 28 rfl;clear Ybf;refine WE ?_
 go_upto_region 4 with fail
 cases e2 : (!(decide (s.self = c.pr s.view)))
 rotate_left
 ·refine wp_cond_true ((ev s28 rfl).trans (congrArg Value.bool e2)) ?_
  go_upto_region 4 with fail
  refine WL ?_;have Ybg:=(((Rp.nil hz).cons s2).cons s3).cons s28;clear hz s2 s3 s28
  refine Ybg.t _ (ex_fa rfl (Ybg.f 3) (faS8 _ _)) fun _ Ybh => ?_;clear Ybg
  refine Ybh.t _ (ex_ld rfl (Ybh.f 29) (ldK8 (cell8 (HS.cell 8 _ rfl) hx1))) fun _ Ybi => ?_;clear Ybh
  refine Ybi.t _ (ex_lenK8 rfl rfl (Ybi.f 30)) fun _ Ybj => ?_;clear Ybi
  refine Ybj.t (.bool (decide ((s.A.length : Int) = 0))) (ex_bin rfl (Ybj.f 31) rfl (eqlC _ _ _ _ _)) fun _ Ybk => ?_;clear Ybj
  refine Ybk.t _ (ex_assign rfl (Ybk.f 32)) fun _ Ybl => ?_;clear Ybk
  have hz:=Ybl.z;have s4:=Ybl.a 4 rfl;clear Ybl;refine WE ?_
  go_wp2
  refine bodyPost_ret (results_tmp rfl _ _ _) rfl ⟨?_,hB.trans (hx1.mono (by omega))⟩;rw [getD_of s4];rw [show s.norB c = decide ((s.A.length : Int) = 0) from by unfold Sta.norB;rw [e1,e2];rfl]
  rfl
 refine wp_cond_false ((ev s28 rfl).trans (congrArg Value.bool e2)) ?_;clear s28
 go_upto_region 5 with fail
 refine WL ?_;have Ybm:=((Rp.nil hz).cons s2).cons s3;clear hz s2 s3
 refine Ybm.t (.func (.func 127) #[] #[.pointer (some ⟨w.heap.size + 1,0,none⟩)]) (ex_mkf8 rfl (Ybm.f 3)) fun _ Ybn => ?_;clear Ybm
 refine Ybn.t _ (ex_assign rfl (Ybn.f 33)) fun _ Ybo => ?_;clear Ybn
 have hz:=Ybo.z;have s2:=Ybo.a 2 rfl;have s3:=Ybo.a 3 rfl;have s5:=Ybo.a 5 rfl;clear Ybo;refine WE ?_
 go_upto_region 6 with fail
 refine WL ?_;have Ybp:=(((Rp.nil hz).cons s2).cons s3).cons s5;clear hz s2 s3 s5
 refine Ybp.t _ (ex_fa rfl (Ybp.f 3) (faS7 _ _)) fun _ Ybq => ?_;clear Ybp
 refine Ybq.t _ (ex_ld rfl (Ybq.f 34) (ldI8 (cell8 (HS.cell 7 _ rfl) hx1))) fun _ Ybr => ?_;clear Ybq
 refine Ybr.t (.bool (decide (s.idle = 0))) (ex_bin rfl (Ybr.f 35) rfl (eqlC _ _ _ _ _)) fun _ Ybs => ?_;clear Ybr
 refine Ybs.t _ (ex_move rfl (Ybs.f 36)) fun _ Ybt => ?_;clear Ybs
 refine Ybt.g 37 rfl rfl _ (fun hc => ex_fa rfl (Ybt.f 3) (faS8 _ _)) fun Ybu Ybv => ?_;clear Ybt
 refine Ybv.g 37 rfl rfl _ (fun hc => ex_ld rfl (Ybv.v 38 hc) (ldK8 (cell8 (HS.cell 8 _ rfl) hx1))) fun Ybw Ybx => ?_;clear Ybv
 refine Ybx.g 37 rfl rfl _ (fun hc => ex_move rfl (Ybx.f 5)) fun Yby Ybz => ?_;clear Ybx
 refine vcall (true && ((decide (s.idle = 0)) == true)) (.bool (decide (0 ≤ ix (fun a => !inB a.p 1 (s.L.length : Int)) s.A))) (want_g rfl rfl (Ybz.a 37 rfl)) (fun hc => ex_call rfl (by simp only [LA,LB,LC,(Ybz.v 39 hc),(Ybz.v 40 hc),evc] <;> rfl) rfl) (fun hc => Ak.contains_any (fun a => !inB a.p 1 (s.L.length : Int)) 127 #[.pointer (some ⟨w.heap.size + 1,0,none⟩)] (enters_of Tryz.func127 (by kernel_rfl) rfl) s.A s.ka _ s.kc x1 (HI.a.later hx1) (fun W x hW => bel8 hW (beyond8 x s (w.heap.size + 1) W ((HS.bel hx1).bel hW)) hW.size)) rfl Ybz.z (by decide) (Ybz.kc fun Yb0 x2 hb Yb1 => ?_);clear Ybz;have hx2:=hx1.trans (hb.mono hx1.size);clear hb
 refine Yb1.g 37 rfl rfl (.bool (!(decide (0 ≤ ix (fun a => !inB a.p 1 (s.L.length : Int)) s.A)))) (fun hc => ex_not rfl (Yb1.v 41 hc)) fun Yb2 Yb3 => ?_;clear Yb1
 refine Yb3.t (.bool ((decide (s.idle = 0)) && (!(decide (0 ≤ ix (fun a => !inB a.p 1 (s.L.length : Int)) s.A))))) (ex_and rfl (Yb3.a 37 rfl) (Yb3.a 42 rfl) rfl) fun _ Yb4 => ?_;clear Yb3
 refine Yb4.t _ (ex_assign rfl (Yb4.f 43)) fun _ Yb5 => ?_;clear Yb4
 have hz:=Yb5.z;have s4:=Yb5.a 4 rfl;clear Yb5;refine WE ?_
 go_wp2
 refine bodyPost_ret (results_tmp rfl _ _ _) rfl ⟨?_,hB.trans (hx2.mono (by omega))⟩;rw [getD_of s4]
 unfold Sta.norB
 rw [e1,e2]
 rfl
theorem changing8 (c : Cg) (s : Sta) (w : World) (hI : s.In w) (hF : s.Fit) : Calls Tryz.prog 79 #[c.val,s.val] w fun e w' => e = .returned (.bool (s.chgB c))∧Below w.heap.size w w':=by
 go_enter Tryz.func79,Tryz.ntmps79
 go_upto_region 0 with fail
 refine WL ?_;refine vl_gen (fun T => T.size = 43∧T[0]? = some (gw true (c.val))∧T[1]? = some (gw true (s.val))) ⟨rfl,rfl,rfl⟩ (fun Z0 ⟨hz,s0,s1⟩ => ?_)
 obtain ⟨w1,hw1⟩ : ∃ y,y = w.alloc (.cells c.cs.toArray 23):=⟨_,rfl⟩
 have hb : Below w.heap.size w w1:=by rw [hw1];exact BR.alloc LR _
 have hs1 : w1.heap.size = w.heap.size + 1:=by rw [hw1];simp
 have HC : CB7 w1 (w.heap.size) c:=by rw [hw1];exact BX7.new _ _ _
 refine vw (.pointer (some ⟨w.heap.size,0,none⟩)) w1 WN (ex_box8 rfl (ev s0 rfl) (by rw [hw1];exact bxC7 _ _)) rfl hz (by decide) (fun Z1 zz kk s2x => ?_);replace s1:=ku s1;clear kk hz s0 hw1;have hz:=zz;have s2:=s2x;clear zz s2x;have hB:=hb;clear hb
 obtain ⟨w2,hw2⟩ : ∃ y,y = w1.alloc (.cells s.cs.toArray 33):=⟨_,rfl⟩
 have hb : Below w1.heap.size w1 w2:=by rw [hw2];exact BR.alloc LR _
 have hs2 : w2.heap.size = w.heap.size + 2:=by rw [hw2];simp;omega
 have HS : SB7 w2 (w.heap.size + 1) s:=by rw [hw2,← hs1];exact BX7.new _ _ _
 refine vw (.pointer (some ⟨w.heap.size + 1,0,none⟩)) w2 WN (ex_box8 rfl (ev s1 rfl) (by rw [hw2,← hs1];exact bxS7 _ _)) rfl hz (by decide) (fun Z2 zz kk s3x => ?_);replace s2:=ku s2;clear kk hz s1 hw2;have hz:=zz;have s3:=s3x;clear zz s3x;have hB:=hB.trans (hb.mono (by omega));have HC:=HC.bel hb;clear hb;have hv0 : Below w2.heap.size w2 w2:=BR;have HI:=hI.later hB;have f1:=hF.al;have f2:=hF.ml;have f3:=hF.bl;have f4:=hF.nl;have Ya:=((Rp.nil hz).cons s2).cons s3;clear hz s2 s3
 refine Ya.t (.bool false) (ex_assign rfl rfl) fun _ Yb => ?_;clear Ya
 have hz:=Yb.z;have s2:=Yb.a 2 rfl;have s3:=Yb.a 3 rfl;clear Yb;refine WE ?_
 go_upto_region 1 with fail
 refine WL ?_;have Yc:=((Rp.nil hz).cons s2).cons s3;clear hz s2 s3
 refine Yc.t _ (ex_fa rfl (Yc.f 3) (faS3 _ _)) fun _ Yd => ?_;clear Yc
 refine Yd.t _ (ex_ld rfl (Yd.f 6) (ldI8 (cell8 (HS.cell 3 _ rfl) hv0))) fun _ Ye => ?_;clear Yd
 refine Ye.t _ (ex_fa rfl (Ye.f 3) (faS2 _ _)) fun _ Yf => ?_;clear Ye
 refine Yf.t _ (ex_ld rfl (Yf.f 8) (ldI8 (cell8 (HS.cell 2 _ rfl) hv0))) fun _ Yg => ?_;clear Yf
 refine Yg.t (.bool (decide (s.last = s.view))) (ex_bin rfl (Yg.f 7) (Yg.f 9) (eqlC _ _ _ _ _)) fun _ Yh => ?_;clear Yg
 refine Yh.t _ (ex_move rfl (Yh.f 10)) fun _ Yi => ?_;clear Yh
 refine Yi.g 11 rfl rfl _ (fun hc => ex_fa rfl (Yi.f 3) (faS8 _ _)) fun Yj Yk => ?_;clear Yi
 refine Yk.g 11 rfl rfl _ (fun hc => ex_ld rfl (Yk.v 12 hc) (ldK8 (cell8 (HS.cell 8 _ rfl) hv0))) fun Yl Ym => ?_;clear Yk
 refine Ym.g 11 rfl rfl _ (fun hc => ex_lenK8 rfl rfl (Ym.v 13 hc)) fun Yn Yo => ?_;clear Ym
 refine Yo.g 11 rfl rfl _ (fun hc => ex_fa rfl (Yo.f 3) (faS11 _ _)) fun Yp Yq => ?_;clear Yo
 refine Yq.g 11 rfl rfl _ (fun hc => ex_ld rfl (Yq.v 15 hc) (ldN8 (cell8 (HS.cell 11 _ rfl) hv0))) fun Yr Ys => ?_;clear Yq
 refine Ys.g 11 rfl rfl _ (fun hc => ex_lenN8 rfl rfl (Ys.v 16 hc)) fun Yt Yu => ?_;clear Ys
 refine Yu.g 11 rfl rfl (.int .i64 ((s.A.length : Int) + (s.N.length : Int))) (fun hc => ex_bin rfl (Yu.v 14 hc) (Yu.v 17 hc) (addD8 _ _ (s.A.length : Int) (s.N.length : Int) ((s.A.length : Int) + (s.N.length : Int)) (by rw [IntKind.wrap_i64];omega) _)) fun Yv Yw => ?_;clear Yu
 refine Yw.g 11 rfl rfl (.bool (decide (0 < ((s.A.length : Int) + (s.N.length : Int))))) (fun hc => ex_bin rfl (Yw.v 18 hc) rfl (gtrC _ _ _ _ _)) fun Yx Yy => ?_;clear Yw
 refine Yy.t (.bool ((decide (s.last = s.view)) || (decide (0 < ((s.A.length : Int) + (s.N.length : Int)))))) (ex_or rfl (Yy.a 11 rfl) (Yy.a 19 rfl) rfl) fun _ Yz => ?_;clear Yy
 have hz:=Yz.z;have s2:=Yz.a 2 rfl;have s3:=Yz.a 3 rfl;have s20:=Yz.a 20 rfl;clear Yz;refine WE ?_
 go_upto_region 2 with fail
 cases e1 : ((decide (s.last = s.view)) || (decide (0 < ((s.A.length : Int) + (s.N.length : Int)))))
 rotate_left
 ·refine wp_cond_true ((ev s20 rfl).trans (congrArg Value.bool e1)) ?_
  go_upto_region 2 with fail
  refine WL ?_;have Y0:=(((Rp.nil hz).cons s2).cons s3).cons s20;clear hz s2 s3 s20
  refine Y0.t (.bool false) (ex_assign rfl rfl) fun _ Y1 => ?_;clear Y0
  have hz:=Y1.z;have s4:=Y1.a 4 rfl;clear Y1;refine WE ?_
  go_wp2
  refine bodyPost_ret (results_tmp rfl _ _ _) rfl ⟨?_,hB.trans (hv0.mono (by omega))⟩;rw [getD_of s4];rw [show s.chgB c = false from by unfold Sta.chgB;rw [e1];rfl]
  rfl
 refine wp_cond_false ((ev s20 rfl).trans (congrArg Value.bool e1)) ?_;clear s20
 go_upto_region 3 with fail
 refine WL ?_;have Y2:=((Rp.nil hz).cons s2).cons s3;clear hz s2 s3
 refine Y2.t _ (ex_ld rfl (Y2.f 2) (CB7.ld (HC.bel hv0))) fun _ Y3 => ?_;clear Y2
 refine Y3.t _ (ex_ld rfl (Y3.f 3) (SB7.ld (HS.bel hv0))) fun _ Y4 => ?_;clear Y3
 refine vcall true (.bool (decide (s.self = c.pr s.view))) WN (fun hc => ex_call rfl (by simp only [LA,LB,LC,(Y4.f 21),(Y4.f 22),evc] <;> rfl) rfl) (fun hc => isprimary8 c s w2) rfl Y4.z (by decide) (Y4.kc fun Y5 x1 hb Y6 => ?_);clear Y4;have hx1:=hv0.trans (hb.mono hv0.size);clear hb
 refine Y6.t (.bool (!(decide (s.self = c.pr s.view)))) (ex_not rfl (Y6.f 23)) fun _ Y7 => ?_;clear Y6
 have hz:=Y7.z;have s2:=Y7.a 2 rfl;have s3:=Y7.a 3 rfl;have s24:=Y7.a 24 rfl;clear Y7;refine WE ?_
 go_upto_region 4 with fail
 cases e2 : (!(decide (s.self = c.pr s.view)))
 rotate_left
 ·refine wp_cond_true ((ev s24 rfl).trans (congrArg Value.bool e2)) ?_
  go_upto_region 4 with fail
  refine WL ?_;have Y8:=(((Rp.nil hz).cons s2).cons s3).cons s24;clear hz s2 s3 s24
  refine Y8.t _ (ex_fa rfl (Y8.f 3) (faS10 _ _)) fun _ Y9 => ?_;clear Y8
  refine Y9.t _ (ex_ld rfl (Y9.f 25) (ldB8 (cell8 (HS.cell 10 _ rfl) hx1))) fun _ Yba => ?_;clear Y9
  refine Yba.t _ (ex_lenB8 rfl rfl (Yba.f 26)) fun _ Ybb => ?_;clear Yba
  refine Ybb.t (.bool (decide ((s.B.length : Int) = 0))) (ex_bin rfl (Ybb.f 27) rfl (eqlC _ _ _ _ _)) fun _ Ybc => ?_;clear Ybb
  refine Ybc.t _ (ex_assign rfl (Ybc.f 28)) fun _ Ybd => ?_;clear Ybc
  have hz:=Ybd.z;have s4:=Ybd.a 4 rfl;clear Ybd;refine WE ?_
  go_wp2
  refine bodyPost_ret (results_tmp rfl _ _ _) rfl ⟨?_,hB.trans (hx1.mono (by omega))⟩;rw [getD_of s4];rw [show s.chgB c = decide ((s.B.length : Int) = 0) from by unfold Sta.chgB;rw [e1,e2];rfl]
  rfl
 refine wp_cond_false ((ev s24 rfl).trans (congrArg Value.bool e2)) ?_;clear s24
 go_upto_region 5 with fail
 refine WL ?_;have Ybe:=((Rp.nil hz).cons s2).cons s3;clear hz s2 s3
 refine Ybe.t (.func (.func 129) #[] #[.pointer (some ⟨w.heap.size + 1,0,none⟩)]) (ex_mkf8 rfl (Ybe.f 3)) fun _ Ybf => ?_;clear Ybe
 refine Ybf.t _ (ex_assign rfl (Ybf.f 29)) fun _ Ybg => ?_;clear Ybf
 have hz:=Ybg.z;have s2:=Ybg.a 2 rfl;have s3:=Ybg.a 3 rfl;have s5:=Ybg.a 5 rfl;clear Ybg;refine WE ?_
 go_upto_region 6 with fail
 refine WL ?_;have Ybh:=(((Rp.nil hz).cons s2).cons s3).cons s5;clear hz s2 s3 s5
 refine Ybh.t _ (ex_fa rfl (Ybh.f 3) (faS10 _ _)) fun _ Ybi => ?_;clear Ybh
 refine Ybi.t _ (ex_ld rfl (Ybi.f 30) (ldB8 (cell8 (HS.cell 10 _ rfl) hx1))) fun _ Ybj => ?_;clear Ybi
 refine Ybj.t _ (ex_lenB8 rfl rfl (Ybj.f 31)) fun _ Ybk => ?_;clear Ybj
 refine Ybk.t _ (ex_fa rfl (Ybk.f 2) (faC0 _ _)) fun _ Ybl => ?_;clear Ybk
 refine Ybl.t _ (ex_ld rfl (Ybl.f 33) (ldI8 (cell8 (HC.cell 0 _ rfl) hx1))) fun _ Ybm => ?_;clear Ybl
 refine Ybm.t (.bool (decide ((s.B.length : Int) < c.F))) (ex_bin rfl (Ybm.f 32) (Ybm.f 34) (lssC _ _ _ _ _)) fun _ Ybn => ?_;clear Ybm
 refine Ybn.t _ (ex_move rfl (Ybn.f 35)) fun _ Ybo => ?_;clear Ybn
 refine Ybo.g 36 rfl rfl _ (fun hc => ex_fa rfl (Ybo.f 3) (faS10 _ _)) fun Ybp Ybq => ?_;clear Ybo
 refine Ybq.g 36 rfl rfl _ (fun hc => ex_ld rfl (Ybq.v 37 hc) (ldB8 (cell8 (HS.cell 10 _ rfl) hx1))) fun Ybr Ybs => ?_;clear Ybq
 refine Ybs.g 36 rfl rfl _ (fun hc => ex_move rfl (Ybs.f 5)) fun Ybt Ybu => ?_;clear Ybs
 refine vcall (true && ((decide ((s.B.length : Int) < c.F)) == true)) (.bool (decide (0 ≤ ix (fun b => decide (s.view ≤ b.v)) s.B))) (want_g rfl rfl (Ybu.a 36 rfl)) (fun hc => ex_call rfl (by simp only [LA,LB,LC,(Ybu.v 38 hc),(Ybu.v 39 hc),evc] <;> rfl) rfl) (fun hc => Bl.contains_any (fun b => decide (s.view ≤ b.v)) 129 #[.pointer (some ⟨w.heap.size + 1,0,none⟩)] (enters_of Tryz.func129 (by kernel_rfl) rfl) s.B s.ba _ s.bc x1 (HI.b.later hx1) (fun W x hW => bel8 hW (late8 x s (w.heap.size + 1) W ((HS.bel hx1).bel hW)) hW.size)) rfl Ybu.z (by decide) (Ybu.kc fun Ybv x2 hb Ybw => ?_);clear Ybu;have hx2:=hx1.trans (hb.mono hx1.size);clear hb
 refine Ybw.g 36 rfl rfl (.bool (!(decide (0 ≤ ix (fun b => decide (s.view ≤ b.v)) s.B)))) (fun hc => ex_not rfl (Ybw.v 40 hc)) fun Ybx Yby => ?_;clear Ybw
 refine Yby.t (.bool ((decide ((s.B.length : Int) < c.F)) && (!(decide (0 ≤ ix (fun b => decide (s.view ≤ b.v)) s.B))))) (ex_and rfl (Yby.a 36 rfl) (Yby.a 41 rfl) rfl) fun _ Ybz => ?_;clear Yby
 refine Ybz.t _ (ex_assign rfl (Ybz.f 42)) fun _ Yb0 => ?_;clear Ybz
 have hz:=Yb0.z;have s4:=Yb0.a 4 rfl;clear Yb0;refine WE ?_
 go_wp2
 refine bodyPost_ret (results_tmp rfl _ _ _) rfl ⟨?_,hB.trans (hx2.mono (by omega))⟩;rw [getD_of s4]
 unfold Sta.chgB
 rw [e1,e2]
 rfl
theorem keeps8 (c : Cg) (s : Sta) (w : World) (hI : s.In w) (hF : s.Fit) (hs : 0 ≤ s.self∧s.self < (s.V.length : Int)) : Calls Tryz.prog 48 #[c.val,s.val] w fun e w' => e = .returned (.bool (s.kpB c))∧Below w.heap.size w w':=by
 go_enter Tryz.func48,Tryz.ntmps48
 go_upto_region 0 with fail
 refine WL ?_;refine vl_gen (fun T => T.size = 21∧T[0]? = some (gw true (c.val))∧T[1]? = some (gw true (s.val))) ⟨rfl,rfl,rfl⟩ (fun Z0 ⟨hz,s0,s1⟩ => ?_)
 obtain ⟨w1,hw1⟩ : ∃ y,y = w.alloc (.cells c.cs.toArray 23):=⟨_,rfl⟩
 have hb : Below w.heap.size w w1:=by rw [hw1];exact BR.alloc LR _
 have hs1 : w1.heap.size = w.heap.size + 1:=by rw [hw1];simp
 have HC : CB7 w1 (w.heap.size) c:=by rw [hw1];exact BX7.new _ _ _
 refine vw (.pointer (some ⟨w.heap.size,0,none⟩)) w1 WN (ex_box8 rfl (ev s0 rfl) (by rw [hw1];exact bxC7 _ _)) rfl hz (by decide) (fun Z1 zz kk s2x => ?_);replace s1:=ku s1;clear kk hz s0 hw1;have hz:=zz;have s2:=s2x;clear zz s2x;have hB:=hb;clear hb
 obtain ⟨w2,hw2⟩ : ∃ y,y = w1.alloc (.cells s.cs.toArray 33):=⟨_,rfl⟩
 have hb : Below w1.heap.size w1 w2:=by rw [hw2];exact BR.alloc LR _
 have hs2 : w2.heap.size = w.heap.size + 2:=by rw [hw2];simp;omega
 have HS : SB7 w2 (w.heap.size + 1) s:=by rw [hw2,← hs1];exact BX7.new _ _ _
 refine vw (.pointer (some ⟨w.heap.size + 1,0,none⟩)) w2 WN (ex_box8 rfl (ev s1 rfl) (by rw [hw2,← hs1];exact bxS7 _ _)) rfl hz (by decide) (fun Z2 zz kk s3x => ?_);replace s2:=ku s2;clear kk hz s1 hw2;have hz:=zz;have s3:=s3x;clear zz s3x;have hB:=hB.trans (hb.mono (by omega));have HC:=HC.bel hb;clear hb;have hv0 : Below w2.heap.size w2 w2:=BR;have HI:=hI.later hB;have f1:=hF.al;have f2:=hF.ml;have f3:=hF.bl;have f4:=hF.nl;have Ya:=((Rp.nil hz).cons s2).cons s3;clear hz s2 s3
 refine Ya.t (.bool false) (ex_assign rfl rfl) fun _ Yb => ?_;clear Ya
 have hz:=Yb.z;have s2:=Yb.a 2 rfl;have s3:=Yb.a 3 rfl;clear Yb;refine WE ?_
 go_upto_region 1 with fail
 refine WL ?_;have Yc:=((Rp.nil hz).cons s2).cons s3;clear hz s2 s3
 refine Yc.t _ (ex_fa rfl (Yc.f 3) (faS1 _ _)) fun _ Yd => ?_;clear Yc
 refine Yd.t _ (ex_ld rfl (Yd.f 5) (ldT8 (cell8 (HS.cell 1 _ rfl) hv0))) fun _ Ye => ?_;clear Yd
 have hz:=Ye.z;have s2:=Ye.a 2 rfl;have s3:=Ye.a 3 rfl;have s6:=Ye.a 6 rfl;clear Ye;refine WE ?_
 go_upto_region 2 with fail
 refine WL ?_;have Yf:=(((Rp.nil hz).cons s2).cons s3).cons s6;clear hz s2 s3 s6
 refine Yf.t (.bool (decide (s.st = 1))) (ex_bin rfl (Yf.f 6) rfl (eqlT8 _ _ _ _ _)) fun _ Yg => ?_;clear Yf
 refine Yg.t _ (ex_assign rfl (Yg.f 8)) fun _ Yh => ?_;clear Yg
 have hz:=Yh.z;have s2:=Yh.a 2 rfl;have s3:=Yh.a 3 rfl;have s6:=Yh.a 6 rfl;have s7:=Yh.a 7 rfl;clear Yh;refine WE ?_
 go_upto_region 3 with fail
 cases e1 : decide (s.st = 1)
 rotate_left
 ·refine wp_cond_true ((ev s7 rfl).trans (congrArg Value.bool e1)) ?_
  go_upto_region 3 with fail
  refine WL ?_;have Yi:=((((Rp.nil hz).cons s2).cons s3).cons s6).cons s7;clear hz s2 s3 s6 s7
  refine Yi.t _ (ex_ld rfl (Yi.f 2) (CB7.ld (HC.bel hv0))) fun _ Yj => ?_;clear Yi
  refine Yj.t _ (ex_ld rfl (Yj.f 3) (SB7.ld (HS.bel hv0))) fun _ Yk => ?_;clear Yj
  refine vcall true (.bool (s.norB c)) WN (fun hc => ex_call rfl (by simp only [LA,LB,LC,(Yk.f 9),(Yk.f 10),evc] <;> rfl) rfl) (fun hc => normal8 c s w2 (HI.later hv0) hF) rfl Yk.z (by decide) (Yk.kc fun Yl x1 hb Ym => ?_);clear Yk;have hx1:=hv0.trans (hb.mono hv0.size);clear hb
  refine Ym.t _ (ex_assign rfl (Ym.f 11)) fun _ Yn => ?_;clear Ym
  have hz:=Yn.z;have s4:=Yn.a 4 rfl;clear Yn;refine WE ?_
  go_wp2
  refine bodyPost_ret (results_tmp rfl _ _ _) rfl ⟨?_,hB.trans (hx1.mono (by omega))⟩;rw [getD_of s4]
  unfold Sta.kpB
  rw [e1]
  rfl
 refine wp_cond_false ((ev s7 rfl).trans (congrArg Value.bool e1)) ?_;clear s7
 go_upto_region 4 with fail
 refine WL ?_;have Yo:=(((Rp.nil hz).cons s2).cons s3).cons s6;clear hz s2 s3 s6
 refine Yo.t (.bool (decide (s.st = 2))) (ex_bin rfl (Yo.f 6) rfl (eqlT8 _ _ _ _ _)) fun _ Yp => ?_;clear Yo
 refine Yp.t _ (ex_assign rfl (Yp.f 13)) fun _ Yq => ?_;clear Yp
 have hz:=Yq.z;have s2:=Yq.a 2 rfl;have s3:=Yq.a 3 rfl;have s6:=Yq.a 6 rfl;have s12:=Yq.a 12 rfl;clear Yq;refine WE ?_
 go_upto_region 5 with fail
 cases e2 : decide (s.st = 2)
 rotate_left
 ·refine wp_cond_true ((ev s12 rfl).trans (congrArg Value.bool e2)) ?_
  go_upto_region 5 with fail
  refine WL ?_;have Yr:=((((Rp.nil hz).cons s2).cons s3).cons s6).cons s12;clear hz s2 s3 s6 s12
  refine Yr.t _ (ex_ld rfl (Yr.f 2) (CB7.ld (HC.bel hv0))) fun _ Ys => ?_;clear Yr
  refine Ys.t _ (ex_ld rfl (Ys.f 3) (SB7.ld (HS.bel hv0))) fun _ Yt => ?_;clear Ys
  refine vcall true (.bool (s.chgB c)) WN (fun hc => ex_call rfl (by simp only [LA,LB,LC,(Yt.f 14),(Yt.f 15),evc] <;> rfl) rfl) (fun hc => changing8 c s w2 (HI.later hv0) hF) rfl Yt.z (by decide) (Yt.kc fun Yu x2 hb Yv => ?_);clear Yt;have hx2:=hv0.trans (hb.mono hv0.size);clear hb
  refine Yv.t _ (ex_assign rfl (Yv.f 16)) fun _ Yw => ?_;clear Yv
  have hz:=Yw.z;have s4:=Yw.a 4 rfl;clear Yw;refine WE ?_
  go_wp2
  refine bodyPost_ret (results_tmp rfl _ _ _) rfl ⟨?_,hB.trans (hx2.mono (by omega))⟩;rw [getD_of s4]
  unfold Sta.kpB
  rw [e1,e2]
  rfl
 refine wp_cond_false ((ev s12 rfl).trans (congrArg Value.bool e2)) ?_;clear s12
 go_upto_region 6 with fail
 refine WL ?_;have Yx:=(((Rp.nil hz).cons s2).cons s3).cons s6;clear hz s2 s3 s6
 refine Yx.t (.bool (decide (s.st = 3))) (ex_bin rfl (Yx.f 6) rfl (eqlT8 _ _ _ _ _)) fun _ Yy => ?_;clear Yx
 refine Yy.t _ (ex_assign rfl (Yy.f 18)) fun _ Yz => ?_;clear Yy
 have hz:=Yz.z;have s2:=Yz.a 2 rfl;have s3:=Yz.a 3 rfl;have s6:=Yz.a 6 rfl;have s17:=Yz.a 17 rfl;clear Yz;refine WE ?_
 go_upto_region 7 with fail
 cases e3 : decide (s.st = 3)
 rotate_left
 ·refine wp_cond_true ((ev s17 rfl).trans (congrArg Value.bool e3)) ?_
  go_upto_region 7 with fail
  refine WL ?_;have Y0:=((((Rp.nil hz).cons s2).cons s3).cons s6).cons s17;clear hz s2 s3 s6 s17
  refine Y0.t _ (ex_ld rfl (Y0.f 3) (SB7.ld (HS.bel hv0))) fun _ Y1 => ?_;clear Y0
  refine vcall true (.bool s.recB) WN (fun hc => ex_call rfl (by simp only [LA,LB,LC,(Y1.f 19),evc] <;> rfl) rfl) (fun hc => recovering8 s w2 (HI.later hv0) hF hs) rfl Y1.z (by decide) (Y1.kc fun Y2 x3 hb Y3 => ?_);clear Y1;have hx3:=hv0.trans (hb.mono hv0.size);clear hb
  refine Y3.t _ (ex_assign rfl (Y3.f 20)) fun _ Y4 => ?_;clear Y3
  have hz:=Y4.z;have s4:=Y4.a 4 rfl;clear Y4;refine WE ?_
  go_wp2
  refine bodyPost_ret (results_tmp rfl _ _ _) rfl ⟨?_,hB.trans (hx3.mono (by omega))⟩;rw [getD_of s4]
  unfold Sta.kpB
  rw [e1,e2,e3]
  rfl
 refine wp_cond_false ((ev s17 rfl).trans (congrArg Value.bool e3)) ?_;clear s17
 go_upto_region 8 with fail
 refine WL ?_;have Y5:=(((Rp.nil hz).cons s2).cons s3).cons s6;clear hz s2 s3 s6
 refine Y5.t (.bool false) (ex_assign rfl rfl) fun _ Y6 => ?_;clear Y5
 have hz:=Y6.z;have s4:=Y6.a 4 rfl;clear Y6;refine WE ?_
 go_wp2
 refine bodyPost_ret (results_tmp rfl _ _ _) rfl ⟨?_,hB.trans (hv0.mono (by omega))⟩;rw [getD_of s4]
 unfold Sta.kpB
 rw [e1,e2,e3]
 rfl
theorem vh_store8 {ops : Array Oper} {o : Oper} {T : Array Value} {df : List Deferred} {w : World} {Q : Exit → Act → World → Prop} {S : World → Prop} {fuel : Nat} {listed : Array Bool} (i : Nat) (w' : World) (hi : ops[i]? = some o) (hr : Region.ready .any ops listed = [i])
  (hw : Region.wanted o (yielded ops T) = true) (he : (execOp (⟨T,df⟩ : Act).eval o).run Tryz.prog w = .ok .skip w') (hd : o.dst = none) (hS : S w')
  (hk : VH ops Q S fuel (listed.setIfInBounds i true) ⟨T,df⟩ w') : VH ops Q S (fuel + 1) listed ⟨T,df⟩ w:=by
 refine ⟨wpAnyH_all hr (by simp) (fun j hj => ?_)⟩
 obtain rfl : j = i:=by simpa using hj
 unfold wpOp
 rw [hi];simp only [hw,if_true];refine .inl ?_
 unfold Oper.wp
 rw [he,Oper.upon_skip];refine ⟨hS,?_⟩;rw [hd]
 exact hk.out
theorem vh_val8 {ops : Array Oper} {o : Oper} {T : Array Value} {df : List Deferred} {w : World} {Q : Exit → Act → World → Prop} {S : World → Prop} {fuel d n : Nat} {listed : Array Bool} (i : Nat) (V : Value) (w' : World) (hi : ops[i]? = some o) (hr : Region.ready .any ops listed = [i])
  (hw : Region.wanted o (yielded ops T) = true) (he : (execOp (⟨T,df⟩ : Act).eval o).run Tryz.prog w = .ok (.value V) w') (hd : o.dst = some d) (hz : T.size = n) (hn : d < n) (hS : S w')
  (hk : ∀ T' : Array Value,T'.size = n → (∀ j,j ≠ d → T'[j]? = T[j]?) → T'[d]? = some (gw true V) → VH ops Q S fuel (listed.setIfInBounds i true) ⟨T',df⟩ w') : VH ops Q S (fuel + 1) listed ⟨T,df⟩ w:=by
 refine ⟨wpAnyH_all hr (by simp) (fun j hj => ?_)⟩
 obtain rfl : j = i:=by simpa using hj
 unfold wpOp
 rw [hi];simp only [hw,if_true]
 unfold Oper.wp
 rw [he];simp only [Oper.upon];rw [hd]
 exact .inl ⟨hS,(hk (T.setIfInBounds d V) (by simp [hz]) (fun i hi => at_set_ne _ hi) (at_set _ (by omega))).out⟩
theorem ex_buildP {o : Oper} {ρ : Operand → Value} {s : TypeId} {ps : Array (Nat × Operand)} {P : Array (Nat × Value)} {V : Value} {w : World} (ho : o.op = .build s ps) (hp : ps.map (fun (i,x) => (i,ρ x)) = P) (hr : (Instr.build s P).run Tryz.prog w = .ok V w) : (execOp ρ o).run Tryz.prog w = .ok (.value V) w:=by
 unfold execOp
 simp only [ho,hp,Sem.run_bind,hr,Result.andThen_ok]
 rfl
def UQ8 (q : Nat) (w v : World) : Prop:=∃ u,Below w.heap.size w u∧Upd (fun k => k = q) u v
def nil4 : List Value:=[.slice none 0 0,.slice none 0 0,.slice none 0 0,.slice none 0 0]
theorem al4 (w : World) : (Instr.alloc 131 true (.tuple #[])).run Tryz.prog w = .ok (.pointer (some ⟨w.heap.size,0,none⟩)) (w.alloc (.cells nil4.toArray 131)):=by
 go_simp
 first | done | rfl
theorem bd4 (a0 a1 a2 a3 : Option Addr) (n0 n1 n2 n3 c0 c1 c2 c3 : Nat) (w : World) : (Instr.build 131 #[(0,.slice a0 n0 c0),(1,.slice a1 n1 c1),(2,.slice a2 n2 c2),(3,.slice a3 n3 c3)]).run Tryz.prog w = .ok (.agg #[.slice a0 n0 c0,.slice a1 n1 c1,.slice a2 n2 c2,.slice a3 n3 c3]) w:=by
 go_simp
def put4 (w : World) (q : Nat) (a b c d : Value) : World:=(((w.setCell ⟨q,0,none⟩ a).setCell ⟨q,1,none⟩ b).setCell ⟨q,2,none⟩ c).setCell ⟨q,3,none⟩ d
theorem put4_upd (w : World) (q : Nat) (a b c d : Value) : Upd (fun k => k = q) w (put4 w q a b c d) :=
 ((((Upd.refl (fun k => k = q) w).setCell (p:=⟨q,0,none⟩) (.inl rfl) _).setCell (p:=⟨q,1,none⟩) (.inl rfl) _).setCell (p:=⟨q,2,none⟩) (.inl rfl) _).setCell (p:=⟨q,3,none⟩) (.inl rfl) _
theorem BX7.put4 {w : World} {q : Nat} (h : BX7 w q nil4) (a b c d : Value) : BX7 (put4 w q a b c d) q [a,b,c,d] :=
 (((h.set (j:=0) (by simp [nil4]) a).set (j:=1) (by simp [nil4]) b).set (j:=2) (by simp [nil4]) c).set (j:=3) (by simp [nil4]) d
theorem st4 {w : World} {q : Nat} (h : BX7 w q nil4) (a b c d : Value) (ha : ∃ x n k,a = .slice x n k) (hb : ∃ x n k,b = .slice x n k) (hc : ∃ x n k,c = .slice x n k) (hd : ∃ x n k,d = .slice x n k) : (Instr.storeAt 131 (.pointer (some ⟨q,0,none⟩)) (.agg #[a,b,c,d])).run Tryz.prog w = .ok () (put4 w q a b c d):=by
 obtain ⟨a0,n0,k0,rfl⟩:=ha;obtain ⟨a1,n1,k1,rfl⟩:=hb;obtain ⟨a2,n2,k2,rfl⟩:=hc;obtain ⟨a3,n3,k3,rfl⟩:=hd;have c0:=h.cell 0 _ rfl;have c1:=h.cell 1 _ rfl;have c2:=h.cell 2 _ rfl;have c3:=h.cell 3 _ rfl;have f0:=h.free 0;have f1:=h.free 1;have f2:=h.free 2;have f3:=h.free 3
 unfold put4
 go_simp
 first | done | rfl
theorem voters8 (s : Sta) (w : World) (hI : s.In w) (hF : s.Fit) : Calls Tryz.prog 77 #[s.val] w fun e w' => ∃ g0 g1 g2 g3,e = .returned (.agg #[.slice (some ⟨g0,0,none⟩) s.A.length s.A.length,.slice (some ⟨g1,0,none⟩) s.M.length s.M.length,.slice (some ⟨g2,0,none⟩) s.B.length s.B.length,.slice (some ⟨g3,0,none⟩) s.N.length s.N.length])∧SlY ySt w' (some ⟨g0,0,none⟩) s.A.length s.A.length (s.A.map Ak.sm)∧SlY ySt w' (some ⟨g1,0,none⟩) s.M.length s.M.length (s.M.map Mk.sm)∧SlY ySt w' (some ⟨g2,0,none⟩) s.B.length s.B.length (s.B.map Bl.sm)∧SlY ySt w' (some ⟨g3,0,none⟩) s.N.length s.N.length (s.N.map An.sm)∧Below w.heap.size w w':=by
 go_enter Tryz.func77,Tryz.ntmps77
 go_upto_region 0 with fail
 refine WL ?_;refine vl_gen (fun T => T.size = 16∧T[0]? = some (gw true (s.val))) ⟨rfl,rfl⟩ (fun Z0 ⟨hz,s0⟩ => ?_)
 obtain ⟨w1,hw1⟩ : ∃ y,y = w.alloc (.cells s.cs.toArray 33):=⟨_,rfl⟩
 have hb : Below w.heap.size w w1:=by rw [hw1];exact BR.alloc LR _
 have hs1 : w1.heap.size = w.heap.size + 1:=by rw [hw1];simp
 have HS : SB7 w1 (w.heap.size) s:=by rw [hw1];exact BX7.new _ _ _
 refine vw (.pointer (some ⟨w.heap.size,0,none⟩)) w1 WN (ex_box8 rfl (ev s0 rfl) (by rw [hw1];exact bxS7 _ _)) rfl hz (by decide) (fun Z1 zz kk s1x => ?_);clear kk hz s0 hw1;have hz:=zz;have s1:=s1x;clear zz s1x;have hB:=hb;clear hb;have hv0 : Below w1.heap.size w1 w1:=BR
 obtain ⟨w2,hw2⟩ : ∃ y,y = w1.alloc (.cells nil4.toArray 131):=⟨_,rfl⟩
 have hb : Below w1.heap.size w1 w2:=by rw [hw2];exact BR.alloc LR _
 have HA : BX7 w2 (w.heap.size + 1) nil4:=by rw [hw2,← hs1];exact BX7.new _ _ _
 have Ya:=(Rp.nil hz).cons s1;clear hz s1;refine vw (.pointer (some ⟨w.heap.size + 1,0,none⟩)) w2 WN (ex_al rfl (by rw [hw2,← hs1];exact al4 _)) rfl Ya.z (by decide) (Ya.k fun Yb Yc => ?_);clear Ya;have hz:=Yc.z;have s1:=Yc.a 1 rfl;have s2:=Yc.a 2 rfl;clear Yc;refine WE ?_;have hB:=hB.trans (hb.mono (by omega));have HS:=HS.bel hb;have HI:=hI.later hB;have hS : Below w2.heap.size w2 w2.drew:=BR.drew;clear hv0 hb hw2;have hz2:=hB.size
 go_upto_region 1 with fail
 refine vh_start (fun v => Below w2.heap.size w2 v ∨ UQ8 (w.heap.size + 1) w2 v) (by kernel_rfl) ?_
 have HH : ∀ v,(Below w2.heap.size w2 v ∨ UQ8 (w.heap.size + 1) w2 v) → Upd (fun k => k = w.heap.size + 1) w2 v:=fun v h => h.elim (fun h => Upd.of_below h) (fun ⟨u,h1,h2⟩ => (Upd.of_below h1).trans h2)
 have Yd:=((Rp.nil hz).cons s1).cons s2;clear hz s1 s2
 refine Yd.h 0 rfl _ (fun v hv => ex_fa rfl (Yd.f 1) (faS8 _ _)) (.inl hS) fun Ye Yf => ?_;clear Yd
 refine Yf.h 1 rfl _ (fun v hv => ex_ld rfl (Yf.f 3) (ldK8 ((HS.upd (HH v hv) (by show ¬ w.heap.size = w.heap.size + 1;omega)).cell 8 _ rfl))) (.inl hS) fun Yg Yh => ?_;clear Yf
 refine Yh.h 3 rfl _ (fun v hv => ex_fa rfl (Yh.f 1) (faS9 _ _)) (.inl hS) fun Yi Yj => ?_;clear Yh
 refine Yj.h 4 rfl _ (fun v hv => ex_ld rfl (Yj.f 6) (ldM8 ((HS.upd (HH v hv) (by show ¬ w.heap.size = w.heap.size + 1;omega)).cell 9 _ rfl))) (.inl hS) fun Yk Yl => ?_;clear Yj
 refine Yl.h 6 rfl _ (fun v hv => ex_fa rfl (Yl.f 1) (faS10 _ _)) (.inl hS) fun Ym Yn => ?_;clear Yl
 refine Yn.h 7 rfl _ (fun v hv => ex_ld rfl (Yn.f 9) (ldB8 ((HS.upd (HH v hv) (by show ¬ w.heap.size = w.heap.size + 1;omega)).cell 10 _ rfl))) (.inl hS) fun Yo Yp => ?_;clear Yn
 refine Yp.h 9 rfl _ (fun v hv => ex_fa rfl (Yp.f 1) (faS11 _ _)) (.inl hS) fun Yq Yr => ?_;clear Yp
 refine Yr.h 10 rfl _ (fun v hv => ex_ld rfl (Yr.f 12) (ldN8 ((HS.upd (HH v hv) (by show ¬ w.heap.size = w.heap.size + 1;omega)).cell 11 _ rfl))) (.inl hS) fun Ys Yt => ?_;clear Yr
 refine Yt.w 2 rfl (ex_call rfl (by simp only [LA,LB,LC,(Yt.f 4),evc] <;> rfl) rfl) (Ak.stamps_any s.A s.ka _ s.kc w2.drew (HI.a.later hS) (by have:=hF.al;omega)) ?_;rintro e x1 ⟨rfl,o0,b0⟩;have hS:=hS.trans (b0.mono hS.size);have zq0:=hS.size;refine ⟨_,rfl,(.inl hS),Yt.k fun Yu Yv => ?_⟩;clear Yt;clear b0;refine Yv.w 5 rfl (ex_call rfl (by simp only [LA,LB,LC,(Yv.f 7),evc] <;> rfl) rfl) (Mk.stamps_any s.M s.ma _ s.mc x1 (HI.m.later hS) (by have:=hF.ml;omega)) ?_;rintro e x2 ⟨rfl,o1,b1⟩;have hS:=hS.trans (b1.mono hS.size);have zq1:=hS.size;have o0:=o0.grow b1;refine ⟨_,rfl,(.inl hS),Yv.k fun Yw Yx => ?_⟩;clear Yv;clear b1;refine Yx.w 8 rfl (ex_call rfl (by simp only [LA,LB,LC,(Yx.f 10),evc] <;> rfl) rfl) (Bl.stamps_any s.B s.ba _ s.bc x2 (HI.b.later hS) (by have:=hF.bl;omega)) ?_;rintro e x3 ⟨rfl,o2,b2⟩;have hS:=hS.trans (b2.mono hS.size);have zq2:=hS.size;have o0:=o0.grow b2;have o1:=o1.grow b2;refine ⟨_,rfl,(.inl hS),Yx.k fun Yy Yz => ?_⟩;clear Yx;clear b2;refine Yz.w 11 rfl (ex_call rfl (by simp only [LA,LB,LC,(Yz.f 13),evc] <;> rfl) rfl) (An.stamps_any s.N s.na _ s.nc x3 (HI.n.later hS) (by have:=hF.nl;omega)) ?_;rintro e x4 ⟨rfl,o3,b3⟩;have hS:=hS.trans (b3.mono hS.size);have zq3:=hS.size;have o0:=o0.grow b3;have o1:=o1.grow b3;have o2:=o2.grow b3;refine ⟨_,rfl,(.inl hS),Yz.k fun Y0 Y1 => ?_⟩;clear Yz;clear b3
 refine Y1.h 12 rfl (.agg #[.slice (some ⟨w2.drew.heap.size,0,none⟩) s.A.length s.A.length,.slice (some ⟨x1.heap.size,0,none⟩) s.M.length s.M.length,.slice (some ⟨x2.heap.size,0,none⟩) s.B.length s.B.length,.slice (some ⟨x3.heap.size,0,none⟩) s.N.length s.N.length]) (fun v hv => ex_buildP rfl (by simp only [LA,LB,LC,(Y1.f 5),(Y1.f 8),(Y1.f 11),(Y1.f 14)] <;> rfl) (bd4 _ _ _ _ _ _ _ _ _ _ _ _ _)) (.inl hS) fun Y2 Y3 => ?_;clear Y1
 refine vh_store8 13 (put4 x4 (w.heap.size + 1) (.slice (some ⟨w2.drew.heap.size,0,none⟩) s.A.length s.A.length) (.slice (some ⟨x1.heap.size,0,none⟩) s.M.length s.M.length) (.slice (some ⟨x2.heap.size,0,none⟩) s.B.length s.B.length) (.slice (some ⟨x3.heap.size,0,none⟩) s.N.length s.N.length)) rfl (by kernel_rfl) WN (ex_st rfl (Y3.f 2) (Y3.f 15) (st4 (HA.bel hS) _ _ _ _ ⟨_,_,_,rfl⟩ ⟨_,_,_,rfl⟩ ⟨_,_,_,rfl⟩ ⟨_,_,_,rfl⟩)) rfl (.inr ⟨_,hS,put4_upd _ _ _ _ _ _⟩) ?_;have hz:=Y3.z;have s2:=Y3.a 2 rfl;clear Y3;refine vh_done (by kernel_rfl) ?_;have HP:=(HA.bel hS).put4 (.slice (some ⟨w2.drew.heap.size,0,none⟩) s.A.length s.A.length) (.slice (some ⟨x1.heap.size,0,none⟩) s.M.length s.M.length) (.slice (some ⟨x2.heap.size,0,none⟩) s.B.length s.B.length) (.slice (some ⟨x3.heap.size,0,none⟩) s.N.length s.N.length);have UP:=put4_upd x4 (w.heap.size + 1) (.slice (some ⟨w2.drew.heap.size,0,none⟩) s.A.length s.A.length) (.slice (some ⟨x1.heap.size,0,none⟩) s.M.length s.M.length) (.slice (some ⟨x2.heap.size,0,none⟩) s.B.length s.B.length) (.slice (some ⟨x3.heap.size,0,none⟩) s.N.length s.N.length)
 obtain ⟨x5,hx5⟩ : ∃ v,v = (put4 x4 (w.heap.size + 1) (.slice (some ⟨w2.drew.heap.size,0,none⟩) s.A.length s.A.length) (.slice (some ⟨x1.heap.size,0,none⟩) s.M.length s.M.length) (.slice (some ⟨x2.heap.size,0,none⟩) s.B.length s.B.length) (.slice (some ⟨x3.heap.size,0,none⟩) s.N.length s.N.length)):=⟨_,rfl⟩
 rw [← hx5] at HP UP ⊢;clear hx5;have c0:=HP.cell 0 _ rfl;have c1:=HP.cell 1 _ rfl;have c2:=HP.cell 2 _ rfl;have c3:=HP.cell 3 _ rfl;have hz3:=hS.size;have hd : w2.drew.heap.size = w2.heap.size:=rfl;have hgt : w.heap.size + 1 < w2.heap.size:=HA.lt;have p0:=(o0.upd1 UP (fun k hk e => by have:=(o0.blk k hk).1;have:=hS.size;omega)).sl' kSt;have p1:=(o1.upd1 UP (fun k hk e => by have:=(o1.blk k hk).1;have:=hS.size;omega)).sl' kSt;have p2:=(o2.upd1 UP (fun k hk e => by have:=(o2.blk k hk).1;have:=hS.size;omega)).sl' kSt;have p3:=(o3.upd1 UP (fun k hk e => by have:=(o3.blk k hk).1;have:=hS.size;omega)).sl' kSt;have HB9:=hide ((hB.trans (hS.mono hz2)).trans (UP.below (by omega) (fun k hk => by omega)))
 go_wp2
 refine bodyPost_ret (v:=.agg #[.slice (some ⟨w2.drew.heap.size,0,none⟩) s.A.length s.A.length,.slice (some ⟨x1.heap.size,0,none⟩) s.M.length s.M.length,.slice (some ⟨x2.heap.size,0,none⟩) s.B.length s.B.length,.slice (some ⟨x3.heap.size,0,none⟩) s.N.length s.N.length]) (by simp [results,Tryz.results77,go_sem,s2,gw,c0,c1,c2,c3]) rfl ?_
 exact ⟨_,_,_,_,rfl,p0,p1,p2,p3,HB9.out⟩
end Go.Proofs.YtpcgnjpodnebpaaGreatDoor
