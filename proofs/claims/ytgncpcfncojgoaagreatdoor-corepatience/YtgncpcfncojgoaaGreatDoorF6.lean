import Derived.Shelf.Abstract
import Derived.Test.YtgncpcfncojgoaaGreatDoorF5
set_option maxRecDepth 100000
set_option linter.unusedVariables false
set_option linter.unusedSimpArgs false
namespace Go.Proofs.YtgncpcfncojgoaaGreatDoor
open Go.RowKit Go.Maps
open Classical
/-! Stamps lie as marks do. -/
def ySt : Lay Mk:=⟨217,216,3,24,Mk.cs,⟨0,0,0⟩⟩
theorem kSt : ySt.Ok:=⟨by decide,fun x => rfl,fun x u h => by
  simp [ySt,Mk.cs] at h
  rcases h with rfl | rfl | rfl <;> rfl,Tryz.underlying216,⟨.agg #[.int .i64 (⟨0,0,0⟩ : Mk).n,.int .u64 (⟨0,0,0⟩ : Mk).h,.int .u64 (⟨0,0,0⟩ : Mk).l],by kernel_rfl,rfl⟩⟩
def Ak.sm (x : Ak) : Mk:=⟨x.n,x.h,x.l⟩
theorem Ak.stamp_any (x : Ak) (w : World) : Calls Tryz.prog 206 #[x.val] w fun e w' => e = .returned (.agg #[.int .i64 x.n,.int .u64 x.h,.int .u64 x.l])∧Below w.heap.size w w':=by
 show Calls Tryz.prog 206 #[.agg #[.int .i64 x.n,.int .u64 x.h,.int .u64 x.l,.int .i64 x.p]] w _
 go_enter Tryz.func206,Tryz.ntmps206
 go_wp2
 refine bodyPost_ret (v:=.agg #[.int .i64 x.n,.int .u64 x.h,.int .u64 x.l]) (by simp [results,Tryz.results206,go_sem]) rfl ?_
 exact ⟨rfl,by (repeat (first | exact Below.refl _ _ | assumption | refine Below.drew ?_ | refine Below.alloc ?_ (by first | (simp;done) | (simp;omega) | omega) _ | refine Below.setCell ?_ (by first | (simp;done) | (simp;omega) | omega) _))⟩
set_option maxHeartbeats 1000000 in
theorem Ak.stamps_any (L : List Ak) (a : Option Addr) (n c : Nat) (w : World) (h : SlY yAkA w a n c L) (hb : n * 24 ≤ 281474976710656) :
  Calls Tryz.prog 205 #[.slice a n c,.func (.func 206) #[] #[]] w fun e w' => e = .returned (.slice (some ⟨w.heap.size,0,none⟩) n n)∧OwnY ySt w.heap.size w' (.slice (some ⟨w.heap.size,0,none⟩) n n) (L.map Ak.sm)∧Below w.heap.size w w':=by
 have hmx:=h.max;have hcp:=h.cap;have hln:=h.len
 unfold maxLen at hmx
 have H:=hide h;have HN:=hide hln;clear h hln
 go_enter Tryz.func205,Tryz.ntmps205
 go_wp2_with (at_make;go_must (refine makeYs kSt _ rfl (.tmp 9) rfl n rfl (by unfold maxLen;omega) hb ?zk))
 intro w1 o1 b1
 have HO : Hid (OwnY ySt w.heap.size w1 (.slice (some ⟨w.heap.size,0,none⟩) n n) ((L.map Ak.sm).take 0 ++ List.replicate (n - 0) ySt.z)):=by
  show OwnY _ _ _ _ _
  simpa using o1
 clear o1
 go_wp2
 go_loopw [13] (fun i wr => ∃ j : Nat,i = .int .i64 (j : Int)∧j ≤ n∧Hid (OwnY ySt w.heap.size wr (.slice (some ⟨w.heap.size,0,none⟩) n n) ((L.map Ak.sm).take j ++ List.replicate (n - j) ySt.z))∧Below w.heap.size w wr) (fun i _ => n - (intOf i).toNat)
 case atStart => exact ⟨0,rfl,Nat.zero_le _,HO,b1⟩
 case round =>
  obtain ⟨j,rfl,hj,hO,hbl⟩:=hrel;have hsz:=hbl.size
  by_cases hlt : j < n
  ·have hjl : j < L.length:=by rw [HN.out];exact hlt
   have hg0 : L[j]? = some L[j]:=List.getElem?_eq_getElem hjl
   have hg : (L.map Ak.sm)[j]? = some (L[j]).sm:=by rw [List.getElem?_map,hg0];rfl
   obtain ⟨q,o,rfl,hq,y0,y1,y2,y3⟩:=(H.out.later hbl).AkA hg0
   have hlt0 : w.heap.size < wr.heap.size:=by
    obtain ⟨_,_,ee,_,_,_,h4⟩:=hO.out.form
    injection ee with ee
    obtain ⟨g',e2,_,h5⟩:=h4 _ ee.symm
    cases e2
    exact h5
   have hset : Hid (((L.map Ak.sm).take j ++ List.replicate (n - j) ySt.z).set j (L[j]).sm = (L.map Ak.sm).take (j + 1) ++ List.replicate (n - (j + 1)) ySt.z):=by
    show _ = _
    have hl : ((L.map Ak.sm).take j).length = j:=by rw [List.length_take,List.length_map];omega
    rw [List.set_append_right _ _ (by omega),hl,Nat.sub_self,show n - j = (n - (j + 1)) + 1 by omega,List.replicate_succ,List.set_cons_zero,List.take_add_one,hg];simp only [Option.toList_some,List.append_assoc,List.cons_append,List.nil_append]
   have hget : Hid (((L.map Ak.sm).take j ++ List.replicate (n - j) ySt.z)[j]? = some ySt.z):=by
    show _ = _
    have hl : ((L.map Ak.sm).take j).length = j:=by rw [List.length_take,List.length_map];omega
    rw [List.getElem?_append_right (by omega),hl,Nat.sub_self,show n - j = (n - (j + 1)) + 1 by omega,List.replicate_succ]
    rfl
   clear hg hg0
   generalize L[j] = x at *
   generalize hX : (L.map Ak.sm).take j ++ List.replicate (n - j) ySt.z = XX at *
   clear hX;have bA:=hide (hbl.trans (((Below.refl _ wr).alloc (Nat.le_refl _) (.cells #[.int .i64 x.n,.int .u64 x.h,.int .u64 x.l,.int .i64 x.p] 110)).mono hsz));have OA:=hide (hO.out.alloc (.cells #[.int .i64 x.n,.int .u64 x.h,.int .u64 x.l,.int .i64 x.p] 110));have ca:=hide (x.stamp_any (wr.alloc (.cells #[.int .i64 x.n,.int .u64 x.h,.int .u64 x.l,.int .i64 x.p] 110)));clear hO
   go_wp2_with fail
   refine ca.out.mono ?_;rintro e w2 ⟨rfl,b2⟩;have O2:=hide (OA.out.grow b2);have z2:=b2.size;rw [World.size_alloc] at z2
   dsimp only
   go_wp2_with (first
    | (refine storeY kSt _ rfl 217 (.tmp 23) (.tmp 22) rfl w.heap.size w.heap.size n n XX j 0 ySt.z x.sm _ rfl rfl hget.out (by kernel_rfl) (by exact (by decide : 3 ≤ 3)) rfl O2.out ?_;intro w3 o3 u3 z3;have O3:=hide o3;clear o3)
    | go_in)
   go_round
   case rel =>
    refine ⟨j + 1,by go_num,by omega,by show OwnY _ _ _ _ _;rw [← hset.out];exact O3.out,bA.out.trans ((b2.mono (by simp;omega)).trans (u3.below (by omega) (fun k e => by subst e;exact Nat.le_refl _)))⟩
   case measure => simp [intOf];omega
  ·obtain rfl : j = n:=by omega
   have O9 : Hid (OwnY ySt w.heap.size wr (.slice (some ⟨w.heap.size,0,none⟩) j j) (L.map Ak.sm)):=by
    show OwnY _ _ _ _ _
    have:=hO.out;rw [Nat.sub_self,List.replicate_zero,List.append_nil,List.take_of_length_le (by rw [List.length_map,HN.out];exact Nat.le_refl _)] at this
    exact this
   clear hO
   go_wp2
   go_ret
   exact ⟨rfl,O9.out,hbl⟩
def Mk.sm (x : Mk) : Mk:=⟨x.n,x.h,x.l⟩
theorem Mk.stamp_any (x : Mk) (w : World) : Calls Tryz.prog 208 #[x.val] w fun e w' => e = .returned (.agg #[.int .i64 x.n,.int .u64 x.h,.int .u64 x.l])∧Below w.heap.size w w':=by
 show Calls Tryz.prog 208 #[.agg #[.int .i64 x.n,.int .u64 x.h,.int .u64 x.l]] w _
 go_enter Tryz.func208,Tryz.ntmps208
 go_wp2
 refine bodyPost_ret (v:=.agg #[.int .i64 x.n,.int .u64 x.h,.int .u64 x.l]) (by simp [results,Tryz.results208,go_sem]) rfl ?_
 exact ⟨rfl,by (repeat (first | exact Below.refl _ _ | assumption | refine Below.drew ?_ | refine Below.alloc ?_ (by first | (simp;done) | (simp;omega) | omega) _ | refine Below.setCell ?_ (by first | (simp;done) | (simp;omega) | omega) _))⟩
set_option maxHeartbeats 1000000 in
theorem Mk.stamps_any (L : List Mk) (a : Option Addr) (n c : Nat) (w : World) (h : SlY yMkA w a n c L) (hb : n * 24 ≤ 281474976710656) :
  Calls Tryz.prog 207 #[.slice a n c,.func (.func 208) #[] #[]] w fun e w' => e = .returned (.slice (some ⟨w.heap.size,0,none⟩) n n)∧OwnY ySt w.heap.size w' (.slice (some ⟨w.heap.size,0,none⟩) n n) (L.map Mk.sm)∧Below w.heap.size w w':=by
 have hmx:=h.max;have hcp:=h.cap;have hln:=h.len
 unfold maxLen at hmx
 have H:=hide h;have HN:=hide hln;clear h hln
 go_enter Tryz.func207,Tryz.ntmps207
 go_wp2_with (at_make;go_must (refine makeYs kSt _ rfl (.tmp 9) rfl n rfl (by unfold maxLen;omega) hb ?zk))
 intro w1 o1 b1
 have HO : Hid (OwnY ySt w.heap.size w1 (.slice (some ⟨w.heap.size,0,none⟩) n n) ((L.map Mk.sm).take 0 ++ List.replicate (n - 0) ySt.z)):=by
  show OwnY _ _ _ _ _
  simpa using o1
 clear o1
 go_wp2
 go_loopw [13] (fun i wr => ∃ j : Nat,i = .int .i64 (j : Int)∧j ≤ n∧Hid (OwnY ySt w.heap.size wr (.slice (some ⟨w.heap.size,0,none⟩) n n) ((L.map Mk.sm).take j ++ List.replicate (n - j) ySt.z))∧Below w.heap.size w wr) (fun i _ => n - (intOf i).toNat)
 case atStart => exact ⟨0,rfl,Nat.zero_le _,HO,b1⟩
 case round =>
  obtain ⟨j,rfl,hj,hO,hbl⟩:=hrel;have hsz:=hbl.size
  by_cases hlt : j < n
  ·have hjl : j < L.length:=by rw [HN.out];exact hlt
   have hg0 : L[j]? = some L[j]:=List.getElem?_eq_getElem hjl
   have hg : (L.map Mk.sm)[j]? = some (L[j]).sm:=by rw [List.getElem?_map,hg0];rfl
   obtain ⟨q,o,rfl,hq,y0,y1,y2⟩:=(H.out.later hbl).MkA hg0
   have hlt0 : w.heap.size < wr.heap.size:=by
    obtain ⟨_,_,ee,_,_,_,h4⟩:=hO.out.form
    injection ee with ee
    obtain ⟨g',e2,_,h5⟩:=h4 _ ee.symm
    cases e2
    exact h5
   have hset : Hid (((L.map Mk.sm).take j ++ List.replicate (n - j) ySt.z).set j (L[j]).sm = (L.map Mk.sm).take (j + 1) ++ List.replicate (n - (j + 1)) ySt.z):=by
    show _ = _
    have hl : ((L.map Mk.sm).take j).length = j:=by rw [List.length_take,List.length_map];omega
    rw [List.set_append_right _ _ (by omega),hl,Nat.sub_self,show n - j = (n - (j + 1)) + 1 by omega,List.replicate_succ,List.set_cons_zero,List.take_add_one,hg];simp only [Option.toList_some,List.append_assoc,List.cons_append,List.nil_append]
   have hget : Hid (((L.map Mk.sm).take j ++ List.replicate (n - j) ySt.z)[j]? = some ySt.z):=by
    show _ = _
    have hl : ((L.map Mk.sm).take j).length = j:=by rw [List.length_take,List.length_map];omega
    rw [List.getElem?_append_right (by omega),hl,Nat.sub_self,show n - j = (n - (j + 1)) + 1 by omega,List.replicate_succ]
    rfl
   clear hg hg0
   generalize L[j] = x at *
   generalize hX : (L.map Mk.sm).take j ++ List.replicate (n - j) ySt.z = XX at *
   clear hX;have bA:=hide (hbl.trans (((Below.refl _ wr).alloc (Nat.le_refl _) (.cells #[.int .i64 x.n,.int .u64 x.h,.int .u64 x.l] 112)).mono hsz));have OA:=hide (hO.out.alloc (.cells #[.int .i64 x.n,.int .u64 x.h,.int .u64 x.l] 112));have ca:=hide (x.stamp_any (wr.alloc (.cells #[.int .i64 x.n,.int .u64 x.h,.int .u64 x.l] 112)));clear hO
   go_wp2_with fail
   refine ca.out.mono ?_;rintro e w2 ⟨rfl,b2⟩;have O2:=hide (OA.out.grow b2);have z2:=b2.size;rw [World.size_alloc] at z2
   dsimp only
   go_wp2_with (first
    | (refine storeY kSt _ rfl 217 (.tmp 23) (.tmp 22) rfl w.heap.size w.heap.size n n XX j 0 ySt.z x.sm _ rfl rfl hget.out (by kernel_rfl) (by exact (by decide : 3 ≤ 3)) rfl O2.out ?_;intro w3 o3 u3 z3;have O3:=hide o3;clear o3)
    | go_in)
   go_round
   case rel =>
    refine ⟨j + 1,by go_num,by omega,by show OwnY _ _ _ _ _;rw [← hset.out];exact O3.out,bA.out.trans ((b2.mono (by simp;omega)).trans (u3.below (by omega) (fun k e => by subst e;exact Nat.le_refl _)))⟩
   case measure => simp [intOf];omega
  ·obtain rfl : j = n:=by omega
   have O9 : Hid (OwnY ySt w.heap.size wr (.slice (some ⟨w.heap.size,0,none⟩) j j) (L.map Mk.sm)):=by
    show OwnY _ _ _ _ _
    have:=hO.out;rw [Nat.sub_self,List.replicate_zero,List.append_nil,List.take_of_length_le (by rw [List.length_map,HN.out];exact Nat.le_refl _)] at this
    exact this
   clear hO
   go_wp2
   go_ret
   exact ⟨rfl,O9.out,hbl⟩
def Bl.sm (x : Bl) : Mk:=⟨x.n,x.h,x.l⟩
theorem Bl.stamp_any (x : Bl) (w : World) : Calls Tryz.prog 210 #[x.val] w fun e w' => e = .returned (.agg #[.int .i64 x.n,.int .u64 x.h,.int .u64 x.l])∧Below w.heap.size w w':=by
 show Calls Tryz.prog 210 #[.agg #[.int .i64 x.n,.int .u64 x.h,.int .u64 x.l,.int .i64 x.v,.int .i64 x.c,.slice x.s.a x.s.D.length x.s.c]] w _
 go_enter Tryz.func210,Tryz.ntmps210
 go_wp2
 refine bodyPost_ret (v:=.agg #[.int .i64 x.n,.int .u64 x.h,.int .u64 x.l]) (by simp [results,Tryz.results210,go_sem]) rfl ?_
 exact ⟨rfl,by (repeat (first | exact Below.refl _ _ | assumption | refine Below.drew ?_ | refine Below.alloc ?_ (by first | (simp;done) | (simp;omega) | omega) _ | refine Below.setCell ?_ (by first | (simp;done) | (simp;omega) | omega) _))⟩
set_option maxHeartbeats 1000000 in
theorem Bl.stamps_any (L : List Bl) (a : Option Addr) (n c : Nat) (w : World) (h : SlY yBlA w a n c L) (hb : n * 24 ≤ 281474976710656) :
  Calls Tryz.prog 209 #[.slice a n c,.func (.func 210) #[] #[]] w fun e w' => e = .returned (.slice (some ⟨w.heap.size,0,none⟩) n n)∧OwnY ySt w.heap.size w' (.slice (some ⟨w.heap.size,0,none⟩) n n) (L.map Bl.sm)∧Below w.heap.size w w':=by
 have hmx:=h.max;have hcp:=h.cap;have hln:=h.len
 unfold maxLen at hmx
 have H:=hide h;have HN:=hide hln;clear h hln
 go_enter Tryz.func209,Tryz.ntmps209
 go_wp2_with (at_make;go_must (refine makeYs kSt _ rfl (.tmp 9) rfl n rfl (by unfold maxLen;omega) hb ?zk))
 intro w1 o1 b1
 have HO : Hid (OwnY ySt w.heap.size w1 (.slice (some ⟨w.heap.size,0,none⟩) n n) ((L.map Bl.sm).take 0 ++ List.replicate (n - 0) ySt.z)):=by
  show OwnY _ _ _ _ _
  simpa using o1
 clear o1
 go_wp2
 go_loopw [13] (fun i wr => ∃ j : Nat,i = .int .i64 (j : Int)∧j ≤ n∧Hid (OwnY ySt w.heap.size wr (.slice (some ⟨w.heap.size,0,none⟩) n n) ((L.map Bl.sm).take j ++ List.replicate (n - j) ySt.z))∧Below w.heap.size w wr) (fun i _ => n - (intOf i).toNat)
 case atStart => exact ⟨0,rfl,Nat.zero_le _,HO,b1⟩
 case round =>
  obtain ⟨j,rfl,hj,hO,hbl⟩:=hrel;have hsz:=hbl.size
  by_cases hlt : j < n
  ·have hjl : j < L.length:=by rw [HN.out];exact hlt
   have hg0 : L[j]? = some L[j]:=List.getElem?_eq_getElem hjl
   have hg : (L.map Bl.sm)[j]? = some (L[j]).sm:=by rw [List.getElem?_map,hg0];rfl
   obtain ⟨q,o,rfl,hq,y0,y1,y2,y3,y4,y5⟩:=(H.out.later hbl).BlA hg0
   have hlt0 : w.heap.size < wr.heap.size:=by
    obtain ⟨_,_,ee,_,_,_,h4⟩:=hO.out.form
    injection ee with ee
    obtain ⟨g',e2,_,h5⟩:=h4 _ ee.symm
    cases e2
    exact h5
   have hset : Hid (((L.map Bl.sm).take j ++ List.replicate (n - j) ySt.z).set j (L[j]).sm = (L.map Bl.sm).take (j + 1) ++ List.replicate (n - (j + 1)) ySt.z):=by
    show _ = _
    have hl : ((L.map Bl.sm).take j).length = j:=by rw [List.length_take,List.length_map];omega
    rw [List.set_append_right _ _ (by omega),hl,Nat.sub_self,show n - j = (n - (j + 1)) + 1 by omega,List.replicate_succ,List.set_cons_zero,List.take_add_one,hg];simp only [Option.toList_some,List.append_assoc,List.cons_append,List.nil_append]
   have hget : Hid (((L.map Bl.sm).take j ++ List.replicate (n - j) ySt.z)[j]? = some ySt.z):=by
    show _ = _
    have hl : ((L.map Bl.sm).take j).length = j:=by rw [List.length_take,List.length_map];omega
    rw [List.getElem?_append_right (by omega),hl,Nat.sub_self,show n - j = (n - (j + 1)) + 1 by omega,List.replicate_succ]
    rfl
   clear hg hg0
   generalize L[j] = x at *
   generalize hX : (L.map Bl.sm).take j ++ List.replicate (n - j) ySt.z = XX at *
   clear hX;have bA:=hide (hbl.trans (((Below.refl _ wr).alloc (Nat.le_refl _) (.cells #[.int .i64 x.n,.int .u64 x.h,.int .u64 x.l,.int .i64 x.v,.int .i64 x.c,.slice x.s.a x.s.D.length x.s.c] 114)).mono hsz));have OA:=hide (hO.out.alloc (.cells #[.int .i64 x.n,.int .u64 x.h,.int .u64 x.l,.int .i64 x.v,.int .i64 x.c,.slice x.s.a x.s.D.length x.s.c] 114));have ca:=hide (x.stamp_any (wr.alloc (.cells #[.int .i64 x.n,.int .u64 x.h,.int .u64 x.l,.int .i64 x.v,.int .i64 x.c,.slice x.s.a x.s.D.length x.s.c] 114)));clear hO
   go_wp2_with fail
   refine ca.out.mono ?_;rintro e w2 ⟨rfl,b2⟩;have O2:=hide (OA.out.grow b2);have z2:=b2.size;rw [World.size_alloc] at z2
   dsimp only
   go_wp2_with (first
    | (refine storeY kSt _ rfl 217 (.tmp 23) (.tmp 22) rfl w.heap.size w.heap.size n n XX j 0 ySt.z x.sm _ rfl rfl hget.out (by kernel_rfl) (by exact (by decide : 3 ≤ 3)) rfl O2.out ?_;intro w3 o3 u3 z3;have O3:=hide o3;clear o3)
    | go_in)
   go_round
   case rel =>
    refine ⟨j + 1,by go_num,by omega,by show OwnY _ _ _ _ _;rw [← hset.out];exact O3.out,bA.out.trans ((b2.mono (by simp;omega)).trans (u3.below (by omega) (fun k e => by subst e;exact Nat.le_refl _)))⟩
   case measure => simp [intOf];omega
  ·obtain rfl : j = n:=by omega
   have O9 : Hid (OwnY ySt w.heap.size wr (.slice (some ⟨w.heap.size,0,none⟩) j j) (L.map Bl.sm)):=by
    show OwnY _ _ _ _ _
    have:=hO.out;rw [Nat.sub_self,List.replicate_zero,List.append_nil,List.take_of_length_le (by rw [List.length_map,HN.out];exact Nat.le_refl _)] at this
    exact this
   clear hO
   go_wp2
   go_ret
   exact ⟨rfl,O9.out,hbl⟩
def An.sm (x : An) : Mk:=⟨x.n,x.h,x.l⟩
theorem An.stamp_any (x : An) (w : World) : Calls Tryz.prog 212 #[x.val] w fun e w' => e = .returned (.agg #[.int .i64 x.n,.int .u64 x.h,.int .u64 x.l])∧Below w.heap.size w w':=by
 show Calls Tryz.prog 212 #[.agg #[.int .i64 x.n,.int .u64 x.h,.int .u64 x.l,.int .i64 x.v,.int .i64 x.c,.slice x.s.a x.s.D.length x.s.c]] w _
 go_enter Tryz.func212,Tryz.ntmps212
 go_wp2
 refine bodyPost_ret (v:=.agg #[.int .i64 x.n,.int .u64 x.h,.int .u64 x.l]) (by simp [results,Tryz.results212,go_sem]) rfl ?_
 exact ⟨rfl,by (repeat (first | exact Below.refl _ _ | assumption | refine Below.drew ?_ | refine Below.alloc ?_ (by first | (simp;done) | (simp;omega) | omega) _ | refine Below.setCell ?_ (by first | (simp;done) | (simp;omega) | omega) _))⟩
set_option maxHeartbeats 1000000 in
theorem An.stamps_any (L : List An) (a : Option Addr) (n c : Nat) (w : World) (h : SlY yAnA w a n c L) (hb : n * 24 ≤ 281474976710656) :
  Calls Tryz.prog 211 #[.slice a n c,.func (.func 212) #[] #[]] w fun e w' => e = .returned (.slice (some ⟨w.heap.size,0,none⟩) n n)∧OwnY ySt w.heap.size w' (.slice (some ⟨w.heap.size,0,none⟩) n n) (L.map An.sm)∧Below w.heap.size w w':=by
 have hmx:=h.max;have hcp:=h.cap;have hln:=h.len
 unfold maxLen at hmx
 have H:=hide h;have HN:=hide hln;clear h hln
 go_enter Tryz.func211,Tryz.ntmps211
 go_wp2_with (at_make;go_must (refine makeYs kSt _ rfl (.tmp 9) rfl n rfl (by unfold maxLen;omega) hb ?zk))
 intro w1 o1 b1
 have HO : Hid (OwnY ySt w.heap.size w1 (.slice (some ⟨w.heap.size,0,none⟩) n n) ((L.map An.sm).take 0 ++ List.replicate (n - 0) ySt.z)):=by
  show OwnY _ _ _ _ _
  simpa using o1
 clear o1
 go_wp2
 go_loopw [13] (fun i wr => ∃ j : Nat,i = .int .i64 (j : Int)∧j ≤ n∧Hid (OwnY ySt w.heap.size wr (.slice (some ⟨w.heap.size,0,none⟩) n n) ((L.map An.sm).take j ++ List.replicate (n - j) ySt.z))∧Below w.heap.size w wr) (fun i _ => n - (intOf i).toNat)
 case atStart => exact ⟨0,rfl,Nat.zero_le _,HO,b1⟩
 case round =>
  obtain ⟨j,rfl,hj,hO,hbl⟩:=hrel;have hsz:=hbl.size
  by_cases hlt : j < n
  ·have hjl : j < L.length:=by rw [HN.out];exact hlt
   have hg0 : L[j]? = some L[j]:=List.getElem?_eq_getElem hjl
   have hg : (L.map An.sm)[j]? = some (L[j]).sm:=by rw [List.getElem?_map,hg0];rfl
   obtain ⟨q,o,rfl,hq,y0,y1,y2,y3,y4,y5⟩:=(H.out.later hbl).AnA hg0
   have hlt0 : w.heap.size < wr.heap.size:=by
    obtain ⟨_,_,ee,_,_,_,h4⟩:=hO.out.form
    injection ee with ee
    obtain ⟨g',e2,_,h5⟩:=h4 _ ee.symm
    cases e2
    exact h5
   have hset : Hid (((L.map An.sm).take j ++ List.replicate (n - j) ySt.z).set j (L[j]).sm = (L.map An.sm).take (j + 1) ++ List.replicate (n - (j + 1)) ySt.z):=by
    show _ = _
    have hl : ((L.map An.sm).take j).length = j:=by rw [List.length_take,List.length_map];omega
    rw [List.set_append_right _ _ (by omega),hl,Nat.sub_self,show n - j = (n - (j + 1)) + 1 by omega,List.replicate_succ,List.set_cons_zero,List.take_add_one,hg];simp only [Option.toList_some,List.append_assoc,List.cons_append,List.nil_append]
   have hget : Hid (((L.map An.sm).take j ++ List.replicate (n - j) ySt.z)[j]? = some ySt.z):=by
    show _ = _
    have hl : ((L.map An.sm).take j).length = j:=by rw [List.length_take,List.length_map];omega
    rw [List.getElem?_append_right (by omega),hl,Nat.sub_self,show n - j = (n - (j + 1)) + 1 by omega,List.replicate_succ]
    rfl
   clear hg hg0
   generalize L[j] = x at *
   generalize hX : (L.map An.sm).take j ++ List.replicate (n - j) ySt.z = XX at *
   clear hX;have bA:=hide (hbl.trans (((Below.refl _ wr).alloc (Nat.le_refl _) (.cells #[.int .i64 x.n,.int .u64 x.h,.int .u64 x.l,.int .i64 x.v,.int .i64 x.c,.slice x.s.a x.s.D.length x.s.c] 116)).mono hsz));have OA:=hide (hO.out.alloc (.cells #[.int .i64 x.n,.int .u64 x.h,.int .u64 x.l,.int .i64 x.v,.int .i64 x.c,.slice x.s.a x.s.D.length x.s.c] 116));have ca:=hide (x.stamp_any (wr.alloc (.cells #[.int .i64 x.n,.int .u64 x.h,.int .u64 x.l,.int .i64 x.v,.int .i64 x.c,.slice x.s.a x.s.D.length x.s.c] 116)));clear hO
   go_wp2_with fail
   refine ca.out.mono ?_;rintro e w2 ⟨rfl,b2⟩;have O2:=hide (OA.out.grow b2);have z2:=b2.size;rw [World.size_alloc] at z2
   dsimp only
   go_wp2_with (first
    | (refine storeY kSt _ rfl 217 (.tmp 23) (.tmp 22) rfl w.heap.size w.heap.size n n XX j 0 ySt.z x.sm _ rfl rfl hget.out (by kernel_rfl) (by exact (by decide : 3 ≤ 3)) rfl O2.out ?_;intro w3 o3 u3 z3;have O3:=hide o3;clear o3)
    | go_in)
   go_round
   case rel =>
    refine ⟨j + 1,by go_num,by omega,by show OwnY _ _ _ _ _;rw [← hset.out];exact O3.out,bA.out.trans ((b2.mono (by simp;omega)).trans (u3.below (by omega) (fun k e => by subst e;exact Nat.le_refl _)))⟩
   case measure => simp [intOf];omega
  ·obtain rfl : j = n:=by omega
   have O9 : Hid (OwnY ySt w.heap.size wr (.slice (some ⟨w.heap.size,0,none⟩) j j) (L.map An.sm)):=by
    show OwnY _ _ _ _ _
    have:=hO.out;rw [Nat.sub_self,List.replicate_zero,List.append_nil,List.take_of_length_le (by rw [List.length_map,HN.out];exact Nat.le_refl _)] at this
    exact this
   clear hO
   go_wp2
   go_ret
   exact ⟨rfl,O9.out,hbl⟩
set_option maxHeartbeats 1000000 in
theorem Ak.indexA_any (p : Ak → Bool) (g : Nat) (lb : Array Value) (eg : ∀ args w,(callFunc g args).run Tryz.prog w = .ok (.enter g args) w) (L : List Ak) (a : Option Addr) (n c : Nat) (w : World) (h : SlY yAkA w a n c L)
  (hp : ∀ (W : World) (x : Ak),Below w.heap.size w W → Calls Tryz.prog g (#[x.val] ++ lb) W fun e w' => e = .returned (.bool (p x))∧Below w.heap.size w w') :
  Calls Tryz.prog 235 #[.slice a n c,.func (.func g) #[] lb] w fun e w' => e = .returned (.int .i64 (ix p L))∧Below w.heap.size w w':=by
 have hmx:=h.max;have hcp:=h.cap;have hln:=h.len
 unfold maxLen at hmx
 have H:=hide h;have HN:=hide hln;have HP:=hide hp;clear h hln hp
 go_enter Tryz.func235,Tryz.ntmps235
 go_wp2
 go_loopw [8] (fun i wr => ∃ j : Nat,i = .int .i64 (j : Int)∧j ≤ n∧Hid (∀ k (hk : k < L.length),k < j → p L[k] = false)∧Below w.heap.size w wr) (fun i _ => n - (intOf i).toNat)
 case atStart => exact ⟨0,rfl,Nat.zero_le _,fun k hk h => absurd h (Nat.not_lt_zero _),Below.refl _ _⟩
 case round =>
  obtain ⟨j,rfl,hj,hA,hbl⟩:=hrel;have hsz:=hbl.size
  by_cases hlt : j < n
  ·have hjl : j < L.length:=by rw [HN.out];exact hlt
   have hg : L[j]? = some L[j]:=List.getElem?_eq_getElem hjl;obtain ⟨q,o,rfl,hq,y0,y1,y2,y3⟩:=(H.out.later hbl).AkA hg;have hcall:=HP.out wr L[j] hbl
   have hH : Hid (p L[j] = true → ix p L = (j : Int)):=fun hp => ix_hit hjl hp (fun k hk => hA.out k (by omega) hk)
   have hS : Hid (p L[j] = false → ∀ k (hk : k < L.length),k < j + 1 → p L[k] = false):=fun hp k hk hkj => by
    by_cases e : k = j
    ·subst e;exact hp
    ·exact hA.out k hk (by omega)
   clear hA hg
   generalize L[j] = x at *
   unfold Ak.val at hcall
   cases hq2 : p x with
   | true =>
    have hx:=hide (hH.out hq2);rw [hq2] at hcall;clear hH hS
    go_wp2_with (go_at_fn g;refine hcall.mono ?_;rintro e w' ⟨rfl,hb'⟩)
    go_ret
    exact ⟨by rw [hx.out];rfl,hb'⟩
   | false =>
    have hx:=hide (hS.out hq2);rw [hq2] at hcall;clear hH hS
    go_wp2_with (go_at_fn g;refine hcall.mono ?_;rintro e w' ⟨rfl,hb'⟩)
    go_round
    case rel => exact ⟨j + 1,by go_num,by omega,hx,hb'⟩
    case measure => simp [intOf];omega
  ·obtain rfl : j = n:=by omega
   have hx : Hid (ix p L = -1):=ix_miss (fun x hx => by
    obtain ⟨k,hk,rfl⟩:=List.mem_iff_getElem.1 hx
    exact hA.out k hk (by rw [← HN.out];exact hk))
   clear hA
   go_wp2
   go_ret
   exact ⟨by rw [hx.out];rfl,hbl⟩
theorem Ak.contains_any (p : Ak → Bool) (g : Nat) (lb : Array Value) (eg : ∀ args w,(callFunc g args).run Tryz.prog w = .ok (.enter g args) w) (L : List Ak) (a : Option Addr) (n c : Nat) (w : World) (h : SlY yAkA w a n c L)
  (hp : ∀ (W : World) (x : Ak),Below w.heap.size w W → Calls Tryz.prog g (#[x.val] ++ lb) W fun e w' => e = .returned (.bool (p x))∧Below w.heap.size w w') :
  Calls Tryz.prog 214 #[.slice a n c,.func (.func g) #[] lb] w fun e w' => e = .returned (.bool (decide (0 ≤ ix p L)))∧Below w.heap.size w w':=by
 have H:=hide (Ak.indexA_any p g lb eg L a n c w h hp);clear h hp
 go_enter Tryz.func214,Tryz.ntmps214
 go_wp2_with fail
 refine H.out.mono ?_;rintro e w' ⟨rfl,hb⟩
 go_wp2
 go_ret
 exact ⟨rfl,hb⟩
set_option maxHeartbeats 1000000 in
theorem Bl.indexA_any (p : Bl → Bool) (g : Nat) (lb : Array Value) (eg : ∀ args w,(callFunc g args).run Tryz.prog w = .ok (.enter g args) w) (L : List Bl) (a : Option Addr) (n c : Nat) (w : World) (h : SlY yBlA w a n c L)
  (hp : ∀ (W : World) (x : Bl),Below w.heap.size w W → Calls Tryz.prog g (#[x.val] ++ lb) W fun e w' => e = .returned (.bool (p x))∧Below w.heap.size w w') :
  Calls Tryz.prog 236 #[.slice a n c,.func (.func g) #[] lb] w fun e w' => e = .returned (.int .i64 (ix p L))∧Below w.heap.size w w':=by
 have hmx:=h.max;have hcp:=h.cap;have hln:=h.len
 unfold maxLen at hmx
 have H:=hide h;have HN:=hide hln;have HP:=hide hp;clear h hln hp
 go_enter Tryz.func236,Tryz.ntmps236
 go_wp2
 go_loopw [8] (fun i wr => ∃ j : Nat,i = .int .i64 (j : Int)∧j ≤ n∧Hid (∀ k (hk : k < L.length),k < j → p L[k] = false)∧Below w.heap.size w wr) (fun i _ => n - (intOf i).toNat)
 case atStart => exact ⟨0,rfl,Nat.zero_le _,fun k hk h => absurd h (Nat.not_lt_zero _),Below.refl _ _⟩
 case round =>
  obtain ⟨j,rfl,hj,hA,hbl⟩:=hrel;have hsz:=hbl.size
  by_cases hlt : j < n
  ·have hjl : j < L.length:=by rw [HN.out];exact hlt
   have hg : L[j]? = some L[j]:=List.getElem?_eq_getElem hjl;obtain ⟨q,o,rfl,hq,y0,y1,y2,y3,y4,y5⟩:=(H.out.later hbl).BlA hg;have hcall:=HP.out wr L[j] hbl
   have hH : Hid (p L[j] = true → ix p L = (j : Int)):=fun hp => ix_hit hjl hp (fun k hk => hA.out k (by omega) hk)
   have hS : Hid (p L[j] = false → ∀ k (hk : k < L.length),k < j + 1 → p L[k] = false):=fun hp k hk hkj => by
    by_cases e : k = j
    ·subst e;exact hp
    ·exact hA.out k hk (by omega)
   clear hA hg
   generalize L[j] = x at *
   unfold Bl.val at hcall
   cases hq2 : p x with
   | true =>
    have hx:=hide (hH.out hq2);rw [hq2] at hcall;clear hH hS
    go_wp2_with (go_at_fn g;refine hcall.mono ?_;rintro e w' ⟨rfl,hb'⟩)
    go_ret
    exact ⟨by rw [hx.out];rfl,hb'⟩
   | false =>
    have hx:=hide (hS.out hq2);rw [hq2] at hcall;clear hH hS
    go_wp2_with (go_at_fn g;refine hcall.mono ?_;rintro e w' ⟨rfl,hb'⟩)
    go_round
    case rel => exact ⟨j + 1,by go_num,by omega,hx,hb'⟩
    case measure => simp [intOf];omega
  ·obtain rfl : j = n:=by omega
   have hx : Hid (ix p L = -1):=ix_miss (fun x hx => by
    obtain ⟨k,hk,rfl⟩:=List.mem_iff_getElem.1 hx
    exact hA.out k hk (by rw [← HN.out];exact hk))
   clear hA
   go_wp2
   go_ret
   exact ⟨by rw [hx.out];rfl,hbl⟩
theorem Bl.contains_any (p : Bl → Bool) (g : Nat) (lb : Array Value) (eg : ∀ args w,(callFunc g args).run Tryz.prog w = .ok (.enter g args) w) (L : List Bl) (a : Option Addr) (n c : Nat) (w : World) (h : SlY yBlA w a n c L)
  (hp : ∀ (W : World) (x : Bl),Below w.heap.size w W → Calls Tryz.prog g (#[x.val] ++ lb) W fun e w' => e = .returned (.bool (p x))∧Below w.heap.size w w') :
  Calls Tryz.prog 216 #[.slice a n c,.func (.func g) #[] lb] w fun e w' => e = .returned (.bool (decide (0 ≤ ix p L)))∧Below w.heap.size w w':=by
 have H:=hide (Bl.indexA_any p g lb eg L a n c w h hp);clear h hp
 go_enter Tryz.func216,Tryz.ntmps216
 go_wp2_with fail
 refine H.out.mono ?_;rintro e w' ⟨rfl,hb⟩
 go_wp2
 go_ret
 exact ⟨rfl,hb⟩
end Go.Proofs.YtgncpcfncojgoaaGreatDoor
namespace Go.Proofs.YtgncpcfncojgoaaGreatDoor
open Go.RowKit Go.Maps Go.Shelf
open Classical
theorem ex_mkf8 {o : Oper} {ρ : Operand → Value} {fid : FuncId} {x : Operand} {X : Value} {w : World} (ho : o.op = .makeFunc (.func fid) #[] #[x]) (hx : ρ x = X) : (execOp ρ o).run Tryz.prog w = .ok (.value (.func (.func fid) #[] #[X])) w:=by
 unfold execOp
 simp [ho,hx,go_sem]
def Sta.norB (s : Sta) (c : Cg) : Bool:=bif (!decide (s.last = s.view) || decide (0 < (((s.M.length : Int) + (s.B.length : Int)) + (s.N.length : Int)))) then false else bif (!decide (s.self = c.pr s.view)) then decide ((s.A.length : Int) = 0) else decide (s.idle = 0) && (!decide (0 ≤ ix (fun a => !inB a.p 1 (s.L.length : Int)) s.A))
def Sta.chgB (s : Sta) (c : Cg) : Bool:=bif (decide (s.last = s.view) || decide (0 < ((s.A.length : Int) + (s.N.length : Int)))) then false else bif (!decide (s.self = c.pr s.view)) then decide ((s.B.length : Int) = 0) else decide ((s.B.length : Int) < c.F) && (!decide (0 ≤ ix (fun b => decide (s.view ≤ b.v)) s.B))
def Sta.kpB (s : Sta) (c : Cg) : Bool:=bif decide (s.st = 1) then s.norB c else bif decide (s.st = 2) then s.chgB c else bif decide (s.st = 3) then s.recB else false
theorem beyond8 (x : Ak) (s : Sta) (q : Nat) (w : World) (h : SB7 w q s) : Calls Tryz.prog 213 #[x.val,.pointer (some ⟨q,0,none⟩)] w fun e w' => e = .returned (.bool (!inB x.p 1 (s.L.length : Int)))∧Below w.heap.size w w':=by
 have hq:=h.lt;have h2 : w.cell? ⟨q,2,none⟩ = some (.int .i64 s.view):=h.cell 2 _ rfl;have h4 : w.cell? ⟨q,4,none⟩ = some (.slice s.la s.L.length s.lc):=h.cell 4 _ rfl
 have hqw : q ≠ w.heap.size:=by omega
 have W8:=hide (fun W => within8 x.p 1 (s.L.length : Int) W);clear h
 show Calls Tryz.prog 213 #[.agg #[.int .i64 x.n,.int .u64 x.h,.int .u64 x.l,.int .i64 x.p],.pointer (some ⟨q,0,none⟩)] w _
 go_enter Tryz.func213,Tryz.ntmps213
 go_wp2_with fail
 refine (W8.out _).mono ?_;rintro e w2 ⟨rfl,b2⟩;have b2:=b2;have bb : Below w.heap.size w w2:=((Below.refl _ w).alloc (Nat.le_refl _) _).trans (b2.mono (by simp));have HB:=hide bb;clear b2 bb
 go_wp2
 go_ret
 exact ⟨rfl,HB.out⟩
theorem late8 (x : Bl) (s : Sta) (q : Nat) (w : World) (h : SB7 w q s) : Calls Tryz.prog 215 #[x.val,.pointer (some ⟨q,0,none⟩)] w fun e w' => e = .returned (.bool (decide (s.view ≤ x.v)))∧Below w.heap.size w w':=by
 have hq:=h.lt;have h2 : w.cell? ⟨q,2,none⟩ = some (.int .i64 s.view):=h.cell 2 _ rfl;have h4 : w.cell? ⟨q,4,none⟩ = some (.slice s.la s.L.length s.lc):=h.cell 4 _ rfl
 have hqw : q ≠ w.heap.size:=by omega
 have W8:=hide (fun W => within8 x.v 1 (s.L.length : Int) W);clear h
 show Calls Tryz.prog 215 #[.agg #[.int .i64 x.n,.int .u64 x.h,.int .u64 x.l,.int .i64 x.v,.int .i64 x.c,.slice x.s.a x.s.D.length x.s.c],.pointer (some ⟨q,0,none⟩)] w _
 go_enter Tryz.func215,Tryz.ntmps215
 go_wp2
 go_ret
 exact ⟨rfl,(Below.refl _ w).alloc (Nat.le_refl _) _⟩
set_option maxHeartbeats 1000000 in
theorem normal8 (c : Cg) (s : Sta) (w : World) (hI : s.In w) (hF : s.Fit) : Calls Tryz.prog 170 #[c.val,s.val] w fun e w' => e = .returned (.bool (s.norB c))∧Below w.heap.size w w':=by
 go_enter Tryz.func170,Tryz.ntmps170
 go_upto_region 0 with fail
 refine wp_region_lit ?_;refine vl_gen (fun T => T.size = 44∧T[0]? = some (gw true (c.val))∧T[1]? = some (gw true (s.val))) ⟨rfl,rfl,rfl⟩ (fun Z0 ⟨hz,s0,s1⟩ => ?_)
 obtain ⟨w1,hw1⟩ : ∃ y,y = w.alloc (.cells c.cs.toArray 23):=⟨_,rfl⟩
 have hb : Below w.heap.size w w1:=by rw [hw1];exact (Below.refl _ _).alloc (Nat.le_refl _) _
 have hs1 : w1.heap.size = w.heap.size + 1:=by rw [hw1];simp
 have HC : CB7 w1 (w.heap.size) c:=by rw [hw1];exact BX7.new _ _ _
 refine vw (.pointer (some ⟨w.heap.size,0,none⟩)) w1 (want_none rfl) (ex_box8 rfl (ev s0 rfl) (by rw [hw1];exact bxC7 _ _)) rfl hz (by decide) (fun Z1 zz kk s2x => ?_);replace s1:=ku s1;clear kk hz s0 hw1;have hz:=zz;have s2:=s2x;clear zz s2x;have hB:=hb;clear hb
 obtain ⟨w2,hw2⟩ : ∃ y,y = w1.alloc (.cells s.cs.toArray 36):=⟨_,rfl⟩
 have hb : Below w1.heap.size w1 w2:=by rw [hw2];exact (Below.refl _ _).alloc (Nat.le_refl _) _
 have hs2 : w2.heap.size = w.heap.size + 2:=by rw [hw2];simp;omega
 have HS : SB7 w2 (w.heap.size + 1) s:=by rw [hw2,← hs1];exact BX7.new _ _ _
 refine vw (.pointer (some ⟨w.heap.size + 1,0,none⟩)) w2 (want_none rfl) (ex_box8 rfl (ev s1 rfl) (by rw [hw2,← hs1];exact bxS7 _ _)) rfl hz (by decide) (fun Z2 zz kk s3x => ?_);replace s2:=ku s2;clear kk hz s1 hw2;have hz:=zz;have s3:=s3x;clear zz s3x;have hB:=hB.trans (hb.mono (by omega));have HC:=HC.bel hb;clear hb;have hv0 : Below w2.heap.size w2 w2:=Below.refl _ _;have HI:=hI.later hB;have f1:=hF.al;have f2:=hF.ml;have f3:=hF.bl;have f4:=hF.nl;have q26_0:=((Rp.nil hz).cons s2).cons s3;clear hz s2 s3
 refine q26_0.t (.bool false) (ex_assign rfl rfl) fun _ q26_1 => ?_;clear q26_0
 have hz:=q26_1.z;have s2:=q26_1.a 2 rfl;have s3:=q26_1.a 3 rfl;clear q26_1;refine wpList_nil ?_
 go_upto_region 1 with fail
 refine wp_region_lit ?_;have q27_0:=((Rp.nil hz).cons s2).cons s3;clear hz s2 s3
 refine q27_0.t (.pointer (some ⟨w.heap.size + 1,3,none⟩)) (ex_fa rfl (q27_0.e (j:=3) rfl) (faS3 _ _)) fun _ q27_1 => ?_;clear q27_0
 refine q27_1.t (.int .i64 s.last) (ex_ld rfl (q27_1.e (j:=6) rfl) (ldI8 (cell8 (HS.cell 3 _ rfl) hv0))) fun _ q27_2 => ?_;clear q27_1
 refine q27_2.t (.pointer (some ⟨w.heap.size + 1,2,none⟩)) (ex_fa rfl (q27_2.e (j:=3) rfl) (faS2 _ _)) fun _ q27_3 => ?_;clear q27_2
 refine q27_3.t (.int .i64 s.view) (ex_ld rfl (q27_3.e (j:=8) rfl) (ldI8 (cell8 (HS.cell 2 _ rfl) hv0))) fun _ q27_4 => ?_;clear q27_3
 refine q27_4.t (.bool (!decide (s.last = s.view))) (ex_bin rfl (q27_4.e (j:=7) rfl) (q27_4.e (j:=9) rfl) (neqC _ _ _ _ _)) fun _ q27_5 => ?_;clear q27_4
 refine q27_5.t _ (ex_move rfl (q27_5.e (j:=10) rfl)) fun _ q27_6 => ?_;clear q27_5
 refine vl _ (.pointer (some ⟨w.heap.size + 1,9,none⟩)) (want_g rfl rfl (q27_6.a 11 rfl)) (fun hc => ex_fa rfl (q27_6.e (j:=3) rfl) (faS9 _ _)) rfl q27_6.z (by decide) (q27_6.k fun Ya q27_7 => ?_);clear q27_6;refine vl _ (.slice s.ma s.M.length s.mc) (want_g rfl rfl (q27_7.a 11 rfl)) (fun hc => ex_ld rfl (ev (q27_7.a 12 rfl) hc) (ldM8 (cell8 (HS.cell 9 _ rfl) hv0))) rfl q27_7.z (by decide) (q27_7.k fun Yb q27_8 => ?_);clear q27_7;refine vl _ (.int .i64 (s.M.length : Int)) (want_g rfl rfl (q27_8.a 11 rfl)) (fun hc => ex_lenM8 rfl rfl (ev (q27_8.a 13 rfl) hc)) rfl q27_8.z (by decide) (q27_8.k fun Yc q27_9 => ?_);clear q27_8;refine vl _ (.pointer (some ⟨w.heap.size + 1,10,none⟩)) (want_g rfl rfl (q27_9.a 11 rfl)) (fun hc => ex_fa rfl (q27_9.e (j:=3) rfl) (faS10 _ _)) rfl q27_9.z (by decide) (q27_9.k fun Yd q27_10 => ?_);clear q27_9;refine vl _ (.slice s.ba s.B.length s.bc) (want_g rfl rfl (q27_10.a 11 rfl)) (fun hc => ex_ld rfl (ev (q27_10.a 15 rfl) hc) (ldB8 (cell8 (HS.cell 10 _ rfl) hv0))) rfl q27_10.z (by decide) (q27_10.k fun Ye q27_11 => ?_);clear q27_10;refine vl _ (.int .i64 (s.B.length : Int)) (want_g rfl rfl (q27_11.a 11 rfl)) (fun hc => ex_lenB8 rfl rfl (ev (q27_11.a 16 rfl) hc)) rfl q27_11.z (by decide) (q27_11.k fun Yf q27_12 => ?_);clear q27_11;refine vl _ (.int .i64 ((s.M.length : Int) + (s.B.length : Int))) (want_g rfl rfl (q27_12.a 11 rfl)) (fun hc => ex_bin rfl (ev (q27_12.a 14 rfl) hc) (ev (q27_12.a 17 rfl) hc) (addD8 _ _ (s.M.length : Int) (s.B.length : Int) ((s.M.length : Int) + (s.B.length : Int)) (by rw [IntKind.wrap_i64];omega) _)) rfl q27_12.z (by decide) (q27_12.k fun Yg q27_13 => ?_);clear q27_12;refine vl _ (.pointer (some ⟨w.heap.size + 1,11,none⟩)) (want_g rfl rfl (q27_13.a 11 rfl)) (fun hc => ex_fa rfl (q27_13.e (j:=3) rfl) (faS11 _ _)) rfl q27_13.z (by decide) (q27_13.k fun Yh q27_14 => ?_);clear q27_13;refine vl _ (.slice s.na s.N.length s.nc) (want_g rfl rfl (q27_14.a 11 rfl)) (fun hc => ex_ld rfl (ev (q27_14.a 19 rfl) hc) (ldN8 (cell8 (HS.cell 11 _ rfl) hv0))) rfl q27_14.z (by decide) (q27_14.k fun Yi q27_15 => ?_);clear q27_14;refine vl _ (.int .i64 (s.N.length : Int)) (want_g rfl rfl (q27_15.a 11 rfl)) (fun hc => ex_lenN8 rfl rfl (ev (q27_15.a 20 rfl) hc)) rfl q27_15.z (by decide) (q27_15.k fun Yj q27_16 => ?_);clear q27_15;refine vl _ (.int .i64 (((s.M.length : Int) + (s.B.length : Int)) + (s.N.length : Int))) (want_g rfl rfl (q27_16.a 11 rfl)) (fun hc => ex_bin rfl (ev (q27_16.a 18 rfl) hc) (ev (q27_16.a 21 rfl) hc) (addD8 _ _ ((s.M.length : Int) + (s.B.length : Int)) (s.N.length : Int) (((s.M.length : Int) + (s.B.length : Int)) + (s.N.length : Int)) (by rw [IntKind.wrap_i64];omega) _)) rfl q27_16.z (by decide) (q27_16.k fun Yk q27_17 => ?_);clear q27_16;refine vl _ (.bool (decide (0 < (((s.M.length : Int) + (s.B.length : Int)) + (s.N.length : Int))))) (want_g rfl rfl (q27_17.a 11 rfl)) (fun hc => ex_bin rfl (ev (q27_17.a 22 rfl) hc) rfl (gtrC _ _ _ _ _)) rfl q27_17.z (by decide) (q27_17.k fun Yl q27_18 => ?_);clear q27_17
 refine q27_18.t (.bool ((!decide (s.last = s.view)) || (decide (0 < (((s.M.length : Int) + (s.B.length : Int)) + (s.N.length : Int)))))) (ex_or rfl (q27_18.a 11 rfl) (q27_18.a 23 rfl) rfl) fun _ q27_19 => ?_;clear q27_18
 have hz:=q27_19.z;have s2:=q27_19.a 2 rfl;have s3:=q27_19.a 3 rfl;have s24:=q27_19.a 24 rfl;clear q27_19;refine wpList_nil ?_
 go_upto_region 2 with fail
 cases e1 : ((!decide (s.last = s.view)) || (decide (0 < (((s.M.length : Int) + (s.B.length : Int)) + (s.N.length : Int)))))
 rotate_left
 ·refine wp_cond_true ((ev s24 rfl).trans (congrArg Value.bool e1)) ?_
  go_upto_region 2 with fail
  refine wp_region_lit ?_;have q28_0:=(((Rp.nil hz).cons s2).cons s3).cons s24;clear hz s2 s3 s24
  refine q28_0.t (.bool false) (ex_assign rfl rfl) fun _ q28_1 => ?_;clear q28_0
  have hz:=q28_1.z;have s4:=q28_1.a 4 rfl;clear q28_1;refine wpList_nil ?_
  go_wp2
  refine bodyPost_ret (results_tmp rfl _ _ _) rfl ⟨?_,hB.trans (hv0.mono (by omega))⟩;rw [getD_of s4];rw [show s.norB c = false from by unfold Sta.norB;rw [e1];rfl]
  rfl
 refine wp_cond_false ((ev s24 rfl).trans (congrArg Value.bool e1)) ?_;clear s24
 go_upto_region 3 with fail
 refine wp_region_lit ?_;have q29_0:=((Rp.nil hz).cons s2).cons s3;clear hz s2 s3
 refine q29_0.t (c.val) (ex_ld rfl (q29_0.e (j:=2) rfl) (CB7.ld (HC.bel hv0))) fun _ q29_1 => ?_;clear q29_0
 refine q29_1.t (s.val) (ex_ld rfl (q29_1.e (j:=3) rfl) (SB7.ld (HS.bel hv0))) fun _ q29_2 => ?_;clear q29_1
 refine vcall true (.bool (decide (s.self = c.pr s.view))) (want_none rfl) (fun hc => ex_call rfl (by simp only [List.map_toArray,List.map_cons,List.map_nil,(q29_2.e (j:=25) rfl),(q29_2.e (j:=26) rfl),evc] <;> rfl) rfl) (fun hc => isprimary8 c s w2) rfl q29_2.z (by decide) (q29_2.kc fun Ym x1 hb q29_3 => ?_);clear q29_2;have hx1:=hv0.trans (hb.mono hv0.size);clear hb
 refine q29_3.t (.bool (!(decide (s.self = c.pr s.view)))) (ex_not rfl (q29_3.e (j:=27) rfl)) fun _ q29_4 => ?_;clear q29_3
 have hz:=q29_4.z;have s2:=q29_4.a 2 rfl;have s3:=q29_4.a 3 rfl;have s28:=q29_4.a 28 rfl;clear q29_4;refine wpList_nil ?_
 go_upto_region 4 with fail
 cases e2 : (!(decide (s.self = c.pr s.view)))
 rotate_left
 ·refine wp_cond_true ((ev s28 rfl).trans (congrArg Value.bool e2)) ?_
  go_upto_region 4 with fail
  refine wp_region_lit ?_;have q30_0:=(((Rp.nil hz).cons s2).cons s3).cons s28;clear hz s2 s3 s28
  refine q30_0.t (.pointer (some ⟨w.heap.size + 1,8,none⟩)) (ex_fa rfl (q30_0.e (j:=3) rfl) (faS8 _ _)) fun _ q30_1 => ?_;clear q30_0
  refine q30_1.t (.slice s.ka s.A.length s.kc) (ex_ld rfl (q30_1.e (j:=29) rfl) (ldK8 (cell8 (HS.cell 8 _ rfl) hx1))) fun _ q30_2 => ?_;clear q30_1
  refine q30_2.t (.int .i64 (s.A.length : Int)) (ex_lenK8 rfl rfl (q30_2.e (j:=30) rfl)) fun _ q30_3 => ?_;clear q30_2
  refine q30_3.t (.bool (decide ((s.A.length : Int) = 0))) (ex_bin rfl (q30_3.e (j:=31) rfl) rfl (eqlC _ _ _ _ _)) fun _ q30_4 => ?_;clear q30_3
  refine q30_4.t _ (ex_assign rfl (q30_4.e (j:=32) rfl)) fun _ q30_5 => ?_;clear q30_4
  have hz:=q30_5.z;have s4:=q30_5.a 4 rfl;clear q30_5;refine wpList_nil ?_
  go_wp2
  refine bodyPost_ret (results_tmp rfl _ _ _) rfl ⟨?_,hB.trans (hx1.mono (by omega))⟩;rw [getD_of s4];rw [show s.norB c = decide ((s.A.length : Int) = 0) from by unfold Sta.norB;rw [e1,e2];rfl]
  rfl
 refine wp_cond_false ((ev s28 rfl).trans (congrArg Value.bool e2)) ?_;clear s28
 go_upto_region 5 with fail
 refine wp_region_lit ?_;have q31_0:=((Rp.nil hz).cons s2).cons s3;clear hz s2 s3
 refine q31_0.t (.func (.func 213) #[] #[.pointer (some ⟨w.heap.size + 1,0,none⟩)]) (ex_mkf8 rfl (q31_0.e (j:=3) rfl)) fun _ q31_1 => ?_;clear q31_0
 refine q31_1.t _ (ex_assign rfl (q31_1.e (j:=33) rfl)) fun _ q31_2 => ?_;clear q31_1
 have hz:=q31_2.z;have s2:=q31_2.a 2 rfl;have s3:=q31_2.a 3 rfl;have s5:=q31_2.a 5 rfl;clear q31_2;refine wpList_nil ?_
 go_upto_region 6 with fail
 refine wp_region_lit ?_;have q32_0:=(((Rp.nil hz).cons s2).cons s3).cons s5;clear hz s2 s3 s5
 refine q32_0.t (.pointer (some ⟨w.heap.size + 1,7,none⟩)) (ex_fa rfl (q32_0.e (j:=3) rfl) (faS7 _ _)) fun _ q32_1 => ?_;clear q32_0
 refine q32_1.t (.int .i64 s.idle) (ex_ld rfl (q32_1.e (j:=34) rfl) (ldI8 (cell8 (HS.cell 7 _ rfl) hx1))) fun _ q32_2 => ?_;clear q32_1
 refine q32_2.t (.bool (decide (s.idle = 0))) (ex_bin rfl (q32_2.e (j:=35) rfl) rfl (eqlC _ _ _ _ _)) fun _ q32_3 => ?_;clear q32_2
 refine q32_3.t _ (ex_move rfl (q32_3.e (j:=36) rfl)) fun _ q32_4 => ?_;clear q32_3
 refine vl _ (.pointer (some ⟨w.heap.size + 1,8,none⟩)) (want_g rfl rfl (q32_4.a 37 rfl)) (fun hc => ex_fa rfl (q32_4.e (j:=3) rfl) (faS8 _ _)) rfl q32_4.z (by decide) (q32_4.k fun Yn q32_5 => ?_);clear q32_4;refine vl _ (.slice s.ka s.A.length s.kc) (want_g rfl rfl (q32_5.a 37 rfl)) (fun hc => ex_ld rfl (ev (q32_5.a 38 rfl) hc) (ldK8 (cell8 (HS.cell 8 _ rfl) hx1))) rfl q32_5.z (by decide) (q32_5.k fun Yo q32_6 => ?_);clear q32_5;refine vl _ (.func (.func 213) #[] #[.pointer (some ⟨w.heap.size + 1,0,none⟩)]) (want_g rfl rfl (q32_6.a 37 rfl)) (fun hc => ex_move rfl (q32_6.e (j:=5) rfl)) rfl q32_6.z (by decide) (q32_6.k fun Yp q32_7 => ?_);clear q32_6;refine vcall (true && ((decide (s.idle = 0)) == true)) (.bool (decide (0 ≤ ix (fun a => !inB a.p 1 (s.L.length : Int)) s.A))) (want_g rfl rfl (q32_7.a 37 rfl)) (fun hc => ex_call rfl (by simp only [List.map_toArray,List.map_cons,List.map_nil,(ev (q32_7.a 39 rfl) hc),(ev (q32_7.a 40 rfl) hc),evc] <;> rfl) rfl) (fun hc => Ak.contains_any (fun a => !inB a.p 1 (s.L.length : Int)) 213 #[.pointer (some ⟨w.heap.size + 1,0,none⟩)] (enters_of Tryz.func213 (by kernel_rfl) rfl) s.A s.ka _ s.kc x1 (HI.a.later hx1) (fun W x hW => bel8 hW (beyond8 x s (w.heap.size + 1) W ((HS.bel hx1).bel hW)) hW.size)) rfl q32_7.z (by decide) (q32_7.kc fun Yq x2 hb q32_8 => ?_);clear q32_7;have hx2:=hx1.trans (hb.mono hx1.size);clear hb;refine vl _ (.bool (!(decide (0 ≤ ix (fun a => !inB a.p 1 (s.L.length : Int)) s.A)))) (want_g rfl rfl (q32_8.a 37 rfl)) (fun hc => ex_not rfl (ev (q32_8.a 41 rfl) hc)) rfl q32_8.z (by decide) (q32_8.k fun Yr q32_9 => ?_);clear q32_8
 refine q32_9.t (.bool ((decide (s.idle = 0)) && (!(decide (0 ≤ ix (fun a => !inB a.p 1 (s.L.length : Int)) s.A))))) (ex_and rfl (q32_9.a 37 rfl) (q32_9.a 42 rfl) rfl) fun _ q32_10 => ?_;clear q32_9
 refine q32_10.t _ (ex_assign rfl (q32_10.e (j:=43) rfl)) fun _ q32_11 => ?_;clear q32_10
 have hz:=q32_11.z;have s4:=q32_11.a 4 rfl;clear q32_11;refine wpList_nil ?_
 go_wp2
 refine bodyPost_ret (results_tmp rfl _ _ _) rfl ⟨?_,hB.trans (hx2.mono (by omega))⟩;rw [getD_of s4]
 unfold Sta.norB
 rw [e1,e2]
 rfl
set_option maxHeartbeats 1000000 in
theorem changing8 (c : Cg) (s : Sta) (w : World) (hI : s.In w) (hF : s.Fit) : Calls Tryz.prog 171 #[c.val,s.val] w fun e w' => e = .returned (.bool (s.chgB c))∧Below w.heap.size w w':=by
 go_enter Tryz.func171,Tryz.ntmps171
 go_upto_region 0 with fail
 refine wp_region_lit ?_;refine vl_gen (fun T => T.size = 43∧T[0]? = some (gw true (c.val))∧T[1]? = some (gw true (s.val))) ⟨rfl,rfl,rfl⟩ (fun Z0 ⟨hz,s0,s1⟩ => ?_)
 obtain ⟨w1,hw1⟩ : ∃ y,y = w.alloc (.cells c.cs.toArray 23):=⟨_,rfl⟩
 have hb : Below w.heap.size w w1:=by rw [hw1];exact (Below.refl _ _).alloc (Nat.le_refl _) _
 have hs1 : w1.heap.size = w.heap.size + 1:=by rw [hw1];simp
 have HC : CB7 w1 (w.heap.size) c:=by rw [hw1];exact BX7.new _ _ _
 refine vw (.pointer (some ⟨w.heap.size,0,none⟩)) w1 (want_none rfl) (ex_box8 rfl (ev s0 rfl) (by rw [hw1];exact bxC7 _ _)) rfl hz (by decide) (fun Z1 zz kk s2x => ?_);replace s1:=ku s1;clear kk hz s0 hw1;have hz:=zz;have s2:=s2x;clear zz s2x;have hB:=hb;clear hb
 obtain ⟨w2,hw2⟩ : ∃ y,y = w1.alloc (.cells s.cs.toArray 36):=⟨_,rfl⟩
 have hb : Below w1.heap.size w1 w2:=by rw [hw2];exact (Below.refl _ _).alloc (Nat.le_refl _) _
 have hs2 : w2.heap.size = w.heap.size + 2:=by rw [hw2];simp;omega
 have HS : SB7 w2 (w.heap.size + 1) s:=by rw [hw2,← hs1];exact BX7.new _ _ _
 refine vw (.pointer (some ⟨w.heap.size + 1,0,none⟩)) w2 (want_none rfl) (ex_box8 rfl (ev s1 rfl) (by rw [hw2,← hs1];exact bxS7 _ _)) rfl hz (by decide) (fun Z2 zz kk s3x => ?_);replace s2:=ku s2;clear kk hz s1 hw2;have hz:=zz;have s3:=s3x;clear zz s3x;have hB:=hB.trans (hb.mono (by omega));have HC:=HC.bel hb;clear hb;have hv0 : Below w2.heap.size w2 w2:=Below.refl _ _;have HI:=hI.later hB;have f1:=hF.al;have f2:=hF.ml;have f3:=hF.bl;have f4:=hF.nl;have q33_0:=((Rp.nil hz).cons s2).cons s3;clear hz s2 s3
 refine q33_0.t (.bool false) (ex_assign rfl rfl) fun _ q33_1 => ?_;clear q33_0
 have hz:=q33_1.z;have s2:=q33_1.a 2 rfl;have s3:=q33_1.a 3 rfl;clear q33_1;refine wpList_nil ?_
 go_upto_region 1 with fail
 refine wp_region_lit ?_;have q34_0:=((Rp.nil hz).cons s2).cons s3;clear hz s2 s3
 refine q34_0.t (.pointer (some ⟨w.heap.size + 1,3,none⟩)) (ex_fa rfl (q34_0.e (j:=3) rfl) (faS3 _ _)) fun _ q34_1 => ?_;clear q34_0
 refine q34_1.t (.int .i64 s.last) (ex_ld rfl (q34_1.e (j:=6) rfl) (ldI8 (cell8 (HS.cell 3 _ rfl) hv0))) fun _ q34_2 => ?_;clear q34_1
 refine q34_2.t (.pointer (some ⟨w.heap.size + 1,2,none⟩)) (ex_fa rfl (q34_2.e (j:=3) rfl) (faS2 _ _)) fun _ q34_3 => ?_;clear q34_2
 refine q34_3.t (.int .i64 s.view) (ex_ld rfl (q34_3.e (j:=8) rfl) (ldI8 (cell8 (HS.cell 2 _ rfl) hv0))) fun _ q34_4 => ?_;clear q34_3
 refine q34_4.t (.bool (decide (s.last = s.view))) (ex_bin rfl (q34_4.e (j:=7) rfl) (q34_4.e (j:=9) rfl) (eqlC _ _ _ _ _)) fun _ q34_5 => ?_;clear q34_4
 refine q34_5.t _ (ex_move rfl (q34_5.e (j:=10) rfl)) fun _ q34_6 => ?_;clear q34_5
 refine vl _ (.pointer (some ⟨w.heap.size + 1,8,none⟩)) (want_g rfl rfl (q34_6.a 11 rfl)) (fun hc => ex_fa rfl (q34_6.e (j:=3) rfl) (faS8 _ _)) rfl q34_6.z (by decide) (q34_6.k fun Ya q34_7 => ?_);clear q34_6;refine vl _ (.slice s.ka s.A.length s.kc) (want_g rfl rfl (q34_7.a 11 rfl)) (fun hc => ex_ld rfl (ev (q34_7.a 12 rfl) hc) (ldK8 (cell8 (HS.cell 8 _ rfl) hv0))) rfl q34_7.z (by decide) (q34_7.k fun Yb q34_8 => ?_);clear q34_7;refine vl _ (.int .i64 (s.A.length : Int)) (want_g rfl rfl (q34_8.a 11 rfl)) (fun hc => ex_lenK8 rfl rfl (ev (q34_8.a 13 rfl) hc)) rfl q34_8.z (by decide) (q34_8.k fun Yc q34_9 => ?_);clear q34_8;refine vl _ (.pointer (some ⟨w.heap.size + 1,11,none⟩)) (want_g rfl rfl (q34_9.a 11 rfl)) (fun hc => ex_fa rfl (q34_9.e (j:=3) rfl) (faS11 _ _)) rfl q34_9.z (by decide) (q34_9.k fun Yd q34_10 => ?_);clear q34_9;refine vl _ (.slice s.na s.N.length s.nc) (want_g rfl rfl (q34_10.a 11 rfl)) (fun hc => ex_ld rfl (ev (q34_10.a 15 rfl) hc) (ldN8 (cell8 (HS.cell 11 _ rfl) hv0))) rfl q34_10.z (by decide) (q34_10.k fun Ye q34_11 => ?_);clear q34_10;refine vl _ (.int .i64 (s.N.length : Int)) (want_g rfl rfl (q34_11.a 11 rfl)) (fun hc => ex_lenN8 rfl rfl (ev (q34_11.a 16 rfl) hc)) rfl q34_11.z (by decide) (q34_11.k fun Yf q34_12 => ?_);clear q34_11;refine vl _ (.int .i64 ((s.A.length : Int) + (s.N.length : Int))) (want_g rfl rfl (q34_12.a 11 rfl)) (fun hc => ex_bin rfl (ev (q34_12.a 14 rfl) hc) (ev (q34_12.a 17 rfl) hc) (addD8 _ _ (s.A.length : Int) (s.N.length : Int) ((s.A.length : Int) + (s.N.length : Int)) (by rw [IntKind.wrap_i64];omega) _)) rfl q34_12.z (by decide) (q34_12.k fun Yg q34_13 => ?_);clear q34_12;refine vl _ (.bool (decide (0 < ((s.A.length : Int) + (s.N.length : Int))))) (want_g rfl rfl (q34_13.a 11 rfl)) (fun hc => ex_bin rfl (ev (q34_13.a 18 rfl) hc) rfl (gtrC _ _ _ _ _)) rfl q34_13.z (by decide) (q34_13.k fun Yh q34_14 => ?_);clear q34_13
 refine q34_14.t (.bool ((decide (s.last = s.view)) || (decide (0 < ((s.A.length : Int) + (s.N.length : Int)))))) (ex_or rfl (q34_14.a 11 rfl) (q34_14.a 19 rfl) rfl) fun _ q34_15 => ?_;clear q34_14
 have hz:=q34_15.z;have s2:=q34_15.a 2 rfl;have s3:=q34_15.a 3 rfl;have s20:=q34_15.a 20 rfl;clear q34_15;refine wpList_nil ?_
 go_upto_region 2 with fail
 cases e1 : ((decide (s.last = s.view)) || (decide (0 < ((s.A.length : Int) + (s.N.length : Int)))))
 rotate_left
 ·refine wp_cond_true ((ev s20 rfl).trans (congrArg Value.bool e1)) ?_
  go_upto_region 2 with fail
  refine wp_region_lit ?_;have q35_0:=(((Rp.nil hz).cons s2).cons s3).cons s20;clear hz s2 s3 s20
  refine q35_0.t (.bool false) (ex_assign rfl rfl) fun _ q35_1 => ?_;clear q35_0
  have hz:=q35_1.z;have s4:=q35_1.a 4 rfl;clear q35_1;refine wpList_nil ?_
  go_wp2
  refine bodyPost_ret (results_tmp rfl _ _ _) rfl ⟨?_,hB.trans (hv0.mono (by omega))⟩;rw [getD_of s4];rw [show s.chgB c = false from by unfold Sta.chgB;rw [e1];rfl]
  rfl
 refine wp_cond_false ((ev s20 rfl).trans (congrArg Value.bool e1)) ?_;clear s20
 go_upto_region 3 with fail
 refine wp_region_lit ?_;have q36_0:=((Rp.nil hz).cons s2).cons s3;clear hz s2 s3
 refine q36_0.t (c.val) (ex_ld rfl (q36_0.e (j:=2) rfl) (CB7.ld (HC.bel hv0))) fun _ q36_1 => ?_;clear q36_0
 refine q36_1.t (s.val) (ex_ld rfl (q36_1.e (j:=3) rfl) (SB7.ld (HS.bel hv0))) fun _ q36_2 => ?_;clear q36_1
 refine vcall true (.bool (decide (s.self = c.pr s.view))) (want_none rfl) (fun hc => ex_call rfl (by simp only [List.map_toArray,List.map_cons,List.map_nil,(q36_2.e (j:=21) rfl),(q36_2.e (j:=22) rfl),evc] <;> rfl) rfl) (fun hc => isprimary8 c s w2) rfl q36_2.z (by decide) (q36_2.kc fun Yi x1 hb q36_3 => ?_);clear q36_2;have hx1:=hv0.trans (hb.mono hv0.size);clear hb
 refine q36_3.t (.bool (!(decide (s.self = c.pr s.view)))) (ex_not rfl (q36_3.e (j:=23) rfl)) fun _ q36_4 => ?_;clear q36_3
 have hz:=q36_4.z;have s2:=q36_4.a 2 rfl;have s3:=q36_4.a 3 rfl;have s24:=q36_4.a 24 rfl;clear q36_4;refine wpList_nil ?_
 go_upto_region 4 with fail
 cases e2 : (!(decide (s.self = c.pr s.view)))
 rotate_left
 ·refine wp_cond_true ((ev s24 rfl).trans (congrArg Value.bool e2)) ?_
  go_upto_region 4 with fail
  refine wp_region_lit ?_;have q37_0:=(((Rp.nil hz).cons s2).cons s3).cons s24;clear hz s2 s3 s24
  refine q37_0.t (.pointer (some ⟨w.heap.size + 1,10,none⟩)) (ex_fa rfl (q37_0.e (j:=3) rfl) (faS10 _ _)) fun _ q37_1 => ?_;clear q37_0
  refine q37_1.t (.slice s.ba s.B.length s.bc) (ex_ld rfl (q37_1.e (j:=25) rfl) (ldB8 (cell8 (HS.cell 10 _ rfl) hx1))) fun _ q37_2 => ?_;clear q37_1
  refine q37_2.t (.int .i64 (s.B.length : Int)) (ex_lenB8 rfl rfl (q37_2.e (j:=26) rfl)) fun _ q37_3 => ?_;clear q37_2
  refine q37_3.t (.bool (decide ((s.B.length : Int) = 0))) (ex_bin rfl (q37_3.e (j:=27) rfl) rfl (eqlC _ _ _ _ _)) fun _ q37_4 => ?_;clear q37_3
  refine q37_4.t _ (ex_assign rfl (q37_4.e (j:=28) rfl)) fun _ q37_5 => ?_;clear q37_4
  have hz:=q37_5.z;have s4:=q37_5.a 4 rfl;clear q37_5;refine wpList_nil ?_
  go_wp2
  refine bodyPost_ret (results_tmp rfl _ _ _) rfl ⟨?_,hB.trans (hx1.mono (by omega))⟩;rw [getD_of s4];rw [show s.chgB c = decide ((s.B.length : Int) = 0) from by unfold Sta.chgB;rw [e1,e2];rfl]
  rfl
 refine wp_cond_false ((ev s24 rfl).trans (congrArg Value.bool e2)) ?_;clear s24
 go_upto_region 5 with fail
 refine wp_region_lit ?_;have q38_0:=((Rp.nil hz).cons s2).cons s3;clear hz s2 s3
 refine q38_0.t (.func (.func 215) #[] #[.pointer (some ⟨w.heap.size + 1,0,none⟩)]) (ex_mkf8 rfl (q38_0.e (j:=3) rfl)) fun _ q38_1 => ?_;clear q38_0
 refine q38_1.t _ (ex_assign rfl (q38_1.e (j:=29) rfl)) fun _ q38_2 => ?_;clear q38_1
 have hz:=q38_2.z;have s2:=q38_2.a 2 rfl;have s3:=q38_2.a 3 rfl;have s5:=q38_2.a 5 rfl;clear q38_2;refine wpList_nil ?_
 go_upto_region 6 with fail
 refine wp_region_lit ?_;have q39_0:=(((Rp.nil hz).cons s2).cons s3).cons s5;clear hz s2 s3 s5
 refine q39_0.t (.pointer (some ⟨w.heap.size + 1,10,none⟩)) (ex_fa rfl (q39_0.e (j:=3) rfl) (faS10 _ _)) fun _ q39_1 => ?_;clear q39_0
 refine q39_1.t (.slice s.ba s.B.length s.bc) (ex_ld rfl (q39_1.e (j:=30) rfl) (ldB8 (cell8 (HS.cell 10 _ rfl) hx1))) fun _ q39_2 => ?_;clear q39_1
 refine q39_2.t (.int .i64 (s.B.length : Int)) (ex_lenB8 rfl rfl (q39_2.e (j:=31) rfl)) fun _ q39_3 => ?_;clear q39_2
 refine q39_3.t (.pointer (some ⟨w.heap.size,0,none⟩)) (ex_fa rfl (q39_3.e (j:=2) rfl) (faC0 _ _)) fun _ q39_4 => ?_;clear q39_3
 refine q39_4.t (.int .i64 c.F) (ex_ld rfl (q39_4.e (j:=33) rfl) (ldI8 (cell8 (HC.cell 0 _ rfl) hx1))) fun _ q39_5 => ?_;clear q39_4
 refine q39_5.t (.bool (decide ((s.B.length : Int) < c.F))) (ex_bin rfl (q39_5.e (j:=32) rfl) (q39_5.e (j:=34) rfl) (lssC _ _ _ _ _)) fun _ q39_6 => ?_;clear q39_5
 refine q39_6.t _ (ex_move rfl (q39_6.e (j:=35) rfl)) fun _ q39_7 => ?_;clear q39_6
 refine vl _ (.pointer (some ⟨w.heap.size + 1,10,none⟩)) (want_g rfl rfl (q39_7.a 36 rfl)) (fun hc => ex_fa rfl (q39_7.e (j:=3) rfl) (faS10 _ _)) rfl q39_7.z (by decide) (q39_7.k fun Yj q39_8 => ?_);clear q39_7;refine vl _ (.slice s.ba s.B.length s.bc) (want_g rfl rfl (q39_8.a 36 rfl)) (fun hc => ex_ld rfl (ev (q39_8.a 37 rfl) hc) (ldB8 (cell8 (HS.cell 10 _ rfl) hx1))) rfl q39_8.z (by decide) (q39_8.k fun Yk q39_9 => ?_);clear q39_8;refine vl _ (.func (.func 215) #[] #[.pointer (some ⟨w.heap.size + 1,0,none⟩)]) (want_g rfl rfl (q39_9.a 36 rfl)) (fun hc => ex_move rfl (q39_9.e (j:=5) rfl)) rfl q39_9.z (by decide) (q39_9.k fun Yl q39_10 => ?_);clear q39_9;refine vcall (true && ((decide ((s.B.length : Int) < c.F)) == true)) (.bool (decide (0 ≤ ix (fun b => decide (s.view ≤ b.v)) s.B))) (want_g rfl rfl (q39_10.a 36 rfl)) (fun hc => ex_call rfl (by simp only [List.map_toArray,List.map_cons,List.map_nil,(ev (q39_10.a 38 rfl) hc),(ev (q39_10.a 39 rfl) hc),evc] <;> rfl) rfl) (fun hc => Bl.contains_any (fun b => decide (s.view ≤ b.v)) 215 #[.pointer (some ⟨w.heap.size + 1,0,none⟩)] (enters_of Tryz.func215 (by kernel_rfl) rfl) s.B s.ba _ s.bc x1 (HI.b.later hx1) (fun W x hW => bel8 hW (late8 x s (w.heap.size + 1) W ((HS.bel hx1).bel hW)) hW.size)) rfl q39_10.z (by decide) (q39_10.kc fun Ym x2 hb q39_11 => ?_);clear q39_10;have hx2:=hx1.trans (hb.mono hx1.size);clear hb;refine vl _ (.bool (!(decide (0 ≤ ix (fun b => decide (s.view ≤ b.v)) s.B)))) (want_g rfl rfl (q39_11.a 36 rfl)) (fun hc => ex_not rfl (ev (q39_11.a 40 rfl) hc)) rfl q39_11.z (by decide) (q39_11.k fun Yn q39_12 => ?_);clear q39_11
 refine q39_12.t (.bool ((decide ((s.B.length : Int) < c.F)) && (!(decide (0 ≤ ix (fun b => decide (s.view ≤ b.v)) s.B))))) (ex_and rfl (q39_12.a 36 rfl) (q39_12.a 41 rfl) rfl) fun _ q39_13 => ?_;clear q39_12
 refine q39_13.t _ (ex_assign rfl (q39_13.e (j:=42) rfl)) fun _ q39_14 => ?_;clear q39_13
 have hz:=q39_14.z;have s4:=q39_14.a 4 rfl;clear q39_14;refine wpList_nil ?_
 go_wp2
 refine bodyPost_ret (results_tmp rfl _ _ _) rfl ⟨?_,hB.trans (hx2.mono (by omega))⟩;rw [getD_of s4]
 unfold Sta.chgB
 rw [e1,e2]
 rfl
set_option maxHeartbeats 1000000 in
theorem keeps8 (c : Cg) (s : Sta) (w : World) (hI : s.In w) (hF : s.Fit) (hs : 0 ≤ s.self∧s.self < (s.V.length : Int)) : Calls Tryz.prog 122 #[c.val,s.val] w fun e w' => e = .returned (.bool (s.kpB c))∧Below w.heap.size w w':=by
 go_enter Tryz.func122,Tryz.ntmps122
 go_upto_region 0 with fail
 refine wp_region_lit ?_;refine vl_gen (fun T => T.size = 21∧T[0]? = some (gw true (c.val))∧T[1]? = some (gw true (s.val))) ⟨rfl,rfl,rfl⟩ (fun Z0 ⟨hz,s0,s1⟩ => ?_)
 obtain ⟨w1,hw1⟩ : ∃ y,y = w.alloc (.cells c.cs.toArray 23):=⟨_,rfl⟩
 have hb : Below w.heap.size w w1:=by rw [hw1];exact (Below.refl _ _).alloc (Nat.le_refl _) _
 have hs1 : w1.heap.size = w.heap.size + 1:=by rw [hw1];simp
 have HC : CB7 w1 (w.heap.size) c:=by rw [hw1];exact BX7.new _ _ _
 refine vw (.pointer (some ⟨w.heap.size,0,none⟩)) w1 (want_none rfl) (ex_box8 rfl (ev s0 rfl) (by rw [hw1];exact bxC7 _ _)) rfl hz (by decide) (fun Z1 zz kk s2x => ?_);replace s1:=ku s1;clear kk hz s0 hw1;have hz:=zz;have s2:=s2x;clear zz s2x;have hB:=hb;clear hb
 obtain ⟨w2,hw2⟩ : ∃ y,y = w1.alloc (.cells s.cs.toArray 36):=⟨_,rfl⟩
 have hb : Below w1.heap.size w1 w2:=by rw [hw2];exact (Below.refl _ _).alloc (Nat.le_refl _) _
 have hs2 : w2.heap.size = w.heap.size + 2:=by rw [hw2];simp;omega
 have HS : SB7 w2 (w.heap.size + 1) s:=by rw [hw2,← hs1];exact BX7.new _ _ _
 refine vw (.pointer (some ⟨w.heap.size + 1,0,none⟩)) w2 (want_none rfl) (ex_box8 rfl (ev s1 rfl) (by rw [hw2,← hs1];exact bxS7 _ _)) rfl hz (by decide) (fun Z2 zz kk s3x => ?_);replace s2:=ku s2;clear kk hz s1 hw2;have hz:=zz;have s3:=s3x;clear zz s3x;have hB:=hB.trans (hb.mono (by omega));have HC:=HC.bel hb;clear hb;have hv0 : Below w2.heap.size w2 w2:=Below.refl _ _;have HI:=hI.later hB;have f1:=hF.al;have f2:=hF.ml;have f3:=hF.bl;have f4:=hF.nl;have q40_0:=((Rp.nil hz).cons s2).cons s3;clear hz s2 s3
 refine q40_0.t (.bool false) (ex_assign rfl rfl) fun _ q40_1 => ?_;clear q40_0
 have hz:=q40_1.z;have s2:=q40_1.a 2 rfl;have s3:=q40_1.a 3 rfl;clear q40_1;refine wpList_nil ?_
 go_upto_region 1 with fail
 refine wp_region_lit ?_;have q41_0:=((Rp.nil hz).cons s2).cons s3;clear hz s2 s3
 refine q41_0.t (.pointer (some ⟨w.heap.size + 1,1,none⟩)) (ex_fa rfl (q41_0.e (j:=3) rfl) (faS1 _ _)) fun _ q41_1 => ?_;clear q41_0
 refine q41_1.t (.int .i64 s.st) (ex_ld rfl (q41_1.e (j:=5) rfl) (ldT8 (cell8 (HS.cell 1 _ rfl) hv0))) fun _ q41_2 => ?_;clear q41_1
 have hz:=q41_2.z;have s2:=q41_2.a 2 rfl;have s3:=q41_2.a 3 rfl;have s6:=q41_2.a 6 rfl;clear q41_2;refine wpList_nil ?_
 go_upto_region 2 with fail
 refine wp_region_lit ?_;have q42_0:=(((Rp.nil hz).cons s2).cons s3).cons s6;clear hz s2 s3 s6
 refine q42_0.t (.bool (decide (s.st = 1))) (ex_bin rfl (q42_0.e (j:=6) rfl) rfl (eqlT8 _ _ _ _ _)) fun _ q42_1 => ?_;clear q42_0
 refine q42_1.t _ (ex_assign rfl (q42_1.e (j:=8) rfl)) fun _ q42_2 => ?_;clear q42_1
 have hz:=q42_2.z;have s2:=q42_2.a 2 rfl;have s3:=q42_2.a 3 rfl;have s6:=q42_2.a 6 rfl;have s7:=q42_2.a 7 rfl;clear q42_2;refine wpList_nil ?_
 go_upto_region 3 with fail
 cases e1 : decide (s.st = 1)
 rotate_left
 ·refine wp_cond_true ((ev s7 rfl).trans (congrArg Value.bool e1)) ?_
  go_upto_region 3 with fail
  refine wp_region_lit ?_;have q43_0:=((((Rp.nil hz).cons s2).cons s3).cons s6).cons s7;clear hz s2 s3 s6 s7
  refine q43_0.t (c.val) (ex_ld rfl (q43_0.e (j:=2) rfl) (CB7.ld (HC.bel hv0))) fun _ q43_1 => ?_;clear q43_0
  refine q43_1.t (s.val) (ex_ld rfl (q43_1.e (j:=3) rfl) (SB7.ld (HS.bel hv0))) fun _ q43_2 => ?_;clear q43_1
  refine vcall true (.bool (s.norB c)) (want_none rfl) (fun hc => ex_call rfl (by simp only [List.map_toArray,List.map_cons,List.map_nil,(q43_2.e (j:=9) rfl),(q43_2.e (j:=10) rfl),evc] <;> rfl) rfl) (fun hc => normal8 c s w2 (HI.later hv0) hF) rfl q43_2.z (by decide) (q43_2.kc fun Ya x1 hb q43_3 => ?_);clear q43_2;have hx1:=hv0.trans (hb.mono hv0.size);clear hb
  refine q43_3.t _ (ex_assign rfl (q43_3.e (j:=11) rfl)) fun _ q43_4 => ?_;clear q43_3
  have hz:=q43_4.z;have s4:=q43_4.a 4 rfl;clear q43_4;refine wpList_nil ?_
  go_wp2
  refine bodyPost_ret (results_tmp rfl _ _ _) rfl ⟨?_,hB.trans (hx1.mono (by omega))⟩;rw [getD_of s4]
  unfold Sta.kpB
  rw [e1]
  rfl
 refine wp_cond_false ((ev s7 rfl).trans (congrArg Value.bool e1)) ?_;clear s7
 go_upto_region 4 with fail
 refine wp_region_lit ?_;have q44_0:=(((Rp.nil hz).cons s2).cons s3).cons s6;clear hz s2 s3 s6
 refine q44_0.t (.bool (decide (s.st = 2))) (ex_bin rfl (q44_0.e (j:=6) rfl) rfl (eqlT8 _ _ _ _ _)) fun _ q44_1 => ?_;clear q44_0
 refine q44_1.t _ (ex_assign rfl (q44_1.e (j:=13) rfl)) fun _ q44_2 => ?_;clear q44_1
 have hz:=q44_2.z;have s2:=q44_2.a 2 rfl;have s3:=q44_2.a 3 rfl;have s6:=q44_2.a 6 rfl;have s12:=q44_2.a 12 rfl;clear q44_2;refine wpList_nil ?_
 go_upto_region 5 with fail
 cases e2 : decide (s.st = 2)
 rotate_left
 ·refine wp_cond_true ((ev s12 rfl).trans (congrArg Value.bool e2)) ?_
  go_upto_region 5 with fail
  refine wp_region_lit ?_;have q45_0:=((((Rp.nil hz).cons s2).cons s3).cons s6).cons s12;clear hz s2 s3 s6 s12
  refine q45_0.t (c.val) (ex_ld rfl (q45_0.e (j:=2) rfl) (CB7.ld (HC.bel hv0))) fun _ q45_1 => ?_;clear q45_0
  refine q45_1.t (s.val) (ex_ld rfl (q45_1.e (j:=3) rfl) (SB7.ld (HS.bel hv0))) fun _ q45_2 => ?_;clear q45_1
  refine vcall true (.bool (s.chgB c)) (want_none rfl) (fun hc => ex_call rfl (by simp only [List.map_toArray,List.map_cons,List.map_nil,(q45_2.e (j:=14) rfl),(q45_2.e (j:=15) rfl),evc] <;> rfl) rfl) (fun hc => changing8 c s w2 (HI.later hv0) hF) rfl q45_2.z (by decide) (q45_2.kc fun Yb x2 hb q45_3 => ?_);clear q45_2;have hx2:=hv0.trans (hb.mono hv0.size);clear hb
  refine q45_3.t _ (ex_assign rfl (q45_3.e (j:=16) rfl)) fun _ q45_4 => ?_;clear q45_3
  have hz:=q45_4.z;have s4:=q45_4.a 4 rfl;clear q45_4;refine wpList_nil ?_
  go_wp2
  refine bodyPost_ret (results_tmp rfl _ _ _) rfl ⟨?_,hB.trans (hx2.mono (by omega))⟩;rw [getD_of s4]
  unfold Sta.kpB
  rw [e1,e2]
  rfl
 refine wp_cond_false ((ev s12 rfl).trans (congrArg Value.bool e2)) ?_;clear s12
 go_upto_region 6 with fail
 refine wp_region_lit ?_;have q46_0:=(((Rp.nil hz).cons s2).cons s3).cons s6;clear hz s2 s3 s6
 refine q46_0.t (.bool (decide (s.st = 3))) (ex_bin rfl (q46_0.e (j:=6) rfl) rfl (eqlT8 _ _ _ _ _)) fun _ q46_1 => ?_;clear q46_0
 refine q46_1.t _ (ex_assign rfl (q46_1.e (j:=18) rfl)) fun _ q46_2 => ?_;clear q46_1
 have hz:=q46_2.z;have s2:=q46_2.a 2 rfl;have s3:=q46_2.a 3 rfl;have s6:=q46_2.a 6 rfl;have s17:=q46_2.a 17 rfl;clear q46_2;refine wpList_nil ?_
 go_upto_region 7 with fail
 cases e3 : decide (s.st = 3)
 rotate_left
 ·refine wp_cond_true ((ev s17 rfl).trans (congrArg Value.bool e3)) ?_
  go_upto_region 7 with fail
  refine wp_region_lit ?_;have q47_0:=((((Rp.nil hz).cons s2).cons s3).cons s6).cons s17;clear hz s2 s3 s6 s17
  refine q47_0.t (s.val) (ex_ld rfl (q47_0.e (j:=3) rfl) (SB7.ld (HS.bel hv0))) fun _ q47_1 => ?_;clear q47_0
  refine vcall true (.bool s.recB) (want_none rfl) (fun hc => ex_call rfl (by simp only [List.map_toArray,List.map_cons,List.map_nil,(q47_1.e (j:=19) rfl),evc] <;> rfl) rfl) (fun hc => recovering8 s w2 (HI.later hv0) hF hs) rfl q47_1.z (by decide) (q47_1.kc fun Yc x3 hb q47_2 => ?_);clear q47_1;have hx3:=hv0.trans (hb.mono hv0.size);clear hb
  refine q47_2.t _ (ex_assign rfl (q47_2.e (j:=20) rfl)) fun _ q47_3 => ?_;clear q47_2
  have hz:=q47_3.z;have s4:=q47_3.a 4 rfl;clear q47_3;refine wpList_nil ?_
  go_wp2
  refine bodyPost_ret (results_tmp rfl _ _ _) rfl ⟨?_,hB.trans (hx3.mono (by omega))⟩;rw [getD_of s4]
  unfold Sta.kpB
  rw [e1,e2,e3]
  rfl
 refine wp_cond_false ((ev s17 rfl).trans (congrArg Value.bool e3)) ?_;clear s17
 go_upto_region 8 with fail
 refine wp_region_lit ?_;have q48_0:=(((Rp.nil hz).cons s2).cons s3).cons s6;clear hz s2 s3 s6
 refine q48_0.t (.bool false) (ex_assign rfl rfl) fun _ q48_1 => ?_;clear q48_0
 have hz:=q48_1.z;have s4:=q48_1.a 4 rfl;clear q48_1;refine wpList_nil ?_
 go_wp2
 refine bodyPost_ret (results_tmp rfl _ _ _) rfl ⟨?_,hB.trans (hv0.mono (by omega))⟩;rw [getD_of s4]
 unfold Sta.kpB
 rw [e1,e2,e3]
 rfl
theorem vh_store8 {ops : Array Oper} {o : Oper} {T : Array Value} {df : List Deferred} {w : World} {Q : Exit → Act → World → Prop} {S : World → Prop} {fuel : Nat} {listed : Array Bool} (i : Nat) (w' : World) (hi : ops[i]? = some o) (hr : Region.ready .any ops listed = [i])
  (hw : Region.wanted o (yielded ops T) = true) (he : (execOp (⟨T,df⟩ : Act).eval o).run Tryz.prog w = .ok .skip w') (hd : o.dst = none) (hS : S w')
  (hk : VH ops Q S fuel (listed.setIfInBounds i true) ⟨T,df⟩ w') : VH ops Q S (fuel + 1) listed ⟨T,df⟩ w:=by
 refine ⟨wpAnyH_all hr (by simp) (fun j hj => ?_)⟩
 obtain rfl : j = i:=by simpa using hj
 unfold wpOp
 rw [hi];simp only [hw,if_true];refine .inl ?_
 unfold Oper.wp
 rw [he,Oper.upon_skip];refine ⟨hS,?_⟩;rw [hd]
 exact hk.out
theorem vh_val8 {ops : Array Oper} {o : Oper} {T : Array Value} {df : List Deferred} {w : World} {Q : Exit → Act → World → Prop} {S : World → Prop} {fuel d n : Nat} {listed : Array Bool} (i : Nat) (V : Value) (w' : World) (hi : ops[i]? = some o) (hr : Region.ready .any ops listed = [i])
  (hw : Region.wanted o (yielded ops T) = true) (he : (execOp (⟨T,df⟩ : Act).eval o).run Tryz.prog w = .ok (.value V) w') (hd : o.dst = some d) (hz : T.size = n) (hn : d < n) (hS : S w')
  (hk : ∀ T' : Array Value,T'.size = n → (∀ j,j ≠ d → T'[j]? = T[j]?) → T'[d]? = some (gw true V) → VH ops Q S fuel (listed.setIfInBounds i true) ⟨T',df⟩ w') : VH ops Q S (fuel + 1) listed ⟨T,df⟩ w:=by
 refine ⟨wpAnyH_all hr (by simp) (fun j hj => ?_)⟩
 obtain rfl : j = i:=by simpa using hj
 unfold wpOp
 rw [hi];simp only [hw,if_true]
 unfold Oper.wp
 rw [he];simp only [Oper.upon];rw [hd]
 exact .inl ⟨hS,(hk (T.setIfInBounds d V) (by simp [hz]) (fun i hi => at_set_ne _ hi) (at_set _ (by omega))).out⟩
theorem ex_buildP {o : Oper} {ρ : Operand → Value} {s : TypeId} {ps : Array (Nat × Operand)} {P : Array (Nat × Value)} {V : Value} {w : World} (ho : o.op = .build s ps) (hp : ps.map (fun (i,x) => (i,ρ x)) = P) (hr : (Instr.build s P).run Tryz.prog w = .ok V w) : (execOp ρ o).run Tryz.prog w = .ok (.value V) w:=by
 unfold execOp
 simp only [ho,hp,Sem.run_bind,hr,Result.andThen_ok]
 rfl
def UQ8 (q : Nat) (w v : World) : Prop:=∃ u,Below w.heap.size w u∧Upd (fun k => k = q) u v
def nil4 : List Value:=[.slice none 0 0,.slice none 0 0,.slice none 0 0,.slice none 0 0]
theorem al4 (w : World) : (Instr.alloc 227 true (.tuple #[])).run Tryz.prog w = .ok (.pointer (some ⟨w.heap.size,0,none⟩)) (w.alloc (.cells nil4.toArray 227)):=by
 go_simp
 first | done | rfl
theorem bd4 (a0 a1 a2 a3 : Option Addr) (n0 n1 n2 n3 c0 c1 c2 c3 : Nat) (w : World) : (Instr.build 227 #[(0,.slice a0 n0 c0),(1,.slice a1 n1 c1),(2,.slice a2 n2 c2),(3,.slice a3 n3 c3)]).run Tryz.prog w = .ok (.agg #[.slice a0 n0 c0,.slice a1 n1 c1,.slice a2 n2 c2,.slice a3 n3 c3]) w:=by
 go_simp
def put4 (w : World) (q : Nat) (a b c d : Value) : World:=(((w.setCell ⟨q,0,none⟩ a).setCell ⟨q,1,none⟩ b).setCell ⟨q,2,none⟩ c).setCell ⟨q,3,none⟩ d
theorem put4_upd (w : World) (q : Nat) (a b c d : Value) : Upd (fun k => k = q) w (put4 w q a b c d) :=
 ((((Upd.refl (fun k => k = q) w).setCell (p:=⟨q,0,none⟩) (.inl rfl) _).setCell (p:=⟨q,1,none⟩) (.inl rfl) _).setCell (p:=⟨q,2,none⟩) (.inl rfl) _).setCell (p:=⟨q,3,none⟩) (.inl rfl) _
theorem BX7.put4 {w : World} {q : Nat} (h : BX7 w q nil4) (a b c d : Value) : BX7 (put4 w q a b c d) q [a,b,c,d] :=
 (((h.set (j:=0) (by simp [nil4]) a).set (j:=1) (by simp [nil4]) b).set (j:=2) (by simp [nil4]) c).set (j:=3) (by simp [nil4]) d
theorem st4 {w : World} {q : Nat} (h : BX7 w q nil4) (a b c d : Value) (ha : ∃ x n k,a = .slice x n k) (hb : ∃ x n k,b = .slice x n k) (hc : ∃ x n k,c = .slice x n k) (hd : ∃ x n k,d = .slice x n k) : (Instr.storeAt 227 (.pointer (some ⟨q,0,none⟩)) (.agg #[a,b,c,d])).run Tryz.prog w = .ok () (put4 w q a b c d):=by
 obtain ⟨a0,n0,k0,rfl⟩:=ha;obtain ⟨a1,n1,k1,rfl⟩:=hb;obtain ⟨a2,n2,k2,rfl⟩:=hc;obtain ⟨a3,n3,k3,rfl⟩:=hd;have c0:=h.cell 0 _ rfl;have c1:=h.cell 1 _ rfl;have c2:=h.cell 2 _ rfl;have c3:=h.cell 3 _ rfl;have f0:=h.free 0;have f1:=h.free 1;have f2:=h.free 2;have f3:=h.free 3
 unfold put4
 go_simp
 first | done | rfl
set_option maxHeartbeats 1000000 in
theorem voters8 (s : Sta) (w : World) (hI : s.In w) (hF : s.Fit) : Calls Tryz.prog 169 #[s.val] w fun e w' => ∃ g0 g1 g2 g3,e = .returned (.agg #[.slice (some ⟨g0,0,none⟩) s.A.length s.A.length,.slice (some ⟨g1,0,none⟩) s.M.length s.M.length,.slice (some ⟨g2,0,none⟩) s.B.length s.B.length,.slice (some ⟨g3,0,none⟩) s.N.length s.N.length])∧SlY ySt w' (some ⟨g0,0,none⟩) s.A.length s.A.length (s.A.map Ak.sm)∧SlY ySt w' (some ⟨g1,0,none⟩) s.M.length s.M.length (s.M.map Mk.sm)∧SlY ySt w' (some ⟨g2,0,none⟩) s.B.length s.B.length (s.B.map Bl.sm)∧SlY ySt w' (some ⟨g3,0,none⟩) s.N.length s.N.length (s.N.map An.sm)∧Below w.heap.size w w':=by
 go_enter Tryz.func169,Tryz.ntmps169
 go_upto_region 0 with fail
 refine wp_region_lit ?_;refine vl_gen (fun T => T.size = 16∧T[0]? = some (gw true (s.val))) ⟨rfl,rfl⟩ (fun Z0 ⟨hz,s0⟩ => ?_)
 obtain ⟨w1,hw1⟩ : ∃ y,y = w.alloc (.cells s.cs.toArray 36):=⟨_,rfl⟩
 have hb : Below w.heap.size w w1:=by rw [hw1];exact (Below.refl _ _).alloc (Nat.le_refl _) _
 have hs1 : w1.heap.size = w.heap.size + 1:=by rw [hw1];simp
 have HS : SB7 w1 (w.heap.size) s:=by rw [hw1];exact BX7.new _ _ _
 refine vw (.pointer (some ⟨w.heap.size,0,none⟩)) w1 (want_none rfl) (ex_box8 rfl (ev s0 rfl) (by rw [hw1];exact bxS7 _ _)) rfl hz (by decide) (fun Z1 zz kk s1x => ?_);clear kk hz s0 hw1;have hz:=zz;have s1:=s1x;clear zz s1x;have hB:=hb;clear hb;have hv0 : Below w1.heap.size w1 w1:=Below.refl _ _
 obtain ⟨w2,hw2⟩ : ∃ y,y = w1.alloc (.cells nil4.toArray 227):=⟨_,rfl⟩
 have hb : Below w1.heap.size w1 w2:=by rw [hw2];exact (Below.refl _ _).alloc (Nat.le_refl _) _
 have HA : BX7 w2 (w.heap.size + 1) nil4:=by rw [hw2,← hs1];exact BX7.new _ _ _
 have q49_0:=(Rp.nil hz).cons s1;clear hz s1;refine vw (.pointer (some ⟨w.heap.size + 1,0,none⟩)) w2 (want_none rfl) (ex_al rfl (by rw [hw2,← hs1];exact al4 _)) rfl q49_0.z (by decide) (q49_0.k fun Ya q49_1 => ?_);clear q49_0;have hz:=q49_1.z;have s1:=q49_1.a 1 rfl;have s2:=q49_1.a 2 rfl;clear q49_1;refine wpList_nil ?_;have hB:=hB.trans (hb.mono (by omega));have HS:=HS.bel hb;have HI:=hI.later hB;have hS : Below w2.heap.size w2 w2.drew:=(Below.refl _ _).drew;clear hv0 hb hw2;have hz2:=hB.size
 go_upto_region 1 with fail
 refine vh_start (fun v => Below w2.heap.size w2 v ∨ UQ8 (w.heap.size + 1) w2 v) (by kernel_rfl) ?_
 have HH : ∀ v,(Below w2.heap.size w2 v ∨ UQ8 (w.heap.size + 1) w2 v) → Upd (fun k => k = w.heap.size + 1) w2 v:=fun v h => h.elim (fun h => Upd.of_below h) (fun ⟨u,h1,h2⟩ => (Upd.of_below h1).trans h2)
 have q50_0:=((Rp.nil hz).cons s1).cons s2;clear hz s1 s2;refine vh_take 0 true (.pointer (some ⟨w.heap.size,8,none⟩)) rfl (by kernel_rfl) (by kernel_rfl) (by kernel_rfl) (want_none rfl) (fun hc v hv => ex_fa rfl (q50_0.e (j:=1) rfl) (faS8 _ _)) rfl q50_0.z (by decide) (.inl hS) (q50_0.k fun Yb q50_1 => ?_);clear q50_0;refine vh_take 1 true (.slice s.ka s.A.length s.kc) rfl (by kernel_rfl) (by kernel_rfl) (by kernel_rfl) (want_none rfl) (fun hc v hv => ex_ld rfl (q50_1.e (j:=3) rfl) (ldK8 ((HS.upd (HH v hv) (by show ¬ w.heap.size = w.heap.size + 1;omega)).cell 8 _ rfl))) rfl q50_1.z (by decide) (.inl hS) (q50_1.k fun Yc q50_2 => ?_);clear q50_1;refine vh_take 3 true (.pointer (some ⟨w.heap.size,9,none⟩)) rfl (by kernel_rfl) (by kernel_rfl) (by kernel_rfl) (want_none rfl) (fun hc v hv => ex_fa rfl (q50_2.e (j:=1) rfl) (faS9 _ _)) rfl q50_2.z (by decide) (.inl hS) (q50_2.k fun Yd q50_3 => ?_);clear q50_2;refine vh_take 4 true (.slice s.ma s.M.length s.mc) rfl (by kernel_rfl) (by kernel_rfl) (by kernel_rfl) (want_none rfl) (fun hc v hv => ex_ld rfl (q50_3.e (j:=6) rfl) (ldM8 ((HS.upd (HH v hv) (by show ¬ w.heap.size = w.heap.size + 1;omega)).cell 9 _ rfl))) rfl q50_3.z (by decide) (.inl hS) (q50_3.k fun Ye q50_4 => ?_);clear q50_3;refine vh_take 6 true (.pointer (some ⟨w.heap.size,10,none⟩)) rfl (by kernel_rfl) (by kernel_rfl) (by kernel_rfl) (want_none rfl) (fun hc v hv => ex_fa rfl (q50_4.e (j:=1) rfl) (faS10 _ _)) rfl q50_4.z (by decide) (.inl hS) (q50_4.k fun Yf q50_5 => ?_);clear q50_4;refine vh_take 7 true (.slice s.ba s.B.length s.bc) rfl (by kernel_rfl) (by kernel_rfl) (by kernel_rfl) (want_none rfl) (fun hc v hv => ex_ld rfl (q50_5.e (j:=9) rfl) (ldB8 ((HS.upd (HH v hv) (by show ¬ w.heap.size = w.heap.size + 1;omega)).cell 10 _ rfl))) rfl q50_5.z (by decide) (.inl hS) (q50_5.k fun Yg q50_6 => ?_);clear q50_5;refine vh_take 9 true (.pointer (some ⟨w.heap.size,11,none⟩)) rfl (by kernel_rfl) (by kernel_rfl) (by kernel_rfl) (want_none rfl) (fun hc v hv => ex_fa rfl (q50_6.e (j:=1) rfl) (faS11 _ _)) rfl q50_6.z (by decide) (.inl hS) (q50_6.k fun Yh q50_7 => ?_);clear q50_6;refine vh_take 10 true (.slice s.na s.N.length s.nc) rfl (by kernel_rfl) (by kernel_rfl) (by kernel_rfl) (want_none rfl) (fun hc v hv => ex_ld rfl (q50_7.e (j:=12) rfl) (ldN8 ((HS.upd (HH v hv) (by show ¬ w.heap.size = w.heap.size + 1;omega)).cell 11 _ rfl))) rfl q50_7.z (by decide) (.inl hS) (q50_7.k fun Yi q50_8 => ?_);clear q50_7;refine vh_call 2 rfl (by kernel_rfl) (want_none rfl) (ex_call rfl (by simp only [List.map_toArray,List.map_cons,List.map_nil,(q50_8.e (j:=4) rfl),evc] <;> rfl) rfl) (Ak.stamps_any s.A s.ka _ s.kc w2.drew (HI.a.later hS) (by have:=hF.al;omega)) rfl q50_8.z (by decide) ?_;rintro e x1 ⟨rfl,o0,b0⟩;have hS:=hS.trans (b0.mono hS.size);have zq0:=hS.size;refine ⟨_,rfl,(.inl hS),q50_8.k fun Yj q50_9 => ?_⟩;clear q50_8;clear b0;refine vh_call 5 rfl (by kernel_rfl) (want_none rfl) (ex_call rfl (by simp only [List.map_toArray,List.map_cons,List.map_nil,(q50_9.e (j:=7) rfl),evc] <;> rfl) rfl) (Mk.stamps_any s.M s.ma _ s.mc x1 (HI.m.later hS) (by have:=hF.ml;omega)) rfl q50_9.z (by decide) ?_;rintro e x2 ⟨rfl,o1,b1⟩;have hS:=hS.trans (b1.mono hS.size);have zq1:=hS.size;have o0:=o0.grow b1;refine ⟨_,rfl,(.inl hS),q50_9.k fun Yk q50_10 => ?_⟩;clear q50_9;clear b1;refine vh_call 8 rfl (by kernel_rfl) (want_none rfl) (ex_call rfl (by simp only [List.map_toArray,List.map_cons,List.map_nil,(q50_10.e (j:=10) rfl),evc] <;> rfl) rfl) (Bl.stamps_any s.B s.ba _ s.bc x2 (HI.b.later hS) (by have:=hF.bl;omega)) rfl q50_10.z (by decide) ?_;rintro e x3 ⟨rfl,o2,b2⟩;have hS:=hS.trans (b2.mono hS.size);have zq2:=hS.size;have o0:=o0.grow b2;have o1:=o1.grow b2;refine ⟨_,rfl,(.inl hS),q50_10.k fun Yl q50_11 => ?_⟩;clear q50_10;clear b2;refine vh_call 11 rfl (by kernel_rfl) (want_none rfl) (ex_call rfl (by simp only [List.map_toArray,List.map_cons,List.map_nil,(q50_11.e (j:=13) rfl),evc] <;> rfl) rfl) (An.stamps_any s.N s.na _ s.nc x3 (HI.n.later hS) (by have:=hF.nl;omega)) rfl q50_11.z (by decide) ?_;rintro e x4 ⟨rfl,o3,b3⟩;have hS:=hS.trans (b3.mono hS.size);have zq3:=hS.size;have o0:=o0.grow b3;have o1:=o1.grow b3;have o2:=o2.grow b3;refine ⟨_,rfl,(.inl hS),q50_11.k fun Ym q50_12 => ?_⟩;clear q50_11;clear b3;refine vh_take 12 true (.agg #[.slice (some ⟨w2.drew.heap.size,0,none⟩) s.A.length s.A.length,.slice (some ⟨x1.heap.size,0,none⟩) s.M.length s.M.length,.slice (some ⟨x2.heap.size,0,none⟩) s.B.length s.B.length,.slice (some ⟨x3.heap.size,0,none⟩) s.N.length s.N.length]) rfl (by kernel_rfl) (by kernel_rfl) (by kernel_rfl) (want_none rfl) (fun hc v hv => ex_buildP rfl (by simp only [List.map_toArray,List.map_cons,List.map_nil,(q50_12.e (j:=5) rfl),(q50_12.e (j:=8) rfl),(q50_12.e (j:=11) rfl),(q50_12.e (j:=14) rfl)] <;> rfl) (bd4 _ _ _ _ _ _ _ _ _ _ _ _ _)) rfl q50_12.z (by decide) (.inl hS) (q50_12.k fun Yn q50_13 => ?_);clear q50_12;refine vh_store8 13 (put4 x4 (w.heap.size + 1) (.slice (some ⟨w2.drew.heap.size,0,none⟩) s.A.length s.A.length) (.slice (some ⟨x1.heap.size,0,none⟩) s.M.length s.M.length) (.slice (some ⟨x2.heap.size,0,none⟩) s.B.length s.B.length) (.slice (some ⟨x3.heap.size,0,none⟩) s.N.length s.N.length)) rfl (by kernel_rfl) (want_none rfl) (ex_st rfl (q50_13.e (j:=2) rfl) (q50_13.e (j:=15) rfl) (st4 (HA.bel hS) _ _ _ _ ⟨_,_,_,rfl⟩ ⟨_,_,_,rfl⟩ ⟨_,_,_,rfl⟩ ⟨_,_,_,rfl⟩)) rfl (.inr ⟨_,hS,put4_upd _ _ _ _ _ _⟩) ?_;have hz:=q50_13.z;have s2:=q50_13.a 2 rfl;clear q50_13;refine vh_done (by kernel_rfl) ?_;have HP:=(HA.bel hS).put4 (.slice (some ⟨w2.drew.heap.size,0,none⟩) s.A.length s.A.length) (.slice (some ⟨x1.heap.size,0,none⟩) s.M.length s.M.length) (.slice (some ⟨x2.heap.size,0,none⟩) s.B.length s.B.length) (.slice (some ⟨x3.heap.size,0,none⟩) s.N.length s.N.length);have UP:=put4_upd x4 (w.heap.size + 1) (.slice (some ⟨w2.drew.heap.size,0,none⟩) s.A.length s.A.length) (.slice (some ⟨x1.heap.size,0,none⟩) s.M.length s.M.length) (.slice (some ⟨x2.heap.size,0,none⟩) s.B.length s.B.length) (.slice (some ⟨x3.heap.size,0,none⟩) s.N.length s.N.length)
 obtain ⟨x5,hx5⟩ : ∃ v,v = (put4 x4 (w.heap.size + 1) (.slice (some ⟨w2.drew.heap.size,0,none⟩) s.A.length s.A.length) (.slice (some ⟨x1.heap.size,0,none⟩) s.M.length s.M.length) (.slice (some ⟨x2.heap.size,0,none⟩) s.B.length s.B.length) (.slice (some ⟨x3.heap.size,0,none⟩) s.N.length s.N.length)):=⟨_,rfl⟩
 rw [← hx5] at HP UP ⊢;clear hx5;have c0:=HP.cell 0 _ rfl;have c1:=HP.cell 1 _ rfl;have c2:=HP.cell 2 _ rfl;have c3:=HP.cell 3 _ rfl;have hz3:=hS.size;have hd : w2.drew.heap.size = w2.heap.size:=rfl;have hgt : w.heap.size + 1 < w2.heap.size:=HA.lt;have p0:=(o0.upd1 UP (fun k hk e => by have:=(o0.blk k hk).1;have:=hS.size;omega)).sl' kSt;have p1:=(o1.upd1 UP (fun k hk e => by have:=(o1.blk k hk).1;have:=hS.size;omega)).sl' kSt;have p2:=(o2.upd1 UP (fun k hk e => by have:=(o2.blk k hk).1;have:=hS.size;omega)).sl' kSt;have p3:=(o3.upd1 UP (fun k hk e => by have:=(o3.blk k hk).1;have:=hS.size;omega)).sl' kSt;have HB9:=hide ((hB.trans (hS.mono hz2)).trans (UP.below (by omega) (fun k hk => by omega)))
 go_wp2
 refine bodyPost_ret (v:=.agg #[.slice (some ⟨w2.drew.heap.size,0,none⟩) s.A.length s.A.length,.slice (some ⟨x1.heap.size,0,none⟩) s.M.length s.M.length,.slice (some ⟨x2.heap.size,0,none⟩) s.B.length s.B.length,.slice (some ⟨x3.heap.size,0,none⟩) s.N.length s.N.length]) (by simp [results,Tryz.results169,go_sem,s2,gw,c0,c1,c2,c3]) rfl ?_
 exact ⟨_,_,_,_,rfl,p0,p1,p2,p3,HB9.out⟩
end Go.Proofs.YtgncpcfncojgoaaGreatDoor
