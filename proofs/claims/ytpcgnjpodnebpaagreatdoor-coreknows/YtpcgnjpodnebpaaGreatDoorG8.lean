import Derived.Test.YtpcgnjpodnebpaaGreatDoorG7
set_option maxRecDepth 100000
set_option linter.unusedVariables false
set_option linter.unusedSimpArgs false
set_option maxHeartbeats 8000000
namespace Go.Proofs.YtpcgnjpodnebpaaGreatDoor
open Go.RowKit Go.Maps
open Classical
theorem Mk.delete_any (p : Mk → Bool) (f : Nat) (lb : Array Value) (eg : ∀ args w,(callFunc f args).run Tryz.prog w = .ok (.enter f args) w) (L : List Mk) (n g B : Nat) (w : World) (hn : L.length = n) (h : OwnY yMkV B w (.slice (some ⟨g,0,none⟩) n n) L) (hB : B ≤ w.heap.size)
  (hp : ∀ (W : World) (x : Mk),Upd (· = g) w W → Calls Tryz.prog f (#[x.val] ++ lb) W fun e w' => e = .returned (.bool (p x))∧Below W.heap.size W w') :
  Calls Tryz.prog 134 #[.slice (some ⟨g,0,none⟩) n n,.func (.func f) #[] lb] w fun e w' => ∃ m : Nat,e = .returned (.slice (some ⟨g,0,none⟩) m n)∧OwnY yMkV B w' (.slice (some ⟨g,0,none⟩) m n) (L.filter (fun x => !p x))∧Below B w w':=by
 have hgb : B ≤ g∧g < w.heap.size:=by
  obtain ⟨_,_,ee,_,_,_,h4⟩:=h.form
  injection ee with ee
  obtain ⟨g',e2,h6,h5⟩:=h4 _ ee.symm
  cases e2
  exact ⟨h6,h5⟩
 have hnm : n ≤ 9223372036854775807:=by have:=(h.sl' kMkV).max;unfold maxLen at this;omega
 have O:=hide h;have HN:=hide hn;have HP:=hide hp;have CI:=hide (Mk.index_any p f lb eg L (some ⟨g,0,none⟩) n n w (h.sl' kMkV) (fun W x hW => (hp W x (Upd.of_below hW)).mono fun e w' hq => ⟨hq.1,hW.trans (hq.2.mono hW.size)⟩));clear h hn hp
 cases hf : L.findIdx? p with
 | none =>
  have hix : ix p L = -1:=by unfold ix;rw [hf]
  have hfl : Hid (L.filter (fun x => !p x) = L):=by
   show _ = _
   rw [List.filter_eq_self];intro x hx;have:=(List.findIdx?_eq_none_iff.1 hf) x hx
   simp [this]
  rw [hix] at CI;clear hf hix
  go_enter Tryz.func134,Tryz.ntmps134
  go_wp2_with fail
  refine CI.out.mono ?_;rintro e w1 ⟨rfl,b1⟩;have O1:=hide (O.out.grow b1);clear CI
  dsimp only
  go_wp2
  go_ret
  exact ⟨n,rfl,by rw [hfl.out];exact O1.out,b1.mono hB⟩
 | some i0 =>
  have hix : ix p L = (i0 : Int):=by unfold ix;rw [hf]
  obtain ⟨hil,hpi,hno⟩:=List.findIdx?_eq_some_iff_getElem.1 hf
  have hin : i0 < n:=by rw [← HN.out];exact hil
  have hst : Hid (L.take i0 = (L.take (i0 + 1)).filter (fun x => !p x)):=by
   show _ = _
   rw [List.take_add_one,List.getElem?_eq_getElem hil,Option.toList_some,List.filter_append,List.filter_cons,hpi];simp only [Bool.not_true,Bool.false_eq_true,if_false,List.filter_nil,List.append_nil]
   symm
   rw [List.filter_eq_self];intro x hx;obtain ⟨j,hj,rfl⟩:=List.mem_iff_getElem.1 hx;rw [List.length_take] at hj;have:=hno j (by omega);rw [List.getElem_take]
   simpa using this
  rw [hix] at CI;clear hf hix hno hpi
  have hm1 : ((i0 : Int) == -1) = false:=by rw [beq_eq_false_iff_ne];omega
  have hw1 : IntKind.i64.wrap ((i0 : Int) + 1) = (i0 : Int) + 1:=by rw [IntKind.wrap_i64];omega
  go_enter Tryz.func134,Tryz.ntmps134
  go_wp2_with fail
  refine CI.out.mono ?_;rintro e w1 ⟨rfl,b1⟩;have O1:=hide (O.out.grow b1);clear CI O
  dsimp only
  go_wp2_with fail
  go_loopw [6,5] (fun jj ii wr => ∃ (i j : Nat) (XX : List Mk),ii = .int .i64 (i : Int)∧jj = .int .i64 (j : Int)∧i < j∧j ≤ n∧Hid (OwnY yMkV B wr (.slice (some ⟨g,0,none⟩) n n) XX)∧Hid (XX.take i = (L.take j).filter (fun x => !p x)∧XX.drop j = L.drop j)∧Hid (Upd (· = g) w wr)) (fun jj _ _ => n - (intOf jj).toNat)
  case atStart => exact ⟨i0,i0 + 1,L,rfl,by go_num,by omega,by omega,O1,⟨hst.out,rfl⟩,Upd.of_below b1⟩
  case round =>
   clear b1 O1 hst;obtain ⟨i,j,XX,rfl,rfl,hij,hj,hO,hX,hU⟩:=hrel;have hXl : Hid (XX.length = n):=(hO.out.sl' kMkV).len;have hUs:=hU.out.size
   by_cases hlt : j < n
   ·have hjl : j < L.length:=by rw [HN.out];exact hlt
    have hgx : XX[j]? = some L[j]:=by
     have h1 : (XX.drop j)[0]? = (L.drop j)[0]?:=by rw [hX.out.2]
     rw [List.getElem?_drop,List.getElem?_drop,Nat.add_zero,List.getElem?_eq_getElem hjl] at h1
     exact h1
    obtain ⟨q,o,ea,hq,y0,y1,y2⟩:=(hO.out.sl' kMkV).MkV hgx
    cases ea
    simp only [Nat.zero_add] at y0 y1 y2
    have hcall:=fun W hW => HP.out W L[j] hW
    have hskip : Hid (p L[j] = true → XX.take i = (L.take (j + 1)).filter (fun x => !p x)):=fun hpx => by
     rw [hX.out.1,List.take_add_one,List.getElem?_eq_getElem hjl,Option.toList_some,List.filter_append,List.filter_cons,hpx]
     simp
    have hkeep : Hid (p L[j] = false → (XX.set i L[j]).take (i + 1) = (L.take (j + 1)).filter (fun x => !p x)):=fun hpx => by
     have hi2 : i < XX.length:=by rw [hXl.out];omega
     rw [List.take_add_one,List.getElem?_set_self hi2,Option.toList_some,List.take_set_of_le LR,hX.out.1,List.take_add_one,List.getElem?_eq_getElem hjl,Option.toList_some,List.filter_append,List.filter_cons,hpx]
     simp
    have hdrop : Hid (XX.drop (j + 1) = L.drop (j + 1)∧∀ x,(XX.set i x).drop (j + 1) = L.drop (j + 1)):=by
     have h1 : XX.drop (j + 1) = L.drop (j + 1):=by
      rw [← List.drop_drop,← List.drop_drop,hX.out.2]
     exact ⟨h1,fun x => by rw [List.drop_set_of_lt (by omega)];exact h1⟩
    have hgi : Hid (XX[i]? = some (XX[i]'(by rw [hXl.out];omega))):=List.getElem?_eq_getElem _;clear hgx hX
    generalize L[j] = x at *
    unfold Mk.val at hcall
    have bA : Below wr.heap.size wr (wr.alloc (.cells #[.int .i64 x.n,.int .u64 x.h,.int .u64 x.l] 149)):=(Below.refl _ wr).alloc LR _;have UA:=hide (hU.out.trans (Upd.of_below bA));have OA:=hide (hO.out.alloc (.cells #[.int .i64 x.n,.int .u64 x.h,.int .u64 x.l] 149));have hcl:=hide (hcall _ UA.out);clear hO hU bA hcall
    cases hpx : p x with
    | true =>
     have ht:=hide (hskip.out hpx);clear hskip hkeep
     go_wp2_with (go_at_fn f;refine (hpx ▸ hcl.out).mono ?_;rintro e w2 ⟨rfl,b2⟩)
     go_round
     case rel => exact ⟨i,j + 1,XX,rfl,by go_num,by omega,by omega,OA.out.grow b2,⟨ht.out,hdrop.out.1⟩,UA.out.trans (Upd.of_below b2)⟩
     case measure => simp [intOf];omega
    | false =>
     have ht:=hide (hkeep.out hpx);clear hskip hkeep
     generalize hXi : (XX[i]'(by rw [hXl.out];omega)) = xi at hgi
     clear hXi
     have hii : (i : Int) < (n : Int):=by omega
     go_wp2_with (first
      | (go_at_fn f;refine (hpx ▸ hcl.out).mono ?_;rintro e w2 ⟨rfl,b2⟩;have O2:=hide (OA.out.grow b2);have U2:=hide (UA.out.trans (Upd.of_below b2));have z2:=b2.size;have hbx:=x.box wr w2 (by simpa using b2);obtain ⟨z0,z1,z2⟩:=hbx;clear b2)
      | (refine storeY kMkV _ rfl 149 (.tmp 33) (.tmp 32) rfl B g n n XX i 0 xi x _ rfl rfl hgi.out (by kernel_rfl) (by exact (by decide : 3 ≤ 3)) rfl O2.out ?_;intro w3 o3 u3 z3;have O3:=hide o3;have U3:=hide (U2.out.trans u3);clear o3 u3)
      | go_in)
     go_round
     case rel => exact ⟨i + 1,j + 1,XX.set i x,by go_num,by go_num,by omega,by omega,O3,⟨ht.out,hdrop.out.2 x⟩,U3⟩
     case measure => simp [intOf];omega
   ·obtain rfl : j = n:=by omega
    have hii : (i : Int) ≤ (j : Int):=by omega
    have hi1 : ¬ (j = i):=by omega
    go_wp2_with (refine clearY kMkV _ rfl (.tmp 38) rfl B g i (j - i) j j (j - i) XX rfl hO.out (by omega) (by omega) ?zk)
    intro w2 o2 u2 z2;have O2:=o2.pre kMkV i (by omega)
    have e1 : (Go.Proofs.YtpcgnjpodnebpaaGreatDoor.put XX i (List.replicate (j - i) yMkV.z)).take i = L.filter (fun x => !p x):=by
     have hl : (XX.take i).length = i:=by rw [List.length_take,hXl.out];omega
     unfold Go.Proofs.YtpcgnjpodnebpaaGreatDoor.put
     rw [List.append_assoc,List.take_append_of_le_length (by omega),List.take_of_length_le (by omega),hX.out.1,List.take_of_length_le (by rw [HN.out];exact LR)]
    rw [e1] at O2;have O3:=hide O2;have U3:=hide (hU.out.trans u2);clear o2 u2 O2 e1 hO hX
    go_wp2
    go_ret
    exact ⟨i,rfl,O3.out,U3.out.below hB (fun k e => by subst e;exact hgb.1)⟩
theorem Mk.f60 (args : Array Value) (w : World) : (callFunc 135 args).run Tryz.prog w = .ok (.enter 135 args) w:=enters_of Tryz.func135 (by kernel_rfl) rfl args w
theorem Mk.over_any (D : List (Int × Int)) (x : Mk) (a : Option Addr) (n c b : Nat) (w : World) (hb : b < w.heap.size) (hc : w.cell? ⟨b,0,none⟩ = some (.slice a n c)) (hD : SlY yD w a n c D) : Calls Tryz.prog 135 #[x.val,.pointer (some ⟨b,0,none⟩)] w fun e w' => e = .returned (.bool (ovr D x.n x.h x.l))∧Below w.heap.size w w':=by
 have hbW : b ≠ w.heap.size:=by omega
 have HB : Hid (∀ v,Below (w.heap.size + 1) (w.alloc (.cells #[.int .i64 x.n,.int .u64 x.h,.int .u64 x.l] 149)) v → Below w.heap.size w v):=fun v hv => ((Below.refl _ w).alloc LR _).trans (hv.mono (by omega))
 have KH : Hid (∀ v,Below (w.heap.size + 1) (w.alloc (.cells #[.int .i64 x.n,.int .u64 x.h,.int .u64 x.l] 149)) v → (v.cell? ⟨w.heap.size,0,none⟩ = some (.int .i64 x.n)∧v.cell? ⟨w.heap.size,1,none⟩ = some (.int .u64 x.h)∧v.cell? ⟨w.heap.size,2,none⟩ = some (.int .u64 x.l))∧v.cell? ⟨b,0,none⟩ = some (.slice a n c)):=fun v hv => ⟨x.box w v hv,((HB.out v hv).cell (p:=⟨b,0,none⟩) hb).trans hc⟩
 have CO:=hide (fun W (hW : Below w.heap.size w W) => isover_any D a n c x.n x.h x.l W (hD.later hW))
 generalize ovr D x.n x.h x.l = V at *
 clear hc hD
 show Calls Tryz.prog 135 #[.agg #[.int .i64 x.n,.int .u64 x.h,.int .u64 x.l],.pointer (some ⟨b,0,none⟩)] w _
 go_enter Tryz.func135,Tryz.ntmps135
 go_wp2_with fail
 refine region_q9 (C:=fun v => Below (w.heap.size + 1) (w.alloc (.cells #[.int .i64 x.n,.int .u64 x.h,.int .u64 x.l] 149)) v) (by kernel_rfl) (by kernel_rfl) BR.drew ?_;refine wqv (u:=.slice a n c) (by kernel_rfl) (fun v hv => by obtain ⟨_,y0⟩:=KH.out v hv;go_simp) ?_;simp only [pu,pn,pv,pw,px];refine wqv (u:=x.val) (by kernel_rfl) (fun v hv => by obtain ⟨⟨y0,y1,y2⟩,_⟩:=KH.out v hv;go_simp;rfl) ?_;refine wqk (.iface 149 x.val) ?_;simp only [pu,pn,pv,pw,px];refine wqi (fid:=175) (args:=#[x.val]) (AS:=#[]) (V:=.iface 149 x.val) (u:=.int .i64 x.n) (by kernel_rfl) _ _ rfl (by kernel_rfl) (by kernel_rfl) (fun v => x.ifnode v) (fun v hv => (x.node_any v).mono fun e w' h => ⟨h.1,hv.trans (h.2.mono (by have:=hv.size;rwa [World.size_alloc] at this))⟩) ?_;simp only [pu,pn,pv,pw,px];refine wqv (u:=x.val) (by kernel_rfl) (fun v hv => by obtain ⟨⟨y0,y1,y2⟩,_⟩:=KH.out v hv;go_simp;rfl) ?_;refine wqk (.iface 149 x.val) ?_;simp only [pu,pn,pv,pw,px];refine wqi (fid:=173) (args:=#[x.val]) (AS:=#[]) (V:=.iface 149 x.val) (u:=.agg #[.int .u64 x.h,.int .u64 x.l]) (by kernel_rfl) _ _ rfl (by kernel_rfl) (by kernel_rfl) (fun v => x.ifdraw v) (fun v hv => (x.draw_any v).mono fun e w' h => ⟨h.1,hv.trans (h.2.mono (by have:=hv.size;rwa [World.size_alloc] at this))⟩) ?_;simp only [pu,pn,pv,pw,px];refine wqc (fid:=133) (args:=#[.slice a n c,.int .i64 x.n,.agg #[.int .u64 x.h,.int .u64 x.l]]) (u:=.bool V) (by kernel_rfl) (fun v => by kernel_rfl) (fun v hv => (CO.out v (HB.out v hv)).mono fun e w' h => ⟨h.1,hv.trans (h.2.mono (by have:=hv.size;rwa [World.size_alloc] at this))⟩) ?_;refine wqk (.bool V) ?_;simp only [pu,pn,pv,pw,px];refine wqnil (fun v hv => ?_);have BV:=hide (HB.out v hv);clear hv KH CO HB
 go_wp2
 go_ret
 exact ⟨rfl,BV.out⟩
def Mk.prn (L : List Mk) (D : List (Int × Int)) : List Mk:=L.filter (fun x => !ovr D x.n x.h x.l)
theorem Mk.prune_any (L : List Mk) (D : List (Int × Int)) (a : Option Addr) (vn vc n g B : Nat) (w : World) (hn : L.length = n) (h : OwnY yMkV B w (.slice (some ⟨g,0,none⟩) n n) L) (hB : B ≤ w.heap.size) (hD : SlY yD w a vn vc D) (hDg : ∀ z,a = some z → D ≠ [] → z.block ≠ g) :
  Calls Tryz.prog 96 #[.slice (some ⟨g,0,none⟩) n n,.slice a vn vc] w fun e w' => ∃ m : Nat,e = .returned (.slice (some ⟨g,0,none⟩) m n)∧OwnY yMkV B w' (.slice (some ⟨g,0,none⟩) m n) (Mk.prn L D)∧Below B w w':=by
 have hgl : g < w.heap.size:=by
  obtain ⟨_,_,ee,_,_,_,h4⟩:=h.form
  injection ee with ee
  obtain ⟨g',e2,_,h5⟩:=h4 _ ee.symm
  cases e2
  exact h5
 have b1 : Below w.heap.size w (w.alloc (.cells #[.slice a vn vc] 27)):=(Below.refl _ w).alloc LR _;have O1:=h.alloc (.cells #[.slice a vn vc] 27);have cd:=Mk.delete_any (fun x => ovr D x.n x.h x.l) 135 #[.pointer (some ⟨w.heap.size,0,none⟩)] Mk.f60 L n g B (w.alloc (.cells #[.slice a vn vc] 27)) hn O1 (by simp;omega) (fun W x hU => Mk.over_any D x a vn vc w.heap.size W (by have:=hU.size;simp at this;omega) ((hU.cell (p:=⟨w.heap.size,0,none⟩) (by simp) (by show ¬ (w.heap.size = g);omega)).trans (by simp)) ((hD.later b1).upd hU (fun z hz hne => hDg z hz hne)));have CD:=hide cd;have B1:=hide b1;clear cd b1 O1 h hD hDg
 go_enter Tryz.func96,Tryz.ntmps96
 go_wp2_with fail
 refine CD.out.mono ?_;rintro e w2 ⟨m,rfl,o2,b2⟩;have O2:=hide o2;clear o2 CD
 dsimp only
 go_wp2
 go_ret
 exact ⟨m,rfl,O2.out,(B1.out.mono hB).trans b2⟩
theorem Mk.Prune_any (L : List Mk) (D : List (Int × Int)) (a av : Option Addr) (n c vn vc : Nat) (w : World) (h : SlY yMkA w a n c L) (hD : SlY yD w av vn vc D) (hm : n * 24 ≤ 281474976710656) :
  Calls Tryz.prog 61 #[.slice a n c,.slice av vn vc] w fun e w' => ∃ v,e = .returned v∧OwnY yMkA w.heap.size w' v (Mk.prn L D)∧Below w.heap.size w w':=by
 have hln:=h.len;have ch:=hide (Mk.hold_any L a n c w h hm);have HD:=hide hD
 have HL : Hid ((Mk.prn L D).length * 24 ≤ 281474976710656):=by
  show _ ≤ _
  have h1 : (Mk.prn L D).length ≤ n:=by rw [← hln];exact List.length_filter_le _ _
  have h2:=Nat.mul_le_mul_right 24 h1
  omega
 clear h hD
 go_enter Tryz.func61,Tryz.ntmps61
 go_wp2_with fail
 refine ch.out.mono ?_;rintro e w1 ⟨rfl,o1,b1⟩;have z1:=b1.size
 have cp:=hide (Mk.prune_any L D av vn vc n w.heap.size w.heap.size w1 hln o1 z1 (HD.out.later b1) (fun z hz hne => by
  rcases HD.out.at_ z hz with e | ⟨q,o,rfl,hq,_⟩
  ·exact absurd e hne
  ·show q ≠ w.heap.size
   omega))
 clear ch o1
 dsimp only
 go_wp2_with fail
 refine cp.out.mono ?_;rintro e w2 ⟨m,rfl,o2,b2⟩;have s2:=o2.sl' kMkV;have hm2:=s2.len;have B2:=hide (b1.trans b2);have z2:=b2.size;have ct:=hide (Mk.tell_any (Mk.prn L D) _ m n w2 s2 (by rw [← hm2];exact HL.out));clear cp o2 s2 b1 b2
 dsimp only
 go_wp2_with fail
 refine ct.out.mono ?_;rintro e w3 ⟨rfl,o3,b3⟩;have O3:=hide (o3.low (B':=w.heap.size) (by omega));have B3:=hide (B2.out.trans (b3.mono (by omega)));clear ct o3 b3
 dsimp only
 go_wp2
 go_ret
 exact ⟨_,rfl,O3.out,B3.out⟩
theorem Bl.delete_any (p : Bl → Bool) (f : Nat) (lb : Array Value) (eg : ∀ args w,(callFunc f args).run Tryz.prog w = .ok (.enter f args) w) (L : List Bl) (n g B : Nat) (w : World) (hn : L.length = n) (h : OwnY yBlV B w (.slice (some ⟨g,0,none⟩) n n) L) (hB : B ≤ w.heap.size)
  (hp : ∀ (W : World) (x : Bl),Upd (· = g) w W → Calls Tryz.prog f (#[x.val] ++ lb) W fun e w' => e = .returned (.bool (p x))∧Below W.heap.size W w') :
  Calls Tryz.prog 136 #[.slice (some ⟨g,0,none⟩) n n,.func (.func f) #[] lb] w fun e w' => ∃ m : Nat,e = .returned (.slice (some ⟨g,0,none⟩) m n)∧OwnY yBlV B w' (.slice (some ⟨g,0,none⟩) m n) (L.filter (fun x => !p x))∧Below B w w':=by
 have hgb : B ≤ g∧g < w.heap.size:=by
  obtain ⟨_,_,ee,_,_,_,h4⟩:=h.form
  injection ee with ee
  obtain ⟨g',e2,h6,h5⟩:=h4 _ ee.symm
  cases e2
  exact ⟨h6,h5⟩
 have hnm : n ≤ 9223372036854775807:=by have:=(h.sl' kBlV).max;unfold maxLen at this;omega
 have O:=hide h;have HN:=hide hn;have HP:=hide hp;have CI:=hide (Bl.index_any p f lb eg L (some ⟨g,0,none⟩) n n w (h.sl' kBlV) (fun W x hW => (hp W x (Upd.of_below hW)).mono fun e w' hq => ⟨hq.1,hW.trans (hq.2.mono hW.size)⟩));clear h hn hp
 cases hf : L.findIdx? p with
 | none =>
  have hix : ix p L = -1:=by unfold ix;rw [hf]
  have hfl : Hid (L.filter (fun x => !p x) = L):=by
   show _ = _
   rw [List.filter_eq_self];intro x hx;have:=(List.findIdx?_eq_none_iff.1 hf) x hx
   simp [this]
  rw [hix] at CI;clear hf hix
  go_enter Tryz.func136,Tryz.ntmps136
  go_wp2_with fail
  refine CI.out.mono ?_;rintro e w1 ⟨rfl,b1⟩;have O1:=hide (O.out.grow b1);clear CI
  dsimp only
  go_wp2
  go_ret
  exact ⟨n,rfl,by rw [hfl.out];exact O1.out,b1.mono hB⟩
 | some i0 =>
  have hix : ix p L = (i0 : Int):=by unfold ix;rw [hf]
  obtain ⟨hil,hpi,hno⟩:=List.findIdx?_eq_some_iff_getElem.1 hf
  have hin : i0 < n:=by rw [← HN.out];exact hil
  have hst : Hid (L.take i0 = (L.take (i0 + 1)).filter (fun x => !p x)):=by
   show _ = _
   rw [List.take_add_one,List.getElem?_eq_getElem hil,Option.toList_some,List.filter_append,List.filter_cons,hpi];simp only [Bool.not_true,Bool.false_eq_true,if_false,List.filter_nil,List.append_nil]
   symm
   rw [List.filter_eq_self];intro x hx;obtain ⟨j,hj,rfl⟩:=List.mem_iff_getElem.1 hx;rw [List.length_take] at hj;have:=hno j (by omega);rw [List.getElem_take]
   simpa using this
  rw [hix] at CI;clear hf hix hno hpi
  have hm1 : ((i0 : Int) == -1) = false:=by rw [beq_eq_false_iff_ne];omega
  have hw1 : IntKind.i64.wrap ((i0 : Int) + 1) = (i0 : Int) + 1:=by rw [IntKind.wrap_i64];omega
  go_enter Tryz.func136,Tryz.ntmps136
  go_wp2_with fail
  refine CI.out.mono ?_;rintro e w1 ⟨rfl,b1⟩;have O1:=hide (O.out.grow b1);clear CI O
  dsimp only
  go_wp2_with fail
  go_loopw [6,5] (fun jj ii wr => ∃ (i j : Nat) (XX : List Bl),ii = .int .i64 (i : Int)∧jj = .int .i64 (j : Int)∧i < j∧j ≤ n∧Hid (OwnY yBlV B wr (.slice (some ⟨g,0,none⟩) n n) XX)∧Hid (XX.take i = (L.take j).filter (fun x => !p x)∧XX.drop j = L.drop j)∧Hid (Upd (· = g) w wr)) (fun jj _ _ => n - (intOf jj).toNat)
  case atStart => exact ⟨i0,i0 + 1,L,rfl,by go_num,by omega,by omega,O1,⟨hst.out,rfl⟩,Upd.of_below b1⟩
  case round =>
   clear b1 O1 hst;obtain ⟨i,j,XX,rfl,rfl,hij,hj,hO,hX,hU⟩:=hrel;have hXl : Hid (XX.length = n):=(hO.out.sl' kBlV).len;have hUs:=hU.out.size
   by_cases hlt : j < n
   ·have hjl : j < L.length:=by rw [HN.out];exact hlt
    have hgx : XX[j]? = some L[j]:=by
     have h1 : (XX.drop j)[0]? = (L.drop j)[0]?:=by rw [hX.out.2]
     rw [List.getElem?_drop,List.getElem?_drop,Nat.add_zero,List.getElem?_eq_getElem hjl] at h1
     exact h1
    obtain ⟨q,o,ea,hq,y0,y1,y2,y3,y4,y5⟩:=(hO.out.sl' kBlV).BlV hgx
    cases ea
    simp only [Nat.zero_add] at y0 y1 y2 y3 y4 y5
    have hcall:=fun W hW => HP.out W L[j] hW
    have hskip : Hid (p L[j] = true → XX.take i = (L.take (j + 1)).filter (fun x => !p x)):=fun hpx => by
     rw [hX.out.1,List.take_add_one,List.getElem?_eq_getElem hjl,Option.toList_some,List.filter_append,List.filter_cons,hpx]
     simp
    have hkeep : Hid (p L[j] = false → (XX.set i L[j]).take (i + 1) = (L.take (j + 1)).filter (fun x => !p x)):=fun hpx => by
     have hi2 : i < XX.length:=by rw [hXl.out];omega
     rw [List.take_add_one,List.getElem?_set_self hi2,Option.toList_some,List.take_set_of_le LR,hX.out.1,List.take_add_one,List.getElem?_eq_getElem hjl,Option.toList_some,List.filter_append,List.filter_cons,hpx]
     simp
    have hdrop : Hid (XX.drop (j + 1) = L.drop (j + 1)∧∀ x,(XX.set i x).drop (j + 1) = L.drop (j + 1)):=by
     have h1 : XX.drop (j + 1) = L.drop (j + 1):=by
      rw [← List.drop_drop,← List.drop_drop,hX.out.2]
     exact ⟨h1,fun x => by rw [List.drop_set_of_lt (by omega)];exact h1⟩
    have hgi : Hid (XX[i]? = some (XX[i]'(by rw [hXl.out];omega))):=List.getElem?_eq_getElem _;clear hgx hX
    generalize L[j] = x at *
    unfold Bl.val at hcall
    have bA : Below wr.heap.size wr (wr.alloc (.cells #[.int .i64 x.n,.int .u64 x.h,.int .u64 x.l,.int .i64 x.v,.int .i64 x.c,.slice x.s.a x.s.D.length x.s.c] 157)):=(Below.refl _ wr).alloc LR _;have UA:=hide (hU.out.trans (Upd.of_below bA));have OA:=hide (hO.out.alloc (.cells #[.int .i64 x.n,.int .u64 x.h,.int .u64 x.l,.int .i64 x.v,.int .i64 x.c,.slice x.s.a x.s.D.length x.s.c] 157));have hcl:=hide (hcall _ UA.out);clear hO hU bA hcall
    cases hpx : p x with
    | true =>
     have ht:=hide (hskip.out hpx);clear hskip hkeep
     go_wp2_with (go_at_fn f;refine (hpx ▸ hcl.out).mono ?_;rintro e w2 ⟨rfl,b2⟩)
     go_round
     case rel => exact ⟨i,j + 1,XX,rfl,by go_num,by omega,by omega,OA.out.grow b2,⟨ht.out,hdrop.out.1⟩,UA.out.trans (Upd.of_below b2)⟩
     case measure => simp [intOf];omega
    | false =>
     have ht:=hide (hkeep.out hpx);clear hskip hkeep
     generalize hXi : (XX[i]'(by rw [hXl.out];omega)) = xi at hgi
     clear hXi
     have hii : (i : Int) < (n : Int):=by omega
     go_wp2_with (first
      | (go_at_fn f;refine (hpx ▸ hcl.out).mono ?_;rintro e w2 ⟨rfl,b2⟩;have O2:=hide (OA.out.grow b2);have U2:=hide (UA.out.trans (Upd.of_below b2));have z2:=b2.size;have hbx:=x.box wr w2 (by simpa using b2);obtain ⟨z0,z1,z2,z3,z4,z5⟩:=hbx;clear b2)
      | (refine storeY kBlV _ rfl 157 (.tmp 33) (.tmp 32) rfl B g n n XX i 0 xi x _ rfl rfl hgi.out (by kernel_rfl) (by exact (by decide : 6 ≤ 6)) rfl O2.out ?_;intro w3 o3 u3 z3;have O3:=hide o3;have U3:=hide (U2.out.trans u3);clear o3 u3)
      | go_in)
     go_round
     case rel => exact ⟨i + 1,j + 1,XX.set i x,by go_num,by go_num,by omega,by omega,O3,⟨ht.out,hdrop.out.2 x⟩,U3⟩
     case measure => simp [intOf];omega
   ·obtain rfl : j = n:=by omega
    have hii : (i : Int) ≤ (j : Int):=by omega
    have hi1 : ¬ (j = i):=by omega
    go_wp2_with (refine clearY kBlV _ rfl (.tmp 38) rfl B g i (j - i) j j (j - i) XX rfl hO.out (by omega) (by omega) ?zk)
    intro w2 o2 u2 z2;have O2:=o2.pre kBlV i (by omega)
    have e1 : (Go.Proofs.YtpcgnjpodnebpaaGreatDoor.put XX i (List.replicate (j - i) yBlV.z)).take i = L.filter (fun x => !p x):=by
     have hl : (XX.take i).length = i:=by rw [List.length_take,hXl.out];omega
     unfold Go.Proofs.YtpcgnjpodnebpaaGreatDoor.put
     rw [List.append_assoc,List.take_append_of_le_length (by omega),List.take_of_length_le (by omega),hX.out.1,List.take_of_length_le (by rw [HN.out];exact LR)]
    rw [e1] at O2;have O3:=hide O2;have U3:=hide (hU.out.trans u2);clear o2 u2 O2 e1 hO hX
    go_wp2
    go_ret
    exact ⟨i,rfl,O3.out,U3.out.below hB (fun k e => by subst e;exact hgb.1)⟩
theorem Bl.f60 (args : Array Value) (w : World) : (callFunc 137 args).run Tryz.prog w = .ok (.enter 137 args) w:=enters_of Tryz.func137 (by kernel_rfl) rfl args w
theorem Bl.over_any (D : List (Int × Int)) (x : Bl) (a : Option Addr) (n c b : Nat) (w : World) (hb : b < w.heap.size) (hc : w.cell? ⟨b,0,none⟩ = some (.slice a n c)) (hD : SlY yD w a n c D) : Calls Tryz.prog 137 #[x.val,.pointer (some ⟨b,0,none⟩)] w fun e w' => e = .returned (.bool (ovr D x.n x.h x.l))∧Below w.heap.size w w':=by
 have hbW : b ≠ w.heap.size:=by omega
 have HB : Hid (∀ v,Below (w.heap.size + 1) (w.alloc (.cells #[.int .i64 x.n,.int .u64 x.h,.int .u64 x.l,.int .i64 x.v,.int .i64 x.c,.slice x.s.a x.s.D.length x.s.c] 157)) v → Below w.heap.size w v):=fun v hv => ((Below.refl _ w).alloc LR _).trans (hv.mono (by omega))
 have KH : Hid (∀ v,Below (w.heap.size + 1) (w.alloc (.cells #[.int .i64 x.n,.int .u64 x.h,.int .u64 x.l,.int .i64 x.v,.int .i64 x.c,.slice x.s.a x.s.D.length x.s.c] 157)) v → (v.cell? ⟨w.heap.size,0,none⟩ = some (.int .i64 x.n)∧v.cell? ⟨w.heap.size,1,none⟩ = some (.int .u64 x.h)∧v.cell? ⟨w.heap.size,2,none⟩ = some (.int .u64 x.l)∧v.cell? ⟨w.heap.size,3,none⟩ = some (.int .i64 x.v)∧v.cell? ⟨w.heap.size,4,none⟩ = some (.int .i64 x.c)∧v.cell? ⟨w.heap.size,5,none⟩ = some (.slice x.s.a x.s.D.length x.s.c))∧v.cell? ⟨b,0,none⟩ = some (.slice a n c)):=fun v hv => ⟨x.box w v hv,((HB.out v hv).cell (p:=⟨b,0,none⟩) hb).trans hc⟩
 have CO:=hide (fun W (hW : Below w.heap.size w W) => isover_any D a n c x.n x.h x.l W (hD.later hW))
 generalize ovr D x.n x.h x.l = V at *
 clear hc hD
 show Calls Tryz.prog 137 #[.agg #[.int .i64 x.n,.int .u64 x.h,.int .u64 x.l,.int .i64 x.v,.int .i64 x.c,.slice x.s.a x.s.D.length x.s.c],.pointer (some ⟨b,0,none⟩)] w _
 go_enter Tryz.func137,Tryz.ntmps137
 go_wp2_with fail
 refine region_q9 (C:=fun v => Below (w.heap.size + 1) (w.alloc (.cells #[.int .i64 x.n,.int .u64 x.h,.int .u64 x.l,.int .i64 x.v,.int .i64 x.c,.slice x.s.a x.s.D.length x.s.c] 157)) v) (by kernel_rfl) (by kernel_rfl) BR.drew ?_;refine wqv (u:=.slice a n c) (by kernel_rfl) (fun v hv => by obtain ⟨_,y0⟩:=KH.out v hv;go_simp) ?_;simp only [pu,pn,pv,pw,px];refine wqv (u:=x.val) (by kernel_rfl) (fun v hv => by obtain ⟨⟨y0,y1,y2,y3,y4,y5⟩,_⟩:=KH.out v hv;go_simp;rfl) ?_;refine wqk (.iface 157 x.val) ?_;simp only [pu,pn,pv,pw,px];refine wqi (fid:=178) (args:=#[x.val]) (AS:=#[]) (V:=.iface 157 x.val) (u:=.int .i64 x.n) (by kernel_rfl) _ _ rfl (by kernel_rfl) (by kernel_rfl) (fun v => x.ifnode v) (fun v hv => (x.node_any v).mono fun e w' h => ⟨h.1,hv.trans (h.2.mono (by have:=hv.size;rwa [World.size_alloc] at this))⟩) ?_;simp only [pu,pn,pv,pw,px];refine wqv (u:=x.val) (by kernel_rfl) (fun v hv => by obtain ⟨⟨y0,y1,y2,y3,y4,y5⟩,_⟩:=KH.out v hv;go_simp;rfl) ?_;refine wqk (.iface 157 x.val) ?_;simp only [pu,pn,pv,pw,px];refine wqi (fid:=176) (args:=#[x.val]) (AS:=#[]) (V:=.iface 157 x.val) (u:=.agg #[.int .u64 x.h,.int .u64 x.l]) (by kernel_rfl) _ _ rfl (by kernel_rfl) (by kernel_rfl) (fun v => x.ifdraw v) (fun v hv => (x.draw_any v).mono fun e w' h => ⟨h.1,hv.trans (h.2.mono (by have:=hv.size;rwa [World.size_alloc] at this))⟩) ?_;simp only [pu,pn,pv,pw,px];refine wqc (fid:=133) (args:=#[.slice a n c,.int .i64 x.n,.agg #[.int .u64 x.h,.int .u64 x.l]]) (u:=.bool V) (by kernel_rfl) (fun v => by kernel_rfl) (fun v hv => (CO.out v (HB.out v hv)).mono fun e w' h => ⟨h.1,hv.trans (h.2.mono (by have:=hv.size;rwa [World.size_alloc] at this))⟩) ?_;refine wqk (.bool V) ?_;simp only [pu,pn,pv,pw,px];refine wqnil (fun v hv => ?_);have BV:=hide (HB.out v hv);clear hv KH CO HB
 go_wp2
 go_ret
 exact ⟨rfl,BV.out⟩
def Bl.prn (L : List Bl) (D : List (Int × Int)) : List Bl:=L.filter (fun x => !ovr D x.n x.h x.l)
theorem Bl.prune_any (L : List Bl) (D : List (Int × Int)) (a : Option Addr) (vn vc n g B : Nat) (w : World) (hn : L.length = n) (h : OwnY yBlV B w (.slice (some ⟨g,0,none⟩) n n) L) (hB : B ≤ w.heap.size) (hD : SlY yD w a vn vc D) (hDg : ∀ z,a = some z → D ≠ [] → z.block ≠ g) :
  Calls Tryz.prog 101 #[.slice (some ⟨g,0,none⟩) n n,.slice a vn vc] w fun e w' => ∃ m : Nat,e = .returned (.slice (some ⟨g,0,none⟩) m n)∧OwnY yBlV B w' (.slice (some ⟨g,0,none⟩) m n) (Bl.prn L D)∧Below B w w':=by
 have hgl : g < w.heap.size:=by
  obtain ⟨_,_,ee,_,_,_,h4⟩:=h.form
  injection ee with ee
  obtain ⟨g',e2,_,h5⟩:=h4 _ ee.symm
  cases e2
  exact h5
 have b1 : Below w.heap.size w (w.alloc (.cells #[.slice a vn vc] 27)):=(Below.refl _ w).alloc LR _;have O1:=h.alloc (.cells #[.slice a vn vc] 27);have cd:=Bl.delete_any (fun x => ovr D x.n x.h x.l) 137 #[.pointer (some ⟨w.heap.size,0,none⟩)] Bl.f60 L n g B (w.alloc (.cells #[.slice a vn vc] 27)) hn O1 (by simp;omega) (fun W x hU => Bl.over_any D x a vn vc w.heap.size W (by have:=hU.size;simp at this;omega) ((hU.cell (p:=⟨w.heap.size,0,none⟩) (by simp) (by show ¬ (w.heap.size = g);omega)).trans (by simp)) ((hD.later b1).upd hU (fun z hz hne => hDg z hz hne)));have CD:=hide cd;have B1:=hide b1;clear cd b1 O1 h hD hDg
 go_enter Tryz.func101,Tryz.ntmps101
 go_wp2_with fail
 refine CD.out.mono ?_;rintro e w2 ⟨m,rfl,o2,b2⟩;have O2:=hide o2;clear o2 CD
 dsimp only
 go_wp2
 go_ret
 exact ⟨m,rfl,O2.out,(B1.out.mono hB).trans b2⟩
theorem Bl.Prune_any (L : List Bl) (D : List (Int × Int)) (a av : Option Addr) (n c vn vc : Nat) (w : World) (h : SlY yBlA w a n c L) (hD : SlY yD w av vn vc D) (hlogs : ∀ x ∈ L,x.In w) (hm : n * 64 ≤ 281474976710656) :
  Calls Tryz.prog 62 #[.slice a n c,.slice av vn vc] w fun e w' => ∃ v R,e = .returned v∧OwnY yBlA w.heap.size w' v R∧Bl.Tolds w.heap.size w' (Bl.prn L D) R∧Below w.heap.size w w':=by
 have hln:=h.len;have ch:=hide (Bl.hold_any L a n c w h hm);have HD:=hide hD;have HI:=hide hlogs
 have HL : Hid ((Bl.prn L D).length * 64 ≤ 281474976710656):=by
  show _ ≤ _
  have h1 : (Bl.prn L D).length ≤ n:=by rw [← hln];exact List.length_filter_le _ _
  have h2:=Nat.mul_le_mul_right 64 h1
  omega
 clear h hD hlogs
 go_enter Tryz.func62,Tryz.ntmps62
 go_wp2_with fail
 refine ch.out.mono ?_;rintro e w1 ⟨rfl,o1,b1⟩;have z1:=b1.size
 have cp:=hide (Bl.prune_any L D av vn vc n w.heap.size w.heap.size w1 hln o1 z1 (HD.out.later b1) (fun z hz hne => by
  rcases HD.out.at_ z hz with e | ⟨q,o,rfl,hq,_⟩
  ·exact absurd e hne
  ·show q ≠ w.heap.size
   omega))
 clear ch o1
 dsimp only
 go_wp2_with fail
 refine cp.out.mono ?_;rintro e w2 ⟨m,rfl,o2,b2⟩;have s2:=o2.sl' kBlV;have hm2:=s2.len;have B2:=hide (b1.trans b2);have z2:=b2.size;have ct:=hide (Bl.tell_any (Bl.prn L D) _ m n w2 s2 (by rw [← hm2];exact HL.out) (fun x hx => (HI.out x (List.mem_filter.1 hx).1).later B2.out));clear cp o2 s2 b1 b2
 dsimp only
 go_wp2_with fail
 refine ct.out.mono ?_;rintro e w3 ⟨rfl,⟨R3,o3,t3⟩,b3⟩;have O3:=hide (o3.low (B':=w.heap.size) (by omega));have T3:=hide (t3.low (B':=w.heap.size) (by omega));have B3:=hide (B2.out.trans (b3.mono (by omega)));clear ct o3 b3 t3
 dsimp only
 go_wp2
 go_ret
 exact ⟨_,R3,rfl,O3.out,T3.out,B3.out⟩
theorem An.delete_any (p : An → Bool) (f : Nat) (lb : Array Value) (eg : ∀ args w,(callFunc f args).run Tryz.prog w = .ok (.enter f args) w) (L : List An) (n g B : Nat) (w : World) (hn : L.length = n) (h : OwnY yAnV B w (.slice (some ⟨g,0,none⟩) n n) L) (hB : B ≤ w.heap.size)
  (hp : ∀ (W : World) (x : An),Upd (· = g) w W → Calls Tryz.prog f (#[x.val] ++ lb) W fun e w' => e = .returned (.bool (p x))∧Below W.heap.size W w') :
  Calls Tryz.prog 139 #[.slice (some ⟨g,0,none⟩) n n,.func (.func f) #[] lb] w fun e w' => ∃ m : Nat,e = .returned (.slice (some ⟨g,0,none⟩) m n)∧OwnY yAnV B w' (.slice (some ⟨g,0,none⟩) m n) (L.filter (fun x => !p x))∧Below B w w':=by
 have hgb : B ≤ g∧g < w.heap.size:=by
  obtain ⟨_,_,ee,_,_,_,h4⟩:=h.form
  injection ee with ee
  obtain ⟨g',e2,h6,h5⟩:=h4 _ ee.symm
  cases e2
  exact ⟨h6,h5⟩
 have hnm : n ≤ 9223372036854775807:=by have:=(h.sl' kAnV).max;unfold maxLen at this;omega
 have O:=hide h;have HN:=hide hn;have HP:=hide hp;have CI:=hide (An.index_any p f lb eg L (some ⟨g,0,none⟩) n n w (h.sl' kAnV) (fun W x hW => (hp W x (Upd.of_below hW)).mono fun e w' hq => ⟨hq.1,hW.trans (hq.2.mono hW.size)⟩));clear h hn hp
 cases hf : L.findIdx? p with
 | none =>
  have hix : ix p L = -1:=by unfold ix;rw [hf]
  have hfl : Hid (L.filter (fun x => !p x) = L):=by
   show _ = _
   rw [List.filter_eq_self];intro x hx;have:=(List.findIdx?_eq_none_iff.1 hf) x hx
   simp [this]
  rw [hix] at CI;clear hf hix
  go_enter Tryz.func139,Tryz.ntmps139
  go_wp2_with fail
  refine CI.out.mono ?_;rintro e w1 ⟨rfl,b1⟩;have O1:=hide (O.out.grow b1);clear CI
  dsimp only
  go_wp2
  go_ret
  exact ⟨n,rfl,by rw [hfl.out];exact O1.out,b1.mono hB⟩
 | some i0 =>
  have hix : ix p L = (i0 : Int):=by unfold ix;rw [hf]
  obtain ⟨hil,hpi,hno⟩:=List.findIdx?_eq_some_iff_getElem.1 hf
  have hin : i0 < n:=by rw [← HN.out];exact hil
  have hst : Hid (L.take i0 = (L.take (i0 + 1)).filter (fun x => !p x)):=by
   show _ = _
   rw [List.take_add_one,List.getElem?_eq_getElem hil,Option.toList_some,List.filter_append,List.filter_cons,hpi];simp only [Bool.not_true,Bool.false_eq_true,if_false,List.filter_nil,List.append_nil]
   symm
   rw [List.filter_eq_self];intro x hx;obtain ⟨j,hj,rfl⟩:=List.mem_iff_getElem.1 hx;rw [List.length_take] at hj;have:=hno j (by omega);rw [List.getElem_take]
   simpa using this
  rw [hix] at CI;clear hf hix hno hpi
  have hm1 : ((i0 : Int) == -1) = false:=by rw [beq_eq_false_iff_ne];omega
  have hw1 : IntKind.i64.wrap ((i0 : Int) + 1) = (i0 : Int) + 1:=by rw [IntKind.wrap_i64];omega
  go_enter Tryz.func139,Tryz.ntmps139
  go_wp2_with fail
  refine CI.out.mono ?_;rintro e w1 ⟨rfl,b1⟩;have O1:=hide (O.out.grow b1);clear CI O
  dsimp only
  go_wp2_with fail
  go_loopw [6,5] (fun jj ii wr => ∃ (i j : Nat) (XX : List An),ii = .int .i64 (i : Int)∧jj = .int .i64 (j : Int)∧i < j∧j ≤ n∧Hid (OwnY yAnV B wr (.slice (some ⟨g,0,none⟩) n n) XX)∧Hid (XX.take i = (L.take j).filter (fun x => !p x)∧XX.drop j = L.drop j)∧Hid (Upd (· = g) w wr)) (fun jj _ _ => n - (intOf jj).toNat)
  case atStart => exact ⟨i0,i0 + 1,L,rfl,by go_num,by omega,by omega,O1,⟨hst.out,rfl⟩,Upd.of_below b1⟩
  case round =>
   clear b1 O1 hst;obtain ⟨i,j,XX,rfl,rfl,hij,hj,hO,hX,hU⟩:=hrel;have hXl : Hid (XX.length = n):=(hO.out.sl' kAnV).len;have hUs:=hU.out.size
   by_cases hlt : j < n
   ·have hjl : j < L.length:=by rw [HN.out];exact hlt
    have hgx : XX[j]? = some L[j]:=by
     have h1 : (XX.drop j)[0]? = (L.drop j)[0]?:=by rw [hX.out.2]
     rw [List.getElem?_drop,List.getElem?_drop,Nat.add_zero,List.getElem?_eq_getElem hjl] at h1
     exact h1
    obtain ⟨q,o,ea,hq,y0,y1,y2,y3,y4,y5⟩:=(hO.out.sl' kAnV).AnV hgx
    cases ea
    simp only [Nat.zero_add] at y0 y1 y2 y3 y4 y5
    have hcall:=fun W hW => HP.out W L[j] hW
    have hskip : Hid (p L[j] = true → XX.take i = (L.take (j + 1)).filter (fun x => !p x)):=fun hpx => by
     rw [hX.out.1,List.take_add_one,List.getElem?_eq_getElem hjl,Option.toList_some,List.filter_append,List.filter_cons,hpx]
     simp
    have hkeep : Hid (p L[j] = false → (XX.set i L[j]).take (i + 1) = (L.take (j + 1)).filter (fun x => !p x)):=fun hpx => by
     have hi2 : i < XX.length:=by rw [hXl.out];omega
     rw [List.take_add_one,List.getElem?_set_self hi2,Option.toList_some,List.take_set_of_le LR,hX.out.1,List.take_add_one,List.getElem?_eq_getElem hjl,Option.toList_some,List.filter_append,List.filter_cons,hpx]
     simp
    have hdrop : Hid (XX.drop (j + 1) = L.drop (j + 1)∧∀ x,(XX.set i x).drop (j + 1) = L.drop (j + 1)):=by
     have h1 : XX.drop (j + 1) = L.drop (j + 1):=by
      rw [← List.drop_drop,← List.drop_drop,hX.out.2]
     exact ⟨h1,fun x => by rw [List.drop_set_of_lt (by omega)];exact h1⟩
    have hgi : Hid (XX[i]? = some (XX[i]'(by rw [hXl.out];omega))):=List.getElem?_eq_getElem _;clear hgx hX
    generalize L[j] = x at *
    unfold An.val at hcall
    have bA : Below wr.heap.size wr (wr.alloc (.cells #[.int .i64 x.n,.int .u64 x.h,.int .u64 x.l,.int .i64 x.v,.int .i64 x.c,.slice x.s.a x.s.D.length x.s.c] 165)):=(Below.refl _ wr).alloc LR _;have UA:=hide (hU.out.trans (Upd.of_below bA));have OA:=hide (hO.out.alloc (.cells #[.int .i64 x.n,.int .u64 x.h,.int .u64 x.l,.int .i64 x.v,.int .i64 x.c,.slice x.s.a x.s.D.length x.s.c] 165));have hcl:=hide (hcall _ UA.out);clear hO hU bA hcall
    cases hpx : p x with
    | true =>
     have ht:=hide (hskip.out hpx);clear hskip hkeep
     go_wp2_with (go_at_fn f;refine (hpx ▸ hcl.out).mono ?_;rintro e w2 ⟨rfl,b2⟩)
     go_round
     case rel => exact ⟨i,j + 1,XX,rfl,by go_num,by omega,by omega,OA.out.grow b2,⟨ht.out,hdrop.out.1⟩,UA.out.trans (Upd.of_below b2)⟩
     case measure => simp [intOf];omega
    | false =>
     have ht:=hide (hkeep.out hpx);clear hskip hkeep
     generalize hXi : (XX[i]'(by rw [hXl.out];omega)) = xi at hgi
     clear hXi
     have hii : (i : Int) < (n : Int):=by omega
     go_wp2_with (first
      | (go_at_fn f;refine (hpx ▸ hcl.out).mono ?_;rintro e w2 ⟨rfl,b2⟩;have O2:=hide (OA.out.grow b2);have U2:=hide (UA.out.trans (Upd.of_below b2));have z2:=b2.size;have hbx:=x.box wr w2 (by simpa using b2);obtain ⟨z0,z1,z2,z3,z4,z5⟩:=hbx;clear b2)
      | (refine storeY kAnV _ rfl 165 (.tmp 33) (.tmp 32) rfl B g n n XX i 0 xi x _ rfl rfl hgi.out (by kernel_rfl) (by exact (by decide : 6 ≤ 6)) rfl O2.out ?_;intro w3 o3 u3 z3;have O3:=hide o3;have U3:=hide (U2.out.trans u3);clear o3 u3)
      | go_in)
     go_round
     case rel => exact ⟨i + 1,j + 1,XX.set i x,by go_num,by go_num,by omega,by omega,O3,⟨ht.out,hdrop.out.2 x⟩,U3⟩
     case measure => simp [intOf];omega
   ·obtain rfl : j = n:=by omega
    have hii : (i : Int) ≤ (j : Int):=by omega
    have hi1 : ¬ (j = i):=by omega
    go_wp2_with (refine clearY kAnV _ rfl (.tmp 38) rfl B g i (j - i) j j (j - i) XX rfl hO.out (by omega) (by omega) ?zk)
    intro w2 o2 u2 z2;have O2:=o2.pre kAnV i (by omega)
    have e1 : (Go.Proofs.YtpcgnjpodnebpaaGreatDoor.put XX i (List.replicate (j - i) yAnV.z)).take i = L.filter (fun x => !p x):=by
     have hl : (XX.take i).length = i:=by rw [List.length_take,hXl.out];omega
     unfold Go.Proofs.YtpcgnjpodnebpaaGreatDoor.put
     rw [List.append_assoc,List.take_append_of_le_length (by omega),List.take_of_length_le (by omega),hX.out.1,List.take_of_length_le (by rw [HN.out];exact LR)]
    rw [e1] at O2;have O3:=hide O2;have U3:=hide (hU.out.trans u2);clear o2 u2 O2 e1 hO hX
    go_wp2
    go_ret
    exact ⟨i,rfl,O3.out,U3.out.below hB (fun k e => by subst e;exact hgb.1)⟩
theorem An.f60 (args : Array Value) (w : World) : (callFunc 140 args).run Tryz.prog w = .ok (.enter 140 args) w:=enters_of Tryz.func140 (by kernel_rfl) rfl args w
theorem An.over_any (D : List (Int × Int)) (x : An) (a : Option Addr) (n c b : Nat) (w : World) (hb : b < w.heap.size) (hc : w.cell? ⟨b,0,none⟩ = some (.slice a n c)) (hD : SlY yD w a n c D) : Calls Tryz.prog 140 #[x.val,.pointer (some ⟨b,0,none⟩)] w fun e w' => e = .returned (.bool (ovr D x.n x.h x.l))∧Below w.heap.size w w':=by
 have hbW : b ≠ w.heap.size:=by omega
 have HB : Hid (∀ v,Below (w.heap.size + 1) (w.alloc (.cells #[.int .i64 x.n,.int .u64 x.h,.int .u64 x.l,.int .i64 x.v,.int .i64 x.c,.slice x.s.a x.s.D.length x.s.c] 165)) v → Below w.heap.size w v):=fun v hv => ((Below.refl _ w).alloc LR _).trans (hv.mono (by omega))
 have KH : Hid (∀ v,Below (w.heap.size + 1) (w.alloc (.cells #[.int .i64 x.n,.int .u64 x.h,.int .u64 x.l,.int .i64 x.v,.int .i64 x.c,.slice x.s.a x.s.D.length x.s.c] 165)) v → (v.cell? ⟨w.heap.size,0,none⟩ = some (.int .i64 x.n)∧v.cell? ⟨w.heap.size,1,none⟩ = some (.int .u64 x.h)∧v.cell? ⟨w.heap.size,2,none⟩ = some (.int .u64 x.l)∧v.cell? ⟨w.heap.size,3,none⟩ = some (.int .i64 x.v)∧v.cell? ⟨w.heap.size,4,none⟩ = some (.int .i64 x.c)∧v.cell? ⟨w.heap.size,5,none⟩ = some (.slice x.s.a x.s.D.length x.s.c))∧v.cell? ⟨b,0,none⟩ = some (.slice a n c)):=fun v hv => ⟨x.box w v hv,((HB.out v hv).cell (p:=⟨b,0,none⟩) hb).trans hc⟩
 have CO:=hide (fun W (hW : Below w.heap.size w W) => isover_any D a n c x.n x.h x.l W (hD.later hW))
 generalize ovr D x.n x.h x.l = V at *
 clear hc hD
 show Calls Tryz.prog 140 #[.agg #[.int .i64 x.n,.int .u64 x.h,.int .u64 x.l,.int .i64 x.v,.int .i64 x.c,.slice x.s.a x.s.D.length x.s.c],.pointer (some ⟨b,0,none⟩)] w _
 go_enter Tryz.func140,Tryz.ntmps140
 go_wp2_with fail
 refine region_q9 (C:=fun v => Below (w.heap.size + 1) (w.alloc (.cells #[.int .i64 x.n,.int .u64 x.h,.int .u64 x.l,.int .i64 x.v,.int .i64 x.c,.slice x.s.a x.s.D.length x.s.c] 165)) v) (by kernel_rfl) (by kernel_rfl) BR.drew ?_;refine wqv (u:=.slice a n c) (by kernel_rfl) (fun v hv => by obtain ⟨_,y0⟩:=KH.out v hv;go_simp) ?_;simp only [pu,pn,pv,pw,px];refine wqv (u:=x.val) (by kernel_rfl) (fun v hv => by obtain ⟨⟨y0,y1,y2,y3,y4,y5⟩,_⟩:=KH.out v hv;go_simp;rfl) ?_;refine wqk (.iface 165 x.val) ?_;simp only [pu,pn,pv,pw,px];refine wqi (fid:=183) (args:=#[x.val]) (AS:=#[]) (V:=.iface 165 x.val) (u:=.int .i64 x.n) (by kernel_rfl) _ _ rfl (by kernel_rfl) (by kernel_rfl) (fun v => x.ifnode v) (fun v hv => (x.node_any v).mono fun e w' h => ⟨h.1,hv.trans (h.2.mono (by have:=hv.size;rwa [World.size_alloc] at this))⟩) ?_;simp only [pu,pn,pv,pw,px];refine wqv (u:=x.val) (by kernel_rfl) (fun v hv => by obtain ⟨⟨y0,y1,y2,y3,y4,y5⟩,_⟩:=KH.out v hv;go_simp;rfl) ?_;refine wqk (.iface 165 x.val) ?_;simp only [pu,pn,pv,pw,px];refine wqi (fid:=181) (args:=#[x.val]) (AS:=#[]) (V:=.iface 165 x.val) (u:=.agg #[.int .u64 x.h,.int .u64 x.l]) (by kernel_rfl) _ _ rfl (by kernel_rfl) (by kernel_rfl) (fun v => x.ifdraw v) (fun v hv => (x.draw_any v).mono fun e w' h => ⟨h.1,hv.trans (h.2.mono (by have:=hv.size;rwa [World.size_alloc] at this))⟩) ?_;simp only [pu,pn,pv,pw,px];refine wqc (fid:=133) (args:=#[.slice a n c,.int .i64 x.n,.agg #[.int .u64 x.h,.int .u64 x.l]]) (u:=.bool V) (by kernel_rfl) (fun v => by kernel_rfl) (fun v hv => (CO.out v (HB.out v hv)).mono fun e w' h => ⟨h.1,hv.trans (h.2.mono (by have:=hv.size;rwa [World.size_alloc] at this))⟩) ?_;refine wqk (.bool V) ?_;simp only [pu,pn,pv,pw,px];refine wqnil (fun v hv => ?_);have BV:=hide (HB.out v hv);clear hv KH CO HB
 go_wp2
 go_ret
 exact ⟨rfl,BV.out⟩
def An.prn (L : List An) (D : List (Int × Int)) : List An:=L.filter (fun x => !ovr D x.n x.h x.l)
theorem An.prune_any (L : List An) (D : List (Int × Int)) (a : Option Addr) (vn vc n g B : Nat) (w : World) (hn : L.length = n) (h : OwnY yAnV B w (.slice (some ⟨g,0,none⟩) n n) L) (hB : B ≤ w.heap.size) (hD : SlY yD w a vn vc D) (hDg : ∀ z,a = some z → D ≠ [] → z.block ≠ g) :
  Calls Tryz.prog 106 #[.slice (some ⟨g,0,none⟩) n n,.slice a vn vc] w fun e w' => ∃ m : Nat,e = .returned (.slice (some ⟨g,0,none⟩) m n)∧OwnY yAnV B w' (.slice (some ⟨g,0,none⟩) m n) (An.prn L D)∧Below B w w':=by
 have hgl : g < w.heap.size:=by
  obtain ⟨_,_,ee,_,_,_,h4⟩:=h.form
  injection ee with ee
  obtain ⟨g',e2,_,h5⟩:=h4 _ ee.symm
  cases e2
  exact h5
 have b1 : Below w.heap.size w (w.alloc (.cells #[.slice a vn vc] 27)):=(Below.refl _ w).alloc LR _;have O1:=h.alloc (.cells #[.slice a vn vc] 27);have cd:=An.delete_any (fun x => ovr D x.n x.h x.l) 140 #[.pointer (some ⟨w.heap.size,0,none⟩)] An.f60 L n g B (w.alloc (.cells #[.slice a vn vc] 27)) hn O1 (by simp;omega) (fun W x hU => An.over_any D x a vn vc w.heap.size W (by have:=hU.size;simp at this;omega) ((hU.cell (p:=⟨w.heap.size,0,none⟩) (by simp) (by show ¬ (w.heap.size = g);omega)).trans (by simp)) ((hD.later b1).upd hU (fun z hz hne => hDg z hz hne)));have CD:=hide cd;have B1:=hide b1;clear cd b1 O1 h hD hDg
 go_enter Tryz.func106,Tryz.ntmps106
 go_wp2_with fail
 refine CD.out.mono ?_;rintro e w2 ⟨m,rfl,o2,b2⟩;have O2:=hide o2;clear o2 CD
 dsimp only
 go_wp2
 go_ret
 exact ⟨m,rfl,O2.out,(B1.out.mono hB).trans b2⟩
theorem An.Prune_any (L : List An) (D : List (Int × Int)) (a av : Option Addr) (n c vn vc : Nat) (w : World) (h : SlY yAnA w a n c L) (hD : SlY yD w av vn vc D) (hlogs : ∀ x ∈ L,x.In w) (hm : n * 64 ≤ 281474976710656) :
  Calls Tryz.prog 63 #[.slice a n c,.slice av vn vc] w fun e w' => ∃ v R,e = .returned v∧OwnY yAnA w.heap.size w' v R∧An.Tolds w.heap.size w' (An.prn L D) R∧Below w.heap.size w w':=by
 have hln:=h.len;have ch:=hide (An.hold_any L a n c w h hm);have HD:=hide hD;have HI:=hide hlogs
 have HL : Hid ((An.prn L D).length * 64 ≤ 281474976710656):=by
  show _ ≤ _
  have h1 : (An.prn L D).length ≤ n:=by rw [← hln];exact List.length_filter_le _ _
  have h2:=Nat.mul_le_mul_right 64 h1
  omega
 clear h hD hlogs
 go_enter Tryz.func63,Tryz.ntmps63
 go_wp2_with fail
 refine ch.out.mono ?_;rintro e w1 ⟨rfl,o1,b1⟩;have z1:=b1.size
 have cp:=hide (An.prune_any L D av vn vc n w.heap.size w.heap.size w1 hln o1 z1 (HD.out.later b1) (fun z hz hne => by
  rcases HD.out.at_ z hz with e | ⟨q,o,rfl,hq,_⟩
  ·exact absurd e hne
  ·show q ≠ w.heap.size
   omega))
 clear ch o1
 dsimp only
 go_wp2_with fail
 refine cp.out.mono ?_;rintro e w2 ⟨m,rfl,o2,b2⟩;have s2:=o2.sl' kAnV;have hm2:=s2.len;have B2:=hide (b1.trans b2);have z2:=b2.size;have ct:=hide (An.tell_any (An.prn L D) _ m n w2 s2 (by rw [← hm2];exact HL.out) (fun x hx => (HI.out x (List.mem_filter.1 hx).1).later B2.out));clear cp o2 s2 b1 b2
 dsimp only
 go_wp2_with fail
 refine ct.out.mono ?_;rintro e w3 ⟨rfl,⟨R3,o3,t3⟩,b3⟩;have O3:=hide (o3.low (B':=w.heap.size) (by omega));have T3:=hide (t3.low (B':=w.heap.size) (by omega));have B3:=hide (B2.out.trans (b3.mono (by omega)));clear ct o3 b3 t3
 dsimp only
 go_wp2
 go_ret
 exact ⟨_,R3,rfl,O3.out,T3.out,B3.out⟩
def Bl.Like (x y : Bl) : Prop:=y.n = x.n∧y.h = x.h∧y.l = x.l∧y.v = x.v∧y.c = x.c∧y.s.D = x.s.D
theorem Bl.Told.like {B : Nat} {w : World} {x y : Bl} (h : Bl.Told B w x y) : Bl.Like x y:=by
 obtain ⟨h1,h2,h3,h4,h5,h6⟩:=h.D
 exact ⟨h2,h3,h4,h5,h6,h1⟩
theorem Bl.same_any (L R : List Bl) (a b : Option Addr) (n c c2 : Nat) (w : World) (hL : SlY yBlA w a n c L) (hR : SlY yBlA w b n c2 R) (hk : ∀ (i : Nat) (x y : Bl),L[i]? = some x → R[i]? = some y → Bl.Like x y) (iL : ∀ x ∈ L,x.In w) (iR : ∀ x ∈ R,x.In w) :
  Calls Tryz.prog 37 #[.slice a n c,.slice b n c2] w fun e w' => e = .returned (.bool true)∧∃ k,w' = w.drewN k:=by
 have m1:=hL.max;have m2:=hR.max;have p1:=hL.cap;have p2:=hR.cap
 unfold maxLen at m1 m2
 have HL:=hide hL;have HR:=hide hR;have N1:=hide hL.len;have N2:=hide hR.len;have HK:=hide hk;have I1:=hide iL;have I2:=hide iR;clear hL hR hk iL iR
 go_enter Tryz.func37,Tryz.ntmps37
 go_wp2
 go_loopw [5] (fun i wr => ∃ (j d : Nat),i = .int .i64 (j : Int)∧j ≤ n∧wr = w.drewN d) (fun i _ => n - (intOf i).toNat)
 case atStart => exact ⟨0,0,rfl,Nat.zero_le _,rfl⟩
 case round =>
  obtain ⟨j,d,rfl,hj,rfl⟩:=hrel
  by_cases hlt : j < n
  ·have h1 : j < L.length:=by rw [N1.out];exact hlt
   have h2 : j < R.length:=by rw [N2.out];exact hlt
   have g1 : L[j]? = some L[j]:=List.getElem?_eq_getElem h1;have g2 : R[j]? = some R[j]:=List.getElem?_eq_getElem h2;obtain ⟨q,o,rfl,hq,a0,a1,a2,a3,a4,a5⟩:=HL.out.BlA g1;obtain ⟨q2,o2,rfl,hq2,b0,b1,b2,b3,b4,b5⟩:=HR.out.BlA g2;obtain ⟨e0,e1,e2,e3,e4,e5⟩:=HK.out j _ _ g1 g2;have i1:=I1.out _ (List.getElem_mem h1);have i2:=I2.out _ (List.getElem_mem h2);clear g1 g2
   generalize L[j] = x at *
   generalize R[j] = y at *
   obtain ⟨yn,yh,yl,yv,yc,ys⟩:=y
   dsimp only at e0 e1 e2 e3 e4 e5 b0 b1 b2 b3 b4 b5
   subst e0 e1 e2 e3 e4
   have CS : Hid (∀ v,(∃ k,v = w.drewN k) → Calls Tryz.prog 13 #[.slice x.s.a x.s.D.length x.s.c,.slice ys.a x.s.D.length ys.c] v fun e w' => e = .returned (.bool true)∧∃ k,w' = w.drewN k):=fun v hv => by
    obtain ⟨k,rfl⟩:=hv;have i1':=i1.1.drewN k
    have i2' : SlY yE (w.drewN k) ys.a x.s.D.length ys.c x.s.D:=by
     have:=i2.1.drewN k
     dsimp only at this
     rw [e5] at this
     exact this
    refine (sameentsB x.s.D x.s.D x.s.a ys.a x.s.D.length x.s.D.length x.s.c ys.c (w.drewN k) i1' i2').mono fun e w' h => ?_
    obtain ⟨rfl,k2,rfl⟩:=h
    exact ⟨by simp,k + k2,by simp only [World.drewN,Nat.add_assoc]⟩
   rw [e5] at b5
   have KC : Hid (∀ v,(∃ k,v = w.drewN k) → (v.cell? ⟨q,o + j * 6,none⟩ = some (.int .i64 x.n)∧v.cell? ⟨q,o + j * 6 + 1,none⟩ = some (.int .u64 x.h)∧v.cell? ⟨q,o + j * 6 + 2,none⟩ = some (.int .u64 x.l)∧v.cell? ⟨q,o + j * 6 + 3,none⟩ = some (.int .i64 x.v)∧v.cell? ⟨q,o + j * 6 + 4,none⟩ = some (.int .i64 x.c)∧v.cell? ⟨q,o + j * 6 + 5,none⟩ = some (.slice x.s.a x.s.D.length x.s.c))∧(v.cell? ⟨q2,o2 + j * 6,none⟩ = some (.int .i64 x.n)∧v.cell? ⟨q2,o2 + j * 6 + 1,none⟩ = some (.int .u64 x.h)∧v.cell? ⟨q2,o2 + j * 6 + 2,none⟩ = some (.int .u64 x.l)∧v.cell? ⟨q2,o2 + j * 6 + 3,none⟩ = some (.int .i64 x.v)∧v.cell? ⟨q2,o2 + j * 6 + 4,none⟩ = some (.int .i64 x.c)∧v.cell? ⟨q2,o2 + j * 6 + 5,none⟩ = some (.slice ys.a x.s.D.length ys.c))):=fun v hv => by
    obtain ⟨k,rfl⟩:=hv
    exact ⟨⟨a0,a1,a2,a3,a4,a5⟩,⟨b0,b1,b2,b3,b4,b5⟩⟩
   clear i1 i2 a0 a1 a2 a3 a4 a5 b0 b1 b2 b3 b4 b5 e5
   go_wp2_with fail
   refine region_q9 (C:=fun v => ∃ k,v = w.drewN k) (by kernel_rfl) (by kernel_rfl) ⟨d + 1,rfl⟩ ?_;refine wqk (.slice (some ⟨q,o,none⟩) n c) ?_;refine wqk (.int .i64 (j : Int)) ?_;simp only [pu,pn,pv,pw,px];refine wqg (.pointer (some ⟨q,o + j * 6,none⟩)) ?_;simp only [pu,pn,pv,pw,px];refine wqg (.pointer (some ⟨q,o + j * 6,none⟩)) ?_;simp only [pu,pn,pv,pw,px];refine wqv (u:=.int .i64 x.n) (by kernel_rfl) (fun v hv => by obtain ⟨⟨y0,y1,y2,y3,y4,y5⟩,⟨z0,z1,z2,z3,z4,z5⟩⟩:=KC.out v hv;go_simp) ?_;refine wqk (.slice (some ⟨q2,o2,none⟩) n c2) ?_;refine wqk (.int .i64 (j : Int)) ?_;simp only [pu,pn,pv,pw,px];refine wqg (.pointer (some ⟨q2,o2 + j * 6,none⟩)) ?_;simp only [pu,pn,pv,pw,px];refine wqg (.pointer (some ⟨q2,o2 + j * 6,none⟩)) ?_;simp only [pu,pn,pv,pw,px];refine wqv (u:=.int .i64 x.n) (by kernel_rfl) (fun v hv => by obtain ⟨⟨y0,y1,y2,y3,y4,y5⟩,⟨z0,z1,z2,z3,z4,z5⟩⟩:=KC.out v hv;go_simp) ?_;simp only [pu,pn,pv,pw,px];refine wqg (.bool false) ?_;refine wqk (.bool false) ?_;refine wqk (.slice (some ⟨q,o,none⟩) n c) ?_;refine wqk (.int .i64 (j : Int)) ?_;simp only [pu,pn,pv,pw,px];refine wqg (.pointer (some ⟨q,o + j * 6,none⟩)) ?_;simp only [pu,pn,pv,pw,px];refine wqg (.pointer (some ⟨q,o + j * 6 + 1,none⟩)) ?_;simp only [pu,pn,pv,pw,px];refine wqv (u:=.agg #[.int .u64 x.h,.int .u64 x.l]) (by kernel_rfl) (fun v hv => by obtain ⟨⟨y0,y1,y2,y3,y4,y5⟩,⟨z0,z1,z2,z3,z4,z5⟩⟩:=KC.out v hv;go_simp) ?_;refine wqk (.slice (some ⟨q2,o2,none⟩) n c2) ?_;refine wqk (.int .i64 (j : Int)) ?_;simp only [pu,pn,pv,pw,px];refine wqg (.pointer (some ⟨q2,o2 + j * 6,none⟩)) ?_;simp only [pu,pn,pv,pw,px];refine wqg (.pointer (some ⟨q2,o2 + j * 6 + 1,none⟩)) ?_;simp only [pu,pn,pv,pw,px];refine wqv (u:=.agg #[.int .u64 x.h,.int .u64 x.l]) (by kernel_rfl) (fun v hv => by obtain ⟨⟨y0,y1,y2,y3,y4,y5⟩,⟨z0,z1,z2,z3,z4,z5⟩⟩:=KC.out v hv;go_simp) ?_;simp only [pu,pn,pv,pw,px];refine wqg (.bool false) ?_;refine wqk (.bool false) ?_;refine wqk (.bool false) ?_;refine wqk (.slice (some ⟨q,o,none⟩) n c) ?_;refine wqk (.int .i64 (j : Int)) ?_;simp only [pu,pn,pv,pw,px];refine wqg (.pointer (some ⟨q,o + j * 6,none⟩)) ?_;simp only [pu,pn,pv,pw,px];refine wqg (.pointer (some ⟨q,o + j * 6 + 3,none⟩)) ?_;simp only [pu,pn,pv,pw,px];refine wqv (u:=.int .i64 x.v) (by kernel_rfl) (fun v hv => by obtain ⟨⟨y0,y1,y2,y3,y4,y5⟩,⟨z0,z1,z2,z3,z4,z5⟩⟩:=KC.out v hv;go_simp) ?_;refine wqk (.slice (some ⟨q2,o2,none⟩) n c2) ?_;refine wqk (.int .i64 (j : Int)) ?_;simp only [pu,pn,pv,pw,px];refine wqg (.pointer (some ⟨q2,o2 + j * 6,none⟩)) ?_;simp only [pu,pn,pv,pw,px];refine wqg (.pointer (some ⟨q2,o2 + j * 6 + 3,none⟩)) ?_;simp only [pu,pn,pv,pw,px];refine wqv (u:=.int .i64 x.v) (by kernel_rfl) (fun v hv => by obtain ⟨⟨y0,y1,y2,y3,y4,y5⟩,⟨z0,z1,z2,z3,z4,z5⟩⟩:=KC.out v hv;go_simp) ?_;simp only [pu,pn,pv,pw,px];refine wqg (.bool false) ?_;refine wqk (.bool false) ?_;refine wqk (.bool false) ?_;refine wqk (.slice (some ⟨q,o,none⟩) n c) ?_;refine wqk (.int .i64 (j : Int)) ?_;simp only [pu,pn,pv,pw,px];refine wqg (.pointer (some ⟨q,o + j * 6,none⟩)) ?_;simp only [pu,pn,pv,pw,px];refine wqg (.pointer (some ⟨q,o + j * 6 + 4,none⟩)) ?_;simp only [pu,pn,pv,pw,px];refine wqv (u:=.int .i64 x.c) (by kernel_rfl) (fun v hv => by obtain ⟨⟨y0,y1,y2,y3,y4,y5⟩,⟨z0,z1,z2,z3,z4,z5⟩⟩:=KC.out v hv;go_simp) ?_;refine wqk (.slice (some ⟨q2,o2,none⟩) n c2) ?_;refine wqk (.int .i64 (j : Int)) ?_;simp only [pu,pn,pv,pw,px];refine wqg (.pointer (some ⟨q2,o2 + j * 6,none⟩)) ?_;simp only [pu,pn,pv,pw,px];refine wqg (.pointer (some ⟨q2,o2 + j * 6 + 4,none⟩)) ?_;simp only [pu,pn,pv,pw,px];refine wqv (u:=.int .i64 x.c) (by kernel_rfl) (fun v hv => by obtain ⟨⟨y0,y1,y2,y3,y4,y5⟩,⟨z0,z1,z2,z3,z4,z5⟩⟩:=KC.out v hv;go_simp) ?_;simp only [pu,pn,pv,pw,px];refine wqg (.bool false) ?_;refine wqk (.bool false) ?_;refine wqk (.bool false) ?_;refine wqk (.slice (some ⟨q,o,none⟩) n c) ?_;refine wqk (.int .i64 (j : Int)) ?_;simp only [pu,pn,pv,pw,px];refine wqg (.pointer (some ⟨q,o + j * 6,none⟩)) ?_;simp only [pu,pn,pv,pw,px];refine wqg (.pointer (some ⟨q,o + j * 6 + 5,none⟩)) ?_;simp only [pu,pn,pv,pw,px];refine wqv (u:=.slice x.s.a x.s.D.length x.s.c) (by kernel_rfl) (fun v hv => by obtain ⟨⟨y0,y1,y2,y3,y4,y5⟩,⟨z0,z1,z2,z3,z4,z5⟩⟩:=KC.out v hv;go_simp) ?_;refine wqk (.slice (some ⟨q2,o2,none⟩) n c2) ?_;refine wqk (.int .i64 (j : Int)) ?_;simp only [pu,pn,pv,pw,px];refine wqg (.pointer (some ⟨q2,o2 + j * 6,none⟩)) ?_;simp only [pu,pn,pv,pw,px];refine wqg (.pointer (some ⟨q2,o2 + j * 6 + 5,none⟩)) ?_;simp only [pu,pn,pv,pw,px];refine wqv (u:=.slice ys.a x.s.D.length ys.c) (by kernel_rfl) (fun v hv => by obtain ⟨⟨y0,y1,y2,y3,y4,y5⟩,⟨z0,z1,z2,z3,z4,z5⟩⟩:=KC.out v hv;go_simp) ?_;simp only [pu,pn,pv,pw,px];refine wqc (fid:=13) (args:=#[.slice x.s.a x.s.D.length x.s.c,.slice ys.a x.s.D.length ys.c]) (u:=.bool true) (by kernel_rfl) (fun v => by kernel_rfl) (fun v hv => CS.out v hv) ?_;simp only [pu,pn,pv,pw,px];refine wqg (.bool false) ?_;refine wqk (.bool false) ?_;simp only [pu,pn,pv,pw,px];refine wqnil (fun v hv => ?_);obtain ⟨k,rfl⟩:=hv
   go_wp2
   go_round
   case rel => exact ⟨j + 1,k,by go_num,by omega,rfl⟩
   case measure => simp [intOf];omega
  ·obtain rfl : j = n:=by omega
   go_wp2
   go_ret
   exact ⟨rfl,d,rfl⟩
def An.Like (x y : An) : Prop:=y.n = x.n∧y.h = x.h∧y.l = x.l∧y.v = x.v∧y.c = x.c∧y.s.D = x.s.D
theorem An.Told.like {B : Nat} {w : World} {x y : An} (h : An.Told B w x y) : An.Like x y:=by
 obtain ⟨h1,h2,h3,h4,h5,h6⟩:=h.D
 exact ⟨h2,h3,h4,h5,h6,h1⟩
theorem An.same_any (L R : List An) (a b : Option Addr) (n c c2 : Nat) (w : World) (hL : SlY yAnA w a n c L) (hR : SlY yAnA w b n c2 R) (hk : ∀ (i : Nat) (x y : An),L[i]? = some x → R[i]? = some y → An.Like x y) (iL : ∀ x ∈ L,x.In w) (iR : ∀ x ∈ R,x.In w) :
  Calls Tryz.prog 38 #[.slice a n c,.slice b n c2] w fun e w' => e = .returned (.bool true)∧∃ k,w' = w.drewN k:=by
 have m1:=hL.max;have m2:=hR.max;have p1:=hL.cap;have p2:=hR.cap
 unfold maxLen at m1 m2
 have HL:=hide hL;have HR:=hide hR;have N1:=hide hL.len;have N2:=hide hR.len;have HK:=hide hk;have I1:=hide iL;have I2:=hide iR;clear hL hR hk iL iR
 go_enter Tryz.func38,Tryz.ntmps38
 go_wp2
 go_loopw [5] (fun i wr => ∃ (j d : Nat),i = .int .i64 (j : Int)∧j ≤ n∧wr = w.drewN d) (fun i _ => n - (intOf i).toNat)
 case atStart => exact ⟨0,0,rfl,Nat.zero_le _,rfl⟩
 case round =>
  obtain ⟨j,d,rfl,hj,rfl⟩:=hrel
  by_cases hlt : j < n
  ·have h1 : j < L.length:=by rw [N1.out];exact hlt
   have h2 : j < R.length:=by rw [N2.out];exact hlt
   have g1 : L[j]? = some L[j]:=List.getElem?_eq_getElem h1;have g2 : R[j]? = some R[j]:=List.getElem?_eq_getElem h2;obtain ⟨q,o,rfl,hq,a0,a1,a2,a3,a4,a5⟩:=HL.out.AnA g1;obtain ⟨q2,o2,rfl,hq2,b0,b1,b2,b3,b4,b5⟩:=HR.out.AnA g2;obtain ⟨e0,e1,e2,e3,e4,e5⟩:=HK.out j _ _ g1 g2;have i1:=I1.out _ (List.getElem_mem h1);have i2:=I2.out _ (List.getElem_mem h2);clear g1 g2
   generalize L[j] = x at *
   generalize R[j] = y at *
   obtain ⟨yn,yh,yl,yv,yc,ys⟩:=y
   dsimp only at e0 e1 e2 e3 e4 e5 b0 b1 b2 b3 b4 b5
   subst e0 e1 e2 e3 e4
   have CS : Hid (∀ v,(∃ k,v = w.drewN k) → Calls Tryz.prog 13 #[.slice x.s.a x.s.D.length x.s.c,.slice ys.a x.s.D.length ys.c] v fun e w' => e = .returned (.bool true)∧∃ k,w' = w.drewN k):=fun v hv => by
    obtain ⟨k,rfl⟩:=hv;have i1':=i1.1.drewN k
    have i2' : SlY yE (w.drewN k) ys.a x.s.D.length ys.c x.s.D:=by
     have:=i2.1.drewN k
     dsimp only at this
     rw [e5] at this
     exact this
    refine (sameentsB x.s.D x.s.D x.s.a ys.a x.s.D.length x.s.D.length x.s.c ys.c (w.drewN k) i1' i2').mono fun e w' h => ?_
    obtain ⟨rfl,k2,rfl⟩:=h
    exact ⟨by simp,k + k2,by simp only [World.drewN,Nat.add_assoc]⟩
   rw [e5] at b5
   have KC : Hid (∀ v,(∃ k,v = w.drewN k) → (v.cell? ⟨q,o + j * 6,none⟩ = some (.int .i64 x.n)∧v.cell? ⟨q,o + j * 6 + 1,none⟩ = some (.int .u64 x.h)∧v.cell? ⟨q,o + j * 6 + 2,none⟩ = some (.int .u64 x.l)∧v.cell? ⟨q,o + j * 6 + 3,none⟩ = some (.int .i64 x.v)∧v.cell? ⟨q,o + j * 6 + 4,none⟩ = some (.int .i64 x.c)∧v.cell? ⟨q,o + j * 6 + 5,none⟩ = some (.slice x.s.a x.s.D.length x.s.c))∧(v.cell? ⟨q2,o2 + j * 6,none⟩ = some (.int .i64 x.n)∧v.cell? ⟨q2,o2 + j * 6 + 1,none⟩ = some (.int .u64 x.h)∧v.cell? ⟨q2,o2 + j * 6 + 2,none⟩ = some (.int .u64 x.l)∧v.cell? ⟨q2,o2 + j * 6 + 3,none⟩ = some (.int .i64 x.v)∧v.cell? ⟨q2,o2 + j * 6 + 4,none⟩ = some (.int .i64 x.c)∧v.cell? ⟨q2,o2 + j * 6 + 5,none⟩ = some (.slice ys.a x.s.D.length ys.c))):=fun v hv => by
    obtain ⟨k,rfl⟩:=hv
    exact ⟨⟨a0,a1,a2,a3,a4,a5⟩,⟨b0,b1,b2,b3,b4,b5⟩⟩
   clear i1 i2 a0 a1 a2 a3 a4 a5 b0 b1 b2 b3 b4 b5 e5
   go_wp2_with fail
   refine region_q9 (C:=fun v => ∃ k,v = w.drewN k) (by kernel_rfl) (by kernel_rfl) ⟨d + 1,rfl⟩ ?_;refine wqk (.slice (some ⟨q,o,none⟩) n c) ?_;refine wqk (.int .i64 (j : Int)) ?_;simp only [pu,pn,pv,pw,px];refine wqg (.pointer (some ⟨q,o + j * 6,none⟩)) ?_;simp only [pu,pn,pv,pw,px];refine wqg (.pointer (some ⟨q,o + j * 6,none⟩)) ?_;simp only [pu,pn,pv,pw,px];refine wqv (u:=.int .i64 x.n) (by kernel_rfl) (fun v hv => by obtain ⟨⟨y0,y1,y2,y3,y4,y5⟩,⟨z0,z1,z2,z3,z4,z5⟩⟩:=KC.out v hv;go_simp) ?_;refine wqk (.slice (some ⟨q2,o2,none⟩) n c2) ?_;refine wqk (.int .i64 (j : Int)) ?_;simp only [pu,pn,pv,pw,px];refine wqg (.pointer (some ⟨q2,o2 + j * 6,none⟩)) ?_;simp only [pu,pn,pv,pw,px];refine wqg (.pointer (some ⟨q2,o2 + j * 6,none⟩)) ?_;simp only [pu,pn,pv,pw,px];refine wqv (u:=.int .i64 x.n) (by kernel_rfl) (fun v hv => by obtain ⟨⟨y0,y1,y2,y3,y4,y5⟩,⟨z0,z1,z2,z3,z4,z5⟩⟩:=KC.out v hv;go_simp) ?_;simp only [pu,pn,pv,pw,px];refine wqg (.bool false) ?_;refine wqk (.bool false) ?_;refine wqk (.slice (some ⟨q,o,none⟩) n c) ?_;refine wqk (.int .i64 (j : Int)) ?_;simp only [pu,pn,pv,pw,px];refine wqg (.pointer (some ⟨q,o + j * 6,none⟩)) ?_;simp only [pu,pn,pv,pw,px];refine wqg (.pointer (some ⟨q,o + j * 6 + 1,none⟩)) ?_;simp only [pu,pn,pv,pw,px];refine wqv (u:=.agg #[.int .u64 x.h,.int .u64 x.l]) (by kernel_rfl) (fun v hv => by obtain ⟨⟨y0,y1,y2,y3,y4,y5⟩,⟨z0,z1,z2,z3,z4,z5⟩⟩:=KC.out v hv;go_simp) ?_;refine wqk (.slice (some ⟨q2,o2,none⟩) n c2) ?_;refine wqk (.int .i64 (j : Int)) ?_;simp only [pu,pn,pv,pw,px];refine wqg (.pointer (some ⟨q2,o2 + j * 6,none⟩)) ?_;simp only [pu,pn,pv,pw,px];refine wqg (.pointer (some ⟨q2,o2 + j * 6 + 1,none⟩)) ?_;simp only [pu,pn,pv,pw,px];refine wqv (u:=.agg #[.int .u64 x.h,.int .u64 x.l]) (by kernel_rfl) (fun v hv => by obtain ⟨⟨y0,y1,y2,y3,y4,y5⟩,⟨z0,z1,z2,z3,z4,z5⟩⟩:=KC.out v hv;go_simp) ?_;simp only [pu,pn,pv,pw,px];refine wqg (.bool false) ?_;refine wqk (.bool false) ?_;refine wqk (.bool false) ?_;refine wqk (.slice (some ⟨q,o,none⟩) n c) ?_;refine wqk (.int .i64 (j : Int)) ?_;simp only [pu,pn,pv,pw,px];refine wqg (.pointer (some ⟨q,o + j * 6,none⟩)) ?_;simp only [pu,pn,pv,pw,px];refine wqg (.pointer (some ⟨q,o + j * 6 + 3,none⟩)) ?_;simp only [pu,pn,pv,pw,px];refine wqv (u:=.int .i64 x.v) (by kernel_rfl) (fun v hv => by obtain ⟨⟨y0,y1,y2,y3,y4,y5⟩,⟨z0,z1,z2,z3,z4,z5⟩⟩:=KC.out v hv;go_simp) ?_;refine wqk (.slice (some ⟨q2,o2,none⟩) n c2) ?_;refine wqk (.int .i64 (j : Int)) ?_;simp only [pu,pn,pv,pw,px];refine wqg (.pointer (some ⟨q2,o2 + j * 6,none⟩)) ?_;simp only [pu,pn,pv,pw,px];refine wqg (.pointer (some ⟨q2,o2 + j * 6 + 3,none⟩)) ?_;simp only [pu,pn,pv,pw,px];refine wqv (u:=.int .i64 x.v) (by kernel_rfl) (fun v hv => by obtain ⟨⟨y0,y1,y2,y3,y4,y5⟩,⟨z0,z1,z2,z3,z4,z5⟩⟩:=KC.out v hv;go_simp) ?_;simp only [pu,pn,pv,pw,px];refine wqg (.bool false) ?_;refine wqk (.bool false) ?_;refine wqk (.bool false) ?_;refine wqk (.slice (some ⟨q,o,none⟩) n c) ?_;refine wqk (.int .i64 (j : Int)) ?_;simp only [pu,pn,pv,pw,px];refine wqg (.pointer (some ⟨q,o + j * 6,none⟩)) ?_;simp only [pu,pn,pv,pw,px];refine wqg (.pointer (some ⟨q,o + j * 6 + 4,none⟩)) ?_;simp only [pu,pn,pv,pw,px];refine wqv (u:=.int .i64 x.c) (by kernel_rfl) (fun v hv => by obtain ⟨⟨y0,y1,y2,y3,y4,y5⟩,⟨z0,z1,z2,z3,z4,z5⟩⟩:=KC.out v hv;go_simp) ?_;refine wqk (.slice (some ⟨q2,o2,none⟩) n c2) ?_;refine wqk (.int .i64 (j : Int)) ?_;simp only [pu,pn,pv,pw,px];refine wqg (.pointer (some ⟨q2,o2 + j * 6,none⟩)) ?_;simp only [pu,pn,pv,pw,px];refine wqg (.pointer (some ⟨q2,o2 + j * 6 + 4,none⟩)) ?_;simp only [pu,pn,pv,pw,px];refine wqv (u:=.int .i64 x.c) (by kernel_rfl) (fun v hv => by obtain ⟨⟨y0,y1,y2,y3,y4,y5⟩,⟨z0,z1,z2,z3,z4,z5⟩⟩:=KC.out v hv;go_simp) ?_;simp only [pu,pn,pv,pw,px];refine wqg (.bool false) ?_;refine wqk (.bool false) ?_;refine wqk (.bool false) ?_;refine wqk (.slice (some ⟨q,o,none⟩) n c) ?_;refine wqk (.int .i64 (j : Int)) ?_;simp only [pu,pn,pv,pw,px];refine wqg (.pointer (some ⟨q,o + j * 6,none⟩)) ?_;simp only [pu,pn,pv,pw,px];refine wqg (.pointer (some ⟨q,o + j * 6 + 5,none⟩)) ?_;simp only [pu,pn,pv,pw,px];refine wqv (u:=.slice x.s.a x.s.D.length x.s.c) (by kernel_rfl) (fun v hv => by obtain ⟨⟨y0,y1,y2,y3,y4,y5⟩,⟨z0,z1,z2,z3,z4,z5⟩⟩:=KC.out v hv;go_simp) ?_;refine wqk (.slice (some ⟨q2,o2,none⟩) n c2) ?_;refine wqk (.int .i64 (j : Int)) ?_;simp only [pu,pn,pv,pw,px];refine wqg (.pointer (some ⟨q2,o2 + j * 6,none⟩)) ?_;simp only [pu,pn,pv,pw,px];refine wqg (.pointer (some ⟨q2,o2 + j * 6 + 5,none⟩)) ?_;simp only [pu,pn,pv,pw,px];refine wqv (u:=.slice ys.a x.s.D.length ys.c) (by kernel_rfl) (fun v hv => by obtain ⟨⟨y0,y1,y2,y3,y4,y5⟩,⟨z0,z1,z2,z3,z4,z5⟩⟩:=KC.out v hv;go_simp) ?_;simp only [pu,pn,pv,pw,px];refine wqc (fid:=13) (args:=#[.slice x.s.a x.s.D.length x.s.c,.slice ys.a x.s.D.length ys.c]) (u:=.bool true) (by kernel_rfl) (fun v => by kernel_rfl) (fun v hv => CS.out v hv) ?_;simp only [pu,pn,pv,pw,px];refine wqg (.bool false) ?_;refine wqk (.bool false) ?_;simp only [pu,pn,pv,pw,px];refine wqnil (fun v hv => ?_);obtain ⟨k,rfl⟩:=hv
   go_wp2
   go_round
   case rel => exact ⟨j + 1,k,by go_num,by omega,rfl⟩
   case measure => simp [intOf];omega
  ·obtain rfl : j = n:=by omega
   go_wp2
   go_ret
   exact ⟨rfl,d,rfl⟩
end Go.Proofs.YtpcgnjpodnebpaaGreatDoor
